/- l10Nodes, l10Without and WithoutNodes of the model. -/
import Derived.Test.YtneapbggnnndhaaDerC
import Derived.Test.YtneapbggnnndhaaGvInts
namespace Go.Proofs.Ytneapbggnnndhaa
open Go.RowKit Go.BigFrame Go.Deep
set_option linter.unusedVariables false
set_option linter.unusedSimpArgs false

end Go.Proofs.Ytneapbggnnndhaa
