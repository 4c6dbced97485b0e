/- RelaxAll: in the model. -/
import Derived.Test.YtdblcaeeepkebaaRelaxJ
import Derived.Test.YtdblcaeeepkebaaRelaxS
namespace Go.Proofs.Ytdblcaeeepkebaa
open Go.RowKit Go.BigFrame Go.Deep
set_option linter.unusedVariables false
set_option linter.unusedSimpArgs false

end Go.Proofs.Ytdblcaeeepkebaa
