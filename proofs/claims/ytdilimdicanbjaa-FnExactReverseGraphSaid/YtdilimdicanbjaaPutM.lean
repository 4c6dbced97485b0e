/- PutEdge of the program: what it answers. -/
import Derived.Test.YtdilimdicanbjaaPutC
namespace Go.Proofs.Ytdilimdicanbjaa
open Go.RowKit Go.BigFrame Go.Deep
set_option linter.unusedVariables false
set_option linter.unusedSimpArgs false

end Go.Proofs.Ytdilimdicanbjaa
