/- PutEdge of the program: the way on. -/
import Derived.Test.YtdilimdicanbjaaPut
namespace Go.Proofs.Ytdilimdicanbjaa
open Go.RowKit Go.BigFrame Go.Deep
set_option linter.unusedVariables false
set_option linter.unusedSimpArgs false

end Go.Proofs.Ytdilimdicanbjaa
