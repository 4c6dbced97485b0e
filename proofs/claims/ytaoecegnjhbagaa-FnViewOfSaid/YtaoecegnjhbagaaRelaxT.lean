/- RelaxAll: in the model. -/
import Derived.Test.YtaoecegnjhbagaaRelaxJ
import Derived.Test.YtaoecegnjhbagaaRelaxS
namespace Go.Proofs.Ytaoecegnjhbagaa
open Go.RowKit Go.BigFrame Go.Deep
set_option linter.unusedVariables false
set_option linter.unusedSimpArgs false

end Go.Proofs.Ytaoecegnjhbagaa
