/- WeightOf of the model. -/
import Derived.Test.YtfciilpcjahfoaaFind3
namespace Go.Proofs.Ytfciilpcjahfoaa
open Go.RowKit Go.BigFrame
set_option linter.unusedVariables false
set_option linter.unusedSimpArgs false

end Go.Proofs.Ytfciilpcjahfoaa
