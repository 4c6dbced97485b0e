/- Is a view stable: in the program and in the model. -/
import Derived.Test.YtnomlefjldfgiaaRelaxT
import Derived.Test.YtnomlefjldfgiaaVSame2
namespace Go.Proofs.Ytnomlefjldfgiaa
open Go.RowKit Go.BigFrame Go.Deep
set_option linter.unusedVariables false
set_option linter.unusedSimpArgs false

/-- Does relaxing change nothing? -/
def isB (n : Int) (es : List Ed) (m a : Int) (zs : List Int) : Bool := vVal n es m a zs && vSame m a (vRelax m es zs) m a zs

end Go.Proofs.Ytnomlefjldfgiaa
