/- ViewOf: in the model. ViewOf of the model, whole. -/
import Derived.Test.YtneapbggnnndhaaGreatRelaxT
import Derived.Test.YtneapbggnnndhaaGreatRight
import Derived.Test.YtneapbggnnndhaaGreatVStartT
namespace Go.Proofs.YtneapbggnnndhaaGreat
open Go.RowKit Go.BigFrame Go.Deep
set_option linter.unusedVariables false
set_option linter.unusedSimpArgs false
set_option linter.unnecessarySimpa false

theorem rowOf {fz : Bool} {w : World} {lo hi n : Nat} {o : Value} {zs : List Int} (h : InR fz w lo hi o n 1 (cellI zs)) (hl : zs.length = n) : Row w o zs := by
  subst hl
  exact InR.rowI h
end Go.Proofs.YtneapbggnnndhaaGreat
namespace Go.Proofs.YtneapbggnnndhaaGreat
open Go.RowKit Go.BigFrame Go.Deep
set_option linter.unusedVariables false
set_option linter.unusedSimpArgs false
set_option linter.unnecessarySimpa false

end Go.Proofs.YtneapbggnnndhaaGreat
