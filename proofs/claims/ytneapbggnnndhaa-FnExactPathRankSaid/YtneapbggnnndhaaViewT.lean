/- ViewOf: in the model. ViewOf of the model, whole. -/
import Derived.Test.YtneapbggnnndhaaRelaxT
import Derived.Test.YtneapbggnnndhaaRight
import Derived.Test.YtneapbggnnndhaaVStartT
namespace Go.Proofs.Ytneapbggnnndhaa
open Go.RowKit Go.BigFrame Go.Deep
set_option linter.unusedVariables false
set_option linter.unusedSimpArgs false
set_option linter.unnecessarySimpa false

theorem rowOf {fz : Bool} {w : World} {lo hi n : Nat} {o : Value} {zs : List Int} (h : InR fz w lo hi o n 1 (cellI zs)) (hl : zs.length = n) : Row w o zs := by
  subst hl
  exact InR.rowI h
/-- The view behind k rounds, in a box. -/
def VMid (m A : Int) (es : List Ed) (Z : List Int) (base B : Nat) (wr : World) (k : Nat) : Prop :=
  ∃ (va : Option Addr) (vc lo hi : Nat), Box wr B 36 #[.int .i64 m, .int .i64 A, .slice va Z.length vc] ∧ InR true wr lo hi (.slice va Z.length vc) Z.length 1 (cellI (vIter m es k Z)) ∧ okS (.slice va Z.length vc) ∧ base ≤ lo ∧ hi ≤ wr.heap.size ∧ (hi ≤ B ∨ B + 1 ≤ lo)

end Go.Proofs.Ytneapbggnnndhaa
namespace Go.Proofs.Ytneapbggnnndhaa
open Go.RowKit Go.BigFrame Go.Deep
set_option linter.unusedVariables false
set_option linter.unusedSimpArgs false
set_option linter.unnecessarySimpa false

end Go.Proofs.Ytneapbggnnndhaa
