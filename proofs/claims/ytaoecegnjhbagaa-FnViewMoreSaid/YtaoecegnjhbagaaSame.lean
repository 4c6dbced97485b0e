/- When two graphs are the same, in the program and in the model. -/
import Derived.Test.YtaoecegnjhbagaaGraph3
import Derived.Test.YtaoecegnjhbagaaRow
namespace Go.Proofs.Ytaoecegnjhbagaa
open Go.RowKit Go.BigFrame
set_option linter.unusedVariables false
set_option linter.unusedSimpArgs false

/-- Are two lists of edges the same? -/
def eSame (es fs : List Ed) : Bool := decide (es = fs)
theorem eSame_len {es fs : List Ed} (h : ¬ es.length = fs.length) : eSame es fs = false := by
  unfold eSame
  apply decide_eq_false
  intro e
  exact h (by rw [e])
theorem eSame_at {es fs : List Ed} {k : Nat} (h : es.getD k (0, 0, 0) ≠ fs.getD k (0, 0, 0)) : eSame es fs = false := by
  unfold eSame
  apply decide_eq_false
  intro e
  exact h (by rw [e])
theorem eSame_all {es fs : List Ed} (hl : es.length = fs.length) (h : ∀ i, i < es.length → es.getD i (0, 0, 0) = fs.getD i (0, 0, 0)) : eSame es fs = true := by
  unfold eSame
  apply decide_eq_true
  apply List.ext_getElem hl
  intro i h1 h2
  have := h i h1
  simpa [List.getD, h1, h2] using this

/-- Are two graphs the same? -/
def gSame (n : Int) (es : List Ed) (m : Int) (fs : List Ed) : Bool := decide (n = m) && eSame es fs

end Go.Proofs.Ytaoecegnjhbagaa
