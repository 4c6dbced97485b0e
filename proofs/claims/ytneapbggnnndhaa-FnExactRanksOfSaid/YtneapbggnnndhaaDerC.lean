/- leaveOut, WithoutNodes and ViewAvoiding of the program. -/
import Derived.Test.YtneapbggnnndhaaDerB
import Derived.Shelf.Abstract
namespace Go.Proofs.Ytneapbggnnndhaa
open Go.RowKit Go.BigFrame Go.Deep
set_option linter.unusedVariables false
set_option linter.unusedSimpArgs false

theorem woB_bad {n : Int} {es : List Ed} {ns : List Int} (h : woB n es ns = false) : woN n es ns = 0 ∧ woR n es ns = [] := by
  unfold woN woR; rw [h]; exact ⟨rfl, rfl⟩
theorem woB_yes {n : Int} {es : List Ed} {ns : List Int} (h : woB n es ns = true) : woN n es ns = n ∧ woR n es ns = woL es ns := by
  unfold woN woR; rw [h]; exact ⟨rfl, rfl⟩

end Go.Proofs.Ytneapbggnnndhaa
