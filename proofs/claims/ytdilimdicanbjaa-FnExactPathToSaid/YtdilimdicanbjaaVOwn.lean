/- A result that is a row of numbers of its own. -/
import Derived.Test.YtdilimdicanbjaaVEdges
namespace Go.Proofs.Ytdilimdicanbjaa
open Go.RowKit Go.BigFrame Go.Deep
set_option linter.unusedVariables false
set_option linter.unusedSimpArgs false

def OwnV (w w' : World) (v : Value) (zs : List Int) : Prop := InR true w' w.heap.size w'.heap.size v zs.length 1 (cellI zs)
theorem OwnV.nil (w w' : World) : OwnV w w' (.slice none 0 0) [] := ⟨none, 0, rfl, .inl rfl⟩
theorem OwnV.slice {w w' : World} {v : Value} {zs : List Int} (h : OwnV w w' v zs) : ∃ a c, v = .slice a zs.length c := by
  obtain ⟨a, c, h, _⟩ := h
  exact ⟨a, c, h⟩
theorem okS_nil : okS (.slice none 0 0) := by
  intro a n c e
  injection e with e1 e2 e3
  subst e1 e2 e3
  exact ⟨Nat.le_refl _, fun _ => rfl, fun x h => by cases h⟩
theorem NewI.own {W w' : World} {v : Value} {zs : List Int} (h : NewI W w' v zs) : OwnV W w' v zs := h.inR
theorem InR.rowI {fz : Bool} {w : World} {lo hi : Nat} {s : Value} {zs : List Int} (r : InR fz w lo hi s zs.length 1 (cellI zs)) : Row w s zs := r.ints
theorem OwnV.row {w w' : World} {v : Value} {zs : List Int} (h : OwnV w w' v zs) : Row w' v zs := InR.rowI h
/-- A row that is new since a later world is new since an earlier one, and stays. -/
theorem OwnV.from {W w w' : World} {v : Value} {zs : List Int} (h : OwnV w w' v zs) (hs : W.heap.size ≤ w.heap.size) : OwnV W w' v zs := InR.wider h hs (Nat.le_refl _) (Nat.le_refl _)
end Go.Proofs.Ytdilimdicanbjaa
