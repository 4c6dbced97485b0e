/- Rows of marks in a block. -/
import Derived.Test.YtbhhbhopogkmnaaRowAt
import Derived.Test.YtbhhbhopogkmnaaNext
import Derived.Test.YtbhhbhopogkmnaaBoxes
import Derived.Test.YtbhhbhopogkmnaaRelaxJ
namespace Go.Proofs.Ytbhhbhopogkmnaa
open Go.RowKit Go.BigFrame Go.Deep
set_option linter.unusedVariables false
set_option linter.unusedSimpArgs false

/-- A row of marks in a block. -/
def BQ (w : World) (b : Nat) (bs : List Bool) : Prop := ∃ cur, w.heap[b]? = some (.cells cur 4 (0, 0)) ∧ ∀ i, i < bs.length → cur[i]? = some (.bool (bs.getD i true))
theorem getD_setB (bs : List Bool) (i j : Nat) (x : Bool) (hj : j < bs.length) : (bs.set i x).getD j true = if i = j then x else bs.getD j true := by
  simp only [List.getD, List.getElem?_set]
  by_cases h : i = j
  · subst h
    simp [hj]
  · simp [h]
section
variable {w w' : World} {b i : Nat} {bs : List Bool}
theorem BQ.lt (h : BQ w b bs) : b < w.heap.size := by obtain ⟨cur, h1, _⟩ := h; exact (Array.getElem?_eq_some_iff.1 h1).1
theorem BQ.cell (h : BQ w b bs) (hi : i < bs.length) : w.cell? ⟨b, i, none⟩ = some (.bool (bs.getD i true)) ∧ w.frozen? ⟨b, i, none⟩ = false := by
  obtain ⟨cur, h1, h2⟩ := h
  exact ⟨by simp [World.cell?, h1, h2 i hi], by simp [World.frozen?, h1]⟩
theorem BQ.keep (h : BQ w b bs) (k : Below w.heap.size w w') : BQ w' b bs := by
  obtain ⟨cur, h1, h2⟩ := h
  exact ⟨cur, (k.block b (Array.getElem?_eq_some_iff.1 h1).1).trans h1, h2⟩
theorem BQ.set (h : BQ w b bs) (hi : i < bs.length) : BQ (w.setCell ⟨b, i, none⟩ (.bool true)) b (bs.set i true) := by
  obtain ⟨cur, h1, h2⟩ := h
  refine ⟨cur.setIfInBounds i (.bool true), by simp [World.setCell, Array.getElem?_modify, h1], fun j hj => ?_⟩
  rw [List.length_set] at hj
  have hc : i < cur.size := (Array.getElem?_eq_some_iff.1 (h2 i hi)).1
  rw [getD_setB _ _ _ _ hj, Array.getElem?_setIfInBounds]
  by_cases e : i = j
  · rw [if_pos e, if_pos e, if_pos hc]
  · rw [if_neg e, if_neg e]; exact h2 j hj
theorem BQ.grown {r : Option Nat} (h : BQ w b bs) (hg : w.grownBy w' r) (hne : r ≠ some b) : BQ w' b bs := by
  have hl := h.lt
  obtain ⟨cur, h1, h2⟩ := h
  exact ⟨cur, (hg.block b hl (by intro e; exact hne e.symm)).trans h1, h2⟩
end
theorem BQ.made (w : World) (N : Nat) : BQ (w.alloc (.cells (madeCells #[.bool false] N) 4)) w.heap.size (List.replicate N false) := by
  obtain ⟨c, h1, h2, h3⟩ := World.rowIs_made w (.bool false) N 4
  exact ⟨c, h1, fun i hi => by rw [h3 i (by simpa using hi)]; simp at hi; simp [List.getD, hi]⟩
theorem info_boolR : (Try.prog.info? 4).map (fun i => (i.zero, i.size, i.bytes)) = some (some (.bool false), 1, 1) := by kernel_rfl
end Go.Proofs.Ytbhhbhopogkmnaa
