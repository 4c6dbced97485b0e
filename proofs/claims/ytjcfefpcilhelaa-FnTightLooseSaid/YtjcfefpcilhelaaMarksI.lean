/- The laws' marks: rows that are written over and read again. The laws' marks: rows that are written over and read again. -/
import Derived.Test.YtjcfefpcilhelaaRow
namespace Go.Proofs.Ytjcfefpcilhelaa
open Go.RowKit Go.BigFrame Go.Deep
set_option linter.unusedVariables false
set_option linter.unusedSimpArgs false

/-- What a marked row holds. -/
def marked (k : Int) : Nat → Value := fun i => .int .i64 (k + i)
/-- A row that is being marked, in its block. -/
def MidR (w : World) (b off N c : Nat) (k : Int) (cs : Nat → Value) : Prop :=
  b < w.heap.size ∧ ∀ i, i < N → w.cell? ⟨b, off + i, none⟩ = some (if i < c then marked k i else cs i) ∧ w.frozen? ⟨b, off + i, none⟩ = false
theorem MidR.set {w : World} {b off N c : Nat} {k : Int} {cs : Nat → Value} (h : MidR w b off N c k cs) (hc : c < N) : MidR (w.setCell ⟨b, off + c, none⟩ (.int .i64 (k + c))) b off N (c + 1) k cs := by
  obtain ⟨hb, hh⟩ := h
  refine ⟨by simpa using hb, fun i hi => ?_⟩
  obtain ⟨h1, h2⟩ := hh i hi
  constructor
  · by_cases e : i = c
    · subst e
      rw [if_pos (by omega), World.cell?_setCell_same _ _ _ h1]
      rfl
    · have ne : (⟨b, off + c, none⟩ : Addr) ≠ ⟨b, off + i, none⟩ := by intro h; injection h with _ h _; omega
      rw [World.cell?_setCell_other _ _ _ _ ne, h1]
      by_cases h3 : i < c
      · rw [if_pos h3, if_pos (by omega)]
      · rw [if_neg h3, if_neg (by omega)]
  · rw [World.frozen?_setCell]; exact h2
theorem MidR.of {fz : Bool} {w : World} {lo hi b off cap n sz : Nat} {cs : Nat → Value} (k : Int) (hb : b < w.heap.size) (h : ∀ i, i < n * sz → w.cell? ⟨b, off + i, none⟩ = some (cs i) ∧ (true = true → w.frozen? ⟨b, off + i, none⟩ = false)) : MidR w b off (n * sz) 0 k cs :=
  ⟨hb, fun i hi => ⟨by rw [if_neg (by omega)]; exact (h i hi).1, (h i hi).2 rfl⟩⟩

end Go.Proofs.Ytjcfefpcilhelaa
namespace Go.Proofs.Ytjcfefpcilhelaa
open Go.RowKit Go.BigFrame Go.Deep
set_option linter.unusedVariables false
set_option linter.unusedSimpArgs false

end Go.Proofs.Ytjcfefpcilhelaa
