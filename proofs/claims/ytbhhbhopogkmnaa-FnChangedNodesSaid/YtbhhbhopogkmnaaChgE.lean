/- Slices of changes that the laws copy, compare, measure, mark and hold. -/
import Derived.Test.YtbhhbhopogkmnaaChgL
import Derived.Test.YtbhhbhopogkmnaaOpenV
namespace Go.Proofs.Ytbhhbhopogkmnaa
open Go.RowKit Go.BigFrame Go.Deep
set_option linter.unusedVariables false
set_option linter.unusedSimpArgs false

/-- The cells of a row of changes. -/
def cellCh (cs : List Ch) (j : Nat) : Value :=
  if j % 4 = 0 then .bool (cs.getD (j / 4) chZ).1 else .int .i64 (if j % 4 = 1 then (cs.getD (j / 4) chZ).2.1 else if j % 4 = 2 then (cs.getD (j / 4) chZ).2.2.1 else (cs.getD (j / 4) chZ).2.2.2)
theorem cellCh0 (cs : List Ch) (i : Nat) : cellCh cs (i * 4) = .bool (cs.getD i chZ).1 := by
  have h1 : i * 4 % 4 = 0 := by omega
  have h2 : i * 4 / 4 = i := by omega
  simp only [cellCh, h1, h2, if_pos]
theorem cellCh1 (cs : List Ch) (i : Nat) : cellCh cs (i * 4 + 1) = .int .i64 (cs.getD i chZ).2.1 := by
  have h1 : (i * 4 + 1) % 4 = 1 := by omega
  have h2 : (i * 4 + 1) / 4 = i := by omega
  simp [cellCh, h1, h2]
theorem cellCh2 (cs : List Ch) (i : Nat) : cellCh cs (i * 4 + 2) = .int .i64 (cs.getD i chZ).2.2.1 := by
  have h1 : (i * 4 + 2) % 4 = 2 := by omega
  have h2 : (i * 4 + 2) / 4 = i := by omega
  simp [cellCh, h1, h2]
theorem cellCh3 (cs : List Ch) (i : Nat) : cellCh cs (i * 4 + 3) = .int .i64 (cs.getD i chZ).2.2.2 := by
  have h1 : (i * 4 + 3) % 4 = 3 := by omega
  have h2 : (i * 4 + 3) / 4 = i := by omega
  simp [cellCh, h1, h2]
/-- A slice of changes that reads as a list. -/
def RowCh (w : World) (s : Value) (cs : List Ch) : Prop := InR false w 0 w.heap.size s cs.length 4 (cellCh cs)
theorem RowCh.keep {w w' : World} {s : Value} {cs : List Ch} (h : RowCh w s cs) (hb : Below w.heap.size w w') : RowCh w' s cs := (InR.keep h hb).wider (Nat.le_refl _) hb.size (Nat.le_refl _)
theorem InR.changes {fz : Bool} {w : World} {lo hi : Nat} {s : Value} {cs : List Ch} (r : InR fz w lo hi s cs.length 4 (cellCh cs)) : RowCh w s cs := by
  obtain ⟨a, cap, rfl, hz⟩ := r
  refine ⟨a, cap, rfl, ?_⟩
  rcases hz with h0 | ⟨b, off, rfl, k1, k2, k3, hc⟩
  · exact .inl h0
  · exact .inr ⟨b, off, rfl, Nat.zero_le _, by omega, Nat.le_refl _, fun i hi => ⟨(hc i hi).1, fun h => by cases h⟩⟩
theorem RowCh.at {w : World} {s : Value} {cs : List Ch} (h : RowCh w s cs) {i : Nat} (hi : i < cs.length) : ∃ b off cap, s = .slice (some ⟨b, off, none⟩) cs.length cap ∧ b < w.heap.size ∧ ∀ j, j < cs.length → w.cell? ⟨b, off + j * 4, none⟩ = some (.bool (cs.getD j chZ).1) ∧ w.cell? ⟨b, off + j * 4 + 1, none⟩ = some (.int .i64 (cs.getD j chZ).2.1) ∧ w.cell? ⟨b, off + j * 4 + 2, none⟩ = some (.int .i64 (cs.getD j chZ).2.2.1) ∧ w.cell? ⟨b, off + j * 4 + 3, none⟩ = some (.int .i64 (cs.getD j chZ).2.2.2) := by
  obtain ⟨a, cap, rfl, hz⟩ := h
  rcases hz with h0 | ⟨b, off, rfl, _, hb, _, hc⟩
  · omega
  · refine ⟨b, off, cap, rfl, hb, fun j hj => ?_⟩
    have e0 := (hc (j * 4) (by omega)).1
    have e1 := (hc (j * 4 + 1) (by omega)).1
    have e2 := (hc (j * 4 + 2) (by omega)).1
    have e3 := (hc (j * 4 + 3) (by omega)).1
    rw [cellCh0] at e0
    rw [cellCh1, ← Nat.add_assoc] at e1
    rw [cellCh2, ← Nat.add_assoc] at e2
    rw [cellCh3, ← Nat.add_assoc] at e3
    exact ⟨e0, e1, e2, e3⟩
theorem RowCh.nil (w : World) : RowCh w (.slice none 0 0) [] := ⟨none, 0, rfl, .inl rfl⟩
theorem RowCh.slice {w : World} {s : Value} {cs : List Ch} (h : RowCh w s cs) : ∃ a c, s = .slice a cs.length c := by
  obtain ⟨a, c, rfl, _⟩ := h
  exact ⟨a, c, rfl⟩
/-- The zero of a change's cells. -/
def zeroCh (j : Nat) : Value := if j % 4 = 0 then .bool false else .int .i64 0
/-- A row of changes that is being made. -/
def partCh (cs : List Ch) (k : Nat) : Nat → Value := fun j => if j < k * 4 then cellCh cs j else zeroCh j
theorem info_change : (Try.prog.info? 51).map (fun i => (i.zero, i.size, i.bytes)) = some (some (.agg #[.bool false, .int .i64 0, .int .i64 0, .int .i64 0]), 4, 32) := by kernel_rfl
theorem made_partCh (cs : List Ch) (w : World) (t : TypeId) (n : Nat) : (w.alloc (.cells (madeCells #[.bool false, .int .i64 0, .int .i64 0, .int .i64 0] (n * 4)) t)).rowIs w.heap.size t (n * 4) (partCh cs 0) :=
  ⟨_, blk_alloc_new _ _, size_madeCells _ _, fun i hi => by
    have h3 : i % 4 = 0 ∨ i % 4 = 1 ∨ i % 4 = 2 ∨ i % 4 = 3 := by omega
    rcases h3 with h | h | h | h <;> simp [madeCells, hi, partCh, zeroCh, h]⟩
theorem partCh_step (cs : List Ch) (k j : Nat) : partCh cs (k + 1) j = if j = k * 4 + 3 then .int .i64 (cs.getD k chZ).2.2.2 else if j = k * 4 + 2 then .int .i64 (cs.getD k chZ).2.2.1 else if j = k * 4 + 1 then .int .i64 (cs.getD k chZ).2.1 else if j = k * 4 then .bool (cs.getD k chZ).1 else partCh cs k j := by
  unfold partCh
  by_cases h3 : j = k * 4 + 3
  · subst h3; rw [if_pos rfl, if_pos (by omega), cellCh3]
  · rw [if_neg h3]
    by_cases h2 : j = k * 4 + 2
    · subst h2; rw [if_pos rfl, if_pos (by omega), cellCh2]
    · rw [if_neg h2]
      by_cases h1 : j = k * 4 + 1
      · subst h1; rw [if_pos rfl, if_pos (by omega), cellCh1]
      · rw [if_neg h1]
        by_cases h0 : j = k * 4
        · subst h0; rw [if_pos rfl, if_pos (by omega), cellCh0]
        · rw [if_neg h0]
          by_cases hk : j < k * 4
          · rw [if_pos hk, if_pos (by omega)]
          · rw [if_neg hk, if_neg (by omega)]
/-- A slice of changes in a block that is new since a world. -/
def NewCh (W w' : World) (v : Value) (cs : List Ch) : Prop :=
  ∃ g cap, v = .slice (some ⟨g, 0, none⟩) cs.length cap ∧ (W.heap.size ≤ g ∧ cs.length ≤ cap) ∧ w'.rowIs g 51 (cs.length * 4) (cellCh cs)
theorem NewCh.inR {W w' : World} {v : Value} {cs : List Ch} (h : NewCh W w' v cs) : InR true w' W.heap.size w'.heap.size v cs.length 4 (cellCh cs) := by
  obtain ⟨g, cap, rfl, hg, hr⟩ := h
  exact InR.of_rowIs hr (Nat.le_refl _) (fun _ _ => rfl) cap hg.1 hr.lt (Nat.le_refl _)
theorem NewCh.row {W w' : World} {v : Value} {cs : List Ch} (h : NewCh W w' v cs) : RowCh w' v cs := h.inR.changes
theorem NewCh.ok {W w' : World} {v : Value} {cs : List Ch} (h : NewCh W w' v cs) : okS v := by
  obtain ⟨g, cap, rfl, hg, hr⟩ := h
  intro a n c e
  injection e with e1 e2 e3
  subst e1 e2 e3
  exact ⟨hg.2, (fun h => by cases h), fun x h => by injection h with h; rw [← h]⟩

/-- What a marked row of changes holds. -/
def mk3 (x : Int) : Bool := x % 3 == 0
def markedC (k : Int) : Nat → Value := fun j => if j % 4 = 0 then .bool (mk3 (k + j)) else .int .i64 (k + j)
/-- A row that is being marked, in its block. -/
def MidC (w : World) (b off N c : Nat) (k : Int) (cs : Nat → Value) : Prop :=
  b < w.heap.size ∧ ∀ i, i < N → w.cell? ⟨b, off + i, none⟩ = some (if i < c then markedC k i else cs i) ∧ w.frozen? ⟨b, off + i, none⟩ = false
theorem MidC.set {w : World} {b off N c : Nat} {k : Int} {cs : Nat → Value} (h : MidC w b off N c k cs) (hc : c < N) (v : Value) (hv : v = markedC k c) : MidC (w.setCell ⟨b, off + c, none⟩ v) b off N (c + 1) k cs := by
  subst hv
  obtain ⟨hb, hh⟩ := h
  refine ⟨by simpa using hb, fun i hi => ?_⟩
  obtain ⟨h1, h2⟩ := hh i hi
  constructor
  · by_cases e : i = c
    · subst e
      rw [if_pos (by omega), World.cell?_setCell_same _ _ _ h1]
    · have ne : (⟨b, off + c, none⟩ : Addr) ≠ ⟨b, off + i, none⟩ := by intro h; injection h with _ h _; omega
      rw [World.cell?_setCell_other _ _ _ _ ne, h1]
      by_cases h3 : i < c
      · rw [if_pos h3, if_pos (by omega)]
      · rw [if_neg h3, if_neg (by omega)]
  · rw [World.frozen?_setCell]; exact h2

section
variable {H : Type} {enc : TypeId × Value → H} {w : World} {base : Nat} {spare : Nat → Bool} {held : Bool}
open Go.ChangeShapes Go.WideShapes Go.Joins

def boolIn (v : Option Value) : Bool := match v with | some (.bool x) => x | _ => false

end
end Go.Proofs.Ytbhhbhopogkmnaa
