/- Reached nodes: mathematics. -/
import Derived.Test.YtbcbknebjbelmaaReached
import Derived.Test.YtbcbknebjbelmaaGvInts
import Derived.Test.YtbcbknebjbelmaaBestB
namespace Go.Proofs.Ytbcbknebjbelmaa
open Go.RowKit
set_option linter.unusedVariables false
set_option linter.unusedSimpArgs false

theorem filter_le {α : Type} (p q : α → Bool) : ∀ (l : List α), (∀ x ∈ l, p x = true → q x = true) → (l.filter p).length ≤ (l.filter q).length
  | [], _ => by simp
  | x :: l, h => by
    have ih := filter_le p q l (fun y hy => h y (List.mem_cons_of_mem _ hy))
    have hx := h x (List.mem_cons_self ..)
    simp only [List.filter_cons]
    cases hp : p x
    · cases hq : q x <;> simp <;> omega
    · rw [hx hp]; simp; omega
theorem reach_keep {m : Int} (hm : mKind m = true) {x y : Int} (hx : mIn m x = true) (h : mBet m x y = false) (hn : x ≠ mNone m) : y ≠ mNone m := by
  intro he
  subst he
  exact hn (le_anti hm (none_worst hx) h)
theorem reach_in {m : Int} {zs : List Int} {i : Nat} (hi : i < zs.length) (h : zs.getD i 0 ≠ mNone m) : inL (rch m zs) (i : Int) = true := by
  unfold inL rch rchK
  apply decide_eq_true
  refine List.mem_map.2 ⟨i, List.mem_filter.2 ⟨List.mem_range.2 hi, ?_⟩, rfl⟩
  simpa using h
theorem reach_at {m : Int} {zs : List Int} {k : Nat} (hk : k < (rch m zs).length) : ∃ i : Nat, (rch m zs).getD k 0 = (i : Int) ∧ i < zs.length ∧ zs.getD i 0 ≠ mNone m := by
  have hin : (rch m zs)[k] ∈ rch m zs := List.getElem_mem hk
  have e : (rch m zs).getD k 0 = (rch m zs)[k] := by simp [List.getD, hk]
  rw [e]
  unfold rch rchK at hin
  obtain ⟨i, hi, he⟩ := List.mem_map.1 hin
  obtain ⟨h1, h2⟩ := List.mem_filter.1 hi
  exact ⟨i, he.symm, List.mem_range.1 h1, by simpa using h2⟩
theorem grow_in {m : Int} (hm : mKind m = true) {zs L : List Int} (hl : L.length = zs.length) (hv : vAll m zs) (hb : ∀ v, v < zs.length → mBet m (zs.getD v 0) (L.getD v 0) = false) {k : Nat} (hk : k < (rch m zs).length) : inL (rch m L) ((rch m zs).getD k 0) = true := by
  obtain ⟨i, h1, h2, h3⟩ := reach_at hk
  rw [h1]
  exact reach_in (by omega) (reach_keep hm (hv i h2) (hb i h2) h3)
theorem grow_len {m : Int} (hm : mKind m = true) {zs L : List Int} (hl : L.length = zs.length) (hv : vAll m zs) (hb : ∀ v, v < zs.length → mBet m (zs.getD v 0) (L.getD v 0) = false) : (rch m zs).length ≤ (rch m L).length := by
  unfold rch rchK
  rw [List.length_map, List.length_map, hl]
  apply filter_le
  intro i hi h
  have hi' := List.mem_range.1 hi
  have h1 : zs.getD i 0 ≠ mNone m := by simpa using h
  simpa using reach_keep hm (hv i hi') (hb i hi') h1
theorem rch_len (m : Int) (zs : List Int) : (rch m zs).length ≤ zs.length := rchK_len m zs _
end Go.Proofs.Ytbcbknebjbelmaa
