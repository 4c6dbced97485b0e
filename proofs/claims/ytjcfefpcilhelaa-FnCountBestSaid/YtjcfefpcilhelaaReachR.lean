/- All measures reach the same nodes: mathematics. -/
import Derived.Test.YtjcfefpcilhelaaEndV
import Derived.Test.YtjcfefpcilhelaaReachedS
import Derived.Test.YtjcfefpcilhelaaGvInts
import Derived.Test.YtjcfefpcilhelaaStartL
namespace Go.Proofs.Ytjcfefpcilhelaa
open Go.RowKit
set_option linter.unusedVariables false
set_option linter.unusedSimpArgs false

/-- The nodes that k edges reach at most. -/
def rNode (es : List Ed) (a : Nat) : Nat → Nat → Prop
  | 0, i => i = a
  | k + 1, i => rNode es a k i ∨ ∃ e ∈ es, e.2.1.toNat = i ∧ rNode es a k e.1.toNat
/-- The measure of a path with k edges at most. -/
def gGd (m : Int) (k : Nat) (v : Int) : Prop := (m = 1 → 0 ≤ v ∧ v ≤ 999 * k) ∧ (m = 2 → 1 ≤ v ∧ v ≤ 100000) ∧ (m = 3 → 0 ≤ v ∧ v ≤ 99999) ∧ (m = 4 → v = 1) ∧ (m = 5 → 0 ≤ v ∧ v ≤ k)
theorem gGd_ne {m : Int} (hm : mKind m = true) {k : Nat} (hk : k ≤ 99) {v : Int} (h : gGd m k v) : v ≠ mNone m := by
  obtain ⟨h1, h2, h3, h4, h5⟩ := h
  rcases mKind_cases hm with rfl | rfl | rfl | rfl | rfl <;> simp [mNone] at * <;> omega
theorem gGd_up {m : Int} (hm : mKind m = true) {k : Nat} {v : Int} (h : gGd m k v) : gGd m (k + 1) v := by
  obtain ⟨h1, h2, h3, h4, h5⟩ := h
  refine ⟨fun e => ?_, h2, h3, h4, fun e => ?_⟩
  · have := h1 e; omega
  · have := h5 e; omega
theorem gGd_join {m : Int} (hm : mKind m = true) {k : Nat} (hk : k ≤ 99) {v w : Int} (hw : mWeight w = true) (h : gGd m k v) : gGd m (k + 1) (mJoin m v (mEdge m w)) := by
  have hw' : 1 ≤ w ∧ w ≤ 999 := by simpa [mWeight] using hw
  obtain ⟨h1, h2, h3, h4, h5⟩ := h
  unfold gGd
  rcases mKind_cases hm with rfl | rfl | rfl | rfl | rfl <;> simp [mJoin, mEdge] at * <;> omega
theorem rkeep {m : Int} (hm : mKind m = true) {x y : Int} (hx : mIn m x = true) (h : mBet m x y = false) (hn : x ≠ mNone m) : y ≠ mNone m := by
  intro he
  subst he
  exact hn (le_anti hm (none_worst hx) h)
theorem rIter {m : Int} {N a : Nat} {es : List Ed} (hm : mKind m = true) (he : eAll N es) (ha : a < N) : ∀ k, k ≤ 98 → ∀ i, i < N →
    (rNode es a k i → gGd m k ((vIter m es k (vStart m N a)).getD i 0)) ∧ (¬ rNode es a k i → (vIter m es k (vStart m N a)).getD i 0 = mNone m)
  | 0, _, i, hi => by
    have hv : (vStart m N a).getD i 0 = if (i : Int) = a then mOne m else mNone m := vStart_at m N a (by rw [Int.toNat_natCast]; exact hi)
    refine ⟨fun h => ?_, fun h => ?_⟩
    · have h' : i = a := h
      show gGd m 0 ((vStart m N a).getD i 0)
      rw [hv, if_pos (by omega)]
      unfold gGd
      rcases mKind_cases hm with rfl | rfl | rfl | rfl | rfl <;> simp [mOne]
    · show (vStart m N a).getD i 0 = _
      rw [hv, if_neg (fun q => h (show i = a by omega))]
  | k + 1, hk, i, hi => by
    have heN : eAll ((N : Int)).toNat es := by rw [Int.toNat_natCast]; exact he
    have ih := rIter hm he ha k (by omega)
    have hall := vIter_all hm (vStart_all (n := N) (src := a) hm) (by rw [vStart_length]; exact heN) k
    have hlen : (vIter m es k (vStart m N a)).length = N := by rw [vIter_length, vStart_length, Int.toNat_natCast]
    obtain ⟨f1, f2, f3⟩ := (vFold_at hm hall es _ rfl (by rw [hlen]; exact he) hall).2 i (by rw [hlen]; exact hi)
    change mBet m _ ((vIter m es (k + 1) (vStart m N a)).getD i 0) = false at f1
    change ∀ e ∈ es, e.2.1.toNat = i → mBet m _ ((vIter m es (k + 1) (vStart m N a)).getD i 0) = false at f2
    change (vIter m es (k + 1) (vStart m N a)).getD i 0 = _ ∨ ∃ e ∈ es, e.2.1.toNat = i ∧ (vIter m es (k + 1) (vStart m N a)).getD i 0 = _ at f3
    have hin := fun j (hj : j < N) => hall j (by rw [hlen]; exact hj)
    have hgN : ∀ e ∈ es, ¬ rNode es a k e.1.toNat → vGive m (vIter m es k (vStart m N a)) e = mNone m := by
      intro e hein hn
      unfold vGive
      rw [(ih _ (he e hein).1.2).2 hn, join_none hm (mEdge_in hm (he e hein).2.2)]
    have hgG : ∀ e ∈ es, rNode es a k e.1.toNat → gGd m (k + 1) (vGive m (vIter m es k (vStart m N a)) e) := fun e hein hr => gGd_join hm (by omega) (he e hein).2.2 ((ih _ (he e hein).1.2).1 hr)
    have hgi : ∀ e ∈ es, mIn m (vGive m (vIter m es k (vStart m N a)) e) = true := fun e hein => give_in hm hall (by rw [hlen]; exact (he e hein).1.2) (he e hein).2.2
    refine ⟨fun h => ?_, fun h => ?_⟩
    · have hne : (vIter m es (k + 1) (vStart m N a)).getD i 0 ≠ mNone m := by
        rcases h with h | ⟨e, h1, h2, h3⟩
        · exact rkeep hm (hin i hi) f1 (gGd_ne hm (by omega) ((ih i hi).1 h))
        · exact rkeep hm (hgi e h1) (f2 e h1 h2) (gGd_ne hm (by omega) (hgG e h1 h3))
      rcases f3 with f | ⟨e, h1, h2, f⟩
      · by_cases q : rNode es a k i
        · rw [f]; exact gGd_up hm ((ih i hi).1 q)
        · rw [f, (ih i hi).2 q] at hne; exact absurd rfl hne
      · by_cases q : rNode es a k e.1.toNat
        · rw [f]; exact hgG e h1 q
        · rw [f, hgN e h1 q] at hne; exact absurd rfl hne
    · rcases f3 with f | ⟨e, h1, h2, f⟩
      · rw [f]; exact (ih i hi).2 (fun q => h (.inl q))
      · rw [f]; exact hgN e h1 (fun q => h (.inr ⟨e, h1, h2, q⟩))
/-- A node is reached for one measure as for the reach itself. -/
theorem rSame {m : Int} {N a : Nat} {es : List Ed} (hm : mKind m = true) (he : eAll N es) (ha : a < N) (hN : N ≤ 12) {i : Nat} (hi : i < N) : (vRt 4 N es a).getD i 0 = if (vRt m N es a).getD i 0 ≠ mNone m then 1 else 0 := by
  have h1 := rIter hm he ha N (by omega) i hi
  have h2 := rIter (m := 4) (by decide) he ha N (by omega) i hi
  have e1 : vRt m N es a = vIter m es N (vStart m N a) := by unfold vRt; rw [Int.toNat_natCast]
  have e2 : vRt 4 N es a = vIter 4 es N (vStart 4 N a) := by unfold vRt; rw [Int.toNat_natCast]
  rw [e1, e2]
  by_cases q : rNode es a N i
  · rw [if_pos (gGd_ne hm (by omega) (h1.1 q))]
    exact (h2.1 q).2.2.2.1 rfl
  · rw [if_neg (by rw [h1.2 q]; simp)]
    exact h2.2 q
/-- The sum of the first k values. -/
def sumK (zs : List Int) : Nat → Int
  | 0 => 0
  | k + 1 => sumK zs k + zs.getD k 0
theorem rSum {m : Int} {zs ys : List Int} {N : Nat} (h : ∀ i, i < N → ys.getD i 0 = if zs.getD i 0 ≠ mNone m then 1 else 0) : ∀ k, k ≤ N → sumK ys k = ((rchK m zs k).length : Nat)
  | 0, _ => by simp [sumK, rchK]
  | k + 1, hk => by
    rw [sumK, rSum h k (by omega), h k (by omega), rchK_succ, List.length_append]
    by_cases q : zs.getD k 0 = mNone m
    · rw [if_neg (by rw [q]; simp)]
      have h9 : (zs.getD k 0 != mNone m) = false := by rw [q]; simp
      rw [h9]
      simp
    · rw [if_pos q]
      have : (zs.getD k 0 != mNone m) = true := by simpa using q
      rw [if_pos this]
      simp
theorem vVal_mkV {n : Int} {es : List Ed} {m a : Int} {zs : List Int} (hg : gVal n es = true) (ha : 0 ≤ a ∧ a < n) (hm : mKind m = true) (hl : (zs.length : Int) = n) (hv : vAll m zs) : vVal n es m a zs = true := by
  unfold vVal vFit mAll
  rw [hg, hm, all_of_vAll hv, hl, decide_eq_true ha.1, decide_eq_true ha.2, decide_eq_true rfl]
  rfl
theorem rch_inV {m : Int} {zs : List Int} {i : Nat} (hi : i < zs.length) (h : zs.getD i 0 ≠ mNone m) : inL (rch m zs) (i : Int) = true := by
  unfold inL rch rchK
  apply decide_eq_true
  refine List.mem_map.2 ⟨i, List.mem_filter.2 ⟨List.mem_range.2 hi, ?_⟩, rfl⟩
  simpa using h
end Go.Proofs.Ytjcfefpcilhelaa
