/- Sorting by putting each path into its place: the mathematics, and the memory. -/
import Derived.Test.YtneapbggnnndhaaGreatSrcG
import Derived.Test.YtneapbggnnndhaaGreatSrtM
namespace Go.Proofs.YtneapbggnnndhaaGreat
open Go.RowKit Go.BigFrame Go.Deep
set_option linter.unusedVariables false
set_option linter.unusedSimpArgs false

def STo (m : Int) (f : Nat → Pt) (i : Nat) : Prop := ∀ a b, a < b → b < i → lP m (f b) (f a) = false
def SIn (m : Int) (f : Nat → Pt) (i k : Nat) : Prop := ∀ a b, a < b → b ≤ i → b ≠ k → lP m (f b) (f a) = false
def swf (f : Nat → Pt) (k : Nat) : Nat → Pt := fun j => if j = k - 1 then f k else if j = k then f (k - 1) else f j
theorem sin_start {m : Int} {f : Nat → Pt} {i : Nat} (h : STo m f i) : SIn m f i i := fun a b h1 h2 h3 => h a b h1 (by omega)
theorem sin_end0 {m : Int} {f : Nat → Pt} {i : Nat} (h : SIn m f i 0) : STo m f (i + 1) := fun a b h1 h2 => h a b h1 (by omega) (by omega)
theorem sin_end {m : Int} (hm : mKind m = true) {f : Nat → Pt} {i k : Nat} (hk : 0 < k) (hki : k ≤ i) (h : SIn m f i k) (hn : lP m (f k) (f (k - 1)) = false) : STo m f (i + 1) := by
  intro a b h1 h2
  by_cases e : b = k
  · subst e
    by_cases e2 : a = b - 1
    · rw [e2]; exact hn
    · exact lP_ntrans hm hn (h a (b - 1) (by omega) (by omega) (by omega))
  · exact h a b h1 (by omega) e
theorem sin_swap {m : Int} {f : Nat → Pt} {i k : Nat} (hk : 0 < k) (hki : k ≤ i) (h : SIn m f i k) (hn : lP m (f k) (f (k - 1)) = true) : SIn m (swf f k) i (k - 1) := by
  intro a b h1 h2 h3
  unfold swf
  rw [if_neg h3]
  by_cases e : b = k
  · subst e
    rw [if_pos rfl]
    by_cases e2 : a = b - 1
    · rw [if_pos e2]
      cases h4 : lP m (f (b - 1)) (f b) with
      | false => rfl
      | true =>
        have := lP_trans hn h4
        rw [lP_irr] at this
        cases this
    · rw [if_neg e2, if_neg (by omega)]
      exact h a (b - 1) (by omega) (by omega) (by omega)
  · rw [if_neg e]
    by_cases e2 : a = k - 1
    · rw [if_pos e2]
      exact h k b (by omega) h2 e
    · rw [if_neg e2]
      by_cases e3 : a = k
      · rw [if_pos e3]
        exact h (k - 1) b (by omega) h2 e
      · rw [if_neg e3]
        exact h a b h1 h2 e
def fQ (qs : List PP) (j : Nat) : Pt := (qs.getD j ppZ).p
theorem sto_pairwise {m : Int} {qs : List PP} (h : STo m (fQ qs) qs.length) : (qs.map PP.p).Pairwise (fun p q => lP m q p = false) := by
  rw [List.pairwise_map, List.pairwise_iff_getElem]
  intro i j hi hj hij
  have := h i j hij hj
  unfold fQ at this
  simpa [List.getD, hi, hj] using this
/-- Two neighbours change places. -/
def swQ (qs : List PP) (k : Nat) : List PP := (qs.set k (qs.getD (k - 1) ppZ)).set (k - 1) (qs.getD k ppZ)
theorem swQ_len (qs : List PP) (k : Nat) : (swQ qs k).length = qs.length := by simp [swQ]
theorem swQ_f {qs : List PP} {k : Nat} (hk : 0 < k) (hl : k < qs.length) : ∀ j, j < qs.length → fQ (swQ qs k) j = swf (fQ qs) k j := by
  intro j hj
  unfold fQ swf swQ
  simp only [List.getD_eq_getElem?_getD, List.getElem?_set, List.length_set]
  by_cases e : k - 1 = j
  · subst e
    simp [hj]
  · rw [if_neg e]
    by_cases e2 : k = j
    · subst e2
      rw [if_pos rfl, if_pos hj, if_neg (by omega), if_pos rfl]
      rfl
    · rw [if_neg e2, if_neg (fun h => e h.symm), if_neg (fun h => e2 h.symm)]
theorem swQ_perm {qs : List PP} {k : Nat} (hk : 0 < k) (hl : k < qs.length) : (swQ qs k).Perm qs := by
  obtain ⟨k, rfl⟩ : ∃ k', k = k' + 1 := ⟨k - 1, by omega⟩
  unfold swQ
  rw [Nat.add_sub_cancel]
  have e : qs = qs.take k ++ (qs.getD k ppZ :: qs.getD (k + 1) ppZ :: qs.drop (k + 2)) := by
    conv => lhs; rw [← List.take_append_drop k qs]
    congr 1
    rw [List.drop_eq_getElem_cons (by omega), List.drop_eq_getElem_cons (by omega)]
    simp [List.getD, hl, show k < qs.length by omega]
  have hlt : (qs.take k).length = k := by rw [List.length_take]; omega
  generalize qs.getD k ppZ = x at e ⊢
  generalize qs.getD (k + 1) ppZ = y at e ⊢
  rw [e]
  have h2 : ((qs.take k ++ (x :: y :: qs.drop (k + 2))).set (k + 1) x).set k y = qs.take k ++ (y :: x :: qs.drop (k + 2)) := by
    generalize qs.take k = a at hlt
    subst hlt
    simp [List.set_append]
  rw [h2]
  exact List.Perm.append_left _ (List.Perm.swap _ _ _)
theorem cellsP_set {qs : List PP} {i : Nat} (hi : i < qs.length) (q : PP) : ((cellsP qs).set (i * 2) q.v).set (i * 2 + 1) (.int .i64 q.x) = cellsP (qs.set i q) := by
  induction qs generalizing i with
  | nil => cases hi
  | cons p qs ih =>
    cases i with
    | zero => rfl
    | succ i =>
      have h := ih (i := i) (by simpa using hi)
      have e1 : (i + 1) * 2 = i * 2 + 1 + 1 := by omega
      rw [e1]
      simp only [List.set_cons_succ]
      show _ = p.v :: .int .i64 p.x :: cellsP (qs.set i q)
      rw [← h]
      rfl
theorem set_grown (w : World) (g o : Nat) (u : Value) : w.grownBy (w.setCell ⟨g, o, none⟩ u) (some g) :=
  ⟨rfl, rfl, rfl, by simp, fun k hk hne => Below.heap_setCell w ⟨g, o, none⟩ u k (fun e => hne (by rw [e]))⟩
theorem Pths.swap {w : World} {base g n cap k : Nat} {qs : List PP} (h : Pths w base (.slice (some ⟨g, 0, none⟩) n cap) qs) (hn : n = qs.length) (hk : 0 < k) (hl : k < qs.length) :
    Pths ((((w.setCell ⟨g, k * 2, none⟩ (qs.getD (k - 1) ppZ).v).setCell ⟨g, k * 2 + 1, none⟩ (.int .i64 (qs.getD (k - 1) ppZ).x)).setCell ⟨g, (k - 1) * 2, none⟩ (qs.getD k ppZ).v).setCell ⟨g, (k - 1) * 2 + 1, none⟩ (.int .i64 (qs.getD k ppZ).x)) base (.slice (some ⟨g, 0, none⟩) n cap) (swQ qs k) := by
  subst hn
  have hp := swQ_perm hk hl
  have hkeep : ∀ w', w.grownBy w' (some g) → ∀ q ∈ qs, PRow w' base q := fun w' hg q hq => by
    have hr := h.row q hq
    refine ⟨hr.1.kept hg (.inr (fun e => ?_)), hr.2⟩
    rcases own_types hr.1 h.own (by decide) with h3 | h3
    · rw [h3] at e; cases e
    · exact h3 e
  have hg4 : w.grownBy ((((w.setCell ⟨g, k * 2, none⟩ (qs.getD (k - 1) ppZ).v).setCell ⟨g, k * 2 + 1, none⟩ (.int .i64 (qs.getD (k - 1) ppZ).x)).setCell ⟨g, (k - 1) * 2, none⟩ (qs.getD k ppZ).v).setCell ⟨g, (k - 1) * 2 + 1, none⟩ (.int .i64 (qs.getD k ppZ).x)) (some g) := by
    refine ⟨rfl, rfl, rfl, by simp, fun j hj hne => ?_⟩
    rw [(set_grown _ g _ _).block j (by simpa using hj) hne, (set_grown _ g _ _).block j (by simpa using hj) hne, (set_grown _ g _ _).block j (by simpa using hj) hne, (set_grown _ g _ _).block j hj hne]
  refine ⟨?_, fun q hq => hkeep _ hg4 q (hp.mem_iff.1 hq), (hp.pairwise_iff (fun {a b} h => h.symm)).2 h.dis⟩
  have h4 := own_set1 (i := (k - 1) * 2 + 1) (own_set1 (i := (k - 1) * 2) (own_set1 (i := k * 2 + 1) (own_set1 (i := k * 2) h.own (qs.getD (k - 1) ppZ).v) (.int .i64 (qs.getD (k - 1) ppZ).x)) (qs.getD k ppZ).v) (.int .i64 (qs.getD k ppZ).x)
  rw [cellsP_set hl, cellsP_set (by rw [List.length_set]; omega)] at h4
  rw [swQ_len]
  exact h4
end Go.Proofs.YtneapbggnnndhaaGreat
