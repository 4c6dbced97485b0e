/- The value of paths that meet, and what is chosen: mathematics. -/
import Derived.Test.YtaoecegnjhbagaaBestV
import Derived.Test.YtaoecegnjhbagaaMeetS
namespace Go.Proofs.Ytaoecegnjhbagaa
set_option linter.unusedVariables false
set_option linter.unusedSimpArgs false
section
variable {m V : Int} {xs ys : List Int}
theorem mmK_inv (hm : mKind m = true) {k : Nat} (hV : mIn m V = true) (hin : ∀ i, i < k → mIn m (mJoin m (xs.getD i 0) (ys.getD i 0)) = true) (hle : ∀ i, i < k → mBet m (mJoin m (xs.getD i 0) (ys.getD i 0)) V = false) :
    mIn m (mmK m xs ys k).1 = true ∧ mBet m (mmK m xs ys k).1 V = false ∧ ((mmK m xs ys k).2 = -1 ↔ (mmK m xs ys k).1 = mNone m) ∧ ∀ i, i < k → mBet m (mJoin m (xs.getD i 0) (ys.getD i 0)) (mmK m xs ys k).1 = false := by
  induction k with
  | zero => exact ⟨mNone_in hm, none_worst hV, by simp [mmK], fun i h => by omega⟩
  | succ k ih =>
    obtain ⟨h1, h2, h3, h4⟩ := ih (fun i h => hin i (by omega)) (fun i h => hle i (by omega))
    rw [mmK_succ]
    unfold mmS
    by_cases hc : mBet m (mJoin m (xs.getD k 0) (ys.getD k 0)) (mmK m xs ys k).1 = true
    · rw [if_pos hc]
      refine ⟨hin k (by omega), hle k (by omega), ?_, fun i hi => ?_⟩
      · constructor
        · intro h; simp only at h; omega
        · intro h
          simp only at h
          rw [h] at hc
          rw [none_worst h1] at hc
          cases hc
      · by_cases hik : i = k
        · subst hik; exact le_refl' hm
        · exact le_trans' hm (lt_le hm hc) (h4 i (by omega))
    · rw [if_neg hc]
      refine ⟨h1, h2, h3, fun i hi => ?_⟩
      by_cases hik : i = k
      · subst hik; simpa using hc
      · exact h4 i (by omega)
theorem mmK_val (hm : mKind m = true) {k : Nat} (hV : mIn m V = true) (hin : ∀ i, i < k → mIn m (mJoin m (xs.getD i 0) (ys.getD i 0)) = true) (hle : ∀ i, i < k → mBet m (mJoin m (xs.getD i 0) (ys.getD i 0)) V = false)
    {j : Nat} (hj : j < k) (he : mJoin m (xs.getD j 0) (ys.getD j 0) = V) : (mmK m xs ys k).1 = V ∧ ((mmK m xs ys k).2 = -1 ↔ V = mNone m) := by
  obtain ⟨h1, h2, h3, h4⟩ := mmK_inv hm hV hin hle
  have h5 := h4 j hj
  rw [he] at h5
  have h6 : (mmK m xs ys k).1 = V := le_anti hm h5 h2
  rw [h6] at h3
  exact ⟨h6, h3⟩
end
theorem rev_facts {n : Int} {es : List Ed} (hg : gVal n es = true) : gVal n (rvL es) = true ∧ (∀ e ∈ es, (e.2.1, e.1, e.2.2) ∈ rvL es) ∧ (∀ e ∈ rvL es, (e.2.1, e.1, e.2.2) ∈ es) := by
  obtain ⟨h1, h2, _⟩ := rvL_val hg
  refine ⟨h1, fun e he => (h2 _).2 (List.mem_map.2 ⟨e, he, rfl⟩), fun e he => ?_⟩
  obtain ⟨d, hd, rfl⟩ := List.mem_map.1 ((h2 e).1 he)
  exact hd
/-- Right values along turned edges. -/
theorem rt_rev {n m a : Int} {es : List Ed} (hg : gVal n es = true) (ha : 0 ≤ a ∧ a < n) (hm : mKind m = true) {i : Nat} (hi : i < n.toNat) : (vRt m n (rvL es) (i : Int)).getD a.toNat 0 = (vRt m n es a).getD i 0 := by
  obtain ⟨h1, h2, h3⟩ := rev_facts hg
  exact vRev hm (eAll_of hg) (eAll_of h1) h2 h3 ha.1 (by omega) hi
theorem rt_rev2 {n m a b : Int} {es : List Ed} (hg : gVal n es = true) (ha : 0 ≤ a ∧ a < n) (hb : 0 ≤ b ∧ b < n) (hm : mKind m = true) : (vRt m n (rvL es) b).getD a.toNat 0 = (vRt m n es a).getD b.toNat 0 := by
  have h := rt_rev (i := b.toNat) hg ha hm (by omega)
  rwa [show ((b.toNat : Nat) : Int) = b by omega] at h
theorem mmR_val {n m a b : Int} {es : List Ed} (hg : gVal n es = true) (ha : 0 ≤ a ∧ a < n) (hb : 0 ≤ b ∧ b < n) (hm : mKind m = true) :
    (mmR n es m a b).1 = (vRt m n es a).getD b.toNat 0 ∧ ((mmR n es m a b).2 = -1 ↔ (vRt m n es a).getD b.toNat 0 = mNone m) := by
  have hon : onOk n es m [a, b] = true := by simp [onOk, hg, hm, inN, ha.1, ha.2, hb.1, hb.2]
  obtain ⟨h1, h2, h3⟩ := rev_facts hg
  have he := eAll_of hg
  have he2 := eAll_of h1
  have hys : ∀ i : Nat, i < n.toNat → (vRt m n (rvL es) b).getD i 0 = (vRt m n es (i : Int)).getD b.toNat 0 := fun i hi => by
    have h := rt_rev2 (a := (i : Int)) hg (by omega) hb hm
    rwa [show ((i : Int)).toNat = i by omega] at h
  unfold mmR
  rw [if_pos hon]
  refine mmK_val (V := (vRt m n es a).getD b.toNat 0) (j := b.toNat) hm (vRt_in hm he a (by omega)) (fun i hi => join_in hm (vRt_in hm he a hi) (vRt_in hm he2 b hi)) (fun i hi => ?_) (by omega) ?_
  · have := vTri hm he (a := a) (mid := (i : Int)) (i := b.toNat) ha.1 (by omega) (by omega) (by omega) (by omega)
    rw [show ((i : Int)).toNat = i by omega, ← hys i hi] at this
    exact this
  · have h := vRt_src hm he2 (a := b) hb.1 (by omega)
    show mJoin m ((vRt m n es a).getD b.toNat 0) ((vRt m n (rvL es) b).getD b.toNat 0) = _
    rw [h]
    exact join_one hm (vRt_in hm he a (by omega))
theorem mIs_of {m x : Int} (hm : mKind m = true) (hx : mIn m x = true) : mIs m x = true := by unfold mIs; rw [hm, hx]; rfl
theorem rExt_of {m a b : Int} (hm : mKind m = true) (ha : mIn m a = true) (hb : mIn m b = true) : rExt m a b = mJoin m a b := by
  unfold rExt bTwo
  rw [mIs_of hm ha, mIs_of hm hb]
  rfl
theorem bBet_no {m a b : Int} (h : mBet m a b = false) : bBet m a b = false := by unfold bBet; rw [h]; simp
theorem onOk_two2 {n m a b : Int} {es : List Ed} (hg : gVal n es = true) (ha : 0 ≤ a ∧ a < n) (hb : 0 ≤ b ∧ b < n) (hm : mKind m = true) : onOk n es m [a, b] = true := by simp [onOk, hg, hm, inN, ha.1, ha.2, hb.1, hb.2]
end Go.Proofs.Ytaoecegnjhbagaa
