/- Right views: mathematics (detours, further edges, reversal). -/
import Derived.Test.YtjcfefpcilhelaaView0
namespace Go.Proofs.Ytjcfefpcilhelaa
set_option linter.unusedVariables false
set_option linter.unusedSimpArgs false

theorem join_assoc {m a b c : Int} (hm : mKind m = true) (ha : mIn m a = true) (hb : mIn m b = true) (hc : mIn m c = true) : mJoin m a (mJoin m b c) = mJoin m (mJoin m a b) c := by
  have h1 := mIn_low hm ha
  have h2 := mIn_low hm hb
  have h3 := mIn_low hm hc
  rcases mKind_cases hm with rfl | rfl | rfl | rfl | rfl <;> simp [mJoin] <;> omega
theorem join_comm {m a b : Int} (hm : mKind m = true) : mJoin m a b = mJoin m b a := by
  rcases mKind_cases hm with rfl | rfl | rfl | rfl | rfl <;> simp [mJoin] <;> omega
theorem join_one {m a : Int} (hm : mKind m = true) (ha : mIn m a = true) : mJoin m a (mOne m) = a := by
  have h1 := mIn_low hm ha
  rcases mKind_cases hm with rfl | rfl | rfl | rfl | rfl <;> simp [mJoin, mOne, mIn, mBet, mNone] at * <;> omega
theorem join_in {m a b : Int} (hm : mKind m = true) (ha : mIn m a = true) (hb : mIn m b = true) : mIn m (mJoin m a b) = true := by
  have h1 := mIn_low hm ha
  have h2 := mIn_low hm hb
  rcases mKind_cases hm with rfl | rfl | rfl | rfl | rfl <;> simp [mJoin, mOne, mIn, mBet, mNone] at * <;> omega

/-- Values that no edge makes better. -/
def vSt (m : Int) (es : List Ed) (u : List Int) : Prop := ∀ e ∈ es, mBet m (vGive m u e) (u.getD e.2.1.toNat 0) = false
/-- The right values. -/
def vRt (m n : Int) (es : List Ed) (a : Int) : List Int := vIter m es n.toNat (vStart m n a)
section
variable {m n : Int} {es : List Ed}
theorem vRt_length (a : Int) : (vRt m n es a).length = n.toNat := by unfold vRt; rw [vIter_length, vStart_length]
theorem vRt_all (hm : mKind m = true) (he : eAll n.toNat es) (a : Int) : vAll m (vRt m n es a) := by
  unfold vRt
  exact vIter_all hm (vStart_all hm) (by rw [vStart_length]; exact he) _
theorem vRt_in (hm : mKind m = true) (he : eAll n.toNat es) (a : Int) {i : Nat} (hi : i < n.toNat) : mIn m ((vRt m n es a).getD i 0) = true := vRt_all hm he a i (by rw [vRt_length]; exact hi)
theorem vRt_fix (hm : mKind m = true) (he : eAll n.toNat es) {a : Int} (h0 : 0 ≤ a) (h1 : a.toNat < n.toNat) : vRelax m es (vRt m n es a) = vRt m n es a := vEnd hm he h0 h1 (k := n.toNat) (by omega)
theorem vSt_of_fix (hm : mKind m = true) {u : List Int} (hu : vAll m u) (he : eAll u.length es) (hf : vRelax m es u = u) : vSt m es u := by
  intro e hein
  have h := ((vFold_at hm hu es u rfl he hu).2 e.2.1.toNat (he e hein).2.1.2).2.1 e hein rfl
  have : es.foldl (vUp m u) u = u := hf
  rwa [this] at h
theorem vRt_st (hm : mKind m = true) (he : eAll n.toNat es) {a : Int} (h0 : 0 ≤ a) (h1 : a.toNat < n.toNat) : vSt m es (vRt m n es a) :=
  vSt_of_fix hm (vRt_all hm he a) (by rw [vRt_length]; exact he) (vRt_fix hm he h0 h1)
theorem vIter_le (hm : mKind m = true) {zs : List Int} (hz : vAll m zs) (he : eAll zs.length es) {i : Nat} (hi : i < zs.length) : ∀ k, mBet m (zs.getD i 0) ((vIter m es k zs).getD i 0) = false
  | 0 => le_refl' hm
  | k + 1 => by
    have hl : (vIter m es k zs).length = zs.length := vIter_length m es zs k
    have hs := ((vFold_at hm (vIter_all hm hz he k) es (vIter m es k zs) rfl (by rw [hl]; exact he) (vIter_all hm hz he k)).2 i (by rw [hl]; exact hi)).1
    exact le_trans' hm hs (vIter_le hm hz he hi k)
theorem vRt_src (hm : mKind m = true) (he : eAll n.toNat es) {a : Int} (h0 : 0 ≤ a) (h1 : a.toNat < n.toNat) : (vRt m n es a).getD a.toNat 0 = mOne m := by
  have h2 := vIter_le (es := es) hm (vStart_all (n := n) (src := a) hm) (by rw [vStart_length]; exact he) (i := a.toNat) (by rw [vStart_length]; exact h1) n.toNat
  rw [vStart_at m n a h1, if_pos (by omega)] at h2
  exact le_anti hm h2 (one_best (vRt_in hm he a h1))
/-- Stable values are not worse than a path to a node and the right values from there. -/
theorem vLow (hm : mKind m = true) (he : eAll n.toNat es) {u : List Int} (hu : vAll m u) (hl : u.length = n.toNat) (hs : vSt m es u) {c : Int} (hc : mIn m c = true) {mid : Int} (h0 : 0 ≤ mid) (hc0 : mBet m c (u.getD mid.toNat 0) = false) :
    ∀ (k i : Nat), i < n.toNat → mBet m (mJoin m c ((vIter m es k (vStart m n mid)).getD i 0)) (u.getD i 0) = false
  | 0, i, hi => by
    show mBet m (mJoin m c ((vStart m n mid).getD i 0)) (u.getD i 0) = false
    rw [vStart_at m n mid hi]
    by_cases h : (i : Int) = mid
    · rw [if_pos h, join_one hm hc]
      have : mid.toNat = i := by omega
      rwa [this] at hc0
    · rw [if_neg h, join_comm hm, join_none hm hc]
      exact none_worst (hu i (by omega))
  | k + 1, i, hi => by
    have hall := vIter_all hm (vStart_all (n := n) (src := mid) hm) (by rw [vStart_length]; exact he) k
    have hlen : (vIter m es k (vStart m n mid)).length = n.toNat := by rw [vIter_length, vStart_length]
    have h := ((vFold_at hm hall es _ rfl (by rw [hlen]; exact he) hall).2 i (by rw [hlen]; exact hi)).2.2
    rcases h with h | ⟨e, hein, hev, h⟩
    · show mBet m (mJoin m c ((es.foldl (vUp m (vIter m es k (vStart m n mid))) (vIter m es k (vStart m n mid))).getD i 0)) (u.getD i 0) = false
      rw [h]
      exact vLow hm he hu hl hs hc h0 hc0 k i hi
    · show mBet m (mJoin m c ((es.foldl (vUp m (vIter m es k (vStart m n mid))) (vIter m es k (vStart m n mid))).getD i 0)) (u.getD i 0) = false
      rw [h]
      have hee := he e hein
      have hz := hall e.1.toNat (by rw [hlen]; exact hee.1.2)
      have hw := mEdge_in hm hee.2.2
      have h1 := vLow hm he hu hl hs hc h0 hc0 k e.1.toNat hee.1.2
      have h2 := hs e hein
      rw [hev] at h2
      unfold vGive at h2 ⊢
      rw [join_assoc hm hc hz hw]
      exact le_trans' hm h2 (join_mono hm (hu _ (by rw [hl]; exact hee.1.2)) (join_in hm hc hz) hw h1)
/-- Detours are not better. -/
theorem vTri (hm : mKind m = true) (he : eAll n.toNat es) {a mid : Int} (h0 : 0 ≤ a) (h1 : a.toNat < n.toNat) (g0 : 0 ≤ mid) (g1 : mid.toNat < n.toNat) {i : Nat} (hi : i < n.toNat) :
    mBet m (mJoin m ((vRt m n es a).getD mid.toNat 0) ((vRt m n es mid).getD i 0)) ((vRt m n es a).getD i 0) = false :=
  vLow hm he (vRt_all hm he a) (vRt_length a) (vRt_st hm he h0 h1) (vRt_in hm he a g1) g0 (le_refl' hm) n.toNat i hi
/-- Stable values with an empty path at the source are not worse than the right ones. -/
theorem vBest (hm : mKind m = true) (he : eAll n.toNat es) {u : List Int} (hu : vAll m u) (hl : u.length = n.toNat) (hs : vSt m es u) {a : Int} (h0 : 0 ≤ a) (h1 : a.toNat < n.toNat) (hu1 : u.getD a.toNat 0 = mOne m) {i : Nat} (hi : i < n.toNat) :
    mBet m ((vRt m n es a).getD i 0) (u.getD i 0) = false := by
  have h : mBet m (mJoin m (mOne m) ((vRt m n es a).getD i 0)) (u.getD i 0) = false := vLow hm he hu hl hs (mOne_in hm) h0 (by rw [hu1]; exact le_refl' hm) n.toNat i hi
  rw [join_comm hm, join_one hm (vRt_in hm he a hi)] at h
  exact h
/-- More edges are not worse. -/
theorem vMore (hm : mKind m = true) (he : eAll n.toNat es) {fs : List Ed} (hf : eAll n.toNat fs) (hsub : ∀ e ∈ es, e ∈ fs) {a : Int} (h0 : 0 ≤ a) (h1 : a.toNat < n.toNat) {i : Nat} (hi : i < n.toNat) :
    mBet m ((vRt m n es a).getD i 0) ((vRt m n fs a).getD i 0) = false :=
  vBest hm he (vRt_all hm hf a) (vRt_length a) (fun e h => vRt_st hm hf h0 h1 e (hsub e h)) h0 h1 (vRt_src hm hf h0 h1) hi
/-- Backwards along the edges. -/
theorem vRev1 (hm : mKind m = true) (he : eAll n.toNat es) {fs : List Ed} (hf : eAll n.toNat fs) (hr : ∀ e ∈ es, (e.2.1, e.1, e.2.2) ∈ fs) {a : Int} (h0 : 0 ≤ a) (h1 : a.toNat < n.toNat) :
    ∀ (k i : Nat), i < n.toNat → mBet m ((vIter m es k (vStart m n a)).getD i 0) ((vRt m n fs (i : Int)).getD a.toNat 0) = false
  | 0, i, hi => by
    show mBet m ((vStart m n a).getD i 0) ((vRt m n fs (i : Int)).getD a.toNat 0) = false
    rw [vStart_at m n a hi]
    by_cases h : (i : Int) = a
    · rw [if_pos h, h, vRt_src hm hf h0 h1]
      exact le_refl' hm
    · rw [if_neg h]
      exact none_worst (vRt_in hm hf _ h1)
  | k + 1, i, hi => by
    have hall := vIter_all hm (vStart_all (n := n) (src := a) hm) (by rw [vStart_length]; exact he) k
    have hlen : (vIter m es k (vStart m n a)).length = n.toNat := by rw [vIter_length, vStart_length]
    have h := ((vFold_at hm hall es _ rfl (by rw [hlen]; exact he) hall).2 i (by rw [hlen]; exact hi)).2.2
    rcases h with h | ⟨e, hein, hev, h⟩
    · show mBet m ((es.foldl (vUp m (vIter m es k (vStart m n a))) (vIter m es k (vStart m n a))).getD i 0) _ = false
      rw [h]
      exact vRev1 hm he hf hr h0 h1 k i hi
    · show mBet m ((es.foldl (vUp m (vIter m es k (vStart m n a))) (vIter m es k (vStart m n a))).getD i 0) _ = false
      rw [h]
      have hee := he e hein
      have hz := hall e.1.toNat (by rw [hlen]; exact hee.1.2)
      have hw := mEdge_in hm hee.2.2
      have hfe := hr e hein
      have h2 := vRev1 hm he hf hr h0 h1 k e.1.toNat hee.1.2
      have hi1 : (i : Int) = e.2.1 := by omega
      have hi2 : ((e.1.toNat : Nat) : Int) = e.1 := by omega
      rw [hi2] at h2
      have h3 := vTri hm hf (a := (i : Int)) (mid := e.1) (by omega) (by omega) hee.1.1 hee.1.2 h1
      have h4 := vRt_st hm hf (a := (i : Int)) (by omega) (by omega) _ hfe
      unfold vGive at h4
      simp only at h4
      have h5 : (vRt m n fs (i : Int)).getD e.2.1.toNat 0 = mOne m := by
        have := vRt_src hm hf (a := (i : Int)) (by omega) (by omega)
        rwa [show ((i : Int)).toNat = e.2.1.toNat by omega] at this
      rw [h5, join_comm hm, join_one hm hw] at h4
      have hA := vRt_in hm hf (i : Int) hee.1.2
      have hB := vRt_in hm hf e.1 h1
      have h6 := join_mono hm hA hw hB h4
      have h7 := join_mono hm hB hz hw h2
      unfold vGive
      refine le_trans' hm h3 (le_trans' hm h6 ?_)
      rw [join_comm (a := mEdge m e.2.2) hm]
      exact h7
/-- The value from a node to another is that back in the turned graph. -/
theorem vRev (hm : mKind m = true) (he : eAll n.toNat es) {fs : List Ed} (hf : eAll n.toNat fs) (hr : ∀ e ∈ es, (e.2.1, e.1, e.2.2) ∈ fs) (hr2 : ∀ e ∈ fs, (e.2.1, e.1, e.2.2) ∈ es) {a : Int} (h0 : 0 ≤ a) (h1 : a.toNat < n.toNat) {i : Nat} (hi : i < n.toNat) :
    (vRt m n fs (i : Int)).getD a.toNat 0 = (vRt m n es a).getD i 0 := by
  have h2 := vRev1 hm he hf hr h0 h1 n.toNat i hi
  have h3 := vRev1 hm hf he hr2 (a := (i : Int)) (by omega) (by omega) n.toNat a.toNat h1
  rw [show ((a.toNat : Nat) : Int) = a by omega, show ((i : Int)).toNat = i by omega] at h3
  exact le_anti hm h2 h3
end
end Go.Proofs.Ytjcfefpcilhelaa
