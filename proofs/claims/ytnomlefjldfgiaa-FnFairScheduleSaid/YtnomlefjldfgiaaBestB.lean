/- Stable views bound the right ones: mathematics. -/
import Derived.Test.YtnomlefjldfgiaaEndV
import Derived.Test.YtnomlefjldfgiaaStable
import Derived.Test.YtnomlefjldfgiaaStartL
import Derived.Test.YtnomlefjldfgiaaImpl2
namespace Go.Proofs.Ytnomlefjldfgiaa
open Go.RowKit
set_option linter.unusedVariables false
set_option linter.unusedSimpArgs false

theorem bBet_ofN {m a b : Int} (h : mBet m a b = false) : bBet m a b = false := by unfold bBet; rw [h]; simp
theorem isB_parts {n m a : Int} {es : List Ed} {zs : List Int} (h : isB n es m a zs = true) : vVal n es m a zs = true ∧ vRelax m es zs = zs := by
  unfold isB at h
  rw [Bool.and_eq_true] at h
  refine ⟨h.1, ?_⟩
  have h2 := h.2
  unfold vSame iSame at h2
  simpa using h2
theorem relax_bound {m : Int} (hm : mKind m = true) {es : List Ed} {zs R : List Int} (hl : zs.length = R.length) (he : eAll zs.length es) (hv : vAll m zs) (hR : vAll m R) (hfix : ∀ e ∈ es, mBet m (vGive m R e) (R.getD e.2.1.toNat 0) = false)
    (hb : ∀ v, v < zs.length → mBet m (zs.getD v 0) (R.getD v 0) = false) : ∀ v, v < zs.length → mBet m ((vRelax m es zs).getD v 0) (R.getD v 0) = false := by
  intro v h
  rcases ((vFold_at hm hv es zs rfl he hv).2 v h).2.2 with h3 | ⟨e, hin, e1, e2⟩
  · rw [show (vRelax m es zs).getD v 0 = zs.getD v 0 from h3]
    exact hb v h
  · rw [show (vRelax m es zs).getD v 0 = vGive m zs e from e2]
    have hes := he e hin
    have h4 := hfix e hin
    rw [e1] at h4
    have h5 : mBet m (vGive m zs e) (vGive m R e) = false := by
      unfold vGive
      exact join_mono hm (hR _ (by rw [← hl]; exact hes.1.2)) (hv _ hes.1.2) (mEdge_in hm hes.2.2) (hb _ hes.1.2)
    exact le_trans' hm h4 h5
theorem iter_bound {m : Int} (hm : mKind m = true) {es : List Ed} {zs R : List Int} (hl : zs.length = R.length) (he : eAll zs.length es) (hv : vAll m zs) (hR : vAll m R) (hfix : ∀ e ∈ es, mBet m (vGive m R e) (R.getD e.2.1.toNat 0) = false)
    (hb : ∀ v, v < zs.length → mBet m (zs.getD v 0) (R.getD v 0) = false) : ∀ k v, v < zs.length → mBet m ((vIter m es k zs).getD v 0) (R.getD v 0) = false
  | 0, v, h => hb v h
  | k + 1, v, h => relax_bound hm (by rw [vIter_length]; exact hl) (by rw [vIter_length]; exact he) (vIter_all hm hv he k) hR hfix (fun u hu => iter_bound hm hl he hv hR hfix hb k u (by rw [vIter_length] at hu; exact hu)) v (by rw [vIter_length]; exact h)
theorem start_bound {m : Int} (hm : mKind m = true) {N A : Nat} {R : List Int} (hN : R.length = N) (hR : vAll m R) (hA : R.getD A 0 = mOne m) : ∀ v, v < N → mBet m ((vStart m N A).getD v 0) (R.getD v 0) = false := by
  intro v h
  rw [vStart_at m (N : Int) (A : Int) (by simpa using h)]
  split
  · next e =>
    have e' : v = A := by omega
    subst e'
    rw [hA]
    exact le_refl' hm
  · exact none_worst (hR v (by omega))
/-- The right values are not better than those of a stable view whose source has the measure of an empty path. -/
theorem right_bound {m : Int} (hm : mKind m = true) {es : List Ed} {N A : Nat} {R : List Int} (he : eAll N es) (hR : vAll m R) (hfx : vRelax m es R = R) (hN : R.length = N) (hAN : A < N) (hA : R.getD A 0 = mOne m) : ∀ v, v < N → mBet m ((vRt m (N : Int) es (A : Int)).getD v 0) (R.getD v 0) = false := by
  intro v h
  have hl : (vStart m (N : Int) (A : Int)).length = N := by rw [vStart_length]; omega
  have hfix := fix_of_relax hm (by rw [hN]; exact he) hR hfx
  exact iter_bound hm (by rw [hl, hN]) (by rw [hl]; exact he) (vStart_all hm) hR hfix (fun u hu => start_bound hm hN hR hA u (by rw [hl] at hu; exact hu)) _ v (by rw [hl]; exact h)
end Go.Proofs.Ytnomlefjldfgiaa
namespace Go.Proofs.Ytnomlefjldfgiaa
open Go.RowKit
set_option linter.unusedVariables false
theorem rowE_parts {w : World} {va : Option Addr} {n vc : Nat} {es : List Ed} (h : RowE w (.slice va n vc) es) : es = [] ∨ ∃ b off, va = some ⟨b, off, none⟩ ∧ b < w.heap.size ∧ ∀ i, i < es.length →
    w.cell? ⟨b, off + i * 3, none⟩ = some (.int .i64 (es.getD i (0, 0, 0)).1) ∧ w.cell? ⟨b, off + i * 3 + 1, none⟩ = some (.int .i64 (es.getD i (0, 0, 0)).2.1) ∧ w.cell? ⟨b, off + i * 3 + 2, none⟩ = some (.int .i64 (es.getD i (0, 0, 0)).2.2) := by
  obtain ⟨a, cap, h1, h2⟩ := h
  injection h1 with e1 e2 e3
  subst e1
  exact h2
theorem rExt_ofN {m a b : Int} (hm : mKind m = true) (ha : mIn m a = true) (hb : mIn m b = true) : rExt m a b = mJoin m a b := by
  unfold rExt
  rw [if_pos (bTwo_mk hm ha hb)]
theorem vVal_mk {n : Int} {es : List Ed} {m a : Int} {zs : List Int} (hg : gVal n es = true) (ha : 0 ≤ a ∧ a < n) (hm : mKind m = true) (hl : (zs.length : Int) = n) (hv : vAll m zs) : vVal n es m a zs = true := by
  unfold vVal vFit mAll
  rw [hg, hm, all_of_vAll hv, hl, decide_eq_true ha.1, decide_eq_true ha.2, decide_eq_true rfl]
  rfl
theorem bEdge_ofN {m x : Int} (hm : mKind m = true) (hw : mWeight x = true) : rEdge m x = mEdge m x ∧ bEdge m x = true := by
  have h : bEdge m x = true := by unfold bEdge; rw [hm, hw]; rfl
  exact ⟨by unfold rEdge; rw [if_pos h], h⟩
theorem isB_of {n : Int} {es : List Ed} {m a : Int} {zs : List Int} (h : vVal n es m a zs = true) (hf : vRelax m es zs = zs) : isB n es m a zs = true := by
  unfold isB
  rw [h, hf]
  unfold vSame iSame
  simp
theorem edge_natN {N k : Nat} {es : List Ed} {x y z : Int} (he : eAll N es) (hk : k < es.length) (hx : (x, y, z) = es.getD k (0, 0, 0)) : ∃ X Y : Nat, x = X ∧ y = Y ∧ X < N ∧ Y < N ∧ mWeight z = true := by
  have hin : es.getD k (0, 0, 0) ∈ es := by simp [List.getD, hk]
  have h := he _ hin
  rw [← hx] at h
  simp only at h
  exact ⟨x.toNat, y.toNat, by have := h.1.1; omega, by have := h.2.1.1; omega, h.1.2, h.2.1.2, h.2.2⟩
end Go.Proofs.Ytnomlefjldfgiaa
