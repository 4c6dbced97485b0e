/- Relaxing one edge twice: mathematics. -/
import Derived.Test.YtbcbknebjbelmaaOneM
import Derived.Test.YtbcbknebjbelmaaBestB
namespace Go.Proofs.Ytbcbknebjbelmaa
set_option linter.unusedVariables false
set_option linter.unusedSimpArgs false
theorem vLo_twice {m : Int} (hm : mKind m = true) {zs : List Int} {e : Ed} (hv : vAll m zs) (h1 : e.1.toNat < zs.length) (h2 : e.2.1.toNat < zs.length) (hw : mWeight e.2.2 = true) : vLo m (vOne m zs e) e = false := by
  cases h : vLo m zs e
  · rw [vOne_still h h2, h]
  · rw [vOne_loose h]
    have hh := h
    unfold vLo at hh ⊢
    by_cases he : e.1.toNat = e.2.1.toNat
    · exfalso
      have hj : mBet m (vGive m zs e) (zs.getD e.1.toNat 0) = false := by unfold vGive; exact join_worse hm (hv _ h1) (mEdge_in hm hw)
      rw [he] at hj
      rw [hj] at hh
      cases hh
    · have hg : vGive m (zs.set e.2.1.toNat (vGive m zs e)) e = vGive m zs e := by
        unfold vGive
        rw [show (zs.set e.2.1.toNat (mJoin m (zs.getD e.1.toNat 0) (mEdge m e.2.2))).getD e.1.toNat 0 = zs.getD e.1.toNat 0 by simp [List.getD, List.getElem?_set, Ne.symm he]]
      have hx : (zs.set e.2.1.toNat (vGive m zs e)).getD e.2.1.toNat 0 = vGive m zs e := by simp [List.getD, List.getElem?_set, h2]
      rw [hg, hx]
      exact bet_irr _ _
theorem vOne_twice {m : Int} (hm : mKind m = true) {zs : List Int} {e : Ed} (hv : vAll m zs) (h1 : e.1.toNat < zs.length) (h2 : e.2.1.toNat < zs.length) (hw : mWeight e.2.2 = true) : vOne m (vOne m zs e) e = vOne m zs e :=
  vOne_still (vLo_twice hm hv h1 h2 hw) (by rw [vOne_length]; exact h2)
/-- All edges at once make nothing worse than the one edge. -/
theorem one_all {m : Int} (hm : mKind m = true) {zs : List Int} {es : List Ed} {e : Ed} (hv : vAll m zs) (he : eAll zs.length es) (hin : e ∈ es) : mBet m ((vOne m zs e).getD e.2.1.toNat 0) ((vRelax m es zs).getD e.2.1.toNat 0) = false := by
  have h2 := (he e hin).2.1.2
  have hf := (vFold_at hm hv es zs rfl he hv).2 e.2.1.toNat h2
  rw [vOne_at h2, if_pos rfl]
  unfold mBest
  split
  · exact hf.2.1 e hin rfl
  · exact hf.1
end Go.Proofs.Ytbcbknebjbelmaa
