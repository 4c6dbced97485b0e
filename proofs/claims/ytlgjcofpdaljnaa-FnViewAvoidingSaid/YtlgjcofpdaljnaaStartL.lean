/- Start views: mathematics. -/
import Derived.Test.YtlgjcofpdaljnaaVStartT
import Derived.Test.YtlgjcofpdaljnaaVEdges
import Derived.Test.YtlgjcofpdaljnaaVValS
import Derived.Test.YtlgjcofpdaljnaaPutT
import Derived.Test.YtlgjcofpdaljnaaImpl2
namespace Go.Proofs.Ytlgjcofpdaljnaa
set_option linter.unusedVariables false
set_option linter.unusedSimpArgs false

theorem onOk_one3 {n m a : Int} {es : List Ed} (h : onOk n es m [a] = true) : gVal n es = true ∧ (0 ≤ a ∧ a < n) ∧ mKind m = true := by
  obtain ⟨h1, h2, h3⟩ := onOk_parts h
  exact ⟨h1, h2 a (by simp), h3⟩
theorem onOk_of {n m a : Int} {es : List Ed} (hg : gVal n es = true) (ha : 0 ≤ a ∧ a < n) (hm : mKind m = true) : onOk n es m [a] = true := by
  unfold onOk inN
  simp [hg, hm, ha.1, ha.2]
theorem vSame_self (m a : Int) (L : List Int) : vSame m a L m a L = true := by unfold vSame iSame; simp
theorem rEmpty_of {m : Int} (h : mKind m = true) : rEmpty m = mOne m := by unfold rEmpty; rw [h]; rfl
theorem rNo_of {m : Int} (h : mKind m = true) : rNo m = mNone m := by unfold rNo; rw [h]; rfl
theorem all_of_vAll {m : Int} {zs : List Int} (h : vAll m zs) : zs.all (mIn m) = true := by
  rw [List.all_eq_true]
  intro x hx
  obtain ⟨i, hi, rfl⟩ := List.getElem_of_mem hx
  have := h i hi
  simpa [List.getD, hi] using this
theorem vVal_start {n m a : Int} {es : List Ed} (hg : gVal n es = true) (ha : 0 ≤ a ∧ a < n) (hm : mKind m = true) : vVal n es m a (vStart m n a) = true := by
  have h1 : (vStart m n a).all (mIn m) = true := all_of_vAll (vStart_all hm)
  have h2 : ((vStart m n a).length : Int) = n := by rw [vStart_length]; omega
  unfold vVal vFit mAll
  rw [hg, hm, h1, h2, decide_eq_true ha.1, decide_eq_true ha.2, decide_eq_true rfl]
  rfl
end Go.Proofs.Ytlgjcofpdaljnaa
