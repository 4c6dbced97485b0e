/- As many fair rounds as the view needs rounds make the view right. -/
import Derived.Test.YtnomlefjldfgiaaFairL
import Derived.Test.YtnomlefjldfgiaaRoundsOf
import Derived.Test.YtnomlefjldfgiaaStartL
namespace Go.Proofs.Ytnomlefjldfgiaa
open Go.RowKit
set_option linter.unusedVariables false
set_option linter.unusedSimpArgs false
theorem bet_totalF {m a b : Int} (h : mBet m a b = false) (h2 : mBet m b a = false) : a = b := by
  unfold mBet at *; split at h <;> simp_all <;> omega
theorem vVal_mkF {n : Int} {es : List Ed} {m a : Int} {zs : List Int} (hg : gVal n es = true) (ha : 0 ≤ a ∧ a < n) (hm : mKind m = true) (hl : (zs.length : Int) = n) (hv : vAll m zs) : vVal n es m a zs = true := by
  unfold vVal vFit mAll
  rw [hg, hm, all_of_vAll hv, hl, decide_eq_true ha.1, decide_eq_true ha.2, decide_eq_true rfl]
  rfl
theorem fr_view {m : Int} {N : Nat} {es : List Ed} {os : List Int} (hm : mKind m = true) (hg : gVal (N : Int) es = true) (h0 : 0 < N) (ho : oOk es.length os = true) (hr : vFirst m es N (vStart m N (0 : Nat)) ≤ (fr es.length os).n) :
    vRun m es (vStart m N (0 : Nat)) os = vRt m N es (0 : Nat) := by
  have heN : eAll (N : Int).toNat es := eAll_of hg
  have he : eAll N es := by simpa using heN
  obtain ⟨U, hU⟩ : ∃ U, U = vStart m (N : Int) ((0 : Nat) : Int) := ⟨_, rfl⟩
  have hlU : U.length = N := by rw [hU, vStart_length]; omega
  have hvU : vAll m U := by rw [hU]; exact vStart_all hm
  have heU : eAll U.length es := by rw [hlU]; exact he
  have hoa := oOk_all ho
  obtain ⟨T, hT⟩ : ∃ T, T = vRt m (N : Int) es ((0 : Nat) : Int) := ⟨_, rfl⟩
  have hlT : T.length = N := by rw [hT, vRt_length]; omega
  have hvT : vAll m T := by rw [hT]; exact vRt_all hm heN _
  have hfT : vRelax m es T = T := by rw [hT]; exact vRt_fix hm heN (by omega) (by omega)
  have heT : eAll T.length es := by rw [hlT]; exact he
  have hfix := fix_of_relax hm heT hvT hfT
  have hle9 : ∀ v, v < U.length → mBet m (U.getD v 0) (T.getD v 0) = false := fun v h => by rw [hT]; unfold vRt; rw [← hU]; exact vIter_le hm hvU heU h _
  have h1 := fr_run hm heU hvU hoa (vIter_all hm hvU heU)
  have h2 := vRun_bound hm hvT hfix os U (by omega) heU hvU hoa hle9
  obtain ⟨⟨h3, -⟩, h4⟩ := first_is (A := 0) hm he h0
  rw [← hU] at h3 h4 hr ⊢
  have h5 : ∀ k, vFirst m es N U ≤ k → vIter m es k U = vIter m es (vFirst m es N U) U := fun k hk => by
    have := vIter_stop m es U _ h3 (k - vFirst m es N U)
    rwa [show vFirst m es N U + (k - vFirst m es N U) = k by omega] at this
  have h6 : vIter m es (fr es.length os).n U = T := by
    rw [h5 _ hr, hT]
    unfold vRt
    rw [← hU, Int.toNat_natCast, h5 N (by omega)]
  rw [h6] at h1
  rw [← hT]
  refine List.ext_getElem (by rw [vRun_length]; omega) fun i hi hi2 => ?_
  have h7 := h1 i (by rw [vRun_length] at hi; exact hi)
  have h8 := h2 i (by rw [vRun_length] at hi; exact hi)
  have h9 := bet_totalF h8 h7
  simpa [List.getD, hi, hi2] using h9
end Go.Proofs.Ytnomlefjldfgiaa
