/- Settling nodes, in the model. -/
import Derived.Test.YtlmhccjppmhdbaaBestI
import Derived.Test.YtlmhccjppmhdbaaVStartT
import Derived.Test.YtlmhccjppmhdbaaSpec
import Derived.Test.YtlmhccjppmhdbaaClone
namespace Go.Proofs.Ytlmhccjppmhdbaa
open Go.RowKit Go.BigFrame Go.Deep
set_option linter.unusedVariables false
set_option linter.unusedSimpArgs false

set_option maxRecDepth 20000 in
set_option maxHeartbeats 8000000 in
theorem l4Next {m : Int} (hm : mKind m = true) {N S cs : Nat} {vals : List Int} {done : List Bool} {v : Value} {w : World} (hv : Row w v vals) (hd : BR w S done) (hvl : vals.length = N) (hdl : done.length = N) (hN : N ≤ 1048576) :
    Calls Try.prog 87 #[.int .i64 m, v, .slice (some ⟨S, 0, none⟩) N cs] w fun e w' => e = .returned (.int .i64 (nxF m vals done)) ∧ Below w.heap.size w w' := by
  obtain ⟨va, vc, rfl, hz⟩ := id hv
  clear hz
  rw [hvl]
  have HV := Lib.hid hv
  have HD := Lib.hid hd
  have HL := Lib.hid (And.intro hvl hdl)
  have hno := fun w' => calls_below (sNone hm w')
  have HNO := Lib.hid hno
  have hbt := fun a b w' => calls_below (sBet hm a b w')
  have HBT := Lib.hid hbt
  clear hv hd hno hbt hvl hdl
  go_enter Try.func87, Try.ntmps87
  go_wp2
  go_loopw [7, 8] (fun b c wr => ∃ k : Nat, k ≤ N ∧ c = .int .i64 k ∧ b = .int .i64 (nxK m vals done k) ∧ Hid (Below w.heap.size w wr)) (fun _ c _ => N - (intOf c).toNat)
  case atStart => exact ⟨0, Nat.zero_le _, rfl, rfl, Lib.hid (Below.refl _ _)⟩
  case round =>
    obtain ⟨k, hk, rfl, rfl, HB⟩ := hrel
    by_cases hlt : k < N
    · have hlt' : (k : Int) < N := by omega
      have hlv : k < vals.length := by rw [HL.out.1]; exact hlt
      obtain ⟨vb, vo, vc2, hve, hvb, hvc⟩ := HV.out.at hlv
      rw [HL.out.1] at hve
      injection hve with hva _ hvc2
      subst hva hvc2
      obtain ⟨D, hD⟩ : ∃ D, D = done.getD k true := ⟨_, rfl⟩
      obtain ⟨Z, hZ⟩ : ∃ Z, Z = vals.getD k 0 := ⟨_, rfl⟩
      have h1 := hvc k hlv
      have h2 := (HD.out.cell (i := k) (by rw [HL.out.2]; exact hlt)).1
      rw [← hZ] at h1
      rw [← hD] at h2
      have hns : nxK m vals done (k + 1) = if okN m vals done k = true then (if (decide (nxK m vals done k < 0) || mBet m (vals.getD k 0) (vals.getD (nxK m vals done k).toNat 0)) = true then (k : Int) else nxK m vals done k) else nxK m vals done k := rfl
      have hok : okN m vals done k = (!D && !(decide (Z = mNone m))) := by unfold okN; rw [hD, hZ]
      rw [hok, ← hZ] at hns
      have hsp := nxK_spec hm vals done k
      obtain ⟨b, hb⟩ : ∃ b, b = nxK m vals done k := ⟨_, rfl⟩
      rw [← hb] at hns hsp ⊢
      have HBB := Lib.hid hb
      have HDD := Lib.hid (And.intro hD hZ)
      clear hb hok hD hZ
      have fx : ∀ w', Below w.heap.size w w' → w'.cell? ⟨vb, vo + k, none⟩ = some (.int .i64 Z) ∧ w'.cell? ⟨S, k, none⟩ = some (.bool D) := fun w' h => ⟨(h.cell (p := ⟨vb, _, none⟩) hvb).trans h1, (h.cell (p := ⟨S, _, none⟩) HD.out.lt).trans h2⟩
      have FX := Lib.hid fx
      have HVC := Lib.hid hvc
      clear fx h1 h2 hvc
      cases D
      rotate_left
      · rw [show (!true && !(decide (Z = mNone m))) = false by simp, if_neg (by decide)] at hns
        have HNS := Lib.hid hns
        clear hns hsp
        go_wp2_with fail
        refine wp_region_below (by kernel_rfl) (by kernel_rfl) ?_
        repeat (go_big_quiet_step ((intro hw; first | with_reducible rfl | (obtain ⟨f0, f1⟩ := FX.out _ (bel_trans HB.out hw); simp only [f0, f1, Result.andThen]; first | exact ⟨trivial, rfl⟩ | exact ⟨rfl, rfl⟩) | (go_at_call 84; exact quietB (HNO.out _) hw))))
        refine wpQuiet_nil ?_
        intro wa hwa
        have Kwa := Lib.hid (bel_trans HB.out hwa)
        clear hwa
        go_wp2
        go_roundw
        case rel => first | exact ⟨k + 1, by omega, by go_num, by rw [HNS.out], Kwa⟩ | ((repeat apply Exists.intro); exact ⟨⟨k + 1, by omega, by go_num, by rw [HNS.out], Kwa⟩, rfl⟩)
        case measure => simp [intOf]; omega
      by_cases hzn : Z = mNone m
      · have d1 : (Z == mNone m) = true := by simpa using hzn
        rw [show (!false && !(decide (Z = mNone m))) = false by rw [decide_eq_true hzn]; rfl, if_neg (by decide)] at hns
        have HNS := Lib.hid hns
        have HZN := Lib.hid hzn
        clear hns hsp hzn
        go_wp2_with fail
        refine wp_region_below (by kernel_rfl) (by kernel_rfl) ?_
        repeat (go_big_quiet_step ((intro hw; first | with_reducible rfl | (obtain ⟨f0, f1⟩ := FX.out _ (bel_trans HB.out hw); simp only [f0, f1, Result.andThen]; first | exact ⟨trivial, rfl⟩ | exact ⟨rfl, rfl⟩) | (go_at_call 84; exact quietB (HNO.out _) hw))))
        refine wpQuiet_nil ?_
        intro wa hwa
        have Kwa := Lib.hid (bel_trans HB.out hwa)
        clear hwa
        go_wp2
        go_roundw
        case rel => first | exact ⟨k + 1, by omega, by go_num, by rw [HNS.out], Kwa⟩ | ((repeat apply Exists.intro); exact ⟨⟨k + 1, by omega, by go_num, by rw [HNS.out], Kwa⟩, rfl⟩)
        case measure => simp [intOf]; omega
      have d1 : (Z == mNone m) = false := by simpa using hzn
      rw [show (!false && !(decide (Z = mNone m))) = true by rw [decide_eq_false hzn]; rfl, if_pos rfl] at hns
      have HZN := Lib.hid hzn
      clear hzn
      rcases hsp with ⟨hb1, -⟩ | ⟨j, hbj, hj1, hj2, -⟩
      · have d2 : decide (b < 0) = true := decide_eq_true (by omega)
        rw [d2, Bool.true_or, if_pos rfl] at hns
        have HNS := Lib.hid hns
        have HB1 := Lib.hid hb1
        clear hns hb1
        go_wp2_with fail
        refine wp_region_below (by kernel_rfl) (by kernel_rfl) ?_
        repeat (go_big_quiet_step ((intro hw; first | with_reducible rfl | (obtain ⟨f0, f1⟩ := FX.out _ (bel_trans HB.out hw); simp only [f0, f1, Result.andThen]; first | exact ⟨trivial, rfl⟩ | exact ⟨rfl, rfl⟩) | (go_at_call 84; exact quietB (HNO.out _) hw))))
        refine wpQuiet_nil ?_
        intro wa hwa
        have Kwa := Lib.hid (bel_trans HB.out hwa)
        clear hwa
        go_wp2_with fail
        refine wp_region_below (by kernel_rfl) (by kernel_rfl) ?_
        repeat (go_big_quiet_step ((intro hw; first | with_reducible rfl | (obtain ⟨f0, f1⟩ := FX.out _ (bel_trans Kwa.out hw); simp only [f0, f1, Result.andThen]; first | exact ⟨trivial, rfl⟩ | exact ⟨rfl, rfl⟩) | (go_at_call 90; exact quietB (HBT.out _ _ _) hw))))
        refine wpQuiet_nil ?_
        intro wb hwb
        have Kwb := Lib.hid (bel_trans Kwa.out hwb)
        clear hwb
        go_wp2
        go_roundw
        case rel => first | exact ⟨k + 1, by omega, by go_num, by rw [HNS.out], Kwb⟩ | ((repeat apply Exists.intro); exact ⟨⟨k + 1, by omega, by go_num, by rw [HNS.out], Kwb⟩, rfl⟩)
        case measure => simp [intOf]; omega
      · subst hbj
        have d2 : decide ((j : Int) < 0) = false := decide_eq_false (by omega)
        rw [d2, Bool.false_or, Int.toNat_natCast] at hns
        obtain ⟨Y, hY⟩ : ∃ Y, Y = vals.getD j 0 := ⟨_, rfl⟩
        rw [← hY] at hns
        have hcj := HVC.out j (by rw [HL.out.1]; omega)
        rw [← hY] at hcj
        have hj' : (j : Int) < N := by omega
        have fj : ∀ w', Below w.heap.size w w' → w'.cell? ⟨vb, vo + j, none⟩ = some (.int .i64 Y) := fun w' h => (h.cell (p := ⟨vb, _, none⟩) hvb).trans hcj
        have FJ := Lib.hid fj
        have hbt2 := fun w' => HBT.out Z Y w'
        obtain ⟨Bt, hBt⟩ : ∃ Bt, Bt = mBet m Z Y := ⟨_, rfl⟩
        rw [← hBt] at hns hbt2
        have HBT := Lib.hid (fun (a b : Int) w' => hbt2 w')
        have HY := Lib.hid (And.intro hY hBt)
        clear fj hcj hY hBt hbt2
        cases Bt
        · rw [if_neg (by decide)] at hns
          have HNS := Lib.hid hns
          clear hns
          go_wp2_with fail
          refine wp_region_below (by kernel_rfl) (by kernel_rfl) ?_
          repeat (go_big_quiet_step ((intro hw; first | with_reducible rfl | (obtain ⟨f0, f1⟩ := FX.out _ (bel_trans HB.out hw); simp only [f0, f1, Result.andThen]; first | exact ⟨trivial, rfl⟩ | exact ⟨rfl, rfl⟩) | (go_at_call 84; exact quietB (HNO.out _) hw))))
          refine wpQuiet_nil ?_
          intro wa hwa
          have Kwa := Lib.hid (bel_trans HB.out hwa)
          clear hwa
          go_wp2_with fail
          refine wp_region_below (by kernel_rfl) (by kernel_rfl) ?_
          repeat (go_big_quiet_step ((intro hw; first | with_reducible rfl | (obtain ⟨f0, f1⟩ := FX.out _ (bel_trans Kwa.out hw); have f2 := FJ.out _ (bel_trans Kwa.out hw); simp only [f0, f1, f2, Result.andThen]; first | exact ⟨trivial, rfl⟩ | exact ⟨rfl, rfl⟩) | (go_at_call 90; exact quietB (HBT.out 0 0 _) hw))))
          refine wpQuiet_nil ?_
          intro wb hwb
          have Kwb := Lib.hid (bel_trans Kwa.out hwb)
          clear hwb
          go_wp2
          go_roundw
          case rel => first | exact ⟨k + 1, by omega, by go_num, by rw [HNS.out], Kwb⟩ | ((repeat apply Exists.intro); exact ⟨⟨k + 1, by omega, by go_num, by rw [HNS.out], Kwb⟩, rfl⟩)
          case measure => simp [intOf]; omega
        · rw [if_pos rfl] at hns
          have HNS := Lib.hid hns
          clear hns
          go_wp2_with fail
          refine wp_region_below (by kernel_rfl) (by kernel_rfl) ?_
          repeat (go_big_quiet_step ((intro hw; first | with_reducible rfl | (obtain ⟨f0, f1⟩ := FX.out _ (bel_trans HB.out hw); simp only [f0, f1, Result.andThen]; first | exact ⟨trivial, rfl⟩ | exact ⟨rfl, rfl⟩) | (go_at_call 84; exact quietB (HNO.out _) hw))))
          refine wpQuiet_nil ?_
          intro wa hwa
          have Kwa := Lib.hid (bel_trans HB.out hwa)
          clear hwa
          go_wp2_with fail
          refine wp_region_below (by kernel_rfl) (by kernel_rfl) ?_
          repeat (go_big_quiet_step ((intro hw; first | with_reducible rfl | (obtain ⟨f0, f1⟩ := FX.out _ (bel_trans Kwa.out hw); have f2 := FJ.out _ (bel_trans Kwa.out hw); simp only [f0, f1, f2, Result.andThen]; first | exact ⟨trivial, rfl⟩ | exact ⟨rfl, rfl⟩) | (go_at_call 90; exact quietB (HBT.out 0 0 _) hw))))
          refine wpQuiet_nil ?_
          intro wb hwb
          have Kwb := Lib.hid (bel_trans Kwa.out hwb)
          clear hwb
          go_wp2
          go_roundw
          case rel => first | exact ⟨k + 1, by omega, by go_num, by rw [HNS.out], Kwb⟩ | ((repeat apply Exists.intro); exact ⟨⟨k + 1, by omega, by go_num, by rw [HNS.out], Kwb⟩, rfl⟩)
          case measure => simp [intOf]; omega
    · have hkk : ¬ ((k : Int) < N) := by omega
      have hke : k = N := by omega
      have HKE := Lib.hid hke
      clear hke
      go_wp2
      go_ret
      have hfin : nxK m vals done k = nxF m vals done := by unfold nxF; rw [HL.out.1, HKE.out]
      exact ⟨congrArg (fun z => Ending.returned (Value.int .i64 z)) hfin, HB.out⟩
end Go.Proofs.Ytlmhccjppmhdbaa
