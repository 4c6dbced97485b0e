/- Kept views, in the model: validity, the nodes below one, paths, and the edges of the tree. -/
import Derived.Test.YtdblcaeeepkebaaKeptS
import Derived.Test.YtdblcaeeepkebaaKeptN
import Derived.Test.YtdblcaeeepkebaaPathToS
namespace Go.Proofs.Ytdblcaeeepkebaa
open Go.RowKit Go.BigFrame Go.Deep
set_option linter.unusedVariables false
set_option linter.unusedSimpArgs false

set_option maxRecDepth 20000 in
set_option maxHeartbeats 16000000 in
theorem sKeptValid (n m A : Int) (es : List Ed) (zs ps : List Int) (s v p : Value) (w : World) (hs : RowE w s es) (hv : Row w v zs) (hp : Row w p ps) (hl : es.length ≤ 1048576) (hl2 : zs.length ≤ 1048576) (hl3 : ps.length ≤ 1048576) :
    Calls Try.prog 35 #[.agg (kC n m A s v p)] w fun e w' => e = .returned (.bool (kVal n m A es zs ps)) ∧ Below w.heap.size w w' := by
  obtain ⟨sa, sc, rfl, hz0⟩ := id hs
  obtain ⟨va, vc, rfl, hz1⟩ := id hv
  obtain ⟨pa, pc, rfl, hz2⟩ := id hp
  clear hz0 hz1 hz2
  have b0 := Box.new w 57 (kC n m A (.slice sa es.length sc) (.slice va zs.length vc) (.slice pa ps.length pc))
  have hb0 : Below w.heap.size w (w.alloc (.cells (kC n m A (.slice sa es.length sc) (.slice va zs.length vc) (.slice pa ps.length pc)) 57)) := (Below.refl _ _).alloc (Nat.le_refl _) _
  have K0 := Lib.hid (And.intro hb0 b0)
  have fx : ∀ w', Box w' w.heap.size 57 (kC n m A (.slice sa es.length sc) (.slice va zs.length vc) (.slice pa ps.length pc)) → w'.cell? ⟨w.heap.size, 0, none⟩ = some (.int .i64 n) ∧ w'.cell? ⟨w.heap.size, 1, none⟩ = some (.slice sa es.length sc) ∧ w'.cell? ⟨w.heap.size, 2, none⟩ = some (.int .i64 m) ∧ w'.cell? ⟨w.heap.size, 3, none⟩ = some (.int .i64 A) ∧ w'.cell? ⟨w.heap.size, 4, none⟩ = some (.slice va zs.length vc) ∧ w'.cell? ⟨w.heap.size, 5, none⟩ = some (.slice pa ps.length pc) :=
    fun w' hb => ⟨by simpa using hb.cell 0, by simpa using hb.cell 1, by simpa using hb.cell 2, by simpa using hb.cell 3, by simpa using hb.cell 4, by simpa using hb.cell 5⟩
  have FX := Lib.hid fx
  clear b0 hb0 fx
  have ho := fun w' (h : Below w.heap.size w w') => sViewValid n m A es zs (.slice sa es.length sc) (.slice va zs.length vc) w' (hs.keep h) (hv.keep h) (by omega) (by omega)
  have HS := Lib.hid hs
  have HV := Lib.hid hv
  have HP := Lib.hid hp
  clear hs hv hp
  unfold kVal
  cases hV : vVal n es m A zs
  · rw [hV] at ho
    rw [Bool.false_and, Bool.false_and]
    have HO := Lib.hid ho
    clear ho hV
    go_enter Try.func35, Try.ntmps35
    go_wp2_with fail
    generalize (w.alloc (.cells (kC n m A (.slice sa es.length sc) (.slice va zs.length vc) (.slice pa ps.length pc)) 57)) = w0 at K0 ⊢
    obtain ⟨x0, x1, x2, x3, x4, x5⟩ := FX.out _ K0.out.2
    go_wp2_with (go_at_call 57; (with_reducible refine (HO.out _ K0.out.1).mono ?_); rintro e w1 ⟨rfl, hb1⟩; have K1 := Lib.hid (And.intro (bel_trans K0.out.1 hb1) (K0.out.2.keep hb1)); clear x0 x1 x2 x3 x4 x5; obtain ⟨x0, x1, x2, x3, x4, x5⟩ := FX.out _ K1.out.2)
    go_ret
    exact ⟨rfl, K1.out.1⟩
  rw [hV] at ho
  rw [Bool.true_and]
  obtain ⟨hg, hA, hzn, hm, hva⟩ := vVal_parts hV
  have HO := Lib.hid ho
  clear ho hV
  by_cases hn : (ps.length : Int) = n
  rotate_left
  · have d1 : decide ((ps.length : Int) = n) = false := decide_eq_false hn
    have d2 : ((ps.length : Int) == n) = false := by simpa using hn
    have d3 : ((ps.length : Int) != n) = true := by simpa using hn
    rw [d1, Bool.false_and]
    have HNN := Lib.hid hn
    clear hn
    go_enter Try.func35, Try.ntmps35
    go_wp2_with fail
    generalize (w.alloc (.cells (kC n m A (.slice sa es.length sc) (.slice va zs.length vc) (.slice pa ps.length pc)) 57)) = w0 at K0 ⊢
    obtain ⟨x0, x1, x2, x3, x4, x5⟩ := FX.out _ K0.out.2
    go_wp2_with (go_at_call 57; (with_reducible refine (HO.out _ K0.out.1).mono ?_); rintro e w1 ⟨rfl, hb1⟩; have K1 := Lib.hid (And.intro (bel_trans K0.out.1 hb1) (K0.out.2.keep hb1)); clear x0 x1 x2 x3 x4 x5; obtain ⟨x0, x1, x2, x3, x4, x5⟩ := FX.out _ K1.out.2)
    go_ret
    exact ⟨rfl, K1.out.1⟩
  have d1 : decide ((ps.length : Int) = n) = true := decide_eq_true hn
  have d2 : ((ps.length : Int) == n) = true := by simpa using hn
  have d3 : ((ps.length : Int) != n) = false := by simpa using hn
  rw [d1, Bool.true_and]
  obtain ⟨g1, g2, g3, _⟩ := gVal_parts hg
  obtain ⟨N, rfl⟩ : ∃ N : Nat, n = N := ⟨n.toNat, by omega⟩
  obtain ⟨A0, rfl⟩ : ∃ A0 : Nat, A = A0 := ⟨A.toNat, by omega⟩
  have hr := fun w' (h : Below w.heap.size w w') => l3View m es N A0 (.slice sa es.length sc) w' hm (HS.out.keep h) (by omega) (by omega) (by omega) (by have := eAll_of hg; simpa using this)
  have HR := Lib.hid hr
  rw [Int.toNat_natCast, fit_eq hg hn]
  have HNN := Lib.hid hn
  have HZN := Lib.hid hzn
  have HG := Lib.hid hg
  have HVA := Lib.hid hva
  clear hr hn hzn hg hva
  obtain ⟨E, hE⟩ : ∃ E, E = iSame zs (vIter m es N (vStart m N A0)) := ⟨_, rfl⟩
  have hvs := fun u w' (hu : Row w' u (vIter m es N (vStart m N A0))) (h : Below w.heap.size w w') => sViewSame m A0 m A0 zs (vIter m es N (vStart m N A0)) (.slice va zs.length vc) u w' (HV.out.keep h) hu (by omega) (by rw [vIter_length, vStart_length]; omega)
  have evs : vSame m A0 zs m A0 (vIter m es N (vStart m N A0)) = E := by unfold vSame; rw [hE]; simp
  rw [evs] at hvs
  rw [← hE]
  have HE := Lib.hid hE
  have HVS := Lib.hid hvs
  clear hE hvs evs
  cases E
  · rw [Bool.false_and]
    go_enter Try.func35, Try.ntmps35
    go_wp2_with fail
    generalize (w.alloc (.cells (kC N m A0 (.slice sa es.length sc) (.slice va zs.length vc) (.slice pa ps.length pc)) 57)) = w0 at K0 ⊢
    obtain ⟨x0, x1, x2, x3, x4, x5⟩ := FX.out _ K0.out.2
    go_wp2_with (go_at_call 57; (with_reducible refine (HO.out _ K0.out.1).mono ?_); rintro e w1 ⟨rfl, hb1⟩; have K1 := Lib.hid (And.intro (bel_trans K0.out.1 hb1) (K0.out.2.keep hb1)); clear x0 x1 x2 x3 x4 x5; obtain ⟨x0, x1, x2, x3, x4, x5⟩ := FX.out _ K1.out.2)
    have fxa : ∀ w', Below w1.heap.size w1 w' → (w'.cell? ⟨w.heap.size, 0, none⟩ = some (.int .i64 N) ∧ w'.cell? ⟨w.heap.size, 1, none⟩ = some (.slice sa es.length sc) ∧ w'.cell? ⟨w.heap.size, 2, none⟩ = some (.int .i64 m) ∧ w'.cell? ⟨w.heap.size, 3, none⟩ = some (.int .i64 A0) ∧ w'.cell? ⟨w.heap.size, 4, none⟩ = some (.slice va zs.length vc) ∧ w'.cell? ⟨w.heap.size, 5, none⟩ = some (.slice pa ps.length pc)) := fun w' h => FX.out _ (K1.out.2.keep h)
    have FXA := Lib.hid fxa
    clear fxa
    go_region_held3 (fun w' : World => w'.cell? ⟨w.heap.size, 0, none⟩ = some (.int .i64 N) ∧ w'.cell? ⟨w.heap.size, 1, none⟩ = some (.slice sa es.length sc) ∧ w'.cell? ⟨w.heap.size, 2, none⟩ = some (.int .i64 m) ∧ w'.cell? ⟨w.heap.size, 3, none⟩ = some (.int .i64 A0) ∧ w'.cell? ⟨w.heap.size, 4, none⟩ = some (.slice va zs.length vc) ∧ w'.cell? ⟨w.heap.size, 5, none⟩ = some (.slice pa ps.length pc)) (first | exact FXA.out _ ((Below.refl _ _).drew) | exact FXA.out _ (bel_trans ((Below.refl _ _).drew) hbA) | exact FXA.out _ (bel_trans (bel_trans ((Below.refl _ _).drew) hbA) hbB)) (first | (go_at_call 62; (with_reducible refine (HR.out _ (bel_trans K1.out.1 ((Below.refl _ _).drew))).mono ?_); rintro e wA ⟨u, rfl, hown, hok, hbA⟩; obtain ⟨ua, uc, rfl⟩ := hown.slice; have HROW : Hid (Row wA (.slice ua (vIter m es N (vStart m N A0)).length uc) (vIter m es N (vStart m N A0))) := Lib.hid (InR.rowI hown); clear hown hok) | (go_at_call 73; (with_reducible refine (HVS.out _ _ HROW.out (bel_trans (bel_trans K1.out.1 ((Below.refl _ _).drew)) hbA)).mono ?_); rintro e wB ⟨rfl, hbB⟩))
    all_goals
      have K3 := Lib.hid (And.intro (bel_trans (bel_trans (bel_trans K1.out.1 ((Below.refl _ _).drew)) hbA) hbB) (((K1.out.2.keep ((Below.refl _ _).drew)).keep hbA).keep hbB))
      clear hbA hbB FXA HROW x0 x1 x2 x3 x4 x5
      obtain ⟨x0, x1, x2, x3, x4, x5⟩ := FX.out _ K3.out.2
      go_wp2
      go_ret
      exact ⟨rfl, K3.out.1⟩
  rw [Bool.true_and]
  have hnone := fun w' => calls_below (sNone hm w')
  have HNONE := Lib.hid hnone
  obtain ⟨R1, hR1⟩ : ∃ R, R = (List.range ps.length).all (rngK N m A0 zs ps) := ⟨_, rfl⟩
  obtain ⟨R2, hR2⟩ : ∃ R, R = (List.range ps.length).all (fit2K m A0 es zs ps) := ⟨_, rfl⟩
  rw [← hR1, ← hR2]
  have HR1 := Lib.hid hR1
  have HR2 := Lib.hid hR2
  have htight := fun i hi w' (h : Below w.heap.size w w') => l6Tight N m A0 es zs ps (.slice sa es.length sc) (.slice va zs.length vc) (.slice pa ps.length pc) i w' hm HG.out (HS.out.keep h) (HV.out.keep h) (HP.out.keep h) HZN.out HNN.out HVA.out hi
  have HTI := Lib.hid htight
  have hup := fun (i : Nat) (hi : i < ps.length) (hpo : parOk ps) w' (h : Below w.heap.size w w') => l6Up N m A0 es zs ps (.slice sa es.length sc) (.slice va zs.length vc) (.slice pa ps.length pc) i w' (HS.out.keep h) (HV.out.keep h) (HP.out.keep h) hl3 hpo (by omega) (by omega)
  have HUP := Lib.hid hup
  clear hnone hR1 hR2 htight hup
  go_enter Try.func35, Try.ntmps35
  go_wp2_with fail
  generalize (w.alloc (.cells (kC N m A0 (.slice sa es.length sc) (.slice va zs.length vc) (.slice pa ps.length pc)) 57)) = w0 at K0 ⊢
  obtain ⟨x0, x1, x2, x3, x4, x5⟩ := FX.out _ K0.out.2
  go_wp2_with (go_at_call 57; (with_reducible refine (HO.out _ K0.out.1).mono ?_); rintro e w1 ⟨rfl, hb1⟩; have K1 := Lib.hid (And.intro (bel_trans K0.out.1 hb1) (K0.out.2.keep hb1)); clear x0 x1 x2 x3 x4 x5; obtain ⟨x0, x1, x2, x3, x4, x5⟩ := FX.out _ K1.out.2)
  have fxa : ∀ w', Below w1.heap.size w1 w' → (w'.cell? ⟨w.heap.size, 0, none⟩ = some (.int .i64 N) ∧ w'.cell? ⟨w.heap.size, 1, none⟩ = some (.slice sa es.length sc) ∧ w'.cell? ⟨w.heap.size, 2, none⟩ = some (.int .i64 m) ∧ w'.cell? ⟨w.heap.size, 3, none⟩ = some (.int .i64 A0) ∧ w'.cell? ⟨w.heap.size, 4, none⟩ = some (.slice va zs.length vc) ∧ w'.cell? ⟨w.heap.size, 5, none⟩ = some (.slice pa ps.length pc)) := fun w' h => FX.out _ (K1.out.2.keep h)
  have FXA := Lib.hid fxa
  clear fxa
  go_region_held3 (fun w' : World => w'.cell? ⟨w.heap.size, 0, none⟩ = some (.int .i64 N) ∧ w'.cell? ⟨w.heap.size, 1, none⟩ = some (.slice sa es.length sc) ∧ w'.cell? ⟨w.heap.size, 2, none⟩ = some (.int .i64 m) ∧ w'.cell? ⟨w.heap.size, 3, none⟩ = some (.int .i64 A0) ∧ w'.cell? ⟨w.heap.size, 4, none⟩ = some (.slice va zs.length vc) ∧ w'.cell? ⟨w.heap.size, 5, none⟩ = some (.slice pa ps.length pc)) (first | exact FXA.out _ ((Below.refl _ _).drew) | exact FXA.out _ (bel_trans ((Below.refl _ _).drew) hbA) | exact FXA.out _ (bel_trans (bel_trans ((Below.refl _ _).drew) hbA) hbB)) (first | (go_at_call 62; (with_reducible refine (HR.out _ (bel_trans K1.out.1 ((Below.refl _ _).drew))).mono ?_); rintro e wA ⟨u, rfl, hown, hok, hbA⟩; obtain ⟨ua, uc, rfl⟩ := hown.slice; have HROW : Hid (Row wA (.slice ua (vIter m es N (vStart m N A0)).length uc) (vIter m es N (vStart m N A0))) := Lib.hid (InR.rowI hown); clear hown hok) | (go_at_call 73; (with_reducible refine (HVS.out _ _ HROW.out (bel_trans (bel_trans K1.out.1 ((Below.refl _ _).drew)) hbA)).mono ?_); rintro e wB ⟨rfl, hbB⟩))
  all_goals
    have K3 := Lib.hid (And.intro (bel_trans (bel_trans (bel_trans K1.out.1 ((Below.refl _ _).drew)) hbA) hbB) (((K1.out.2.keep ((Below.refl _ _).drew)).keep hbA).keep hbB))
    clear hbA hbB FXA HROW x0 x1 x2 x3 x4 x5
    obtain ⟨x0, x1, x2, x3, x4, x5⟩ := FX.out _ K3.out.2
    go_wp2_with fail
    go_loopw [3] (fun c wr => ∃ k : Nat, k ≤ ps.length ∧ c = .int .i64 k ∧ Hid (∀ i, i < k → rngK N m A0 zs ps i = true) ∧ Hid (Below w.heap.size w wr ∧ Box wr w.heap.size 57 (kC N m A0 (.slice sa es.length sc) (.slice va zs.length vc) (.slice pa ps.length pc)))) (fun c _ => ps.length - (intOf c).toNat)
    case atStart => exact ⟨0, Nat.zero_le _, rfl, Lib.hid (fun i hi => absurd hi (Nat.not_lt_zero _)), K3⟩
    case round =>
      obtain ⟨k, hk, rfl, HA, HK⟩ := hrel
      clear x0 x1 x2 x3 x4 x5 K3
      obtain ⟨x0, x1, x2, x3, x4, x5⟩ := FX.out _ HK.out.2
      by_cases hlt : k < ps.length
      · have hlt' : (k : Int) < ps.length := by omega
        obtain ⟨pb, po, pc2, hpe, hpb, hpc⟩ := HP.out.at hlt
        injection hpe with hpa _ hpc2
        subst hpa hpc2
        have hlz : k < zs.length := by have := HZN.out; have := HNN.out; omega
        have hlz' : (k : Int) < zs.length := by omega
        obtain ⟨vb, vo, vc2, hve, hvb, hvc⟩ := HV.out.at hlz
        injection hve with hva _ hvc2
        subst hva hvc2
        obtain ⟨P, hP⟩ : ∃ P, P = ps.getD k 0 := ⟨_, rfl⟩
        obtain ⟨Z, hZ⟩ : ∃ Z, Z = zs.getD k 0 := ⟨_, rfl⟩
        have hpk := hpc k hlt
        have hvk := hvc k hlz
        rw [← hP] at hpk
        rw [← hZ] at hvk
        have fr : ∀ w', Below w.heap.size w w' → w'.cell? ⟨vb, vo + k, none⟩ = some (.int .i64 Z) ∧ w'.cell? ⟨pb, po + k, none⟩ = some (.int .i64 P) := fun w' h => ⟨(h.cell (p := ⟨vb, _, none⟩) hvb).trans hvk, (h.cell (p := ⟨pb, _, none⟩) hpb).trans hpk⟩
        have FR := Lib.hid fr
        have hrng : rngK N m A0 zs ps k = (if (decide ((k : Int) = A0) || decide (Z = mNone m)) = true then decide (P = -1) else decide (0 ≤ P) && decide (P < N)) := by unfold rngK freeK; rw [hP, hZ]
        clear hpc hvc hpk hvk fr hP hZ
        have hgood : rngK N m A0 zs ps k = true → Hid (∀ i, i < k + 1 → rngK N m A0 zs ps i = true) := fun h => Lib.hid (fun i hi => by
          by_cases e : i = k
          · subst e; exact h
          · exact HA.out i (by omega))
        have hbad : rngK N m A0 zs ps k = false → Hid (R1 = false) := fun h => Lib.hid (by
          rw [HR1.out, Bool.eq_false_iff]
          intro ha
          rw [List.all_eq_true] at ha
          have := ha k (List.mem_range.2 hlt)
          rw [h] at this
          cases this)
        have HGOOD := Lib.hid hgood
        have HBAD := Lib.hid hbad
        have HRNG := Lib.hid hrng
        clear hgood hbad hrng
        by_cases ha : (k : Int) = A0
        · have d4 : decide ((k : Int) = A0) = true := decide_eq_true ha
          have d5 : ((k : Int) == A0) = true := by simpa using ha
          have HA9 := Lib.hid ha
          clear ha
          by_cases hp1 : P = -1
          · have e1 : (P == -1) = true := by rw [hp1]; rfl
            have e2 : (P != -1) = false := by rw [hp1]; rfl
            have e3 : decide (P = -1) = true := decide_eq_true hp1
            have HG1 := HGOOD.out (by rw [HRNG.out]; simp only [d4, Bool.true_or, if_true, e3] <;> rfl)
            clear hp1
            go_wp2_with fail
            refine wp_region_below (by kernel_rfl) (by kernel_rfl) ?_
            repeat (go_big_quiet_step ((intro hw; first | with_reducible rfl | (obtain ⟨f0, f1, f2, f3, f4, f5⟩ := FX.out _ (HK.out.2.keep hw); obtain ⟨r0, r1⟩ := FR.out _ (bel_trans HK.out.1 hw); simp only [f0, f1, f2, f3, f4, f5, r0, r1, Result.andThen]; first | exact ⟨trivial, rfl⟩ | exact ⟨rfl, rfl⟩) | (go_at_call 58; exact quietB (HNONE.out _) hw))))
            refine wpQuiet_nil ?_
            intro wa hwa
            have Kwa := Lib.hid (And.intro (bel_trans HK.out.1 hwa) (HK.out.2.keep hwa))
            clear hwa x0 x1 x2 x3 x4 x5
            obtain ⟨x0, x1, x2, x3, x4, x5⟩ := FX.out _ Kwa.out.2
            go_wp2_with fail
            refine wp_region_below (by kernel_rfl) (by kernel_rfl) ?_
            repeat (go_big_quiet_step ((intro hw; first | with_reducible rfl | (obtain ⟨f0, f1, f2, f3, f4, f5⟩ := FX.out _ (Kwa.out.2.keep hw); obtain ⟨r0, r1⟩ := FR.out _ (bel_trans Kwa.out.1 hw); simp only [f0, f1, f2, f3, f4, f5, r0, r1, Result.andThen]; first | exact ⟨trivial, rfl⟩ | exact ⟨rfl, rfl⟩))))
            refine wpQuiet_nil ?_
            intro wb hwb
            have Kwb := Lib.hid (And.intro (bel_trans Kwa.out.1 hwb) (Kwa.out.2.keep hwb))
            clear hwb x0 x1 x2 x3 x4 x5
            obtain ⟨x0, x1, x2, x3, x4, x5⟩ := FX.out _ Kwb.out.2
            go_wp2
            go_roundw
            case rel => first | exact ⟨k + 1, by omega, by go_num, HG1, Kwb⟩ | ((repeat apply Exists.intro); exact ⟨⟨k + 1, by omega, by go_num, HG1, Kwb⟩, rfl⟩)
            case measure => simp [intOf]; omega
          · have e1 : (P == -1) = false := by simpa using hp1
            have e2 : (P != -1) = true := by simpa using hp1
            have e3 : decide (P = -1) = false := decide_eq_false hp1
            have HB1 := HBAD.out (by rw [HRNG.out]; simp only [d4, Bool.true_or, if_true, e3] <;> rfl)
            have HP1 := Lib.hid hp1
            clear hp1
            go_wp2_with fail
            refine wp_region_below (by kernel_rfl) (by kernel_rfl) ?_
            repeat (go_big_quiet_step ((intro hw; first | with_reducible rfl | (obtain ⟨f0, f1, f2, f3, f4, f5⟩ := FX.out _ (HK.out.2.keep hw); obtain ⟨r0, r1⟩ := FR.out _ (bel_trans HK.out.1 hw); simp only [f0, f1, f2, f3, f4, f5, r0, r1, Result.andThen]; first | exact ⟨trivial, rfl⟩ | exact ⟨rfl, rfl⟩) | (go_at_call 58; exact quietB (HNONE.out _) hw))))
            refine wpQuiet_nil ?_
            intro wa hwa
            have Kwa := Lib.hid (And.intro (bel_trans HK.out.1 hwa) (HK.out.2.keep hwa))
            clear hwa x0 x1 x2 x3 x4 x5
            obtain ⟨x0, x1, x2, x3, x4, x5⟩ := FX.out _ Kwa.out.2
            go_wp2_with fail
            refine wp_region_below (by kernel_rfl) (by kernel_rfl) ?_
            repeat (go_big_quiet_step ((intro hw; first | with_reducible rfl | (obtain ⟨f0, f1, f2, f3, f4, f5⟩ := FX.out _ (Kwa.out.2.keep hw); obtain ⟨r0, r1⟩ := FR.out _ (bel_trans Kwa.out.1 hw); simp only [f0, f1, f2, f3, f4, f5, r0, r1, Result.andThen]; first | exact ⟨trivial, rfl⟩ | exact ⟨rfl, rfl⟩))))
            refine wpQuiet_nil ?_
            intro wb hwb
            have Kwb := Lib.hid (And.intro (bel_trans Kwa.out.1 hwb) (Kwa.out.2.keep hwb))
            clear hwb x0 x1 x2 x3 x4 x5
            obtain ⟨x0, x1, x2, x3, x4, x5⟩ := FX.out _ Kwb.out.2
            go_wp2
            go_ret
            exact ⟨by rw [HB1.out]; rfl, Kwb.out.1⟩
        have d4 : decide ((k : Int) = A0) = false := decide_eq_false ha
        have d5 : ((k : Int) == A0) = false := by simpa using ha
        have HA9 := Lib.hid ha
        clear ha
        by_cases hz : Z = mNone m
        · have d6 : decide (Z = mNone m) = true := decide_eq_true hz
          have d7 : (Z == mNone m) = true := by simpa using hz
          have HZ9 := Lib.hid hz
          clear hz
          by_cases hp1 : P = -1
          · have e1 : (P == -1) = true := by rw [hp1]; rfl
            have e2 : (P != -1) = false := by rw [hp1]; rfl
            have e3 : decide (P = -1) = true := decide_eq_true hp1
            have HG1 := HGOOD.out (by rw [HRNG.out]; simp only [d4, d6, Bool.or_true, if_true, e3] <;> rfl)
            clear hp1
            go_wp2_with fail
            refine wp_region_below (by kernel_rfl) (by kernel_rfl) ?_
            repeat (go_big_quiet_step ((intro hw; first | with_reducible rfl | (obtain ⟨f0, f1, f2, f3, f4, f5⟩ := FX.out _ (HK.out.2.keep hw); obtain ⟨r0, r1⟩ := FR.out _ (bel_trans HK.out.1 hw); simp only [f0, f1, f2, f3, f4, f5, r0, r1, Result.andThen]; first | exact ⟨trivial, rfl⟩ | exact ⟨rfl, rfl⟩) | (go_at_call 58; exact quietB (HNONE.out _) hw))))
            refine wpQuiet_nil ?_
            intro wa hwa
            have Kwa := Lib.hid (And.intro (bel_trans HK.out.1 hwa) (HK.out.2.keep hwa))
            clear hwa x0 x1 x2 x3 x4 x5
            obtain ⟨x0, x1, x2, x3, x4, x5⟩ := FX.out _ Kwa.out.2
            go_wp2_with fail
            refine wp_region_below (by kernel_rfl) (by kernel_rfl) ?_
            repeat (go_big_quiet_step ((intro hw; first | with_reducible rfl | (obtain ⟨f0, f1, f2, f3, f4, f5⟩ := FX.out _ (Kwa.out.2.keep hw); obtain ⟨r0, r1⟩ := FR.out _ (bel_trans Kwa.out.1 hw); simp only [f0, f1, f2, f3, f4, f5, r0, r1, Result.andThen]; first | exact ⟨trivial, rfl⟩ | exact ⟨rfl, rfl⟩))))
            refine wpQuiet_nil ?_
            intro wb hwb
            have Kwb := Lib.hid (And.intro (bel_trans Kwa.out.1 hwb) (Kwa.out.2.keep hwb))
            clear hwb x0 x1 x2 x3 x4 x5
            obtain ⟨x0, x1, x2, x3, x4, x5⟩ := FX.out _ Kwb.out.2
            go_wp2
            go_roundw
            case rel => first | exact ⟨k + 1, by omega, by go_num, HG1, Kwb⟩ | ((repeat apply Exists.intro); exact ⟨⟨k + 1, by omega, by go_num, HG1, Kwb⟩, rfl⟩)
            case measure => simp [intOf]; omega
          · have e1 : (P == -1) = false := by simpa using hp1
            have e2 : (P != -1) = true := by simpa using hp1
            have e3 : decide (P = -1) = false := decide_eq_false hp1
            have HB1 := HBAD.out (by rw [HRNG.out]; simp only [d4, d6, Bool.or_true, if_true, e3] <;> rfl)
            have HP1 := Lib.hid hp1
            clear hp1
            go_wp2_with fail
            refine wp_region_below (by kernel_rfl) (by kernel_rfl) ?_
            repeat (go_big_quiet_step ((intro hw; first | with_reducible rfl | (obtain ⟨f0, f1, f2, f3, f4, f5⟩ := FX.out _ (HK.out.2.keep hw); obtain ⟨r0, r1⟩ := FR.out _ (bel_trans HK.out.1 hw); simp only [f0, f1, f2, f3, f4, f5, r0, r1, Result.andThen]; first | exact ⟨trivial, rfl⟩ | exact ⟨rfl, rfl⟩) | (go_at_call 58; exact quietB (HNONE.out _) hw))))
            refine wpQuiet_nil ?_
            intro wa hwa
            have Kwa := Lib.hid (And.intro (bel_trans HK.out.1 hwa) (HK.out.2.keep hwa))
            clear hwa x0 x1 x2 x3 x4 x5
            obtain ⟨x0, x1, x2, x3, x4, x5⟩ := FX.out _ Kwa.out.2
            go_wp2_with fail
            refine wp_region_below (by kernel_rfl) (by kernel_rfl) ?_
            repeat (go_big_quiet_step ((intro hw; first | with_reducible rfl | (obtain ⟨f0, f1, f2, f3, f4, f5⟩ := FX.out _ (Kwa.out.2.keep hw); obtain ⟨r0, r1⟩ := FR.out _ (bel_trans Kwa.out.1 hw); simp only [f0, f1, f2, f3, f4, f5, r0, r1, Result.andThen]; first | exact ⟨trivial, rfl⟩ | exact ⟨rfl, rfl⟩))))
            refine wpQuiet_nil ?_
            intro wb hwb
            have Kwb := Lib.hid (And.intro (bel_trans Kwa.out.1 hwb) (Kwa.out.2.keep hwb))
            clear hwb x0 x1 x2 x3 x4 x5
            obtain ⟨x0, x1, x2, x3, x4, x5⟩ := FX.out _ Kwb.out.2
            go_wp2
            go_ret
            exact ⟨by rw [HB1.out]; rfl, Kwb.out.1⟩
        have d6 : decide (Z = mNone m) = false := decide_eq_false hz
        have d7 : (Z == mNone m) = false := by simpa using hz
        have HZ9 := Lib.hid hz
        clear hz
        by_cases hp1 : P < 0
        · have e1 : decide (P < 0) = true := decide_eq_true hp1
          have e2 : decide (0 ≤ P) = false := decide_eq_false (by omega)
          have HB1 := HBAD.out (by rw [HRNG.out]; simp only [d4, d6, e2] <;> rfl)
          have HP1 := Lib.hid hp1
          clear hp1
          go_wp2_with fail
          refine wp_region_below (by kernel_rfl) (by kernel_rfl) ?_
          repeat (go_big_quiet_step ((intro hw; first | with_reducible rfl | (obtain ⟨f0, f1, f2, f3, f4, f5⟩ := FX.out _ (HK.out.2.keep hw); obtain ⟨r0, r1⟩ := FR.out _ (bel_trans HK.out.1 hw); simp only [f0, f1, f2, f3, f4, f5, r0, r1, Result.andThen]; first | exact ⟨trivial, rfl⟩ | exact ⟨rfl, rfl⟩) | (go_at_call 58; exact quietB (HNONE.out _) hw))))
          refine wpQuiet_nil ?_
          intro wa hwa
          have Kwa := Lib.hid (And.intro (bel_trans HK.out.1 hwa) (HK.out.2.keep hwa))
          clear hwa x0 x1 x2 x3 x4 x5
          obtain ⟨x0, x1, x2, x3, x4, x5⟩ := FX.out _ Kwa.out.2
          go_wp2_with fail
          refine wp_region_below (by kernel_rfl) (by kernel_rfl) ?_
          repeat (go_big_quiet_step ((intro hw; first | with_reducible rfl | (obtain ⟨f0, f1, f2, f3, f4, f5⟩ := FX.out _ (Kwa.out.2.keep hw); obtain ⟨r0, r1⟩ := FR.out _ (bel_trans Kwa.out.1 hw); simp only [f0, f1, f2, f3, f4, f5, r0, r1, Result.andThen]; first | exact ⟨trivial, rfl⟩ | exact ⟨rfl, rfl⟩))))
          refine wpQuiet_nil ?_
          intro wb hwb
          have Kwb := Lib.hid (And.intro (bel_trans Kwa.out.1 hwb) (Kwa.out.2.keep hwb))
          clear hwb x0 x1 x2 x3 x4 x5
          obtain ⟨x0, x1, x2, x3, x4, x5⟩ := FX.out _ Kwb.out.2
          go_wp2
          go_ret
          exact ⟨by rw [HB1.out]; rfl, Kwb.out.1⟩
        have e1 : decide (P < 0) = false := decide_eq_false hp1
        have e2 : decide (0 ≤ P) = true := decide_eq_true (by omega)
        by_cases hp2 : (N : Int) ≤ P
        · have e3 : decide ((N : Int) ≤ P) = true := decide_eq_true hp2
          have e4 : decide (P < N) = false := decide_eq_false (by omega)
          have HB1 := HBAD.out (by rw [HRNG.out]; simp only [d4, d6, e2, e4] <;> rfl)
          have HP1 := Lib.hid (And.intro hp1 hp2)
          clear hp1 hp2
          go_wp2_with fail
          refine wp_region_below (by kernel_rfl) (by kernel_rfl) ?_
          repeat (go_big_quiet_step ((intro hw; first | with_reducible rfl | (obtain ⟨f0, f1, f2, f3, f4, f5⟩ := FX.out _ (HK.out.2.keep hw); obtain ⟨r0, r1⟩ := FR.out _ (bel_trans HK.out.1 hw); simp only [f0, f1, f2, f3, f4, f5, r0, r1, Result.andThen]; first | exact ⟨trivial, rfl⟩ | exact ⟨rfl, rfl⟩) | (go_at_call 58; exact quietB (HNONE.out _) hw))))
          refine wpQuiet_nil ?_
          intro wa hwa
          have Kwa := Lib.hid (And.intro (bel_trans HK.out.1 hwa) (HK.out.2.keep hwa))
          clear hwa x0 x1 x2 x3 x4 x5
          obtain ⟨x0, x1, x2, x3, x4, x5⟩ := FX.out _ Kwa.out.2
          go_wp2_with fail
          refine wp_region_below (by kernel_rfl) (by kernel_rfl) ?_
          repeat (go_big_quiet_step ((intro hw; first | with_reducible rfl | (obtain ⟨f0, f1, f2, f3, f4, f5⟩ := FX.out _ (Kwa.out.2.keep hw); obtain ⟨r0, r1⟩ := FR.out _ (bel_trans Kwa.out.1 hw); simp only [f0, f1, f2, f3, f4, f5, r0, r1, Result.andThen]; first | exact ⟨trivial, rfl⟩ | exact ⟨rfl, rfl⟩))))
          refine wpQuiet_nil ?_
          intro wb hwb
          have Kwb := Lib.hid (And.intro (bel_trans Kwa.out.1 hwb) (Kwa.out.2.keep hwb))
          clear hwb x0 x1 x2 x3 x4 x5
          obtain ⟨x0, x1, x2, x3, x4, x5⟩ := FX.out _ Kwb.out.2
          go_wp2
          go_ret
          exact ⟨by rw [HB1.out]; rfl, Kwb.out.1⟩
        have e3 : decide ((N : Int) ≤ P) = false := decide_eq_false hp2
        have e4 : decide (P < N) = true := decide_eq_true (by omega)
        have HG1 := HGOOD.out (by rw [HRNG.out]; simp only [d4, d6, e2, e4] <;> rfl)
        have HP1 := Lib.hid (And.intro hp1 hp2)
        clear hp1 hp2
        go_wp2_with fail
        refine wp_region_below (by kernel_rfl) (by kernel_rfl) ?_
        repeat (go_big_quiet_step ((intro hw; first | with_reducible rfl | (obtain ⟨f0, f1, f2, f3, f4, f5⟩ := FX.out _ (HK.out.2.keep hw); obtain ⟨r0, r1⟩ := FR.out _ (bel_trans HK.out.1 hw); simp only [f0, f1, f2, f3, f4, f5, r0, r1, Result.andThen]; first | exact ⟨trivial, rfl⟩ | exact ⟨rfl, rfl⟩) | (go_at_call 58; exact quietB (HNONE.out _) hw))))
        refine wpQuiet_nil ?_
        intro wa hwa
        have Kwa := Lib.hid (And.intro (bel_trans HK.out.1 hwa) (HK.out.2.keep hwa))
        clear hwa x0 x1 x2 x3 x4 x5
        obtain ⟨x0, x1, x2, x3, x4, x5⟩ := FX.out _ Kwa.out.2
        go_wp2_with fail
        refine wp_region_below (by kernel_rfl) (by kernel_rfl) ?_
        repeat (go_big_quiet_step ((intro hw; first | with_reducible rfl | (obtain ⟨f0, f1, f2, f3, f4, f5⟩ := FX.out _ (Kwa.out.2.keep hw); obtain ⟨r0, r1⟩ := FR.out _ (bel_trans Kwa.out.1 hw); simp only [f0, f1, f2, f3, f4, f5, r0, r1, Result.andThen]; first | exact ⟨trivial, rfl⟩ | exact ⟨rfl, rfl⟩))))
        refine wpQuiet_nil ?_
        intro wb hwb
        have Kwb := Lib.hid (And.intro (bel_trans Kwa.out.1 hwb) (Kwa.out.2.keep hwb))
        clear hwb x0 x1 x2 x3 x4 x5
        obtain ⟨x0, x1, x2, x3, x4, x5⟩ := FX.out _ Kwb.out.2
        go_wp2
        go_roundw
        case rel => first | exact ⟨k + 1, by omega, by go_num, HG1, Kwb⟩ | ((repeat apply Exists.intro); exact ⟨⟨k + 1, by omega, by go_num, HG1, Kwb⟩, rfl⟩)
        case measure => simp [intOf]; omega
      have hke : k = ps.length := by omega
      have hkk : ¬ ((k : Int) < ps.length) := by omega
      have hpo := parOk_of_rng (n := N) (m := m) (A := A0) (zs := zs) HNN.out (by rw [← hke]; exact HA.out)
      have HPO := Lib.hid hpo
      have hO1 : R1 = true := by
        rw [HR1.out, List.all_eq_true]
        intro i hi
        exact HA.out i (by have := List.mem_range.1 hi; omega)
      have HO1 := Lib.hid hO1
      clear hke hpo hO1
      go_wp2_with fail

      go_loopw [5] (fun c wr => ∃ k : Nat, k ≤ ps.length ∧ c = .int .i64 k ∧ Hid (∀ i, i < k → fit2K m A0 es zs ps i = true) ∧ Hid (Below w.heap.size w wr ∧ Box wr w.heap.size 57 (kC N m A0 (.slice sa es.length sc) (.slice va zs.length vc) (.slice pa ps.length pc)))) (fun c _ => ps.length - (intOf c).toNat)
      case atStart => exact ⟨0, Nat.zero_le _, rfl, Lib.hid (fun i hi => absurd hi (Nat.not_lt_zero _)), HK⟩
      case round =>
        clear hkk x0 x1 x2 x3 x4 x5 hk HA HK
        obtain ⟨k, hk, rfl, HA, HK⟩ := hrel
        obtain ⟨x0, x1, x2, x3, x4, x5⟩ := FX.out _ HK.out.2
        by_cases hlt : k < ps.length
        · have hlt' : (k : Int) < ps.length := by omega
          have hti := HTI.out k hlt
          have hup := HUP.out k hlt HPO.out
          obtain ⟨pb, po, pc2, hpe, hpb, hpc⟩ := HP.out.at hlt
          injection hpe with hpa _ hpc2
          subst hpa hpc2
          obtain ⟨P, hP⟩ : ∃ P, P = ps.getD k 0 := ⟨_, rfl⟩
          have hpk := hpc k hlt
          rw [← hP] at hpk
          have c0 := (HK.out.1.cell (p := ⟨pb, po + k, none⟩) hpb).trans hpk
          have hf2 : fit2K m A0 es zs ps k = if 0 ≤ P then tightK m es zs ps k && upL ps A0 (ps.length + 1) k else true := by unfold fit2K; rw [hP]
          have hgood : fit2K m A0 es zs ps k = true → Hid (∀ i, i < k + 1 → fit2K m A0 es zs ps i = true) := fun h => Lib.hid (fun i hi => by
            by_cases e : i = k
            · subst e; exact h
            · exact HA.out i (by omega))
          have hbad : fit2K m A0 es zs ps k = false → Hid (R2 = false) := fun h => Lib.hid (by
            rw [HR2.out, Bool.eq_false_iff]
            intro ha
            rw [List.all_eq_true] at ha
            have := ha k (List.mem_range.2 hlt)
            rw [h] at this
            cases this)
          have HGOOD := Lib.hid hgood
          have HBAD := Lib.hid hbad
          have HF2 := Lib.hid hf2
          clear hgood hbad hf2 hpc hpk hP
          by_cases hp0 : 0 ≤ P
          rotate_left
          · have e0 : decide (P ≥ 0) = false := decide_eq_false hp0
            have e1 : decide (0 ≤ P) = false := decide_eq_false hp0
            have HG1 := HGOOD.out (by rw [HF2.out, if_neg hp0])
            have HP0 := Lib.hid hp0
            clear hp0 hti hup
            go_wp2
            go_roundw
            case rel => first | exact ⟨k + 1, by omega, by go_num, HG1, HK⟩ | ((repeat apply Exists.intro); exact ⟨⟨k + 1, by omega, by go_num, HG1, HK⟩, rfl⟩)
            case measure => simp [intOf]; omega
          have e0 : decide (P ≥ 0) = true := decide_eq_true hp0
          have e1 : decide (0 ≤ P) = true := decide_eq_true hp0
          have hf3 : fit2K m A0 es zs ps k = (tightK m es zs ps k && upL ps A0 (ps.length + 1) k) := by rw [HF2.out, if_pos hp0]
          have HP0 := Lib.hid hp0
          clear hp0
          generalize tightK m es zs ps k = T1 at hti hf3
          generalize upL ps A0 (ps.length + 1) k = T2 at hup hf3
          have HTT := Lib.hid hti
          have HUU := Lib.hid hup
          have HF3 := Lib.hid hf3
          clear hti hup hf3
          cases T1
          · have HB1 := HBAD.out (by rw [HF3.out]; rfl)
            go_wp2_with (go_at_call 74; (with_reducible refine (HTT.out _ HK.out.1).mono ?_); rintro e wa ⟨rfl, hba⟩; have Kwa := Lib.hid (And.intro (bel_trans HK.out.1 hba) (HK.out.2.keep hba)); clear x0 x1 x2 x3 x4 x5 hba; obtain ⟨x0, x1, x2, x3, x4, x5⟩ := FX.out _ Kwa.out.2)
            go_ret
            exact ⟨by rw [HO1.out, HB1.out]; rfl, Kwa.out.1⟩
          cases T2
          · have HB1 := HBAD.out (by rw [HF3.out]; rfl)
            go_wp2_with (first | (go_at_call 74; (with_reducible refine (HTT.out _ HK.out.1).mono ?_); rintro e wa ⟨rfl, hba⟩; have Kwa := Lib.hid (And.intro (bel_trans HK.out.1 hba) (HK.out.2.keep hba)); clear x0 x1 x2 x3 x4 x5 hba; obtain ⟨x0, x1, x2, x3, x4, x5⟩ := FX.out _ Kwa.out.2) | (go_at_call 75; (with_reducible refine (HUU.out _ Kwa.out.1).mono ?_); rintro e wb ⟨rfl, hbb⟩; have Kwb := Lib.hid (And.intro (bel_trans Kwa.out.1 hbb) (Kwa.out.2.keep hbb)); clear hbb))
            go_ret
            exact ⟨by rw [HO1.out, HB1.out]; rfl, Kwb.out.1⟩
          · have HG1 := HGOOD.out (by rw [HF3.out]; rfl)
            go_wp2_with (first | (go_at_call 74; (with_reducible refine (HTT.out _ HK.out.1).mono ?_); rintro e wa ⟨rfl, hba⟩; have Kwa := Lib.hid (And.intro (bel_trans HK.out.1 hba) (HK.out.2.keep hba)); clear x0 x1 x2 x3 x4 x5 hba; obtain ⟨x0, x1, x2, x3, x4, x5⟩ := FX.out _ Kwa.out.2) | (go_at_call 75; (with_reducible refine (HUU.out _ Kwa.out.1).mono ?_); rintro e wb ⟨rfl, hbb⟩; have Kwb := Lib.hid (And.intro (bel_trans Kwa.out.1 hbb) (Kwa.out.2.keep hbb)); clear hbb))
            go_roundw
            case rel => first | exact ⟨k + 1, by omega, by go_num, HG1, Kwb⟩ | ((repeat apply Exists.intro); exact ⟨⟨k + 1, by omega, by go_num, HG1, Kwb⟩, rfl⟩)
            case measure => simp [intOf]; omega
        · have hke : k = ps.length := by omega
          have hkk : ¬ ((k : Int) < ps.length) := by omega
          have hO2 : R2 = true := by
            rw [HR2.out, List.all_eq_true]
            intro i hi
            exact HA.out i (by have := List.mem_range.1 hi; omega)
          have HO2 := Lib.hid hO2
          clear hke hO2
          go_wp2
          go_ret
          exact ⟨by rw [HO1.out, HO2.out]; rfl, HK.out.1⟩

end Go.Proofs.Ytdblcaeeepkebaa
