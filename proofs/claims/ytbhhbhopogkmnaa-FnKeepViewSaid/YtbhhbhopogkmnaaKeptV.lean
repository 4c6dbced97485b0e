/- Kept views, in the program: which of them are valid. -/
import Derived.Test.YtbhhbhopogkmnaaKeptI
import Derived.Test.YtbhhbhopogkmnaaFits
import Derived.Test.YtbhhbhopogkmnaaRoundF
import Derived.Test.YtbhhbhopogkmnaaVEdges
namespace Go.Proofs.Ytbhhbhopogkmnaa
open Go.RowKit Go.BigFrame Go.Deep
set_option linter.unusedVariables false
set_option linter.unusedSimpArgs false

set_option maxRecDepth 20000 in
set_option maxHeartbeats 8000000 in
theorem opsOfKept (n m A : Int) (es : List Ed) (zs ps : List Int) (s v p : Value) (w : World) (hs : RowE w s es) (hv : Row w v zs) (hp : Row w p ps) (hl : es.length ≤ 1048576) (hl2 : zs.length ≤ 1048576) (hl3 : ps.length ≤ 1048576) :
    Calls Try.prog 59 #[.agg (kC n m A s v p)] w fun e w' => e = .returned (.tuple #[opsR m (kVal n m A es zs ps), .bool (kVal n m A es zs ps)]) ∧ Below w.heap.size w w' := by
  obtain ⟨sa, sc, rfl, hz0⟩ := id hs
  obtain ⟨va, vc, rfl, hz1⟩ := id hv
  obtain ⟨pa, pc, rfl, hz2⟩ := id hp
  clear hz0 hz1 hz2
  have b0 := Box.new w 55 (kC n m A (.slice sa es.length sc) (.slice va zs.length vc) (.slice pa ps.length pc))
  have hb0 : Below w.heap.size w (w.alloc (.cells (kC n m A (.slice sa es.length sc) (.slice va zs.length vc) (.slice pa ps.length pc)) 55)) := (Below.refl _ _).alloc (Nat.le_refl _) _
  have K0 := Lib.hid (And.intro hb0 b0)
  have fx : ∀ w', Box w' w.heap.size 55 (kC n m A (.slice sa es.length sc) (.slice va zs.length vc) (.slice pa ps.length pc)) → w'.cell? ⟨w.heap.size, 0, none⟩ = some (.int .i64 n) ∧ w'.cell? ⟨w.heap.size, 1, none⟩ = some (.slice sa es.length sc) ∧ w'.cell? ⟨w.heap.size, 2, none⟩ = some (.int .i64 m) ∧ w'.cell? ⟨w.heap.size, 3, none⟩ = some (.int .i64 A) ∧ w'.cell? ⟨w.heap.size, 4, none⟩ = some (.slice va zs.length vc) ∧ w'.cell? ⟨w.heap.size, 5, none⟩ = some (.slice pa ps.length pc) :=
    fun w' hb => ⟨by simpa using hb.cell 0, by simpa using hb.cell 1, by simpa using hb.cell 2, by simpa using hb.cell 3, by simpa using hb.cell 4, by simpa using hb.cell 5⟩
  have FX := Lib.hid fx
  clear b0 hb0 fx
  have ho := fun w' (h : Below w.heap.size w w') => opsOfView n m A es zs (.slice sa es.length sc) (.slice va zs.length vc) w' (hs.keep h) (hv.keep h) (by omega) (by omega)
  have HS := Lib.hid hs
  have HV := Lib.hid hv
  have HP := Lib.hid hp
  clear hs hv hp
  unfold kVal
  cases hV : vVal n es m A zs
  · rw [hV] at ho
    rw [Bool.false_and, Bool.false_and]
    have HO := Lib.hid ho
    clear ho hV
    go_enter Try.func59, Try.ntmps59
    go_wp2_with fail
    generalize (w.alloc (.cells (kC n m A (.slice sa es.length sc) (.slice va zs.length vc) (.slice pa ps.length pc)) 55)) = w0 at K0 ⊢
    obtain ⟨x0, x1, x2, x3, x4, x5⟩ := FX.out _ K0.out.2
    go_wp2_with (go_at_call 85; (with_reducible refine (HO.out _ K0.out.1).mono ?_); rintro e w1 ⟨rfl, hb1⟩; have K1 := Lib.hid (And.intro (bel_trans K0.out.1 hb1) (K0.out.2.keep hb1)); clear x0 x1 x2 x3 x4 x5; obtain ⟨x0, x1, x2, x3, x4, x5⟩ := FX.out _ K1.out.2)
    go_ret2
    exact ⟨rfl, K1.out.1⟩
  rw [hV, show opsR m true = opsV m from rfl] at ho
  rw [Bool.true_and]
  obtain ⟨hg, hA, hzn, hm, hva⟩ := vVal_parts hV
  have HO := Lib.hid ho
  clear ho hV
  by_cases hn : (ps.length : Int) = n
  rotate_left
  · have d1 : decide ((ps.length : Int) = n) = false := decide_eq_false hn
    have d2 : ((ps.length : Int) == n) = false := by simpa using hn
    have d3 : ((ps.length : Int) != n) = true := by simpa using hn
    rw [d1, Bool.false_and]
    have HNN := Lib.hid hn
    clear hn
    go_enter Try.func59, Try.ntmps59
    go_wp2_with fail
    generalize (w.alloc (.cells (kC n m A (.slice sa es.length sc) (.slice va zs.length vc) (.slice pa ps.length pc)) 55)) = w0 at K0 ⊢
    obtain ⟨x0, x1, x2, x3, x4, x5⟩ := FX.out _ K0.out.2
    go_wp2_with (go_at_call 85; (with_reducible refine (HO.out _ K0.out.1).mono ?_); rintro e w1 ⟨rfl, hb1⟩; have K1 := Lib.hid (And.intro (bel_trans K0.out.1 hb1) (K0.out.2.keep hb1)); clear x0 x1 x2 x3 x4 x5; obtain ⟨x0, x1, x2, x3, x4, x5⟩ := FX.out _ K1.out.2)
    go_ret2
    exact ⟨rfl, K1.out.1⟩
  have d1 : decide ((ps.length : Int) = n) = true := decide_eq_true hn
  have d2 : ((ps.length : Int) == n) = true := by simpa using hn
  have d3 : ((ps.length : Int) != n) = false := by simpa using hn
  rw [d1, Bool.true_and]
  obtain ⟨g1, g2, g3, _⟩ := gVal_parts hg
  obtain ⟨N, rfl⟩ : ∃ N : Nat, n = N := ⟨n.toNat, by omega⟩
  obtain ⟨A0, rfl⟩ : ∃ A0 : Nat, A = A0 := ⟨A.toNat, by omega⟩
  have hr := fun w' (h : Below w.heap.size w w') => rightValues m es N A0 (.slice sa es.length sc) w' hm (HS.out.keep h) (by omega) (by omega) (by omega) (by have := eAll_of hg; simpa using this)
  have HR := Lib.hid hr
  rw [Int.toNat_natCast]
  have HNN := Lib.hid hn
  have HZN := Lib.hid hzn
  have HG := Lib.hid hg
  have HVA := Lib.hid hva
  clear hr hn hzn hg hva
  obtain ⟨E, hE⟩ : ∃ E, E = iSame zs (vIter m es N (vStart m N A0)) := ⟨_, rfl⟩
  have hqe := fun w' u (h : Below w.heap.size w w') (hu : Row w' u (vIter m es N (vStart m N A0))) => intsEqual zs _ (.slice va zs.length vc) u w' (HV.out.keep h) hu (by omega) (by rw [vIter_length, vStart_length]; omega)
  rw [← hE] at hqe ⊢
  have HE := Lib.hid hE
  clear hE
  cases E
  all_goals have HQE := Lib.hid hqe
  all_goals clear hqe
  · rw [Bool.false_and]
    go_enter Try.func59, Try.ntmps59
    go_wp2_with fail
    generalize (w.alloc (.cells (kC N m A0 (.slice sa es.length sc) (.slice va zs.length vc) (.slice pa ps.length pc)) 55)) = w0 at K0 ⊢
    obtain ⟨x0, x1, x2, x3, x4, x5⟩ := FX.out _ K0.out.2
    go_wp2_with (first | (go_at_call 85; (with_reducible refine (HO.out _ K0.out.1).mono ?_); rintro e w1 ⟨rfl, hb1⟩; have K1 := Lib.hid (And.intro (bel_trans K0.out.1 hb1) (K0.out.2.keep hb1)); clear x0 x1 x2 x3 x4 x5; obtain ⟨x0, x1, x2, x3, x4, x5⟩ := FX.out _ K1.out.2) | (go_at_call 58; (with_reducible refine (HR.out _ K1.out.1).mono ?_); rintro e w2 ⟨u, r, rfl, hou, hok, hfs, hb2⟩; have HOU : Hid (Row w2 u (vIter m es N (vStart m N A0))) := Lib.hid (InR.rowI hou); obtain ⟨ua, uc, rfl⟩ := hou.slice; have K2 := Lib.hid (And.intro (bel_trans K1.out.1 hb2) (K1.out.2.keep hb2)); clear x0 x1 x2 x3 x4 x5; obtain ⟨x0, x1, x2, x3, x4, x5⟩ := FX.out _ K2.out.2) | (go_at_call 60; (with_reducible refine (HQE.out _ _ K2.out.1 HOU.out).mono ?_); rintro e w3 ⟨rfl, hb3⟩; have K3 := Lib.hid (And.intro (bel_trans K2.out.1 hb3) (K2.out.2.keep hb3)); clear x0 x1 x2 x3 x4 x5; obtain ⟨x0, x1, x2, x3, x4, x5⟩ := FX.out _ K3.out.2))
    go_ret2
    exact ⟨rfl, K3.out.1⟩
  rw [Bool.true_and]
  have hpf := fun i hi w' (h : Below w.heap.size w w') => parentFits N m A0 es zs ps (.slice sa es.length sc) (.slice va zs.length vc) (.slice pa ps.length pc) i w' hm HG.out (HS.out.keep h) (HV.out.keep h) (HP.out.keep h) HZN.out HNN.out HVA.out hi
  have hgr := fun w' (h : Below w.heap.size w w') hpo => firstGoingRound ps (.slice pa ps.length pc) w' (HP.out.keep h) (by have := HNN.out; omega) (by omega) hpo
  have HGR := Lib.hid hgr
  have HPF := Lib.hid hpf
  rw [fit_gr hm HG.out HNN.out ⟨by omega, by omega⟩]
  have hpo : Hid ((∀ i, i < ps.length → fit1K m A0 es zs ps i = true) → parOk ps) := Lib.hid (fun h => fit1_par HG.out HNN.out h)
  obtain ⟨R1, hR⟩ : ∃ R1, R1 = (List.range ps.length).all (fit1K m A0 es zs ps) := ⟨_, rfl⟩
  rw [← hR]
  have HRR := Lib.hid hR
  generalize grI ps = GI at HGR
  generalize grB ps = GB at HGR ⊢
  obtain ⟨R, hR2⟩ : ∃ R, R = (R1 && !GB) := ⟨_, rfl⟩
  rw [← hR2]
  have HR2 := Lib.hid hR2
  clear hpf hR hR2 hgr
  go_enter Try.func59, Try.ntmps59
  go_wp2_with fail
  generalize (w.alloc (.cells (kC N m A0 (.slice sa es.length sc) (.slice va zs.length vc) (.slice pa ps.length pc)) 55)) = w0 at K0 ⊢
  obtain ⟨x0, x1, x2, x3, x4, x5⟩ := FX.out _ K0.out.2
  go_wp2_with (first | (go_at_call 85; (with_reducible refine (HO.out _ K0.out.1).mono ?_); rintro e w1 ⟨rfl, hb1⟩; have K1 := Lib.hid (And.intro (bel_trans K0.out.1 hb1) (K0.out.2.keep hb1)); clear x0 x1 x2 x3 x4 x5; obtain ⟨x0, x1, x2, x3, x4, x5⟩ := FX.out _ K1.out.2) | (go_at_call 58; (with_reducible refine (HR.out _ K1.out.1).mono ?_); rintro e w2 ⟨u, r, rfl, hou, hok, hfs, hb2⟩; have HOU : Hid (Row w2 u (vIter m es N (vStart m N A0))) := Lib.hid (InR.rowI hou); obtain ⟨ua, uc, rfl⟩ := hou.slice; have K2 := Lib.hid (And.intro (bel_trans K1.out.1 hb2) (K1.out.2.keep hb2)); clear x0 x1 x2 x3 x4 x5; obtain ⟨x0, x1, x2, x3, x4, x5⟩ := FX.out _ K2.out.2) | (go_at_call 60; (with_reducible refine (HQE.out _ _ K2.out.1 HOU.out).mono ?_); rintro e w3 ⟨rfl, hb3⟩; have K3 := Lib.hid (And.intro (bel_trans K2.out.1 hb3) (K2.out.2.keep hb3)); clear x0 x1 x2 x3 x4 x5; obtain ⟨x0, x1, x2, x3, x4, x5⟩ := FX.out _ K3.out.2))
  go_loopw [49] (fun c wr => ∃ k : Nat, k ≤ ps.length ∧ c = .int .i64 k ∧ Hid (∀ i, i < k → fit1K m A0 es zs ps i = true) ∧ Hid (Below w.heap.size w wr ∧ Box wr w.heap.size 55 (kC N m A0 (.slice sa es.length sc) (.slice va zs.length vc) (.slice pa ps.length pc)))) (fun c _ => ps.length - (intOf c).toNat)
  case atStart => exact ⟨0, Nat.zero_le _, rfl, Lib.hid (fun i hi => absurd hi (Nat.not_lt_zero _)), K3⟩
  case round =>
    obtain ⟨k, hk, rfl, HA, HK⟩ := hrel
    clear x0 x1 x2 x3 x4 x5
    obtain ⟨x0, x1, x2, x3, x4, x5⟩ := FX.out _ HK.out.2
    by_cases hlt : k < ps.length
    · have hlt' : (k : Int) < ps.length := by omega
      have hpf := HPF.out k hlt wr HK.out.1
      cases hf : fit1K m A0 es zs ps k
      · rw [hf] at hpf
        have HF := Lib.hid hf
        have HPK := Lib.hid hpf
        have HO2 : Hid (R = false) := Lib.hid (by
          rw [HR2.out]
          have : R1 = false := by
           rw [HRR.out, Bool.eq_false_iff]
           intro h
           rw [List.all_eq_true] at h
           have := h k (List.mem_range.2 hlt)
           rw [HF.out] at this
           cases this
          rw [this]; rfl)
        clear hf hpf
        go_wp2_with (go_at_call 86; (with_reducible refine (HPK.out).mono ?_); rintro e w4 ⟨rfl, hb4⟩)
        go_ret2
        exact ⟨by rw [HO2.out]; rfl, bel_trans HK.out.1 hb4⟩
      · rw [hf] at hpf
        have HPK := Lib.hid hpf
        have HF : Hid (∀ i, i < k + 1 → fit1K m A0 es zs ps i = true) := Lib.hid (fun i hi => by
          by_cases h : i = k
          · subst h; exact hf
          · exact HA.out i (by omega))
        clear hf hpf
        go_wp2_with (go_at_call 86; (with_reducible refine (HPK.out).mono ?_); rintro e w4 ⟨rfl, hb4⟩; have HK4 := Lib.hid (And.intro (bel_trans HK.out.1 hb4) (HK.out.2.keep hb4)); clear x0 x1 x2 x3 x4 x5 hb4)
        go_roundw
        case rel => first | exact ⟨k + 1, by omega, by go_num, HF, HK4⟩ | ((repeat apply Exists.intro); exact ⟨⟨k + 1, by omega, by go_num, HF, HK4⟩, rfl⟩)
        case measure => simp [intOf]; omega
    · have hkk : ¬ ((k : Int) < ps.length) := by omega
      have hke : k = ps.length := by omega
      have HO1 : Hid (R1 = true) := Lib.hid (by
        rw [HRR.out, List.all_eq_true]
        intro i hi
        exact HA.out i (by have := List.mem_range.1 hi; omega))
      have hgc := HGR.out wr HK.out.1 (hpo.out (fun i hi => HA.out i (by omega)))
      have HGC := Lib.hid hgc
      clear hke hgc
      cases GB
      · have HO2 : Hid (R = true) := Lib.hid (by rw [HR2.out, HO1.out]; rfl)
        go_wp2_with (go_at_call 87; (with_reducible refine (HGC.out).mono ?_); rintro e w5 ⟨rfl, hb5⟩)
        go_ret2
        exact ⟨by rw [HO2.out]; rfl, bel_trans HK.out.1 hb5⟩
      · have HO2 : Hid (R = false) := Lib.hid (by rw [HR2.out, HO1.out]; rfl)
        go_wp2_with (go_at_call 87; (with_reducible refine (HGC.out).mono ?_); rintro e w5 ⟨rfl, hb5⟩)
        go_ret2
        exact ⟨by rw [HO2.out]; rfl, bel_trans HK.out.1 hb5⟩

set_option maxRecDepth 20000 in
set_option maxHeartbeats 1000000 in
theorem keptValid (n m A : Int) (es : List Ed) (zs ps : List Int) (s v p : Value) (w : World) (hs : RowE w s es) (hv : Row w v zs) (hp : Row w p ps) (hl : es.length ≤ 1048576) (hl2 : zs.length ≤ 1048576) (hl3 : ps.length ≤ 1048576) :
    Calls Try.prog 35 #[.agg (kC n m A s v p)] w fun e w' => e = .returned (.bool (kVal n m A es zs ps)) ∧ Below w.heap.size w w' := by
  obtain ⟨sa, sc, rfl, hz0⟩ := id hs
  obtain ⟨va, vc, rfl, hz1⟩ := id hv
  obtain ⟨pa, pc, rfl, hz2⟩ := id hp
  clear hz0 hz1 hz2
  have b0 := Box.new w 55 (kC n m A (.slice sa es.length sc) (.slice va zs.length vc) (.slice pa ps.length pc))
  have hb0 : Below w.heap.size w (w.alloc (.cells (kC n m A (.slice sa es.length sc) (.slice va zs.length vc) (.slice pa ps.length pc)) 55)) := (Below.refl _ _).alloc (Nat.le_refl _) _
  have K0 := Lib.hid (And.intro hb0 b0)
  have fx : ∀ w', Box w' w.heap.size 55 (kC n m A (.slice sa es.length sc) (.slice va zs.length vc) (.slice pa ps.length pc)) → w'.cell? ⟨w.heap.size, 0, none⟩ = some (.int .i64 n) ∧ w'.cell? ⟨w.heap.size, 1, none⟩ = some (.slice sa es.length sc) ∧ w'.cell? ⟨w.heap.size, 2, none⟩ = some (.int .i64 m) ∧ w'.cell? ⟨w.heap.size, 3, none⟩ = some (.int .i64 A) ∧ w'.cell? ⟨w.heap.size, 4, none⟩ = some (.slice va zs.length vc) ∧ w'.cell? ⟨w.heap.size, 5, none⟩ = some (.slice pa ps.length pc) :=
    fun w' hb => ⟨by simpa using hb.cell 0, by simpa using hb.cell 1, by simpa using hb.cell 2, by simpa using hb.cell 3, by simpa using hb.cell 4, by simpa using hb.cell 5⟩
  have FX := Lib.hid fx
  clear b0 hb0 fx
  have ho := fun w' (h : Below w.heap.size w w') => opsOfKept n m A es zs ps (.slice sa es.length sc) (.slice va zs.length vc) (.slice pa ps.length pc) w' (hs.keep h) (hv.keep h) (hp.keep h) hl hl2 hl3
  have HO := Lib.hid ho
  clear hs hv hp ho
  generalize kVal n m A es zs ps = K at HO ⊢
  go_enter Try.func35, Try.ntmps35
  go_wp2_with fail
  generalize (w.alloc (.cells (kC n m A (.slice sa es.length sc) (.slice va zs.length vc) (.slice pa ps.length pc)) 55)) = w0 at K0 ⊢
  obtain ⟨x0, x1, x2, x3, x4, x5⟩ := FX.out _ K0.out.2
  go_wp2_with (go_at_call 59; (with_reducible refine (HO.out _ K0.out.1).mono ?_); rintro e w1 ⟨rfl, hb1⟩)
  go_ret
  exact ⟨rfl, bel_trans K0.out.1 hb1⟩
end Go.Proofs.Ytbhhbhopogkmnaa
