/- CountBest, in the model. -/
import Derived.Test.YtdblcaeeepkebaaCount
namespace Go.Proofs.Ytdblcaeeepkebaa
open Go.RowKit Go.BigFrame Go.Deep
set_option linter.unusedVariables false
set_option linter.unusedSimpArgs false

theorem setMade (w : World) (A N : Nat) : (w.alloc (.cells (madeCells #[.int .i64 0] N) 3)).setCell ⟨w.heap.size, A, none⟩ (.int .i64 1) = w.alloc (.cells ((madeCells #[.int .i64 0] N).setIfInBounds A (.int .i64 1)) 3) := by go_simp
set_option maxRecDepth 20000 in
set_option maxHeartbeats 8000000 in
theorem sCountBest (n a x : Int) (es : List Ed) (s : Value) (w : World) (hs : RowE w s es) (hl : es.length ≤ 281474976710656) :
    Calls Try.prog 32 #[.agg #[.int .i64 n, s], .int .i64 a, .int .i64 x] w fun e w' => e = .returned (.tuple #[.int .i64 (cbN n es a x), .bool (cbB n es a x)]) ∧ Below w.heap.size w w' := by
  have hv := fun w' (h : Below w.heap.size w w') => l3Right n 5 a es s w' (hs.keep h) hl
  have hS := Lib.hid hs
  obtain ⟨ad, cap, rfl, hz0⟩ := hs
  have HZ := Lib.hid hz0
  have K0 := Lib.hid (And.intro ((Below.refl _ w).alloc (Nat.le_refl _) (.cells #[.int .i64 n, .slice ad es.length cap] 31)) (Box.new w 31 #[.int .i64 n, .slice ad es.length cap]))
  clear hz0
  unfold cbN cbB
  have e5 : onOk n es 5 [a] = (gVal n es && inN n a) := by unfold onOk; simp [inN, mKind]
  rw [← e5]
  cases hG : onOk n es 5 [a]
  · rw [hG] at hv
    have HV := Lib.hid hv
    rw [Bool.false_and, if_neg (by decide)]
    clear hv hG e5
    go_enter Try.func32, Try.ntmps32
    go_wp2_with fail
    generalize (w.alloc (.cells #[.int .i64 n, .slice ad es.length cap] 31)) = w0 at K0 ⊢
    have x0 : w0.cell? ⟨w.heap.size, 0, none⟩ = some (.int .i64 n) := by simpa using K0.out.2.cell 0
    have x1 : w0.cell? ⟨w.heap.size, 1, none⟩ = some (.slice ad es.length cap) := by simpa using K0.out.2.cell 1
    go_wp2_with (go_at_call 70; (with_reducible refine (HV.out _ K0.out.1).mono ?_); rintro e w1 ⟨rfl, hb1⟩; have K1 := Lib.hid (And.intro (bel_trans K0.out.1 hb1) (K0.out.2.keep hb1)); clear x0 x1 hb1; have x0 : w1.cell? ⟨w.heap.size, 0, none⟩ = some (.int .i64 n) := (by simpa using K1.out.2.cell 0); have x1 : w1.cell? ⟨w.heap.size, 1, none⟩ = some (.slice ad es.length cap) := (by simpa using K1.out.2.cell 1))
    go_ret2
    exact ⟨rfl, K1.out.1⟩
  rw [hG] at hv e5
  have HV := Lib.hid hv
  by_cases hx0 : x < 0
  · have e6 : inN n x = false := by unfold inN; rw [decide_eq_false (by omega)]; rfl
    rw [e6, Bool.and_false, if_neg (by decide)]
    clear hv hG e5 e6
    go_enter Try.func32, Try.ntmps32
    go_wp2_with fail
    generalize (w.alloc (.cells #[.int .i64 n, .slice ad es.length cap] 31)) = w0 at K0 ⊢
    have x0 : w0.cell? ⟨w.heap.size, 0, none⟩ = some (.int .i64 n) := by simpa using K0.out.2.cell 0
    have x1 : w0.cell? ⟨w.heap.size, 1, none⟩ = some (.slice ad es.length cap) := by simpa using K0.out.2.cell 1
    go_wp2_with (go_at_call 70; (with_reducible refine (HV.out _ K0.out.1).mono ?_); rintro e w1 ⟨rfl, hb1⟩; have K1 := Lib.hid (And.intro (bel_trans K0.out.1 hb1) (K0.out.2.keep hb1)); clear x0 x1 hb1; have x0 : w1.cell? ⟨w.heap.size, 0, none⟩ = some (.int .i64 n) := (by simpa using K1.out.2.cell 0); have x1 : w1.cell? ⟨w.heap.size, 1, none⟩ = some (.slice ad es.length cap) := (by simpa using K1.out.2.cell 1))
    go_ret2
    exact ⟨rfl, K1.out.1⟩
  by_cases hx1 : n ≤ x
  · have e6 : inN n x = false := by unfold inN; rw [decide_eq_false (show ¬ (x < n) by omega), Bool.and_false]
    rw [e6, Bool.and_false, if_neg (by decide)]
    clear hv hG e5 e6
    go_enter Try.func32, Try.ntmps32
    go_wp2_with fail
    generalize (w.alloc (.cells #[.int .i64 n, .slice ad es.length cap] 31)) = w0 at K0 ⊢
    have x0 : w0.cell? ⟨w.heap.size, 0, none⟩ = some (.int .i64 n) := by simpa using K0.out.2.cell 0
    have x1 : w0.cell? ⟨w.heap.size, 1, none⟩ = some (.slice ad es.length cap) := by simpa using K0.out.2.cell 1
    go_wp2_with (go_at_call 70; (with_reducible refine (HV.out _ K0.out.1).mono ?_); rintro e w1 ⟨rfl, hb1⟩; have K1 := Lib.hid (And.intro (bel_trans K0.out.1 hb1) (K0.out.2.keep hb1)); clear x0 x1 hb1; have x0 : w1.cell? ⟨w.heap.size, 0, none⟩ = some (.int .i64 n) := (by simpa using K1.out.2.cell 0); have x1 : w1.cell? ⟨w.heap.size, 1, none⟩ = some (.slice ad es.length cap) := (by simpa using K1.out.2.cell 1))
    go_ret2
    exact ⟨rfl, K1.out.1⟩
  have e6 : inN n x = true := by unfold inN; rw [decide_eq_true (by omega), decide_eq_true (show x < n by omega)]; rfl
  rw [e6, Bool.and_self, if_pos rfl]
  have hp := onOk_parts hG
  have ha2 := hp.2.1 a (by simp)
  obtain ⟨g1, g2, g3, _⟩ := gVal_parts hp.1
  have hea := eAll_of hp.1
  obtain ⟨N, rfl⟩ : ∃ N : Nat, n = N := ⟨n.toNat, by omega⟩
  obtain ⟨A0, rfl⟩ : ∃ A0 : Nat, a = A0 := ⟨a.toNat, by omega⟩
  obtain ⟨X0, rfl⟩ : ∃ X0 : Nat, x = X0 := ⟨x.toNat, by omega⟩
  rw [Int.toNat_natCast] at hea
  rw [Int.toNat_natCast, Int.toNat_natCast, Int.toNat_natCast]
  have hcq := count_eq (a := A0) (by omega) (by omega) hea (hop_rt (a := A0) (by omega) (by omega) hea (by omega)) (show X0 < N by omega)
  rw [hcq]
  have hr := fun w' (h : Below w.heap.size w w') => l3View 5 es N A0 (.slice ad es.length cap) w' (by decide) (hS.out.keep h) (by omega) (by omega) (by omega) hea
  have e7 : vIter 5 es N (vStart 5 N A0) = vRt 5 N es A0 := by unfold vRt; rw [Int.toNat_natCast]
  have hlen : (vRt 5 N es A0).length = N := by rw [vRt_length, Int.toNat_natCast]
  rw [e7] at hr
  obtain ⟨L, hL⟩ : ∃ L, L = vRt 5 N es A0 := ⟨_, rfl⟩
  rw [← hL] at hr hlen ⊢
  have HR := Lib.hid hr
  have hcl : ∀ r, (ccIt L es N A0 r).length = N := fun r => ccIt_length L es N A0 r
  have HCL := Lib.hid hcl
  have HE := Lib.hid hea
  have HLN := Lib.hid hlen
  have HAX := Lib.hid (And.intro (show A0 < N by omega) (show X0 < N by omega))
  obtain ⟨R, hR⟩ : ∃ R, R = (ccIt L es N A0 (N - 1)).getD X0 0 := ⟨_, rfl⟩
  rw [← hR]
  have HRR := Lib.hid hR
  have hAl : (A0 : Int) < N := by omega
  have hXl : (X0 : Int) < N := by omega
  have hN0 : ¬ ((N : Int) < 0) := by omega
  have HN1 : Hid (1 ≤ N) := Lib.hid (by omega)
  clear hv hG hea hlen hcl hR hr hL e7 e5 e6 hcq hp ha2 g1
  have hmk := run_make_row' (P := Try.prog) 26 3 (.int .i64 0) 8 Try.underlying26 info_int2 rfl .i64 .i64 N (by omega) (by omega)
  go_enter Try.func32, Try.ntmps32
  go_wp2_with fail
  generalize (w.alloc (.cells #[.int .i64 N, .slice ad es.length cap] 31)) = w0 at K0 ⊢
  have x0 : w0.cell? ⟨w.heap.size, 0, none⟩ = some (.int .i64 N) := by simpa using K0.out.2.cell 0
  have x1 : w0.cell? ⟨w.heap.size, 1, none⟩ = some (.slice ad es.length cap) := by simpa using K0.out.2.cell 1
  go_upto_region 5 with (first | (go_at_call 70; (with_reducible refine (HV.out _ K0.out.1).mono ?_); rintro e w1 ⟨rfl, hb1⟩; have K1 := Lib.hid (And.intro (bel_trans K0.out.1 hb1) (K0.out.2.keep hb1)); clear x0 x1 hb1; have x0 : w1.cell? ⟨w.heap.size, 0, none⟩ = some (.int .i64 N) := (by simpa using K1.out.2.cell 0); have x1 : w1.cell? ⟨w.heap.size, 1, none⟩ = some (.slice ad es.length cap) := (by simpa using K1.out.2.cell 1)) | (go_at_call 62; (with_reducible refine (HR.out _ K1.out.1).mono ?_); rintro e w2 ⟨u, rfl, hou, hok, hb2⟩; obtain ⟨ub, uo, uc, rfl, hub, huc⟩ := (InR.rowI hou).at (i := 0) (by have := HN1.out; have := HLN.out; omega); have HU := Lib.hid (And.intro hub huc); have K2 := Lib.hid (And.intro (bel_trans K1.out.1 hb2) (K1.out.2.keep hb2)); clear x0 x1 hou hok hb2 hub huc; have x0 : w2.cell? ⟨w.heap.size, 0, none⟩ = some (.int .i64 N) := (by simpa using K2.out.2.cell 0); have hz2 := K2.out.2.lt))
  clear hmk x0 hz2
  have b4 := Box.new w2 42 #[.int .i64 5, .int .i64 A0, .slice (some ⟨ub, uo, none⟩) L.length uc]
  have h24 : Below w2.heap.size w2 ((w2.alloc (.cells #[.int .i64 5, .int .i64 A0, .slice (some ⟨ub, uo, none⟩) L.length uc] 42)).alloc (.cells (madeCells #[.int .i64 0] N) 3)) := ((Below.refl _ w2).alloc (Nat.le_refl _) _).alloc (by simp) _
  have hws : Wr ((w2.alloc (.cells #[.int .i64 5, .int .i64 A0, .slice (some ⟨ub, uo, none⟩) L.length uc] 42)).alloc (.cells (madeCells #[.int .i64 0] N) 3)) (w2.alloc (.cells #[.int .i64 5, .int .i64 A0, .slice (some ⟨ub, uo, none⟩) L.length uc] 42)).heap.size 0 (List.replicate N 0) := Wr.madeC (w2.alloc (.cells #[.int .i64 5, .int .i64 A0, .slice (some ⟨ub, uo, none⟩) L.length uc] 42)) N
  have hw2 := hws.set (k := A0) (by simpa using HAX.out.1) 1
  rw [Nat.zero_add] at hw2
  have hrd : ∀ w', Below (w2.alloc (.cells #[.int .i64 5, .int .i64 A0, .slice (some ⟨ub, uo, none⟩) L.length uc] 42)).heap.size ((w2.alloc (.cells #[.int .i64 5, .int .i64 A0, .slice (some ⟨ub, uo, none⟩) L.length uc] 42)).alloc (.cells (madeCells #[.int .i64 0] N) 3)) w' → (w'.cell? ⟨w.heap.size, 0, none⟩ = some (.int .i64 N) ∧ w'.cell? ⟨w.heap.size, 1, none⟩ = some (.slice ad es.length cap) ∧ w'.cell? ⟨w2.heap.size, 2, none⟩ = some (.slice (some ⟨ub, uo, none⟩) L.length uc)) ∧ Below w.heap.size w w' ∧ ∀ j, j < L.length → w'.cell? ⟨ub, uo + j, none⟩ = some (.int .i64 (L.getD j 0)) := fun w' h => by
    have h5 : Below w2.heap.size w2 w' := h24.trans (h.mono (by simp))
    have q1 := K2.out.2.keep h5
    have q2 : Box w' w2.heap.size 42 #[.int .i64 5, .int .i64 A0, .slice (some ⟨ub, uo, none⟩) L.length uc] := (h.block _ (by simp)).trans ((b4.alloc _))
    exact ⟨⟨by simpa using q1.cell 0, by simpa using q1.cell 1, by simpa using q2.cell 2⟩, bel_trans K2.out.1 h5, fun j hj => (h5.cell (p := ⟨ub, _, none⟩) HU.out.1).trans (HU.out.2 j hj)⟩
  have hst : Below (w2.alloc (.cells #[.int .i64 5, .int .i64 A0, .slice (some ⟨ub, uo, none⟩) L.length uc] 42)).heap.size ((w2.alloc (.cells #[.int .i64 5, .int .i64 A0, .slice (some ⟨ub, uo, none⟩) L.length uc] 42)).alloc (.cells (madeCells #[.int .i64 0] N) 3)) (((w2.alloc (.cells #[.int .i64 5, .int .i64 A0, .slice (some ⟨ub, uo, none⟩) L.length uc] 42)).alloc (.cells (madeCells #[.int .i64 0] N) 3)).setCell ⟨(w2.alloc (.cells #[.int .i64 5, .int .i64 A0, .slice (some ⟨ub, uo, none⟩) L.length uc] 42)).heap.size, A0, none⟩ (.int .i64 1)) := (Below.refl (w2.alloc (.cells #[.int .i64 5, .int .i64 A0, .slice (some ⟨ub, uo, none⟩) L.length uc] 42)).heap.size ((w2.alloc (.cells #[.int .i64 5, .int .i64 A0, .slice (some ⟨ub, uo, none⟩) L.length uc] 42)).alloc (.cells (madeCells #[.int .i64 0] N) 3))).setCell (p := ⟨(w2.alloc (.cells #[.int .i64 5, .int .i64 A0, .slice (some ⟨ub, uo, none⟩) L.length uc] 42)).heap.size, A0, none⟩) (Nat.le_refl _) _
  have HRD := Lib.hid hrd
  have HST := Lib.hid (And.intro hst hw2)
  clear hst hw2 hrd h24 b4
  have m0 : ((w2.alloc (.cells #[.int .i64 5, .int .i64 A0, .slice (some ⟨ub, uo, none⟩) L.length uc] 42)).alloc (.cells (madeCells #[.int .i64 0] N) 3)).cell? ⟨w2.heap.size + 1, A0, none⟩ = some (.int .i64 0) := by
    have hC2 : (w2.alloc (.cells #[.int .i64 5, .int .i64 A0, .slice (some ⟨ub, uo, none⟩) L.length uc] 42)).heap.size = w2.heap.size + 1 := by simp
    have h := (hws.2 A0 (by simpa using HAX.out.1)).1
    rw [Nat.zero_add, hC2] at h
    rw [h]
    simp [List.getD, HAX.out.1]
  have m1 : ((w2.alloc (.cells #[.int .i64 5, .int .i64 A0, .slice (some ⟨ub, uo, none⟩) L.length uc] 42)).alloc (.cells (madeCells #[.int .i64 0] N) 3)).frozen? ⟨w2.heap.size + 1, A0, none⟩ = false := by
    have hC2 : (w2.alloc (.cells #[.int .i64 5, .int .i64 A0, .slice (some ⟨ub, uo, none⟩) L.length uc] 42)).heap.size = w2.heap.size + 1 := by simp
    have h := (hws.2 A0 (by simpa using HAX.out.1)).2
    rwa [Nat.zero_add, hC2] at h
  go_wp2_with fail
  clear m0 m1 hws
  obtain ⟨V, hV⟩ : ∃ V, V = w2.heap.size := ⟨_, rfl⟩
  obtain ⟨C, hC⟩ : ∃ C, C = (w2.alloc (.cells #[.int .i64 5, .int .i64 A0, .slice (some ⟨ub, uo, none⟩) L.length uc] 42)).heap.size := ⟨_, rfl⟩
  have hC2 : (w2.alloc (.cells #[.int .i64 5, .int .i64 A0, .slice (some ⟨ub, uo, none⟩) L.length uc] 42)).heap.size = w2.heap.size + 1 := by simp
  have HVC : Hid (C = V + 1) := Lib.hid (by rw [hC, hV, hC2])
  have HVL : Hid (V = w2.heap.size) := Lib.hid hV
  rw [← hC] at HRD HST
  rw [← hV] at HRD
  obtain ⟨W5, hW5⟩ : ∃ W5, W5 = ((w2.alloc (.cells #[.int .i64 5, .int .i64 A0, .slice (some ⟨ub, uo, none⟩) L.length uc] 42)).alloc (.cells (madeCells #[.int .i64 0] N) 3)) := ⟨_, rfl⟩
  obtain ⟨W6, hW6⟩ : ∃ W6, W6 = W5.setCell ⟨C, A0, none⟩ (.int .i64 1) := ⟨_, rfl⟩
  rw [← hW5] at HRD HST
  rw [← hW6] at HST
  have hfr : (((w2.alloc (.cells #[.int .i64 5, .int .i64 A0, .slice (some ⟨ub, uo, none⟩) L.length uc] 42)).alloc (.cells (madeCells #[.int .i64 0] N) 3))).setCell ⟨w2.heap.size + 1, A0, none⟩ (.int .i64 1) = W6 := by rw [hW6, hW5, hC, hC2]
  have heq : (((w2.alloc (.cells #[.int .i64 5, .int .i64 A0, .slice (some ⟨ub, uo, none⟩) L.length uc] 42)).alloc (.cells (madeCells #[.int .i64 0] N) 3))).setCell ⟨w2.heap.size + 1, A0, none⟩ (.int .i64 1) = ((w2.alloc (.cells #[.int .i64 5, .int .i64 A0, .slice (some ⟨ub, uo, none⟩) L.length uc] 42))).alloc (.cells ((madeCells #[.int .i64 0] N).setIfInBounds A0 (.int .i64 1)) 3) := by
    have h := setMade (w2.alloc (.cells #[.int .i64 5, .int .i64 A0, .slice (some ⟨ub, uo, none⟩) L.length uc] 42)) A0 N
    rw [hC2] at h
    exact h
  rw [heq] at hfr
  clear heq
  first | rw [hfr] | skip
  have eV : w2.heap.size = V := hV.symm
  have eC : w2.heap.size + 1 = C := by rw [hC, hC2]
  first | rw [eC] | skip
  first | rw [eV] | skip
  clear hfr hW5 hW6 hC hC2 hV eV eC
  go_loopw [10] (fun c wr => ∃ k : Nat, 1 ≤ k ∧ k ≤ N ∧ c = .int .i64 k ∧ Hid (Wr wr C 0 (ccIt L es N A0 (k - 1)) ∧ Below C W5 wr)) (fun c _ => N - (intOf c).toNat)
  case atStart => exact ⟨1, Nat.le_refl _, HN1.out, rfl, Lib.hid ⟨HST.out.2, HST.out.1⟩⟩
  case round =>
    obtain ⟨k, hk1, hk, rfl, H⟩ := hrel
    obtain ⟨⟨x0, x1, y2⟩, -, -⟩ := HRD.out _ H.out.2
    by_cases hlt : k < N
    · have hlt' : (k : Int) < N := by omega
      obtain ⟨M0, hM0⟩ : ∃ M0, M0 = ccIt L es N A0 (k - 1) := ⟨_, rfl⟩
      have hM1 : es.foldl (ccUp L (k : Int)) M0 = ccIt L es N A0 k := by
        obtain ⟨j, rfl⟩ : ∃ j, k = j + 1 := ⟨k - 1, by omega⟩
        rw [hM0]; rfl
      have hM2 : M0.length = N := by rw [hM0]; exact HCL.out _
      rw [← hM0] at H
      have HM := Lib.hid (And.intro hM1 hM2)
      clear hM0 hM1 hM2
      go_wp2
      clear x0 x1 y2
      obtain ⟨w9, hw9⟩ : ∃ w9, w9 = wr := ⟨_, rfl⟩
      rw [← hw9] at H ⊢
      clear hw9
      go_loopw [11] (fun c wr => ∃ i : Nat, i ≤ es.length ∧ c = .int .i64 i ∧ Hid (Wr wr C 0 ((es.take i).foldl (ccUp L (k : Int)) M0) ∧ Below C W5 wr)) (fun c _ => es.length - (intOf c).toNat)
      case atStart => exact ⟨0, Nat.zero_le _, rfl, H⟩
      case round =>
        obtain ⟨i, hi, rfl, H2⟩ := hrel
        obtain ⟨⟨x0, x1, y2⟩, hbw, hLc⟩ := HRD.out _ H2.out.2
        by_cases hie : i < es.length
        · have hie' : (i : Int) < es.length := by omega
          rcases HZ.out with h00 | ⟨b, off, rfl, hb, hc⟩
          · rw [h00] at hie; simp at hie
          obtain ⟨ex, ey, z, hx⟩ : ∃ x y z, (x, y, z) = es.getD i (0, 0, 0) := ⟨_, _, _, rfl⟩
          obtain ⟨X, Y, rfl, rfl, hX, hY, hwz⟩ := edge_nat HE.out hie hx
          have h1 := hc i hie
          rw [← hx] at h1
          simp only at h1
          have c0 := (hbw.cell (p := ⟨b, off + i * 3, none⟩) hb).trans h1.1
          have c1 := (hbw.cell (p := ⟨b, off + i * 3 + 1, none⟩) hb).trans h1.2.1
          have c2 := (hbw.cell (p := ⟨b, off + i * 3 + 2, none⟩) hb).trans h1.2.2
          have hsc := ccT_succ L (k : Int) es M0 hie
          rw [← hx] at hsc
          have hml : ((es.take i).foldl (ccUp L (k : Int)) M0).length = N := by rw [ccF_length]; exact HM.out.2
          obtain ⟨M, hM⟩ : ∃ M, M = (es.take i).foldl (ccUp L (k : Int)) M0 := ⟨_, rfl⟩
          rw [← hM] at hsc hml H2
          rw [ccUp_at, Int.toNat_natCast, Int.toNat_natCast] at hsc
          obtain ⟨lt, hlt1⟩ : ∃ lt, lt = L.getD Y 0 := ⟨_, rfl⟩
          obtain ⟨lf, hlf⟩ : ∃ lf, lf = L.getD X 0 := ⟨_, rfl⟩
          obtain ⟨p, hp⟩ : ∃ p, p = M.getD Y 0 := ⟨_, rfl⟩
          obtain ⟨r, hr⟩ : ∃ r, r = M.getD X 0 := ⟨_, rfl⟩
          obtain ⟨q, hq⟩ : ∃ q, q = IntKind.i64.wrap (p + r) := ⟨_, rfl⟩
          rw [← hlt1, ← hlf, ← hp, ← hr, ← hq] at hsc
          have hwr : IntKind.i64.wrap (p + r) = q := hq.symm
          have hwk : IntKind.i64.wrap ((k : Int) - 1) = (k : Int) - 1 := by rw [IntKind.wrap_i64]; omega
          have hcY := hLc Y (by have := HLN.out; omega)
          have hcX := hLc X (by have := HLN.out; omega)
          rw [← hlt1] at hcY
          rw [← hlf] at hcX
          have hLl := HLN.out
          have hYu : (Y : Int) < L.length := by omega
          have hXu : (X : Int) < L.length := by omega
          have hYn : (Y : Int) < N := by omega
          have hXn : (X : Int) < N := by omega
          have hcp := H2.out.1.2 Y (by omega)
          have hcr := H2.out.1.2 X (by omega)
          rw [← hp, Nat.zero_add] at hcp
          rw [← hr, Nat.zero_add] at hcr
          have hCl := H2.out.1.1
          have hb9 : Below wr.heap.size wr (wr.alloc (.cells #[.int .i64 X, .int .i64 Y, .int .i64 z] 79)) := (Below.refl _ wr).alloc (Nat.le_refl _) _
          have hHA := Lib.hid (And.intro (H2.out.1.keep hb9) (H2.out.2.alloc (Nat.le_of_lt hCl) (.cells #[.int .i64 X, .int .i64 Y, .int .i64 z] 79)))
          have hul : ub < wr.heap.size := by have h1 := HU.out.1; have h2 := HVC.out; have h3 := HVL.out; omega
          have hvl : V < wr.heap.size := by have h2 := HVC.out; omega
          have hff : (wr.alloc (.cells #[.int .i64 X, .int .i64 Y, .int .i64 z] 79)).cell? ⟨wr.heap.size, 0, none⟩ = some (.int .i64 X) ∧ (wr.alloc (.cells #[.int .i64 X, .int .i64 Y, .int .i64 z] 79)).cell? ⟨wr.heap.size, 1, none⟩ = some (.int .i64 Y) ∧ (wr.alloc (.cells #[.int .i64 X, .int .i64 Y, .int .i64 z] 79)).cell? ⟨V, 2, none⟩ = some (.slice (some ⟨ub, uo, none⟩) L.length uc) ∧ (wr.alloc (.cells #[.int .i64 X, .int .i64 Y, .int .i64 z] 79)).cell? ⟨ub, uo + Y, none⟩ = some (.int .i64 lt) ∧ (wr.alloc (.cells #[.int .i64 X, .int .i64 Y, .int .i64 z] 79)).cell? ⟨ub, uo + X, none⟩ = some (.int .i64 lf) ∧ (wr.alloc (.cells #[.int .i64 X, .int .i64 Y, .int .i64 z] 79)).cell? ⟨C, Y, none⟩ = some (.int .i64 p) ∧ (wr.alloc (.cells #[.int .i64 X, .int .i64 Y, .int .i64 z] 79)).cell? ⟨C, X, none⟩ = some (.int .i64 r) ∧ (wr.alloc (.cells #[.int .i64 X, .int .i64 Y, .int .i64 z] 79)).frozen? ⟨C, Y, none⟩ = false :=
            ⟨by go_simp, by go_simp, (hb9.cell (p := ⟨V, _, none⟩) hvl).trans y2, (hb9.cell (p := ⟨ub, _, none⟩) hul).trans hcY, (hb9.cell (p := ⟨ub, _, none⟩) hul).trans hcX, (hb9.cell (p := ⟨C, _, none⟩) hCl).trans hcp.1, (hb9.cell (p := ⟨C, _, none⟩) hCl).trans hcr.1, (hb9.frozen (p := ⟨C, _, none⟩) hCl).trans hcp.2⟩
          have HFF := Lib.hid hff
          have HSC := Lib.hid hsc
          have HYM : Hid (Y < M.length) := Lib.hid (by omega)
          clear hc h1 hx hsc hml hM hp hr hq hcp hcr hff hwz hcY hcX hlt1 hlf hLc hbw hb9 hLl
          by_cases h1 : lt = (k : Int)
          · have d1 : (lt == (k : Int)) = true := by simpa using h1
            by_cases h2 : lf = (k : Int) - 1
            · have d2 : (lf == (k : Int) - 1) = true := by simpa using h2
              have HN : Hid (Wr ((wr.alloc (.cells #[.int .i64 X, .int .i64 Y, .int .i64 z] 79)).setCell ⟨C, Y, none⟩ (.int .i64 q)) C 0 ((es.take (i + 1)).foldl (ccUp L (k : Int)) M0) ∧ Below C W5 ((wr.alloc (.cells #[.int .i64 X, .int .i64 Y, .int .i64 z] 79)).setCell ⟨C, Y, none⟩ (.int .i64 q))) := Lib.hid (by
                have h3 := hHA.out.1.set HYM.out q
                rw [Nat.zero_add] at h3
                rw [HSC.out, if_pos ⟨h1, h2⟩]
                exact ⟨h3, hHA.out.2.setCell (Nat.le_refl _) _⟩)
              have H1 := Lib.hid (And.intro h1 h2)
              clear h1 h2
              go_upto_region 13 with fail
              generalize (wr.alloc (.cells #[.int .i64 X, .int .i64 Y, .int .i64 z] 79)) = W2 at HN HFF hHA ⊢
              clear c0 c1 c2 y2 x0 x1
              obtain ⟨f0, f1, f2, f3, f4, f5, f6, f7⟩ := HFF.out
              have HND := Lib.hid (And.intro (HN.out.1.keep ((Below.refl _ _).drew)) HN.out.2.drew)
              go_wp2_with fail
              go_region
              all_goals go_wp2
              all_goals go_roundw
              all_goals first | (simp [intOf]; omega) | exact ⟨i + 1, by omega, by go_num, HN⟩ | exact ⟨i + 1, by omega, by go_num, HND⟩ | ((repeat apply Exists.intro); exact ⟨⟨i + 1, by omega, by go_num, HND⟩, rfl⟩)
            · have d2 : (lf == (k : Int) - 1) = false := by simpa using h2
              have HN : Hid (Wr (wr.alloc (.cells #[.int .i64 X, .int .i64 Y, .int .i64 z] 79)) C 0 ((es.take (i + 1)).foldl (ccUp L (k : Int)) M0) ∧ Below C W5 (wr.alloc (.cells #[.int .i64 X, .int .i64 Y, .int .i64 z] 79))) := Lib.hid (by
                rw [HSC.out, if_neg (fun h => h2 h.2)]
                exact hHA.out)
              have H1 := Lib.hid (And.intro h1 h2)
              clear h1 h2
              go_upto_region 13 with fail
              generalize (wr.alloc (.cells #[.int .i64 X, .int .i64 Y, .int .i64 z] 79)) = W2 at HN HFF hHA ⊢
              clear c0 c1 c2 y2 x0 x1
              obtain ⟨f0, f1, f2, f3, f4, f5, f6, f7⟩ := HFF.out
              go_wp2
              all_goals go_roundw
              all_goals first | (simp [intOf]; omega) | exact ⟨i + 1, by omega, by go_num, HN⟩ | ((repeat apply Exists.intro); exact ⟨⟨i + 1, by omega, by go_num, HN⟩, rfl⟩)
          · have d1 : (lt == (k : Int)) = false := by simpa using h1
            have HN : Hid (Wr (wr.alloc (.cells #[.int .i64 X, .int .i64 Y, .int .i64 z] 79)) C 0 ((es.take (i + 1)).foldl (ccUp L (k : Int)) M0) ∧ Below C W5 (wr.alloc (.cells #[.int .i64 X, .int .i64 Y, .int .i64 z] 79))) := Lib.hid (by
              rw [HSC.out, if_neg (fun h => h1 h.1)]
              exact hHA.out)
            have H1 := Lib.hid h1
            clear h1
            go_upto_region 13 with fail
            generalize (wr.alloc (.cells #[.int .i64 X, .int .i64 Y, .int .i64 z] 79)) = W2 at HN HFF hHA ⊢
            clear c0 c1 c2 y2 x0 x1
            obtain ⟨f0, f1, f2, f3, f4, f5, f6, f7⟩ := HFF.out
            go_wp2
            all_goals go_roundw
            all_goals first | (simp [intOf]; omega) | exact ⟨i + 1, by omega, by go_num, HN⟩ | ((repeat apply Exists.intro); exact ⟨⟨i + 1, by omega, by go_num, HN⟩, rfl⟩)
        · have hkk : ¬ ((i : Int) < es.length) := by omega
          have hie2 : i = es.length := by omega
          have HNX : Hid (Wr wr C 0 (ccIt L es N A0 (k + 1 - 1)) ∧ Below C W5 wr) := Lib.hid (by
            have h := H2.out
            rw [hie2, List.take_length, HM.out.1] at h
            exact h)
          clear hie2
          go_wp2
          go_roundw
          all_goals first | (simp [intOf]; omega) | exact ⟨k + 1, by omega, by omega, by go_num, HNX⟩ | ((repeat apply Exists.intro); exact ⟨⟨k + 1, by omega, by omega, by go_num, HNX⟩, rfl⟩)
    · have hkk : ¬ ((k : Int) < N) := by omega
      have hkN : k = N := by omega
      have hcx := (H.out.1.2 X0 (by rw [HCL.out]; exact HAX.out.2)).1
      rw [Nat.zero_add, hkN, ← HRR.out] at hcx
      have HKN := Lib.hid hkN
      clear hkN
      go_wp2
      go_ret2
      exact ⟨rfl, (HRD.out _ H.out.2).2.1⟩
end Go.Proofs.Ytdblcaeeepkebaa
