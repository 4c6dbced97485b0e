/-
  Proved: a node is a bridge exactly if without it the other one is not reached (the law FnBridgeCut returns true for every input and leaves it as it was), with no further condition.
-/
import Derived.Test.YtbinpaaihdcnlaaRows
import Derived.Test.YtbinpaaihdcnlaaDrawT
import Derived.Test.YtbinpaaihdcnlaaDerH
import Derived.Test.YtbinpaaihdcnlaaDerF
import Derived.Test.YtbinpaaihdcnlaaViewT
import Derived.Test.YtbinpaaihdcnlaaGvInts
import Derived.Test.YtbinpaaihdcnlaaStartL
import Derived.WalkKit
import Derived.ProofKit
import Derived.OpenShut
import Derived.ShutString
import Derived.ChangeOld
import Derived.Below
namespace Go.Proofs.Ytbinpaaihdcnlaa.fnBridgeCut
open Go.Proofs.Ytbinpaaihdcnlaa Go.BigFrame
open Go.ChangeShapes Go.WideShapes Go.ChangeAt Go.RowKit
open Go.ChangeMaps (open_string shut_string)
set_option linter.unusedVariables false

theorem own : ownKnob Try.prog.godebug = none := by kernel_rfl
theorem laidOut : laidOutB Try.prog = true := by kernel_rfl

def IsRow (k : IntKind) (w : World) (a : Option Addr) (len cap : Nat) (zs : List Int) : Prop :=
  (a = none ∧ len = 0 ∧ cap = 0 ∧ zs = []) ∨
  ∃ x, a = some x ∧ len ≤ cap ∧ cap ≤ maxLen ∧ zs.length = cap ∧ (∀ i, i < zs.length → w.cell? (x.add i) = some (.int k (zs.getD i 0))) ∧ ∀ n ∈ zs, (Lit.int k n).wf = true

theorem bytes_of {w : World} {a : Option Addr} {len cap : Nat} {zs : List Int} (h : IsRow .u8 w a len cap zs) : Bytes w a len ∧ len ≤ cap ∧ len ≤ 9223372036854775807 := by
  rcases h with ⟨rfl, rfl, rfl, rfl⟩ | ⟨x, rfl, hl, hm, hz, hc, hw⟩
  · exact ⟨.inl rfl, Nat.le_refl _, by omega⟩
  · unfold maxLen at hm
    refine ⟨?_, hl, by omega⟩
    by_cases h0 : len = 0
    · exact .inl h0
    · obtain ⟨b, off, rfl, hc'⟩ := ints_at hc (by omega)
      exact .inr ⟨b, off, rfl, World.block_lt_of_cell? _ _ (hc' 0 (by omega)), fun i hi => ⟨zs[i]?.getD 0, (range_u8 hw i).1, (range_u8 hw i).2, hc' i (by omega)⟩⟩

theorem walk (a0 : Option Addr) (len0 cap0 : Nat) (z0 : List Int) (w : World) (w0 : IsRow .u8 w a0 len0 cap0 z0) :
    Calls Try.prog 10 #[.slice a0 len0 cap0] w fun e w' => e = .returned (.bool true) ∧ Below w.heap.size w w' := by
  obtain ⟨hby, hcp, hn⟩ := bytes_of w0
  have HB0 := Lib.hid hby
  clear hby w0
  by_cases h0 : 1048576 < len0
  · go_enter Try.func10, Try.ntmps10
    go_wp2
    go_ret
    exact ⟨rfl, Below.refl _ _⟩
  have h0' : len0 ≤ 1048576 := by omega
  clear h0
  obtain ⟨w0, hw0⟩ : ∃ w0, w0 = w := ⟨_, rfl⟩
  subst hw0
  have H0 := Below.refl w0.heap.size w0
  go_enter Try.func10, Try.ntmps10
  go_wp2_with fail
  refine (dDrawBridgeNodes a0 len0 cap0 _ HB0.out hcp (by omega)).mono ?_
  rintro e w1 ⟨n, es, v, m, src, rfl, hle, hrow, hok, hb1⟩
  have H1 := bel_trans H0 hb1
  have SZ1 := Lib.hid hb1.size
  obtain ⟨va, vc, rfl, hz9⟩ := id hrow
  have HOKG := Lib.hid hok
  clear hz9 hok
  have G_1 := Lib.hid (hrow)
  clear hrow
  go_wp2_with fail
  have hb2 : Below w1.heap.size w1 (w1.alloc (.cells #[.int .i64 n, .slice va es.length vc] 25)) := (Below.refl _ _).alloc (by simp <;> omega) _
  have H2 := bel_trans H1 hb2
  have SZ2 := Lib.hid hb2.size
  have G_2 := Lib.hid (G_1.out.keep hb2)
  have qg0_2 : (w1.alloc (.cells #[.int .i64 n, .slice va es.length vc] 25)).cell? ⟨w1.heap.size, 0, none⟩ = some (.int .i64 n) := by go_simp
  have qg1_2 : (w1.alloc (.cells #[.int .i64 n, .slice va es.length vc] 25)).cell? ⟨w1.heap.size, 1, none⟩ = some (.slice va es.length vc) := by go_simp
  have zg_2 : w1.heap.size < (w1.alloc (.cells #[.int .i64 n, .slice va es.length vc] 25)).heap.size := by simp <;> omega
  generalize (w1.alloc (.cells #[.int .i64 n, .slice va es.length vc] 25)) = w2 at hb2 H2 SZ2 G_2 qg0_2 qg1_2 zg_2 ⊢
  have ZBg := Lib.hid zg_2
  clear G_1
  have hle2 : es.length ≤ 1048576 := by omega
  have hle3 : es.length ≤ 281474976710656 := by omega
  have hst := fun s w (h : RowE w s es) => bridgeNodes n m src es s w h hle3
  have hss := fun s w (h : RowE w s es) => sBridgeNodes n m src es s w h hle3
  cases hk : brB n es m src
  · rw [show brR n es m src = [] by unfold brR; rw [hk]; rfl, hk] at hst hss
    have HST := Lib.hid hst
    have HSS := Lib.hid hss
    clear hst hss hk
    go_wp2_with fail
    refine (HST.out _ _ G_2.out.edges).mono ?_
    rintro e w3 ⟨vx, rfl, howx, hb3⟩
    have H3 := bel_trans H2 hb3
    have SZ3 := Lib.hid hb3.size
    have qg0_3 := (hb3.cell (p := ⟨w1.heap.size, 0, none⟩) zg_2).trans qg0_2
    have qg1_3 := (hb3.cell (p := ⟨w1.heap.size, 1, none⟩) zg_2).trans qg1_2
    have zg_3 := Nat.lt_of_lt_of_le zg_2 hb3.size
    have G_3 := Lib.hid (G_2.out.keep hb3)
    obtain ⟨ax, cx, rfl, hz9⟩ := id howx
    clear hz9
    have X_3 := Lib.hid (howx)
    clear zg_2 qg0_2 G_2 qg1_2
    clear howx
    go_wp2_with fail
    refine (HSS.out _ _ G_3.out.edges).mono ?_
    rintro e w4 ⟨vy, rfl, howy, hb4⟩
    have H4 := bel_trans H3 hb4
    have SZ4 := Lib.hid hb4.size
    have qg0_4 := (hb4.cell (p := ⟨w1.heap.size, 0, none⟩) zg_3).trans qg0_3
    have qg1_4 := (hb4.cell (p := ⟨w1.heap.size, 1, none⟩) zg_3).trans qg1_3
    have zg_4 := Nat.lt_of_lt_of_le zg_3 hb4.size
    have G_4 := Lib.hid (G_3.out.keep hb4)
    have X_4 := Lib.hid (X_3.out.keep hb4)
    obtain ⟨ay, cy, rfl, hz9⟩ := id howy
    clear hz9
    have Y_4 := Lib.hid (howy)
    clear qg0_3 qg1_3 zg_3 G_3 X_3
    clear howy
    go_wp2_with fail
    refine (gvInts ([] : List Int) _ _ _ X_4.out.ints Y_4.out.ints (by simp)).mono ?_
    rintro e w5 ⟨rfl, hb5⟩
    have H5 := bel_trans H4 hb5
    have SZ5 := Lib.hid hb5.size
    have qg0_5 := (hb5.cell (p := ⟨w1.heap.size, 0, none⟩) zg_4).trans qg0_4
    have qg1_5 := (hb5.cell (p := ⟨w1.heap.size, 1, none⟩) zg_4).trans qg1_4
    have zg_5 := Nat.lt_of_lt_of_le zg_4 hb5.size
    have G_5 := Lib.hid (G_4.out.keep hb5)
    have X_5 := Lib.hid (X_4.out.keep hb5)
    have Y_5 := Lib.hid (Y_4.out.keep hb5)
    clear qg0_4 qg1_4 zg_4 G_4 X_4 Y_4
    go_wp2_with fail
    refine (gvInts ([] : List Int) _ _ _ X_5.out.ints Y_5.out.ints (by simp)).mono ?_
    rintro e w6 ⟨rfl, hb6⟩
    have H6 := bel_trans H5 hb6
    have SZ6 := Lib.hid hb6.size
    have qg0_6 := (hb6.cell (p := ⟨w1.heap.size, 0, none⟩) zg_5).trans qg0_5
    have qg1_6 := (hb6.cell (p := ⟨w1.heap.size, 1, none⟩) zg_5).trans qg1_5
    have zg_6 := Nat.lt_of_lt_of_le zg_5 hb6.size
    have G_6 := Lib.hid (G_5.out.keep hb6)
    have X_6 := Lib.hid (X_5.out.keep hb6)
    have Y_6 := Lib.hid (Y_5.out.keep hb6)
    clear qg0_5 qg1_5 zg_5 G_5 X_5 Y_5
    go_wp2
    go_ret
    exact ⟨by first | rfl | simp, H6⟩
  · have hk2 := hk
    unfold brB at hk2
    rw [Bool.and_eq_true] at hk2
    have hp := onOk_parts hk2.1
    have hgv := hp.1
    have hnn := gVal_n hgv
    have h40 := (gVal_parts hgv).2.2.1
    have ha := hp.2.1 m (by simp)
    have hx := hp.2.1 src (by simp)
    obtain ⟨N, hN⟩ : ∃ N : Nat, n = N := ⟨n.toNat, by omega⟩
    subst hN
    obtain ⟨A, hA⟩ : ∃ A : Nat, m = A := ⟨m.toNat, by omega⟩
    subst hA
    obtain ⟨X, hX⟩ : ∃ X : Nat, src = X := ⟨src.toNat, by omega⟩
    subst hX
    have hAN : A < N := by omega
    have hXN : X < N := by omega
    have hN12 : N ≤ 12 := by omega
    rw [show brR N es A X = nwL N (brP es N A X) by unfold brR; rw [if_pos hk]; simp, hk] at hst hss
    have hva := fun (k : Nat) s t w (h : RowE w s es) (hr : Row w t [(k : Int)]) => viewAvoiding (N : Int) 4 (A : Int) es [(k : Int)] s t w h hr hle3 (by simp)
    have hvb : ∀ k : Nat, k < N → ¬ (k : Int) = A → vaB (N : Int) es 4 (A : Int) [(k : Int)] = true := fun k h1 h2 => by
      unfold vaB
      have h3 : onOk (N : Int) es 4 [(A : Int)] = true := by have h4 := hk2.1; rw [onOk_two] at h4; simp only [Bool.and_eq_true] at h4; exact h4.1
      rw [h3, Bool.true_and, Bool.and_eq_true]
      refine ⟨ndB_iff.2 ⟨fun y hy => ?_, by simp⟩, ?_⟩
      · rw [List.mem_singleton] at hy; subst hy; exact inN_iff.2 (by omega)
      · simp [inL]; omega
    have hin : ∀ k : Nat, k < N → inL (nwL N (brP es N A X)) (k : Int) = brP es N A X (k : Int) := fun k h => by
      rw [Bool.eq_iff_iff]
      unfold inL
      rw [decide_eq_true_eq, nwL_mem]
      exact ⟨fun h1 => h1.2, fun h1 => ⟨by omega, h1⟩⟩
    have hbA : brP es N A X (A : Int) = false := by simp [brP]
    have hbX : brP es N A X (X : Int) = false := by simp [brP]
    have hbk : ∀ k : Nat, ¬ (k : Int) = A → ¬ (k : Int) = X → brP es N A X (k : Int) = ((vIter 4 (woL es [(k : Int)]) N (vStart 4 N A)).getD X 0 == 0) := fun k h1 h2 => by
      unfold brP rcB
      rw [show ((k : Int) != A) = true by simpa using h1, show ((k : Int) != X) = true by simpa using h2, show mNone 4 = 0 from rfl, Bool.true_and, Bool.true_and]
      exact Bool.not_not _
    have hvaM : ∀ k : Nat, k < N → ¬ (k : Int) = A → vaM (N : Int) es 4 (A : Int) [(k : Int)] = 4 ∧ vaA (N : Int) es 4 (A : Int) [(k : Int)] = A ∧ vaL (N : Int) es 4 (A : Int) [(k : Int)] = vIter 4 (woL es [(k : Int)]) N (vStart 4 N A) := fun k h1 h2 => by
      obtain ⟨e1, e2, e3⟩ := vaB_yes (hvb k h1 h2)
      exact ⟨e1, e2, by rw [e3, Int.toNat_natCast]⟩
    have hlz : ∀ k : Nat, (vIter 4 (woL es [(k : Int)]) N (vStart 4 N A)).length = N := fun k => by rw [vIter_length, vStart_length, Int.toNat_natCast]
    have hll : (nwL N (brP es N A X)).length ≤ 12 := Nat.le_trans (nwL_len _ _) hN12
    obtain ⟨L, hL⟩ : ∃ L, L = nwL N (brP es N A X) := ⟨_, rfl⟩
    rw [← hL] at hst hss hin hll
    have HST := Lib.hid hst
    have HSS := Lib.hid hss
    have HVA := Lib.hid hva
    have HVB := Lib.hid hvb
    have HIN := Lib.hid hin
    have HBA := Lib.hid hbA
    have HBX := Lib.hid hbX
    have HBK := Lib.hid hbk
    have HVM := Lib.hid hvaM
    have HLZ := Lib.hid hlz
    have HLL := Lib.hid hll
    have HGV := Lib.hid hgv
    clear hst hss hva hvb hin hbA hbX hbk hvaM hlz hll hL hk hk2 hp hgv hnn ha hx
    go_wp2_with fail
    refine (HST.out _ _ G_2.out.edges).mono ?_
    rintro e w3 ⟨vx, rfl, howx, hb3⟩
    have H3 := bel_trans H2 hb3
    have SZ3 := Lib.hid hb3.size
    have qg0_3 := (hb3.cell (p := ⟨w1.heap.size, 0, none⟩) zg_2).trans qg0_2
    have qg1_3 := (hb3.cell (p := ⟨w1.heap.size, 1, none⟩) zg_2).trans qg1_2
    have zg_3 := Nat.lt_of_lt_of_le zg_2 hb3.size
    have G_3 := Lib.hid (G_2.out.keep hb3)
    obtain ⟨ax, cx, rfl, hz9⟩ := id howx
    clear hz9
    have X_3 := Lib.hid (howx)
    clear zg_2 qg0_2 G_2 qg1_2
    clear howx
    go_wp2_with fail
    refine (HSS.out _ _ G_3.out.edges).mono ?_
    rintro e w4 ⟨vy, rfl, howy, hb4⟩
    have H4 := bel_trans H3 hb4
    have SZ4 := Lib.hid hb4.size
    have qg0_4 := (hb4.cell (p := ⟨w1.heap.size, 0, none⟩) zg_3).trans qg0_3
    have qg1_4 := (hb4.cell (p := ⟨w1.heap.size, 1, none⟩) zg_3).trans qg1_3
    have zg_4 := Nat.lt_of_lt_of_le zg_3 hb4.size
    have G_4 := Lib.hid (G_3.out.keep hb4)
    have X_4 := Lib.hid (X_3.out.keep hb4)
    obtain ⟨ay, cy, rfl, hz9⟩ := id howy
    clear hz9
    have Y_4 := Lib.hid (howy)
    clear qg0_3 qg1_3 zg_3 G_3 X_3
    clear howy
    go_wp2_with fail
    refine (gvInts L _ _ _ X_4.out.ints Y_4.out.ints (by have := HLL.out; omega)).mono ?_
    rintro e w5 ⟨rfl, hb5⟩
    have H5 := bel_trans H4 hb5
    have SZ5 := Lib.hid hb5.size
    have qg0_5 := (hb5.cell (p := ⟨w1.heap.size, 0, none⟩) zg_4).trans qg0_4
    have qg1_5 := (hb5.cell (p := ⟨w1.heap.size, 1, none⟩) zg_4).trans qg1_4
    have zg_5 := Nat.lt_of_lt_of_le zg_4 hb5.size
    have G_5 := Lib.hid (G_4.out.keep hb5)
    have X_5 := Lib.hid (X_4.out.keep hb5)
    have Y_5 := Lib.hid (Y_4.out.keep hb5)
    clear qg0_4 qg1_4 zg_4 G_4 X_4 Y_4
    go_wp2_with fail
    go_loopw [10] (fun c wr => ∃ k : Nat, k ≤ N ∧ c = .int .i64 k ∧ Hid (Below w5.heap.size w5 wr)) (fun c _ => N - (intOf c).toNat)
    case atStart => exact ⟨0, Nat.zero_le _, rfl, Lib.hid (Below.refl _ _)⟩
    case round =>
      obtain ⟨k, hk, rfl, HBW⟩ := hrel
      have sW := HBW.out.size
      have qg0_r := (HBW.out.cell (p := ⟨w1.heap.size, 0, none⟩) zg_5).trans qg0_5
      have qg1_r := (HBW.out.cell (p := ⟨w1.heap.size, 1, none⟩) zg_5).trans qg1_5
      have zg_r := Nat.lt_of_lt_of_le zg_5 HBW.out.size
      have hgr := RowE.keep G_5.out.edges HBW.out
      have HGR := Lib.hid hgr
      have HXR := Lib.hid (X_5.out.keep HBW.out).ints
      clear hgr
      by_cases hlt : k < N
      · have hlt' : (k : Int) < N := by omega
        by_cases hkA : (k : Int) = A
        · have d1 : ((k : Int) == A) = true := by simpa using hkA
          clear hkA
          go_wp2
          go_roundw
          case rel => first | exact ⟨k + 1, by omega, by go_num, Lib.hid (HBW.out)⟩ | exact ⟨_, ⟨k + 1, by omega, by go_num, Lib.hid (HBW.out)⟩, rfl⟩
          case measure => simp [intOf]; omega
        have d1 : ((k : Int) == A) = false := by simpa using hkA
        by_cases hkX : (k : Int) = X
        · have d2 : ((k : Int) == X) = true := by simpa using hkX
          clear hkA hkX
          go_wp2
          go_roundw
          case rel => first | exact ⟨k + 1, by omega, by go_num, Lib.hid (HBW.out)⟩ | exact ⟨_, ⟨k + 1, by omega, by go_num, Lib.hid (HBW.out)⟩, rfl⟩
          case measure => simp [intOf]; omega
        have d2 : ((k : Int) == X) = false := by simpa using hkX
        have hcv := HVA.out k
        rw [(HVM.out k hlt hkA).1, (HVM.out k hlt hkA).2.1, (HVM.out k hlt hkA).2.2, HVB.out k hlt hkA] at hcv
        have hlk := HLZ.out k
        have hgi := fun w (h : Row w (.slice ax L.length cx) L) => gvIn L (k : Int) _ w h (by have := HLL.out; omega)
        rw [HIN.out k hlt, HBK.out k hkA hkX] at hgi
        obtain ⟨Y, hY⟩ : ∃ Y, Y = vIter 4 (woL es [(k : Int)]) N (vStart 4 N A) := ⟨_, rfl⟩
        rw [← hY] at hcv hlk hgi
        obtain ⟨z, hz⟩ : ∃ z, z = Y.getD X 0 := ⟨_, rfl⟩
        rw [← hz] at hgi
        have HCV := Lib.hid hcv
        have HGI := Lib.hid hgi
        have HLK := Lib.hid hlk
        have HZ := Lib.hid hz
        have HA1 : Hid (Below wr.heap.size wr (wr.alloc (.cells #[.int .i64 k] 3))) := Lib.hid ((Below.refl _ _).alloc (Nat.le_refl _) _)
        have HR1 : Hid (Row (wr.alloc (.cells #[.int .i64 k] 3)) (.slice (some ⟨wr.heap.size, 0, none⟩) 1 1) [(k : Int)]) := Lib.hid (row_one wr k _)
        clear hcv hgi hlk hY hz hkA hkX
        go_wp2_with fail
        refine (HCV.out _ _ _ (HGR.out.keep HA1.out) HR1.out).mono ?_
        rintro e w90 ⟨v90, rfl, hown90, hok90, hb90⟩
        have hYX : X < Y.length := by have := HLK.out; omega
        have hYX' : (X : Int) < Y.length := by omega
        obtain ⟨bu, ou, cu, hue, hbu, hcu⟩ := (InR.rowI hown90).at hYX
        subst hue
        have hcz := hcu X hYX
        rw [← HZ.out] at hcz
        have HB90 := Lib.hid (bel_trans HA1.out hb90)
        clear hown90 hok90 hb90 hcu
        go_wp2_with fail
        have HBV : Hid (Below w90.heap.size w90 (w90.alloc (.cells #[.int .i64 4, .int .i64 A, .slice (some ⟨bu, ou, none⟩) Y.length cu] 28))) := Lib.hid ((Below.refl _ _).alloc (Nat.le_refl _) _)
        have hff : ∀ w', Below (w90.alloc (.cells #[.int .i64 4, .int .i64 A, .slice (some ⟨bu, ou, none⟩) Y.length cu] 28)).heap.size (w90.alloc (.cells #[.int .i64 4, .int .i64 A, .slice (some ⟨bu, ou, none⟩) Y.length cu] 28)) w' → w'.cell? ⟨w90.heap.size, 2, none⟩ = some (.slice (some ⟨bu, ou, none⟩) Y.length cu) ∧ w'.cell? ⟨bu, ou + X, none⟩ = some (.int .i64 z) := fun w' h => ⟨by simpa using ((Box.new w90 28 #[.int .i64 4, .int .i64 A, .slice (some ⟨bu, ou, none⟩) Y.length cu]).keep h).cell 2, ((bel_trans HBV.out h).cell (p := ⟨bu, _, none⟩) hbu).trans hcz⟩
        have hgi2 : ∀ w', Below (w90.alloc (.cells #[.int .i64 4, .int .i64 A, .slice (some ⟨bu, ou, none⟩) Y.length cu] 28)).heap.size (w90.alloc (.cells #[.int .i64 4, .int .i64 A, .slice (some ⟨bu, ou, none⟩) Y.length cu] 28)) w' → Row w' (.slice ax L.length cx) L := fun w' h => HXR.out.keep (bel_trans HB90.out (bel_trans HBV.out h))
        have FF := Lib.hid hff
        have HXX := Lib.hid hgi2
        have HBT : Hid (Below wr.heap.size wr (w90.alloc (.cells #[.int .i64 4, .int .i64 A, .slice (some ⟨bu, ou, none⟩) Y.length cu] 28))) := Lib.hid (bel_trans HB90.out HBV.out)
        clear hff hgi2 hcz hbu
        generalize (w90.alloc (.cells #[.int .i64 4, .int .i64 A, .slice (some ⟨bu, ou, none⟩) Y.length cu] 28)) = VX at FF HXX HBT ⊢
        clear HBV
        by_cases hz0 : z = 0
        · have dz : (z == 0) = true := by simpa using hz0
          have hgq := fun w (h : Row w (.slice ax L.length cx) L) => HGI.out w h
          rw [dz] at hgq
          have HGQ := Lib.hid hgq
          clear hgq hz0
          refine wp_region_below (by kernel_rfl) (by kernel_rfl) ?_
          repeat (go_big_quiet_step ((intro hw; first | with_reducible rfl | (obtain ⟨f0, f1⟩ := FF.out _ hw; simp only [f0, f1, Result.andThen]; first | exact ⟨trivial, rfl⟩ | exact ⟨rfl, rfl⟩) | (go_at_call 18; with_reducible exact quietB (HGQ.out _ (HXX.out _ hw)) hw))))
          refine wpQuiet_nil ?_
          intro w91 hb91
          have HB91 := Lib.hid (bel_trans HBT.out hb91)
          clear hb91
          go_wp2
          go_roundw
          case rel => first | exact ⟨k + 1, by omega, by go_num, Lib.hid (bel_trans HBW.out HB91.out)⟩ | exact ⟨_, ⟨k + 1, by omega, by go_num, Lib.hid (bel_trans HBW.out HB91.out)⟩, rfl⟩
          case measure => simp [intOf]; omega
        · have dz : (z == 0) = false := by simpa using hz0
          have hgq := fun w (h : Row w (.slice ax L.length cx) L) => HGI.out w h
          rw [dz] at hgq
          have HGQ := Lib.hid hgq
          clear hgq hz0
          refine wp_region_below (by kernel_rfl) (by kernel_rfl) ?_
          repeat (go_big_quiet_step ((intro hw; first | with_reducible rfl | (obtain ⟨f0, f1⟩ := FF.out _ hw; simp only [f0, f1, Result.andThen]; first | exact ⟨trivial, rfl⟩ | exact ⟨rfl, rfl⟩) | (go_at_call 18; with_reducible exact quietB (HGQ.out _ (HXX.out _ hw)) hw))))
          refine wpQuiet_nil ?_
          intro w91 hb91
          have HB91 := Lib.hid (bel_trans HBT.out hb91)
          clear hb91
          go_wp2
          go_roundw
          case rel => first | exact ⟨k + 1, by omega, by go_num, Lib.hid (bel_trans HBW.out HB91.out)⟩ | exact ⟨_, ⟨k + 1, by omega, by go_num, Lib.hid (bel_trans HBW.out HB91.out)⟩, rfl⟩
          case measure => simp [intOf]; omega
      · have hkk : ¬ ((k : Int) < N) := by omega
        have hgA := fun w (h : Row w (.slice ax L.length cx) L) => gvIn L (A : Int) _ w h (by have := HLL.out; omega)
        rw [HIN.out A hAN, HBA.out] at hgA
        have hgX := fun w (h : Row w (.slice ax L.length cx) L) => gvIn L (X : Int) _ w h (by have := HLL.out; omega)
        rw [HIN.out X hXN, HBX.out] at hgX
        have HGA := Lib.hid hgA
        have HGX := Lib.hid hgX
        clear hgA hgX
        go_wp2_with fail
        refine (HGA.out _ HXR.out).mono ?_
        rintro e w92 ⟨rfl, hb92⟩
        have HB92 := Lib.hid hb92
        clear hb92
        go_wp2_with fail
        refine (HGX.out _ (HXR.out.keep HB92.out)).mono ?_
        rintro e w93 ⟨rfl, hb93⟩
        have HB93 := Lib.hid (bel_trans HB92.out hb93)
        clear hb93
        go_wp2
        go_ret
        exact ⟨by first | rfl | simp, bel_trans H5 (bel_trans HBW.out HB93.out)⟩

set_option maxRecDepth 100000 in
theorem lifted (os : Os) (started : os.Started) (H : Type) (enc : TypeId × Value → H) :
    ReturnsInHanded {} Try.checked os 10 .any (Rows.fnBridgeCutSpec.pre6 enc Try.prog Try.f10 Rows.fnBridgeCutRow.domain false) (Rows.fnBridgeCutSpec.post enc Try.prog Try.f10 false true false false) := by
  refine returnsInHanded_of_change (C := Try.checked) own started (by kernel_rfl) Try.func10
    (ChangeSpec.witness6 (enc := enc) (C := Try.checked) false ⟨#[], #[.slice none 0 0], []⟩ 8 (by kernel_rfl) (by kernel_rfl) (by kernel_rfl) (by kernel_rfl)) ?_
  intro W base args ds gs before hval0 hW hcnd _
  have hval : ∀ (j : Nat) t v, Try.f10.params[j]? = some t → args[j]? = some v → Value.okWide Try.prog W .any base t v := hval0
  have hW' := hW
  obtain ⟨p, q, hA0, hV, rfl, hfz, hnd⟩ := hW
  have hA : DataW.TrodAll enc Try.prog W 0 (fun _ => true) true Try.f10.params.toList args.toList ds p := hA0
  rw [Try.params10] at hA hval
  obtain ⟨v0, vs0, d0, ds0, p0, q0, hargs, rfl, rfl, h0, r0⟩ := trodAll_cons hA
  obtain ⟨rfl, rfl, rfl⟩ := trodAll_nil r0
  obtain rfl : args = #[v0] := by cases args; simp_all
  obtain ⟨rfl, rfl⟩ := trodVars_none hV
  obtain ⟨a0, len0, cap0, rfl⟩ := okWide_slice Try.underlying22 (hval 0 22 v0 rfl rfl)
  have k0 := h0
  have lt0 : ∀ x ∈ p0, x.block < W.heap.size := by obtain ⟨m, hm⟩ := k0; exact DataW.trod_lt m _ _ _ hm
  obtain ⟨z0, w0⟩ : ∃ zs, IsRow .u8 W a0 len0 cap0 zs := by
    obtain ⟨fuel, hf⟩ := h0
    rcases open_ints Try.underlying22 Try.underlying5 (by kernel_rfl) hf with ⟨hcs, _⟩ | ⟨x, l, c, zs, hcs, _, hl, hm, hz, _, hcell, hwz⟩
    · simp [Value.cells] at hcs
      obtain ⟨rfl, rfl, rfl⟩ := hcs
      exact ⟨[], .inl ⟨rfl, rfl, rfl, rfl⟩⟩
    · simp [Value.cells] at hcs
      obtain ⟨rfl, rfl, rfl⟩ := hcs
      exact ⟨zs, .inr ⟨_, rfl, hl, hm, by simpa using hz, hcell, hwz⟩⟩
  clear hA0 hval0
  refine (walk a0 len0 cap0 z0 W w0).mono fun e W' ⟨he, bel⟩ => ?_
  subst he
  exact ⟨_, rfl, _, _, _, [], _, [], hW', trodAll_mk1 (shut_bool Try.underlying4 _), (trodAll_cons_mk (Below.trod laidOut (by kernel_rfl) (of_decide_eq_true (by kernel_rfl)) k0 bel lt0) trodAll_mk0), rfl, bel.frame _, fun h => by cases h⟩

theorem over : Rows.fnBridgeCutRow.holds Try.pinned (OpenSpec.ofChange Rows.fnBridgeCutSpec) :=
  OpenClaim.holds_of_wide 10 Try.f10 rfl rfl rfl rfl rfl rfl rfl ⟨rfl, rfl, rfl, rfl, rfl⟩ rfl rfl rfl rfl rfl (by kernel_rfl) Try.func10 (by kernel_rfl)
    (of_decide_eq_true (by kernel_rfl)) (by unfold Func.isWrapper; first | (rw [if_pos (by decide +kernel)]; kernel_rfl) | (rw [if_neg (by decide +kernel)]; exact ⟨rfl, rfl⟩))
    (fun os started H enc _ => lifted os started H enc)

theorem proved : Rows.FnBridgeCutSaid := over
end Go.Proofs.Ytbinpaaihdcnlaa.fnBridgeCut
