/-
  Proved: a view that avoids nodes is no better than the whole view, has no value at those nodes, and is the stable view of the graph without them (the law FnViewAvoiding returns true for every input and leaves it as it was), with no further condition.
-/
import Derived.Test.YtlgjcofpdaljnaaRows
import Derived.Test.YtlgjcofpdaljnaaDrawN
import Derived.Test.YtlgjcofpdaljnaaDerF
import Derived.Test.YtlgjcofpdaljnaaVaM
import Derived.Test.YtlgjcofpdaljnaaStable
import Derived.Test.YtlgjcofpdaljnaaGvInts
import Derived.Test.YtlgjcofpdaljnaaImpl2
import Derived.Test.YtlgjcofpdaljnaaStartL
import Derived.WalkKit
import Derived.ProofKit
import Derived.OpenShut
import Derived.ShutString
import Derived.ChangeOld
import Derived.Below
namespace Go.Proofs.Ytlgjcofpdaljnaa.fnViewAvoiding
open Go.Proofs.Ytlgjcofpdaljnaa Go.BigFrame
open Go.ChangeShapes Go.WideShapes Go.ChangeAt Go.RowKit
open Go.ChangeMaps (open_string shut_string)
set_option linter.unusedVariables false

theorem own : ownKnob Try.prog.godebug = none := by kernel_rfl
theorem laidOut : laidOutB Try.prog = true := by kernel_rfl

def IsRow (k : IntKind) (w : World) (a : Option Addr) (len cap : Nat) (zs : List Int) : Prop :=
  (a = none ∧ len = 0 ∧ cap = 0 ∧ zs = []) ∨
  ∃ x, a = some x ∧ len ≤ cap ∧ cap ≤ maxLen ∧ zs.length = cap ∧ (∀ i, i < zs.length → w.cell? (x.add i) = some (.int k (zs.getD i 0))) ∧ ∀ n ∈ zs, (Lit.int k n).wf = true

theorem bytes_of {w : World} {a : Option Addr} {len cap : Nat} {zs : List Int} (h : IsRow .u8 w a len cap zs) : Bytes w a len ∧ len ≤ cap ∧ len ≤ 9223372036854775807 := by
  rcases h with ⟨rfl, rfl, rfl, rfl⟩ | ⟨x, rfl, hl, hm, hz, hc, hw⟩
  · exact ⟨.inl rfl, Nat.le_refl _, by omega⟩
  · unfold maxLen at hm
    refine ⟨?_, hl, by omega⟩
    by_cases h0 : len = 0
    · exact .inl h0
    · obtain ⟨b, off, rfl, hc'⟩ := ints_at hc (by omega)
      exact .inr ⟨b, off, rfl, World.block_lt_of_cell? _ _ (hc' 0 (by omega)), fun i hi => ⟨zs[i]?.getD 0, (range_u8 hw i).1, (range_u8 hw i).2, hc' i (by omega)⟩⟩

set_option maxRecDepth 100000 in
set_option maxHeartbeats 4000000 in
theorem walk (a0 : Option Addr) (len0 cap0 : Nat) (z0 : List Int) (w : World) (w0 : IsRow .u8 w a0 len0 cap0 z0) :
    Calls Try.prog 5 #[.slice a0 len0 cap0] w fun e w' => e = .returned (.bool true) ∧ Below w.heap.size w w' := by
  obtain ⟨hby, hcp, hn⟩ := bytes_of w0
  have HB0 := Lib.hid hby
  clear hby w0
  by_cases h0 : 1048576 < len0
  · go_enter Try.func5, Try.ntmps5
    go_wp2
    go_ret
    exact ⟨rfl, Below.refl _ _⟩
  have h0' : len0 ≤ 1048576 := by omega
  clear h0
  obtain ⟨w0, hw0⟩ : ∃ w0, w0 = w := ⟨_, rfl⟩
  subst hw0
  have H0 := Below.refl w0.heap.size w0
  go_enter Try.func5, Try.ntmps5
  go_wp2_with fail
  refine (dDrawViewAvoiding a0 len0 cap0 _ HB0.out hcp (by omega)).mono ?_
  rintro e w1 ⟨n, es, v, m, src, os, uo, SS, rfl, hle, ⟨hrow, hok⟩, ⟨hS1, hS2, huo⟩, hb1⟩
  have H1 := bel_trans H0 hb1
  have SZ1 := Lib.hid hb1.size
  obtain ⟨va, vc, rfl, hz9⟩ := id hrow
  obtain ⟨ub, uc, huv⟩ := own_slice huo
  subst huv
  have HOU := Lib.hid (own_ok huo)
  have hur := own_rowV huo
  clear hz9 hok hS1 hS2 huo
  have G_1 := Lib.hid (hrow)
  have U_1 := Lib.hid hur
  clear hrow hur
  have hle1 := hle.1
  have hle2 := hle.2
  clear hle
  go_wp2_with fail
  have hb2 : Below w1.heap.size w1 (w1.alloc (.cells #[.int .i64 n, .slice va es.length vc] 25)) := (Below.refl _ _).alloc (by simp <;> omega) _
  have H2 := bel_trans H1 hb2
  have SZ2 := Lib.hid hb2.size
  have G_2 := Lib.hid (G_1.out.keep hb2)
  have U_2 := Lib.hid (U_1.out.keep hb2)
  have qg0_2 : (w1.alloc (.cells #[.int .i64 n, .slice va es.length vc] 25)).cell? ⟨w1.heap.size, 0, none⟩ = some (.int .i64 n) := by go_simp
  have qg1_2 : (w1.alloc (.cells #[.int .i64 n, .slice va es.length vc] 25)).cell? ⟨w1.heap.size, 1, none⟩ = some (.slice va es.length vc) := by go_simp
  have zg_2 : w1.heap.size < (w1.alloc (.cells #[.int .i64 n, .slice va es.length vc] 25)).heap.size := by simp <;> omega
  generalize (w1.alloc (.cells #[.int .i64 n, .slice va es.length vc] 25)) = w2 at hb2 H2 SZ2 G_2 U_2 qg0_2 qg1_2 zg_2 ⊢
  have ZBg := Lib.hid zg_2
  clear G_1 U_1
  have hl1 : es.length ≤ 281474976710656 := by omega
  have hl2 : os.length ≤ 281474976710656 := by omega
  have hst := fun s t w (h : RowE w s es) (k : Row w t os) => viewAvoiding n m src es os s t w h k hl1 hl2
  have hss := fun s t w (h : RowE w s es) (k : Row w t os) (ok : okS t) => sViewAvoiding n m src es os s t w h k ok hl1 hl2
  cases hk : vaB n es m src os
  · obtain ⟨e1, e2, e3⟩ := vaB_no hk
    rw [e1, e2, e3, hk] at hst hss
    have HST := Lib.hid hst
    have HSS := Lib.hid hss
    clear hst hss hk e1 e2 e3
    go_wp2_with fail
    refine (HST.out _ _ _ G_2.out.edges U_2.out).mono ?_
    rintro e w3 ⟨vx, rfl, howx, hokx, hb3⟩
    have H3 := bel_trans H2 hb3
    have SZ3 := Lib.hid hb3.size
    have qg0_3 := (hb3.cell (p := ⟨w1.heap.size, 0, none⟩) zg_2).trans qg0_2
    have qg1_3 := (hb3.cell (p := ⟨w1.heap.size, 1, none⟩) zg_2).trans qg1_2
    have zg_3 := Nat.lt_of_lt_of_le zg_2 hb3.size
    have G_3 := Lib.hid (G_2.out.keep hb3)
    have U_3 := Lib.hid (U_2.out.keep hb3)
    obtain ⟨ax, cx, rfl, hz9⟩ := id howx
    clear hz9 hokx
    have X_3 := Lib.hid (show InR true w3 w2.heap.size w3.heap.size _ ([] : List Int).length 1 (cellI ([] : List Int)) from howx)
    clear qg1_2 qg0_2 G_2 U_2 zg_2
    clear howx
    go_wp2_with fail
    have hb4 : Below w3.heap.size w3 (w3.alloc (.cells #[.int .i64 0, .int .i64 0, .slice ax ([] : List Int).length cx] 28)) := (Below.refl _ _).alloc (by simp <;> omega) _
    have H4 := bel_trans H3 hb4
    have SZ4 := Lib.hid hb4.size
    have qg0_4 := (hb4.cell (p := ⟨w1.heap.size, 0, none⟩) zg_3).trans qg0_3
    have qg1_4 := (hb4.cell (p := ⟨w1.heap.size, 1, none⟩) zg_3).trans qg1_3
    have zg_4 := Nat.lt_of_lt_of_le zg_3 hb4.size
    have G_4 := Lib.hid (G_3.out.keep hb4)
    have U_4 := Lib.hid (U_3.out.keep hb4)
    have X_4 := Lib.hid (X_3.out.keep hb4)
    have qx0_4 : (w3.alloc (.cells #[.int .i64 0, .int .i64 0, .slice ax ([] : List Int).length cx] 28)).cell? ⟨w3.heap.size, 0, none⟩ = some (.int .i64 0) := by go_simp
    have qx1_4 : (w3.alloc (.cells #[.int .i64 0, .int .i64 0, .slice ax ([] : List Int).length cx] 28)).cell? ⟨w3.heap.size, 1, none⟩ = some (.int .i64 0) := by go_simp
    have qx2_4 : (w3.alloc (.cells #[.int .i64 0, .int .i64 0, .slice ax ([] : List Int).length cx] 28)).cell? ⟨w3.heap.size, 2, none⟩ = some (.slice ax ([] : List Int).length cx) := by go_simp
    have zx_4 : w3.heap.size < (w3.alloc (.cells #[.int .i64 0, .int .i64 0, .slice ax ([] : List Int).length cx] 28)).heap.size := by simp <;> omega
    generalize (w3.alloc (.cells #[.int .i64 0, .int .i64 0, .slice ax ([] : List Int).length cx] 28)) = w4 at hb4 H4 SZ4 G_4 U_4 X_4 qg0_4 qg1_4 qx0_4 qx1_4 qx2_4 zg_4 zx_4 ⊢
    have ZBx := Lib.hid zx_4
    clear qg0_3 qg1_3 zg_3 G_3 U_3 X_3
    refine (HSS.out _ _ _ G_4.out.edges U_4.out HOU.out).mono ?_
    rintro e w5 ⟨vy, rfl, howy, hoky, hb5⟩
    have H5 := bel_trans H4 hb5
    have SZ5 := Lib.hid hb5.size
    have qg0_5 := (hb5.cell (p := ⟨w1.heap.size, 0, none⟩) zg_4).trans qg0_4
    have qg1_5 := (hb5.cell (p := ⟨w1.heap.size, 1, none⟩) zg_4).trans qg1_4
    have zg_5 := Nat.lt_of_lt_of_le zg_4 hb5.size
    have qx0_5 := (hb5.cell (p := ⟨w3.heap.size, 0, none⟩) zx_4).trans qx0_4
    have qx1_5 := (hb5.cell (p := ⟨w3.heap.size, 1, none⟩) zx_4).trans qx1_4
    have qx2_5 := (hb5.cell (p := ⟨w3.heap.size, 2, none⟩) zx_4).trans qx2_4
    have zx_5 := Nat.lt_of_lt_of_le zx_4 hb5.size
    have G_5 := Lib.hid (G_4.out.keep hb5)
    have U_5 := Lib.hid (U_4.out.keep hb5)
    have X_5 := Lib.hid (X_4.out.keep hb5)
    obtain ⟨ay, cy, rfl, hz9⟩ := id howy
    clear hz9 hoky
    have Y_5 := Lib.hid (show InR true w5 w4.heap.size w5.heap.size _ ([] : List Int).length 1 (cellI ([] : List Int)) from howy)
    clear qg0_4 qg1_4 zg_4 G_4 U_4 X_4 qx0_4 qx1_4 qx2_4 zx_4
    clear howy
    go_wp2_with fail
    have hb6 : Below w5.heap.size w5 (w5.alloc (.cells #[.int .i64 0, .int .i64 0, .slice ay ([] : List Int).length cy] 28)) := (Below.refl _ _).alloc (by simp <;> omega) _
    have H6 := bel_trans H5 hb6
    have SZ6 := Lib.hid hb6.size
    have qg0_6 := (hb6.cell (p := ⟨w1.heap.size, 0, none⟩) zg_5).trans qg0_5
    have qg1_6 := (hb6.cell (p := ⟨w1.heap.size, 1, none⟩) zg_5).trans qg1_5
    have zg_6 := Nat.lt_of_lt_of_le zg_5 hb6.size
    have qx0_6 := (hb6.cell (p := ⟨w3.heap.size, 0, none⟩) zx_5).trans qx0_5
    have qx1_6 := (hb6.cell (p := ⟨w3.heap.size, 1, none⟩) zx_5).trans qx1_5
    have qx2_6 := (hb6.cell (p := ⟨w3.heap.size, 2, none⟩) zx_5).trans qx2_5
    have zx_6 := Nat.lt_of_lt_of_le zx_5 hb6.size
    have G_6 := Lib.hid (G_5.out.keep hb6)
    have U_6 := Lib.hid (U_5.out.keep hb6)
    have X_6 := Lib.hid (X_5.out.keep hb6)
    have Y_6 := Lib.hid (Y_5.out.keep hb6)
    have qy0_6 : (w5.alloc (.cells #[.int .i64 0, .int .i64 0, .slice ay ([] : List Int).length cy] 28)).cell? ⟨w5.heap.size, 0, none⟩ = some (.int .i64 0) := by go_simp
    have qy1_6 : (w5.alloc (.cells #[.int .i64 0, .int .i64 0, .slice ay ([] : List Int).length cy] 28)).cell? ⟨w5.heap.size, 1, none⟩ = some (.int .i64 0) := by go_simp
    have qy2_6 : (w5.alloc (.cells #[.int .i64 0, .int .i64 0, .slice ay ([] : List Int).length cy] 28)).cell? ⟨w5.heap.size, 2, none⟩ = some (.slice ay ([] : List Int).length cy) := by go_simp
    have zy_6 : w5.heap.size < (w5.alloc (.cells #[.int .i64 0, .int .i64 0, .slice ay ([] : List Int).length cy] 28)).heap.size := by simp <;> omega
    generalize (w5.alloc (.cells #[.int .i64 0, .int .i64 0, .slice ay ([] : List Int).length cy] 28)) = w6 at hb6 H6 SZ6 G_6 U_6 X_6 Y_6 qg0_6 qg1_6 qx0_6 qx1_6 qx2_6 qy0_6 qy1_6 qy2_6 zg_6 zx_6 zy_6 ⊢
    have ZBy := Lib.hid zy_6
    clear qg0_5 qg1_5 zg_5 qx0_5 qx1_5 qx2_5 zx_5 G_5 U_5 X_5 Y_5
    refine (viewSame 0 0 0 0 [] [] _ _ _ X_6.out.rowI Y_6.out.rowI (by simp) (by simp)).mono ?_
    rintro e w7 ⟨rfl, hb7⟩
    have H7 := bel_trans H6 hb7
    have SZ7 := Lib.hid hb7.size
    have qg0_7 := (hb7.cell (p := ⟨w1.heap.size, 0, none⟩) zg_6).trans qg0_6
    have qg1_7 := (hb7.cell (p := ⟨w1.heap.size, 1, none⟩) zg_6).trans qg1_6
    have zg_7 := Nat.lt_of_lt_of_le zg_6 hb7.size
    have qx0_7 := (hb7.cell (p := ⟨w3.heap.size, 0, none⟩) zx_6).trans qx0_6
    have qx1_7 := (hb7.cell (p := ⟨w3.heap.size, 1, none⟩) zx_6).trans qx1_6
    have qx2_7 := (hb7.cell (p := ⟨w3.heap.size, 2, none⟩) zx_6).trans qx2_6
    have zx_7 := Nat.lt_of_lt_of_le zx_6 hb7.size
    have qy0_7 := (hb7.cell (p := ⟨w5.heap.size, 0, none⟩) zy_6).trans qy0_6
    have qy1_7 := (hb7.cell (p := ⟨w5.heap.size, 1, none⟩) zy_6).trans qy1_6
    have qy2_7 := (hb7.cell (p := ⟨w5.heap.size, 2, none⟩) zy_6).trans qy2_6
    have zy_7 := Nat.lt_of_lt_of_le zy_6 hb7.size
    have G_7 := Lib.hid (G_6.out.keep hb7)
    have U_7 := Lib.hid (U_6.out.keep hb7)
    have X_7 := Lib.hid (X_6.out.keep hb7)
    have Y_7 := Lib.hid (Y_6.out.keep hb7)
    clear qg0_6 qg1_6 zg_6 qx0_6 qx1_6 qx2_6 zx_6 G_6 U_6 X_6 Y_6 qy0_6 qy1_6 qy2_6 zy_6
    go_wp2_with fail
    refine (viewSame 0 0 0 0 [] [] _ _ _ X_7.out.rowI Y_7.out.rowI (by simp) (by simp)).mono ?_
    rintro e w8 ⟨rfl, hb8⟩
    have H8 := bel_trans H7 hb8
    have SZ8 := Lib.hid hb8.size
    have qg0_8 := (hb8.cell (p := ⟨w1.heap.size, 0, none⟩) zg_7).trans qg0_7
    have qg1_8 := (hb8.cell (p := ⟨w1.heap.size, 1, none⟩) zg_7).trans qg1_7
    have zg_8 := Nat.lt_of_lt_of_le zg_7 hb8.size
    have qx0_8 := (hb8.cell (p := ⟨w3.heap.size, 0, none⟩) zx_7).trans qx0_7
    have qx1_8 := (hb8.cell (p := ⟨w3.heap.size, 1, none⟩) zx_7).trans qx1_7
    have qx2_8 := (hb8.cell (p := ⟨w3.heap.size, 2, none⟩) zx_7).trans qx2_7
    have zx_8 := Nat.lt_of_lt_of_le zx_7 hb8.size
    have qy0_8 := (hb8.cell (p := ⟨w5.heap.size, 0, none⟩) zy_7).trans qy0_7
    have qy1_8 := (hb8.cell (p := ⟨w5.heap.size, 1, none⟩) zy_7).trans qy1_7
    have qy2_8 := (hb8.cell (p := ⟨w5.heap.size, 2, none⟩) zy_7).trans qy2_7
    have zy_8 := Nat.lt_of_lt_of_le zy_7 hb8.size
    have G_8 := Lib.hid (G_7.out.keep hb8)
    have U_8 := Lib.hid (U_7.out.keep hb8)
    have X_8 := Lib.hid (X_7.out.keep hb8)
    have Y_8 := Lib.hid (Y_7.out.keep hb8)
    clear qg0_7 qg1_7 zg_7 qx0_7 qx1_7 qx2_7 zx_7 qy0_7 qy1_7 qy2_7 zy_7 G_7 U_7 X_7 Y_7
    go_wp2
    go_ret
    exact ⟨by first | rfl | simp, H8⟩
  · have hk2 := hk
    unfold vaB at hk2
    simp only [Bool.and_eq_true] at hk2
    obtain ⟨hon, hnd, hni⟩ := hk2
    obtain ⟨hgv, hsr, hmk⟩ := onOk_one3 hon
    have h12 := (gVal_iff.1 hgv).1.2.1
    obtain ⟨e1, e2, e3⟩ := vaB_yes hk
    rw [e1, e2, e3, hk] at hst hss
    have hvo := fun s w (h : RowE w s es) => viewOf n m src es s w h hl1
    have e4 : stM n es m src = m := by unfold stM; rw [if_pos hon]
    have e5 : stA n es m src = src := by unfold stA; rw [if_pos hon]
    have e6 : voL n es m src = vIter m es n.toNat (vStart m n src) := by unfold voL; rw [if_pos hon]
    rw [e4, e5, e6, hon] at hvo
    have hwb : woB n es os = true := by unfold woB; rw [hgv, hnd]; rfl
    have hwo := fun s t w (h : RowE w s es) (k : Row w t os) => withoutNodes n es os s t w h k hl1 hl2
    have e7 : woN n es os = n := by unfold woN; rw [if_pos hwb]
    have e8 : woR n es os = woL es os := by unfold woR; rw [if_pos hwb]
    rw [e7, e8, hwb] at hwo
    obtain ⟨N, hN⟩ : ∃ N : Nat, n = N := ⟨n.toNat, by omega⟩
    subst hN
    have hN12 : N ≤ 12 := by omega
    have hN1 : 0 < N := by omega
    have hNn : ((N : Int)).toNat = N := Int.toNat_natCast N
    have heA := eAll_of hgv
    have hnin : src ∉ os := by unfold inL at hni; simpa using hni
    obtain ⟨hvv, hfx⟩ := va_right os hmk hgv hsr.1 hsr.2
    have hnb : ∀ k : Nat, k < N → bBet m ((vIter m (woL es os) (N : Int).toNat (vStart m N src)).getD k 0) ((vIter m es (N : Int).toNat (vStart m N src)).getD k 0) = false := fun k h => by
      unfold bBet
      rw [va_le os hmk heA hsr.1 (by omega) (i := k) (by omega), Bool.and_false]
    have hno : ∀ k : Nat, k < N → inL os (k : Int) = true → (vIter m (woL es os) (N : Int).toNat (vStart m N src)).getD k 0 = mNone m := fun k h h2 => by
      unfold inL at h2
      exact va_out hgv (by omega) (of_decide_eq_true h2) hnin
    have hll : (vIter m (woL es os) (N : Int).toNat (vStart m N src)).length = N := by rw [vIter_length, vStart_length, hNn]
    have hlk : (vIter m es (N : Int).toNat (vStart m N src)).length = N := by rw [vIter_length, vStart_length, hNn]
    have hlw : (woL es os).length ≤ 281474976710656 := Nat.le_trans (List.length_filter_le _ _) hl1
    have hvd := fun (L : List Int) (hl : L.length ≤ 281474976710656) s t w (h : RowE w s (woL es os)) (k : Row w t L) => viewValid (N : Int) m src (woL es os) L s t w h k hlw hl
    have hsb := fun (L : List Int) (hl : L.length ≤ 281474976710656) s t w (h : RowE w s (woL es os)) (k : Row w t L) => isStable (N : Int) m src (woL es os) L s t w h k hlw hl
    have hsb1 := hsb _ (by rw [hll]; omega)
    have hvd1 := hvd _ (by rw [hll]; omega)
    have hiB : isB (N : Int) (woL es os) m src (vIter m (woL es os) (N : Int).toNat (vStart m N src)) = true := by unfold isB; rw [hvv, hfx, vSame_self]; rfl
    rw [hiB] at hsb1
    rw [hvv] at hvd1
    have hnp := fun w => iNoPath m w
    rw [rNo_of hmk, hmk] at hnp
    clear hvd hsb hiB hvv hfx e1 e2 e3 e4 e5 e6 e7 e8 hk hon hnd hni hnin heA hwb
    generalize vIter m (woL es os) (N : Int).toNat (vStart m N src) = L at *
    generalize vIter m es (N : Int).toNat (vStart m N src) = K at *
    generalize woL es os = ws at *
    generalize mNone m = NO at *
    have hvs := fun s t w (h : Row w s L) (k : Row w t L) => viewSame m src m src L L s t w h k (by omega) (by omega)
    rw [vSame_self] at hvs
    have HST := Lib.hid hst
    have HSS := Lib.hid hss
    have HVO := Lib.hid hvo
    have HWO := Lib.hid hwo
    have HNB := Lib.hid hnb
    have HNO := Lib.hid hno
    have HLL := Lib.hid hll
    have HLK := Lib.hid hlk
    have HSB := Lib.hid hsb1
    have HVD := Lib.hid hvd1
    have HNP := Lib.hid hnp
    have HVS := Lib.hid hvs
    clear hst hss hvo hwo hnb hno hll hlk hsb1 hvd1 hnp hvs hgv hsr hmk h12 hlw
    go_wp2_with fail
    refine (HST.out _ _ _ G_2.out.edges U_2.out).mono ?_
    rintro e w3 ⟨vx, rfl, howx, hokx, hb3⟩
    have H3 := bel_trans H2 hb3
    have SZ3 := Lib.hid hb3.size
    have qg0_3 := (hb3.cell (p := ⟨w1.heap.size, 0, none⟩) zg_2).trans qg0_2
    have qg1_3 := (hb3.cell (p := ⟨w1.heap.size, 1, none⟩) zg_2).trans qg1_2
    have zg_3 := Nat.lt_of_lt_of_le zg_2 hb3.size
    have G_3 := Lib.hid (G_2.out.keep hb3)
    have U_3 := Lib.hid (U_2.out.keep hb3)
    obtain ⟨ax, cx, rfl, hz9⟩ := id howx
    clear hz9 hokx
    have X_3 := Lib.hid (show InR true w3 w2.heap.size w3.heap.size _ L.length 1 (cellI L) from howx)
    clear qg1_2 qg0_2 G_2 U_2 zg_2
    clear howx
    go_wp2_with fail
    have hb4 : Below w3.heap.size w3 (w3.alloc (.cells #[.int .i64 m, .int .i64 src, .slice ax L.length cx] 28)) := (Below.refl _ _).alloc (by simp <;> omega) _
    have H4 := bel_trans H3 hb4
    have SZ4 := Lib.hid hb4.size
    have qg0_4 := (hb4.cell (p := ⟨w1.heap.size, 0, none⟩) zg_3).trans qg0_3
    have qg1_4 := (hb4.cell (p := ⟨w1.heap.size, 1, none⟩) zg_3).trans qg1_3
    have zg_4 := Nat.lt_of_lt_of_le zg_3 hb4.size
    have G_4 := Lib.hid (G_3.out.keep hb4)
    have U_4 := Lib.hid (U_3.out.keep hb4)
    have X_4 := Lib.hid (X_3.out.keep hb4)
    have qx0_4 : (w3.alloc (.cells #[.int .i64 m, .int .i64 src, .slice ax L.length cx] 28)).cell? ⟨w3.heap.size, 0, none⟩ = some (.int .i64 m) := by go_simp
    have qx1_4 : (w3.alloc (.cells #[.int .i64 m, .int .i64 src, .slice ax L.length cx] 28)).cell? ⟨w3.heap.size, 1, none⟩ = some (.int .i64 src) := by go_simp
    have qx2_4 : (w3.alloc (.cells #[.int .i64 m, .int .i64 src, .slice ax L.length cx] 28)).cell? ⟨w3.heap.size, 2, none⟩ = some (.slice ax L.length cx) := by go_simp
    have zx_4 : w3.heap.size < (w3.alloc (.cells #[.int .i64 m, .int .i64 src, .slice ax L.length cx] 28)).heap.size := by simp <;> omega
    generalize (w3.alloc (.cells #[.int .i64 m, .int .i64 src, .slice ax L.length cx] 28)) = w4 at hb4 H4 SZ4 G_4 U_4 X_4 qg0_4 qg1_4 qx0_4 qx1_4 qx2_4 zg_4 zx_4 ⊢
    have ZBx := Lib.hid zx_4
    clear qg0_3 qg1_3 zg_3 G_3 U_3 X_3
    refine (HSS.out _ _ _ G_4.out.edges U_4.out HOU.out).mono ?_
    rintro e w5 ⟨vy, rfl, howy, hoky, hb5⟩
    have H5 := bel_trans H4 hb5
    have SZ5 := Lib.hid hb5.size
    have qg0_5 := (hb5.cell (p := ⟨w1.heap.size, 0, none⟩) zg_4).trans qg0_4
    have qg1_5 := (hb5.cell (p := ⟨w1.heap.size, 1, none⟩) zg_4).trans qg1_4
    have zg_5 := Nat.lt_of_lt_of_le zg_4 hb5.size
    have qx0_5 := (hb5.cell (p := ⟨w3.heap.size, 0, none⟩) zx_4).trans qx0_4
    have qx1_5 := (hb5.cell (p := ⟨w3.heap.size, 1, none⟩) zx_4).trans qx1_4
    have qx2_5 := (hb5.cell (p := ⟨w3.heap.size, 2, none⟩) zx_4).trans qx2_4
    have zx_5 := Nat.lt_of_lt_of_le zx_4 hb5.size
    have G_5 := Lib.hid (G_4.out.keep hb5)
    have U_5 := Lib.hid (U_4.out.keep hb5)
    have X_5 := Lib.hid (X_4.out.keep hb5)
    obtain ⟨ay, cy, rfl, hz9⟩ := id howy
    clear hz9 hoky
    have Y_5 := Lib.hid (show InR true w5 w4.heap.size w5.heap.size _ L.length 1 (cellI L) from howy)
    clear qg0_4 qg1_4 zg_4 G_4 U_4 X_4 qx0_4 qx1_4 qx2_4 zx_4
    clear howy
    go_wp2_with fail
    have hb6 : Below w5.heap.size w5 (w5.alloc (.cells #[.int .i64 m, .int .i64 src, .slice ay L.length cy] 28)) := (Below.refl _ _).alloc (by simp <;> omega) _
    have H6 := bel_trans H5 hb6
    have SZ6 := Lib.hid hb6.size
    have qg0_6 := (hb6.cell (p := ⟨w1.heap.size, 0, none⟩) zg_5).trans qg0_5
    have qg1_6 := (hb6.cell (p := ⟨w1.heap.size, 1, none⟩) zg_5).trans qg1_5
    have zg_6 := Nat.lt_of_lt_of_le zg_5 hb6.size
    have qx0_6 := (hb6.cell (p := ⟨w3.heap.size, 0, none⟩) zx_5).trans qx0_5
    have qx1_6 := (hb6.cell (p := ⟨w3.heap.size, 1, none⟩) zx_5).trans qx1_5
    have qx2_6 := (hb6.cell (p := ⟨w3.heap.size, 2, none⟩) zx_5).trans qx2_5
    have zx_6 := Nat.lt_of_lt_of_le zx_5 hb6.size
    have G_6 := Lib.hid (G_5.out.keep hb6)
    have U_6 := Lib.hid (U_5.out.keep hb6)
    have X_6 := Lib.hid (X_5.out.keep hb6)
    have Y_6 := Lib.hid (Y_5.out.keep hb6)
    have qy0_6 : (w5.alloc (.cells #[.int .i64 m, .int .i64 src, .slice ay L.length cy] 28)).cell? ⟨w5.heap.size, 0, none⟩ = some (.int .i64 m) := by go_simp
    have qy1_6 : (w5.alloc (.cells #[.int .i64 m, .int .i64 src, .slice ay L.length cy] 28)).cell? ⟨w5.heap.size, 1, none⟩ = some (.int .i64 src) := by go_simp
    have qy2_6 : (w5.alloc (.cells #[.int .i64 m, .int .i64 src, .slice ay L.length cy] 28)).cell? ⟨w5.heap.size, 2, none⟩ = some (.slice ay L.length cy) := by go_simp
    have zy_6 : w5.heap.size < (w5.alloc (.cells #[.int .i64 m, .int .i64 src, .slice ay L.length cy] 28)).heap.size := by simp <;> omega
    generalize (w5.alloc (.cells #[.int .i64 m, .int .i64 src, .slice ay L.length cy] 28)) = w6 at hb6 H6 SZ6 G_6 U_6 X_6 Y_6 qg0_6 qg1_6 qx0_6 qx1_6 qx2_6 qy0_6 qy1_6 qy2_6 zg_6 zx_6 zy_6 ⊢
    have ZBy := Lib.hid zy_6
    clear qg0_5 qg1_5 zg_5 qx0_5 qx1_5 qx2_5 zx_5 G_5 U_5 X_5 Y_5
    refine (HVS.out _ _ _ X_6.out.rowI Y_6.out.rowI).mono ?_
    rintro e w7 ⟨rfl, hb7⟩
    have H7 := bel_trans H6 hb7
    have SZ7 := Lib.hid hb7.size
    have qg0_7 := (hb7.cell (p := ⟨w1.heap.size, 0, none⟩) zg_6).trans qg0_6
    have qg1_7 := (hb7.cell (p := ⟨w1.heap.size, 1, none⟩) zg_6).trans qg1_6
    have zg_7 := Nat.lt_of_lt_of_le zg_6 hb7.size
    have qx0_7 := (hb7.cell (p := ⟨w3.heap.size, 0, none⟩) zx_6).trans qx0_6
    have qx1_7 := (hb7.cell (p := ⟨w3.heap.size, 1, none⟩) zx_6).trans qx1_6
    have qx2_7 := (hb7.cell (p := ⟨w3.heap.size, 2, none⟩) zx_6).trans qx2_6
    have zx_7 := Nat.lt_of_lt_of_le zx_6 hb7.size
    have qy0_7 := (hb7.cell (p := ⟨w5.heap.size, 0, none⟩) zy_6).trans qy0_6
    have qy1_7 := (hb7.cell (p := ⟨w5.heap.size, 1, none⟩) zy_6).trans qy1_6
    have qy2_7 := (hb7.cell (p := ⟨w5.heap.size, 2, none⟩) zy_6).trans qy2_6
    have zy_7 := Nat.lt_of_lt_of_le zy_6 hb7.size
    have G_7 := Lib.hid (G_6.out.keep hb7)
    have U_7 := Lib.hid (U_6.out.keep hb7)
    have X_7 := Lib.hid (X_6.out.keep hb7)
    have Y_7 := Lib.hid (Y_6.out.keep hb7)
    clear qg0_6 qg1_6 zg_6 qx0_6 qx1_6 qx2_6 zx_6 G_6 U_6 X_6 Y_6 qy0_6 qy1_6 qy2_6 zy_6
    go_wp2_with fail
    refine (HVO.out _ _ G_7.out.edges).mono ?_
    rintro e w8 ⟨vz, rfl, howz, hokz, hb8⟩
    have H8 := bel_trans H7 hb8
    have SZ8 := Lib.hid hb8.size
    have qg0_8 := (hb8.cell (p := ⟨w1.heap.size, 0, none⟩) zg_7).trans qg0_7
    have qg1_8 := (hb8.cell (p := ⟨w1.heap.size, 1, none⟩) zg_7).trans qg1_7
    have zg_8 := Nat.lt_of_lt_of_le zg_7 hb8.size
    have qx0_8 := (hb8.cell (p := ⟨w3.heap.size, 0, none⟩) zx_7).trans qx0_7
    have qx1_8 := (hb8.cell (p := ⟨w3.heap.size, 1, none⟩) zx_7).trans qx1_7
    have qx2_8 := (hb8.cell (p := ⟨w3.heap.size, 2, none⟩) zx_7).trans qx2_7
    have zx_8 := Nat.lt_of_lt_of_le zx_7 hb8.size
    have qy0_8 := (hb8.cell (p := ⟨w5.heap.size, 0, none⟩) zy_7).trans qy0_7
    have qy1_8 := (hb8.cell (p := ⟨w5.heap.size, 1, none⟩) zy_7).trans qy1_7
    have qy2_8 := (hb8.cell (p := ⟨w5.heap.size, 2, none⟩) zy_7).trans qy2_7
    have zy_8 := Nat.lt_of_lt_of_le zy_7 hb8.size
    have G_8 := Lib.hid (G_7.out.keep hb8)
    have U_8 := Lib.hid (U_7.out.keep hb8)
    have X_8 := Lib.hid (X_7.out.keep hb8)
    have Y_8 := Lib.hid (Y_7.out.keep hb8)
    obtain ⟨az, cz, rfl, hz9⟩ := id howz
    clear hz9 hokz
    have Z_8 := Lib.hid (show InR true w8 w7.heap.size w8.heap.size _ K.length 1 (cellI K) from howz)
    clear qg0_7 qg1_7 zg_7 qx0_7 qx1_7 qx2_7 zx_7 qy0_7 qy1_7 qy2_7 zy_7 G_7 U_7 X_7 Y_7
    clear howz
    go_wp2_with fail
    have hb9 : Below w8.heap.size w8 (w8.alloc (.cells #[.int .i64 m, .int .i64 src, .slice az K.length cz] 28)) := (Below.refl _ _).alloc (by simp <;> omega) _
    have H9 := bel_trans H8 hb9
    have SZ9 := Lib.hid hb9.size
    have qg0_9 := (hb9.cell (p := ⟨w1.heap.size, 0, none⟩) zg_8).trans qg0_8
    have qg1_9 := (hb9.cell (p := ⟨w1.heap.size, 1, none⟩) zg_8).trans qg1_8
    have zg_9 := Nat.lt_of_lt_of_le zg_8 hb9.size
    have qx0_9 := (hb9.cell (p := ⟨w3.heap.size, 0, none⟩) zx_8).trans qx0_8
    have qx1_9 := (hb9.cell (p := ⟨w3.heap.size, 1, none⟩) zx_8).trans qx1_8
    have qx2_9 := (hb9.cell (p := ⟨w3.heap.size, 2, none⟩) zx_8).trans qx2_8
    have zx_9 := Nat.lt_of_lt_of_le zx_8 hb9.size
    have qy0_9 := (hb9.cell (p := ⟨w5.heap.size, 0, none⟩) zy_8).trans qy0_8
    have qy1_9 := (hb9.cell (p := ⟨w5.heap.size, 1, none⟩) zy_8).trans qy1_8
    have qy2_9 := (hb9.cell (p := ⟨w5.heap.size, 2, none⟩) zy_8).trans qy2_8
    have zy_9 := Nat.lt_of_lt_of_le zy_8 hb9.size
    have G_9 := Lib.hid (G_8.out.keep hb9)
    have U_9 := Lib.hid (U_8.out.keep hb9)
    have X_9 := Lib.hid (X_8.out.keep hb9)
    have Y_9 := Lib.hid (Y_8.out.keep hb9)
    have Z_9 := Lib.hid (Z_8.out.keep hb9)
    have qz0_9 : (w8.alloc (.cells #[.int .i64 m, .int .i64 src, .slice az K.length cz] 28)).cell? ⟨w8.heap.size, 0, none⟩ = some (.int .i64 m) := by go_simp
    have qz1_9 : (w8.alloc (.cells #[.int .i64 m, .int .i64 src, .slice az K.length cz] 28)).cell? ⟨w8.heap.size, 1, none⟩ = some (.int .i64 src) := by go_simp
    have qz2_9 : (w8.alloc (.cells #[.int .i64 m, .int .i64 src, .slice az K.length cz] 28)).cell? ⟨w8.heap.size, 2, none⟩ = some (.slice az K.length cz) := by go_simp
    have zz_9 : w8.heap.size < (w8.alloc (.cells #[.int .i64 m, .int .i64 src, .slice az K.length cz] 28)).heap.size := by simp <;> omega
    generalize (w8.alloc (.cells #[.int .i64 m, .int .i64 src, .slice az K.length cz] 28)) = w9 at hb9 H9 SZ9 G_9 U_9 X_9 Y_9 Z_9 qg0_9 qg1_9 qx0_9 qx1_9 qx2_9 qy0_9 qy1_9 qy2_9 qz0_9 qz1_9 qz2_9 zg_9 zx_9 zy_9 zz_9 ⊢
    have ZBz := Lib.hid zz_9
    clear qg0_8 qg1_8 zg_8 qx0_8 qx1_8 qx2_8 zx_8 qy0_8 qy1_8 qy2_8 zy_8 G_8 U_8 X_8 Y_8 Z_8
    refine (HNP.out _).mono ?_
    rintro e w10 ⟨rfl, hb10⟩
    have H10 := bel_trans H9 hb10
    have SZ10 := Lib.hid hb10.size
    have qg0_10 := (hb10.cell (p := ⟨w1.heap.size, 0, none⟩) zg_9).trans qg0_9
    have qg1_10 := (hb10.cell (p := ⟨w1.heap.size, 1, none⟩) zg_9).trans qg1_9
    have zg_10 := Nat.lt_of_lt_of_le zg_9 hb10.size
    have qx0_10 := (hb10.cell (p := ⟨w3.heap.size, 0, none⟩) zx_9).trans qx0_9
    have qx1_10 := (hb10.cell (p := ⟨w3.heap.size, 1, none⟩) zx_9).trans qx1_9
    have qx2_10 := (hb10.cell (p := ⟨w3.heap.size, 2, none⟩) zx_9).trans qx2_9
    have zx_10 := Nat.lt_of_lt_of_le zx_9 hb10.size
    have qy0_10 := (hb10.cell (p := ⟨w5.heap.size, 0, none⟩) zy_9).trans qy0_9
    have qy1_10 := (hb10.cell (p := ⟨w5.heap.size, 1, none⟩) zy_9).trans qy1_9
    have qy2_10 := (hb10.cell (p := ⟨w5.heap.size, 2, none⟩) zy_9).trans qy2_9
    have zy_10 := Nat.lt_of_lt_of_le zy_9 hb10.size
    have qz0_10 := (hb10.cell (p := ⟨w8.heap.size, 0, none⟩) zz_9).trans qz0_9
    have qz1_10 := (hb10.cell (p := ⟨w8.heap.size, 1, none⟩) zz_9).trans qz1_9
    have qz2_10 := (hb10.cell (p := ⟨w8.heap.size, 2, none⟩) zz_9).trans qz2_9
    have zz_10 := Nat.lt_of_lt_of_le zz_9 hb10.size
    have G_10 := Lib.hid (G_9.out.keep hb10)
    have U_10 := Lib.hid (U_9.out.keep hb10)
    have X_10 := Lib.hid (X_9.out.keep hb10)
    have Y_10 := Lib.hid (Y_9.out.keep hb10)
    have Z_10 := Lib.hid (Z_9.out.keep hb10)
    clear qg0_9 qg1_9 zg_9 qx0_9 qx1_9 qx2_9 zx_9 qy0_9 qy1_9 qy2_9 zy_9 G_9 U_9 X_9 Y_9 Z_9 qz0_9 qz1_9 qz2_9 zz_9
    obtain ⟨_, _, hva9, hz9⟩ := id X_10.out
    injection hva9 with hv1 hv2 hv3
    subst hv1
    clear hv2 hv3
    rcases hz9 with hz9 | ⟨bx, ox, rfl, hr1, hr2, hr3, hrc⟩
    · have := HLL.out; omega
    have hcl : ∀ k : Nat, k < N → w10.cell? ⟨bx, ox + k, none⟩ = some (.int .i64 (L.getD k 0)) := fun k h => (hrc k (by have := HLL.out; omega)).1
    have HCX := Lib.hid (And.intro hcl (show bx < w10.heap.size by omega))
    clear hcl hrc hr1 hr2 hr3
    obtain ⟨_, _, hva9, hz9⟩ := id Z_10.out
    injection hva9 with hv1 hv2 hv3
    subst hv1
    clear hv2 hv3
    rcases hz9 with hz9 | ⟨bz, oz, rfl, hr1, hr2, hr3, hrc⟩
    · have := HLK.out; omega
    have hcl : ∀ k : Nat, k < N → w10.cell? ⟨bz, oz + k, none⟩ = some (.int .i64 (K.getD k 0)) := fun k h => (hrc k (by have := HLK.out; omega)).1
    have HCZ := Lib.hid (And.intro hcl (show bz < w10.heap.size by omega))
    clear hcl hrc hr1 hr2 hr3
    go_wp2_with fail
    go_loopw [15] (fun c wr => ∃ k : Nat, k ≤ N ∧ c = .int .i64 k ∧ Hid (Below w10.heap.size w10 wr)) (fun c _ => N - (intOf c).toNat)
    case atStart => exact ⟨0, Nat.zero_le _, rfl, Lib.hid (Below.refl _ _)⟩
    case round =>
      obtain ⟨k, hk, rfl, HBW⟩ := hrel
      have sW := HBW.out.size
      have qg0_r := (HBW.out.cell (p := ⟨w1.heap.size, 0, none⟩) zg_10).trans qg0_10
      have qg1_r := (HBW.out.cell (p := ⟨w1.heap.size, 1, none⟩) zg_10).trans qg1_10
      have zg_r := Nat.lt_of_lt_of_le zg_10 HBW.out.size
      have qx0_r := (HBW.out.cell (p := ⟨w3.heap.size, 0, none⟩) zx_10).trans qx0_10
      have qx1_r := (HBW.out.cell (p := ⟨w3.heap.size, 1, none⟩) zx_10).trans qx1_10
      have qx2_r := (HBW.out.cell (p := ⟨w3.heap.size, 2, none⟩) zx_10).trans qx2_10
      have zx_r := Nat.lt_of_lt_of_le zx_10 HBW.out.size
      have qz0_r := (HBW.out.cell (p := ⟨w8.heap.size, 0, none⟩) zz_10).trans qz0_10
      have qz1_r := (HBW.out.cell (p := ⟨w8.heap.size, 1, none⟩) zz_10).trans qz1_10
      have qz2_r := (HBW.out.cell (p := ⟨w8.heap.size, 2, none⟩) zz_10).trans qz2_10
      have zz_r := Nat.lt_of_lt_of_le zz_10 HBW.out.size
      have HGR := Lib.hid (RowE.keep G_10.out.edges HBW.out)
      have HUR := Lib.hid (Row.keep U_10.out HBW.out)
      have HXR := Lib.hid (Row.keep X_10.out.rowI HBW.out)
      by_cases hlt : k < N
      · have hlt' : (k : Int) < N := by omega
        have hkL : (k : Int) < L.length := by have := HLL.out; omega
        have hkK : (k : Int) < K.length := by have := HLK.out; omega
        have hgi := fun w (h : Row w (.slice ub os.length uc) os) => gvIn os (k : Int) _ w h hl2
        have hib := fun w => iIsBetter m (L.getD k 0) (K.getD k 0) w
        rw [HNB.out k hlt] at hib
        have hnk := HNO.out k hlt
        have hff : ∀ w' : World, Below wr.heap.size wr w' → w'.cell? ⟨w3.heap.size, 2, none⟩ = some (.slice (some ⟨bx, ox, none⟩) L.length cx) ∧ w'.cell? ⟨w8.heap.size, 2, none⟩ = some (.slice (some ⟨bz, oz, none⟩) K.length cz) ∧ w'.cell? ⟨bx, ox + k, none⟩ = some (.int .i64 (L.getD k 0)) ∧ w'.cell? ⟨bz, oz + k, none⟩ = some (.int .i64 (K.getD k 0)) := fun w' h => ⟨(h.cell (p := ⟨w3.heap.size, 2, none⟩) zx_r).trans qx2_r, (h.cell (p := ⟨w8.heap.size, 2, none⟩) zz_r).trans qz2_r, ((bel_trans HBW.out h).cell (p := ⟨bx, _, none⟩) HCX.out.2).trans (HCX.out.1 k hlt), ((bel_trans HBW.out h).cell (p := ⟨bz, _, none⟩) HCZ.out.2).trans (HCZ.out.1 k hlt)⟩
        generalize inL os (k : Int) = P at hgi hnk
        generalize L.getD k 0 = x at hib hnk hff
        generalize K.getD k 0 = z at hib hff
        have HGI := Lib.hid hgi
        have HIB := Lib.hid hib
        have FF := Lib.hid hff
        have HXX : Hid (∀ w', Below wr.heap.size wr w' → Row w' (.slice ub os.length uc) os) := Lib.hid (fun w' h => HUR.out.keep h)
        have HNK := Lib.hid hnk
        clear hgi hib hff hnk
        cases P
        · have hxn := HNK
          clear hxn
          go_wp2_with fail
          refine wp_region_below (by kernel_rfl) (by kernel_rfl) ?_
          repeat (go_big_quiet_step ((intro hw; first | with_reducible rfl | (obtain ⟨f0, f1, f2, f3⟩ := FF.out _ hw; simp only [f0, f1, f2, f3, Result.andThen]; first | exact ⟨trivial, rfl⟩ | exact ⟨rfl, rfl⟩) | (go_at_call 12; with_reducible exact quietB (HGI.out _ (HXX.out _ hw)) hw) | (go_at_call 13; with_reducible exact quietB (HIB.out _) hw))))
          refine wpQuiet_nil ?_
          intro w81 hb81
          have HB81 := Lib.hid hb81
          clear hb81
          go_wp2
          go_roundw
          case rel => first | exact ⟨k + 1, by omega, by go_num, Lib.hid (bel_trans HBW.out HB81.out)⟩ | exact ⟨_, ⟨k + 1, by omega, by go_num, Lib.hid (bel_trans HBW.out HB81.out)⟩, rfl⟩
          case measure => simp [intOf]; omega
        · have hxn := HNK.out rfl
          subst hxn
          go_wp2_with fail
          refine wp_region_below (by kernel_rfl) (by kernel_rfl) ?_
          repeat (go_big_quiet_step ((intro hw; first | with_reducible rfl | (obtain ⟨f0, f1, f2, f3⟩ := FF.out _ hw; simp only [f0, f1, f2, f3, Result.andThen]; first | exact ⟨trivial, rfl⟩ | exact ⟨rfl, rfl⟩) | (go_at_call 12; with_reducible exact quietB (HGI.out _ (HXX.out _ hw)) hw) | (go_at_call 13; with_reducible exact quietB (HIB.out _) hw))))
          refine wpQuiet_nil ?_
          intro w81 hb81
          have HB81 := Lib.hid hb81
          clear hb81
          go_wp2
          go_roundw
          case rel => first | exact ⟨k + 1, by omega, by go_num, Lib.hid (bel_trans HBW.out HB81.out)⟩ | exact ⟨_, ⟨k + 1, by omega, by go_num, Lib.hid (bel_trans HBW.out HB81.out)⟩, rfl⟩
          case measure => simp [intOf]; omega
      · have hkk : ¬ ((k : Int) < N) := by omega
        go_wp2_with fail
        refine (HWO.out _ _ _ HGR.out HUR.out).mono ?_
        rintro e w70 ⟨v70, rfl, how70, hok70, hb70⟩
        obtain ⟨a70, c70, rfl, hz70⟩ := id how70
        have HB70 := Lib.hid hb70
        have HW70 := Lib.hid (show RowE w70 (.slice a70 ws.length c70) ws from InR.edges how70)
        have vx0 := (HB70.out.cell (p := ⟨w3.heap.size, 0, none⟩) zx_r).trans qx0_r
        have vx1 := (HB70.out.cell (p := ⟨w3.heap.size, 1, none⟩) zx_r).trans qx1_r
        have vx2 := (HB70.out.cell (p := ⟨w3.heap.size, 2, none⟩) zx_r).trans qx2_r
        have zx70 := Nat.lt_of_lt_of_le zx_r HB70.out.size
        clear hb70 hok70 how70 hz70
        go_wp2_with fail
        have hbv : Below w70.heap.size w70 (w70.alloc (.cells #[.int .i64 N, .slice a70 ws.length c70] 25)) := (Below.refl _ _).alloc (Nat.le_refl _) _
        refine (HVD.out _ _ _ (HW70.out.keep hbv) (HXR.out.keep (bel_trans HB70.out hbv))).mono ?_
        rintro e w71 ⟨rfl, hb71⟩
        have HB71 := Lib.hid (And.intro (bel_trans hbv hb71) hb71)
        have hg71 := (Box.new w70 25 #[.int .i64 N, .slice a70 ws.length c70]).keep hb71
        have ug0 := hg71.cell 0
        have ug1 := hg71.cell 1
        simp only [List.getElem?_toArray, List.getElem?_cons_succ, List.getElem?_cons_zero] at ug0 ug1
        have ux0 := (HB71.out.1.cell (p := ⟨w3.heap.size, 0, none⟩) zx70).trans vx0
        have ux1 := (HB71.out.1.cell (p := ⟨w3.heap.size, 1, none⟩) zx70).trans vx1
        have ux2 := (HB71.out.1.cell (p := ⟨w3.heap.size, 2, none⟩) zx70).trans vx2
        clear hb71 hbv hg71
        go_wp2_with fail
        refine (HSB.out _ _ _ (HW70.out.keep HB71.out.1) (HXR.out.keep (bel_trans HB70.out HB71.out.1))).mono ?_
        rintro e w72 ⟨rfl, hb72⟩
        have HB72 := Lib.hid (bel_trans HB71.out.1 hb72)
        clear hb72
        go_wp2
        go_ret
        exact ⟨by first | rfl | simp, bel_trans H10 (bel_trans HBW.out (bel_trans HB70.out HB72.out))⟩

set_option maxRecDepth 100000 in
theorem lifted (os : Os) (started : os.Started) (H : Type) (enc : TypeId × Value → H) :
    ReturnsInHanded {} Try.checked os 5 .any (Rows.fnViewAvoidingSpec.pre6 enc Try.prog Try.f5 Rows.fnViewAvoidingRow.domain false) (Rows.fnViewAvoidingSpec.post enc Try.prog Try.f5 false true false false) := by
  refine returnsInHanded_of_change (C := Try.checked) own started (by kernel_rfl) Try.func5
    (ChangeSpec.witness6 (enc := enc) (C := Try.checked) false ⟨#[], #[.slice none 0 0], []⟩ 8 (by kernel_rfl) (by kernel_rfl) (by kernel_rfl) (by kernel_rfl)) ?_
  intro W base args ds gs before hval0 hW hcnd _
  have hval : ∀ (j : Nat) t v, Try.f5.params[j]? = some t → args[j]? = some v → Value.okWide Try.prog W .any base t v := hval0
  have hW' := hW
  obtain ⟨p, q, hA0, hV, rfl, hfz, hnd⟩ := hW
  have hA : DataW.TrodAll enc Try.prog W 0 (fun _ => true) true Try.f5.params.toList args.toList ds p := hA0
  rw [Try.params5] at hA hval
  obtain ⟨v0, vs0, d0, ds0, p0, q0, hargs, rfl, rfl, h0, r0⟩ := trodAll_cons hA
  obtain ⟨rfl, rfl, rfl⟩ := trodAll_nil r0
  obtain rfl : args = #[v0] := by cases args; simp_all
  obtain ⟨rfl, rfl⟩ := trodVars_none hV
  obtain ⟨a0, len0, cap0, rfl⟩ := okWide_slice Try.underlying22 (hval 0 22 v0 rfl rfl)
  have k0 := h0
  have lt0 : ∀ x ∈ p0, x.block < W.heap.size := by obtain ⟨m, hm⟩ := k0; exact DataW.trod_lt m _ _ _ hm
  obtain ⟨z0, w0⟩ : ∃ zs, IsRow .u8 W a0 len0 cap0 zs := by
    obtain ⟨fuel, hf⟩ := h0
    rcases open_ints Try.underlying22 Try.underlying5 (by kernel_rfl) hf with ⟨hcs, _⟩ | ⟨x, l, c, zs, hcs, _, hl, hm, hz, _, hcell, hwz⟩
    · simp [Value.cells] at hcs
      obtain ⟨rfl, rfl, rfl⟩ := hcs
      exact ⟨[], .inl ⟨rfl, rfl, rfl, rfl⟩⟩
    · simp [Value.cells] at hcs
      obtain ⟨rfl, rfl, rfl⟩ := hcs
      exact ⟨zs, .inr ⟨_, rfl, hl, hm, by simpa using hz, hcell, hwz⟩⟩
  clear hA0 hval0
  refine (walk a0 len0 cap0 z0 W w0).mono fun e W' ⟨he, bel⟩ => ?_
  subst he
  exact ⟨_, rfl, _, _, _, [], _, [], hW', trodAll_mk1 (shut_bool Try.underlying4 _), (trodAll_cons_mk (Below.trod laidOut (by kernel_rfl) (of_decide_eq_true (by kernel_rfl)) k0 bel lt0) trodAll_mk0), rfl, bel.frame _, fun h => by cases h⟩

theorem over : Rows.fnViewAvoidingRow.holds Try.pinned (OpenSpec.ofChange Rows.fnViewAvoidingSpec) :=
  OpenClaim.holds_of_wide 5 Try.f5 rfl rfl rfl rfl rfl rfl rfl ⟨rfl, rfl, rfl, rfl, rfl⟩ rfl rfl rfl rfl rfl (by kernel_rfl) Try.func5 (by kernel_rfl)
    (of_decide_eq_true (by kernel_rfl)) (by unfold Func.isWrapper; first | (rw [if_pos (by decide +kernel)]; kernel_rfl) | (rw [if_neg (by decide +kernel)]; exact ⟨rfl, rfl⟩))
    (fun os started H enc _ => lifted os started H enc)

theorem proved : Rows.FnViewAvoidingSaid := over
end Go.Proofs.Ytlgjcofpdaljnaa.fnViewAvoiding
