/-
  Proved: at every graph, every two integers and every list of nodes impl.ViewAvoiding answers as the model spec.ViewAvoiding does, writes into no argument and returns memory of its own (the law FnExactViewAvoiding returns true for them all), with no further condition.
-/
import Derived.Test.YthkmelkhpkmhaaaRows
import Derived.Test.YthkmelkhpkmhaaaDerF
import Derived.Test.YthkmelkhpkmhaaaVEdges
import Derived.Test.YthkmelkhpkmhaaaMarks
import Derived.Test.YthkmelkhpkmhaaaHeld
import Derived.Test.YthkmelkhpkmhaaaOpenV
import Derived.WalkKit
import Derived.ProofKit
import Derived.OpenShut
import Derived.ShutString
import Derived.ChangeOld
import Derived.Below
namespace Go.Proofs.Ythkmelkhpkmhaaa.fnExactViewAvoiding
open Go.Proofs.Ythkmelkhpkmhaaa Go.BigFrame
open Go.ChangeShapes Go.WideShapes Go.ChangeAt Go.RowKit
open Go.ChangeMaps (open_string shut_string)
set_option linter.unusedVariables false

theorem own : ownKnob Try.prog.godebug = none := by kernel_rfl
theorem laidOut : laidOutB Try.prog = true := by kernel_rfl

set_option maxRecDepth 100000 in
set_option maxHeartbeats 4000000 in
theorem walk (w : World) (n0 : Int) (s0 : Value) (e0 : List Ed) (r0 : RowE w s0 e0) (l0 : e0.length ≤ 9223372036854775807) (a1 : Int) (w1 : (Lit.int .i64 a1).wf = true) (a2 : Int) (w2 : (Lit.int .i64 a2).wf = true) (s3 : Value) (i3 : List Int) (r3 : Row w s3 i3) (l3 : i3.length ≤ 9223372036854775807) :
    Calls Try.prog 4 #[.agg #[.int .i64 n0, s0], .int .i64 a1, .int .i64 a2, s3] w fun e w' => e = .returned (.bool true) ∧ Below w.heap.size w w' := by
  obtain ⟨ad0, cp0, hs0, hz0⟩ := id r0
  subst hs0
  clear hz0
  have R0 := Lib.hid (InR.of_edges r0)
  clear r0
  obtain ⟨ad3, cp3, hs3, hz3⟩ := id r3
  subst hs3
  clear hz3
  have R3 := Lib.hid (InR.of_row r3)
  clear r3
  by_cases hbig3 : i3.length ≤ 1048576
  rotate_left
  · have hgt3 : (1048576 : Int) < i3.length := by omega
    obtain ⟨w0, hw0⟩ : ∃ w0, w0 = w := ⟨_, rfl⟩
    subst hw0
    have H0 := Below.refl w0.heap.size w0
    go_enter Try.func4, Try.ntmps4
    go_wp2
    go_ret
    exact ⟨rfl, (Below.refl _ _).alloc (by simp <;> omega) _⟩
  have hgt3 : ¬ ((1048576 : Int) < i3.length) := by omega
  have hb3g : i3.length ≤ 1048576 := hbig3
  have hb3i : i3.length ≤ 4194304 := by omega
  have hb3h : i3.length ≤ 281474976710656 := by omega
  have hsz0 := fun w => szGraph n0 e0.length cp0 ad0 (1048576) w (by omega) l0
  by_cases hbig0 : e0.length ≤ 1048576
  rotate_left
  · have eR : szR (1048576) e0.length = -1 := by rw [szR, if_neg hbig0]
    rw [eR] at hsz0
    have HZ0 := Lib.hid hsz0
    clear hsz0 eR
    obtain ⟨w0, hw0⟩ : ∃ w0, w0 = w := ⟨_, rfl⟩
    subst hw0
    have H0 := Below.refl w0.heap.size w0
    go_enter Try.func4, Try.ntmps4
    go_wp2_with fail
    have hb1 : Below w0.heap.size w0 (w0.alloc (.cells #[.int .i64 n0, .slice ad0 e0.length cp0] 24)) := (Below.refl _ _).alloc (by simp <;> omega) _
    have H1 := bel_trans H0 hb1
    have SZ1 := Lib.hid hb1.size
    have qa00_1 : (w0.alloc (.cells #[.int .i64 n0, .slice ad0 e0.length cp0] 24)).cell? ⟨w0.heap.size, 0, none⟩ = some (.int .i64 n0) := by go_simp
    have qa01_1 : (w0.alloc (.cells #[.int .i64 n0, .slice ad0 e0.length cp0] 24)).cell? ⟨w0.heap.size, 1, none⟩ = some (.slice ad0 e0.length cp0) := by go_simp
    have za0_1 : w0.heap.size < (w0.alloc (.cells #[.int .i64 n0, .slice ad0 e0.length cp0] 24)).heap.size := by simp <;> omega
    generalize (w0.alloc (.cells #[.int .i64 n0, .slice ad0 e0.length cp0] 24)) = w1 at hb1 H1 SZ1 qa00_1 qa01_1 za0_1 ⊢
    have ZBa0 := Lib.hid za0_1
    refine (HZ0.out _).mono ?_
    rintro e w2 ⟨rfl, hb2⟩
    have H2 := bel_trans H1 hb2
    have SZ2 := Lib.hid hb2.size
    have qa00_2 := (hb2.cell (p := ⟨w0.heap.size, 0, none⟩) za0_1).trans qa00_1
    have qa01_2 := (hb2.cell (p := ⟨w0.heap.size, 1, none⟩) za0_1).trans qa01_1
    have za0_2 := Nat.lt_of_lt_of_le za0_1 hb2.size
    clear qa00_1 qa01_1 za0_1
    go_wp2
    go_ret
    exact ⟨rfl, H2⟩
  have eR : szR (1048576) e0.length = ((1048576 - e0.length : Nat) : Int) := by rw [szR, if_pos hbig0]
  rw [eR] at hsz0
  have HZ0 := Lib.hid hsz0
  have hnn0 : decide (((1048576 - e0.length : Nat) : Int) < 0) = false := by simp <;> omega
  have hb0g : e0.length ≤ 1048576 := by omega
  have hb0i : e0.length ≤ 4194304 := by omega
  have hb0h : e0.length ≤ 281474976710656 := by omega
  clear hsz0 eR
  obtain ⟨w0, hw0⟩ : ∃ w0, w0 = w := ⟨_, rfl⟩
  subst hw0
  have H0 := Below.refl w0.heap.size w0
  have R0_0 := R0
  clear R0
  have R3_0 := R3
  clear R3
  go_enter Try.func4, Try.ntmps4
  go_wp2_with fail
  have hb1 : Below w0.heap.size w0 (w0.alloc (.cells #[.int .i64 n0, .slice ad0 e0.length cp0] 24)) := (Below.refl _ _).alloc (by simp <;> omega) _
  have H1 := bel_trans H0 hb1
  have SZ1 := Lib.hid hb1.size
  have R0_1 := Lib.hid (R0_0.out.keep hb1)
  have R3_1 := Lib.hid (R3_0.out.keep hb1)
  have qa00_1 : (w0.alloc (.cells #[.int .i64 n0, .slice ad0 e0.length cp0] 24)).cell? ⟨w0.heap.size, 0, none⟩ = some (.int .i64 n0) := by go_simp
  have qa01_1 : (w0.alloc (.cells #[.int .i64 n0, .slice ad0 e0.length cp0] 24)).cell? ⟨w0.heap.size, 1, none⟩ = some (.slice ad0 e0.length cp0) := by go_simp
  have za0_1 : w0.heap.size < (w0.alloc (.cells #[.int .i64 n0, .slice ad0 e0.length cp0] 24)).heap.size := by simp <;> omega
  generalize (w0.alloc (.cells #[.int .i64 n0, .slice ad0 e0.length cp0] 24)) = w1 at hb1 H1 SZ1 R0_1 R3_1 qa00_1 qa01_1 za0_1 ⊢
  have ZBa0 := Lib.hid za0_1
  clear R0_0 R3_0
  refine (HZ0.out _).mono ?_
  rintro e w2 ⟨rfl, hb2⟩
  have H2 := bel_trans H1 hb2
  have SZ2 := Lib.hid hb2.size
  have qa00_2 := (hb2.cell (p := ⟨w0.heap.size, 0, none⟩) za0_1).trans qa00_1
  have qa01_2 := (hb2.cell (p := ⟨w0.heap.size, 1, none⟩) za0_1).trans qa01_1
  have za0_2 := Nat.lt_of_lt_of_le za0_1 hb2.size
  have R0_2 := Lib.hid (R0_1.out.keep hb2)
  have R3_2 := Lib.hid (R3_1.out.keep hb2)
  clear R0_1 R3_1 qa00_1 qa01_1 za0_1
  have hln : (vaL n0 e0 a1 a2 i3).length ≤ 4096 := by exact Nat.le_trans (vaL_len n0 e0 a1 a2 i3) (by omega)
  have hsp := fun s t w h k (ok3 : okS t) => sViewAvoiding n0 a1 a2 e0 i3 s t w h k ok3 hb0h hb3h
  have him := fun s t w h k (ok3 : okS t) => viewAvoiding n0 a1 a2 e0 i3 s t w h k hb0h hb3h
  generalize vaM n0 e0 a1 a2 i3 = VM at hsp him
  generalize vaA n0 e0 a1 a2 i3 = VA at hsp him
  generalize vaB n0 e0 a1 a2 i3 = B at hsp him
  generalize vaL n0 e0 a1 a2 i3 = ls at hsp him hln
  have HSP := Lib.hid hsp
  have HIM := Lib.hid him
  clear hsp him
  go_wp2_with fail
  refine (toGraph n0 e0 _ _ R0_2.out.edges hb0g).mono ?_
  rintro e w3 ⟨sAV0, rfl, hnew, hb3⟩
  have H3 := bel_trans H2 hb3
  have SZ3 := Lib.hid hb3.size
  have qa00_3 := (hb3.cell (p := ⟨w0.heap.size, 0, none⟩) za0_2).trans qa00_2
  have qa01_3 := (hb3.cell (p := ⟨w0.heap.size, 1, none⟩) za0_2).trans qa01_2
  have za0_3 := Nat.lt_of_lt_of_le za0_2 hb3.size
  have R0_3 := Lib.hid (R0_2.out.keep hb3)
  have R3_3 := Lib.hid (R3_2.out.keep hb3)
  have OKAV0 := Lib.hid hnew.ok
  have AV0_3 := Lib.hid (hnew.inR)
  clear qa00_2 qa01_2 za0_2 R0_2 R3_2
  clear hnew
  go_wp2_with fail
  refine (toIntSN i3 _ _ R3_3.out.rowI hb3g).mono ?_
  rintro e w4 ⟨sAV3, rfl, hnew, hb4⟩
  have H4 := bel_trans H3 hb4
  have SZ4 := Lib.hid hb4.size
  have qa00_4 := (hb4.cell (p := ⟨w0.heap.size, 0, none⟩) za0_3).trans qa00_3
  have qa01_4 := (hb4.cell (p := ⟨w0.heap.size, 1, none⟩) za0_3).trans qa01_3
  have za0_4 := Nat.lt_of_lt_of_le za0_3 hb4.size
  have R0_4 := Lib.hid (R0_3.out.keep hb4)
  have R3_4 := Lib.hid (R3_3.out.keep hb4)
  have AV0_4 := Lib.hid (AV0_3.out.keep hb4)
  have OKAV3 := Lib.hid hnew.ok
  have AV3_4 := Lib.hid (hnew.inR)
  clear qa00_3 qa01_3 za0_3 R0_3 R3_3 AV0_3
  clear hnew
  go_wp2_with fail
  refine (HSP.out _ _ _ AV0_4.out.edges AV3_4.out.rowI OKAV3.out).mono ?_
  rintro e w5 ⟨v, rfl, hown, hokv, hb5⟩
  have H5 := bel_trans H4 hb5
  have SZ5 := Lib.hid hb5.size
  have qa00_5 := (hb5.cell (p := ⟨w0.heap.size, 0, none⟩) za0_4).trans qa00_4
  have qa01_5 := (hb5.cell (p := ⟨w0.heap.size, 1, none⟩) za0_4).trans qa01_4
  have za0_5 := Nat.lt_of_lt_of_le za0_4 hb5.size
  have R0_5 := Lib.hid (R0_4.out.keep hb5)
  have R3_5 := Lib.hid (R3_4.out.keep hb5)
  have AV0_5 := Lib.hid (AV0_4.out.keep hb5)
  have AV3_5 := Lib.hid (AV3_4.out.keep hb5)
  obtain ⟨vaV, vcV, rfl, hvz⟩ := id hown
  clear hvz
  have V_5 := Lib.hid (hown)
  clear qa00_4 qa01_4 za0_4 R0_4 R3_4 AV0_4 AV3_4
  clear hown hokv
  go_wp2_with fail
  have hb6 : Below w5.heap.size w5 (w5.alloc (.cells #[.int .i64 VM, .int .i64 VA, .slice vaV ls.length vcV] 40)) := (Below.refl _ _).alloc (by simp <;> omega) _
  have H6 := bel_trans H5 hb6
  have SZ6 := Lib.hid hb6.size
  have qa00_6 := (hb6.cell (p := ⟨w0.heap.size, 0, none⟩) za0_5).trans qa00_5
  have qa01_6 := (hb6.cell (p := ⟨w0.heap.size, 1, none⟩) za0_5).trans qa01_5
  have za0_6 := Nat.lt_of_lt_of_le za0_5 hb6.size
  have R0_6 := Lib.hid (R0_5.out.keep hb6)
  have R3_6 := Lib.hid (R3_5.out.keep hb6)
  have AV0_6 := Lib.hid (AV0_5.out.keep hb6)
  have AV3_6 := Lib.hid (AV3_5.out.keep hb6)
  have V_6 := Lib.hid (V_5.out.keep hb6)
  have qbV0_6 : (w5.alloc (.cells #[.int .i64 VM, .int .i64 VA, .slice vaV ls.length vcV] 40)).cell? ⟨w5.heap.size, 0, none⟩ = some (.int .i64 VM) := by go_simp
  have qbV1_6 : (w5.alloc (.cells #[.int .i64 VM, .int .i64 VA, .slice vaV ls.length vcV] 40)).cell? ⟨w5.heap.size, 1, none⟩ = some (.int .i64 VA) := by go_simp
  have qbV2_6 : (w5.alloc (.cells #[.int .i64 VM, .int .i64 VA, .slice vaV ls.length vcV] 40)).cell? ⟨w5.heap.size, 2, none⟩ = some (.slice vaV ls.length vcV) := by go_simp
  have zbV_6 : w5.heap.size < (w5.alloc (.cells #[.int .i64 VM, .int .i64 VA, .slice vaV ls.length vcV] 40)).heap.size := by simp <;> omega
  generalize (w5.alloc (.cells #[.int .i64 VM, .int .i64 VA, .slice vaV ls.length vcV] 40)) = w6 at hb6 H6 SZ6 AV0_6 AV3_6 R0_6 R3_6 V_6 qa00_6 qa01_6 qbV0_6 qbV1_6 qbV2_6 za0_6 zbV_6 ⊢
  have ZBbV := Lib.hid zbV_6
  clear qa00_5 qa01_5 za0_5 R0_5 R3_5 AV0_5 AV3_5 V_5
  clear AV0_6
  clear AV3_6
  go_wp2_with fail
  refine (toGraph n0 e0 _ _ R0_6.out.edges hb0g).mono ?_
  rintro e w7 ⟨_, rfl, hnew, hb7⟩
  have H7 := bel_trans H6 hb7
  have SZ7 := Lib.hid hb7.size
  have qa00_7 := (hb7.cell (p := ⟨w0.heap.size, 0, none⟩) za0_6).trans qa00_6
  have qa01_7 := (hb7.cell (p := ⟨w0.heap.size, 1, none⟩) za0_6).trans qa01_6
  have za0_7 := Nat.lt_of_lt_of_le za0_6 hb7.size
  have qbV0_7 := (hb7.cell (p := ⟨w5.heap.size, 0, none⟩) zbV_6).trans qbV0_6
  have qbV1_7 := (hb7.cell (p := ⟨w5.heap.size, 1, none⟩) zbV_6).trans qbV1_6
  have qbV2_7 := (hb7.cell (p := ⟨w5.heap.size, 2, none⟩) zbV_6).trans qbV2_6
  have zbV_7 := Nat.lt_of_lt_of_le zbV_6 hb7.size
  have R0_7 := Lib.hid (R0_6.out.keep hb7)
  have R3_7 := Lib.hid (R3_6.out.keep hb7)
  have V_7 := Lib.hid (V_6.out.keep hb7)
  have OKX0 := Lib.hid hnew.ok
  obtain ⟨gX0, capX0, rfl, hgX0, hrowX0⟩ := hnew
  have X0_7 := Lib.hid (NewE.inR ⟨gX0, capX0, rfl, hgX0, hrowX0⟩)
  clear qa00_6 qa01_6 za0_6 R0_6 R3_6 V_6 qbV0_6 qbV1_6 qbV2_6 zbV_6
  clear hgX0 hrowX0
  go_wp2_with fail
  have hb8 : Below w7.heap.size w7 (w7.alloc (.cells #[.int .i64 n0, .slice (some ⟨gX0, 0, none⟩) e0.length capX0] 29)) := (Below.refl _ _).alloc (by simp <;> omega) _
  have H8 := bel_trans H7 hb8
  have SZ8 := Lib.hid hb8.size
  have qa00_8 := (hb8.cell (p := ⟨w0.heap.size, 0, none⟩) za0_7).trans qa00_7
  have qa01_8 := (hb8.cell (p := ⟨w0.heap.size, 1, none⟩) za0_7).trans qa01_7
  have za0_8 := Nat.lt_of_lt_of_le za0_7 hb8.size
  have qbV0_8 := (hb8.cell (p := ⟨w5.heap.size, 0, none⟩) zbV_7).trans qbV0_7
  have qbV1_8 := (hb8.cell (p := ⟨w5.heap.size, 1, none⟩) zbV_7).trans qbV1_7
  have qbV2_8 := (hb8.cell (p := ⟨w5.heap.size, 2, none⟩) zbV_7).trans qbV2_7
  have zbV_8 := Nat.lt_of_lt_of_le zbV_7 hb8.size
  have R0_8 := Lib.hid (R0_7.out.keep hb8)
  have R3_8 := Lib.hid (R3_7.out.keep hb8)
  have V_8 := Lib.hid (V_7.out.keep hb8)
  have X0_8 := Lib.hid (X0_7.out.keep hb8)
  have qx00_8 : (w7.alloc (.cells #[.int .i64 n0, .slice (some ⟨gX0, 0, none⟩) e0.length capX0] 29)).cell? ⟨w7.heap.size, 0, none⟩ = some (.int .i64 n0) := by go_simp
  have qx01_8 : (w7.alloc (.cells #[.int .i64 n0, .slice (some ⟨gX0, 0, none⟩) e0.length capX0] 29)).cell? ⟨w7.heap.size, 1, none⟩ = some (.slice (some ⟨gX0, 0, none⟩) e0.length capX0) := by go_simp
  have zx0_8 : w7.heap.size < (w7.alloc (.cells #[.int .i64 n0, .slice (some ⟨gX0, 0, none⟩) e0.length capX0] 29)).heap.size := by simp <;> omega
  generalize (w7.alloc (.cells #[.int .i64 n0, .slice (some ⟨gX0, 0, none⟩) e0.length capX0] 29)) = w8 at hb8 H8 SZ8 R0_8 R3_8 V_8 X0_8 qa00_8 qa01_8 qbV0_8 qbV1_8 qbV2_8 qx00_8 qx01_8 za0_8 zbV_8 zx0_8 ⊢
  have ZBx0 := Lib.hid zx0_8
  clear qa00_7 qa01_7 za0_7 qbV0_7 qbV1_7 qbV2_7 zbV_7 R0_7 R3_7 V_7 X0_7
  go_wp2_with fail
  refine (toIntSN i3 _ _ R3_8.out.rowI hb3g).mono ?_
  rintro e w9 ⟨_, rfl, hnew, hb9⟩
  have H9 := bel_trans H8 hb9
  have SZ9 := Lib.hid hb9.size
  have qa00_9 := (hb9.cell (p := ⟨w0.heap.size, 0, none⟩) za0_8).trans qa00_8
  have qa01_9 := (hb9.cell (p := ⟨w0.heap.size, 1, none⟩) za0_8).trans qa01_8
  have za0_9 := Nat.lt_of_lt_of_le za0_8 hb9.size
  have qbV0_9 := (hb9.cell (p := ⟨w5.heap.size, 0, none⟩) zbV_8).trans qbV0_8
  have qbV1_9 := (hb9.cell (p := ⟨w5.heap.size, 1, none⟩) zbV_8).trans qbV1_8
  have qbV2_9 := (hb9.cell (p := ⟨w5.heap.size, 2, none⟩) zbV_8).trans qbV2_8
  have zbV_9 := Nat.lt_of_lt_of_le zbV_8 hb9.size
  have qx00_9 := (hb9.cell (p := ⟨w7.heap.size, 0, none⟩) zx0_8).trans qx00_8
  have qx01_9 := (hb9.cell (p := ⟨w7.heap.size, 1, none⟩) zx0_8).trans qx01_8
  have zx0_9 := Nat.lt_of_lt_of_le zx0_8 hb9.size
  have R0_9 := Lib.hid (R0_8.out.keep hb9)
  have R3_9 := Lib.hid (R3_8.out.keep hb9)
  have V_9 := Lib.hid (V_8.out.keep hb9)
  have X0_9 := Lib.hid (X0_8.out.keep hb9)
  have OKX3 := Lib.hid hnew.ok
  obtain ⟨gX3, capX3, rfl, hgX3, hrowX3⟩ := hnew
  have X3_9 := Lib.hid (NewI.inR ⟨gX3, capX3, rfl, hgX3, hrowX3⟩)
  clear qa00_8 qa01_8 za0_8 qbV0_8 qbV1_8 qbV2_8 zbV_8 R0_8 R3_8 V_8 X0_8 qx00_8 qx01_8 zx0_8
  clear hgX3 hrowX3
  go_wp2_with fail
  refine (HIM.out _ _ _ X0_9.out.edges X3_9.out.rowI OKX3.out).mono ?_
  rintro e w10 ⟨v, rfl, hown, hokv, hb10⟩
  have H10 := bel_trans H9 hb10
  have SZ10 := Lib.hid hb10.size
  have qa00_10 := (hb10.cell (p := ⟨w0.heap.size, 0, none⟩) za0_9).trans qa00_9
  have qa01_10 := (hb10.cell (p := ⟨w0.heap.size, 1, none⟩) za0_9).trans qa01_9
  have za0_10 := Nat.lt_of_lt_of_le za0_9 hb10.size
  have qbV0_10 := (hb10.cell (p := ⟨w5.heap.size, 0, none⟩) zbV_9).trans qbV0_9
  have qbV1_10 := (hb10.cell (p := ⟨w5.heap.size, 1, none⟩) zbV_9).trans qbV1_9
  have qbV2_10 := (hb10.cell (p := ⟨w5.heap.size, 2, none⟩) zbV_9).trans qbV2_9
  have zbV_10 := Nat.lt_of_lt_of_le zbV_9 hb10.size
  have qx00_10 := (hb10.cell (p := ⟨w7.heap.size, 0, none⟩) zx0_9).trans qx00_9
  have qx01_10 := (hb10.cell (p := ⟨w7.heap.size, 1, none⟩) zx0_9).trans qx01_9
  have zx0_10 := Nat.lt_of_lt_of_le zx0_9 hb10.size
  have R0_10 := Lib.hid (R0_9.out.keep hb10)
  have R3_10 := Lib.hid (R3_9.out.keep hb10)
  have V_10 := Lib.hid (V_9.out.keep hb10)
  have X0_10 := Lib.hid (X0_9.out.keep hb10)
  have X3_10 := Lib.hid (X3_9.out.keep hb10)
  obtain ⟨vaG, vcG, rfl, hvz⟩ := id hown
  clear hvz
  have G_10 := Lib.hid (hown)
  clear qa00_9 qa01_9 za0_9 qbV0_9 qbV1_9 qbV2_9 zbV_9 qx00_9 qx01_9 zx0_9 R0_9 R3_9 V_9 X0_9 X3_9
  clear hown hokv
  go_wp2_with fail
  have hb11 : Below w10.heap.size w10 (w10.alloc (.cells #[.int .i64 VM, .int .i64 VA, .slice vaG ls.length vcG] 40)) := (Below.refl _ _).alloc (by simp <;> omega) _
  have H11 := bel_trans H10 hb11
  have SZ11 := Lib.hid hb11.size
  have qa00_11 := (hb11.cell (p := ⟨w0.heap.size, 0, none⟩) za0_10).trans qa00_10
  have qa01_11 := (hb11.cell (p := ⟨w0.heap.size, 1, none⟩) za0_10).trans qa01_10
  have za0_11 := Nat.lt_of_lt_of_le za0_10 hb11.size
  have qbV0_11 := (hb11.cell (p := ⟨w5.heap.size, 0, none⟩) zbV_10).trans qbV0_10
  have qbV1_11 := (hb11.cell (p := ⟨w5.heap.size, 1, none⟩) zbV_10).trans qbV1_10
  have qbV2_11 := (hb11.cell (p := ⟨w5.heap.size, 2, none⟩) zbV_10).trans qbV2_10
  have zbV_11 := Nat.lt_of_lt_of_le zbV_10 hb11.size
  have qx00_11 := (hb11.cell (p := ⟨w7.heap.size, 0, none⟩) zx0_10).trans qx00_10
  have qx01_11 := (hb11.cell (p := ⟨w7.heap.size, 1, none⟩) zx0_10).trans qx01_10
  have zx0_11 := Nat.lt_of_lt_of_le zx0_10 hb11.size
  have R0_11 := Lib.hid (R0_10.out.keep hb11)
  have R3_11 := Lib.hid (R3_10.out.keep hb11)
  have V_11 := Lib.hid (V_10.out.keep hb11)
  have X0_11 := Lib.hid (X0_10.out.keep hb11)
  have X3_11 := Lib.hid (X3_10.out.keep hb11)
  have G_11 := Lib.hid (G_10.out.keep hb11)
  have qbG0_11 : (w10.alloc (.cells #[.int .i64 VM, .int .i64 VA, .slice vaG ls.length vcG] 40)).cell? ⟨w10.heap.size, 0, none⟩ = some (.int .i64 VM) := by go_simp
  have qbG1_11 : (w10.alloc (.cells #[.int .i64 VM, .int .i64 VA, .slice vaG ls.length vcG] 40)).cell? ⟨w10.heap.size, 1, none⟩ = some (.int .i64 VA) := by go_simp
  have qbG2_11 : (w10.alloc (.cells #[.int .i64 VM, .int .i64 VA, .slice vaG ls.length vcG] 40)).cell? ⟨w10.heap.size, 2, none⟩ = some (.slice vaG ls.length vcG) := by go_simp
  have zbG_11 : w10.heap.size < (w10.alloc (.cells #[.int .i64 VM, .int .i64 VA, .slice vaG ls.length vcG] 40)).heap.size := by simp <;> omega
  generalize (w10.alloc (.cells #[.int .i64 VM, .int .i64 VA, .slice vaG ls.length vcG] 40)) = w11 at hb11 H11 SZ11 G_11 R0_11 R3_11 V_11 X0_11 X3_11 qa00_11 qa01_11 qbG0_11 qbG1_11 qbG2_11 qbV0_11 qbV1_11 qbV2_11 qx00_11 qx01_11 za0_11 zbG_11 zbV_11 zx0_11 ⊢
  have ZBbG := Lib.hid zbG_11
  clear qa00_10 qa01_10 za0_10 qbV0_10 qbV1_10 qbV2_10 zbV_10 qx00_10 qx01_10 zx0_10 R0_10 R3_10 V_10 X0_10 X3_10 G_10
  refine (eqView VM VA ls _ _ _ G_11.out.rowI V_11.out.rowI (by omega)).mono ?_
  rintro e w12 ⟨rfl, hb12⟩
  have H12 := bel_trans H11 hb12
  have SZ12 := Lib.hid hb12.size
  have qa00_12 := (hb12.cell (p := ⟨w0.heap.size, 0, none⟩) za0_11).trans qa00_11
  have qa01_12 := (hb12.cell (p := ⟨w0.heap.size, 1, none⟩) za0_11).trans qa01_11
  have za0_12 := Nat.lt_of_lt_of_le za0_11 hb12.size
  have qbV0_12 := (hb12.cell (p := ⟨w5.heap.size, 0, none⟩) zbV_11).trans qbV0_11
  have qbV1_12 := (hb12.cell (p := ⟨w5.heap.size, 1, none⟩) zbV_11).trans qbV1_11
  have qbV2_12 := (hb12.cell (p := ⟨w5.heap.size, 2, none⟩) zbV_11).trans qbV2_11
  have zbV_12 := Nat.lt_of_lt_of_le zbV_11 hb12.size
  have qx00_12 := (hb12.cell (p := ⟨w7.heap.size, 0, none⟩) zx0_11).trans qx00_11
  have qx01_12 := (hb12.cell (p := ⟨w7.heap.size, 1, none⟩) zx0_11).trans qx01_11
  have zx0_12 := Nat.lt_of_lt_of_le zx0_11 hb12.size
  have qbG0_12 := (hb12.cell (p := ⟨w10.heap.size, 0, none⟩) zbG_11).trans qbG0_11
  have qbG1_12 := (hb12.cell (p := ⟨w10.heap.size, 1, none⟩) zbG_11).trans qbG1_11
  have qbG2_12 := (hb12.cell (p := ⟨w10.heap.size, 2, none⟩) zbG_11).trans qbG2_11
  have zbG_12 := Nat.lt_of_lt_of_le zbG_11 hb12.size
  have R0_12 := Lib.hid (R0_11.out.keep hb12)
  have R3_12 := Lib.hid (R3_11.out.keep hb12)
  have V_12 := Lib.hid (V_11.out.keep hb12)
  have X0_12 := Lib.hid (X0_11.out.keep hb12)
  have X3_12 := Lib.hid (X3_11.out.keep hb12)
  have G_12 := Lib.hid (G_11.out.keep hb12)
  clear qa00_11 qa01_11 za0_11 qbV0_11 qbV1_11 qbV2_11 zbV_11 qx00_11 qx01_11 zx0_11 R0_11 R3_11 V_11 X0_11 X3_11 G_11 qbG0_11 qbG1_11 qbG2_11 zbG_11
  go_wp2_with fail
  have hold : ∀ w' : World, Below w12.heap.size w12 w' → (w'.cell? ⟨w7.heap.size, 0, none⟩ = some (.int .i64 n0) ∧ w'.cell? ⟨w7.heap.size, 1, none⟩ = some (.slice (some ⟨gX0, 0, none⟩) e0.length capX0) ∧ w'.cell? ⟨w0.heap.size, 0, none⟩ = some (.int .i64 n0) ∧ w'.cell? ⟨w0.heap.size, 1, none⟩ = some (.slice ad0 e0.length cp0)) := fun w' h => ⟨(h.cell (p := ⟨w7.heap.size, 0, none⟩) zx0_12).trans qx00_12, (h.cell (p := ⟨w7.heap.size, 1, none⟩) zx0_12).trans qx01_12, (h.cell (p := ⟨w0.heap.size, 0, none⟩) za0_12).trans qa00_12, (h.cell (p := ⟨w0.heap.size, 1, none⟩) za0_12).trans qa01_12⟩
  have HOLD := Lib.hid hold
  clear hold
  go_region_held3 (fun w' : World => w'.cell? ⟨w7.heap.size, 0, none⟩ = some (.int .i64 n0) ∧ w'.cell? ⟨w7.heap.size, 1, none⟩ = some (.slice (some ⟨gX0, 0, none⟩) e0.length capX0) ∧ w'.cell? ⟨w0.heap.size, 0, none⟩ = some (.int .i64 n0) ∧ w'.cell? ⟨w0.heap.size, 1, none⟩ = some (.slice ad0 e0.length cp0)) (first | exact HOLD.out _ ((Below.refl _ _).drew) | exact HOLD.out _ (bel_trans ((Below.refl _ _).drew) hb13) | exact HOLD.out _ (bel_trans (bel_trans ((Below.refl _ _).drew) hb13) hb14)) (first | (go_at_call 12; (with_reducible refine (toGraph n0 e0 _ _ (R0_12.out.keep ((Below.refl _ _).drew)).edges hb0g).mono ?_); rintro e w13 ⟨sB0, rfl, hnew0, hb13⟩) | (go_at_call 15; (with_reducible refine (eqGraph n0 e0 _ _ _ (X0_12.out.keep (bel_trans ((Below.refl _ _).drew) hb13)).edges hnew0.row hb0g).mono ?_); rintro e w14 ⟨rfl, hb14⟩))
  have hq : Below w12.heap.size w12 w14 := (bel_trans (bel_trans ((Below.refl _ _).drew) hb13) hb14)
  clear hb13 hb14 HOLD hnew0
  have hb14 := hq
  clear hq
  have H14 := bel_trans H12 hb14
  have SZ14 := Lib.hid hb14.size
  have qa00_14 := (hb14.cell (p := ⟨w0.heap.size, 0, none⟩) za0_12).trans qa00_12
  have qa01_14 := (hb14.cell (p := ⟨w0.heap.size, 1, none⟩) za0_12).trans qa01_12
  have za0_14 := Nat.lt_of_lt_of_le za0_12 hb14.size
  have qbV0_14 := (hb14.cell (p := ⟨w5.heap.size, 0, none⟩) zbV_12).trans qbV0_12
  have qbV1_14 := (hb14.cell (p := ⟨w5.heap.size, 1, none⟩) zbV_12).trans qbV1_12
  have qbV2_14 := (hb14.cell (p := ⟨w5.heap.size, 2, none⟩) zbV_12).trans qbV2_12
  have zbV_14 := Nat.lt_of_lt_of_le zbV_12 hb14.size
  have qx00_14 := (hb14.cell (p := ⟨w7.heap.size, 0, none⟩) zx0_12).trans qx00_12
  have qx01_14 := (hb14.cell (p := ⟨w7.heap.size, 1, none⟩) zx0_12).trans qx01_12
  have zx0_14 := Nat.lt_of_lt_of_le zx0_12 hb14.size
  have qbG0_14 := (hb14.cell (p := ⟨w10.heap.size, 0, none⟩) zbG_12).trans qbG0_12
  have qbG1_14 := (hb14.cell (p := ⟨w10.heap.size, 1, none⟩) zbG_12).trans qbG1_12
  have qbG2_14 := (hb14.cell (p := ⟨w10.heap.size, 2, none⟩) zbG_12).trans qbG2_12
  have zbG_14 := Nat.lt_of_lt_of_le zbG_12 hb14.size
  have R0_14 := Lib.hid (R0_12.out.keep hb14)
  have R3_14 := Lib.hid (R3_12.out.keep hb14)
  have V_14 := Lib.hid (V_12.out.keep hb14)
  have X0_14 := Lib.hid (X0_12.out.keep hb14)
  have X3_14 := Lib.hid (X3_12.out.keep hb14)
  have G_14 := Lib.hid (G_12.out.keep hb14)
  clear qa00_12 qa01_12 za0_12 qbV0_12 qbV1_12 qbV2_12 zbV_12 qx00_12 qx01_12 zx0_12 qbG0_12 qbG1_12 qbG2_12 zbG_12 R0_12 R3_12 V_12 X0_12 X3_12 G_12
  go_wp2_with fail
  refine (toIntSN i3 _ _ R3_14.out.rowI hb3g).mono ?_
  rintro e w15 ⟨sB3, rfl, hnew, hb15⟩
  have H15 := bel_trans H14 hb15
  have SZ15 := Lib.hid hb15.size
  have qa00_15 := (hb15.cell (p := ⟨w0.heap.size, 0, none⟩) za0_14).trans qa00_14
  have qa01_15 := (hb15.cell (p := ⟨w0.heap.size, 1, none⟩) za0_14).trans qa01_14
  have za0_15 := Nat.lt_of_lt_of_le za0_14 hb15.size
  have qbV0_15 := (hb15.cell (p := ⟨w5.heap.size, 0, none⟩) zbV_14).trans qbV0_14
  have qbV1_15 := (hb15.cell (p := ⟨w5.heap.size, 1, none⟩) zbV_14).trans qbV1_14
  have qbV2_15 := (hb15.cell (p := ⟨w5.heap.size, 2, none⟩) zbV_14).trans qbV2_14
  have zbV_15 := Nat.lt_of_lt_of_le zbV_14 hb15.size
  have qx00_15 := (hb15.cell (p := ⟨w7.heap.size, 0, none⟩) zx0_14).trans qx00_14
  have qx01_15 := (hb15.cell (p := ⟨w7.heap.size, 1, none⟩) zx0_14).trans qx01_14
  have zx0_15 := Nat.lt_of_lt_of_le zx0_14 hb15.size
  have qbG0_15 := (hb15.cell (p := ⟨w10.heap.size, 0, none⟩) zbG_14).trans qbG0_14
  have qbG1_15 := (hb15.cell (p := ⟨w10.heap.size, 1, none⟩) zbG_14).trans qbG1_14
  have qbG2_15 := (hb15.cell (p := ⟨w10.heap.size, 2, none⟩) zbG_14).trans qbG2_14
  have zbG_15 := Nat.lt_of_lt_of_le zbG_14 hb15.size
  have R0_15 := Lib.hid (R0_14.out.keep hb15)
  have R3_15 := Lib.hid (R3_14.out.keep hb15)
  have V_15 := Lib.hid (V_14.out.keep hb15)
  have X0_15 := Lib.hid (X0_14.out.keep hb15)
  have X3_15 := Lib.hid (X3_14.out.keep hb15)
  have G_15 := Lib.hid (G_14.out.keep hb15)
  have B3_15 := Lib.hid (hnew.inR)
  clear qa00_14 qa01_14 za0_14 qbV0_14 qbV1_14 qbV2_14 zbV_14 qx00_14 qx01_14 zx0_14 qbG0_14 qbG1_14 qbG2_14 zbG_14 R0_14 R3_14 V_14 X0_14 X3_14 G_14
  clear hnew
  go_wp2_with fail
  refine (eqIntS4 i3 _ _ _ X3_15.out.rowI B3_15.out.rowI hb3i).mono ?_
  rintro e w16 ⟨rfl, hb16⟩
  have H16 := bel_trans H15 hb16
  have SZ16 := Lib.hid hb16.size
  have qa00_16 := (hb16.cell (p := ⟨w0.heap.size, 0, none⟩) za0_15).trans qa00_15
  have qa01_16 := (hb16.cell (p := ⟨w0.heap.size, 1, none⟩) za0_15).trans qa01_15
  have za0_16 := Nat.lt_of_lt_of_le za0_15 hb16.size
  have qbV0_16 := (hb16.cell (p := ⟨w5.heap.size, 0, none⟩) zbV_15).trans qbV0_15
  have qbV1_16 := (hb16.cell (p := ⟨w5.heap.size, 1, none⟩) zbV_15).trans qbV1_15
  have qbV2_16 := (hb16.cell (p := ⟨w5.heap.size, 2, none⟩) zbV_15).trans qbV2_15
  have zbV_16 := Nat.lt_of_lt_of_le zbV_15 hb16.size
  have qx00_16 := (hb16.cell (p := ⟨w7.heap.size, 0, none⟩) zx0_15).trans qx00_15
  have qx01_16 := (hb16.cell (p := ⟨w7.heap.size, 1, none⟩) zx0_15).trans qx01_15
  have zx0_16 := Nat.lt_of_lt_of_le zx0_15 hb16.size
  have qbG0_16 := (hb16.cell (p := ⟨w10.heap.size, 0, none⟩) zbG_15).trans qbG0_15
  have qbG1_16 := (hb16.cell (p := ⟨w10.heap.size, 1, none⟩) zbG_15).trans qbG1_15
  have qbG2_16 := (hb16.cell (p := ⟨w10.heap.size, 2, none⟩) zbG_15).trans qbG2_15
  have zbG_16 := Nat.lt_of_lt_of_le zbG_15 hb16.size
  have R0_16 := Lib.hid (R0_15.out.keep hb16)
  have R3_16 := Lib.hid (R3_15.out.keep hb16)
  have V_16 := Lib.hid (V_15.out.keep hb16)
  have X0_16 := Lib.hid (X0_15.out.keep hb16)
  have X3_16 := Lib.hid (X3_15.out.keep hb16)
  have G_16 := Lib.hid (G_15.out.keep hb16)
  have B3_16 := Lib.hid (B3_15.out.keep hb16)
  clear qa00_15 qa01_15 za0_15 qbV0_15 qbV1_15 qbV2_15 zbV_15 qx00_15 qx01_15 zx0_15 qbG0_15 qbG1_15 qbG2_15 zbG_15 R0_15 R3_15 V_15 X0_15 X3_15 G_15 B3_15
  clear B3_16
  go_wp2_with fail
  refine (markGraph 1 n0 _ _ _ _ _ _ X0_16.out (by omega) (by omega) (by have := SZ16.out; have := SZ15.out; have := SZ14.out; have := SZ12.out; have := SZ11.out; have := SZ10.out; have := SZ9.out; have := SZ8.out; omega)).mono ?_
  rintro e w17 ⟨rfl, hrow, hb17⟩
  have H17 := bel_chg H16 hb17 (by have := SZ6.out; have := SZ5.out; have := SZ4.out; have := SZ3.out; have := SZ2.out; have := SZ1.out; omega)
  have SZ17 := Lib.hid hb17.size
  have qa00_17 := (hb17.cell (p := ⟨w0.heap.size, 0, none⟩) za0_16 (.inl (by have := ZBa0.out; have := SZ6.out; have := SZ5.out; have := SZ4.out; have := SZ3.out; have := SZ2.out; simp only; omega))).trans qa00_16
  have qa01_17 := (hb17.cell (p := ⟨w0.heap.size, 1, none⟩) za0_16 (.inl (by have := ZBa0.out; have := SZ6.out; have := SZ5.out; have := SZ4.out; have := SZ3.out; have := SZ2.out; simp only; omega))).trans qa01_16
  have za0_17 := Nat.lt_of_lt_of_le za0_16 hb17.size
  have qbV0_17 := (hb17.cell (p := ⟨w5.heap.size, 0, none⟩) zbV_16 (.inl (by have := ZBbV.out; simp only; omega))).trans qbV0_16
  have qbV1_17 := (hb17.cell (p := ⟨w5.heap.size, 1, none⟩) zbV_16 (.inl (by have := ZBbV.out; simp only; omega))).trans qbV1_16
  have qbV2_17 := (hb17.cell (p := ⟨w5.heap.size, 2, none⟩) zbV_16 (.inl (by have := ZBbV.out; simp only; omega))).trans qbV2_16
  have zbV_17 := Nat.lt_of_lt_of_le zbV_16 hb17.size
  have qx00_17 := (hb17.cell (p := ⟨w7.heap.size, 0, none⟩) zx0_16 (.inr (by simp only; omega))).trans qx00_16
  have qx01_17 := (hb17.cell (p := ⟨w7.heap.size, 1, none⟩) zx0_16 (.inr (by simp only; omega))).trans qx01_16
  have zx0_17 := Nat.lt_of_lt_of_le zx0_16 hb17.size
  have qbG0_17 := (hb17.cell (p := ⟨w10.heap.size, 0, none⟩) zbG_16 (.inr (by have := SZ10.out; have := SZ9.out; have := SZ8.out; simp only; omega))).trans qbG0_16
  have qbG1_17 := (hb17.cell (p := ⟨w10.heap.size, 1, none⟩) zbG_16 (.inr (by have := SZ10.out; have := SZ9.out; have := SZ8.out; simp only; omega))).trans qbG1_16
  have qbG2_17 := (hb17.cell (p := ⟨w10.heap.size, 2, none⟩) zbG_16 (.inr (by have := SZ10.out; have := SZ9.out; have := SZ8.out; simp only; omega))).trans qbG2_16
  have zbG_17 := Nat.lt_of_lt_of_le zbG_16 hb17.size
  have R0_17 := Lib.hid (R0_16.out.chg hb17 (.inr (by have := SZ6.out; have := SZ5.out; have := SZ4.out; have := SZ3.out; have := SZ2.out; have := SZ1.out; omega)))
  have R3_17 := Lib.hid (R3_16.out.chg hb17 (.inr (by have := SZ6.out; have := SZ5.out; have := SZ4.out; have := SZ3.out; have := SZ2.out; have := SZ1.out; omega)))
  have V_17 := Lib.hid (V_16.out.chg hb17 (.inr (by have := SZ6.out; omega)))
  have X3_17 := Lib.hid (X3_16.out.chg hb17 (.inl (by have := SZ8.out; omega)))
  have G_17 := Lib.hid (G_16.out.chg hb17 (.inl (by have := SZ9.out; have := SZ8.out; omega)))
  have X0_17 := Lib.hid (hrow)
  clear qa00_16 qa01_16 za0_16 qbV0_16 qbV1_16 qbV2_16 zbV_16 qx00_16 qx01_16 zx0_16 qbG0_16 qbG1_16 qbG2_16 zbG_16 R0_16 R3_16 V_16 X0_16 X3_16 G_16
  clear hrow
  go_wp2_with fail
  refine (markIntS (1 + e0.length * 3) _ _ _ _ _ _ X3_17.out (by omega) (by omega)).mono ?_
  rintro e w18 ⟨rfl, hrow, hb18⟩
  have H18 := bel_chg H17 hb18 (by have := SZ8.out; have := SZ7.out; have := SZ6.out; have := SZ5.out; have := SZ4.out; have := SZ3.out; have := SZ2.out; have := SZ1.out; omega)
  have SZ18 := Lib.hid hb18.size
  have qa00_18 := (hb18.cell (p := ⟨w0.heap.size, 0, none⟩) za0_17 (.inl (by have := ZBa0.out; have := SZ8.out; have := SZ7.out; have := SZ6.out; have := SZ5.out; have := SZ4.out; have := SZ3.out; have := SZ2.out; simp only; omega))).trans qa00_17
  have qa01_18 := (hb18.cell (p := ⟨w0.heap.size, 1, none⟩) za0_17 (.inl (by have := ZBa0.out; have := SZ8.out; have := SZ7.out; have := SZ6.out; have := SZ5.out; have := SZ4.out; have := SZ3.out; have := SZ2.out; simp only; omega))).trans qa01_17
  have za0_18 := Nat.lt_of_lt_of_le za0_17 hb18.size
  have qbV0_18 := (hb18.cell (p := ⟨w5.heap.size, 0, none⟩) zbV_17 (.inl (by have := ZBbV.out; have := SZ8.out; have := SZ7.out; simp only; omega))).trans qbV0_17
  have qbV1_18 := (hb18.cell (p := ⟨w5.heap.size, 1, none⟩) zbV_17 (.inl (by have := ZBbV.out; have := SZ8.out; have := SZ7.out; simp only; omega))).trans qbV1_17
  have qbV2_18 := (hb18.cell (p := ⟨w5.heap.size, 2, none⟩) zbV_17 (.inl (by have := ZBbV.out; have := SZ8.out; have := SZ7.out; simp only; omega))).trans qbV2_17
  have zbV_18 := Nat.lt_of_lt_of_le zbV_17 hb18.size
  have qx00_18 := (hb18.cell (p := ⟨w7.heap.size, 0, none⟩) zx0_17 (.inl (by have := ZBx0.out; simp only; omega))).trans qx00_17
  have qx01_18 := (hb18.cell (p := ⟨w7.heap.size, 1, none⟩) zx0_17 (.inl (by have := ZBx0.out; simp only; omega))).trans qx01_17
  have zx0_18 := Nat.lt_of_lt_of_le zx0_17 hb18.size
  have qbG0_18 := (hb18.cell (p := ⟨w10.heap.size, 0, none⟩) zbG_17 (.inr (by have := SZ10.out; simp only; omega))).trans qbG0_17
  have qbG1_18 := (hb18.cell (p := ⟨w10.heap.size, 1, none⟩) zbG_17 (.inr (by have := SZ10.out; simp only; omega))).trans qbG1_17
  have qbG2_18 := (hb18.cell (p := ⟨w10.heap.size, 2, none⟩) zbG_17 (.inr (by have := SZ10.out; simp only; omega))).trans qbG2_17
  have zbG_18 := Nat.lt_of_lt_of_le zbG_17 hb18.size
  have R0_18 := Lib.hid (R0_17.out.chg hb18 (.inr (by have := SZ8.out; have := SZ7.out; have := SZ6.out; have := SZ5.out; have := SZ4.out; have := SZ3.out; have := SZ2.out; have := SZ1.out; omega)))
  have R3_18 := Lib.hid (R3_17.out.chg hb18 (.inr (by have := SZ8.out; have := SZ7.out; have := SZ6.out; have := SZ5.out; have := SZ4.out; have := SZ3.out; have := SZ2.out; have := SZ1.out; omega)))
  have V_18 := Lib.hid (V_17.out.chg hb18 (.inr (by have := SZ8.out; have := SZ7.out; have := SZ6.out; omega)))
  have X0_18 := Lib.hid (X0_17.out.chg hb18 (.inr (by have := SZ8.out; omega)))
  have G_18 := Lib.hid (G_17.out.chg hb18 (.inl (by omega)))
  have X3_18 := Lib.hid (hrow)
  clear qa00_17 qa01_17 za0_17 qbV0_17 qbV1_17 qbV2_17 zbV_17 qx00_17 qx01_17 zx0_17 qbG0_17 qbG1_17 qbG2_17 zbG_17 R0_17 R3_17 V_17 X3_17 G_17 X0_17
  clear hrow
  have hk1 : decide ((((1 + e0.length * 3) + i3.length : Nat) : Int) < 0) = false := decide_eq_false (by omega)
  go_wp2_with fail
  refine (eqView VM VA ls _ _ _ G_18.out.rowI V_18.out.rowI (by omega)).mono ?_
  rintro e w19 ⟨rfl, hb19⟩
  have H19 := bel_trans H18 hb19
  have SZ19 := Lib.hid hb19.size
  have qa00_19 := (hb19.cell (p := ⟨w0.heap.size, 0, none⟩) za0_18).trans qa00_18
  have qa01_19 := (hb19.cell (p := ⟨w0.heap.size, 1, none⟩) za0_18).trans qa01_18
  have za0_19 := Nat.lt_of_lt_of_le za0_18 hb19.size
  have qbV0_19 := (hb19.cell (p := ⟨w5.heap.size, 0, none⟩) zbV_18).trans qbV0_18
  have qbV1_19 := (hb19.cell (p := ⟨w5.heap.size, 1, none⟩) zbV_18).trans qbV1_18
  have qbV2_19 := (hb19.cell (p := ⟨w5.heap.size, 2, none⟩) zbV_18).trans qbV2_18
  have zbV_19 := Nat.lt_of_lt_of_le zbV_18 hb19.size
  have qx00_19 := (hb19.cell (p := ⟨w7.heap.size, 0, none⟩) zx0_18).trans qx00_18
  have qx01_19 := (hb19.cell (p := ⟨w7.heap.size, 1, none⟩) zx0_18).trans qx01_18
  have zx0_19 := Nat.lt_of_lt_of_le zx0_18 hb19.size
  have qbG0_19 := (hb19.cell (p := ⟨w10.heap.size, 0, none⟩) zbG_18).trans qbG0_18
  have qbG1_19 := (hb19.cell (p := ⟨w10.heap.size, 1, none⟩) zbG_18).trans qbG1_18
  have qbG2_19 := (hb19.cell (p := ⟨w10.heap.size, 2, none⟩) zbG_18).trans qbG2_18
  have zbG_19 := Nat.lt_of_lt_of_le zbG_18 hb19.size
  have R0_19 := Lib.hid (R0_18.out.keep hb19)
  have R3_19 := Lib.hid (R3_18.out.keep hb19)
  have V_19 := Lib.hid (V_18.out.keep hb19)
  have X0_19 := Lib.hid (X0_18.out.keep hb19)
  have X3_19 := Lib.hid (X3_18.out.keep hb19)
  have G_19 := Lib.hid (G_18.out.keep hb19)
  clear qa00_18 qa01_18 za0_18 qbV0_18 qbV1_18 qbV2_18 zbV_18 qx00_18 qx01_18 zx0_18 qbG0_18 qbG1_18 qbG2_18 zbG_18 R0_18 R3_18 V_18 X0_18 G_18 X3_18
  go_wp2_with fail
  refine (markView 1 VM VA _ _ _ _ _ _ G_19.out (by omega) (by omega) (by have := SZ19.out; have := SZ18.out; have := SZ17.out; have := SZ16.out; have := SZ15.out; have := SZ14.out; have := SZ12.out; have := SZ11.out; omega)).mono ?_
  rintro e w20 ⟨rfl, hrow, hb20⟩
  have H20 := bel_chg H19 hb20 (by have := SZ9.out; have := SZ8.out; have := SZ7.out; have := SZ6.out; have := SZ5.out; have := SZ4.out; have := SZ3.out; have := SZ2.out; have := SZ1.out; omega)
  have SZ20 := Lib.hid hb20.size
  have qa00_20 := (hb20.cell (p := ⟨w0.heap.size, 0, none⟩) za0_19 (.inl (by have := ZBa0.out; have := SZ9.out; have := SZ8.out; have := SZ7.out; have := SZ6.out; have := SZ5.out; have := SZ4.out; have := SZ3.out; have := SZ2.out; simp only; omega))).trans qa00_19
  have qa01_20 := (hb20.cell (p := ⟨w0.heap.size, 1, none⟩) za0_19 (.inl (by have := ZBa0.out; have := SZ9.out; have := SZ8.out; have := SZ7.out; have := SZ6.out; have := SZ5.out; have := SZ4.out; have := SZ3.out; have := SZ2.out; simp only; omega))).trans qa01_19
  have za0_20 := Nat.lt_of_lt_of_le za0_19 hb20.size
  have qbV0_20 := (hb20.cell (p := ⟨w5.heap.size, 0, none⟩) zbV_19 (.inl (by have := ZBbV.out; have := SZ9.out; have := SZ8.out; have := SZ7.out; simp only; omega))).trans qbV0_19
  have qbV1_20 := (hb20.cell (p := ⟨w5.heap.size, 1, none⟩) zbV_19 (.inl (by have := ZBbV.out; have := SZ9.out; have := SZ8.out; have := SZ7.out; simp only; omega))).trans qbV1_19
  have qbV2_20 := (hb20.cell (p := ⟨w5.heap.size, 2, none⟩) zbV_19 (.inl (by have := ZBbV.out; have := SZ9.out; have := SZ8.out; have := SZ7.out; simp only; omega))).trans qbV2_19
  have zbV_20 := Nat.lt_of_lt_of_le zbV_19 hb20.size
  have qx00_20 := (hb20.cell (p := ⟨w7.heap.size, 0, none⟩) zx0_19 (.inl (by have := ZBx0.out; have := SZ9.out; simp only; omega))).trans qx00_19
  have qx01_20 := (hb20.cell (p := ⟨w7.heap.size, 1, none⟩) zx0_19 (.inl (by have := ZBx0.out; have := SZ9.out; simp only; omega))).trans qx01_19
  have zx0_20 := Nat.lt_of_lt_of_le zx0_19 hb20.size
  have qbG0_20 := (hb20.cell (p := ⟨w10.heap.size, 0, none⟩) zbG_19 (.inr (by simp only; omega))).trans qbG0_19
  have qbG1_20 := (hb20.cell (p := ⟨w10.heap.size, 1, none⟩) zbG_19 (.inr (by simp only; omega))).trans qbG1_19
  have qbG2_20 := (hb20.cell (p := ⟨w10.heap.size, 2, none⟩) zbG_19 (.inr (by simp only; omega))).trans qbG2_19
  have zbG_20 := Nat.lt_of_lt_of_le zbG_19 hb20.size
  have R0_20 := Lib.hid (R0_19.out.chg hb20 (.inr (by have := SZ9.out; have := SZ8.out; have := SZ7.out; have := SZ6.out; have := SZ5.out; have := SZ4.out; have := SZ3.out; have := SZ2.out; have := SZ1.out; omega)))
  have R3_20 := Lib.hid (R3_19.out.chg hb20 (.inr (by have := SZ9.out; have := SZ8.out; have := SZ7.out; have := SZ6.out; have := SZ5.out; have := SZ4.out; have := SZ3.out; have := SZ2.out; have := SZ1.out; omega)))
  have V_20 := Lib.hid (V_19.out.chg hb20 (.inr (by have := SZ9.out; have := SZ8.out; have := SZ7.out; have := SZ6.out; omega)))
  have X0_20 := Lib.hid (X0_19.out.chg hb20 (.inr (by have := SZ9.out; have := SZ8.out; omega)))
  have X3_20 := Lib.hid (X3_19.out.chg hb20 (.inr (by omega)))
  have G_20 := Lib.hid (hrow)
  clear qa00_19 qa01_19 za0_19 qbV0_19 qbV1_19 qbV2_19 zbV_19 qx00_19 qx01_19 zx0_19 qbG0_19 qbG1_19 qbG2_19 zbG_19 R0_19 R3_19 V_19 X0_19 X3_19 G_19
  clear hrow
  have hk2 : decide (((1 + ls.length : Nat) : Int) < 0) = false := decide_eq_false (by omega)
  go_wp2_with fail
  refine (heldView 1 VM VA _ _ _ _ _ true G_20.out (by omega) (by omega) (by have := SZ20.out; have := SZ19.out; have := SZ18.out; have := SZ17.out; have := SZ16.out; have := SZ15.out; have := SZ14.out; have := SZ12.out; have := SZ11.out; omega)).mono ?_
  rintro e w21 ⟨rfl, hb21⟩
  have H21 := bel_trans H20 hb21
  have SZ21 := Lib.hid hb21.size
  have qa00_21 := (hb21.cell (p := ⟨w0.heap.size, 0, none⟩) za0_20).trans qa00_20
  have qa01_21 := (hb21.cell (p := ⟨w0.heap.size, 1, none⟩) za0_20).trans qa01_20
  have za0_21 := Nat.lt_of_lt_of_le za0_20 hb21.size
  have qbV0_21 := (hb21.cell (p := ⟨w5.heap.size, 0, none⟩) zbV_20).trans qbV0_20
  have qbV1_21 := (hb21.cell (p := ⟨w5.heap.size, 1, none⟩) zbV_20).trans qbV1_20
  have qbV2_21 := (hb21.cell (p := ⟨w5.heap.size, 2, none⟩) zbV_20).trans qbV2_20
  have zbV_21 := Nat.lt_of_lt_of_le zbV_20 hb21.size
  have qx00_21 := (hb21.cell (p := ⟨w7.heap.size, 0, none⟩) zx0_20).trans qx00_20
  have qx01_21 := (hb21.cell (p := ⟨w7.heap.size, 1, none⟩) zx0_20).trans qx01_20
  have zx0_21 := Nat.lt_of_lt_of_le zx0_20 hb21.size
  have qbG0_21 := (hb21.cell (p := ⟨w10.heap.size, 0, none⟩) zbG_20).trans qbG0_20
  have qbG1_21 := (hb21.cell (p := ⟨w10.heap.size, 1, none⟩) zbG_20).trans qbG1_20
  have qbG2_21 := (hb21.cell (p := ⟨w10.heap.size, 2, none⟩) zbG_20).trans qbG2_20
  have zbG_21 := Nat.lt_of_lt_of_le zbG_20 hb21.size
  have R0_21 := Lib.hid (R0_20.out.keep hb21)
  have R3_21 := Lib.hid (R3_20.out.keep hb21)
  have V_21 := Lib.hid (V_20.out.keep hb21)
  have X0_21 := Lib.hid (X0_20.out.keep hb21)
  have X3_21 := Lib.hid (X3_20.out.keep hb21)
  have G_21 := Lib.hid (G_20.out.keep hb21)
  clear qa00_20 qa01_20 za0_20 qbV0_20 qbV1_20 qbV2_20 zbV_20 qx00_20 qx01_20 zx0_20 qbG0_20 qbG1_20 qbG2_20 zbG_20 R0_20 R3_20 V_20 X0_20 X3_20 G_20
  go_wp2_with fail
  refine (toGraph n0 e0 _ _ R0_21.out.edges hb0g).mono ?_
  rintro e w22 ⟨sAK0, rfl, hnew, hb22⟩
  have H22 := bel_trans H21 hb22
  have SZ22 := Lib.hid hb22.size
  have qa00_22 := (hb22.cell (p := ⟨w0.heap.size, 0, none⟩) za0_21).trans qa00_21
  have qa01_22 := (hb22.cell (p := ⟨w0.heap.size, 1, none⟩) za0_21).trans qa01_21
  have za0_22 := Nat.lt_of_lt_of_le za0_21 hb22.size
  have qbV0_22 := (hb22.cell (p := ⟨w5.heap.size, 0, none⟩) zbV_21).trans qbV0_21
  have qbV1_22 := (hb22.cell (p := ⟨w5.heap.size, 1, none⟩) zbV_21).trans qbV1_21
  have qbV2_22 := (hb22.cell (p := ⟨w5.heap.size, 2, none⟩) zbV_21).trans qbV2_21
  have zbV_22 := Nat.lt_of_lt_of_le zbV_21 hb22.size
  have qx00_22 := (hb22.cell (p := ⟨w7.heap.size, 0, none⟩) zx0_21).trans qx00_21
  have qx01_22 := (hb22.cell (p := ⟨w7.heap.size, 1, none⟩) zx0_21).trans qx01_21
  have zx0_22 := Nat.lt_of_lt_of_le zx0_21 hb22.size
  have qbG0_22 := (hb22.cell (p := ⟨w10.heap.size, 0, none⟩) zbG_21).trans qbG0_21
  have qbG1_22 := (hb22.cell (p := ⟨w10.heap.size, 1, none⟩) zbG_21).trans qbG1_21
  have qbG2_22 := (hb22.cell (p := ⟨w10.heap.size, 2, none⟩) zbG_21).trans qbG2_21
  have zbG_22 := Nat.lt_of_lt_of_le zbG_21 hb22.size
  have R0_22 := Lib.hid (R0_21.out.keep hb22)
  have R3_22 := Lib.hid (R3_21.out.keep hb22)
  have V_22 := Lib.hid (V_21.out.keep hb22)
  have X0_22 := Lib.hid (X0_21.out.keep hb22)
  have X3_22 := Lib.hid (X3_21.out.keep hb22)
  have G_22 := Lib.hid (G_21.out.keep hb22)
  have OKAK0 := Lib.hid hnew.ok
  have AK0_22 := Lib.hid (hnew.inR)
  clear qa00_21 qa01_21 za0_21 qbV0_21 qbV1_21 qbV2_21 zbV_21 qx00_21 qx01_21 zx0_21 qbG0_21 qbG1_21 qbG2_21 zbG_21 R0_21 R3_21 V_21 X0_21 X3_21 G_21
  clear hnew
  go_wp2_with fail
  refine (toIntSN i3 _ _ R3_22.out.rowI hb3g).mono ?_
  rintro e w23 ⟨sAK3, rfl, hnew, hb23⟩
  have H23 := bel_trans H22 hb23
  have SZ23 := Lib.hid hb23.size
  have qa00_23 := (hb23.cell (p := ⟨w0.heap.size, 0, none⟩) za0_22).trans qa00_22
  have qa01_23 := (hb23.cell (p := ⟨w0.heap.size, 1, none⟩) za0_22).trans qa01_22
  have za0_23 := Nat.lt_of_lt_of_le za0_22 hb23.size
  have qbV0_23 := (hb23.cell (p := ⟨w5.heap.size, 0, none⟩) zbV_22).trans qbV0_22
  have qbV1_23 := (hb23.cell (p := ⟨w5.heap.size, 1, none⟩) zbV_22).trans qbV1_22
  have qbV2_23 := (hb23.cell (p := ⟨w5.heap.size, 2, none⟩) zbV_22).trans qbV2_22
  have zbV_23 := Nat.lt_of_lt_of_le zbV_22 hb23.size
  have qx00_23 := (hb23.cell (p := ⟨w7.heap.size, 0, none⟩) zx0_22).trans qx00_22
  have qx01_23 := (hb23.cell (p := ⟨w7.heap.size, 1, none⟩) zx0_22).trans qx01_22
  have zx0_23 := Nat.lt_of_lt_of_le zx0_22 hb23.size
  have qbG0_23 := (hb23.cell (p := ⟨w10.heap.size, 0, none⟩) zbG_22).trans qbG0_22
  have qbG1_23 := (hb23.cell (p := ⟨w10.heap.size, 1, none⟩) zbG_22).trans qbG1_22
  have qbG2_23 := (hb23.cell (p := ⟨w10.heap.size, 2, none⟩) zbG_22).trans qbG2_22
  have zbG_23 := Nat.lt_of_lt_of_le zbG_22 hb23.size
  have R0_23 := Lib.hid (R0_22.out.keep hb23)
  have R3_23 := Lib.hid (R3_22.out.keep hb23)
  have V_23 := Lib.hid (V_22.out.keep hb23)
  have X0_23 := Lib.hid (X0_22.out.keep hb23)
  have X3_23 := Lib.hid (X3_22.out.keep hb23)
  have G_23 := Lib.hid (G_22.out.keep hb23)
  have AK0_23 := Lib.hid (AK0_22.out.keep hb23)
  have OKAK3 := Lib.hid hnew.ok
  have AK3_23 := Lib.hid (hnew.inR)
  clear qa00_22 qa01_22 za0_22 qbV0_22 qbV1_22 qbV2_22 zbV_22 qx00_22 qx01_22 zx0_22 qbG0_22 qbG1_22 qbG2_22 zbG_22 R0_22 R3_22 V_22 X0_22 X3_22 G_22 AK0_22
  clear hnew
  go_wp2_with fail
  refine (HIM.out _ _ _ AK0_23.out.edges AK3_23.out.rowI OKAK3.out).mono ?_
  rintro e w24 ⟨v, rfl, hown, hokv, hb24⟩
  have H24 := bel_trans H23 hb24
  have SZ24 := Lib.hid hb24.size
  have qa00_24 := (hb24.cell (p := ⟨w0.heap.size, 0, none⟩) za0_23).trans qa00_23
  have qa01_24 := (hb24.cell (p := ⟨w0.heap.size, 1, none⟩) za0_23).trans qa01_23
  have za0_24 := Nat.lt_of_lt_of_le za0_23 hb24.size
  have qbV0_24 := (hb24.cell (p := ⟨w5.heap.size, 0, none⟩) zbV_23).trans qbV0_23
  have qbV1_24 := (hb24.cell (p := ⟨w5.heap.size, 1, none⟩) zbV_23).trans qbV1_23
  have qbV2_24 := (hb24.cell (p := ⟨w5.heap.size, 2, none⟩) zbV_23).trans qbV2_23
  have zbV_24 := Nat.lt_of_lt_of_le zbV_23 hb24.size
  have qx00_24 := (hb24.cell (p := ⟨w7.heap.size, 0, none⟩) zx0_23).trans qx00_23
  have qx01_24 := (hb24.cell (p := ⟨w7.heap.size, 1, none⟩) zx0_23).trans qx01_23
  have zx0_24 := Nat.lt_of_lt_of_le zx0_23 hb24.size
  have qbG0_24 := (hb24.cell (p := ⟨w10.heap.size, 0, none⟩) zbG_23).trans qbG0_23
  have qbG1_24 := (hb24.cell (p := ⟨w10.heap.size, 1, none⟩) zbG_23).trans qbG1_23
  have qbG2_24 := (hb24.cell (p := ⟨w10.heap.size, 2, none⟩) zbG_23).trans qbG2_23
  have zbG_24 := Nat.lt_of_lt_of_le zbG_23 hb24.size
  have R0_24 := Lib.hid (R0_23.out.keep hb24)
  have R3_24 := Lib.hid (R3_23.out.keep hb24)
  have V_24 := Lib.hid (V_23.out.keep hb24)
  have X0_24 := Lib.hid (X0_23.out.keep hb24)
  have X3_24 := Lib.hid (X3_23.out.keep hb24)
  have G_24 := Lib.hid (G_23.out.keep hb24)
  have AK0_24 := Lib.hid (AK0_23.out.keep hb24)
  have AK3_24 := Lib.hid (AK3_23.out.keep hb24)
  obtain ⟨vaK, vcK, rfl, hvz⟩ := id hown
  clear hvz
  have K_24 := Lib.hid (hown)
  clear qa00_23 qa01_23 za0_23 qbV0_23 qbV1_23 qbV2_23 zbV_23 qx00_23 qx01_23 zx0_23 qbG0_23 qbG1_23 qbG2_23 zbG_23 R0_23 R3_23 V_23 X0_23 X3_23 G_23 AK0_23 AK3_23
  clear hown hokv
  go_wp2_with fail
  have hb25 : Below w24.heap.size w24 (w24.alloc (.cells #[.int .i64 VM, .int .i64 VA, .slice vaK ls.length vcK] 40)) := (Below.refl _ _).alloc (by simp <;> omega) _
  have H25 := bel_trans H24 hb25
  have SZ25 := Lib.hid hb25.size
  have qa00_25 := (hb25.cell (p := ⟨w0.heap.size, 0, none⟩) za0_24).trans qa00_24
  have qa01_25 := (hb25.cell (p := ⟨w0.heap.size, 1, none⟩) za0_24).trans qa01_24
  have za0_25 := Nat.lt_of_lt_of_le za0_24 hb25.size
  have qbV0_25 := (hb25.cell (p := ⟨w5.heap.size, 0, none⟩) zbV_24).trans qbV0_24
  have qbV1_25 := (hb25.cell (p := ⟨w5.heap.size, 1, none⟩) zbV_24).trans qbV1_24
  have qbV2_25 := (hb25.cell (p := ⟨w5.heap.size, 2, none⟩) zbV_24).trans qbV2_24
  have zbV_25 := Nat.lt_of_lt_of_le zbV_24 hb25.size
  have qx00_25 := (hb25.cell (p := ⟨w7.heap.size, 0, none⟩) zx0_24).trans qx00_24
  have qx01_25 := (hb25.cell (p := ⟨w7.heap.size, 1, none⟩) zx0_24).trans qx01_24
  have zx0_25 := Nat.lt_of_lt_of_le zx0_24 hb25.size
  have qbG0_25 := (hb25.cell (p := ⟨w10.heap.size, 0, none⟩) zbG_24).trans qbG0_24
  have qbG1_25 := (hb25.cell (p := ⟨w10.heap.size, 1, none⟩) zbG_24).trans qbG1_24
  have qbG2_25 := (hb25.cell (p := ⟨w10.heap.size, 2, none⟩) zbG_24).trans qbG2_24
  have zbG_25 := Nat.lt_of_lt_of_le zbG_24 hb25.size
  have R0_25 := Lib.hid (R0_24.out.keep hb25)
  have R3_25 := Lib.hid (R3_24.out.keep hb25)
  have V_25 := Lib.hid (V_24.out.keep hb25)
  have X0_25 := Lib.hid (X0_24.out.keep hb25)
  have X3_25 := Lib.hid (X3_24.out.keep hb25)
  have G_25 := Lib.hid (G_24.out.keep hb25)
  have AK0_25 := Lib.hid (AK0_24.out.keep hb25)
  have AK3_25 := Lib.hid (AK3_24.out.keep hb25)
  have K_25 := Lib.hid (K_24.out.keep hb25)
  have qbK0_25 : (w24.alloc (.cells #[.int .i64 VM, .int .i64 VA, .slice vaK ls.length vcK] 40)).cell? ⟨w24.heap.size, 0, none⟩ = some (.int .i64 VM) := by go_simp
  have qbK1_25 : (w24.alloc (.cells #[.int .i64 VM, .int .i64 VA, .slice vaK ls.length vcK] 40)).cell? ⟨w24.heap.size, 1, none⟩ = some (.int .i64 VA) := by go_simp
  have qbK2_25 : (w24.alloc (.cells #[.int .i64 VM, .int .i64 VA, .slice vaK ls.length vcK] 40)).cell? ⟨w24.heap.size, 2, none⟩ = some (.slice vaK ls.length vcK) := by go_simp
  have zbK_25 : w24.heap.size < (w24.alloc (.cells #[.int .i64 VM, .int .i64 VA, .slice vaK ls.length vcK] 40)).heap.size := by simp <;> omega
  generalize (w24.alloc (.cells #[.int .i64 VM, .int .i64 VA, .slice vaK ls.length vcK] 40)) = w25 at hb25 H25 SZ25 AK0_25 AK3_25 G_25 K_25 R0_25 R3_25 V_25 X0_25 X3_25 qa00_25 qa01_25 qbG0_25 qbG1_25 qbG2_25 qbK0_25 qbK1_25 qbK2_25 qbV0_25 qbV1_25 qbV2_25 qx00_25 qx01_25 za0_25 zbG_25 zbK_25 zbV_25 zx0_25 ⊢
  have ZBbK := Lib.hid zbK_25
  clear qa00_24 qa01_24 za0_24 qbV0_24 qbV1_24 qbV2_24 zbV_24 qx00_24 qx01_24 zx0_24 qbG0_24 qbG1_24 qbG2_24 zbG_24 R0_24 R3_24 V_24 X0_24 X3_24 G_24 AK0_24 AK3_24 K_24
  clear AK0_25
  clear AK3_25
  refine (eqView VM VA ls _ _ _ K_25.out.rowI V_25.out.rowI (by omega)).mono ?_
  rintro e w26 ⟨rfl, hb26⟩
  have H26 := bel_trans H25 hb26
  have SZ26 := Lib.hid hb26.size
  have qa00_26 := (hb26.cell (p := ⟨w0.heap.size, 0, none⟩) za0_25).trans qa00_25
  have qa01_26 := (hb26.cell (p := ⟨w0.heap.size, 1, none⟩) za0_25).trans qa01_25
  have za0_26 := Nat.lt_of_lt_of_le za0_25 hb26.size
  have qbV0_26 := (hb26.cell (p := ⟨w5.heap.size, 0, none⟩) zbV_25).trans qbV0_25
  have qbV1_26 := (hb26.cell (p := ⟨w5.heap.size, 1, none⟩) zbV_25).trans qbV1_25
  have qbV2_26 := (hb26.cell (p := ⟨w5.heap.size, 2, none⟩) zbV_25).trans qbV2_25
  have zbV_26 := Nat.lt_of_lt_of_le zbV_25 hb26.size
  have qx00_26 := (hb26.cell (p := ⟨w7.heap.size, 0, none⟩) zx0_25).trans qx00_25
  have qx01_26 := (hb26.cell (p := ⟨w7.heap.size, 1, none⟩) zx0_25).trans qx01_25
  have zx0_26 := Nat.lt_of_lt_of_le zx0_25 hb26.size
  have qbG0_26 := (hb26.cell (p := ⟨w10.heap.size, 0, none⟩) zbG_25).trans qbG0_25
  have qbG1_26 := (hb26.cell (p := ⟨w10.heap.size, 1, none⟩) zbG_25).trans qbG1_25
  have qbG2_26 := (hb26.cell (p := ⟨w10.heap.size, 2, none⟩) zbG_25).trans qbG2_25
  have zbG_26 := Nat.lt_of_lt_of_le zbG_25 hb26.size
  have qbK0_26 := (hb26.cell (p := ⟨w24.heap.size, 0, none⟩) zbK_25).trans qbK0_25
  have qbK1_26 := (hb26.cell (p := ⟨w24.heap.size, 1, none⟩) zbK_25).trans qbK1_25
  have qbK2_26 := (hb26.cell (p := ⟨w24.heap.size, 2, none⟩) zbK_25).trans qbK2_25
  have zbK_26 := Nat.lt_of_lt_of_le zbK_25 hb26.size
  have R0_26 := Lib.hid (R0_25.out.keep hb26)
  have R3_26 := Lib.hid (R3_25.out.keep hb26)
  have V_26 := Lib.hid (V_25.out.keep hb26)
  have X0_26 := Lib.hid (X0_25.out.keep hb26)
  have X3_26 := Lib.hid (X3_25.out.keep hb26)
  have G_26 := Lib.hid (G_25.out.keep hb26)
  have K_26 := Lib.hid (K_25.out.keep hb26)
  clear qa00_25 qa01_25 za0_25 qbV0_25 qbV1_25 qbV2_25 zbV_25 qx00_25 qx01_25 zx0_25 qbG0_25 qbG1_25 qbG2_25 zbG_25 R0_25 R3_25 V_25 X0_25 X3_25 G_25 K_25 qbK0_25 qbK1_25 qbK2_25 zbK_25
  go_wp2_with fail
  refine (heldView 1 VM VA _ _ _ _ _ true G_26.out (by omega) (by omega) (by have := SZ26.out; have := SZ25.out; have := SZ24.out; have := SZ23.out; have := SZ22.out; have := SZ21.out; have := SZ20.out; have := SZ19.out; have := SZ18.out; have := SZ17.out; have := SZ16.out; have := SZ15.out; have := SZ14.out; have := SZ12.out; have := SZ11.out; omega)).mono ?_
  rintro e w27 ⟨rfl, hb27⟩
  have H27 := bel_trans H26 hb27
  have SZ27 := Lib.hid hb27.size
  have qa00_27 := (hb27.cell (p := ⟨w0.heap.size, 0, none⟩) za0_26).trans qa00_26
  have qa01_27 := (hb27.cell (p := ⟨w0.heap.size, 1, none⟩) za0_26).trans qa01_26
  have za0_27 := Nat.lt_of_lt_of_le za0_26 hb27.size
  have qbV0_27 := (hb27.cell (p := ⟨w5.heap.size, 0, none⟩) zbV_26).trans qbV0_26
  have qbV1_27 := (hb27.cell (p := ⟨w5.heap.size, 1, none⟩) zbV_26).trans qbV1_26
  have qbV2_27 := (hb27.cell (p := ⟨w5.heap.size, 2, none⟩) zbV_26).trans qbV2_26
  have zbV_27 := Nat.lt_of_lt_of_le zbV_26 hb27.size
  have qx00_27 := (hb27.cell (p := ⟨w7.heap.size, 0, none⟩) zx0_26).trans qx00_26
  have qx01_27 := (hb27.cell (p := ⟨w7.heap.size, 1, none⟩) zx0_26).trans qx01_26
  have zx0_27 := Nat.lt_of_lt_of_le zx0_26 hb27.size
  have qbG0_27 := (hb27.cell (p := ⟨w10.heap.size, 0, none⟩) zbG_26).trans qbG0_26
  have qbG1_27 := (hb27.cell (p := ⟨w10.heap.size, 1, none⟩) zbG_26).trans qbG1_26
  have qbG2_27 := (hb27.cell (p := ⟨w10.heap.size, 2, none⟩) zbG_26).trans qbG2_26
  have zbG_27 := Nat.lt_of_lt_of_le zbG_26 hb27.size
  have qbK0_27 := (hb27.cell (p := ⟨w24.heap.size, 0, none⟩) zbK_26).trans qbK0_26
  have qbK1_27 := (hb27.cell (p := ⟨w24.heap.size, 1, none⟩) zbK_26).trans qbK1_26
  have qbK2_27 := (hb27.cell (p := ⟨w24.heap.size, 2, none⟩) zbK_26).trans qbK2_26
  have zbK_27 := Nat.lt_of_lt_of_le zbK_26 hb27.size
  have R0_27 := Lib.hid (R0_26.out.keep hb27)
  have R3_27 := Lib.hid (R3_26.out.keep hb27)
  have V_27 := Lib.hid (V_26.out.keep hb27)
  have X0_27 := Lib.hid (X0_26.out.keep hb27)
  have X3_27 := Lib.hid (X3_26.out.keep hb27)
  have G_27 := Lib.hid (G_26.out.keep hb27)
  have K_27 := Lib.hid (K_26.out.keep hb27)
  clear qa00_26 qa01_26 za0_26 qbV0_26 qbV1_26 qbV2_26 zbV_26 qx00_26 qx01_26 zx0_26 qbG0_26 qbG1_26 qbG2_26 zbG_26 qbK0_26 qbK1_26 qbK2_26 zbK_26 R0_26 R3_26 V_26 X0_26 X3_26 G_26 K_26
  go_wp2
  go_ret
  exact ⟨rfl, H27⟩

set_option maxRecDepth 100000 in
theorem lifted (os : Os) (started : os.Started) (H : Type) (enc : TypeId × Value → H) :
    ReturnsInHanded {} Try.checked os 4 .any (Rows.fnExactViewAvoidingSpec.pre6 enc Try.prog Try.f4 Rows.fnExactViewAvoidingRow.domain false) (Rows.fnExactViewAvoidingSpec.post enc Try.prog Try.f4 false true false false) := by
  refine returnsInHanded_of_change (C := Try.checked) own started (by kernel_rfl) Try.func4
    (ChangeSpec.witness6 (enc := enc) (C := Try.checked) false ⟨#[], #[.agg #[.int .i64 0, .slice none 0 0], .int .i64 0, .int .i64 0, .slice none 0 0], []⟩ 8 (by kernel_rfl) (by kernel_rfl) (by kernel_rfl) (by kernel_rfl)) ?_
  intro W base args ds gs before hval0 hW hcnd _
  have hval : ∀ (j : Nat) t v, Try.f4.params[j]? = some t → args[j]? = some v → Value.okWide Try.prog W .any base t v := hval0
  have hW' := hW
  obtain ⟨p, q, hA0, hV, rfl, hfz, hnd⟩ := hW
  have hA : DataW.TrodAll enc Try.prog W 0 (fun _ => true) true Try.f4.params.toList args.toList ds p := hA0
  rw [Try.params4] at hA hval
  obtain ⟨v0, vs0, d0, ds0, p0, q0, hargs, rfl, rfl, h0, rr0⟩ := trodAll_cons hA
  obtain ⟨v1, vs1, d1, ds1, p1, q1, rfl, rfl, rfl, h1, rr1⟩ := trodAll_cons rr0
  obtain ⟨v2, vs2, d2, ds2, p2, q2, rfl, rfl, rfl, h2, rr2⟩ := trodAll_cons rr1
  obtain ⟨v3, vs3, d3, ds3, p3, q3, rfl, rfl, rfl, h3, rr3⟩ := trodAll_cons rr2
  obtain ⟨rfl, rfl, rfl⟩ := trodAll_nil rr3
  obtain rfl : args = #[v0, v1, v2, v3] := by cases args; simp_all
  obtain ⟨rfl, rfl⟩ := trodVars_none hV
  have k0 := h0
  have lt0 : ∀ x ∈ p0, x.block < W.heap.size := by obtain ⟨m, hm⟩ := k0; exact DataW.trod_lt m _ _ _ hm
  have k1 := h1
  have lt1 : ∀ x ∈ p1, x.block < W.heap.size := by obtain ⟨m, hm⟩ := k1; exact DataW.trod_lt m _ _ _ hm
  have k2 := h2
  have lt2 : ∀ x ∈ p2, x.block < W.heap.size := by obtain ⟨m, hm⟩ := k2; exact DataW.trod_lt m _ _ _ hm
  have k3 := h3
  have lt3 : ∀ x ∈ p3, x.block < W.heap.size := by obtain ⟨m, hm⟩ := k3; exact DataW.trod_lt m _ _ _ hm
  obtain ⟨n0, s0, e0, rfl, r0, l0⟩ := openGraph (hval 0 24 v0 rfl rfl) h0
  obtain ⟨a1, rfl, rfl, rfl, w1⟩ := open_int Try.underlying3 (hval 1 3 v1 rfl rfl) h1
  obtain ⟨a2, rfl, rfl, rfl, w2⟩ := open_int Try.underlying3 (hval 2 3 v2 rfl rfl) h2
  obtain ⟨s3, i3, rfl, r3, l3⟩ := openInts (hval 3 25 v3 rfl rfl) h3
  clear hA0 hval0
  refine (walk W n0 s0 e0 r0 l0 a1 w1 a2 w2 _ i3 r3 l3).mono fun e W' ⟨he, bel⟩ => ?_
  subst he
  exact ⟨_, rfl, _, _, _, [], _, [], hW', trodAll_mk1 (shut_bool Try.underlying4 _), (trodAll_cons_mk (Below.trod laidOut (by kernel_rfl) (of_decide_eq_true (by kernel_rfl)) k0 bel lt0) (trodAll_cons_mk (Below.trod laidOut (by kernel_rfl) (of_decide_eq_true (by kernel_rfl)) k1 bel lt1) (trodAll_cons_mk (Below.trod laidOut (by kernel_rfl) (of_decide_eq_true (by kernel_rfl)) k2 bel lt2) (trodAll_cons_mk (Below.trod laidOut (by kernel_rfl) (of_decide_eq_true (by kernel_rfl)) k3 bel lt3) trodAll_mk0)))), rfl, bel.frame _, fun h => by cases h⟩

theorem over : Rows.fnExactViewAvoidingRow.holds Try.pinned (OpenSpec.ofChange Rows.fnExactViewAvoidingSpec) :=
  OpenClaim.holds_of_wide 4 Try.f4 rfl rfl rfl rfl rfl rfl rfl ⟨rfl, rfl, rfl, rfl, rfl⟩ rfl rfl rfl rfl rfl (by kernel_rfl) Try.func4 (by kernel_rfl)
    (of_decide_eq_true (by kernel_rfl)) (by unfold Func.isWrapper; first | (rw [if_pos (by decide +kernel)]; kernel_rfl) | (rw [if_neg (by decide +kernel)]; exact ⟨rfl, rfl⟩))
    (fun os started H enc _ => lifted os started H enc)

theorem proved : Rows.FnExactViewAvoidingSaid := over
end Go.Proofs.Ythkmelkhpkmhaaa.fnExactViewAvoiding
