/-
  Proved: at every graph and every two integers impl.KeepView answers as the model spec.KeepView does, writes into no argument and returns memory of its own (the law FnExactKeepView returns true for them all), with no further condition.
-/
import Derived.Test.YtdlnekfifogcaaaRows
import Derived.Test.YtdlnekfifogcaaaKeepV
import Derived.Test.YtdlnekfifogcaaaVEdges
import Derived.Test.YtdlnekfifogcaaaMarks
import Derived.Test.YtdlnekfifogcaaaOpenV
import Derived.WalkKit
import Derived.ProofKit
import Derived.OpenShut
import Derived.ShutString
import Derived.ChangeOld
import Derived.Below
namespace Go.Proofs.Ytdlnekfifogcaaa.fnExactKeepView
open Go.Proofs.Ytdlnekfifogcaaa Go.BigFrame
open Go.ChangeShapes Go.WideShapes Go.ChangeAt Go.RowKit
open Go.ChangeMaps (open_string shut_string)
set_option linter.unusedVariables false

theorem own : ownKnob Try.prog.godebug = none := by kernel_rfl
theorem laidOut : laidOutB Try.prog = true := by kernel_rfl

set_option maxRecDepth 100000 in
set_option maxHeartbeats 4000000 in
theorem walk (w : World) (n0 : Int) (s0 : Value) (e0 : List Ed) (r0 : RowE w s0 e0) (l0 : e0.length ≤ 9223372036854775807) (a1 : Int) (w1 : (Lit.int .i64 a1).wf = true) (a2 : Int) (w2 : (Lit.int .i64 a2).wf = true) :
    Calls Try.prog 9 #[.agg #[.int .i64 n0, s0], .int .i64 a1, .int .i64 a2] w fun e w' => e = .returned (.bool true) ∧ Below w.heap.size w w' := by
  obtain ⟨ad0, cp0, hs0, hz0⟩ := id r0
  subst hs0
  clear hz0
  have R0 := Lib.hid (InR.of_edges r0)
  clear r0
  have hsz0 := fun w => szGraph n0 e0.length cp0 ad0 (1048576) w (by omega) l0
  by_cases hbig0 : e0.length ≤ 1048576
  rotate_left
  · have eR : szR (1048576) e0.length = -1 := by rw [szR, if_neg hbig0]
    rw [eR] at hsz0
    have HZ0 := Lib.hid hsz0
    clear hsz0 eR
    obtain ⟨w0, hw0⟩ : ∃ w0, w0 = w := ⟨_, rfl⟩
    subst hw0
    have H0 := Below.refl w0.heap.size w0
    go_enter Try.func9, Try.ntmps9
    go_wp2_with fail
    have hb1 : Below w0.heap.size w0 (w0.alloc (.cells #[.int .i64 n0, .slice ad0 e0.length cp0] 24)) := (Below.refl _ _).alloc (by simp <;> omega) _
    have H1 := bel_trans H0 hb1
    have SZ1 := Lib.hid hb1.size
    have qa00_1 : (w0.alloc (.cells #[.int .i64 n0, .slice ad0 e0.length cp0] 24)).cell? ⟨w0.heap.size, 0, none⟩ = some (.int .i64 n0) := by go_simp
    have qa01_1 : (w0.alloc (.cells #[.int .i64 n0, .slice ad0 e0.length cp0] 24)).cell? ⟨w0.heap.size, 1, none⟩ = some (.slice ad0 e0.length cp0) := by go_simp
    have za0_1 : w0.heap.size < (w0.alloc (.cells #[.int .i64 n0, .slice ad0 e0.length cp0] 24)).heap.size := by simp <;> omega
    generalize (w0.alloc (.cells #[.int .i64 n0, .slice ad0 e0.length cp0] 24)) = w1 at hb1 H1 SZ1 qa00_1 qa01_1 za0_1 ⊢
    have ZBa0 := Lib.hid za0_1
    refine (HZ0.out _).mono ?_
    rintro e w2 ⟨rfl, hb2⟩
    have H2 := bel_trans H1 hb2
    have SZ2 := Lib.hid hb2.size
    have qa00_2 := (hb2.cell (p := ⟨w0.heap.size, 0, none⟩) za0_1).trans qa00_1
    have qa01_2 := (hb2.cell (p := ⟨w0.heap.size, 1, none⟩) za0_1).trans qa01_1
    have za0_2 := Nat.lt_of_lt_of_le za0_1 hb2.size
    clear qa00_1 qa01_1 za0_1
    go_wp2
    go_ret
    exact ⟨rfl, H2⟩
  have eR : szR (1048576) e0.length = ((1048576 - e0.length : Nat) : Int) := by rw [szR, if_pos hbig0]
  rw [eR] at hsz0
  have HZ0 := Lib.hid hsz0
  have hnn0 : decide (((1048576 - e0.length : Nat) : Int) < 0) = false := by simp <;> omega
  have hb0g : e0.length ≤ 1048576 := by omega
  have hb0i : e0.length ≤ 4194304 := by omega
  have hb0h : e0.length ≤ 281474976710656 := by omega
  clear hsz0 eR
  obtain ⟨w0, hw0⟩ : ∃ w0, w0 = w := ⟨_, rfl⟩
  subst hw0
  have H0 := Below.refl w0.heap.size w0
  have R0_0 := R0
  clear R0
  go_enter Try.func9, Try.ntmps9
  go_wp2_with fail
  have hb1 : Below w0.heap.size w0 (w0.alloc (.cells #[.int .i64 n0, .slice ad0 e0.length cp0] 24)) := (Below.refl _ _).alloc (by simp <;> omega) _
  have H1 := bel_trans H0 hb1
  have SZ1 := Lib.hid hb1.size
  have R0_1 := Lib.hid (R0_0.out.keep hb1)
  have qa00_1 : (w0.alloc (.cells #[.int .i64 n0, .slice ad0 e0.length cp0] 24)).cell? ⟨w0.heap.size, 0, none⟩ = some (.int .i64 n0) := by go_simp
  have qa01_1 : (w0.alloc (.cells #[.int .i64 n0, .slice ad0 e0.length cp0] 24)).cell? ⟨w0.heap.size, 1, none⟩ = some (.slice ad0 e0.length cp0) := by go_simp
  have za0_1 : w0.heap.size < (w0.alloc (.cells #[.int .i64 n0, .slice ad0 e0.length cp0] 24)).heap.size := by simp <;> omega
  generalize (w0.alloc (.cells #[.int .i64 n0, .slice ad0 e0.length cp0] 24)) = w1 at hb1 H1 SZ1 R0_1 qa00_1 qa01_1 za0_1 ⊢
  have ZBa0 := Lib.hid za0_1
  clear R0_0
  refine (HZ0.out _).mono ?_
  rintro e w2 ⟨rfl, hb2⟩
  have H2 := bel_trans H1 hb2
  have SZ2 := Lib.hid hb2.size
  have qa00_2 := (hb2.cell (p := ⟨w0.heap.size, 0, none⟩) za0_1).trans qa00_1
  have qa01_2 := (hb2.cell (p := ⟨w0.heap.size, 1, none⟩) za0_1).trans qa01_1
  have za0_2 := Nat.lt_of_lt_of_le za0_1 hb2.size
  have R0_2 := Lib.hid (R0_1.out.keep hb2)
  clear R0_1 qa00_1 qa01_1 za0_1
  have hln := kv_lens n0 a1 a2 e0 hb0g
  have hsp := fun g off cap w h q => sKeepView n0 a1 a2 e0 g off cap w h q hb0g
  have him := fun g off cap w h q => keepView n0 a1 a2 e0 g off cap w h q hb0g
  generalize (bfV (onOk n0 e0 a1 [a2]) (bfR a1 (-1) e0 n0.toNat a2.toNat)).vals = xv at hsp him hln
  generalize (bfV (onOk n0 e0 a1 [a2]) (bfR a1 (-1) e0 n0.toNat a2.toNat)).par = xp at hsp him hln
  generalize kvE (onOk n0 e0 a1 [a2]) e0 = xe at hsp him hln
  generalize kvI (onOk n0 e0 a1 [a2]) n0 = kn at hsp him
  generalize kvI (onOk n0 e0 a1 [a2]) a1 = km at hsp him
  generalize kvI (onOk n0 e0 a1 [a2]) a2 = ka at hsp him
  generalize onOk n0 e0 a1 [a2] = B at hsp him
  obtain ⟨hlo, hlp, hlv⟩ := hln
  have hlv4 : xp.length ≤ 4194304 := by omega
  have HSP := Lib.hid hsp
  have HIM := Lib.hid him
  clear hsp him
  go_wp2_with fail
  refine (toGraph n0 e0 _ _ R0_2.out.edges hb0g).mono ?_
  rintro e w3 ⟨_, rfl, hnew, hb3⟩
  have H3 := bel_trans H2 hb3
  have SZ3 := Lib.hid hb3.size
  have qa00_3 := (hb3.cell (p := ⟨w0.heap.size, 0, none⟩) za0_2).trans qa00_2
  have qa01_3 := (hb3.cell (p := ⟨w0.heap.size, 1, none⟩) za0_2).trans qa01_2
  have za0_3 := Nat.lt_of_lt_of_le za0_2 hb3.size
  have R0_3 := Lib.hid (R0_2.out.keep hb3)
  have hokAV := NewE.ok hnew
  obtain ⟨gAV, capAV, rfl, hgAV, hrowAV⟩ := hnew
  have AV_3 := Lib.hid (NewE.inR ⟨gAV, capAV, rfl, hgAV, hrowAV⟩)
  clear qa00_2 qa01_2 za0_2 R0_2
  clear hgAV hrowAV
  go_wp2_with fail
  refine (HSP.out _ _ _ _ AV_3.out.edges hokAV).mono ?_
  rintro e w4 ⟨pV, qV, rV, rfl, hown, hb4⟩
  have H4 := bel_trans H3 hb4
  have SZ4 := Lib.hid hb4.size
  have qa00_4 := (hb4.cell (p := ⟨w0.heap.size, 0, none⟩) za0_3).trans qa00_3
  have qa01_4 := (hb4.cell (p := ⟨w0.heap.size, 1, none⟩) za0_3).trans qa01_3
  have za0_4 := Nat.lt_of_lt_of_le za0_3 hb4.size
  have R0_4 := Lib.hid (R0_3.out.keep hb4)
  have AV_4 := Lib.hid (AV_3.out.keep hb4)
  obtain ⟨saV, caV, sbV, cbV, scV, ccV, rfl, rfl, rfl⟩ := id hown.slices
  have V_4 := Lib.hid (hown)
  clear qa00_3 qa01_3 za0_3 R0_3 AV_3
  clear hown
  go_wp2_with fail
  have hb5 : Below w4.heap.size w4 (w4.alloc (.cells #[.int .i64 kn, .slice saV xe.length caV, .int .i64 km, .int .i64 ka, .slice sbV xv.length cbV, .slice scV xp.length ccV] 60)) := (Below.refl _ _).alloc (by simp <;> omega) _
  have H5 := bel_trans H4 hb5
  have SZ5 := Lib.hid hb5.size
  have qa00_5 := (hb5.cell (p := ⟨w0.heap.size, 0, none⟩) za0_4).trans qa00_4
  have qa01_5 := (hb5.cell (p := ⟨w0.heap.size, 1, none⟩) za0_4).trans qa01_4
  have za0_5 := Nat.lt_of_lt_of_le za0_4 hb5.size
  have R0_5 := Lib.hid (R0_4.out.keep hb5)
  have AV_5 := Lib.hid (AV_4.out.keep hb5)
  have V_5 := Lib.hid (V_4.out.keep hb5)
  have qbV0_5 : (w4.alloc (.cells #[.int .i64 kn, .slice saV xe.length caV, .int .i64 km, .int .i64 ka, .slice sbV xv.length cbV, .slice scV xp.length ccV] 60)).cell? ⟨w4.heap.size, 0, none⟩ = some (.int .i64 kn) := by go_simp
  have qbV1_5 : (w4.alloc (.cells #[.int .i64 kn, .slice saV xe.length caV, .int .i64 km, .int .i64 ka, .slice sbV xv.length cbV, .slice scV xp.length ccV] 60)).cell? ⟨w4.heap.size, 1, none⟩ = some (.slice saV xe.length caV) := by go_simp
  have qbV2_5 : (w4.alloc (.cells #[.int .i64 kn, .slice saV xe.length caV, .int .i64 km, .int .i64 ka, .slice sbV xv.length cbV, .slice scV xp.length ccV] 60)).cell? ⟨w4.heap.size, 2, none⟩ = some (.int .i64 km) := by go_simp
  have qbV3_5 : (w4.alloc (.cells #[.int .i64 kn, .slice saV xe.length caV, .int .i64 km, .int .i64 ka, .slice sbV xv.length cbV, .slice scV xp.length ccV] 60)).cell? ⟨w4.heap.size, 3, none⟩ = some (.int .i64 ka) := by go_simp
  have qbV4_5 : (w4.alloc (.cells #[.int .i64 kn, .slice saV xe.length caV, .int .i64 km, .int .i64 ka, .slice sbV xv.length cbV, .slice scV xp.length ccV] 60)).cell? ⟨w4.heap.size, 4, none⟩ = some (.slice sbV xv.length cbV) := by go_simp
  have qbV5_5 : (w4.alloc (.cells #[.int .i64 kn, .slice saV xe.length caV, .int .i64 km, .int .i64 ka, .slice sbV xv.length cbV, .slice scV xp.length ccV] 60)).cell? ⟨w4.heap.size, 5, none⟩ = some (.slice scV xp.length ccV) := by go_simp
  have zbV_5 : w4.heap.size < (w4.alloc (.cells #[.int .i64 kn, .slice saV xe.length caV, .int .i64 km, .int .i64 ka, .slice sbV xv.length cbV, .slice scV xp.length ccV] 60)).heap.size := by simp <;> omega
  generalize (w4.alloc (.cells #[.int .i64 kn, .slice saV xe.length caV, .int .i64 km, .int .i64 ka, .slice sbV xv.length cbV, .slice scV xp.length ccV] 60)) = w5 at hb5 H5 SZ5 AV_5 R0_5 V_5 qa00_5 qa01_5 qbV0_5 qbV1_5 qbV2_5 qbV3_5 qbV4_5 qbV5_5 za0_5 zbV_5 ⊢
  have ZBbV := Lib.hid zbV_5
  clear qa00_4 qa01_4 za0_4 R0_4 AV_4 V_4
  clear AV_5
  refine (toGraph n0 e0 _ _ R0_5.out.edges hb0g).mono ?_
  rintro e w6 ⟨_, rfl, hnew, hb6⟩
  have H6 := bel_trans H5 hb6
  have SZ6 := Lib.hid hb6.size
  have qa00_6 := (hb6.cell (p := ⟨w0.heap.size, 0, none⟩) za0_5).trans qa00_5
  have qa01_6 := (hb6.cell (p := ⟨w0.heap.size, 1, none⟩) za0_5).trans qa01_5
  have za0_6 := Nat.lt_of_lt_of_le za0_5 hb6.size
  have qbV0_6 := (hb6.cell (p := ⟨w4.heap.size, 0, none⟩) zbV_5).trans qbV0_5
  have qbV1_6 := (hb6.cell (p := ⟨w4.heap.size, 1, none⟩) zbV_5).trans qbV1_5
  have qbV2_6 := (hb6.cell (p := ⟨w4.heap.size, 2, none⟩) zbV_5).trans qbV2_5
  have qbV3_6 := (hb6.cell (p := ⟨w4.heap.size, 3, none⟩) zbV_5).trans qbV3_5
  have qbV4_6 := (hb6.cell (p := ⟨w4.heap.size, 4, none⟩) zbV_5).trans qbV4_5
  have qbV5_6 := (hb6.cell (p := ⟨w4.heap.size, 5, none⟩) zbV_5).trans qbV5_5
  have zbV_6 := Nat.lt_of_lt_of_le zbV_5 hb6.size
  have R0_6 := Lib.hid (R0_5.out.keep hb6)
  have V_6 := Lib.hid (V_5.out.keep hb6)
  have hokX0 := NewE.ok hnew
  obtain ⟨gX0, capX0, rfl, hgX0, hrowX0⟩ := hnew
  have X0_6 := Lib.hid (NewE.inR ⟨gX0, capX0, rfl, hgX0, hrowX0⟩)
  clear qa00_5 qa01_5 za0_5 R0_5 V_5 qbV0_5 qbV1_5 qbV2_5 qbV3_5 qbV4_5 qbV5_5 zbV_5
  clear hgX0 hrowX0
  go_wp2_with fail
  have hb7 : Below w6.heap.size w6 (w6.alloc (.cells #[.int .i64 n0, .slice (some ⟨gX0, 0, none⟩) e0.length capX0] 31)) := (Below.refl _ _).alloc (by simp <;> omega) _
  have H7 := bel_trans H6 hb7
  have SZ7 := Lib.hid hb7.size
  have qa00_7 := (hb7.cell (p := ⟨w0.heap.size, 0, none⟩) za0_6).trans qa00_6
  have qa01_7 := (hb7.cell (p := ⟨w0.heap.size, 1, none⟩) za0_6).trans qa01_6
  have za0_7 := Nat.lt_of_lt_of_le za0_6 hb7.size
  have qbV0_7 := (hb7.cell (p := ⟨w4.heap.size, 0, none⟩) zbV_6).trans qbV0_6
  have qbV1_7 := (hb7.cell (p := ⟨w4.heap.size, 1, none⟩) zbV_6).trans qbV1_6
  have qbV2_7 := (hb7.cell (p := ⟨w4.heap.size, 2, none⟩) zbV_6).trans qbV2_6
  have qbV3_7 := (hb7.cell (p := ⟨w4.heap.size, 3, none⟩) zbV_6).trans qbV3_6
  have qbV4_7 := (hb7.cell (p := ⟨w4.heap.size, 4, none⟩) zbV_6).trans qbV4_6
  have qbV5_7 := (hb7.cell (p := ⟨w4.heap.size, 5, none⟩) zbV_6).trans qbV5_6
  have zbV_7 := Nat.lt_of_lt_of_le zbV_6 hb7.size
  have R0_7 := Lib.hid (R0_6.out.keep hb7)
  have V_7 := Lib.hid (V_6.out.keep hb7)
  have X0_7 := Lib.hid (X0_6.out.keep hb7)
  have qx00_7 : (w6.alloc (.cells #[.int .i64 n0, .slice (some ⟨gX0, 0, none⟩) e0.length capX0] 31)).cell? ⟨w6.heap.size, 0, none⟩ = some (.int .i64 n0) := by go_simp
  have qx01_7 : (w6.alloc (.cells #[.int .i64 n0, .slice (some ⟨gX0, 0, none⟩) e0.length capX0] 31)).cell? ⟨w6.heap.size, 1, none⟩ = some (.slice (some ⟨gX0, 0, none⟩) e0.length capX0) := by go_simp
  have zx0_7 : w6.heap.size < (w6.alloc (.cells #[.int .i64 n0, .slice (some ⟨gX0, 0, none⟩) e0.length capX0] 31)).heap.size := by simp <;> omega
  generalize (w6.alloc (.cells #[.int .i64 n0, .slice (some ⟨gX0, 0, none⟩) e0.length capX0] 31)) = w7 at hb7 H7 SZ7 R0_7 V_7 X0_7 qa00_7 qa01_7 qbV0_7 qbV1_7 qbV2_7 qbV3_7 qbV4_7 qbV5_7 qx00_7 qx01_7 za0_7 zbV_7 zx0_7 ⊢
  have ZBx0 := Lib.hid zx0_7
  clear qa00_6 qa01_6 za0_6 qbV0_6 qbV1_6 qbV2_6 qbV3_6 qbV4_6 qbV5_6 zbV_6 R0_6 V_6 X0_6
  refine (HIM.out _ _ _ _ X0_7.out.edges hokX0).mono ?_
  rintro e w8 ⟨pG, qG, rG, rfl, hown, hb8⟩
  have H8 := bel_trans H7 hb8
  have SZ8 := Lib.hid hb8.size
  have qa00_8 := (hb8.cell (p := ⟨w0.heap.size, 0, none⟩) za0_7).trans qa00_7
  have qa01_8 := (hb8.cell (p := ⟨w0.heap.size, 1, none⟩) za0_7).trans qa01_7
  have za0_8 := Nat.lt_of_lt_of_le za0_7 hb8.size
  have qbV0_8 := (hb8.cell (p := ⟨w4.heap.size, 0, none⟩) zbV_7).trans qbV0_7
  have qbV1_8 := (hb8.cell (p := ⟨w4.heap.size, 1, none⟩) zbV_7).trans qbV1_7
  have qbV2_8 := (hb8.cell (p := ⟨w4.heap.size, 2, none⟩) zbV_7).trans qbV2_7
  have qbV3_8 := (hb8.cell (p := ⟨w4.heap.size, 3, none⟩) zbV_7).trans qbV3_7
  have qbV4_8 := (hb8.cell (p := ⟨w4.heap.size, 4, none⟩) zbV_7).trans qbV4_7
  have qbV5_8 := (hb8.cell (p := ⟨w4.heap.size, 5, none⟩) zbV_7).trans qbV5_7
  have zbV_8 := Nat.lt_of_lt_of_le zbV_7 hb8.size
  have qx00_8 := (hb8.cell (p := ⟨w6.heap.size, 0, none⟩) zx0_7).trans qx00_7
  have qx01_8 := (hb8.cell (p := ⟨w6.heap.size, 1, none⟩) zx0_7).trans qx01_7
  have zx0_8 := Nat.lt_of_lt_of_le zx0_7 hb8.size
  have R0_8 := Lib.hid (R0_7.out.keep hb8)
  have V_8 := Lib.hid (V_7.out.keep hb8)
  have X0_8 := Lib.hid (X0_7.out.keep hb8)
  obtain ⟨saG, caG, sbG, cbG, scG, ccG, rfl, rfl, rfl⟩ := id hown.slices
  have G_8 := Lib.hid (hown)
  clear qa00_7 qa01_7 za0_7 qbV0_7 qbV1_7 qbV2_7 qbV3_7 qbV4_7 qbV5_7 zbV_7 R0_7 V_7 X0_7 qx00_7 qx01_7 zx0_7
  clear hown
  go_wp2_with fail
  have hb9 : Below w8.heap.size w8 (w8.alloc (.cells #[.int .i64 kn, .slice saG xe.length caG, .int .i64 km, .int .i64 ka, .slice sbG xv.length cbG, .slice scG xp.length ccG] 60)) := (Below.refl _ _).alloc (by simp <;> omega) _
  have H9 := bel_trans H8 hb9
  have SZ9 := Lib.hid hb9.size
  have qa00_9 := (hb9.cell (p := ⟨w0.heap.size, 0, none⟩) za0_8).trans qa00_8
  have qa01_9 := (hb9.cell (p := ⟨w0.heap.size, 1, none⟩) za0_8).trans qa01_8
  have za0_9 := Nat.lt_of_lt_of_le za0_8 hb9.size
  have qbV0_9 := (hb9.cell (p := ⟨w4.heap.size, 0, none⟩) zbV_8).trans qbV0_8
  have qbV1_9 := (hb9.cell (p := ⟨w4.heap.size, 1, none⟩) zbV_8).trans qbV1_8
  have qbV2_9 := (hb9.cell (p := ⟨w4.heap.size, 2, none⟩) zbV_8).trans qbV2_8
  have qbV3_9 := (hb9.cell (p := ⟨w4.heap.size, 3, none⟩) zbV_8).trans qbV3_8
  have qbV4_9 := (hb9.cell (p := ⟨w4.heap.size, 4, none⟩) zbV_8).trans qbV4_8
  have qbV5_9 := (hb9.cell (p := ⟨w4.heap.size, 5, none⟩) zbV_8).trans qbV5_8
  have zbV_9 := Nat.lt_of_lt_of_le zbV_8 hb9.size
  have qx00_9 := (hb9.cell (p := ⟨w6.heap.size, 0, none⟩) zx0_8).trans qx00_8
  have qx01_9 := (hb9.cell (p := ⟨w6.heap.size, 1, none⟩) zx0_8).trans qx01_8
  have zx0_9 := Nat.lt_of_lt_of_le zx0_8 hb9.size
  have R0_9 := Lib.hid (R0_8.out.keep hb9)
  have V_9 := Lib.hid (V_8.out.keep hb9)
  have X0_9 := Lib.hid (X0_8.out.keep hb9)
  have G_9 := Lib.hid (G_8.out.keep hb9)
  have qbG0_9 : (w8.alloc (.cells #[.int .i64 kn, .slice saG xe.length caG, .int .i64 km, .int .i64 ka, .slice sbG xv.length cbG, .slice scG xp.length ccG] 60)).cell? ⟨w8.heap.size, 0, none⟩ = some (.int .i64 kn) := by go_simp
  have qbG1_9 : (w8.alloc (.cells #[.int .i64 kn, .slice saG xe.length caG, .int .i64 km, .int .i64 ka, .slice sbG xv.length cbG, .slice scG xp.length ccG] 60)).cell? ⟨w8.heap.size, 1, none⟩ = some (.slice saG xe.length caG) := by go_simp
  have qbG2_9 : (w8.alloc (.cells #[.int .i64 kn, .slice saG xe.length caG, .int .i64 km, .int .i64 ka, .slice sbG xv.length cbG, .slice scG xp.length ccG] 60)).cell? ⟨w8.heap.size, 2, none⟩ = some (.int .i64 km) := by go_simp
  have qbG3_9 : (w8.alloc (.cells #[.int .i64 kn, .slice saG xe.length caG, .int .i64 km, .int .i64 ka, .slice sbG xv.length cbG, .slice scG xp.length ccG] 60)).cell? ⟨w8.heap.size, 3, none⟩ = some (.int .i64 ka) := by go_simp
  have qbG4_9 : (w8.alloc (.cells #[.int .i64 kn, .slice saG xe.length caG, .int .i64 km, .int .i64 ka, .slice sbG xv.length cbG, .slice scG xp.length ccG] 60)).cell? ⟨w8.heap.size, 4, none⟩ = some (.slice sbG xv.length cbG) := by go_simp
  have qbG5_9 : (w8.alloc (.cells #[.int .i64 kn, .slice saG xe.length caG, .int .i64 km, .int .i64 ka, .slice sbG xv.length cbG, .slice scG xp.length ccG] 60)).cell? ⟨w8.heap.size, 5, none⟩ = some (.slice scG xp.length ccG) := by go_simp
  have zbG_9 : w8.heap.size < (w8.alloc (.cells #[.int .i64 kn, .slice saG xe.length caG, .int .i64 km, .int .i64 ka, .slice sbG xv.length cbG, .slice scG xp.length ccG] 60)).heap.size := by simp <;> omega
  generalize (w8.alloc (.cells #[.int .i64 kn, .slice saG xe.length caG, .int .i64 km, .int .i64 ka, .slice sbG xv.length cbG, .slice scG xp.length ccG] 60)) = w9 at hb9 H9 SZ9 G_9 R0_9 V_9 X0_9 qa00_9 qa01_9 qbG0_9 qbG1_9 qbG2_9 qbG3_9 qbG4_9 qbG5_9 qbV0_9 qbV1_9 qbV2_9 qbV3_9 qbV4_9 qbV5_9 qx00_9 qx01_9 za0_9 zbG_9 zbV_9 zx0_9 ⊢
  have ZBbG := Lib.hid zbG_9
  clear qa00_8 qa01_8 za0_8 qbV0_8 qbV1_8 qbV2_8 qbV3_8 qbV4_8 qbV5_8 zbV_8 qx00_8 qx01_8 zx0_8 R0_8 V_8 X0_8 G_8
  refine (eqKept kn km ka xe xv xp _ _ _ _ _ _ _ G_9.out.rows.1 G_9.out.rows.2.1 G_9.out.rows.2.2 V_9.out.rows.1 V_9.out.rows.2.1 V_9.out.rows.2.2 hlo hlp hlv4).mono ?_
  rintro e w10 ⟨rfl, hb10⟩
  have H10 := bel_trans H9 hb10
  have SZ10 := Lib.hid hb10.size
  have qa00_10 := (hb10.cell (p := ⟨w0.heap.size, 0, none⟩) za0_9).trans qa00_9
  have qa01_10 := (hb10.cell (p := ⟨w0.heap.size, 1, none⟩) za0_9).trans qa01_9
  have za0_10 := Nat.lt_of_lt_of_le za0_9 hb10.size
  have qbV0_10 := (hb10.cell (p := ⟨w4.heap.size, 0, none⟩) zbV_9).trans qbV0_9
  have qbV1_10 := (hb10.cell (p := ⟨w4.heap.size, 1, none⟩) zbV_9).trans qbV1_9
  have qbV2_10 := (hb10.cell (p := ⟨w4.heap.size, 2, none⟩) zbV_9).trans qbV2_9
  have qbV3_10 := (hb10.cell (p := ⟨w4.heap.size, 3, none⟩) zbV_9).trans qbV3_9
  have qbV4_10 := (hb10.cell (p := ⟨w4.heap.size, 4, none⟩) zbV_9).trans qbV4_9
  have qbV5_10 := (hb10.cell (p := ⟨w4.heap.size, 5, none⟩) zbV_9).trans qbV5_9
  have zbV_10 := Nat.lt_of_lt_of_le zbV_9 hb10.size
  have qx00_10 := (hb10.cell (p := ⟨w6.heap.size, 0, none⟩) zx0_9).trans qx00_9
  have qx01_10 := (hb10.cell (p := ⟨w6.heap.size, 1, none⟩) zx0_9).trans qx01_9
  have zx0_10 := Nat.lt_of_lt_of_le zx0_9 hb10.size
  have qbG0_10 := (hb10.cell (p := ⟨w8.heap.size, 0, none⟩) zbG_9).trans qbG0_9
  have qbG1_10 := (hb10.cell (p := ⟨w8.heap.size, 1, none⟩) zbG_9).trans qbG1_9
  have qbG2_10 := (hb10.cell (p := ⟨w8.heap.size, 2, none⟩) zbG_9).trans qbG2_9
  have qbG3_10 := (hb10.cell (p := ⟨w8.heap.size, 3, none⟩) zbG_9).trans qbG3_9
  have qbG4_10 := (hb10.cell (p := ⟨w8.heap.size, 4, none⟩) zbG_9).trans qbG4_9
  have qbG5_10 := (hb10.cell (p := ⟨w8.heap.size, 5, none⟩) zbG_9).trans qbG5_9
  have zbG_10 := Nat.lt_of_lt_of_le zbG_9 hb10.size
  have R0_10 := Lib.hid (R0_9.out.keep hb10)
  have V_10 := Lib.hid (V_9.out.keep hb10)
  have X0_10 := Lib.hid (X0_9.out.keep hb10)
  have G_10 := Lib.hid (G_9.out.keep hb10)
  clear qa00_9 qa01_9 za0_9 qbV0_9 qbV1_9 qbV2_9 qbV3_9 qbV4_9 qbV5_9 zbV_9 qx00_9 qx01_9 zx0_9 R0_9 V_9 X0_9 G_9 qbG0_9 qbG1_9 qbG2_9 qbG3_9 qbG4_9 qbG5_9 zbG_9
  go_wp2_with fail
  have hold : ∀ w' : World, Below w10.heap.size w10 w' → (w'.cell? ⟨w6.heap.size, 0, none⟩ = some (.int .i64 n0) ∧ w'.cell? ⟨w6.heap.size, 1, none⟩ = some (.slice (some ⟨gX0, 0, none⟩) e0.length capX0) ∧ w'.cell? ⟨w0.heap.size, 0, none⟩ = some (.int .i64 n0) ∧ w'.cell? ⟨w0.heap.size, 1, none⟩ = some (.slice ad0 e0.length cp0)) := fun w' h => ⟨(h.cell (p := ⟨w6.heap.size, 0, none⟩) zx0_10).trans qx00_10, (h.cell (p := ⟨w6.heap.size, 1, none⟩) zx0_10).trans qx01_10, (h.cell (p := ⟨w0.heap.size, 0, none⟩) za0_10).trans qa00_10, (h.cell (p := ⟨w0.heap.size, 1, none⟩) za0_10).trans qa01_10⟩
  have HOLD := Lib.hid hold
  clear hold
  go_region_held3 (fun w' : World => w'.cell? ⟨w6.heap.size, 0, none⟩ = some (.int .i64 n0) ∧ w'.cell? ⟨w6.heap.size, 1, none⟩ = some (.slice (some ⟨gX0, 0, none⟩) e0.length capX0) ∧ w'.cell? ⟨w0.heap.size, 0, none⟩ = some (.int .i64 n0) ∧ w'.cell? ⟨w0.heap.size, 1, none⟩ = some (.slice ad0 e0.length cp0)) (first | exact HOLD.out _ ((Below.refl _ _).drew) | exact HOLD.out _ (bel_trans ((Below.refl _ _).drew) hb11) | exact HOLD.out _ (bel_trans (bel_trans ((Below.refl _ _).drew) hb11) hb12)) (first | (go_at_call 13; (with_reducible refine (toGraph n0 e0 _ _ (R0_10.out.keep ((Below.refl _ _).drew)).edges hb0g).mono ?_); rintro e w11 ⟨sB0, rfl, hnew0, hb11⟩) | (go_at_call 16; (with_reducible refine (eqGraph n0 e0 _ _ _ (X0_10.out.keep (bel_trans ((Below.refl _ _).drew) hb11)).edges hnew0.row hb0g).mono ?_); rintro e w12 ⟨rfl, hb12⟩))
  have hq : Below w10.heap.size w10 w12 := (bel_trans (bel_trans ((Below.refl _ _).drew) hb11) hb12)
  clear hb11 hb12 HOLD hnew0
  have hb12 := hq
  clear hq
  have H12 := bel_trans H10 hb12
  have SZ12 := Lib.hid hb12.size
  have qa00_12 := (hb12.cell (p := ⟨w0.heap.size, 0, none⟩) za0_10).trans qa00_10
  have qa01_12 := (hb12.cell (p := ⟨w0.heap.size, 1, none⟩) za0_10).trans qa01_10
  have za0_12 := Nat.lt_of_lt_of_le za0_10 hb12.size
  have qbV0_12 := (hb12.cell (p := ⟨w4.heap.size, 0, none⟩) zbV_10).trans qbV0_10
  have qbV1_12 := (hb12.cell (p := ⟨w4.heap.size, 1, none⟩) zbV_10).trans qbV1_10
  have qbV2_12 := (hb12.cell (p := ⟨w4.heap.size, 2, none⟩) zbV_10).trans qbV2_10
  have qbV3_12 := (hb12.cell (p := ⟨w4.heap.size, 3, none⟩) zbV_10).trans qbV3_10
  have qbV4_12 := (hb12.cell (p := ⟨w4.heap.size, 4, none⟩) zbV_10).trans qbV4_10
  have qbV5_12 := (hb12.cell (p := ⟨w4.heap.size, 5, none⟩) zbV_10).trans qbV5_10
  have zbV_12 := Nat.lt_of_lt_of_le zbV_10 hb12.size
  have qx00_12 := (hb12.cell (p := ⟨w6.heap.size, 0, none⟩) zx0_10).trans qx00_10
  have qx01_12 := (hb12.cell (p := ⟨w6.heap.size, 1, none⟩) zx0_10).trans qx01_10
  have zx0_12 := Nat.lt_of_lt_of_le zx0_10 hb12.size
  have qbG0_12 := (hb12.cell (p := ⟨w8.heap.size, 0, none⟩) zbG_10).trans qbG0_10
  have qbG1_12 := (hb12.cell (p := ⟨w8.heap.size, 1, none⟩) zbG_10).trans qbG1_10
  have qbG2_12 := (hb12.cell (p := ⟨w8.heap.size, 2, none⟩) zbG_10).trans qbG2_10
  have qbG3_12 := (hb12.cell (p := ⟨w8.heap.size, 3, none⟩) zbG_10).trans qbG3_10
  have qbG4_12 := (hb12.cell (p := ⟨w8.heap.size, 4, none⟩) zbG_10).trans qbG4_10
  have qbG5_12 := (hb12.cell (p := ⟨w8.heap.size, 5, none⟩) zbG_10).trans qbG5_10
  have zbG_12 := Nat.lt_of_lt_of_le zbG_10 hb12.size
  have R0_12 := Lib.hid (R0_10.out.keep hb12)
  have V_12 := Lib.hid (V_10.out.keep hb12)
  have X0_12 := Lib.hid (X0_10.out.keep hb12)
  have G_12 := Lib.hid (G_10.out.keep hb12)
  clear qa00_10 qa01_10 za0_10 qbV0_10 qbV1_10 qbV2_10 qbV3_10 qbV4_10 qbV5_10 zbV_10 qx00_10 qx01_10 zx0_10 qbG0_10 qbG1_10 qbG2_10 qbG3_10 qbG4_10 qbG5_10 zbG_10 R0_10 V_10 X0_10 G_10
  go_wp2_with fail
  refine (markGraph 1 n0 _ _ _ _ _ _ X0_12.out (by omega) (by omega) (by have := SZ12.out; have := SZ10.out; have := SZ9.out; have := SZ8.out; have := SZ7.out; omega)).mono ?_
  rintro e w13 ⟨rfl, hrow, hb13⟩
  have H13 := bel_chg H12 hb13 (by have := SZ5.out; have := SZ4.out; have := SZ3.out; have := SZ2.out; have := SZ1.out; omega)
  have SZ13 := Lib.hid hb13.size
  have qa00_13 := (hb13.cell (p := ⟨w0.heap.size, 0, none⟩) za0_12 (.inl (by have := ZBa0.out; have := SZ5.out; have := SZ4.out; have := SZ3.out; have := SZ2.out; simp only; omega))).trans qa00_12
  have qa01_13 := (hb13.cell (p := ⟨w0.heap.size, 1, none⟩) za0_12 (.inl (by have := ZBa0.out; have := SZ5.out; have := SZ4.out; have := SZ3.out; have := SZ2.out; simp only; omega))).trans qa01_12
  have za0_13 := Nat.lt_of_lt_of_le za0_12 hb13.size
  have qbV0_13 := (hb13.cell (p := ⟨w4.heap.size, 0, none⟩) zbV_12 (.inl (by have := ZBbV.out; simp only; omega))).trans qbV0_12
  have qbV1_13 := (hb13.cell (p := ⟨w4.heap.size, 1, none⟩) zbV_12 (.inl (by have := ZBbV.out; simp only; omega))).trans qbV1_12
  have qbV2_13 := (hb13.cell (p := ⟨w4.heap.size, 2, none⟩) zbV_12 (.inl (by have := ZBbV.out; simp only; omega))).trans qbV2_12
  have qbV3_13 := (hb13.cell (p := ⟨w4.heap.size, 3, none⟩) zbV_12 (.inl (by have := ZBbV.out; simp only; omega))).trans qbV3_12
  have qbV4_13 := (hb13.cell (p := ⟨w4.heap.size, 4, none⟩) zbV_12 (.inl (by have := ZBbV.out; simp only; omega))).trans qbV4_12
  have qbV5_13 := (hb13.cell (p := ⟨w4.heap.size, 5, none⟩) zbV_12 (.inl (by have := ZBbV.out; simp only; omega))).trans qbV5_12
  have zbV_13 := Nat.lt_of_lt_of_le zbV_12 hb13.size
  have qx00_13 := (hb13.cell (p := ⟨w6.heap.size, 0, none⟩) zx0_12 (.inr (by simp only; omega))).trans qx00_12
  have qx01_13 := (hb13.cell (p := ⟨w6.heap.size, 1, none⟩) zx0_12 (.inr (by simp only; omega))).trans qx01_12
  have zx0_13 := Nat.lt_of_lt_of_le zx0_12 hb13.size
  have qbG0_13 := (hb13.cell (p := ⟨w8.heap.size, 0, none⟩) zbG_12 (.inr (by have := SZ8.out; have := SZ7.out; simp only; omega))).trans qbG0_12
  have qbG1_13 := (hb13.cell (p := ⟨w8.heap.size, 1, none⟩) zbG_12 (.inr (by have := SZ8.out; have := SZ7.out; simp only; omega))).trans qbG1_12
  have qbG2_13 := (hb13.cell (p := ⟨w8.heap.size, 2, none⟩) zbG_12 (.inr (by have := SZ8.out; have := SZ7.out; simp only; omega))).trans qbG2_12
  have qbG3_13 := (hb13.cell (p := ⟨w8.heap.size, 3, none⟩) zbG_12 (.inr (by have := SZ8.out; have := SZ7.out; simp only; omega))).trans qbG3_12
  have qbG4_13 := (hb13.cell (p := ⟨w8.heap.size, 4, none⟩) zbG_12 (.inr (by have := SZ8.out; have := SZ7.out; simp only; omega))).trans qbG4_12
  have qbG5_13 := (hb13.cell (p := ⟨w8.heap.size, 5, none⟩) zbG_12 (.inr (by have := SZ8.out; have := SZ7.out; simp only; omega))).trans qbG5_12
  have zbG_13 := Nat.lt_of_lt_of_le zbG_12 hb13.size
  have R0_13 := Lib.hid (R0_12.out.chg hb13 (.inr (by have := SZ5.out; have := SZ4.out; have := SZ3.out; have := SZ2.out; have := SZ1.out; omega)))
  have V_13 := Lib.hid (V_12.out.chg hb13 (.inr (by have := SZ5.out; omega)))
  have G_13 := Lib.hid (G_12.out.chg hb13 (.inl (by have := SZ7.out; omega)))
  have X0_13 := Lib.hid (hrow)
  clear qa00_12 qa01_12 za0_12 qbV0_12 qbV1_12 qbV2_12 qbV3_12 qbV4_12 qbV5_12 zbV_12 qx00_12 qx01_12 zx0_12 qbG0_12 qbG1_12 qbG2_12 qbG3_12 qbG4_12 qbG5_12 zbG_12 R0_12 V_12 X0_12 G_12
  clear hrow
  have hk1 : decide (((1 + e0.length * 3 : Nat) : Int) < 0) = false := decide_eq_false (by omega)
  go_wp2_with fail
  refine (eqKept kn km ka xe xv xp _ _ _ _ _ _ _ G_13.out.rows.1 G_13.out.rows.2.1 G_13.out.rows.2.2 V_13.out.rows.1 V_13.out.rows.2.1 V_13.out.rows.2.2 hlo hlp hlv4).mono ?_
  rintro e w14 ⟨rfl, hb14⟩
  have H14 := bel_trans H13 hb14
  have SZ14 := Lib.hid hb14.size
  have qa00_14 := (hb14.cell (p := ⟨w0.heap.size, 0, none⟩) za0_13).trans qa00_13
  have qa01_14 := (hb14.cell (p := ⟨w0.heap.size, 1, none⟩) za0_13).trans qa01_13
  have za0_14 := Nat.lt_of_lt_of_le za0_13 hb14.size
  have qbV0_14 := (hb14.cell (p := ⟨w4.heap.size, 0, none⟩) zbV_13).trans qbV0_13
  have qbV1_14 := (hb14.cell (p := ⟨w4.heap.size, 1, none⟩) zbV_13).trans qbV1_13
  have qbV2_14 := (hb14.cell (p := ⟨w4.heap.size, 2, none⟩) zbV_13).trans qbV2_13
  have qbV3_14 := (hb14.cell (p := ⟨w4.heap.size, 3, none⟩) zbV_13).trans qbV3_13
  have qbV4_14 := (hb14.cell (p := ⟨w4.heap.size, 4, none⟩) zbV_13).trans qbV4_13
  have qbV5_14 := (hb14.cell (p := ⟨w4.heap.size, 5, none⟩) zbV_13).trans qbV5_13
  have zbV_14 := Nat.lt_of_lt_of_le zbV_13 hb14.size
  have qx00_14 := (hb14.cell (p := ⟨w6.heap.size, 0, none⟩) zx0_13).trans qx00_13
  have qx01_14 := (hb14.cell (p := ⟨w6.heap.size, 1, none⟩) zx0_13).trans qx01_13
  have zx0_14 := Nat.lt_of_lt_of_le zx0_13 hb14.size
  have qbG0_14 := (hb14.cell (p := ⟨w8.heap.size, 0, none⟩) zbG_13).trans qbG0_13
  have qbG1_14 := (hb14.cell (p := ⟨w8.heap.size, 1, none⟩) zbG_13).trans qbG1_13
  have qbG2_14 := (hb14.cell (p := ⟨w8.heap.size, 2, none⟩) zbG_13).trans qbG2_13
  have qbG3_14 := (hb14.cell (p := ⟨w8.heap.size, 3, none⟩) zbG_13).trans qbG3_13
  have qbG4_14 := (hb14.cell (p := ⟨w8.heap.size, 4, none⟩) zbG_13).trans qbG4_13
  have qbG5_14 := (hb14.cell (p := ⟨w8.heap.size, 5, none⟩) zbG_13).trans qbG5_13
  have zbG_14 := Nat.lt_of_lt_of_le zbG_13 hb14.size
  have R0_14 := Lib.hid (R0_13.out.keep hb14)
  have V_14 := Lib.hid (V_13.out.keep hb14)
  have X0_14 := Lib.hid (X0_13.out.keep hb14)
  have G_14 := Lib.hid (G_13.out.keep hb14)
  clear qa00_13 qa01_13 za0_13 qbV0_13 qbV1_13 qbV2_13 qbV3_13 qbV4_13 qbV5_13 zbV_13 qx00_13 qx01_13 zx0_13 qbG0_13 qbG1_13 qbG2_13 qbG3_13 qbG4_13 qbG5_13 zbG_13 R0_13 V_13 G_13 X0_13
  go_wp2_with fail
  refine (markKept 1 kn km ka _ _ _ _ _ _ _ _ _ _ _ _ G_14.out hlo hlp hlv (by omega) (by have := SZ14.out; have := SZ13.out; have := SZ12.out; have := SZ10.out; have := SZ9.out; omega)).mono ?_
  rintro e w15 ⟨rfl, hrow, hb15⟩
  have H15 := bel_chg H14 hb15 (by have := SZ7.out; have := SZ6.out; have := SZ5.out; have := SZ4.out; have := SZ3.out; have := SZ2.out; have := SZ1.out; omega)
  have SZ15 := Lib.hid hb15.size
  have qa00_15 := (hb15.cell (p := ⟨w0.heap.size, 0, none⟩) za0_14 (.inl (by have := ZBa0.out; have := SZ7.out; have := SZ6.out; have := SZ5.out; have := SZ4.out; have := SZ3.out; have := SZ2.out; simp only; omega))).trans qa00_14
  have qa01_15 := (hb15.cell (p := ⟨w0.heap.size, 1, none⟩) za0_14 (.inl (by have := ZBa0.out; have := SZ7.out; have := SZ6.out; have := SZ5.out; have := SZ4.out; have := SZ3.out; have := SZ2.out; simp only; omega))).trans qa01_14
  have za0_15 := Nat.lt_of_lt_of_le za0_14 hb15.size
  have qbV0_15 := (hb15.cell (p := ⟨w4.heap.size, 0, none⟩) zbV_14 (.inl (by have := ZBbV.out; have := SZ7.out; have := SZ6.out; simp only; omega))).trans qbV0_14
  have qbV1_15 := (hb15.cell (p := ⟨w4.heap.size, 1, none⟩) zbV_14 (.inl (by have := ZBbV.out; have := SZ7.out; have := SZ6.out; simp only; omega))).trans qbV1_14
  have qbV2_15 := (hb15.cell (p := ⟨w4.heap.size, 2, none⟩) zbV_14 (.inl (by have := ZBbV.out; have := SZ7.out; have := SZ6.out; simp only; omega))).trans qbV2_14
  have qbV3_15 := (hb15.cell (p := ⟨w4.heap.size, 3, none⟩) zbV_14 (.inl (by have := ZBbV.out; have := SZ7.out; have := SZ6.out; simp only; omega))).trans qbV3_14
  have qbV4_15 := (hb15.cell (p := ⟨w4.heap.size, 4, none⟩) zbV_14 (.inl (by have := ZBbV.out; have := SZ7.out; have := SZ6.out; simp only; omega))).trans qbV4_14
  have qbV5_15 := (hb15.cell (p := ⟨w4.heap.size, 5, none⟩) zbV_14 (.inl (by have := ZBbV.out; have := SZ7.out; have := SZ6.out; simp only; omega))).trans qbV5_14
  have zbV_15 := Nat.lt_of_lt_of_le zbV_14 hb15.size
  have qx00_15 := (hb15.cell (p := ⟨w6.heap.size, 0, none⟩) zx0_14 (.inl (by have := ZBx0.out; simp only; omega))).trans qx00_14
  have qx01_15 := (hb15.cell (p := ⟨w6.heap.size, 1, none⟩) zx0_14 (.inl (by have := ZBx0.out; simp only; omega))).trans qx01_14
  have zx0_15 := Nat.lt_of_lt_of_le zx0_14 hb15.size
  have qbG0_15 := (hb15.cell (p := ⟨w8.heap.size, 0, none⟩) zbG_14 (.inr (by simp only; omega))).trans qbG0_14
  have qbG1_15 := (hb15.cell (p := ⟨w8.heap.size, 1, none⟩) zbG_14 (.inr (by simp only; omega))).trans qbG1_14
  have qbG2_15 := (hb15.cell (p := ⟨w8.heap.size, 2, none⟩) zbG_14 (.inr (by simp only; omega))).trans qbG2_14
  have qbG3_15 := (hb15.cell (p := ⟨w8.heap.size, 3, none⟩) zbG_14 (.inr (by simp only; omega))).trans qbG3_14
  have qbG4_15 := (hb15.cell (p := ⟨w8.heap.size, 4, none⟩) zbG_14 (.inr (by simp only; omega))).trans qbG4_14
  have qbG5_15 := (hb15.cell (p := ⟨w8.heap.size, 5, none⟩) zbG_14 (.inr (by simp only; omega))).trans qbG5_14
  have zbG_15 := Nat.lt_of_lt_of_le zbG_14 hb15.size
  have R0_15 := Lib.hid (R0_14.out.chg hb15 (.inr (by have := SZ7.out; have := SZ6.out; have := SZ5.out; have := SZ4.out; have := SZ3.out; have := SZ2.out; have := SZ1.out; omega)))
  have V_15 := Lib.hid (V_14.out.chg hb15 (.inr (by have := SZ7.out; have := SZ6.out; have := SZ5.out; omega)))
  have X0_15 := Lib.hid (X0_14.out.chg hb15 (.inr (by have := SZ7.out; omega)))
  have G_15 := Lib.hid (hrow)
  clear qa00_14 qa01_14 za0_14 qbV0_14 qbV1_14 qbV2_14 qbV3_14 qbV4_14 qbV5_14 zbV_14 qx00_14 qx01_14 zx0_14 qbG0_14 qbG1_14 qbG2_14 qbG3_14 qbG4_14 qbG5_14 zbG_14 R0_14 V_14 X0_14 G_14
  clear hrow
  have hk2 : decide (((1 + (xe.length * 3 + xv.length + xp.length) : Nat) : Int) < 0) = false := decide_eq_false (by omega)
  go_wp2_with fail
  refine (heldKept 1 kn km ka true true _ _ _ _ _ _ _ _ _ G_15.out hlo hlp hlv (by omega) (by have := SZ15.out; have := SZ14.out; have := SZ13.out; have := SZ12.out; have := SZ10.out; have := SZ9.out; omega)).mono ?_
  rintro e w16 ⟨rfl, hb16⟩
  have H16 := bel_trans H15 hb16
  have SZ16 := Lib.hid hb16.size
  have qa00_16 := (hb16.cell (p := ⟨w0.heap.size, 0, none⟩) za0_15).trans qa00_15
  have qa01_16 := (hb16.cell (p := ⟨w0.heap.size, 1, none⟩) za0_15).trans qa01_15
  have za0_16 := Nat.lt_of_lt_of_le za0_15 hb16.size
  have qbV0_16 := (hb16.cell (p := ⟨w4.heap.size, 0, none⟩) zbV_15).trans qbV0_15
  have qbV1_16 := (hb16.cell (p := ⟨w4.heap.size, 1, none⟩) zbV_15).trans qbV1_15
  have qbV2_16 := (hb16.cell (p := ⟨w4.heap.size, 2, none⟩) zbV_15).trans qbV2_15
  have qbV3_16 := (hb16.cell (p := ⟨w4.heap.size, 3, none⟩) zbV_15).trans qbV3_15
  have qbV4_16 := (hb16.cell (p := ⟨w4.heap.size, 4, none⟩) zbV_15).trans qbV4_15
  have qbV5_16 := (hb16.cell (p := ⟨w4.heap.size, 5, none⟩) zbV_15).trans qbV5_15
  have zbV_16 := Nat.lt_of_lt_of_le zbV_15 hb16.size
  have qx00_16 := (hb16.cell (p := ⟨w6.heap.size, 0, none⟩) zx0_15).trans qx00_15
  have qx01_16 := (hb16.cell (p := ⟨w6.heap.size, 1, none⟩) zx0_15).trans qx01_15
  have zx0_16 := Nat.lt_of_lt_of_le zx0_15 hb16.size
  have qbG0_16 := (hb16.cell (p := ⟨w8.heap.size, 0, none⟩) zbG_15).trans qbG0_15
  have qbG1_16 := (hb16.cell (p := ⟨w8.heap.size, 1, none⟩) zbG_15).trans qbG1_15
  have qbG2_16 := (hb16.cell (p := ⟨w8.heap.size, 2, none⟩) zbG_15).trans qbG2_15
  have qbG3_16 := (hb16.cell (p := ⟨w8.heap.size, 3, none⟩) zbG_15).trans qbG3_15
  have qbG4_16 := (hb16.cell (p := ⟨w8.heap.size, 4, none⟩) zbG_15).trans qbG4_15
  have qbG5_16 := (hb16.cell (p := ⟨w8.heap.size, 5, none⟩) zbG_15).trans qbG5_15
  have zbG_16 := Nat.lt_of_lt_of_le zbG_15 hb16.size
  have R0_16 := Lib.hid (R0_15.out.keep hb16)
  have V_16 := Lib.hid (V_15.out.keep hb16)
  have X0_16 := Lib.hid (X0_15.out.keep hb16)
  have G_16 := Lib.hid (G_15.out.keep hb16)
  clear qa00_15 qa01_15 za0_15 qbV0_15 qbV1_15 qbV2_15 qbV3_15 qbV4_15 qbV5_15 zbV_15 qx00_15 qx01_15 zx0_15 qbG0_15 qbG1_15 qbG2_15 qbG3_15 qbG4_15 qbG5_15 zbG_15 R0_15 V_15 X0_15 G_15
  go_wp2_with fail
  refine (toGraph n0 e0 _ _ R0_16.out.edges hb0g).mono ?_
  rintro e w17 ⟨_, rfl, hnew, hb17⟩
  have H17 := bel_trans H16 hb17
  have SZ17 := Lib.hid hb17.size
  have qa00_17 := (hb17.cell (p := ⟨w0.heap.size, 0, none⟩) za0_16).trans qa00_16
  have qa01_17 := (hb17.cell (p := ⟨w0.heap.size, 1, none⟩) za0_16).trans qa01_16
  have za0_17 := Nat.lt_of_lt_of_le za0_16 hb17.size
  have qbV0_17 := (hb17.cell (p := ⟨w4.heap.size, 0, none⟩) zbV_16).trans qbV0_16
  have qbV1_17 := (hb17.cell (p := ⟨w4.heap.size, 1, none⟩) zbV_16).trans qbV1_16
  have qbV2_17 := (hb17.cell (p := ⟨w4.heap.size, 2, none⟩) zbV_16).trans qbV2_16
  have qbV3_17 := (hb17.cell (p := ⟨w4.heap.size, 3, none⟩) zbV_16).trans qbV3_16
  have qbV4_17 := (hb17.cell (p := ⟨w4.heap.size, 4, none⟩) zbV_16).trans qbV4_16
  have qbV5_17 := (hb17.cell (p := ⟨w4.heap.size, 5, none⟩) zbV_16).trans qbV5_16
  have zbV_17 := Nat.lt_of_lt_of_le zbV_16 hb17.size
  have qx00_17 := (hb17.cell (p := ⟨w6.heap.size, 0, none⟩) zx0_16).trans qx00_16
  have qx01_17 := (hb17.cell (p := ⟨w6.heap.size, 1, none⟩) zx0_16).trans qx01_16
  have zx0_17 := Nat.lt_of_lt_of_le zx0_16 hb17.size
  have qbG0_17 := (hb17.cell (p := ⟨w8.heap.size, 0, none⟩) zbG_16).trans qbG0_16
  have qbG1_17 := (hb17.cell (p := ⟨w8.heap.size, 1, none⟩) zbG_16).trans qbG1_16
  have qbG2_17 := (hb17.cell (p := ⟨w8.heap.size, 2, none⟩) zbG_16).trans qbG2_16
  have qbG3_17 := (hb17.cell (p := ⟨w8.heap.size, 3, none⟩) zbG_16).trans qbG3_16
  have qbG4_17 := (hb17.cell (p := ⟨w8.heap.size, 4, none⟩) zbG_16).trans qbG4_16
  have qbG5_17 := (hb17.cell (p := ⟨w8.heap.size, 5, none⟩) zbG_16).trans qbG5_16
  have zbG_17 := Nat.lt_of_lt_of_le zbG_16 hb17.size
  have R0_17 := Lib.hid (R0_16.out.keep hb17)
  have V_17 := Lib.hid (V_16.out.keep hb17)
  have X0_17 := Lib.hid (X0_16.out.keep hb17)
  have G_17 := Lib.hid (G_16.out.keep hb17)
  have hokAK := NewE.ok hnew
  obtain ⟨gAK, capAK, rfl, hgAK, hrowAK⟩ := hnew
  have AK_17 := Lib.hid (NewE.inR ⟨gAK, capAK, rfl, hgAK, hrowAK⟩)
  clear qa00_16 qa01_16 za0_16 qbV0_16 qbV1_16 qbV2_16 qbV3_16 qbV4_16 qbV5_16 zbV_16 qx00_16 qx01_16 zx0_16 qbG0_16 qbG1_16 qbG2_16 qbG3_16 qbG4_16 qbG5_16 zbG_16 R0_16 V_16 X0_16 G_16
  clear hgAK hrowAK
  go_wp2_with fail
  refine (HIM.out _ _ _ _ AK_17.out.edges hokAK).mono ?_
  rintro e w18 ⟨pK, qK, rK, rfl, hown, hb18⟩
  have H18 := bel_trans H17 hb18
  have SZ18 := Lib.hid hb18.size
  have qa00_18 := (hb18.cell (p := ⟨w0.heap.size, 0, none⟩) za0_17).trans qa00_17
  have qa01_18 := (hb18.cell (p := ⟨w0.heap.size, 1, none⟩) za0_17).trans qa01_17
  have za0_18 := Nat.lt_of_lt_of_le za0_17 hb18.size
  have qbV0_18 := (hb18.cell (p := ⟨w4.heap.size, 0, none⟩) zbV_17).trans qbV0_17
  have qbV1_18 := (hb18.cell (p := ⟨w4.heap.size, 1, none⟩) zbV_17).trans qbV1_17
  have qbV2_18 := (hb18.cell (p := ⟨w4.heap.size, 2, none⟩) zbV_17).trans qbV2_17
  have qbV3_18 := (hb18.cell (p := ⟨w4.heap.size, 3, none⟩) zbV_17).trans qbV3_17
  have qbV4_18 := (hb18.cell (p := ⟨w4.heap.size, 4, none⟩) zbV_17).trans qbV4_17
  have qbV5_18 := (hb18.cell (p := ⟨w4.heap.size, 5, none⟩) zbV_17).trans qbV5_17
  have zbV_18 := Nat.lt_of_lt_of_le zbV_17 hb18.size
  have qx00_18 := (hb18.cell (p := ⟨w6.heap.size, 0, none⟩) zx0_17).trans qx00_17
  have qx01_18 := (hb18.cell (p := ⟨w6.heap.size, 1, none⟩) zx0_17).trans qx01_17
  have zx0_18 := Nat.lt_of_lt_of_le zx0_17 hb18.size
  have qbG0_18 := (hb18.cell (p := ⟨w8.heap.size, 0, none⟩) zbG_17).trans qbG0_17
  have qbG1_18 := (hb18.cell (p := ⟨w8.heap.size, 1, none⟩) zbG_17).trans qbG1_17
  have qbG2_18 := (hb18.cell (p := ⟨w8.heap.size, 2, none⟩) zbG_17).trans qbG2_17
  have qbG3_18 := (hb18.cell (p := ⟨w8.heap.size, 3, none⟩) zbG_17).trans qbG3_17
  have qbG4_18 := (hb18.cell (p := ⟨w8.heap.size, 4, none⟩) zbG_17).trans qbG4_17
  have qbG5_18 := (hb18.cell (p := ⟨w8.heap.size, 5, none⟩) zbG_17).trans qbG5_17
  have zbG_18 := Nat.lt_of_lt_of_le zbG_17 hb18.size
  have R0_18 := Lib.hid (R0_17.out.keep hb18)
  have V_18 := Lib.hid (V_17.out.keep hb18)
  have X0_18 := Lib.hid (X0_17.out.keep hb18)
  have G_18 := Lib.hid (G_17.out.keep hb18)
  have AK_18 := Lib.hid (AK_17.out.keep hb18)
  obtain ⟨saK, caK, sbK, cbK, scK, ccK, rfl, rfl, rfl⟩ := id hown.slices
  have K_18 := Lib.hid (hown)
  clear qa00_17 qa01_17 za0_17 qbV0_17 qbV1_17 qbV2_17 qbV3_17 qbV4_17 qbV5_17 zbV_17 qx00_17 qx01_17 zx0_17 qbG0_17 qbG1_17 qbG2_17 qbG3_17 qbG4_17 qbG5_17 zbG_17 R0_17 V_17 X0_17 G_17 AK_17
  clear hown
  go_wp2_with fail
  have hb19 : Below w18.heap.size w18 (w18.alloc (.cells #[.int .i64 kn, .slice saK xe.length caK, .int .i64 km, .int .i64 ka, .slice sbK xv.length cbK, .slice scK xp.length ccK] 60)) := (Below.refl _ _).alloc (by simp <;> omega) _
  have H19 := bel_trans H18 hb19
  have SZ19 := Lib.hid hb19.size
  have qa00_19 := (hb19.cell (p := ⟨w0.heap.size, 0, none⟩) za0_18).trans qa00_18
  have qa01_19 := (hb19.cell (p := ⟨w0.heap.size, 1, none⟩) za0_18).trans qa01_18
  have za0_19 := Nat.lt_of_lt_of_le za0_18 hb19.size
  have qbV0_19 := (hb19.cell (p := ⟨w4.heap.size, 0, none⟩) zbV_18).trans qbV0_18
  have qbV1_19 := (hb19.cell (p := ⟨w4.heap.size, 1, none⟩) zbV_18).trans qbV1_18
  have qbV2_19 := (hb19.cell (p := ⟨w4.heap.size, 2, none⟩) zbV_18).trans qbV2_18
  have qbV3_19 := (hb19.cell (p := ⟨w4.heap.size, 3, none⟩) zbV_18).trans qbV3_18
  have qbV4_19 := (hb19.cell (p := ⟨w4.heap.size, 4, none⟩) zbV_18).trans qbV4_18
  have qbV5_19 := (hb19.cell (p := ⟨w4.heap.size, 5, none⟩) zbV_18).trans qbV5_18
  have zbV_19 := Nat.lt_of_lt_of_le zbV_18 hb19.size
  have qx00_19 := (hb19.cell (p := ⟨w6.heap.size, 0, none⟩) zx0_18).trans qx00_18
  have qx01_19 := (hb19.cell (p := ⟨w6.heap.size, 1, none⟩) zx0_18).trans qx01_18
  have zx0_19 := Nat.lt_of_lt_of_le zx0_18 hb19.size
  have qbG0_19 := (hb19.cell (p := ⟨w8.heap.size, 0, none⟩) zbG_18).trans qbG0_18
  have qbG1_19 := (hb19.cell (p := ⟨w8.heap.size, 1, none⟩) zbG_18).trans qbG1_18
  have qbG2_19 := (hb19.cell (p := ⟨w8.heap.size, 2, none⟩) zbG_18).trans qbG2_18
  have qbG3_19 := (hb19.cell (p := ⟨w8.heap.size, 3, none⟩) zbG_18).trans qbG3_18
  have qbG4_19 := (hb19.cell (p := ⟨w8.heap.size, 4, none⟩) zbG_18).trans qbG4_18
  have qbG5_19 := (hb19.cell (p := ⟨w8.heap.size, 5, none⟩) zbG_18).trans qbG5_18
  have zbG_19 := Nat.lt_of_lt_of_le zbG_18 hb19.size
  have R0_19 := Lib.hid (R0_18.out.keep hb19)
  have V_19 := Lib.hid (V_18.out.keep hb19)
  have X0_19 := Lib.hid (X0_18.out.keep hb19)
  have G_19 := Lib.hid (G_18.out.keep hb19)
  have AK_19 := Lib.hid (AK_18.out.keep hb19)
  have K_19 := Lib.hid (K_18.out.keep hb19)
  have qbK0_19 : (w18.alloc (.cells #[.int .i64 kn, .slice saK xe.length caK, .int .i64 km, .int .i64 ka, .slice sbK xv.length cbK, .slice scK xp.length ccK] 60)).cell? ⟨w18.heap.size, 0, none⟩ = some (.int .i64 kn) := by go_simp
  have qbK1_19 : (w18.alloc (.cells #[.int .i64 kn, .slice saK xe.length caK, .int .i64 km, .int .i64 ka, .slice sbK xv.length cbK, .slice scK xp.length ccK] 60)).cell? ⟨w18.heap.size, 1, none⟩ = some (.slice saK xe.length caK) := by go_simp
  have qbK2_19 : (w18.alloc (.cells #[.int .i64 kn, .slice saK xe.length caK, .int .i64 km, .int .i64 ka, .slice sbK xv.length cbK, .slice scK xp.length ccK] 60)).cell? ⟨w18.heap.size, 2, none⟩ = some (.int .i64 km) := by go_simp
  have qbK3_19 : (w18.alloc (.cells #[.int .i64 kn, .slice saK xe.length caK, .int .i64 km, .int .i64 ka, .slice sbK xv.length cbK, .slice scK xp.length ccK] 60)).cell? ⟨w18.heap.size, 3, none⟩ = some (.int .i64 ka) := by go_simp
  have qbK4_19 : (w18.alloc (.cells #[.int .i64 kn, .slice saK xe.length caK, .int .i64 km, .int .i64 ka, .slice sbK xv.length cbK, .slice scK xp.length ccK] 60)).cell? ⟨w18.heap.size, 4, none⟩ = some (.slice sbK xv.length cbK) := by go_simp
  have qbK5_19 : (w18.alloc (.cells #[.int .i64 kn, .slice saK xe.length caK, .int .i64 km, .int .i64 ka, .slice sbK xv.length cbK, .slice scK xp.length ccK] 60)).cell? ⟨w18.heap.size, 5, none⟩ = some (.slice scK xp.length ccK) := by go_simp
  have zbK_19 : w18.heap.size < (w18.alloc (.cells #[.int .i64 kn, .slice saK xe.length caK, .int .i64 km, .int .i64 ka, .slice sbK xv.length cbK, .slice scK xp.length ccK] 60)).heap.size := by simp <;> omega
  generalize (w18.alloc (.cells #[.int .i64 kn, .slice saK xe.length caK, .int .i64 km, .int .i64 ka, .slice sbK xv.length cbK, .slice scK xp.length ccK] 60)) = w19 at hb19 H19 SZ19 AK_19 G_19 K_19 R0_19 V_19 X0_19 qa00_19 qa01_19 qbG0_19 qbG1_19 qbG2_19 qbG3_19 qbG4_19 qbG5_19 qbK0_19 qbK1_19 qbK2_19 qbK3_19 qbK4_19 qbK5_19 qbV0_19 qbV1_19 qbV2_19 qbV3_19 qbV4_19 qbV5_19 qx00_19 qx01_19 za0_19 zbG_19 zbK_19 zbV_19 zx0_19 ⊢
  have ZBbK := Lib.hid zbK_19
  clear qa00_18 qa01_18 za0_18 qbV0_18 qbV1_18 qbV2_18 qbV3_18 qbV4_18 qbV5_18 zbV_18 qx00_18 qx01_18 zx0_18 qbG0_18 qbG1_18 qbG2_18 qbG3_18 qbG4_18 qbG5_18 zbG_18 R0_18 V_18 X0_18 G_18 AK_18 K_18
  clear AK_19
  refine (eqKept kn km ka xe xv xp _ _ _ _ _ _ _ K_19.out.rows.1 K_19.out.rows.2.1 K_19.out.rows.2.2 V_19.out.rows.1 V_19.out.rows.2.1 V_19.out.rows.2.2 hlo hlp hlv4).mono ?_
  rintro e w20 ⟨rfl, hb20⟩
  have H20 := bel_trans H19 hb20
  have SZ20 := Lib.hid hb20.size
  have qa00_20 := (hb20.cell (p := ⟨w0.heap.size, 0, none⟩) za0_19).trans qa00_19
  have qa01_20 := (hb20.cell (p := ⟨w0.heap.size, 1, none⟩) za0_19).trans qa01_19
  have za0_20 := Nat.lt_of_lt_of_le za0_19 hb20.size
  have qbV0_20 := (hb20.cell (p := ⟨w4.heap.size, 0, none⟩) zbV_19).trans qbV0_19
  have qbV1_20 := (hb20.cell (p := ⟨w4.heap.size, 1, none⟩) zbV_19).trans qbV1_19
  have qbV2_20 := (hb20.cell (p := ⟨w4.heap.size, 2, none⟩) zbV_19).trans qbV2_19
  have qbV3_20 := (hb20.cell (p := ⟨w4.heap.size, 3, none⟩) zbV_19).trans qbV3_19
  have qbV4_20 := (hb20.cell (p := ⟨w4.heap.size, 4, none⟩) zbV_19).trans qbV4_19
  have qbV5_20 := (hb20.cell (p := ⟨w4.heap.size, 5, none⟩) zbV_19).trans qbV5_19
  have zbV_20 := Nat.lt_of_lt_of_le zbV_19 hb20.size
  have qx00_20 := (hb20.cell (p := ⟨w6.heap.size, 0, none⟩) zx0_19).trans qx00_19
  have qx01_20 := (hb20.cell (p := ⟨w6.heap.size, 1, none⟩) zx0_19).trans qx01_19
  have zx0_20 := Nat.lt_of_lt_of_le zx0_19 hb20.size
  have qbG0_20 := (hb20.cell (p := ⟨w8.heap.size, 0, none⟩) zbG_19).trans qbG0_19
  have qbG1_20 := (hb20.cell (p := ⟨w8.heap.size, 1, none⟩) zbG_19).trans qbG1_19
  have qbG2_20 := (hb20.cell (p := ⟨w8.heap.size, 2, none⟩) zbG_19).trans qbG2_19
  have qbG3_20 := (hb20.cell (p := ⟨w8.heap.size, 3, none⟩) zbG_19).trans qbG3_19
  have qbG4_20 := (hb20.cell (p := ⟨w8.heap.size, 4, none⟩) zbG_19).trans qbG4_19
  have qbG5_20 := (hb20.cell (p := ⟨w8.heap.size, 5, none⟩) zbG_19).trans qbG5_19
  have zbG_20 := Nat.lt_of_lt_of_le zbG_19 hb20.size
  have qbK0_20 := (hb20.cell (p := ⟨w18.heap.size, 0, none⟩) zbK_19).trans qbK0_19
  have qbK1_20 := (hb20.cell (p := ⟨w18.heap.size, 1, none⟩) zbK_19).trans qbK1_19
  have qbK2_20 := (hb20.cell (p := ⟨w18.heap.size, 2, none⟩) zbK_19).trans qbK2_19
  have qbK3_20 := (hb20.cell (p := ⟨w18.heap.size, 3, none⟩) zbK_19).trans qbK3_19
  have qbK4_20 := (hb20.cell (p := ⟨w18.heap.size, 4, none⟩) zbK_19).trans qbK4_19
  have qbK5_20 := (hb20.cell (p := ⟨w18.heap.size, 5, none⟩) zbK_19).trans qbK5_19
  have zbK_20 := Nat.lt_of_lt_of_le zbK_19 hb20.size
  have R0_20 := Lib.hid (R0_19.out.keep hb20)
  have V_20 := Lib.hid (V_19.out.keep hb20)
  have X0_20 := Lib.hid (X0_19.out.keep hb20)
  have G_20 := Lib.hid (G_19.out.keep hb20)
  have K_20 := Lib.hid (K_19.out.keep hb20)
  clear qa00_19 qa01_19 za0_19 qbV0_19 qbV1_19 qbV2_19 qbV3_19 qbV4_19 qbV5_19 zbV_19 qx00_19 qx01_19 zx0_19 qbG0_19 qbG1_19 qbG2_19 qbG3_19 qbG4_19 qbG5_19 zbG_19 R0_19 V_19 X0_19 G_19 K_19 qbK0_19 qbK1_19 qbK2_19 qbK3_19 qbK4_19 qbK5_19 zbK_19
  go_wp2_with fail
  refine (heldKept 1 kn km ka true true _ _ _ _ _ _ _ _ _ G_20.out hlo hlp hlv (by omega) (by have := SZ20.out; have := SZ19.out; have := SZ18.out; have := SZ17.out; have := SZ16.out; have := SZ15.out; have := SZ14.out; have := SZ13.out; have := SZ12.out; have := SZ10.out; have := SZ9.out; omega)).mono ?_
  rintro e w21 ⟨rfl, hb21⟩
  have H21 := bel_trans H20 hb21
  have SZ21 := Lib.hid hb21.size
  have qa00_21 := (hb21.cell (p := ⟨w0.heap.size, 0, none⟩) za0_20).trans qa00_20
  have qa01_21 := (hb21.cell (p := ⟨w0.heap.size, 1, none⟩) za0_20).trans qa01_20
  have za0_21 := Nat.lt_of_lt_of_le za0_20 hb21.size
  have qbV0_21 := (hb21.cell (p := ⟨w4.heap.size, 0, none⟩) zbV_20).trans qbV0_20
  have qbV1_21 := (hb21.cell (p := ⟨w4.heap.size, 1, none⟩) zbV_20).trans qbV1_20
  have qbV2_21 := (hb21.cell (p := ⟨w4.heap.size, 2, none⟩) zbV_20).trans qbV2_20
  have qbV3_21 := (hb21.cell (p := ⟨w4.heap.size, 3, none⟩) zbV_20).trans qbV3_20
  have qbV4_21 := (hb21.cell (p := ⟨w4.heap.size, 4, none⟩) zbV_20).trans qbV4_20
  have qbV5_21 := (hb21.cell (p := ⟨w4.heap.size, 5, none⟩) zbV_20).trans qbV5_20
  have zbV_21 := Nat.lt_of_lt_of_le zbV_20 hb21.size
  have qx00_21 := (hb21.cell (p := ⟨w6.heap.size, 0, none⟩) zx0_20).trans qx00_20
  have qx01_21 := (hb21.cell (p := ⟨w6.heap.size, 1, none⟩) zx0_20).trans qx01_20
  have zx0_21 := Nat.lt_of_lt_of_le zx0_20 hb21.size
  have qbG0_21 := (hb21.cell (p := ⟨w8.heap.size, 0, none⟩) zbG_20).trans qbG0_20
  have qbG1_21 := (hb21.cell (p := ⟨w8.heap.size, 1, none⟩) zbG_20).trans qbG1_20
  have qbG2_21 := (hb21.cell (p := ⟨w8.heap.size, 2, none⟩) zbG_20).trans qbG2_20
  have qbG3_21 := (hb21.cell (p := ⟨w8.heap.size, 3, none⟩) zbG_20).trans qbG3_20
  have qbG4_21 := (hb21.cell (p := ⟨w8.heap.size, 4, none⟩) zbG_20).trans qbG4_20
  have qbG5_21 := (hb21.cell (p := ⟨w8.heap.size, 5, none⟩) zbG_20).trans qbG5_20
  have zbG_21 := Nat.lt_of_lt_of_le zbG_20 hb21.size
  have qbK0_21 := (hb21.cell (p := ⟨w18.heap.size, 0, none⟩) zbK_20).trans qbK0_20
  have qbK1_21 := (hb21.cell (p := ⟨w18.heap.size, 1, none⟩) zbK_20).trans qbK1_20
  have qbK2_21 := (hb21.cell (p := ⟨w18.heap.size, 2, none⟩) zbK_20).trans qbK2_20
  have qbK3_21 := (hb21.cell (p := ⟨w18.heap.size, 3, none⟩) zbK_20).trans qbK3_20
  have qbK4_21 := (hb21.cell (p := ⟨w18.heap.size, 4, none⟩) zbK_20).trans qbK4_20
  have qbK5_21 := (hb21.cell (p := ⟨w18.heap.size, 5, none⟩) zbK_20).trans qbK5_20
  have zbK_21 := Nat.lt_of_lt_of_le zbK_20 hb21.size
  have R0_21 := Lib.hid (R0_20.out.keep hb21)
  have V_21 := Lib.hid (V_20.out.keep hb21)
  have X0_21 := Lib.hid (X0_20.out.keep hb21)
  have G_21 := Lib.hid (G_20.out.keep hb21)
  have K_21 := Lib.hid (K_20.out.keep hb21)
  clear qa00_20 qa01_20 za0_20 qbV0_20 qbV1_20 qbV2_20 qbV3_20 qbV4_20 qbV5_20 zbV_20 qx00_20 qx01_20 zx0_20 qbG0_20 qbG1_20 qbG2_20 qbG3_20 qbG4_20 qbG5_20 zbG_20 qbK0_20 qbK1_20 qbK2_20 qbK3_20 qbK4_20 qbK5_20 zbK_20 R0_20 V_20 X0_20 G_20 K_20
  go_wp2
  go_ret
  exact ⟨rfl, H21⟩

set_option maxRecDepth 100000 in
theorem lifted (os : Os) (started : os.Started) (H : Type) (enc : TypeId × Value → H) :
    ReturnsInHanded {} Try.checked os 9 .any (Rows.fnExactKeepViewSpec.pre6 enc Try.prog Try.f9 Rows.fnExactKeepViewRow.domain false) (Rows.fnExactKeepViewSpec.post enc Try.prog Try.f9 false true false false) := by
  refine returnsInHanded_of_change (C := Try.checked) own started (by kernel_rfl) Try.func9
    (ChangeSpec.witness6 (enc := enc) (C := Try.checked) false ⟨#[], #[.agg #[.int .i64 0, .slice none 0 0], .int .i64 0, .int .i64 0], []⟩ 8 (by kernel_rfl) (by kernel_rfl) (by kernel_rfl) (by kernel_rfl)) ?_
  intro W base args ds gs before hval0 hW hcnd _
  have hval : ∀ (j : Nat) t v, Try.f9.params[j]? = some t → args[j]? = some v → Value.okWide Try.prog W .any base t v := hval0
  have hW' := hW
  obtain ⟨p, q, hA0, hV, rfl, hfz, hnd⟩ := hW
  have hA : DataW.TrodAll enc Try.prog W 0 (fun _ => true) true Try.f9.params.toList args.toList ds p := hA0
  rw [Try.params9] at hA hval
  obtain ⟨v0, vs0, d0, ds0, p0, q0, hargs, rfl, rfl, h0, rr0⟩ := trodAll_cons hA
  obtain ⟨v1, vs1, d1, ds1, p1, q1, rfl, rfl, rfl, h1, rr1⟩ := trodAll_cons rr0
  obtain ⟨v2, vs2, d2, ds2, p2, q2, rfl, rfl, rfl, h2, rr2⟩ := trodAll_cons rr1
  obtain ⟨rfl, rfl, rfl⟩ := trodAll_nil rr2
  obtain rfl : args = #[v0, v1, v2] := by cases args; simp_all
  obtain ⟨rfl, rfl⟩ := trodVars_none hV
  have k0 := h0
  have lt0 : ∀ x ∈ p0, x.block < W.heap.size := by obtain ⟨m, hm⟩ := k0; exact DataW.trod_lt m _ _ _ hm
  have k1 := h1
  have lt1 : ∀ x ∈ p1, x.block < W.heap.size := by obtain ⟨m, hm⟩ := k1; exact DataW.trod_lt m _ _ _ hm
  have k2 := h2
  have lt2 : ∀ x ∈ p2, x.block < W.heap.size := by obtain ⟨m, hm⟩ := k2; exact DataW.trod_lt m _ _ _ hm
  obtain ⟨n0, s0, e0, rfl, r0, l0⟩ := openGraph (hval 0 24 v0 rfl rfl) h0
  obtain ⟨a1, rfl, rfl, rfl, w1⟩ := open_int Try.underlying3 (hval 1 3 v1 rfl rfl) h1
  obtain ⟨a2, rfl, rfl, rfl, w2⟩ := open_int Try.underlying3 (hval 2 3 v2 rfl rfl) h2
  clear hA0 hval0
  refine (walk W n0 s0 e0 r0 l0 a1 w1 a2 w2).mono fun e W' ⟨he, bel⟩ => ?_
  subst he
  exact ⟨_, rfl, _, _, _, [], _, [], hW', trodAll_mk1 (shut_bool Try.underlying4 _), (trodAll_cons_mk (Below.trod laidOut (by kernel_rfl) (of_decide_eq_true (by kernel_rfl)) k0 bel lt0) (trodAll_cons_mk (Below.trod laidOut (by kernel_rfl) (of_decide_eq_true (by kernel_rfl)) k1 bel lt1) (trodAll_cons_mk (Below.trod laidOut (by kernel_rfl) (of_decide_eq_true (by kernel_rfl)) k2 bel lt2) trodAll_mk0))), rfl, bel.frame _, fun h => by cases h⟩

theorem over : Rows.fnExactKeepViewRow.holds Try.pinned (OpenSpec.ofChange Rows.fnExactKeepViewSpec) :=
  OpenClaim.holds_of_wide 9 Try.f9 rfl rfl rfl rfl rfl rfl rfl ⟨rfl, rfl, rfl, rfl, rfl⟩ rfl rfl rfl rfl rfl (by kernel_rfl) Try.func9 (by kernel_rfl)
    (of_decide_eq_true (by kernel_rfl)) (by unfold Func.isWrapper; first | (rw [if_pos (by decide +kernel)]; kernel_rfl) | (rw [if_neg (by decide +kernel)]; exact ⟨rfl, rfl⟩))
    (fun os started H enc _ => lifted os started H enc)

theorem proved : Rows.FnExactKeepViewSaid := over
end Go.Proofs.Ytdlnekfifogcaaa.fnExactKeepView
