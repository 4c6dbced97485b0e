/-
  Proved: at every value of the type Kept impl.TreeEdges answers as the model spec.TreeEdges does, writes into no argument and returns memory of its own (the law FnExactTreeEdges returns true for them all), with no further condition.
-/
import Derived.Test.YtdblcaeeepkebaaRows
import Derived.Test.YtdblcaeeepkebaaKeptU
import Derived.Test.YtdblcaeeepkebaaKeptL
import Derived.Test.YtdblcaeeepkebaaMarksI
import Derived.Test.YtdblcaeeepkebaaOpenV
import Derived.WalkKit
import Derived.ProofKit
import Derived.OpenShut
import Derived.ShutString
import Derived.ChangeOld
import Derived.Below
namespace Go.Proofs.Ytdblcaeeepkebaa.fnExactTreeEdges
open Go.Proofs.Ytdblcaeeepkebaa Go.BigFrame
open Go.ChangeShapes Go.WideShapes Go.ChangeAt Go.RowKit
open Go.ChangeMaps (open_string shut_string)
set_option linter.unusedVariables false

theorem own : ownKnob Try.prog.godebug = none := by kernel_rfl
theorem laidOut : laidOutB Try.prog = true := by kernel_rfl

set_option maxRecDepth 100000 in
set_option maxHeartbeats 4000000 in
theorem walk (w : World) (n0 m0 b0 : Int) (sa0 sb0 sc0 : Value) (xa0 : List Ed) (xb0 xc0 : List Int) (r0 : RowE w sa0 xa0 ∧ Row w sb0 xb0 ∧ Row w sc0 xc0) (la0 : xa0.length ≤ 9223372036854775807) (lb0 : xb0.length ≤ 9223372036854775807) (lc0 : xc0.length ≤ 9223372036854775807) :
    Calls Try.prog 11 #[.agg #[.int .i64 n0, sa0, .int .i64 m0, .int .i64 b0, sb0, sc0]] w fun e w' => e = .returned (.bool true) ∧ Below w.heap.size w w' := by
  have R0 := Lib.hid (RK.of_rows r0.1 r0.2.1 r0.2.2)
  obtain ⟨aa0, pa0, ab0, pb0, ac0, pc0, hsa0, hsb0, hsc0⟩ := id R0.out.slices
  subst hsa0 hsb0 hsc0
  clear r0
  have hsz0 := fun w => szKept n0 m0 b0 xa0.length xb0.length xc0.length pa0 pb0 pc0 aa0 ab0 ac0 (1048576) w (by omega) la0 lb0 lc0
  by_cases hbig0 : (xa0.length + xb0.length + xc0.length) ≤ 1048576
  rotate_left
  · have eR : sz3 (1048576) xa0.length xb0.length xc0.length = -1 := by rw [sz3, if_neg hbig0]
    rw [eR] at hsz0
    have HZ0 := Lib.hid hsz0
    clear hsz0 eR
    obtain ⟨w0, hw0⟩ : ∃ w0, w0 = w := ⟨_, rfl⟩
    subst hw0
    have H0 := Below.refl w0.heap.size w0
    go_enter Try.func11, Try.ntmps11
    go_wp2_with fail
    have hb1 : Below w0.heap.size w0 (w0.alloc (.cells #[.int .i64 n0, .slice aa0 xa0.length pa0, .int .i64 m0, .int .i64 b0, .slice ab0 xb0.length pb0, .slice ac0 xc0.length pc0] 53)) := (Below.refl _ _).alloc (by simp <;> omega) _
    have H1 := bel_trans H0 hb1
    have SZ1 := Lib.hid hb1.size
    have qa00_1 : (w0.alloc (.cells #[.int .i64 n0, .slice aa0 xa0.length pa0, .int .i64 m0, .int .i64 b0, .slice ab0 xb0.length pb0, .slice ac0 xc0.length pc0] 53)).cell? ⟨w0.heap.size, 0, none⟩ = some (.int .i64 n0) := by go_simp
    have qa01_1 : (w0.alloc (.cells #[.int .i64 n0, .slice aa0 xa0.length pa0, .int .i64 m0, .int .i64 b0, .slice ab0 xb0.length pb0, .slice ac0 xc0.length pc0] 53)).cell? ⟨w0.heap.size, 1, none⟩ = some (.slice aa0 xa0.length pa0) := by go_simp
    have qa02_1 : (w0.alloc (.cells #[.int .i64 n0, .slice aa0 xa0.length pa0, .int .i64 m0, .int .i64 b0, .slice ab0 xb0.length pb0, .slice ac0 xc0.length pc0] 53)).cell? ⟨w0.heap.size, 2, none⟩ = some (.int .i64 m0) := by go_simp
    have qa03_1 : (w0.alloc (.cells #[.int .i64 n0, .slice aa0 xa0.length pa0, .int .i64 m0, .int .i64 b0, .slice ab0 xb0.length pb0, .slice ac0 xc0.length pc0] 53)).cell? ⟨w0.heap.size, 3, none⟩ = some (.int .i64 b0) := by go_simp
    have qa04_1 : (w0.alloc (.cells #[.int .i64 n0, .slice aa0 xa0.length pa0, .int .i64 m0, .int .i64 b0, .slice ab0 xb0.length pb0, .slice ac0 xc0.length pc0] 53)).cell? ⟨w0.heap.size, 4, none⟩ = some (.slice ab0 xb0.length pb0) := by go_simp
    have qa05_1 : (w0.alloc (.cells #[.int .i64 n0, .slice aa0 xa0.length pa0, .int .i64 m0, .int .i64 b0, .slice ab0 xb0.length pb0, .slice ac0 xc0.length pc0] 53)).cell? ⟨w0.heap.size, 5, none⟩ = some (.slice ac0 xc0.length pc0) := by go_simp
    have za0_1 : w0.heap.size < (w0.alloc (.cells #[.int .i64 n0, .slice aa0 xa0.length pa0, .int .i64 m0, .int .i64 b0, .slice ab0 xb0.length pb0, .slice ac0 xc0.length pc0] 53)).heap.size := by simp <;> omega
    generalize (w0.alloc (.cells #[.int .i64 n0, .slice aa0 xa0.length pa0, .int .i64 m0, .int .i64 b0, .slice ab0 xb0.length pb0, .slice ac0 xc0.length pc0] 53)) = w1 at hb1 H1 SZ1 qa00_1 qa01_1 qa02_1 qa03_1 qa04_1 qa05_1 za0_1 ⊢
    have ZBa0 := Lib.hid za0_1
    refine (HZ0.out _).mono ?_
    rintro e w2 ⟨rfl, hb2⟩
    have H2 := bel_trans H1 hb2
    have SZ2 := Lib.hid hb2.size
    have qa00_2 := (hb2.cell (p := ⟨w0.heap.size, 0, none⟩) za0_1).trans qa00_1
    have qa01_2 := (hb2.cell (p := ⟨w0.heap.size, 1, none⟩) za0_1).trans qa01_1
    have qa02_2 := (hb2.cell (p := ⟨w0.heap.size, 2, none⟩) za0_1).trans qa02_1
    have qa03_2 := (hb2.cell (p := ⟨w0.heap.size, 3, none⟩) za0_1).trans qa03_1
    have qa04_2 := (hb2.cell (p := ⟨w0.heap.size, 4, none⟩) za0_1).trans qa04_1
    have qa05_2 := (hb2.cell (p := ⟨w0.heap.size, 5, none⟩) za0_1).trans qa05_1
    have za0_2 := Nat.lt_of_lt_of_le za0_1 hb2.size
    clear qa00_1 qa01_1 qa02_1 qa03_1 qa04_1 qa05_1 za0_1
    go_wp2
    go_ret
    exact ⟨rfl, H2⟩
  have eR : sz3 (1048576) xa0.length xb0.length xc0.length = ((1048576 - xa0.length - xb0.length - xc0.length : Nat) : Int) := by rw [sz3, if_pos hbig0]
  rw [eR] at hsz0
  have HZ0 := Lib.hid hsz0
  have hnn0 : decide (((1048576 - xa0.length - xb0.length - xc0.length : Nat) : Int) < 0) = false := by simp <;> omega
  have hb0gx : xa0.length ≤ 1048576 := by omega
  have hb0ix : xa0.length ≤ 4194304 := by omega
  have hb0hx : xa0.length ≤ 281474976710656 := by omega
  have hb0gy : xb0.length ≤ 1048576 := by omega
  have hb0iy : xb0.length ≤ 4194304 := by omega
  have hb0hy : xb0.length ≤ 281474976710656 := by omega
  have hb0gz : xc0.length ≤ 1048576 := by omega
  have hb0iz : xc0.length ≤ 4194304 := by omega
  have hb0hz : xc0.length ≤ 281474976710656 := by omega
  clear hsz0 eR
  obtain ⟨w0, hw0⟩ : ∃ w0, w0 = w := ⟨_, rfl⟩
  subst hw0
  have H0 := Below.refl w0.heap.size w0
  have R0_0 := R0
  clear R0
  go_enter Try.func11, Try.ntmps11
  go_wp2_with fail
  have hb1 : Below w0.heap.size w0 (w0.alloc (.cells #[.int .i64 n0, .slice aa0 xa0.length pa0, .int .i64 m0, .int .i64 b0, .slice ab0 xb0.length pb0, .slice ac0 xc0.length pc0] 53)) := (Below.refl _ _).alloc (by simp <;> omega) _
  have H1 := bel_trans H0 hb1
  have SZ1 := Lib.hid hb1.size
  have R0_1 := Lib.hid (R0_0.out.keep hb1)
  have qa00_1 : (w0.alloc (.cells #[.int .i64 n0, .slice aa0 xa0.length pa0, .int .i64 m0, .int .i64 b0, .slice ab0 xb0.length pb0, .slice ac0 xc0.length pc0] 53)).cell? ⟨w0.heap.size, 0, none⟩ = some (.int .i64 n0) := by go_simp
  have qa01_1 : (w0.alloc (.cells #[.int .i64 n0, .slice aa0 xa0.length pa0, .int .i64 m0, .int .i64 b0, .slice ab0 xb0.length pb0, .slice ac0 xc0.length pc0] 53)).cell? ⟨w0.heap.size, 1, none⟩ = some (.slice aa0 xa0.length pa0) := by go_simp
  have qa02_1 : (w0.alloc (.cells #[.int .i64 n0, .slice aa0 xa0.length pa0, .int .i64 m0, .int .i64 b0, .slice ab0 xb0.length pb0, .slice ac0 xc0.length pc0] 53)).cell? ⟨w0.heap.size, 2, none⟩ = some (.int .i64 m0) := by go_simp
  have qa03_1 : (w0.alloc (.cells #[.int .i64 n0, .slice aa0 xa0.length pa0, .int .i64 m0, .int .i64 b0, .slice ab0 xb0.length pb0, .slice ac0 xc0.length pc0] 53)).cell? ⟨w0.heap.size, 3, none⟩ = some (.int .i64 b0) := by go_simp
  have qa04_1 : (w0.alloc (.cells #[.int .i64 n0, .slice aa0 xa0.length pa0, .int .i64 m0, .int .i64 b0, .slice ab0 xb0.length pb0, .slice ac0 xc0.length pc0] 53)).cell? ⟨w0.heap.size, 4, none⟩ = some (.slice ab0 xb0.length pb0) := by go_simp
  have qa05_1 : (w0.alloc (.cells #[.int .i64 n0, .slice aa0 xa0.length pa0, .int .i64 m0, .int .i64 b0, .slice ab0 xb0.length pb0, .slice ac0 xc0.length pc0] 53)).cell? ⟨w0.heap.size, 5, none⟩ = some (.slice ac0 xc0.length pc0) := by go_simp
  have za0_1 : w0.heap.size < (w0.alloc (.cells #[.int .i64 n0, .slice aa0 xa0.length pa0, .int .i64 m0, .int .i64 b0, .slice ab0 xb0.length pb0, .slice ac0 xc0.length pc0] 53)).heap.size := by simp <;> omega
  generalize (w0.alloc (.cells #[.int .i64 n0, .slice aa0 xa0.length pa0, .int .i64 m0, .int .i64 b0, .slice ab0 xb0.length pb0, .slice ac0 xc0.length pc0] 53)) = w1 at hb1 H1 SZ1 R0_1 qa00_1 qa01_1 qa02_1 qa03_1 qa04_1 qa05_1 za0_1 ⊢
  have ZBa0 := Lib.hid za0_1
  clear R0_0
  refine (HZ0.out _).mono ?_
  rintro e w2 ⟨rfl, hb2⟩
  have H2 := bel_trans H1 hb2
  have SZ2 := Lib.hid hb2.size
  have qa00_2 := (hb2.cell (p := ⟨w0.heap.size, 0, none⟩) za0_1).trans qa00_1
  have qa01_2 := (hb2.cell (p := ⟨w0.heap.size, 1, none⟩) za0_1).trans qa01_1
  have qa02_2 := (hb2.cell (p := ⟨w0.heap.size, 2, none⟩) za0_1).trans qa02_1
  have qa03_2 := (hb2.cell (p := ⟨w0.heap.size, 3, none⟩) za0_1).trans qa03_1
  have qa04_2 := (hb2.cell (p := ⟨w0.heap.size, 4, none⟩) za0_1).trans qa04_1
  have qa05_2 := (hb2.cell (p := ⟨w0.heap.size, 5, none⟩) za0_1).trans qa05_1
  have za0_2 := Nat.lt_of_lt_of_le za0_1 hb2.size
  have R0_2 := Lib.hid (R0_1.out.keep hb2)
  clear R0_1 qa00_1 qa01_1 qa02_1 qa03_1 qa04_1 qa05_1 za0_1
  have hzl : (teL n0 m0 b0 xa0 xb0 xc0).length ≤ 1048576 := by unfold teL; split; (exact Nat.le_trans (treeL_len _ _) (by omega)); simp
  have hsp := fun sa0 sb0 sc0 w ha0 hb0 hc0 => sTreeEdges n0 m0 b0 xa0 xb0 xc0 sa0 sb0 sc0 w ha0 hb0 hc0 hb0gx hb0gy hb0gz
  have him := fun sa0 sb0 sc0 w ha0 hb0 hc0 => treeEdges n0 m0 b0 xa0 xb0 xc0 sa0 sb0 sc0 w ha0 hb0 hc0 hb0gx hb0gy hb0gz
  generalize kVal n0 m0 b0 xa0 xb0 xc0 = B at hsp him
  generalize teL n0 m0 b0 xa0 xb0 xc0 = zs at hsp him hzl
  have HSP := Lib.hid hsp
  have HIM := Lib.hid him
  clear hsp him
  go_wp2_with fail
  refine (toKeptN n0 m0 b0 xa0 xb0 xc0 _ _ _ _ R0_2.out.rows.1 R0_2.out.rows.2.1 R0_2.out.rows.2.2 hb0gx hb0gy hb0gz).mono ?_
  rintro e w3 ⟨pAV0, qAV0, rAV0, rfl, hnew, hb3⟩
  have H3 := bel_trans H2 hb3
  have SZ3 := Lib.hid hb3.size
  have qa00_3 := (hb3.cell (p := ⟨w0.heap.size, 0, none⟩) za0_2).trans qa00_2
  have qa01_3 := (hb3.cell (p := ⟨w0.heap.size, 1, none⟩) za0_2).trans qa01_2
  have qa02_3 := (hb3.cell (p := ⟨w0.heap.size, 2, none⟩) za0_2).trans qa02_2
  have qa03_3 := (hb3.cell (p := ⟨w0.heap.size, 3, none⟩) za0_2).trans qa03_2
  have qa04_3 := (hb3.cell (p := ⟨w0.heap.size, 4, none⟩) za0_2).trans qa04_2
  have qa05_3 := (hb3.cell (p := ⟨w0.heap.size, 5, none⟩) za0_2).trans qa05_2
  have za0_3 := Nat.lt_of_lt_of_le za0_2 hb3.size
  have R0_3 := Lib.hid (R0_2.out.keep hb3)
  have AV0_3 := Lib.hid (hnew)
  clear qa00_2 qa01_2 qa02_2 qa03_2 qa04_2 qa05_2 za0_2 R0_2
  clear hnew
  go_wp2_with fail
  refine (HSP.out _ _ _ _ AV0_3.out.rows.1 AV0_3.out.rows.2.1 AV0_3.out.rows.2.2).mono ?_
  rintro e w4 ⟨vV, rfl, hown, hb4⟩
  have H4 := bel_trans H3 hb4
  have SZ4 := Lib.hid hb4.size
  have qa00_4 := (hb4.cell (p := ⟨w0.heap.size, 0, none⟩) za0_3).trans qa00_3
  have qa01_4 := (hb4.cell (p := ⟨w0.heap.size, 1, none⟩) za0_3).trans qa01_3
  have qa02_4 := (hb4.cell (p := ⟨w0.heap.size, 2, none⟩) za0_3).trans qa02_3
  have qa03_4 := (hb4.cell (p := ⟨w0.heap.size, 3, none⟩) za0_3).trans qa03_3
  have qa04_4 := (hb4.cell (p := ⟨w0.heap.size, 4, none⟩) za0_3).trans qa04_3
  have qa05_4 := (hb4.cell (p := ⟨w0.heap.size, 5, none⟩) za0_3).trans qa05_3
  have za0_4 := Nat.lt_of_lt_of_le za0_3 hb4.size
  have R0_4 := Lib.hid (R0_3.out.keep hb4)
  have AV0_4 := Lib.hid (AV0_3.out.keep hb4)
  have V_4 := Lib.hid (hown)
  clear qa00_3 qa01_3 qa02_3 qa03_3 qa04_3 qa05_3 za0_3 R0_3 AV0_3
  clear hown
  clear AV0_4
  go_wp2_with fail
  refine (toKeptN n0 m0 b0 xa0 xb0 xc0 _ _ _ _ R0_4.out.rows.1 R0_4.out.rows.2.1 R0_4.out.rows.2.2 hb0gx hb0gy hb0gz).mono ?_
  rintro e w5 ⟨pX0, qX0, rX0, rfl, hnew, hb5⟩
  have H5 := bel_trans H4 hb5
  have SZ5 := Lib.hid hb5.size
  have qa00_5 := (hb5.cell (p := ⟨w0.heap.size, 0, none⟩) za0_4).trans qa00_4
  have qa01_5 := (hb5.cell (p := ⟨w0.heap.size, 1, none⟩) za0_4).trans qa01_4
  have qa02_5 := (hb5.cell (p := ⟨w0.heap.size, 2, none⟩) za0_4).trans qa02_4
  have qa03_5 := (hb5.cell (p := ⟨w0.heap.size, 3, none⟩) za0_4).trans qa03_4
  have qa04_5 := (hb5.cell (p := ⟨w0.heap.size, 4, none⟩) za0_4).trans qa04_4
  have qa05_5 := (hb5.cell (p := ⟨w0.heap.size, 5, none⟩) za0_4).trans qa05_4
  have za0_5 := Nat.lt_of_lt_of_le za0_4 hb5.size
  have R0_5 := Lib.hid (R0_4.out.keep hb5)
  have V_5 := Lib.hid (V_4.out.keep hb5)
  obtain ⟨ga0, ca0, gb0, cb0, gc0, cc0, rfl, rfl, rfl⟩ := id hnew.slices
  have X0_5 := Lib.hid (hnew)
  clear qa00_4 qa01_4 qa02_4 qa03_4 qa04_4 qa05_4 za0_4 R0_4 V_4
  clear hnew
  go_wp2_with fail
  have hb6 : Below w5.heap.size w5 (w5.alloc (.cells #[.int .i64 n0, .slice ga0 xa0.length ca0, .int .i64 m0, .int .i64 b0, .slice gb0 xb0.length cb0, .slice gc0 xc0.length cc0] 57)) := (Below.refl _ _).alloc (by simp <;> omega) _
  have H6 := bel_trans H5 hb6
  have SZ6 := Lib.hid hb6.size
  have qa00_6 := (hb6.cell (p := ⟨w0.heap.size, 0, none⟩) za0_5).trans qa00_5
  have qa01_6 := (hb6.cell (p := ⟨w0.heap.size, 1, none⟩) za0_5).trans qa01_5
  have qa02_6 := (hb6.cell (p := ⟨w0.heap.size, 2, none⟩) za0_5).trans qa02_5
  have qa03_6 := (hb6.cell (p := ⟨w0.heap.size, 3, none⟩) za0_5).trans qa03_5
  have qa04_6 := (hb6.cell (p := ⟨w0.heap.size, 4, none⟩) za0_5).trans qa04_5
  have qa05_6 := (hb6.cell (p := ⟨w0.heap.size, 5, none⟩) za0_5).trans qa05_5
  have za0_6 := Nat.lt_of_lt_of_le za0_5 hb6.size
  have R0_6 := Lib.hid (R0_5.out.keep hb6)
  have V_6 := Lib.hid (V_5.out.keep hb6)
  have X0_6 := Lib.hid (X0_5.out.keep hb6)
  have qx00_6 : (w5.alloc (.cells #[.int .i64 n0, .slice ga0 xa0.length ca0, .int .i64 m0, .int .i64 b0, .slice gb0 xb0.length cb0, .slice gc0 xc0.length cc0] 57)).cell? ⟨w5.heap.size, 0, none⟩ = some (.int .i64 n0) := by go_simp
  have qx01_6 : (w5.alloc (.cells #[.int .i64 n0, .slice ga0 xa0.length ca0, .int .i64 m0, .int .i64 b0, .slice gb0 xb0.length cb0, .slice gc0 xc0.length cc0] 57)).cell? ⟨w5.heap.size, 1, none⟩ = some (.slice ga0 xa0.length ca0) := by go_simp
  have qx02_6 : (w5.alloc (.cells #[.int .i64 n0, .slice ga0 xa0.length ca0, .int .i64 m0, .int .i64 b0, .slice gb0 xb0.length cb0, .slice gc0 xc0.length cc0] 57)).cell? ⟨w5.heap.size, 2, none⟩ = some (.int .i64 m0) := by go_simp
  have qx03_6 : (w5.alloc (.cells #[.int .i64 n0, .slice ga0 xa0.length ca0, .int .i64 m0, .int .i64 b0, .slice gb0 xb0.length cb0, .slice gc0 xc0.length cc0] 57)).cell? ⟨w5.heap.size, 3, none⟩ = some (.int .i64 b0) := by go_simp
  have qx04_6 : (w5.alloc (.cells #[.int .i64 n0, .slice ga0 xa0.length ca0, .int .i64 m0, .int .i64 b0, .slice gb0 xb0.length cb0, .slice gc0 xc0.length cc0] 57)).cell? ⟨w5.heap.size, 4, none⟩ = some (.slice gb0 xb0.length cb0) := by go_simp
  have qx05_6 : (w5.alloc (.cells #[.int .i64 n0, .slice ga0 xa0.length ca0, .int .i64 m0, .int .i64 b0, .slice gb0 xb0.length cb0, .slice gc0 xc0.length cc0] 57)).cell? ⟨w5.heap.size, 5, none⟩ = some (.slice gc0 xc0.length cc0) := by go_simp
  have zx0_6 : w5.heap.size < (w5.alloc (.cells #[.int .i64 n0, .slice ga0 xa0.length ca0, .int .i64 m0, .int .i64 b0, .slice gb0 xb0.length cb0, .slice gc0 xc0.length cc0] 57)).heap.size := by simp <;> omega
  generalize (w5.alloc (.cells #[.int .i64 n0, .slice ga0 xa0.length ca0, .int .i64 m0, .int .i64 b0, .slice gb0 xb0.length cb0, .slice gc0 xc0.length cc0] 57)) = w6 at hb6 H6 SZ6 R0_6 V_6 X0_6 qa00_6 qa01_6 qa02_6 qa03_6 qa04_6 qa05_6 qx00_6 qx01_6 qx02_6 qx03_6 qx04_6 qx05_6 za0_6 zx0_6 ⊢
  have ZBx0 := Lib.hid zx0_6
  clear qa00_5 qa01_5 qa02_5 qa03_5 qa04_5 qa05_5 za0_5 R0_5 V_5 X0_5
  refine (HIM.out _ _ _ _ X0_6.out.rows.1 X0_6.out.rows.2.1 X0_6.out.rows.2.2).mono ?_
  rintro e w7 ⟨g0, rfl, hown, hb7⟩
  have H7 := bel_trans H6 hb7
  have SZ7 := Lib.hid hb7.size
  have qa00_7 := (hb7.cell (p := ⟨w0.heap.size, 0, none⟩) za0_6).trans qa00_6
  have qa01_7 := (hb7.cell (p := ⟨w0.heap.size, 1, none⟩) za0_6).trans qa01_6
  have qa02_7 := (hb7.cell (p := ⟨w0.heap.size, 2, none⟩) za0_6).trans qa02_6
  have qa03_7 := (hb7.cell (p := ⟨w0.heap.size, 3, none⟩) za0_6).trans qa03_6
  have qa04_7 := (hb7.cell (p := ⟨w0.heap.size, 4, none⟩) za0_6).trans qa04_6
  have qa05_7 := (hb7.cell (p := ⟨w0.heap.size, 5, none⟩) za0_6).trans qa05_6
  have za0_7 := Nat.lt_of_lt_of_le za0_6 hb7.size
  have qx00_7 := (hb7.cell (p := ⟨w5.heap.size, 0, none⟩) zx0_6).trans qx00_6
  have qx01_7 := (hb7.cell (p := ⟨w5.heap.size, 1, none⟩) zx0_6).trans qx01_6
  have qx02_7 := (hb7.cell (p := ⟨w5.heap.size, 2, none⟩) zx0_6).trans qx02_6
  have qx03_7 := (hb7.cell (p := ⟨w5.heap.size, 3, none⟩) zx0_6).trans qx03_6
  have qx04_7 := (hb7.cell (p := ⟨w5.heap.size, 4, none⟩) zx0_6).trans qx04_6
  have qx05_7 := (hb7.cell (p := ⟨w5.heap.size, 5, none⟩) zx0_6).trans qx05_6
  have zx0_7 := Nat.lt_of_lt_of_le zx0_6 hb7.size
  have R0_7 := Lib.hid (R0_6.out.keep hb7)
  have V_7 := Lib.hid (V_6.out.keep hb7)
  have X0_7 := Lib.hid (X0_6.out.keep hb7)
  have G_7 := Lib.hid (hown)
  clear qa00_6 qa01_6 qa02_6 qa03_6 qa04_6 qa05_6 za0_6 R0_6 V_6 X0_6 qx00_6 qx01_6 qx02_6 qx03_6 qx04_6 qx05_6 zx0_6
  clear hown
  go_wp2_with fail
  refine (eqEdgeS zs _ _ _ G_7.out.edges V_7.out.edges hzl).mono ?_
  rintro e w8 ⟨rfl, hb8⟩
  have H8 := bel_trans H7 hb8
  have SZ8 := Lib.hid hb8.size
  have qa00_8 := (hb8.cell (p := ⟨w0.heap.size, 0, none⟩) za0_7).trans qa00_7
  have qa01_8 := (hb8.cell (p := ⟨w0.heap.size, 1, none⟩) za0_7).trans qa01_7
  have qa02_8 := (hb8.cell (p := ⟨w0.heap.size, 2, none⟩) za0_7).trans qa02_7
  have qa03_8 := (hb8.cell (p := ⟨w0.heap.size, 3, none⟩) za0_7).trans qa03_7
  have qa04_8 := (hb8.cell (p := ⟨w0.heap.size, 4, none⟩) za0_7).trans qa04_7
  have qa05_8 := (hb8.cell (p := ⟨w0.heap.size, 5, none⟩) za0_7).trans qa05_7
  have za0_8 := Nat.lt_of_lt_of_le za0_7 hb8.size
  have qx00_8 := (hb8.cell (p := ⟨w5.heap.size, 0, none⟩) zx0_7).trans qx00_7
  have qx01_8 := (hb8.cell (p := ⟨w5.heap.size, 1, none⟩) zx0_7).trans qx01_7
  have qx02_8 := (hb8.cell (p := ⟨w5.heap.size, 2, none⟩) zx0_7).trans qx02_7
  have qx03_8 := (hb8.cell (p := ⟨w5.heap.size, 3, none⟩) zx0_7).trans qx03_7
  have qx04_8 := (hb8.cell (p := ⟨w5.heap.size, 4, none⟩) zx0_7).trans qx04_7
  have qx05_8 := (hb8.cell (p := ⟨w5.heap.size, 5, none⟩) zx0_7).trans qx05_7
  have zx0_8 := Nat.lt_of_lt_of_le zx0_7 hb8.size
  have R0_8 := Lib.hid (R0_7.out.keep hb8)
  have V_8 := Lib.hid (V_7.out.keep hb8)
  have X0_8 := Lib.hid (X0_7.out.keep hb8)
  have G_8 := Lib.hid (G_7.out.keep hb8)
  clear qa00_7 qa01_7 qa02_7 qa03_7 qa04_7 qa05_7 za0_7 qx00_7 qx01_7 qx02_7 qx03_7 qx04_7 qx05_7 zx0_7 R0_7 V_7 X0_7 G_7
  go_wp2_with fail
  have hold : ∀ w' : World, Below w8.heap.size w8 w' → (w'.cell? ⟨w5.heap.size, 0, none⟩ = some (.int .i64 n0) ∧ w'.cell? ⟨w5.heap.size, 1, none⟩ = some (.slice ga0 xa0.length ca0) ∧ w'.cell? ⟨w5.heap.size, 2, none⟩ = some (.int .i64 m0) ∧ w'.cell? ⟨w5.heap.size, 3, none⟩ = some (.int .i64 b0) ∧ w'.cell? ⟨w5.heap.size, 4, none⟩ = some (.slice gb0 xb0.length cb0) ∧ w'.cell? ⟨w5.heap.size, 5, none⟩ = some (.slice gc0 xc0.length cc0) ∧ w'.cell? ⟨w0.heap.size, 0, none⟩ = some (.int .i64 n0) ∧ w'.cell? ⟨w0.heap.size, 1, none⟩ = some (.slice aa0 xa0.length pa0) ∧ w'.cell? ⟨w0.heap.size, 2, none⟩ = some (.int .i64 m0) ∧ w'.cell? ⟨w0.heap.size, 3, none⟩ = some (.int .i64 b0) ∧ w'.cell? ⟨w0.heap.size, 4, none⟩ = some (.slice ab0 xb0.length pb0) ∧ w'.cell? ⟨w0.heap.size, 5, none⟩ = some (.slice ac0 xc0.length pc0)) := fun w' h => ⟨(h.cell (p := ⟨w5.heap.size, 0, none⟩) zx0_8).trans qx00_8, (h.cell (p := ⟨w5.heap.size, 1, none⟩) zx0_8).trans qx01_8, (h.cell (p := ⟨w5.heap.size, 2, none⟩) zx0_8).trans qx02_8, (h.cell (p := ⟨w5.heap.size, 3, none⟩) zx0_8).trans qx03_8, (h.cell (p := ⟨w5.heap.size, 4, none⟩) zx0_8).trans qx04_8, (h.cell (p := ⟨w5.heap.size, 5, none⟩) zx0_8).trans qx05_8, (h.cell (p := ⟨w0.heap.size, 0, none⟩) za0_8).trans qa00_8, (h.cell (p := ⟨w0.heap.size, 1, none⟩) za0_8).trans qa01_8, (h.cell (p := ⟨w0.heap.size, 2, none⟩) za0_8).trans qa02_8, (h.cell (p := ⟨w0.heap.size, 3, none⟩) za0_8).trans qa03_8, (h.cell (p := ⟨w0.heap.size, 4, none⟩) za0_8).trans qa04_8, (h.cell (p := ⟨w0.heap.size, 5, none⟩) za0_8).trans qa05_8⟩
  have HOLD := Lib.hid hold
  clear hold
  go_region_held3 (fun w' : World => w'.cell? ⟨w5.heap.size, 0, none⟩ = some (.int .i64 n0) ∧ w'.cell? ⟨w5.heap.size, 1, none⟩ = some (.slice ga0 xa0.length ca0) ∧ w'.cell? ⟨w5.heap.size, 2, none⟩ = some (.int .i64 m0) ∧ w'.cell? ⟨w5.heap.size, 3, none⟩ = some (.int .i64 b0) ∧ w'.cell? ⟨w5.heap.size, 4, none⟩ = some (.slice gb0 xb0.length cb0) ∧ w'.cell? ⟨w5.heap.size, 5, none⟩ = some (.slice gc0 xc0.length cc0) ∧ w'.cell? ⟨w0.heap.size, 0, none⟩ = some (.int .i64 n0) ∧ w'.cell? ⟨w0.heap.size, 1, none⟩ = some (.slice aa0 xa0.length pa0) ∧ w'.cell? ⟨w0.heap.size, 2, none⟩ = some (.int .i64 m0) ∧ w'.cell? ⟨w0.heap.size, 3, none⟩ = some (.int .i64 b0) ∧ w'.cell? ⟨w0.heap.size, 4, none⟩ = some (.slice ab0 xb0.length pb0) ∧ w'.cell? ⟨w0.heap.size, 5, none⟩ = some (.slice ac0 xc0.length pc0)) (first | exact HOLD.out _ ((Below.refl _ _).drew) | exact HOLD.out _ (bel_trans ((Below.refl _ _).drew) hb9) | exact HOLD.out _ (bel_trans (bel_trans ((Below.refl _ _).drew) hb9) hb10)) (first | (go_at_call 36; (with_reducible refine (toKeptN n0 m0 b0 xa0 xb0 xc0 _ _ _ _ (R0_8.out.keep ((Below.refl _ _).drew)).rows.1 (R0_8.out.keep ((Below.refl _ _).drew)).rows.2.1 (R0_8.out.keep ((Below.refl _ _).drew)).rows.2.2 hb0gx hb0gy hb0gz).mono ?_); rintro e w9 ⟨pB0, qB0, rB0, rfl, hnew0, hb9⟩) | (go_at_call 38; (with_reducible refine (eqKept n0 m0 b0 xa0 xb0 xc0 _ _ _ _ _ _ _ (X0_8.out.keep (bel_trans ((Below.refl _ _).drew) hb9)).rows.1 (X0_8.out.keep (bel_trans ((Below.refl _ _).drew) hb9)).rows.2.1 (X0_8.out.keep (bel_trans ((Below.refl _ _).drew) hb9)).rows.2.2 hnew0.rows.1 hnew0.rows.2.1 hnew0.rows.2.2 hb0gx hb0gy hb0iz).mono ?_); rintro e w10 ⟨rfl, hb10⟩))
  have hq : Below w8.heap.size w8 w10 := (bel_trans (bel_trans ((Below.refl _ _).drew) hb9) hb10)
  clear hb9 hb10 HOLD hnew0
  have hb10 := hq
  clear hq
  have H10 := bel_trans H8 hb10
  have SZ10 := Lib.hid hb10.size
  have qa00_10 := (hb10.cell (p := ⟨w0.heap.size, 0, none⟩) za0_8).trans qa00_8
  have qa01_10 := (hb10.cell (p := ⟨w0.heap.size, 1, none⟩) za0_8).trans qa01_8
  have qa02_10 := (hb10.cell (p := ⟨w0.heap.size, 2, none⟩) za0_8).trans qa02_8
  have qa03_10 := (hb10.cell (p := ⟨w0.heap.size, 3, none⟩) za0_8).trans qa03_8
  have qa04_10 := (hb10.cell (p := ⟨w0.heap.size, 4, none⟩) za0_8).trans qa04_8
  have qa05_10 := (hb10.cell (p := ⟨w0.heap.size, 5, none⟩) za0_8).trans qa05_8
  have za0_10 := Nat.lt_of_lt_of_le za0_8 hb10.size
  have qx00_10 := (hb10.cell (p := ⟨w5.heap.size, 0, none⟩) zx0_8).trans qx00_8
  have qx01_10 := (hb10.cell (p := ⟨w5.heap.size, 1, none⟩) zx0_8).trans qx01_8
  have qx02_10 := (hb10.cell (p := ⟨w5.heap.size, 2, none⟩) zx0_8).trans qx02_8
  have qx03_10 := (hb10.cell (p := ⟨w5.heap.size, 3, none⟩) zx0_8).trans qx03_8
  have qx04_10 := (hb10.cell (p := ⟨w5.heap.size, 4, none⟩) zx0_8).trans qx04_8
  have qx05_10 := (hb10.cell (p := ⟨w5.heap.size, 5, none⟩) zx0_8).trans qx05_8
  have zx0_10 := Nat.lt_of_lt_of_le zx0_8 hb10.size
  have R0_10 := Lib.hid (R0_8.out.keep hb10)
  have V_10 := Lib.hid (V_8.out.keep hb10)
  have X0_10 := Lib.hid (X0_8.out.keep hb10)
  have G_10 := Lib.hid (G_8.out.keep hb10)
  clear qa00_8 qa01_8 qa02_8 qa03_8 qa04_8 qa05_8 za0_8 qx00_8 qx01_8 qx02_8 qx03_8 qx04_8 qx05_8 zx0_8 R0_8 V_8 X0_8 G_8
  go_wp2_with fail
  refine (markKept 1 n0 m0 b0 _ _ _ _ _ _ _ _ _ _ _ _ X0_10.out (by omega) (by omega) (by omega) (by omega) (by have := SZ10.out; have := SZ8.out; have := SZ7.out; have := SZ6.out; omega)).mono ?_
  rintro e w11 ⟨rfl, hrow, hb11⟩
  have H11 := bel_chg H10 hb11 (by have := SZ4.out; have := SZ3.out; have := SZ2.out; have := SZ1.out; omega)
  have SZ11 := Lib.hid hb11.size
  have qa00_11 := (hb11.cell (p := ⟨w0.heap.size, 0, none⟩) za0_10 (.inl (by have := ZBa0.out; have := SZ4.out; have := SZ3.out; have := SZ2.out; simp only; omega))).trans qa00_10
  have qa01_11 := (hb11.cell (p := ⟨w0.heap.size, 1, none⟩) za0_10 (.inl (by have := ZBa0.out; have := SZ4.out; have := SZ3.out; have := SZ2.out; simp only; omega))).trans qa01_10
  have qa02_11 := (hb11.cell (p := ⟨w0.heap.size, 2, none⟩) za0_10 (.inl (by have := ZBa0.out; have := SZ4.out; have := SZ3.out; have := SZ2.out; simp only; omega))).trans qa02_10
  have qa03_11 := (hb11.cell (p := ⟨w0.heap.size, 3, none⟩) za0_10 (.inl (by have := ZBa0.out; have := SZ4.out; have := SZ3.out; have := SZ2.out; simp only; omega))).trans qa03_10
  have qa04_11 := (hb11.cell (p := ⟨w0.heap.size, 4, none⟩) za0_10 (.inl (by have := ZBa0.out; have := SZ4.out; have := SZ3.out; have := SZ2.out; simp only; omega))).trans qa04_10
  have qa05_11 := (hb11.cell (p := ⟨w0.heap.size, 5, none⟩) za0_10 (.inl (by have := ZBa0.out; have := SZ4.out; have := SZ3.out; have := SZ2.out; simp only; omega))).trans qa05_10
  have za0_11 := Nat.lt_of_lt_of_le za0_10 hb11.size
  have qx00_11 := (hb11.cell (p := ⟨w5.heap.size, 0, none⟩) zx0_10 (.inr (by simp only; omega))).trans qx00_10
  have qx01_11 := (hb11.cell (p := ⟨w5.heap.size, 1, none⟩) zx0_10 (.inr (by simp only; omega))).trans qx01_10
  have qx02_11 := (hb11.cell (p := ⟨w5.heap.size, 2, none⟩) zx0_10 (.inr (by simp only; omega))).trans qx02_10
  have qx03_11 := (hb11.cell (p := ⟨w5.heap.size, 3, none⟩) zx0_10 (.inr (by simp only; omega))).trans qx03_10
  have qx04_11 := (hb11.cell (p := ⟨w5.heap.size, 4, none⟩) zx0_10 (.inr (by simp only; omega))).trans qx04_10
  have qx05_11 := (hb11.cell (p := ⟨w5.heap.size, 5, none⟩) zx0_10 (.inr (by simp only; omega))).trans qx05_10
  have zx0_11 := Nat.lt_of_lt_of_le zx0_10 hb11.size
  have R0_11 := Lib.hid (R0_10.out.chg hb11 (.inr (by have := SZ4.out; have := SZ3.out; have := SZ2.out; have := SZ1.out; omega)))
  have V_11 := Lib.hid (V_10.out.chg hb11 (.inr (by omega)))
  have G_11 := Lib.hid (G_10.out.chg hb11 (.inl (by have := SZ6.out; omega)))
  have X0_11 := Lib.hid (hrow)
  clear qa00_10 qa01_10 qa02_10 qa03_10 qa04_10 qa05_10 za0_10 qx00_10 qx01_10 qx02_10 qx03_10 qx04_10 qx05_10 zx0_10 R0_10 V_10 X0_10 G_10
  clear hrow
  have hk1 : decide (((1 + (xa0.length * 3 + xb0.length + xc0.length) : Nat) : Int) < 0) = false := decide_eq_false (by omega)
  go_wp2_with fail
  refine (eqEdgeS zs _ _ _ G_11.out.edges V_11.out.edges hzl).mono ?_
  rintro e w12 ⟨rfl, hb12⟩
  have H12 := bel_trans H11 hb12
  have SZ12 := Lib.hid hb12.size
  have qa00_12 := (hb12.cell (p := ⟨w0.heap.size, 0, none⟩) za0_11).trans qa00_11
  have qa01_12 := (hb12.cell (p := ⟨w0.heap.size, 1, none⟩) za0_11).trans qa01_11
  have qa02_12 := (hb12.cell (p := ⟨w0.heap.size, 2, none⟩) za0_11).trans qa02_11
  have qa03_12 := (hb12.cell (p := ⟨w0.heap.size, 3, none⟩) za0_11).trans qa03_11
  have qa04_12 := (hb12.cell (p := ⟨w0.heap.size, 4, none⟩) za0_11).trans qa04_11
  have qa05_12 := (hb12.cell (p := ⟨w0.heap.size, 5, none⟩) za0_11).trans qa05_11
  have za0_12 := Nat.lt_of_lt_of_le za0_11 hb12.size
  have qx00_12 := (hb12.cell (p := ⟨w5.heap.size, 0, none⟩) zx0_11).trans qx00_11
  have qx01_12 := (hb12.cell (p := ⟨w5.heap.size, 1, none⟩) zx0_11).trans qx01_11
  have qx02_12 := (hb12.cell (p := ⟨w5.heap.size, 2, none⟩) zx0_11).trans qx02_11
  have qx03_12 := (hb12.cell (p := ⟨w5.heap.size, 3, none⟩) zx0_11).trans qx03_11
  have qx04_12 := (hb12.cell (p := ⟨w5.heap.size, 4, none⟩) zx0_11).trans qx04_11
  have qx05_12 := (hb12.cell (p := ⟨w5.heap.size, 5, none⟩) zx0_11).trans qx05_11
  have zx0_12 := Nat.lt_of_lt_of_le zx0_11 hb12.size
  have R0_12 := Lib.hid (R0_11.out.keep hb12)
  have V_12 := Lib.hid (V_11.out.keep hb12)
  have X0_12 := Lib.hid (X0_11.out.keep hb12)
  have G_12 := Lib.hid (G_11.out.keep hb12)
  clear qa00_11 qa01_11 qa02_11 qa03_11 qa04_11 qa05_11 za0_11 qx00_11 qx01_11 qx02_11 qx03_11 qx04_11 qx05_11 zx0_11 R0_11 V_11 G_11 X0_11
  go_wp2_with fail
  refine (markEdgeS 1 _ _ _ _ _ _ G_12.out (by omega) (by omega)).mono ?_
  rintro e w13 ⟨rfl, hrow, hb13⟩
  have H13 := bel_chg H12 hb13 (by have := SZ6.out; have := SZ5.out; have := SZ4.out; have := SZ3.out; have := SZ2.out; have := SZ1.out; omega)
  have SZ13 := Lib.hid hb13.size
  have qa00_13 := (hb13.cell (p := ⟨w0.heap.size, 0, none⟩) za0_12 (.inl (by have := ZBa0.out; have := SZ6.out; have := SZ5.out; have := SZ4.out; have := SZ3.out; have := SZ2.out; simp only; omega))).trans qa00_12
  have qa01_13 := (hb13.cell (p := ⟨w0.heap.size, 1, none⟩) za0_12 (.inl (by have := ZBa0.out; have := SZ6.out; have := SZ5.out; have := SZ4.out; have := SZ3.out; have := SZ2.out; simp only; omega))).trans qa01_12
  have qa02_13 := (hb13.cell (p := ⟨w0.heap.size, 2, none⟩) za0_12 (.inl (by have := ZBa0.out; have := SZ6.out; have := SZ5.out; have := SZ4.out; have := SZ3.out; have := SZ2.out; simp only; omega))).trans qa02_12
  have qa03_13 := (hb13.cell (p := ⟨w0.heap.size, 3, none⟩) za0_12 (.inl (by have := ZBa0.out; have := SZ6.out; have := SZ5.out; have := SZ4.out; have := SZ3.out; have := SZ2.out; simp only; omega))).trans qa03_12
  have qa04_13 := (hb13.cell (p := ⟨w0.heap.size, 4, none⟩) za0_12 (.inl (by have := ZBa0.out; have := SZ6.out; have := SZ5.out; have := SZ4.out; have := SZ3.out; have := SZ2.out; simp only; omega))).trans qa04_12
  have qa05_13 := (hb13.cell (p := ⟨w0.heap.size, 5, none⟩) za0_12 (.inl (by have := ZBa0.out; have := SZ6.out; have := SZ5.out; have := SZ4.out; have := SZ3.out; have := SZ2.out; simp only; omega))).trans qa05_12
  have za0_13 := Nat.lt_of_lt_of_le za0_12 hb13.size
  have qx00_13 := (hb13.cell (p := ⟨w5.heap.size, 0, none⟩) zx0_12 (.inl (by have := ZBx0.out; simp only; omega))).trans qx00_12
  have qx01_13 := (hb13.cell (p := ⟨w5.heap.size, 1, none⟩) zx0_12 (.inl (by have := ZBx0.out; simp only; omega))).trans qx01_12
  have qx02_13 := (hb13.cell (p := ⟨w5.heap.size, 2, none⟩) zx0_12 (.inl (by have := ZBx0.out; simp only; omega))).trans qx02_12
  have qx03_13 := (hb13.cell (p := ⟨w5.heap.size, 3, none⟩) zx0_12 (.inl (by have := ZBx0.out; simp only; omega))).trans qx03_12
  have qx04_13 := (hb13.cell (p := ⟨w5.heap.size, 4, none⟩) zx0_12 (.inl (by have := ZBx0.out; simp only; omega))).trans qx04_12
  have qx05_13 := (hb13.cell (p := ⟨w5.heap.size, 5, none⟩) zx0_12 (.inl (by have := ZBx0.out; simp only; omega))).trans qx05_12
  have zx0_13 := Nat.lt_of_lt_of_le zx0_12 hb13.size
  have R0_13 := Lib.hid (R0_12.out.chg hb13 (.inr (by have := SZ6.out; have := SZ5.out; have := SZ4.out; have := SZ3.out; have := SZ2.out; have := SZ1.out; omega)))
  have V_13 := Lib.hid (V_12.out.chg hb13 (.inr (by have := SZ6.out; have := SZ5.out; omega)))
  have X0_13 := Lib.hid (X0_12.out.chg hb13 (.inr (by have := SZ6.out; omega)))
  have G_13 := Lib.hid (hrow)
  clear qa00_12 qa01_12 qa02_12 qa03_12 qa04_12 qa05_12 za0_12 qx00_12 qx01_12 qx02_12 qx03_12 qx04_12 qx05_12 zx0_12 R0_12 V_12 X0_12 G_12
  clear hrow
  have hk2 : decide (((1 + zs.length * 3 : Nat) : Int) < 0) = false := decide_eq_false (by omega)
  go_wp2_with fail
  refine (heldEdgeS 1 true _ _ _ _ _ G_13.out (by omega) (by omega)).mono ?_
  rintro e w14 ⟨rfl, hb14⟩
  have H14 := bel_trans H13 hb14
  have SZ14 := Lib.hid hb14.size
  have qa00_14 := (hb14.cell (p := ⟨w0.heap.size, 0, none⟩) za0_13).trans qa00_13
  have qa01_14 := (hb14.cell (p := ⟨w0.heap.size, 1, none⟩) za0_13).trans qa01_13
  have qa02_14 := (hb14.cell (p := ⟨w0.heap.size, 2, none⟩) za0_13).trans qa02_13
  have qa03_14 := (hb14.cell (p := ⟨w0.heap.size, 3, none⟩) za0_13).trans qa03_13
  have qa04_14 := (hb14.cell (p := ⟨w0.heap.size, 4, none⟩) za0_13).trans qa04_13
  have qa05_14 := (hb14.cell (p := ⟨w0.heap.size, 5, none⟩) za0_13).trans qa05_13
  have za0_14 := Nat.lt_of_lt_of_le za0_13 hb14.size
  have qx00_14 := (hb14.cell (p := ⟨w5.heap.size, 0, none⟩) zx0_13).trans qx00_13
  have qx01_14 := (hb14.cell (p := ⟨w5.heap.size, 1, none⟩) zx0_13).trans qx01_13
  have qx02_14 := (hb14.cell (p := ⟨w5.heap.size, 2, none⟩) zx0_13).trans qx02_13
  have qx03_14 := (hb14.cell (p := ⟨w5.heap.size, 3, none⟩) zx0_13).trans qx03_13
  have qx04_14 := (hb14.cell (p := ⟨w5.heap.size, 4, none⟩) zx0_13).trans qx04_13
  have qx05_14 := (hb14.cell (p := ⟨w5.heap.size, 5, none⟩) zx0_13).trans qx05_13
  have zx0_14 := Nat.lt_of_lt_of_le zx0_13 hb14.size
  have R0_14 := Lib.hid (R0_13.out.keep hb14)
  have V_14 := Lib.hid (V_13.out.keep hb14)
  have X0_14 := Lib.hid (X0_13.out.keep hb14)
  have G_14 := Lib.hid (G_13.out.keep hb14)
  clear qa00_13 qa01_13 qa02_13 qa03_13 qa04_13 qa05_13 za0_13 qx00_13 qx01_13 qx02_13 qx03_13 qx04_13 qx05_13 zx0_13 R0_13 V_13 X0_13 G_13
  go_wp2_with fail
  refine (toKeptN n0 m0 b0 xa0 xb0 xc0 _ _ _ _ R0_14.out.rows.1 R0_14.out.rows.2.1 R0_14.out.rows.2.2 hb0gx hb0gy hb0gz).mono ?_
  rintro e w15 ⟨pAK0, qAK0, rAK0, rfl, hnew, hb15⟩
  have H15 := bel_trans H14 hb15
  have SZ15 := Lib.hid hb15.size
  have qa00_15 := (hb15.cell (p := ⟨w0.heap.size, 0, none⟩) za0_14).trans qa00_14
  have qa01_15 := (hb15.cell (p := ⟨w0.heap.size, 1, none⟩) za0_14).trans qa01_14
  have qa02_15 := (hb15.cell (p := ⟨w0.heap.size, 2, none⟩) za0_14).trans qa02_14
  have qa03_15 := (hb15.cell (p := ⟨w0.heap.size, 3, none⟩) za0_14).trans qa03_14
  have qa04_15 := (hb15.cell (p := ⟨w0.heap.size, 4, none⟩) za0_14).trans qa04_14
  have qa05_15 := (hb15.cell (p := ⟨w0.heap.size, 5, none⟩) za0_14).trans qa05_14
  have za0_15 := Nat.lt_of_lt_of_le za0_14 hb15.size
  have qx00_15 := (hb15.cell (p := ⟨w5.heap.size, 0, none⟩) zx0_14).trans qx00_14
  have qx01_15 := (hb15.cell (p := ⟨w5.heap.size, 1, none⟩) zx0_14).trans qx01_14
  have qx02_15 := (hb15.cell (p := ⟨w5.heap.size, 2, none⟩) zx0_14).trans qx02_14
  have qx03_15 := (hb15.cell (p := ⟨w5.heap.size, 3, none⟩) zx0_14).trans qx03_14
  have qx04_15 := (hb15.cell (p := ⟨w5.heap.size, 4, none⟩) zx0_14).trans qx04_14
  have qx05_15 := (hb15.cell (p := ⟨w5.heap.size, 5, none⟩) zx0_14).trans qx05_14
  have zx0_15 := Nat.lt_of_lt_of_le zx0_14 hb15.size
  have R0_15 := Lib.hid (R0_14.out.keep hb15)
  have V_15 := Lib.hid (V_14.out.keep hb15)
  have X0_15 := Lib.hid (X0_14.out.keep hb15)
  have G_15 := Lib.hid (G_14.out.keep hb15)
  have AK0_15 := Lib.hid (hnew)
  clear qa00_14 qa01_14 qa02_14 qa03_14 qa04_14 qa05_14 za0_14 qx00_14 qx01_14 qx02_14 qx03_14 qx04_14 qx05_14 zx0_14 R0_14 V_14 X0_14 G_14
  clear hnew
  go_wp2_with fail
  refine (HIM.out _ _ _ _ AK0_15.out.rows.1 AK0_15.out.rows.2.1 AK0_15.out.rows.2.2).mono ?_
  rintro e w16 ⟨vK, rfl, hown, hb16⟩
  have H16 := bel_trans H15 hb16
  have SZ16 := Lib.hid hb16.size
  have qa00_16 := (hb16.cell (p := ⟨w0.heap.size, 0, none⟩) za0_15).trans qa00_15
  have qa01_16 := (hb16.cell (p := ⟨w0.heap.size, 1, none⟩) za0_15).trans qa01_15
  have qa02_16 := (hb16.cell (p := ⟨w0.heap.size, 2, none⟩) za0_15).trans qa02_15
  have qa03_16 := (hb16.cell (p := ⟨w0.heap.size, 3, none⟩) za0_15).trans qa03_15
  have qa04_16 := (hb16.cell (p := ⟨w0.heap.size, 4, none⟩) za0_15).trans qa04_15
  have qa05_16 := (hb16.cell (p := ⟨w0.heap.size, 5, none⟩) za0_15).trans qa05_15
  have za0_16 := Nat.lt_of_lt_of_le za0_15 hb16.size
  have qx00_16 := (hb16.cell (p := ⟨w5.heap.size, 0, none⟩) zx0_15).trans qx00_15
  have qx01_16 := (hb16.cell (p := ⟨w5.heap.size, 1, none⟩) zx0_15).trans qx01_15
  have qx02_16 := (hb16.cell (p := ⟨w5.heap.size, 2, none⟩) zx0_15).trans qx02_15
  have qx03_16 := (hb16.cell (p := ⟨w5.heap.size, 3, none⟩) zx0_15).trans qx03_15
  have qx04_16 := (hb16.cell (p := ⟨w5.heap.size, 4, none⟩) zx0_15).trans qx04_15
  have qx05_16 := (hb16.cell (p := ⟨w5.heap.size, 5, none⟩) zx0_15).trans qx05_15
  have zx0_16 := Nat.lt_of_lt_of_le zx0_15 hb16.size
  have R0_16 := Lib.hid (R0_15.out.keep hb16)
  have V_16 := Lib.hid (V_15.out.keep hb16)
  have X0_16 := Lib.hid (X0_15.out.keep hb16)
  have G_16 := Lib.hid (G_15.out.keep hb16)
  have AK0_16 := Lib.hid (AK0_15.out.keep hb16)
  have K_16 := Lib.hid (hown)
  clear qa00_15 qa01_15 qa02_15 qa03_15 qa04_15 qa05_15 za0_15 qx00_15 qx01_15 qx02_15 qx03_15 qx04_15 qx05_15 zx0_15 R0_15 V_15 X0_15 G_15 AK0_15
  clear hown
  clear AK0_16
  go_wp2_with fail
  refine (eqEdgeS zs _ _ _ K_16.out.edges V_16.out.edges hzl).mono ?_
  rintro e w17 ⟨rfl, hb17⟩
  have H17 := bel_trans H16 hb17
  have SZ17 := Lib.hid hb17.size
  have qa00_17 := (hb17.cell (p := ⟨w0.heap.size, 0, none⟩) za0_16).trans qa00_16
  have qa01_17 := (hb17.cell (p := ⟨w0.heap.size, 1, none⟩) za0_16).trans qa01_16
  have qa02_17 := (hb17.cell (p := ⟨w0.heap.size, 2, none⟩) za0_16).trans qa02_16
  have qa03_17 := (hb17.cell (p := ⟨w0.heap.size, 3, none⟩) za0_16).trans qa03_16
  have qa04_17 := (hb17.cell (p := ⟨w0.heap.size, 4, none⟩) za0_16).trans qa04_16
  have qa05_17 := (hb17.cell (p := ⟨w0.heap.size, 5, none⟩) za0_16).trans qa05_16
  have za0_17 := Nat.lt_of_lt_of_le za0_16 hb17.size
  have qx00_17 := (hb17.cell (p := ⟨w5.heap.size, 0, none⟩) zx0_16).trans qx00_16
  have qx01_17 := (hb17.cell (p := ⟨w5.heap.size, 1, none⟩) zx0_16).trans qx01_16
  have qx02_17 := (hb17.cell (p := ⟨w5.heap.size, 2, none⟩) zx0_16).trans qx02_16
  have qx03_17 := (hb17.cell (p := ⟨w5.heap.size, 3, none⟩) zx0_16).trans qx03_16
  have qx04_17 := (hb17.cell (p := ⟨w5.heap.size, 4, none⟩) zx0_16).trans qx04_16
  have qx05_17 := (hb17.cell (p := ⟨w5.heap.size, 5, none⟩) zx0_16).trans qx05_16
  have zx0_17 := Nat.lt_of_lt_of_le zx0_16 hb17.size
  have R0_17 := Lib.hid (R0_16.out.keep hb17)
  have V_17 := Lib.hid (V_16.out.keep hb17)
  have X0_17 := Lib.hid (X0_16.out.keep hb17)
  have G_17 := Lib.hid (G_16.out.keep hb17)
  have K_17 := Lib.hid (K_16.out.keep hb17)
  clear qa00_16 qa01_16 qa02_16 qa03_16 qa04_16 qa05_16 za0_16 qx00_16 qx01_16 qx02_16 qx03_16 qx04_16 qx05_16 zx0_16 R0_16 V_16 X0_16 G_16 K_16
  go_wp2_with fail
  refine (heldEdgeS 1 true _ _ _ _ _ G_17.out (by omega) (by omega)).mono ?_
  rintro e w18 ⟨rfl, hb18⟩
  have H18 := bel_trans H17 hb18
  have SZ18 := Lib.hid hb18.size
  have qa00_18 := (hb18.cell (p := ⟨w0.heap.size, 0, none⟩) za0_17).trans qa00_17
  have qa01_18 := (hb18.cell (p := ⟨w0.heap.size, 1, none⟩) za0_17).trans qa01_17
  have qa02_18 := (hb18.cell (p := ⟨w0.heap.size, 2, none⟩) za0_17).trans qa02_17
  have qa03_18 := (hb18.cell (p := ⟨w0.heap.size, 3, none⟩) za0_17).trans qa03_17
  have qa04_18 := (hb18.cell (p := ⟨w0.heap.size, 4, none⟩) za0_17).trans qa04_17
  have qa05_18 := (hb18.cell (p := ⟨w0.heap.size, 5, none⟩) za0_17).trans qa05_17
  have za0_18 := Nat.lt_of_lt_of_le za0_17 hb18.size
  have qx00_18 := (hb18.cell (p := ⟨w5.heap.size, 0, none⟩) zx0_17).trans qx00_17
  have qx01_18 := (hb18.cell (p := ⟨w5.heap.size, 1, none⟩) zx0_17).trans qx01_17
  have qx02_18 := (hb18.cell (p := ⟨w5.heap.size, 2, none⟩) zx0_17).trans qx02_17
  have qx03_18 := (hb18.cell (p := ⟨w5.heap.size, 3, none⟩) zx0_17).trans qx03_17
  have qx04_18 := (hb18.cell (p := ⟨w5.heap.size, 4, none⟩) zx0_17).trans qx04_17
  have qx05_18 := (hb18.cell (p := ⟨w5.heap.size, 5, none⟩) zx0_17).trans qx05_17
  have zx0_18 := Nat.lt_of_lt_of_le zx0_17 hb18.size
  have R0_18 := Lib.hid (R0_17.out.keep hb18)
  have V_18 := Lib.hid (V_17.out.keep hb18)
  have X0_18 := Lib.hid (X0_17.out.keep hb18)
  have G_18 := Lib.hid (G_17.out.keep hb18)
  have K_18 := Lib.hid (K_17.out.keep hb18)
  clear qa00_17 qa01_17 qa02_17 qa03_17 qa04_17 qa05_17 za0_17 qx00_17 qx01_17 qx02_17 qx03_17 qx04_17 qx05_17 zx0_17 R0_17 V_17 X0_17 G_17 K_17
  go_wp2
  go_ret
  exact ⟨rfl, H18⟩

set_option maxRecDepth 100000 in
theorem lifted (os : Os) (started : os.Started) (H : Type) (enc : TypeId × Value → H) :
    ReturnsInHanded {} Try.checked os 11 .any (Rows.fnExactTreeEdgesSpec.pre6 enc Try.prog Try.f11 Rows.fnExactTreeEdgesRow.domain false) (Rows.fnExactTreeEdgesSpec.post enc Try.prog Try.f11 false true false false) := by
  refine returnsInHanded_of_change (C := Try.checked) own started (by kernel_rfl) Try.func11
    (ChangeSpec.witness6 (enc := enc) (C := Try.checked) false ⟨#[], #[.agg #[.int .i64 0, .slice none 0 0, .int .i64 0, .int .i64 0, .slice none 0 0, .slice none 0 0]], []⟩ 8 (by kernel_rfl) (by kernel_rfl) (by kernel_rfl) (by kernel_rfl)) ?_
  intro W base args ds gs before hval0 hW hcnd _
  have hval : ∀ (j : Nat) t v, Try.f11.params[j]? = some t → args[j]? = some v → Value.okWide Try.prog W .any base t v := hval0
  have hW' := hW
  obtain ⟨p, q, hA0, hV, rfl, hfz, hnd⟩ := hW
  have hA : DataW.TrodAll enc Try.prog W 0 (fun _ => true) true Try.f11.params.toList args.toList ds p := hA0
  rw [Try.params11] at hA hval
  obtain ⟨v0, vs0, d0, ds0, p0, q0, hargs, rfl, rfl, h0, rr0⟩ := trodAll_cons hA
  obtain ⟨rfl, rfl, rfl⟩ := trodAll_nil rr0
  obtain rfl : args = #[v0] := by cases args; simp_all
  obtain ⟨rfl, rfl⟩ := trodVars_none hV
  have k0 := h0
  have lt0 : ∀ x ∈ p0, x.block < W.heap.size := by obtain ⟨m, hm⟩ := k0; exact DataW.trod_lt m _ _ _ hm
  obtain ⟨n0, m0, b0, sa0, sb0, sc0, xa0, xb0, xc0, rfl, r0, la0, lb0, lc0⟩ := openKept (hval 0 53 v0 rfl rfl) h0
  clear hA0 hval0
  refine (walk W n0 m0 b0 sa0 sb0 sc0 xa0 xb0 xc0 r0 la0 lb0 lc0).mono fun e W' ⟨he, bel⟩ => ?_
  subst he
  exact ⟨_, rfl, _, _, _, [], _, [], hW', trodAll_mk1 (shut_bool Try.underlying4 _), (trodAll_cons_mk (Below.trod laidOut (by kernel_rfl) (of_decide_eq_true (by kernel_rfl)) k0 bel lt0) trodAll_mk0), rfl, bel.frame _, fun h => by cases h⟩

theorem over : Rows.fnExactTreeEdgesRow.holds Try.pinned (OpenSpec.ofChange Rows.fnExactTreeEdgesSpec) :=
  OpenClaim.holds_of_wide 11 Try.f11 rfl rfl rfl rfl rfl rfl rfl ⟨rfl, rfl, rfl, rfl, rfl⟩ rfl rfl rfl rfl rfl (by kernel_rfl) Try.func11 (by kernel_rfl)
    (of_decide_eq_true (by kernel_rfl)) (by unfold Func.isWrapper; first | (rw [if_pos (by decide +kernel)]; kernel_rfl) | (rw [if_neg (by decide +kernel)]; exact ⟨rfl, rfl⟩))
    (fun os started H enc _ => lifted os started H enc)

theorem proved : Rows.FnExactTreeEdgesSaid := over
end Go.Proofs.Ytdblcaeeepkebaa.fnExactTreeEdges
