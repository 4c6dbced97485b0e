/-
  Proved: at every value of the type Kept impl.KeptValid answers as the model spec.KeptValid does, writes into no argument (the law FnExactKeptValid returns true for them all), with no further condition.
-/
import Derived.Test.YtdblcaeeepkebaaRows
import Derived.Test.YtdblcaeeepkebaaKeptU
import Derived.Test.YtdblcaeeepkebaaKeptL
import Derived.Test.YtdblcaeeepkebaaMarksI
import Derived.Test.YtdblcaeeepkebaaOpenV
import Derived.WalkKit
import Derived.ProofKit
import Derived.OpenShut
import Derived.ShutString
import Derived.ChangeOld
import Derived.Below
namespace Go.Proofs.Ytdblcaeeepkebaa.fnExactKeptValid
open Go.Proofs.Ytdblcaeeepkebaa Go.BigFrame
open Go.ChangeShapes Go.WideShapes Go.ChangeAt Go.RowKit
open Go.ChangeMaps (open_string shut_string)
set_option linter.unusedVariables false

theorem own : ownKnob Try.prog.godebug = none := by kernel_rfl
theorem laidOut : laidOutB Try.prog = true := by kernel_rfl

set_option maxRecDepth 100000 in
set_option maxHeartbeats 4000000 in
theorem walk (w : World) (n0 m0 b0 : Int) (sa0 sb0 sc0 : Value) (xa0 : List Ed) (xb0 xc0 : List Int) (r0 : RowE w sa0 xa0 ∧ Row w sb0 xb0 ∧ Row w sc0 xc0) (la0 : xa0.length ≤ 9223372036854775807) (lb0 : xb0.length ≤ 9223372036854775807) (lc0 : xc0.length ≤ 9223372036854775807) :
    Calls Try.prog 8 #[.agg #[.int .i64 n0, sa0, .int .i64 m0, .int .i64 b0, sb0, sc0]] w fun e w' => e = .returned (.bool true) ∧ Below w.heap.size w w' := by
  have R0 := Lib.hid (RK.of_rows r0.1 r0.2.1 r0.2.2)
  obtain ⟨aa0, pa0, ab0, pb0, ac0, pc0, hsa0, hsb0, hsc0⟩ := id R0.out.slices
  subst hsa0 hsb0 hsc0
  clear r0
  have hsz0 := fun w => szKept n0 m0 b0 xa0.length xb0.length xc0.length pa0 pb0 pc0 aa0 ab0 ac0 (1048576) w (by omega) la0 lb0 lc0
  by_cases hbig0 : (xa0.length + xb0.length + xc0.length) ≤ 1048576
  rotate_left
  · have eR : sz3 (1048576) xa0.length xb0.length xc0.length = -1 := by rw [sz3, if_neg hbig0]
    rw [eR] at hsz0
    have HZ0 := Lib.hid hsz0
    clear hsz0 eR
    obtain ⟨w0, hw0⟩ : ∃ w0, w0 = w := ⟨_, rfl⟩
    subst hw0
    have H0 := Below.refl w0.heap.size w0
    go_enter Try.func8, Try.ntmps8
    go_wp2_with fail
    have hb1 : Below w0.heap.size w0 (w0.alloc (.cells #[.int .i64 n0, .slice aa0 xa0.length pa0, .int .i64 m0, .int .i64 b0, .slice ab0 xb0.length pb0, .slice ac0 xc0.length pc0] 53)) := (Below.refl _ _).alloc (by simp <;> omega) _
    have H1 := bel_trans H0 hb1
    have SZ1 := Lib.hid hb1.size
    have qa00_1 : (w0.alloc (.cells #[.int .i64 n0, .slice aa0 xa0.length pa0, .int .i64 m0, .int .i64 b0, .slice ab0 xb0.length pb0, .slice ac0 xc0.length pc0] 53)).cell? ⟨w0.heap.size, 0, none⟩ = some (.int .i64 n0) := by go_simp
    have qa01_1 : (w0.alloc (.cells #[.int .i64 n0, .slice aa0 xa0.length pa0, .int .i64 m0, .int .i64 b0, .slice ab0 xb0.length pb0, .slice ac0 xc0.length pc0] 53)).cell? ⟨w0.heap.size, 1, none⟩ = some (.slice aa0 xa0.length pa0) := by go_simp
    have qa02_1 : (w0.alloc (.cells #[.int .i64 n0, .slice aa0 xa0.length pa0, .int .i64 m0, .int .i64 b0, .slice ab0 xb0.length pb0, .slice ac0 xc0.length pc0] 53)).cell? ⟨w0.heap.size, 2, none⟩ = some (.int .i64 m0) := by go_simp
    have qa03_1 : (w0.alloc (.cells #[.int .i64 n0, .slice aa0 xa0.length pa0, .int .i64 m0, .int .i64 b0, .slice ab0 xb0.length pb0, .slice ac0 xc0.length pc0] 53)).cell? ⟨w0.heap.size, 3, none⟩ = some (.int .i64 b0) := by go_simp
    have qa04_1 : (w0.alloc (.cells #[.int .i64 n0, .slice aa0 xa0.length pa0, .int .i64 m0, .int .i64 b0, .slice ab0 xb0.length pb0, .slice ac0 xc0.length pc0] 53)).cell? ⟨w0.heap.size, 4, none⟩ = some (.slice ab0 xb0.length pb0) := by go_simp
    have qa05_1 : (w0.alloc (.cells #[.int .i64 n0, .slice aa0 xa0.length pa0, .int .i64 m0, .int .i64 b0, .slice ab0 xb0.length pb0, .slice ac0 xc0.length pc0] 53)).cell? ⟨w0.heap.size, 5, none⟩ = some (.slice ac0 xc0.length pc0) := by go_simp
    have za0_1 : w0.heap.size < (w0.alloc (.cells #[.int .i64 n0, .slice aa0 xa0.length pa0, .int .i64 m0, .int .i64 b0, .slice ab0 xb0.length pb0, .slice ac0 xc0.length pc0] 53)).heap.size := by simp <;> omega
    generalize (w0.alloc (.cells #[.int .i64 n0, .slice aa0 xa0.length pa0, .int .i64 m0, .int .i64 b0, .slice ab0 xb0.length pb0, .slice ac0 xc0.length pc0] 53)) = w1 at hb1 H1 SZ1 qa00_1 qa01_1 qa02_1 qa03_1 qa04_1 qa05_1 za0_1 ⊢
    have ZBa0 := Lib.hid za0_1
    refine (HZ0.out _).mono ?_
    rintro e w2 ⟨rfl, hb2⟩
    have H2 := bel_trans H1 hb2
    have SZ2 := Lib.hid hb2.size
    have qa00_2 := (hb2.cell (p := ⟨w0.heap.size, 0, none⟩) za0_1).trans qa00_1
    have qa01_2 := (hb2.cell (p := ⟨w0.heap.size, 1, none⟩) za0_1).trans qa01_1
    have qa02_2 := (hb2.cell (p := ⟨w0.heap.size, 2, none⟩) za0_1).trans qa02_1
    have qa03_2 := (hb2.cell (p := ⟨w0.heap.size, 3, none⟩) za0_1).trans qa03_1
    have qa04_2 := (hb2.cell (p := ⟨w0.heap.size, 4, none⟩) za0_1).trans qa04_1
    have qa05_2 := (hb2.cell (p := ⟨w0.heap.size, 5, none⟩) za0_1).trans qa05_1
    have za0_2 := Nat.lt_of_lt_of_le za0_1 hb2.size
    clear qa00_1 qa01_1 qa02_1 qa03_1 qa04_1 qa05_1 za0_1
    go_wp2
    go_ret
    exact ⟨rfl, H2⟩
  have eR : sz3 (1048576) xa0.length xb0.length xc0.length = ((1048576 - xa0.length - xb0.length - xc0.length : Nat) : Int) := by rw [sz3, if_pos hbig0]
  rw [eR] at hsz0
  have HZ0 := Lib.hid hsz0
  have hnn0 : decide (((1048576 - xa0.length - xb0.length - xc0.length : Nat) : Int) < 0) = false := by simp <;> omega
  have hb0gx : xa0.length ≤ 1048576 := by omega
  have hb0ix : xa0.length ≤ 4194304 := by omega
  have hb0hx : xa0.length ≤ 281474976710656 := by omega
  have hb0gy : xb0.length ≤ 1048576 := by omega
  have hb0iy : xb0.length ≤ 4194304 := by omega
  have hb0hy : xb0.length ≤ 281474976710656 := by omega
  have hb0gz : xc0.length ≤ 1048576 := by omega
  have hb0iz : xc0.length ≤ 4194304 := by omega
  have hb0hz : xc0.length ≤ 281474976710656 := by omega
  clear hsz0 eR
  obtain ⟨w0, hw0⟩ : ∃ w0, w0 = w := ⟨_, rfl⟩
  subst hw0
  have H0 := Below.refl w0.heap.size w0
  have R0_0 := R0
  clear R0
  go_enter Try.func8, Try.ntmps8
  go_wp2_with fail
  have hb1 : Below w0.heap.size w0 (w0.alloc (.cells #[.int .i64 n0, .slice aa0 xa0.length pa0, .int .i64 m0, .int .i64 b0, .slice ab0 xb0.length pb0, .slice ac0 xc0.length pc0] 53)) := (Below.refl _ _).alloc (by simp <;> omega) _
  have H1 := bel_trans H0 hb1
  have SZ1 := Lib.hid hb1.size
  have R0_1 := Lib.hid (R0_0.out.keep hb1)
  have qa00_1 : (w0.alloc (.cells #[.int .i64 n0, .slice aa0 xa0.length pa0, .int .i64 m0, .int .i64 b0, .slice ab0 xb0.length pb0, .slice ac0 xc0.length pc0] 53)).cell? ⟨w0.heap.size, 0, none⟩ = some (.int .i64 n0) := by go_simp
  have qa01_1 : (w0.alloc (.cells #[.int .i64 n0, .slice aa0 xa0.length pa0, .int .i64 m0, .int .i64 b0, .slice ab0 xb0.length pb0, .slice ac0 xc0.length pc0] 53)).cell? ⟨w0.heap.size, 1, none⟩ = some (.slice aa0 xa0.length pa0) := by go_simp
  have qa02_1 : (w0.alloc (.cells #[.int .i64 n0, .slice aa0 xa0.length pa0, .int .i64 m0, .int .i64 b0, .slice ab0 xb0.length pb0, .slice ac0 xc0.length pc0] 53)).cell? ⟨w0.heap.size, 2, none⟩ = some (.int .i64 m0) := by go_simp
  have qa03_1 : (w0.alloc (.cells #[.int .i64 n0, .slice aa0 xa0.length pa0, .int .i64 m0, .int .i64 b0, .slice ab0 xb0.length pb0, .slice ac0 xc0.length pc0] 53)).cell? ⟨w0.heap.size, 3, none⟩ = some (.int .i64 b0) := by go_simp
  have qa04_1 : (w0.alloc (.cells #[.int .i64 n0, .slice aa0 xa0.length pa0, .int .i64 m0, .int .i64 b0, .slice ab0 xb0.length pb0, .slice ac0 xc0.length pc0] 53)).cell? ⟨w0.heap.size, 4, none⟩ = some (.slice ab0 xb0.length pb0) := by go_simp
  have qa05_1 : (w0.alloc (.cells #[.int .i64 n0, .slice aa0 xa0.length pa0, .int .i64 m0, .int .i64 b0, .slice ab0 xb0.length pb0, .slice ac0 xc0.length pc0] 53)).cell? ⟨w0.heap.size, 5, none⟩ = some (.slice ac0 xc0.length pc0) := by go_simp
  have za0_1 : w0.heap.size < (w0.alloc (.cells #[.int .i64 n0, .slice aa0 xa0.length pa0, .int .i64 m0, .int .i64 b0, .slice ab0 xb0.length pb0, .slice ac0 xc0.length pc0] 53)).heap.size := by simp <;> omega
  generalize (w0.alloc (.cells #[.int .i64 n0, .slice aa0 xa0.length pa0, .int .i64 m0, .int .i64 b0, .slice ab0 xb0.length pb0, .slice ac0 xc0.length pc0] 53)) = w1 at hb1 H1 SZ1 R0_1 qa00_1 qa01_1 qa02_1 qa03_1 qa04_1 qa05_1 za0_1 ⊢
  have ZBa0 := Lib.hid za0_1
  clear R0_0
  refine (HZ0.out _).mono ?_
  rintro e w2 ⟨rfl, hb2⟩
  have H2 := bel_trans H1 hb2
  have SZ2 := Lib.hid hb2.size
  have qa00_2 := (hb2.cell (p := ⟨w0.heap.size, 0, none⟩) za0_1).trans qa00_1
  have qa01_2 := (hb2.cell (p := ⟨w0.heap.size, 1, none⟩) za0_1).trans qa01_1
  have qa02_2 := (hb2.cell (p := ⟨w0.heap.size, 2, none⟩) za0_1).trans qa02_1
  have qa03_2 := (hb2.cell (p := ⟨w0.heap.size, 3, none⟩) za0_1).trans qa03_1
  have qa04_2 := (hb2.cell (p := ⟨w0.heap.size, 4, none⟩) za0_1).trans qa04_1
  have qa05_2 := (hb2.cell (p := ⟨w0.heap.size, 5, none⟩) za0_1).trans qa05_1
  have za0_2 := Nat.lt_of_lt_of_le za0_1 hb2.size
  have R0_2 := Lib.hid (R0_1.out.keep hb2)
  clear R0_1 qa00_1 qa01_1 qa02_1 qa03_1 qa04_1 qa05_1 za0_1
  have hsp := fun sa0 sb0 sc0 w ha0 hb0 hc0 => sKeptValid n0 m0 b0 xa0 xb0 xc0 sa0 sb0 sc0 w ha0 hb0 hc0 hb0gx hb0gy hb0gz
  have him := fun sa0 sb0 sc0 w ha0 hb0 hc0 => keptValid n0 m0 b0 xa0 xb0 xc0 sa0 sb0 sc0 w ha0 hb0 hc0 hb0gx hb0gy hb0gz
  generalize kVal n0 m0 b0 xa0 xb0 xc0 = B at hsp him
  have HSP := Lib.hid hsp
  have HIM := Lib.hid him
  clear hsp him
  go_wp2_with fail
  refine (toKeptN n0 m0 b0 xa0 xb0 xc0 _ _ _ _ R0_2.out.rows.1 R0_2.out.rows.2.1 R0_2.out.rows.2.2 hb0gx hb0gy hb0gz).mono ?_
  rintro e w3 ⟨pAV0, qAV0, rAV0, rfl, hnew, hb3⟩
  have H3 := bel_trans H2 hb3
  have SZ3 := Lib.hid hb3.size
  have qa00_3 := (hb3.cell (p := ⟨w0.heap.size, 0, none⟩) za0_2).trans qa00_2
  have qa01_3 := (hb3.cell (p := ⟨w0.heap.size, 1, none⟩) za0_2).trans qa01_2
  have qa02_3 := (hb3.cell (p := ⟨w0.heap.size, 2, none⟩) za0_2).trans qa02_2
  have qa03_3 := (hb3.cell (p := ⟨w0.heap.size, 3, none⟩) za0_2).trans qa03_2
  have qa04_3 := (hb3.cell (p := ⟨w0.heap.size, 4, none⟩) za0_2).trans qa04_2
  have qa05_3 := (hb3.cell (p := ⟨w0.heap.size, 5, none⟩) za0_2).trans qa05_2
  have za0_3 := Nat.lt_of_lt_of_le za0_2 hb3.size
  have R0_3 := Lib.hid (R0_2.out.keep hb3)
  have AV0_3 := Lib.hid (hnew)
  clear qa00_2 qa01_2 qa02_2 qa03_2 qa04_2 qa05_2 za0_2 R0_2
  clear hnew
  go_wp2_with fail
  refine (HSP.out _ _ _ _ AV0_3.out.rows.1 AV0_3.out.rows.2.1 AV0_3.out.rows.2.2).mono ?_
  rintro e w4 ⟨rfl, hb4⟩
  have H4 := bel_trans H3 hb4
  have SZ4 := Lib.hid hb4.size
  have qa00_4 := (hb4.cell (p := ⟨w0.heap.size, 0, none⟩) za0_3).trans qa00_3
  have qa01_4 := (hb4.cell (p := ⟨w0.heap.size, 1, none⟩) za0_3).trans qa01_3
  have qa02_4 := (hb4.cell (p := ⟨w0.heap.size, 2, none⟩) za0_3).trans qa02_3
  have qa03_4 := (hb4.cell (p := ⟨w0.heap.size, 3, none⟩) za0_3).trans qa03_3
  have qa04_4 := (hb4.cell (p := ⟨w0.heap.size, 4, none⟩) za0_3).trans qa04_3
  have qa05_4 := (hb4.cell (p := ⟨w0.heap.size, 5, none⟩) za0_3).trans qa05_3
  have za0_4 := Nat.lt_of_lt_of_le za0_3 hb4.size
  have R0_4 := Lib.hid (R0_3.out.keep hb4)
  have AV0_4 := Lib.hid (AV0_3.out.keep hb4)
  clear qa00_3 qa01_3 qa02_3 qa03_3 qa04_3 qa05_3 za0_3 R0_3 AV0_3
  clear AV0_4
  go_wp2_with fail
  refine (toKeptN n0 m0 b0 xa0 xb0 xc0 _ _ _ _ R0_4.out.rows.1 R0_4.out.rows.2.1 R0_4.out.rows.2.2 hb0gx hb0gy hb0gz).mono ?_
  rintro e w5 ⟨pX0, qX0, rX0, rfl, hnew, hb5⟩
  have H5 := bel_trans H4 hb5
  have SZ5 := Lib.hid hb5.size
  have qa00_5 := (hb5.cell (p := ⟨w0.heap.size, 0, none⟩) za0_4).trans qa00_4
  have qa01_5 := (hb5.cell (p := ⟨w0.heap.size, 1, none⟩) za0_4).trans qa01_4
  have qa02_5 := (hb5.cell (p := ⟨w0.heap.size, 2, none⟩) za0_4).trans qa02_4
  have qa03_5 := (hb5.cell (p := ⟨w0.heap.size, 3, none⟩) za0_4).trans qa03_4
  have qa04_5 := (hb5.cell (p := ⟨w0.heap.size, 4, none⟩) za0_4).trans qa04_4
  have qa05_5 := (hb5.cell (p := ⟨w0.heap.size, 5, none⟩) za0_4).trans qa05_4
  have za0_5 := Nat.lt_of_lt_of_le za0_4 hb5.size
  have R0_5 := Lib.hid (R0_4.out.keep hb5)
  obtain ⟨ga0, ca0, gb0, cb0, gc0, cc0, rfl, rfl, rfl⟩ := id hnew.slices
  have X0_5 := Lib.hid (hnew)
  clear qa00_4 qa01_4 qa02_4 qa03_4 qa04_4 qa05_4 za0_4 R0_4
  clear hnew
  go_wp2_with fail
  have hb6 : Below w5.heap.size w5 (w5.alloc (.cells #[.int .i64 n0, .slice ga0 xa0.length ca0, .int .i64 m0, .int .i64 b0, .slice gb0 xb0.length cb0, .slice gc0 xc0.length cc0] 57)) := (Below.refl _ _).alloc (by simp <;> omega) _
  have H6 := bel_trans H5 hb6
  have SZ6 := Lib.hid hb6.size
  have qa00_6 := (hb6.cell (p := ⟨w0.heap.size, 0, none⟩) za0_5).trans qa00_5
  have qa01_6 := (hb6.cell (p := ⟨w0.heap.size, 1, none⟩) za0_5).trans qa01_5
  have qa02_6 := (hb6.cell (p := ⟨w0.heap.size, 2, none⟩) za0_5).trans qa02_5
  have qa03_6 := (hb6.cell (p := ⟨w0.heap.size, 3, none⟩) za0_5).trans qa03_5
  have qa04_6 := (hb6.cell (p := ⟨w0.heap.size, 4, none⟩) za0_5).trans qa04_5
  have qa05_6 := (hb6.cell (p := ⟨w0.heap.size, 5, none⟩) za0_5).trans qa05_5
  have za0_6 := Nat.lt_of_lt_of_le za0_5 hb6.size
  have R0_6 := Lib.hid (R0_5.out.keep hb6)
  have X0_6 := Lib.hid (X0_5.out.keep hb6)
  have qx00_6 : (w5.alloc (.cells #[.int .i64 n0, .slice ga0 xa0.length ca0, .int .i64 m0, .int .i64 b0, .slice gb0 xb0.length cb0, .slice gc0 xc0.length cc0] 57)).cell? ⟨w5.heap.size, 0, none⟩ = some (.int .i64 n0) := by go_simp
  have qx01_6 : (w5.alloc (.cells #[.int .i64 n0, .slice ga0 xa0.length ca0, .int .i64 m0, .int .i64 b0, .slice gb0 xb0.length cb0, .slice gc0 xc0.length cc0] 57)).cell? ⟨w5.heap.size, 1, none⟩ = some (.slice ga0 xa0.length ca0) := by go_simp
  have qx02_6 : (w5.alloc (.cells #[.int .i64 n0, .slice ga0 xa0.length ca0, .int .i64 m0, .int .i64 b0, .slice gb0 xb0.length cb0, .slice gc0 xc0.length cc0] 57)).cell? ⟨w5.heap.size, 2, none⟩ = some (.int .i64 m0) := by go_simp
  have qx03_6 : (w5.alloc (.cells #[.int .i64 n0, .slice ga0 xa0.length ca0, .int .i64 m0, .int .i64 b0, .slice gb0 xb0.length cb0, .slice gc0 xc0.length cc0] 57)).cell? ⟨w5.heap.size, 3, none⟩ = some (.int .i64 b0) := by go_simp
  have qx04_6 : (w5.alloc (.cells #[.int .i64 n0, .slice ga0 xa0.length ca0, .int .i64 m0, .int .i64 b0, .slice gb0 xb0.length cb0, .slice gc0 xc0.length cc0] 57)).cell? ⟨w5.heap.size, 4, none⟩ = some (.slice gb0 xb0.length cb0) := by go_simp
  have qx05_6 : (w5.alloc (.cells #[.int .i64 n0, .slice ga0 xa0.length ca0, .int .i64 m0, .int .i64 b0, .slice gb0 xb0.length cb0, .slice gc0 xc0.length cc0] 57)).cell? ⟨w5.heap.size, 5, none⟩ = some (.slice gc0 xc0.length cc0) := by go_simp
  have zx0_6 : w5.heap.size < (w5.alloc (.cells #[.int .i64 n0, .slice ga0 xa0.length ca0, .int .i64 m0, .int .i64 b0, .slice gb0 xb0.length cb0, .slice gc0 xc0.length cc0] 57)).heap.size := by simp <;> omega
  generalize (w5.alloc (.cells #[.int .i64 n0, .slice ga0 xa0.length ca0, .int .i64 m0, .int .i64 b0, .slice gb0 xb0.length cb0, .slice gc0 xc0.length cc0] 57)) = w6 at hb6 H6 SZ6 R0_6 X0_6 qa00_6 qa01_6 qa02_6 qa03_6 qa04_6 qa05_6 qx00_6 qx01_6 qx02_6 qx03_6 qx04_6 qx05_6 za0_6 zx0_6 ⊢
  have ZBx0 := Lib.hid zx0_6
  clear qa00_5 qa01_5 qa02_5 qa03_5 qa04_5 qa05_5 za0_5 R0_5 X0_5
  refine (HIM.out _ _ _ _ X0_6.out.rows.1 X0_6.out.rows.2.1 X0_6.out.rows.2.2).mono ?_
  rintro e w7 ⟨rfl, hb7⟩
  have H7 := bel_trans H6 hb7
  have SZ7 := Lib.hid hb7.size
  have qa00_7 := (hb7.cell (p := ⟨w0.heap.size, 0, none⟩) za0_6).trans qa00_6
  have qa01_7 := (hb7.cell (p := ⟨w0.heap.size, 1, none⟩) za0_6).trans qa01_6
  have qa02_7 := (hb7.cell (p := ⟨w0.heap.size, 2, none⟩) za0_6).trans qa02_6
  have qa03_7 := (hb7.cell (p := ⟨w0.heap.size, 3, none⟩) za0_6).trans qa03_6
  have qa04_7 := (hb7.cell (p := ⟨w0.heap.size, 4, none⟩) za0_6).trans qa04_6
  have qa05_7 := (hb7.cell (p := ⟨w0.heap.size, 5, none⟩) za0_6).trans qa05_6
  have za0_7 := Nat.lt_of_lt_of_le za0_6 hb7.size
  have qx00_7 := (hb7.cell (p := ⟨w5.heap.size, 0, none⟩) zx0_6).trans qx00_6
  have qx01_7 := (hb7.cell (p := ⟨w5.heap.size, 1, none⟩) zx0_6).trans qx01_6
  have qx02_7 := (hb7.cell (p := ⟨w5.heap.size, 2, none⟩) zx0_6).trans qx02_6
  have qx03_7 := (hb7.cell (p := ⟨w5.heap.size, 3, none⟩) zx0_6).trans qx03_6
  have qx04_7 := (hb7.cell (p := ⟨w5.heap.size, 4, none⟩) zx0_6).trans qx04_6
  have qx05_7 := (hb7.cell (p := ⟨w5.heap.size, 5, none⟩) zx0_6).trans qx05_6
  have zx0_7 := Nat.lt_of_lt_of_le zx0_6 hb7.size
  have R0_7 := Lib.hid (R0_6.out.keep hb7)
  have X0_7 := Lib.hid (X0_6.out.keep hb7)
  clear qa00_6 qa01_6 qa02_6 qa03_6 qa04_6 qa05_6 za0_6 R0_6 X0_6 qx00_6 qx01_6 qx02_6 qx03_6 qx04_6 qx05_6 zx0_6
  go_wp2_with fail
  have hold : ∀ w' : World, Below w7.heap.size w7 w' → (w'.cell? ⟨w5.heap.size, 0, none⟩ = some (.int .i64 n0) ∧ w'.cell? ⟨w5.heap.size, 1, none⟩ = some (.slice ga0 xa0.length ca0) ∧ w'.cell? ⟨w5.heap.size, 2, none⟩ = some (.int .i64 m0) ∧ w'.cell? ⟨w5.heap.size, 3, none⟩ = some (.int .i64 b0) ∧ w'.cell? ⟨w5.heap.size, 4, none⟩ = some (.slice gb0 xb0.length cb0) ∧ w'.cell? ⟨w5.heap.size, 5, none⟩ = some (.slice gc0 xc0.length cc0) ∧ w'.cell? ⟨w0.heap.size, 0, none⟩ = some (.int .i64 n0) ∧ w'.cell? ⟨w0.heap.size, 1, none⟩ = some (.slice aa0 xa0.length pa0) ∧ w'.cell? ⟨w0.heap.size, 2, none⟩ = some (.int .i64 m0) ∧ w'.cell? ⟨w0.heap.size, 3, none⟩ = some (.int .i64 b0) ∧ w'.cell? ⟨w0.heap.size, 4, none⟩ = some (.slice ab0 xb0.length pb0) ∧ w'.cell? ⟨w0.heap.size, 5, none⟩ = some (.slice ac0 xc0.length pc0)) := fun w' h => ⟨(h.cell (p := ⟨w5.heap.size, 0, none⟩) zx0_7).trans qx00_7, (h.cell (p := ⟨w5.heap.size, 1, none⟩) zx0_7).trans qx01_7, (h.cell (p := ⟨w5.heap.size, 2, none⟩) zx0_7).trans qx02_7, (h.cell (p := ⟨w5.heap.size, 3, none⟩) zx0_7).trans qx03_7, (h.cell (p := ⟨w5.heap.size, 4, none⟩) zx0_7).trans qx04_7, (h.cell (p := ⟨w5.heap.size, 5, none⟩) zx0_7).trans qx05_7, (h.cell (p := ⟨w0.heap.size, 0, none⟩) za0_7).trans qa00_7, (h.cell (p := ⟨w0.heap.size, 1, none⟩) za0_7).trans qa01_7, (h.cell (p := ⟨w0.heap.size, 2, none⟩) za0_7).trans qa02_7, (h.cell (p := ⟨w0.heap.size, 3, none⟩) za0_7).trans qa03_7, (h.cell (p := ⟨w0.heap.size, 4, none⟩) za0_7).trans qa04_7, (h.cell (p := ⟨w0.heap.size, 5, none⟩) za0_7).trans qa05_7⟩
  have HOLD := Lib.hid hold
  clear hold
  go_region_held3 (fun w' : World => w'.cell? ⟨w5.heap.size, 0, none⟩ = some (.int .i64 n0) ∧ w'.cell? ⟨w5.heap.size, 1, none⟩ = some (.slice ga0 xa0.length ca0) ∧ w'.cell? ⟨w5.heap.size, 2, none⟩ = some (.int .i64 m0) ∧ w'.cell? ⟨w5.heap.size, 3, none⟩ = some (.int .i64 b0) ∧ w'.cell? ⟨w5.heap.size, 4, none⟩ = some (.slice gb0 xb0.length cb0) ∧ w'.cell? ⟨w5.heap.size, 5, none⟩ = some (.slice gc0 xc0.length cc0) ∧ w'.cell? ⟨w0.heap.size, 0, none⟩ = some (.int .i64 n0) ∧ w'.cell? ⟨w0.heap.size, 1, none⟩ = some (.slice aa0 xa0.length pa0) ∧ w'.cell? ⟨w0.heap.size, 2, none⟩ = some (.int .i64 m0) ∧ w'.cell? ⟨w0.heap.size, 3, none⟩ = some (.int .i64 b0) ∧ w'.cell? ⟨w0.heap.size, 4, none⟩ = some (.slice ab0 xb0.length pb0) ∧ w'.cell? ⟨w0.heap.size, 5, none⟩ = some (.slice ac0 xc0.length pc0)) (first | exact HOLD.out _ ((Below.refl _ _).drew) | exact HOLD.out _ (bel_trans ((Below.refl _ _).drew) hb8) | exact HOLD.out _ (bel_trans (bel_trans ((Below.refl _ _).drew) hb8) hb9)) (first | (go_at_call 36; (with_reducible refine (toKeptN n0 m0 b0 xa0 xb0 xc0 _ _ _ _ (R0_7.out.keep ((Below.refl _ _).drew)).rows.1 (R0_7.out.keep ((Below.refl _ _).drew)).rows.2.1 (R0_7.out.keep ((Below.refl _ _).drew)).rows.2.2 hb0gx hb0gy hb0gz).mono ?_); rintro e w8 ⟨pB0, qB0, rB0, rfl, hnew0, hb8⟩) | (go_at_call 38; (with_reducible refine (eqKept n0 m0 b0 xa0 xb0 xc0 _ _ _ _ _ _ _ (X0_7.out.keep (bel_trans ((Below.refl _ _).drew) hb8)).rows.1 (X0_7.out.keep (bel_trans ((Below.refl _ _).drew) hb8)).rows.2.1 (X0_7.out.keep (bel_trans ((Below.refl _ _).drew) hb8)).rows.2.2 hnew0.rows.1 hnew0.rows.2.1 hnew0.rows.2.2 hb0gx hb0gy hb0iz).mono ?_); rintro e w9 ⟨rfl, hb9⟩))
  have hq : Below w7.heap.size w7 w9 := (bel_trans (bel_trans ((Below.refl _ _).drew) hb8) hb9)
  clear hb8 hb9 HOLD hnew0
  have hb9 := hq
  clear hq
  have H9 := bel_trans H7 hb9
  have SZ9 := Lib.hid hb9.size
  have qa00_9 := (hb9.cell (p := ⟨w0.heap.size, 0, none⟩) za0_7).trans qa00_7
  have qa01_9 := (hb9.cell (p := ⟨w0.heap.size, 1, none⟩) za0_7).trans qa01_7
  have qa02_9 := (hb9.cell (p := ⟨w0.heap.size, 2, none⟩) za0_7).trans qa02_7
  have qa03_9 := (hb9.cell (p := ⟨w0.heap.size, 3, none⟩) za0_7).trans qa03_7
  have qa04_9 := (hb9.cell (p := ⟨w0.heap.size, 4, none⟩) za0_7).trans qa04_7
  have qa05_9 := (hb9.cell (p := ⟨w0.heap.size, 5, none⟩) za0_7).trans qa05_7
  have za0_9 := Nat.lt_of_lt_of_le za0_7 hb9.size
  have qx00_9 := (hb9.cell (p := ⟨w5.heap.size, 0, none⟩) zx0_7).trans qx00_7
  have qx01_9 := (hb9.cell (p := ⟨w5.heap.size, 1, none⟩) zx0_7).trans qx01_7
  have qx02_9 := (hb9.cell (p := ⟨w5.heap.size, 2, none⟩) zx0_7).trans qx02_7
  have qx03_9 := (hb9.cell (p := ⟨w5.heap.size, 3, none⟩) zx0_7).trans qx03_7
  have qx04_9 := (hb9.cell (p := ⟨w5.heap.size, 4, none⟩) zx0_7).trans qx04_7
  have qx05_9 := (hb9.cell (p := ⟨w5.heap.size, 5, none⟩) zx0_7).trans qx05_7
  have zx0_9 := Nat.lt_of_lt_of_le zx0_7 hb9.size
  have R0_9 := Lib.hid (R0_7.out.keep hb9)
  have X0_9 := Lib.hid (X0_7.out.keep hb9)
  clear qa00_7 qa01_7 qa02_7 qa03_7 qa04_7 qa05_7 za0_7 qx00_7 qx01_7 qx02_7 qx03_7 qx04_7 qx05_7 zx0_7 R0_7 X0_7
  go_wp2
  go_ret
  exact ⟨rfl, H9⟩

set_option maxRecDepth 100000 in
theorem lifted (os : Os) (started : os.Started) (H : Type) (enc : TypeId × Value → H) :
    ReturnsInHanded {} Try.checked os 8 .any (Rows.fnExactKeptValidSpec.pre6 enc Try.prog Try.f8 Rows.fnExactKeptValidRow.domain false) (Rows.fnExactKeptValidSpec.post enc Try.prog Try.f8 false true false false) := by
  refine returnsInHanded_of_change (C := Try.checked) own started (by kernel_rfl) Try.func8
    (ChangeSpec.witness6 (enc := enc) (C := Try.checked) false ⟨#[], #[.agg #[.int .i64 0, .slice none 0 0, .int .i64 0, .int .i64 0, .slice none 0 0, .slice none 0 0]], []⟩ 8 (by kernel_rfl) (by kernel_rfl) (by kernel_rfl) (by kernel_rfl)) ?_
  intro W base args ds gs before hval0 hW hcnd _
  have hval : ∀ (j : Nat) t v, Try.f8.params[j]? = some t → args[j]? = some v → Value.okWide Try.prog W .any base t v := hval0
  have hW' := hW
  obtain ⟨p, q, hA0, hV, rfl, hfz, hnd⟩ := hW
  have hA : DataW.TrodAll enc Try.prog W 0 (fun _ => true) true Try.f8.params.toList args.toList ds p := hA0
  rw [Try.params8] at hA hval
  obtain ⟨v0, vs0, d0, ds0, p0, q0, hargs, rfl, rfl, h0, rr0⟩ := trodAll_cons hA
  obtain ⟨rfl, rfl, rfl⟩ := trodAll_nil rr0
  obtain rfl : args = #[v0] := by cases args; simp_all
  obtain ⟨rfl, rfl⟩ := trodVars_none hV
  have k0 := h0
  have lt0 : ∀ x ∈ p0, x.block < W.heap.size := by obtain ⟨m, hm⟩ := k0; exact DataW.trod_lt m _ _ _ hm
  obtain ⟨n0, m0, b0, sa0, sb0, sc0, xa0, xb0, xc0, rfl, r0, la0, lb0, lc0⟩ := openKept (hval 0 53 v0 rfl rfl) h0
  clear hA0 hval0
  refine (walk W n0 m0 b0 sa0 sb0 sc0 xa0 xb0 xc0 r0 la0 lb0 lc0).mono fun e W' ⟨he, bel⟩ => ?_
  subst he
  exact ⟨_, rfl, _, _, _, [], _, [], hW', trodAll_mk1 (shut_bool Try.underlying4 _), (trodAll_cons_mk (Below.trod laidOut (by kernel_rfl) (of_decide_eq_true (by kernel_rfl)) k0 bel lt0) trodAll_mk0), rfl, bel.frame _, fun h => by cases h⟩

theorem over : Rows.fnExactKeptValidRow.holds Try.pinned (OpenSpec.ofChange Rows.fnExactKeptValidSpec) :=
  OpenClaim.holds_of_wide 8 Try.f8 rfl rfl rfl rfl rfl rfl rfl ⟨rfl, rfl, rfl, rfl, rfl⟩ rfl rfl rfl rfl rfl (by kernel_rfl) Try.func8 (by kernel_rfl)
    (of_decide_eq_true (by kernel_rfl)) (by unfold Func.isWrapper; first | (rw [if_pos (by decide +kernel)]; kernel_rfl) | (rw [if_neg (by decide +kernel)]; exact ⟨rfl, rfl⟩))
    (fun os started H enc _ => lifted os started H enc)

theorem proved : Rows.FnExactKeptValidSaid := over
end Go.Proofs.Ytdblcaeeepkebaa.fnExactKeptValid
