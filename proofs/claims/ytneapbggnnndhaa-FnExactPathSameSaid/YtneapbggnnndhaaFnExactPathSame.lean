/-
  Proved: at every two paths impl.PathSame answers as the model spec.PathSame does, and writes into no argument (the law FnExactPathSame returns true for every two paths), with no further condition.
-/
import Derived.Test.YtneapbggnnndhaaRows
import Derived.Test.YtneapbggnnndhaaPathF
import Derived.Test.YtneapbggnnndhaaVEdges
import Derived.Test.YtneapbggnnndhaaOpenV
import Derived.WalkKit
import Derived.ProofKit
import Derived.OpenShut
import Derived.ShutString
import Derived.ChangeOld
import Derived.Below
namespace Go.Proofs.Ytneapbggnnndhaa.fnExactPathSame
open Go.Proofs.Ytneapbggnnndhaa Go.BigFrame
open Go.ChangeShapes Go.WideShapes Go.ChangeAt Go.RowKit
open Go.ChangeMaps (open_string shut_string)
set_option linter.unusedVariables false

theorem own : ownKnob Try.prog.godebug = none := by kernel_rfl
theorem laidOut : laidOutB Try.prog = true := by kernel_rfl

set_option maxRecDepth 100000 in
set_option maxHeartbeats 4000000 in
theorem walk (w : World) (x0 : Int) (s0 : Value) (i0 : List Int) (r0 : Row w s0 i0) (l0 : i0.length ≤ 9223372036854775807) (x1 : Int) (s1 : Value) (i1 : List Int) (r1 : Row w s1 i1) (l1 : i1.length ≤ 9223372036854775807) :
    Calls Try.prog 4 #[.agg #[s0, .int .i64 x0], .agg #[s1, .int .i64 x1]] w fun e w' => e = .returned (.bool true) ∧ Below w.heap.size w w' := by
  obtain ⟨ad0, cp0, hs0, hz0⟩ := id r0
  subst hs0
  clear hz0
  have R0 := Lib.hid r0
  clear r0
  obtain ⟨ad1, cp1, hs1, hz1⟩ := id r1
  subst hs1
  clear hz1
  have R1 := Lib.hid r1
  clear r1
  have hsz0 := fun w => szPath x0 i0.length cp0 ad0 (1048576) w (by omega) l0
  by_cases hbig0 : i0.length ≤ 1048576
  rotate_left
  · have eR : szR (1048576) i0.length = -1 := by rw [szR, if_neg hbig0]
    rw [eR] at hsz0
    have HZ0 := Lib.hid hsz0
    clear hsz0 eR
    obtain ⟨w0, hw0⟩ : ∃ w0, w0 = w := ⟨_, rfl⟩
    subst hw0
    have H0 := Below.refl w0.heap.size w0
    go_enter Try.func4, Try.ntmps4
    go_wp2_with fail
    have hb1 : Below w0.heap.size w0 ((w0.alloc (.cells #[.slice ad0 i0.length cp0, .int .i64 x0] 46)).alloc (.cells #[.slice ad1 i1.length cp1, .int .i64 x1] 46)) := ((Below.refl _ _).alloc (by simp <;> omega) _).alloc (by simp <;> omega) _
    have qa00_1 : ((w0.alloc (.cells #[.slice ad0 i0.length cp0, .int .i64 x0] 46)).alloc (.cells #[.slice ad1 i1.length cp1, .int .i64 x1] 46)).cell? ⟨w0.heap.size, 0, none⟩ = some (.slice ad0 i0.length cp0) := by go_simp
    have qa01_1 : ((w0.alloc (.cells #[.slice ad0 i0.length cp0, .int .i64 x0] 46)).alloc (.cells #[.slice ad1 i1.length cp1, .int .i64 x1] 46)).cell? ⟨w0.heap.size, 1, none⟩ = some (.int .i64 x0) := by go_simp
    have za0_1 : w0.heap.size < ((w0.alloc (.cells #[.slice ad0 i0.length cp0, .int .i64 x0] 46)).alloc (.cells #[.slice ad1 i1.length cp1, .int .i64 x1] 46)).heap.size := by simp <;> omega
    have fa0_1 : w0.heap.size ≤ w0.heap.size := by have := H0.size; omega
    have qa10_1 : ((w0.alloc (.cells #[.slice ad0 i0.length cp0, .int .i64 x0] 46)).alloc (.cells #[.slice ad1 i1.length cp1, .int .i64 x1] 46)).cell? ⟨w0.heap.size + 1, 0, none⟩ = some (.slice ad1 i1.length cp1) := by go_simp
    have qa11_1 : ((w0.alloc (.cells #[.slice ad0 i0.length cp0, .int .i64 x0] 46)).alloc (.cells #[.slice ad1 i1.length cp1, .int .i64 x1] 46)).cell? ⟨w0.heap.size + 1, 1, none⟩ = some (.int .i64 x1) := by go_simp
    have za1_1 : w0.heap.size + 1 < ((w0.alloc (.cells #[.slice ad0 i0.length cp0, .int .i64 x0] 46)).alloc (.cells #[.slice ad1 i1.length cp1, .int .i64 x1] 46)).heap.size := by simp <;> omega
    have fa1_1 : w0.heap.size ≤ w0.heap.size + 1 := by have := H0.size; omega
    have H1 := bel_trans H0 hb1
    generalize ((w0.alloc (.cells #[.slice ad0 i0.length cp0, .int .i64 x0] 46)).alloc (.cells #[.slice ad1 i1.length cp1, .int .i64 x1] 46)) = w1 at hb1 H1 qa00_1 qa01_1 za0_1 qa10_1 qa11_1 za1_1 ⊢
    refine (HZ0.out _).mono ?_
    rintro e w2 ⟨rfl, hb2⟩
    have H2 := bel_trans H1 hb2
    have qa00_2 := (hb2.cell (p := ⟨w0.heap.size, 0, none⟩) za0_1).trans qa00_1
    have qa01_2 := (hb2.cell (p := ⟨w0.heap.size, 1, none⟩) za0_1).trans qa01_1
    have za0_2 := Nat.lt_of_lt_of_le za0_1 hb2.size
    have qa10_2 := (hb2.cell (p := ⟨w0.heap.size + 1, 0, none⟩) za1_1).trans qa10_1
    have qa11_2 := (hb2.cell (p := ⟨w0.heap.size + 1, 1, none⟩) za1_1).trans qa11_1
    have za1_2 := Nat.lt_of_lt_of_le za1_1 hb2.size
    clear qa00_1 qa01_1 qa10_1 qa11_1 za0_1 za1_1
    go_wp2
    go_ret
    exact ⟨rfl, H2⟩
  have eR : szR (1048576) i0.length = ((1048576 - i0.length : Nat) : Int) := by rw [szR, if_pos hbig0]
  rw [eR] at hsz0
  have HZ0 := Lib.hid hsz0
  have hnn0 : decide (((1048576 - i0.length : Nat) : Int) < 0) = false := by simp <;> omega
  have hb0g : i0.length ≤ 1048576 := by omega
  have hb0h : i0.length ≤ 281474976710656 := by omega
  clear hsz0 eR
  have hsz1 := fun w => szPath x1 i1.length cp1 ad1 (1048576 - i0.length) w (by omega) l1
  by_cases hbig1 : i1.length ≤ 1048576 - i0.length
  rotate_left
  · have eR : szR (1048576 - i0.length) i1.length = -1 := by rw [szR, if_neg hbig1]
    rw [eR] at hsz1
    have HZ1 := Lib.hid hsz1
    clear hsz1 eR
    clear hb0g
    obtain ⟨w0, hw0⟩ : ∃ w0, w0 = w := ⟨_, rfl⟩
    subst hw0
    have H0 := Below.refl w0.heap.size w0
    go_enter Try.func4, Try.ntmps4
    go_wp2_with fail
    have hb1 : Below w0.heap.size w0 ((w0.alloc (.cells #[.slice ad0 i0.length cp0, .int .i64 x0] 46)).alloc (.cells #[.slice ad1 i1.length cp1, .int .i64 x1] 46)) := ((Below.refl _ _).alloc (by simp <;> omega) _).alloc (by simp <;> omega) _
    have qa00_1 : ((w0.alloc (.cells #[.slice ad0 i0.length cp0, .int .i64 x0] 46)).alloc (.cells #[.slice ad1 i1.length cp1, .int .i64 x1] 46)).cell? ⟨w0.heap.size, 0, none⟩ = some (.slice ad0 i0.length cp0) := by go_simp
    have qa01_1 : ((w0.alloc (.cells #[.slice ad0 i0.length cp0, .int .i64 x0] 46)).alloc (.cells #[.slice ad1 i1.length cp1, .int .i64 x1] 46)).cell? ⟨w0.heap.size, 1, none⟩ = some (.int .i64 x0) := by go_simp
    have za0_1 : w0.heap.size < ((w0.alloc (.cells #[.slice ad0 i0.length cp0, .int .i64 x0] 46)).alloc (.cells #[.slice ad1 i1.length cp1, .int .i64 x1] 46)).heap.size := by simp <;> omega
    have fa0_1 : w0.heap.size ≤ w0.heap.size := by have := H0.size; omega
    have qa10_1 : ((w0.alloc (.cells #[.slice ad0 i0.length cp0, .int .i64 x0] 46)).alloc (.cells #[.slice ad1 i1.length cp1, .int .i64 x1] 46)).cell? ⟨w0.heap.size + 1, 0, none⟩ = some (.slice ad1 i1.length cp1) := by go_simp
    have qa11_1 : ((w0.alloc (.cells #[.slice ad0 i0.length cp0, .int .i64 x0] 46)).alloc (.cells #[.slice ad1 i1.length cp1, .int .i64 x1] 46)).cell? ⟨w0.heap.size + 1, 1, none⟩ = some (.int .i64 x1) := by go_simp
    have za1_1 : w0.heap.size + 1 < ((w0.alloc (.cells #[.slice ad0 i0.length cp0, .int .i64 x0] 46)).alloc (.cells #[.slice ad1 i1.length cp1, .int .i64 x1] 46)).heap.size := by simp <;> omega
    have fa1_1 : w0.heap.size ≤ w0.heap.size + 1 := by have := H0.size; omega
    have H1 := bel_trans H0 hb1
    generalize ((w0.alloc (.cells #[.slice ad0 i0.length cp0, .int .i64 x0] 46)).alloc (.cells #[.slice ad1 i1.length cp1, .int .i64 x1] 46)) = w1 at hb1 H1 qa00_1 qa01_1 za0_1 qa10_1 qa11_1 za1_1 ⊢
    refine (HZ0.out _).mono ?_
    rintro e w2 ⟨rfl, hb2⟩
    have H2 := bel_trans H1 hb2
    have qa00_2 := (hb2.cell (p := ⟨w0.heap.size, 0, none⟩) za0_1).trans qa00_1
    have qa01_2 := (hb2.cell (p := ⟨w0.heap.size, 1, none⟩) za0_1).trans qa01_1
    have za0_2 := Nat.lt_of_lt_of_le za0_1 hb2.size
    have qa10_2 := (hb2.cell (p := ⟨w0.heap.size + 1, 0, none⟩) za1_1).trans qa10_1
    have qa11_2 := (hb2.cell (p := ⟨w0.heap.size + 1, 1, none⟩) za1_1).trans qa11_1
    have za1_2 := Nat.lt_of_lt_of_le za1_1 hb2.size
    clear qa00_1 qa01_1 qa10_1 qa11_1 za0_1 za1_1
    go_wp2_with fail
    refine (HZ1.out _).mono ?_
    rintro e w3 ⟨rfl, hb3⟩
    have H3 := bel_trans H2 hb3
    have qa00_3 := (hb3.cell (p := ⟨w0.heap.size, 0, none⟩) za0_2).trans qa00_2
    have qa01_3 := (hb3.cell (p := ⟨w0.heap.size, 1, none⟩) za0_2).trans qa01_2
    have za0_3 := Nat.lt_of_lt_of_le za0_2 hb3.size
    have qa10_3 := (hb3.cell (p := ⟨w0.heap.size + 1, 0, none⟩) za1_2).trans qa10_2
    have qa11_3 := (hb3.cell (p := ⟨w0.heap.size + 1, 1, none⟩) za1_2).trans qa11_2
    have za1_3 := Nat.lt_of_lt_of_le za1_2 hb3.size
    clear qa00_2 qa01_2 qa10_2 qa11_2 za0_2 za1_2
    go_wp2
    go_ret
    exact ⟨rfl, H3⟩
  have eR : szR (1048576 - i0.length) i1.length = ((1048576 - i0.length - i1.length : Nat) : Int) := by rw [szR, if_pos hbig1]
  rw [eR] at hsz1
  have HZ1 := Lib.hid hsz1
  have hnn1 : decide (((1048576 - i0.length - i1.length : Nat) : Int) < 0) = false := by simp <;> omega
  have hb1g : i1.length ≤ 1048576 := by omega
  have hb1h : i1.length ≤ 281474976710656 := by omega
  clear hsz1 eR
  obtain ⟨w0, hw0⟩ : ∃ w0, w0 = w := ⟨_, rfl⟩
  subst hw0
  have H0 := Below.refl w0.heap.size w0
  have R0_0 := R0
  clear R0
  have R1_0 := R1
  clear R1
  go_enter Try.func4, Try.ntmps4
  go_wp2_with fail
  have hb1 : Below w0.heap.size w0 ((w0.alloc (.cells #[.slice ad0 i0.length cp0, .int .i64 x0] 46)).alloc (.cells #[.slice ad1 i1.length cp1, .int .i64 x1] 46)) := ((Below.refl _ _).alloc (by simp <;> omega) _).alloc (by simp <;> omega) _
  have qa00_1 : ((w0.alloc (.cells #[.slice ad0 i0.length cp0, .int .i64 x0] 46)).alloc (.cells #[.slice ad1 i1.length cp1, .int .i64 x1] 46)).cell? ⟨w0.heap.size, 0, none⟩ = some (.slice ad0 i0.length cp0) := by go_simp
  have qa01_1 : ((w0.alloc (.cells #[.slice ad0 i0.length cp0, .int .i64 x0] 46)).alloc (.cells #[.slice ad1 i1.length cp1, .int .i64 x1] 46)).cell? ⟨w0.heap.size, 1, none⟩ = some (.int .i64 x0) := by go_simp
  have za0_1 : w0.heap.size < ((w0.alloc (.cells #[.slice ad0 i0.length cp0, .int .i64 x0] 46)).alloc (.cells #[.slice ad1 i1.length cp1, .int .i64 x1] 46)).heap.size := by simp <;> omega
  have fa0_1 : w0.heap.size ≤ w0.heap.size := by have := H0.size; omega
  have qa10_1 : ((w0.alloc (.cells #[.slice ad0 i0.length cp0, .int .i64 x0] 46)).alloc (.cells #[.slice ad1 i1.length cp1, .int .i64 x1] 46)).cell? ⟨w0.heap.size + 1, 0, none⟩ = some (.slice ad1 i1.length cp1) := by go_simp
  have qa11_1 : ((w0.alloc (.cells #[.slice ad0 i0.length cp0, .int .i64 x0] 46)).alloc (.cells #[.slice ad1 i1.length cp1, .int .i64 x1] 46)).cell? ⟨w0.heap.size + 1, 1, none⟩ = some (.int .i64 x1) := by go_simp
  have za1_1 : w0.heap.size + 1 < ((w0.alloc (.cells #[.slice ad0 i0.length cp0, .int .i64 x0] 46)).alloc (.cells #[.slice ad1 i1.length cp1, .int .i64 x1] 46)).heap.size := by simp <;> omega
  have fa1_1 : w0.heap.size ≤ w0.heap.size + 1 := by have := H0.size; omega
  have H1 := bel_trans H0 hb1
  have R0_1 := Lib.hid (R0_0.out.keep hb1)
  have R1_1 := Lib.hid (R1_0.out.keep hb1)
  generalize ((w0.alloc (.cells #[.slice ad0 i0.length cp0, .int .i64 x0] 46)).alloc (.cells #[.slice ad1 i1.length cp1, .int .i64 x1] 46)) = w1 at hb1 H1 qa00_1 qa01_1 za0_1 qa10_1 qa11_1 za1_1 R0_1 R1_1 ⊢
  clear R0_0 R1_0
  refine (HZ0.out _).mono ?_
  rintro e w2 ⟨rfl, hb2⟩
  have H2 := bel_trans H1 hb2
  have qa00_2 := (hb2.cell (p := ⟨w0.heap.size, 0, none⟩) za0_1).trans qa00_1
  have qa01_2 := (hb2.cell (p := ⟨w0.heap.size, 1, none⟩) za0_1).trans qa01_1
  have za0_2 := Nat.lt_of_lt_of_le za0_1 hb2.size
  have qa10_2 := (hb2.cell (p := ⟨w0.heap.size + 1, 0, none⟩) za1_1).trans qa10_1
  have qa11_2 := (hb2.cell (p := ⟨w0.heap.size + 1, 1, none⟩) za1_1).trans qa11_1
  have za1_2 := Nat.lt_of_lt_of_le za1_1 hb2.size
  have R0_2 := Lib.hid (R0_1.out.keep hb2)
  have R1_2 := Lib.hid (R1_1.out.keep hb2)
  clear qa00_1 qa01_1 qa10_1 qa11_1 za0_1 za1_1 R0_1 R1_1
  go_wp2_with fail
  refine (HZ1.out _).mono ?_
  rintro e w3 ⟨rfl, hb3⟩
  have H3 := bel_trans H2 hb3
  have qa00_3 := (hb3.cell (p := ⟨w0.heap.size, 0, none⟩) za0_2).trans qa00_2
  have qa01_3 := (hb3.cell (p := ⟨w0.heap.size, 1, none⟩) za0_2).trans qa01_2
  have za0_3 := Nat.lt_of_lt_of_le za0_2 hb3.size
  have qa10_3 := (hb3.cell (p := ⟨w0.heap.size + 1, 0, none⟩) za1_2).trans qa10_2
  have qa11_3 := (hb3.cell (p := ⟨w0.heap.size + 1, 1, none⟩) za1_2).trans qa11_2
  have za1_3 := Nat.lt_of_lt_of_le za1_2 hb3.size
  have R0_3 := Lib.hid (R0_2.out.keep hb3)
  have R1_3 := Lib.hid (R1_2.out.keep hb3)
  clear qa00_2 qa01_2 qa10_2 qa11_2 za0_2 za1_2 R0_2 R1_2
  go_wp2_with fail
  have hold : ∀ w' : World, Below w3.heap.size w3 w' → (w'.cell? ⟨w0.heap.size, 0, none⟩ = some (.slice ad0 i0.length cp0) ∧ w'.cell? ⟨w0.heap.size, 1, none⟩ = some (.int .i64 x0) ∧ w'.cell? ⟨w0.heap.size + 1, 0, none⟩ = some (.slice ad1 i1.length cp1) ∧ w'.cell? ⟨w0.heap.size + 1, 1, none⟩ = some (.int .i64 x1)) := fun w' h => ⟨(h.cell (p := ⟨w0.heap.size, 0, none⟩) za0_3).trans qa00_3, (h.cell (p := ⟨w0.heap.size, 1, none⟩) za0_3).trans qa01_3, (h.cell (p := ⟨w0.heap.size + 1, 0, none⟩) za1_3).trans qa10_3, (h.cell (p := ⟨w0.heap.size + 1, 1, none⟩) za1_3).trans qa11_3⟩
  have HOLD := Lib.hid hold
  clear hold
  go_region_held3 (fun w' : World => w'.cell? ⟨w0.heap.size, 0, none⟩ = some (.slice ad0 i0.length cp0) ∧ w'.cell? ⟨w0.heap.size, 1, none⟩ = some (.int .i64 x0) ∧ w'.cell? ⟨w0.heap.size + 1, 0, none⟩ = some (.slice ad1 i1.length cp1) ∧ w'.cell? ⟨w0.heap.size + 1, 1, none⟩ = some (.int .i64 x1)) (first | exact HOLD.out _ ((Below.refl _ _).drew) | exact HOLD.out _ (bel_trans ((Below.refl _ _).drew) hb4) | exact HOLD.out _ (bel_trans (bel_trans ((Below.refl _ _).drew) hb4) hb5) | exact HOLD.out _ (bel_trans (bel_trans (bel_trans ((Below.refl _ _).drew) hb4) hb5) hb6)) (first | (go_at_call 24; (with_reducible refine (toPath x0 i0 _ _ (R0_3.out.keep ((Below.refl _ _).drew)) hb0g).mono ?_); rintro e w4 ⟨sA0, rfl, hnew0, hb4⟩) | (go_at_call 24; (with_reducible refine (toPath x1 i1 _ _ (R1_3.out.keep (bel_trans ((Below.refl _ _).drew) hb4)) hb1g).mono ?_); rintro e w5 ⟨sA1, rfl, hnew1, hb5⟩) | (go_at_call 23; (with_reducible refine (sPathSame x0 x1 i0 i1 _ _ _ (hnew0.row.keep hb5) hnew1.row hb0h hb1h).mono ?_); rintro e w6 ⟨rfl, hb6⟩))
  have hq : Below w3.heap.size w3 w6 := (bel_trans (bel_trans (bel_trans ((Below.refl _ _).drew) hb4) hb5) hb6)
  clear hb4 hb5 hb6 HOLD
  have hb6 := hq
  clear hq
  have H6 := bel_trans H3 hb6
  have qa00_6 := (hb6.cell (p := ⟨w0.heap.size, 0, none⟩) za0_3).trans qa00_3
  have qa01_6 := (hb6.cell (p := ⟨w0.heap.size, 1, none⟩) za0_3).trans qa01_3
  have za0_6 := Nat.lt_of_lt_of_le za0_3 hb6.size
  have qa10_6 := (hb6.cell (p := ⟨w0.heap.size + 1, 0, none⟩) za1_3).trans qa10_3
  have qa11_6 := (hb6.cell (p := ⟨w0.heap.size + 1, 1, none⟩) za1_3).trans qa11_3
  have za1_6 := Nat.lt_of_lt_of_le za1_3 hb6.size
  have R0_6 := Lib.hid (R0_3.out.keep hb6)
  have R1_6 := Lib.hid (R1_3.out.keep hb6)
  clear qa00_3 qa01_3 qa10_3 qa11_3 za0_3 za1_3 R0_3 R1_3
  go_wp2_with fail
  refine (toPath x0 i0 _ _ R0_6.out hb0g).mono ?_
  rintro e w7 ⟨_, rfl, hnew, hb7⟩
  have H7 := bel_trans H6 hb7
  have qa00_7 := (hb7.cell (p := ⟨w0.heap.size, 0, none⟩) za0_6).trans qa00_6
  have qa01_7 := (hb7.cell (p := ⟨w0.heap.size, 1, none⟩) za0_6).trans qa01_6
  have za0_7 := Nat.lt_of_lt_of_le za0_6 hb7.size
  have qa10_7 := (hb7.cell (p := ⟨w0.heap.size + 1, 0, none⟩) za1_6).trans qa10_6
  have qa11_7 := (hb7.cell (p := ⟨w0.heap.size + 1, 1, none⟩) za1_6).trans qa11_6
  have za1_7 := Nat.lt_of_lt_of_le za1_6 hb7.size
  have R0_7 := Lib.hid (R0_6.out.keep hb7)
  have R1_7 := Lib.hid (R1_6.out.keep hb7)
  obtain ⟨gX0, capX0, rfl, hgX0, hrowX0⟩ := hnew
  have X0_7 := Lib.hid (rowI_of_rowIs hrowX0 capX0)
  clear hrowX0
  have hgX0 := Lib.hid hgX0
  clear qa00_6 qa01_6 qa10_6 qa11_6 za0_6 za1_6 R0_6 R1_6
  go_wp2_with fail
  have hb8 : Below w7.heap.size w7 (w7.alloc (.cells #[.slice (some ⟨gX0, 0, none⟩) i0.length capX0, .int .i64 x0] 49)) := (Below.refl _ _).alloc (by simp <;> omega) _
  have qx00_8 : (w7.alloc (.cells #[.slice (some ⟨gX0, 0, none⟩) i0.length capX0, .int .i64 x0] 49)).cell? ⟨w7.heap.size, 0, none⟩ = some (.slice (some ⟨gX0, 0, none⟩) i0.length capX0) := by go_simp
  have qx01_8 : (w7.alloc (.cells #[.slice (some ⟨gX0, 0, none⟩) i0.length capX0, .int .i64 x0] 49)).cell? ⟨w7.heap.size, 1, none⟩ = some (.int .i64 x0) := by go_simp
  have zx0_8 : w7.heap.size < (w7.alloc (.cells #[.slice (some ⟨gX0, 0, none⟩) i0.length capX0, .int .i64 x0] 49)).heap.size := by simp <;> omega
  have fx0_8 : w0.heap.size ≤ w7.heap.size := by have := H7.size; omega
  have H8 := bel_trans H7 hb8
  have qa00_8 := (hb8.cell (p := ⟨w0.heap.size, 0, none⟩) za0_7).trans qa00_7
  have qa01_8 := (hb8.cell (p := ⟨w0.heap.size, 1, none⟩) za0_7).trans qa01_7
  have za0_8 := Nat.lt_of_lt_of_le za0_7 hb8.size
  have qa10_8 := (hb8.cell (p := ⟨w0.heap.size + 1, 0, none⟩) za1_7).trans qa10_7
  have qa11_8 := (hb8.cell (p := ⟨w0.heap.size + 1, 1, none⟩) za1_7).trans qa11_7
  have za1_8 := Nat.lt_of_lt_of_le za1_7 hb8.size
  have R0_8 := Lib.hid (R0_7.out.keep hb8)
  have R1_8 := Lib.hid (R1_7.out.keep hb8)
  have X0_8 := Lib.hid (X0_7.out.keep hb8)
  generalize (w7.alloc (.cells #[.slice (some ⟨gX0, 0, none⟩) i0.length capX0, .int .i64 x0] 49)) = w8 at hb8 H8 qx00_8 qx01_8 zx0_8 qa00_8 qa01_8 za0_8 qa10_8 qa11_8 za1_8 R0_8 R1_8 X0_8 ⊢
  clear qa00_7 qa01_7 qa10_7 qa11_7 za0_7 za1_7 R0_7 R1_7 X0_7
  go_wp2_with fail
  refine (toPath x1 i1 _ _ R1_8.out hb1g).mono ?_
  rintro e w9 ⟨_, rfl, hnew, hb9⟩
  have H9 := bel_trans H8 hb9
  have qa00_9 := (hb9.cell (p := ⟨w0.heap.size, 0, none⟩) za0_8).trans qa00_8
  have qa01_9 := (hb9.cell (p := ⟨w0.heap.size, 1, none⟩) za0_8).trans qa01_8
  have za0_9 := Nat.lt_of_lt_of_le za0_8 hb9.size
  have qa10_9 := (hb9.cell (p := ⟨w0.heap.size + 1, 0, none⟩) za1_8).trans qa10_8
  have qa11_9 := (hb9.cell (p := ⟨w0.heap.size + 1, 1, none⟩) za1_8).trans qa11_8
  have za1_9 := Nat.lt_of_lt_of_le za1_8 hb9.size
  have qx00_9 := (hb9.cell (p := ⟨w7.heap.size, 0, none⟩) zx0_8).trans qx00_8
  have qx01_9 := (hb9.cell (p := ⟨w7.heap.size, 1, none⟩) zx0_8).trans qx01_8
  have zx0_9 := Nat.lt_of_lt_of_le zx0_8 hb9.size
  have R0_9 := Lib.hid (R0_8.out.keep hb9)
  have R1_9 := Lib.hid (R1_8.out.keep hb9)
  have X0_9 := Lib.hid (X0_8.out.keep hb9)
  obtain ⟨gX1, capX1, rfl, hgX1, hrowX1⟩ := hnew
  have X1_9 := Lib.hid (rowI_of_rowIs hrowX1 capX1)
  clear hrowX1
  have hgX1 := Lib.hid hgX1
  clear qa00_8 qa01_8 qa10_8 qa11_8 qx00_8 qx01_8 za0_8 za1_8 zx0_8 R0_8 R1_8 X0_8
  go_wp2_with fail
  have hb10 : Below w9.heap.size w9 (w9.alloc (.cells #[.slice (some ⟨gX1, 0, none⟩) i1.length capX1, .int .i64 x1] 49)) := (Below.refl _ _).alloc (by simp <;> omega) _
  have qx10_10 : (w9.alloc (.cells #[.slice (some ⟨gX1, 0, none⟩) i1.length capX1, .int .i64 x1] 49)).cell? ⟨w9.heap.size, 0, none⟩ = some (.slice (some ⟨gX1, 0, none⟩) i1.length capX1) := by go_simp
  have qx11_10 : (w9.alloc (.cells #[.slice (some ⟨gX1, 0, none⟩) i1.length capX1, .int .i64 x1] 49)).cell? ⟨w9.heap.size, 1, none⟩ = some (.int .i64 x1) := by go_simp
  have zx1_10 : w9.heap.size < (w9.alloc (.cells #[.slice (some ⟨gX1, 0, none⟩) i1.length capX1, .int .i64 x1] 49)).heap.size := by simp <;> omega
  have fx1_10 : w0.heap.size ≤ w9.heap.size := by have := H9.size; omega
  have H10 := bel_trans H9 hb10
  have qa00_10 := (hb10.cell (p := ⟨w0.heap.size, 0, none⟩) za0_9).trans qa00_9
  have qa01_10 := (hb10.cell (p := ⟨w0.heap.size, 1, none⟩) za0_9).trans qa01_9
  have za0_10 := Nat.lt_of_lt_of_le za0_9 hb10.size
  have qa10_10 := (hb10.cell (p := ⟨w0.heap.size + 1, 0, none⟩) za1_9).trans qa10_9
  have qa11_10 := (hb10.cell (p := ⟨w0.heap.size + 1, 1, none⟩) za1_9).trans qa11_9
  have za1_10 := Nat.lt_of_lt_of_le za1_9 hb10.size
  have qx00_10 := (hb10.cell (p := ⟨w7.heap.size, 0, none⟩) zx0_9).trans qx00_9
  have qx01_10 := (hb10.cell (p := ⟨w7.heap.size, 1, none⟩) zx0_9).trans qx01_9
  have zx0_10 := Nat.lt_of_lt_of_le zx0_9 hb10.size
  have R0_10 := Lib.hid (R0_9.out.keep hb10)
  have R1_10 := Lib.hid (R1_9.out.keep hb10)
  have X0_10 := Lib.hid (X0_9.out.keep hb10)
  have X1_10 := Lib.hid (X1_9.out.keep hb10)
  generalize (w9.alloc (.cells #[.slice (some ⟨gX1, 0, none⟩) i1.length capX1, .int .i64 x1] 49)) = w10 at hb10 H10 qx10_10 qx11_10 zx1_10 qa00_10 qa01_10 za0_10 qa10_10 qa11_10 za1_10 qx00_10 qx01_10 zx0_10 R0_10 R1_10 X0_10 X1_10 ⊢
  clear qa00_9 qa01_9 qa10_9 qa11_9 qx00_9 qx01_9 za0_9 za1_9 zx0_9 R0_9 R1_9 X0_9 X1_9
  go_wp2_with fail
  refine (pathSame x0 x1 i0 i1 _ _ _ X0_10.out X1_10.out hb0h hb1h).mono ?_
  rintro e w11 ⟨rfl, hb11⟩
  have H11 := bel_trans H10 hb11
  have qa00_11 := (hb11.cell (p := ⟨w0.heap.size, 0, none⟩) za0_10).trans qa00_10
  have qa01_11 := (hb11.cell (p := ⟨w0.heap.size, 1, none⟩) za0_10).trans qa01_10
  have za0_11 := Nat.lt_of_lt_of_le za0_10 hb11.size
  have qa10_11 := (hb11.cell (p := ⟨w0.heap.size + 1, 0, none⟩) za1_10).trans qa10_10
  have qa11_11 := (hb11.cell (p := ⟨w0.heap.size + 1, 1, none⟩) za1_10).trans qa11_10
  have za1_11 := Nat.lt_of_lt_of_le za1_10 hb11.size
  have qx00_11 := (hb11.cell (p := ⟨w7.heap.size, 0, none⟩) zx0_10).trans qx00_10
  have qx01_11 := (hb11.cell (p := ⟨w7.heap.size, 1, none⟩) zx0_10).trans qx01_10
  have zx0_11 := Nat.lt_of_lt_of_le zx0_10 hb11.size
  have qx10_11 := (hb11.cell (p := ⟨w9.heap.size, 0, none⟩) zx1_10).trans qx10_10
  have qx11_11 := (hb11.cell (p := ⟨w9.heap.size, 1, none⟩) zx1_10).trans qx11_10
  have zx1_11 := Nat.lt_of_lt_of_le zx1_10 hb11.size
  have R0_11 := Lib.hid (R0_10.out.keep hb11)
  have R1_11 := Lib.hid (R1_10.out.keep hb11)
  have X0_11 := Lib.hid (X0_10.out.keep hb11)
  have X1_11 := Lib.hid (X1_10.out.keep hb11)
  clear qa00_10 qa01_10 qa10_10 qa11_10 qx00_10 qx01_10 qx10_10 qx11_10 za0_10 za1_10 zx0_10 zx1_10 R0_10 R1_10 X0_10 X1_10
  go_wp2_with fail
  have hold : ∀ w' : World, Below w11.heap.size w11 w' → (w'.cell? ⟨w7.heap.size, 0, none⟩ = some (.slice (some ⟨gX0, 0, none⟩) i0.length capX0) ∧ w'.cell? ⟨w7.heap.size, 1, none⟩ = some (.int .i64 x0) ∧ w'.cell? ⟨w0.heap.size, 0, none⟩ = some (.slice ad0 i0.length cp0) ∧ w'.cell? ⟨w0.heap.size, 1, none⟩ = some (.int .i64 x0)) := fun w' h => ⟨(h.cell (p := ⟨w7.heap.size, 0, none⟩) zx0_11).trans qx00_11, (h.cell (p := ⟨w7.heap.size, 1, none⟩) zx0_11).trans qx01_11, (h.cell (p := ⟨w0.heap.size, 0, none⟩) za0_11).trans qa00_11, (h.cell (p := ⟨w0.heap.size, 1, none⟩) za0_11).trans qa01_11⟩
  have HOLD := Lib.hid hold
  clear hold
  go_region_held3 (fun w' : World => w'.cell? ⟨w7.heap.size, 0, none⟩ = some (.slice (some ⟨gX0, 0, none⟩) i0.length capX0) ∧ w'.cell? ⟨w7.heap.size, 1, none⟩ = some (.int .i64 x0) ∧ w'.cell? ⟨w0.heap.size, 0, none⟩ = some (.slice ad0 i0.length cp0) ∧ w'.cell? ⟨w0.heap.size, 1, none⟩ = some (.int .i64 x0)) (first | exact HOLD.out _ ((Below.refl _ _).drew) | exact HOLD.out _ (bel_trans ((Below.refl _ _).drew) hb12) | exact HOLD.out _ (bel_trans (bel_trans ((Below.refl _ _).drew) hb12) hb13)) (first | (go_at_call 24; (with_reducible refine (toPath x0 i0 _ _ (R0_11.out.keep ((Below.refl _ _).drew)) hb0g).mono ?_); rintro e w12 ⟨sB0, rfl, hnew0, hb12⟩) | (go_at_call 26; (with_reducible refine (eqPath x0 i0 _ _ _ (X0_11.out.keep (bel_trans ((Below.refl _ _).drew) hb12)) hnew0.row hb0g).mono ?_); rintro e w13 ⟨rfl, hb13⟩))
  have hq : Below w11.heap.size w11 w13 := (bel_trans (bel_trans ((Below.refl _ _).drew) hb12) hb13)
  clear hb12 hb13 HOLD
  have hb13 := hq
  clear hq
  have H13 := bel_trans H11 hb13
  have qa00_13 := (hb13.cell (p := ⟨w0.heap.size, 0, none⟩) za0_11).trans qa00_11
  have qa01_13 := (hb13.cell (p := ⟨w0.heap.size, 1, none⟩) za0_11).trans qa01_11
  have za0_13 := Nat.lt_of_lt_of_le za0_11 hb13.size
  have qa10_13 := (hb13.cell (p := ⟨w0.heap.size + 1, 0, none⟩) za1_11).trans qa10_11
  have qa11_13 := (hb13.cell (p := ⟨w0.heap.size + 1, 1, none⟩) za1_11).trans qa11_11
  have za1_13 := Nat.lt_of_lt_of_le za1_11 hb13.size
  have qx00_13 := (hb13.cell (p := ⟨w7.heap.size, 0, none⟩) zx0_11).trans qx00_11
  have qx01_13 := (hb13.cell (p := ⟨w7.heap.size, 1, none⟩) zx0_11).trans qx01_11
  have zx0_13 := Nat.lt_of_lt_of_le zx0_11 hb13.size
  have qx10_13 := (hb13.cell (p := ⟨w9.heap.size, 0, none⟩) zx1_11).trans qx10_11
  have qx11_13 := (hb13.cell (p := ⟨w9.heap.size, 1, none⟩) zx1_11).trans qx11_11
  have zx1_13 := Nat.lt_of_lt_of_le zx1_11 hb13.size
  have R0_13 := Lib.hid (R0_11.out.keep hb13)
  have R1_13 := Lib.hid (R1_11.out.keep hb13)
  have X0_13 := Lib.hid (X0_11.out.keep hb13)
  have X1_13 := Lib.hid (X1_11.out.keep hb13)
  clear qa00_11 qa01_11 qa10_11 qa11_11 qx00_11 qx01_11 qx10_11 qx11_11 za0_11 za1_11 zx0_11 zx1_11 R0_11 R1_11 X0_11 X1_11
  clear hnew0
  clear X0_13
  go_wp2_with fail
  have hold : ∀ w' : World, Below w13.heap.size w13 w' → (w'.cell? ⟨w9.heap.size, 0, none⟩ = some (.slice (some ⟨gX1, 0, none⟩) i1.length capX1) ∧ w'.cell? ⟨w9.heap.size, 1, none⟩ = some (.int .i64 x1) ∧ w'.cell? ⟨w0.heap.size + 1, 0, none⟩ = some (.slice ad1 i1.length cp1) ∧ w'.cell? ⟨w0.heap.size + 1, 1, none⟩ = some (.int .i64 x1)) := fun w' h => ⟨(h.cell (p := ⟨w9.heap.size, 0, none⟩) zx1_13).trans qx10_13, (h.cell (p := ⟨w9.heap.size, 1, none⟩) zx1_13).trans qx11_13, (h.cell (p := ⟨w0.heap.size + 1, 0, none⟩) za1_13).trans qa10_13, (h.cell (p := ⟨w0.heap.size + 1, 1, none⟩) za1_13).trans qa11_13⟩
  have HOLD := Lib.hid hold
  clear hold
  go_region_held3 (fun w' : World => w'.cell? ⟨w9.heap.size, 0, none⟩ = some (.slice (some ⟨gX1, 0, none⟩) i1.length capX1) ∧ w'.cell? ⟨w9.heap.size, 1, none⟩ = some (.int .i64 x1) ∧ w'.cell? ⟨w0.heap.size + 1, 0, none⟩ = some (.slice ad1 i1.length cp1) ∧ w'.cell? ⟨w0.heap.size + 1, 1, none⟩ = some (.int .i64 x1)) (first | exact HOLD.out _ ((Below.refl _ _).drew) | exact HOLD.out _ (bel_trans ((Below.refl _ _).drew) hb14) | exact HOLD.out _ (bel_trans (bel_trans ((Below.refl _ _).drew) hb14) hb15)) (first | (go_at_call 24; (with_reducible refine (toPath x1 i1 _ _ (R1_13.out.keep ((Below.refl _ _).drew)) hb1g).mono ?_); rintro e w14 ⟨sB1, rfl, hnew1, hb14⟩) | (go_at_call 26; (with_reducible refine (eqPath x1 i1 _ _ _ (X1_13.out.keep (bel_trans ((Below.refl _ _).drew) hb14)) hnew1.row hb1g).mono ?_); rintro e w15 ⟨rfl, hb15⟩))
  have hq : Below w13.heap.size w13 w15 := (bel_trans (bel_trans ((Below.refl _ _).drew) hb14) hb15)
  clear hb14 hb15 HOLD
  have hb15 := hq
  clear hq
  have H15 := bel_trans H13 hb15
  have qa00_15 := (hb15.cell (p := ⟨w0.heap.size, 0, none⟩) za0_13).trans qa00_13
  have qa01_15 := (hb15.cell (p := ⟨w0.heap.size, 1, none⟩) za0_13).trans qa01_13
  have za0_15 := Nat.lt_of_lt_of_le za0_13 hb15.size
  have qa10_15 := (hb15.cell (p := ⟨w0.heap.size + 1, 0, none⟩) za1_13).trans qa10_13
  have qa11_15 := (hb15.cell (p := ⟨w0.heap.size + 1, 1, none⟩) za1_13).trans qa11_13
  have za1_15 := Nat.lt_of_lt_of_le za1_13 hb15.size
  have qx00_15 := (hb15.cell (p := ⟨w7.heap.size, 0, none⟩) zx0_13).trans qx00_13
  have qx01_15 := (hb15.cell (p := ⟨w7.heap.size, 1, none⟩) zx0_13).trans qx01_13
  have zx0_15 := Nat.lt_of_lt_of_le zx0_13 hb15.size
  have qx10_15 := (hb15.cell (p := ⟨w9.heap.size, 0, none⟩) zx1_13).trans qx10_13
  have qx11_15 := (hb15.cell (p := ⟨w9.heap.size, 1, none⟩) zx1_13).trans qx11_13
  have zx1_15 := Nat.lt_of_lt_of_le zx1_13 hb15.size
  have R0_15 := Lib.hid (R0_13.out.keep hb15)
  have R1_15 := Lib.hid (R1_13.out.keep hb15)
  have X1_15 := Lib.hid (X1_13.out.keep hb15)
  clear qa00_13 qa01_13 qa10_13 qa11_13 qx00_13 qx01_13 qx10_13 qx11_13 za0_13 za1_13 zx0_13 zx1_13 R0_13 R1_13 X1_13
  clear hnew1
  clear X1_15
  go_wp2
  go_ret
  exact ⟨rfl, H15⟩

set_option maxRecDepth 100000 in
theorem lifted (os : Os) (started : os.Started) (H : Type) (enc : TypeId × Value → H) :
    ReturnsInHanded {} Try.checked os 4 .any (Rows.fnExactPathSameSpec.pre6 enc Try.prog Try.f4 Rows.fnExactPathSameRow.domain false) (Rows.fnExactPathSameSpec.post enc Try.prog Try.f4 false true false false) := by
  refine returnsInHanded_of_change (C := Try.checked) own started (by kernel_rfl) Try.func4
    (ChangeSpec.witness6 (enc := enc) (C := Try.checked) false ⟨#[], #[.agg #[.slice none 0 0, .int .i64 0], .agg #[.slice none 0 0, .int .i64 0]], []⟩ 8 (by kernel_rfl) (by kernel_rfl) (by kernel_rfl) (by kernel_rfl)) ?_
  intro W base args ds gs before hval0 hW hcnd _
  have hval : ∀ (j : Nat) t v, Try.f4.params[j]? = some t → args[j]? = some v → Value.okWide Try.prog W .any base t v := hval0
  have hW' := hW
  obtain ⟨p, q, hA0, hV, rfl, hfz, hnd⟩ := hW
  have hA : DataW.TrodAll enc Try.prog W 0 (fun _ => true) true Try.f4.params.toList args.toList ds p := hA0
  rw [Try.params4] at hA hval
  obtain ⟨v0, vs0, d0, ds0, p0, q0, hargs, rfl, rfl, h0, rr0⟩ := trodAll_cons hA
  obtain ⟨v1, vs1, d1, ds1, p1, q1, rfl, rfl, rfl, h1, rr1⟩ := trodAll_cons rr0
  obtain ⟨rfl, rfl, rfl⟩ := trodAll_nil rr1
  obtain rfl : args = #[v0, v1] := by cases args; simp_all
  obtain ⟨rfl, rfl⟩ := trodVars_none hV
  have k0 := h0
  have lt0 : ∀ x ∈ p0, x.block < W.heap.size := by obtain ⟨m, hm⟩ := k0; exact DataW.trod_lt m _ _ _ hm
  have k1 := h1
  have lt1 : ∀ x ∈ p1, x.block < W.heap.size := by obtain ⟨m, hm⟩ := k1; exact DataW.trod_lt m _ _ _ hm
  obtain ⟨s0, i0, x0, rfl, r0, l0⟩ := openPath (hval 0 46 v0 rfl rfl) h0
  obtain ⟨s1, i1, x1, rfl, r1, l1⟩ := openPath (hval 1 46 v1 rfl rfl) h1
  clear hA0 hval0
  refine (walk W x0 s0 i0 r0 l0 x1 s1 i1 r1 l1).mono fun e W' ⟨he, bel⟩ => ?_
  subst he
  exact ⟨_, rfl, _, _, _, [], _, [], hW', trodAll_mk1 (shut_bool Try.underlying4 _), (trodAll_cons_mk (Below.trod laidOut (by kernel_rfl) (of_decide_eq_true (by kernel_rfl)) k0 bel lt0) (trodAll_cons_mk (Below.trod laidOut (by kernel_rfl) (of_decide_eq_true (by kernel_rfl)) k1 bel lt1) trodAll_mk0)), rfl, bel.frame _, fun h => by cases h⟩

theorem over : Rows.fnExactPathSameRow.holds Try.pinned (OpenSpec.ofChange Rows.fnExactPathSameSpec) :=
  OpenClaim.holds_of_wide 4 Try.f4 rfl rfl rfl rfl rfl rfl rfl ⟨rfl, rfl, rfl, rfl, rfl⟩ rfl rfl rfl rfl rfl (by kernel_rfl) Try.func4 (by kernel_rfl)
    (of_decide_eq_true (by kernel_rfl)) (by unfold Func.isWrapper; first | (rw [if_pos (by decide +kernel)]; kernel_rfl) | (rw [if_neg (by decide +kernel)]; exact ⟨rfl, rfl⟩))
    (fun os started H enc _ => lifted os started H enc)

theorem proved : Rows.FnExactPathSameSaid := over
end Go.Proofs.Ytneapbggnnndhaa.fnExactPathSame
