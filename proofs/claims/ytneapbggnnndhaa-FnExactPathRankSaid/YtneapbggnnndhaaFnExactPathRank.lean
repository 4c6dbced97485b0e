/-
  Proved: at every graph, integer and path impl.PathRank answers as the model spec.PathRank does, and writes into no argument (the law FnExactPathRank returns true for them all), with no further condition.
-/
import Derived.Test.YtneapbggnnndhaaRows
import Derived.Test.YtneapbggnnndhaaRnkC
import Derived.Test.YtneapbggnnndhaaPathF
import Derived.Test.YtneapbggnnndhaaVEdges
import Derived.Test.YtneapbggnnndhaaOpenV
import Derived.WalkKit
import Derived.ProofKit
import Derived.OpenShut
import Derived.ShutString
import Derived.ChangeOld
import Derived.Below
namespace Go.Proofs.Ytneapbggnnndhaa.fnExactPathRank
open Go.Proofs.Ytneapbggnnndhaa Go.BigFrame
open Go.ChangeShapes Go.WideShapes Go.ChangeAt Go.RowKit
open Go.ChangeMaps (open_string shut_string)
set_option linter.unusedVariables false

theorem own : ownKnob Try.prog.godebug = none := by kernel_rfl
theorem laidOut : laidOutB Try.prog = true := by kernel_rfl

set_option maxRecDepth 100000 in
set_option maxHeartbeats 4000000 in
theorem walk (w : World) (n0 : Int) (s0 : Value) (e0 : List Ed) (r0 : RowE w s0 e0) (l0 : e0.length ≤ 9223372036854775807) (a1 : Int) (w1 : (Lit.int .i64 a1).wf = true) (x2 : Int) (s2 : Value) (i2 : List Int) (r2 : Row w s2 i2) (l2 : i2.length ≤ 9223372036854775807) :
    Calls Try.prog 8 #[.agg #[.int .i64 n0, s0], .int .i64 a1, .agg #[s2, .int .i64 x2]] w fun e w' => e = .returned (.bool true) ∧ Below w.heap.size w w' := by
  obtain ⟨ad0, cp0, hs0, hz0⟩ := id r0
  subst hs0
  clear hz0
  have R0 := Lib.hid r0
  clear r0
  obtain ⟨ad2, cp2, hs2, hz2⟩ := id r2
  subst hs2
  clear hz2
  have R2 := Lib.hid r2
  clear r2
  have hsz0 := fun w => szGraph n0 e0.length cp0 ad0 (1048576) w (by omega) l0
  by_cases hbig0 : e0.length ≤ 1048576
  rotate_left
  · have eR : szR (1048576) e0.length = -1 := by rw [szR, if_neg hbig0]
    rw [eR] at hsz0
    have HZ0 := Lib.hid hsz0
    clear hsz0 eR
    obtain ⟨w0, hw0⟩ : ∃ w0, w0 = w := ⟨_, rfl⟩
    subst hw0
    have H0 := Below.refl w0.heap.size w0
    go_enter Try.func8, Try.ntmps8
    go_wp2_with fail
    have hb1 : Below w0.heap.size w0 ((w0.alloc (.cells #[.int .i64 n0, .slice ad0 e0.length cp0] 24)).alloc (.cells #[.slice ad2 i2.length cp2, .int .i64 x2] 46)) := ((Below.refl _ _).alloc (by simp <;> omega) _).alloc (by simp <;> omega) _
    have qa00_1 : ((w0.alloc (.cells #[.int .i64 n0, .slice ad0 e0.length cp0] 24)).alloc (.cells #[.slice ad2 i2.length cp2, .int .i64 x2] 46)).cell? ⟨w0.heap.size, 0, none⟩ = some (.int .i64 n0) := by go_simp
    have qa01_1 : ((w0.alloc (.cells #[.int .i64 n0, .slice ad0 e0.length cp0] 24)).alloc (.cells #[.slice ad2 i2.length cp2, .int .i64 x2] 46)).cell? ⟨w0.heap.size, 1, none⟩ = some (.slice ad0 e0.length cp0) := by go_simp
    have za0_1 : w0.heap.size < ((w0.alloc (.cells #[.int .i64 n0, .slice ad0 e0.length cp0] 24)).alloc (.cells #[.slice ad2 i2.length cp2, .int .i64 x2] 46)).heap.size := by simp <;> omega
    have fa0_1 : w0.heap.size ≤ w0.heap.size := by have := H0.size; omega
    have qa20_1 : ((w0.alloc (.cells #[.int .i64 n0, .slice ad0 e0.length cp0] 24)).alloc (.cells #[.slice ad2 i2.length cp2, .int .i64 x2] 46)).cell? ⟨w0.heap.size + 1, 0, none⟩ = some (.slice ad2 i2.length cp2) := by go_simp
    have qa21_1 : ((w0.alloc (.cells #[.int .i64 n0, .slice ad0 e0.length cp0] 24)).alloc (.cells #[.slice ad2 i2.length cp2, .int .i64 x2] 46)).cell? ⟨w0.heap.size + 1, 1, none⟩ = some (.int .i64 x2) := by go_simp
    have za2_1 : w0.heap.size + 1 < ((w0.alloc (.cells #[.int .i64 n0, .slice ad0 e0.length cp0] 24)).alloc (.cells #[.slice ad2 i2.length cp2, .int .i64 x2] 46)).heap.size := by simp <;> omega
    have fa2_1 : w0.heap.size ≤ w0.heap.size + 1 := by have := H0.size; omega
    have H1 := bel_trans H0 hb1
    generalize ((w0.alloc (.cells #[.int .i64 n0, .slice ad0 e0.length cp0] 24)).alloc (.cells #[.slice ad2 i2.length cp2, .int .i64 x2] 46)) = w1 at hb1 H1 qa00_1 qa01_1 za0_1 qa20_1 qa21_1 za2_1 ⊢
    refine (HZ0.out _).mono ?_
    rintro e w2 ⟨rfl, hb2⟩
    have H2 := bel_trans H1 hb2
    have qa00_2 := (hb2.cell (p := ⟨w0.heap.size, 0, none⟩) za0_1).trans qa00_1
    have qa01_2 := (hb2.cell (p := ⟨w0.heap.size, 1, none⟩) za0_1).trans qa01_1
    have za0_2 := Nat.lt_of_lt_of_le za0_1 hb2.size
    have qa20_2 := (hb2.cell (p := ⟨w0.heap.size + 1, 0, none⟩) za2_1).trans qa20_1
    have qa21_2 := (hb2.cell (p := ⟨w0.heap.size + 1, 1, none⟩) za2_1).trans qa21_1
    have za2_2 := Nat.lt_of_lt_of_le za2_1 hb2.size
    clear qa00_1 qa01_1 qa20_1 qa21_1 za0_1 za2_1
    go_wp2
    go_ret
    exact ⟨rfl, H2⟩
  have eR : szR (1048576) e0.length = ((1048576 - e0.length : Nat) : Int) := by rw [szR, if_pos hbig0]
  rw [eR] at hsz0
  have HZ0 := Lib.hid hsz0
  have hnn0 : decide (((1048576 - e0.length : Nat) : Int) < 0) = false := by simp <;> omega
  have hb0g : e0.length ≤ 1048576 := by omega
  have hb0h : e0.length ≤ 281474976710656 := by omega
  clear hsz0 eR
  have hsz2 := fun w => szPath x2 i2.length cp2 ad2 (1048576 - e0.length) w (by omega) l2
  by_cases hbig2 : i2.length ≤ 1048576 - e0.length
  rotate_left
  · have eR : szR (1048576 - e0.length) i2.length = -1 := by rw [szR, if_neg hbig2]
    rw [eR] at hsz2
    have HZ2 := Lib.hid hsz2
    clear hsz2 eR
    clear hb0g
    obtain ⟨w0, hw0⟩ : ∃ w0, w0 = w := ⟨_, rfl⟩
    subst hw0
    have H0 := Below.refl w0.heap.size w0
    go_enter Try.func8, Try.ntmps8
    go_wp2_with fail
    have hb1 : Below w0.heap.size w0 ((w0.alloc (.cells #[.int .i64 n0, .slice ad0 e0.length cp0] 24)).alloc (.cells #[.slice ad2 i2.length cp2, .int .i64 x2] 46)) := ((Below.refl _ _).alloc (by simp <;> omega) _).alloc (by simp <;> omega) _
    have qa00_1 : ((w0.alloc (.cells #[.int .i64 n0, .slice ad0 e0.length cp0] 24)).alloc (.cells #[.slice ad2 i2.length cp2, .int .i64 x2] 46)).cell? ⟨w0.heap.size, 0, none⟩ = some (.int .i64 n0) := by go_simp
    have qa01_1 : ((w0.alloc (.cells #[.int .i64 n0, .slice ad0 e0.length cp0] 24)).alloc (.cells #[.slice ad2 i2.length cp2, .int .i64 x2] 46)).cell? ⟨w0.heap.size, 1, none⟩ = some (.slice ad0 e0.length cp0) := by go_simp
    have za0_1 : w0.heap.size < ((w0.alloc (.cells #[.int .i64 n0, .slice ad0 e0.length cp0] 24)).alloc (.cells #[.slice ad2 i2.length cp2, .int .i64 x2] 46)).heap.size := by simp <;> omega
    have fa0_1 : w0.heap.size ≤ w0.heap.size := by have := H0.size; omega
    have qa20_1 : ((w0.alloc (.cells #[.int .i64 n0, .slice ad0 e0.length cp0] 24)).alloc (.cells #[.slice ad2 i2.length cp2, .int .i64 x2] 46)).cell? ⟨w0.heap.size + 1, 0, none⟩ = some (.slice ad2 i2.length cp2) := by go_simp
    have qa21_1 : ((w0.alloc (.cells #[.int .i64 n0, .slice ad0 e0.length cp0] 24)).alloc (.cells #[.slice ad2 i2.length cp2, .int .i64 x2] 46)).cell? ⟨w0.heap.size + 1, 1, none⟩ = some (.int .i64 x2) := by go_simp
    have za2_1 : w0.heap.size + 1 < ((w0.alloc (.cells #[.int .i64 n0, .slice ad0 e0.length cp0] 24)).alloc (.cells #[.slice ad2 i2.length cp2, .int .i64 x2] 46)).heap.size := by simp <;> omega
    have fa2_1 : w0.heap.size ≤ w0.heap.size + 1 := by have := H0.size; omega
    have H1 := bel_trans H0 hb1
    generalize ((w0.alloc (.cells #[.int .i64 n0, .slice ad0 e0.length cp0] 24)).alloc (.cells #[.slice ad2 i2.length cp2, .int .i64 x2] 46)) = w1 at hb1 H1 qa00_1 qa01_1 za0_1 qa20_1 qa21_1 za2_1 ⊢
    refine (HZ0.out _).mono ?_
    rintro e w2 ⟨rfl, hb2⟩
    have H2 := bel_trans H1 hb2
    have qa00_2 := (hb2.cell (p := ⟨w0.heap.size, 0, none⟩) za0_1).trans qa00_1
    have qa01_2 := (hb2.cell (p := ⟨w0.heap.size, 1, none⟩) za0_1).trans qa01_1
    have za0_2 := Nat.lt_of_lt_of_le za0_1 hb2.size
    have qa20_2 := (hb2.cell (p := ⟨w0.heap.size + 1, 0, none⟩) za2_1).trans qa20_1
    have qa21_2 := (hb2.cell (p := ⟨w0.heap.size + 1, 1, none⟩) za2_1).trans qa21_1
    have za2_2 := Nat.lt_of_lt_of_le za2_1 hb2.size
    clear qa00_1 qa01_1 qa20_1 qa21_1 za0_1 za2_1
    go_wp2_with fail
    refine (HZ2.out _).mono ?_
    rintro e w3 ⟨rfl, hb3⟩
    have H3 := bel_trans H2 hb3
    have qa00_3 := (hb3.cell (p := ⟨w0.heap.size, 0, none⟩) za0_2).trans qa00_2
    have qa01_3 := (hb3.cell (p := ⟨w0.heap.size, 1, none⟩) za0_2).trans qa01_2
    have za0_3 := Nat.lt_of_lt_of_le za0_2 hb3.size
    have qa20_3 := (hb3.cell (p := ⟨w0.heap.size + 1, 0, none⟩) za2_2).trans qa20_2
    have qa21_3 := (hb3.cell (p := ⟨w0.heap.size + 1, 1, none⟩) za2_2).trans qa21_2
    have za2_3 := Nat.lt_of_lt_of_le za2_2 hb3.size
    clear qa00_2 qa01_2 qa20_2 qa21_2 za0_2 za2_2
    go_wp2
    go_ret
    exact ⟨rfl, H3⟩
  have eR : szR (1048576 - e0.length) i2.length = ((1048576 - e0.length - i2.length : Nat) : Int) := by rw [szR, if_pos hbig2]
  rw [eR] at hsz2
  have HZ2 := Lib.hid hsz2
  have hnn2 : decide (((1048576 - e0.length - i2.length : Nat) : Int) < 0) = false := by simp <;> omega
  have hb2g : i2.length ≤ 1048576 := by omega
  have hb2h : i2.length ≤ 281474976710656 := by omega
  clear hsz2 eR
  obtain ⟨w0, hw0⟩ : ∃ w0, w0 = w := ⟨_, rfl⟩
  subst hw0
  have H0 := Below.refl w0.heap.size w0
  have R0_0 := R0
  clear R0
  have R2_0 := R2
  clear R2
  go_enter Try.func8, Try.ntmps8
  go_wp2_with fail
  have hb1 : Below w0.heap.size w0 ((w0.alloc (.cells #[.int .i64 n0, .slice ad0 e0.length cp0] 24)).alloc (.cells #[.slice ad2 i2.length cp2, .int .i64 x2] 46)) := ((Below.refl _ _).alloc (by simp <;> omega) _).alloc (by simp <;> omega) _
  have qa00_1 : ((w0.alloc (.cells #[.int .i64 n0, .slice ad0 e0.length cp0] 24)).alloc (.cells #[.slice ad2 i2.length cp2, .int .i64 x2] 46)).cell? ⟨w0.heap.size, 0, none⟩ = some (.int .i64 n0) := by go_simp
  have qa01_1 : ((w0.alloc (.cells #[.int .i64 n0, .slice ad0 e0.length cp0] 24)).alloc (.cells #[.slice ad2 i2.length cp2, .int .i64 x2] 46)).cell? ⟨w0.heap.size, 1, none⟩ = some (.slice ad0 e0.length cp0) := by go_simp
  have za0_1 : w0.heap.size < ((w0.alloc (.cells #[.int .i64 n0, .slice ad0 e0.length cp0] 24)).alloc (.cells #[.slice ad2 i2.length cp2, .int .i64 x2] 46)).heap.size := by simp <;> omega
  have fa0_1 : w0.heap.size ≤ w0.heap.size := by have := H0.size; omega
  have qa20_1 : ((w0.alloc (.cells #[.int .i64 n0, .slice ad0 e0.length cp0] 24)).alloc (.cells #[.slice ad2 i2.length cp2, .int .i64 x2] 46)).cell? ⟨w0.heap.size + 1, 0, none⟩ = some (.slice ad2 i2.length cp2) := by go_simp
  have qa21_1 : ((w0.alloc (.cells #[.int .i64 n0, .slice ad0 e0.length cp0] 24)).alloc (.cells #[.slice ad2 i2.length cp2, .int .i64 x2] 46)).cell? ⟨w0.heap.size + 1, 1, none⟩ = some (.int .i64 x2) := by go_simp
  have za2_1 : w0.heap.size + 1 < ((w0.alloc (.cells #[.int .i64 n0, .slice ad0 e0.length cp0] 24)).alloc (.cells #[.slice ad2 i2.length cp2, .int .i64 x2] 46)).heap.size := by simp <;> omega
  have fa2_1 : w0.heap.size ≤ w0.heap.size + 1 := by have := H0.size; omega
  have H1 := bel_trans H0 hb1
  have R0_1 := Lib.hid (R0_0.out.keep hb1)
  have R2_1 := Lib.hid (R2_0.out.keep hb1)
  generalize ((w0.alloc (.cells #[.int .i64 n0, .slice ad0 e0.length cp0] 24)).alloc (.cells #[.slice ad2 i2.length cp2, .int .i64 x2] 46)) = w1 at hb1 H1 qa00_1 qa01_1 za0_1 qa20_1 qa21_1 za2_1 R0_1 R2_1 ⊢
  clear R0_0 R2_0
  refine (HZ0.out _).mono ?_
  rintro e w2 ⟨rfl, hb2⟩
  have H2 := bel_trans H1 hb2
  have qa00_2 := (hb2.cell (p := ⟨w0.heap.size, 0, none⟩) za0_1).trans qa00_1
  have qa01_2 := (hb2.cell (p := ⟨w0.heap.size, 1, none⟩) za0_1).trans qa01_1
  have za0_2 := Nat.lt_of_lt_of_le za0_1 hb2.size
  have qa20_2 := (hb2.cell (p := ⟨w0.heap.size + 1, 0, none⟩) za2_1).trans qa20_1
  have qa21_2 := (hb2.cell (p := ⟨w0.heap.size + 1, 1, none⟩) za2_1).trans qa21_1
  have za2_2 := Nat.lt_of_lt_of_le za2_1 hb2.size
  have R0_2 := Lib.hid (R0_1.out.keep hb2)
  have R2_2 := Lib.hid (R2_1.out.keep hb2)
  clear qa00_1 qa01_1 qa20_1 qa21_1 za0_1 za2_1 R0_1 R2_1
  go_wp2_with fail
  refine (HZ2.out _).mono ?_
  rintro e w3 ⟨rfl, hb3⟩
  have H3 := bel_trans H2 hb3
  have qa00_3 := (hb3.cell (p := ⟨w0.heap.size, 0, none⟩) za0_2).trans qa00_2
  have qa01_3 := (hb3.cell (p := ⟨w0.heap.size, 1, none⟩) za0_2).trans qa01_2
  have za0_3 := Nat.lt_of_lt_of_le za0_2 hb3.size
  have qa20_3 := (hb3.cell (p := ⟨w0.heap.size + 1, 0, none⟩) za2_2).trans qa20_2
  have qa21_3 := (hb3.cell (p := ⟨w0.heap.size + 1, 1, none⟩) za2_2).trans qa21_2
  have za2_3 := Nat.lt_of_lt_of_le za2_2 hb3.size
  have R0_3 := Lib.hid (R0_2.out.keep hb3)
  have R2_3 := Lib.hid (R2_2.out.keep hb3)
  clear qa00_2 qa01_2 qa20_2 qa21_2 za0_2 za2_2 R0_2 R2_2
  go_wp2_with fail
  have hold : ∀ w' : World, Below w3.heap.size w3 w' → (w'.cell? ⟨w0.heap.size, 0, none⟩ = some (.int .i64 n0) ∧ w'.cell? ⟨w0.heap.size, 1, none⟩ = some (.slice ad0 e0.length cp0) ∧ w'.cell? ⟨w0.heap.size + 1, 0, none⟩ = some (.slice ad2 i2.length cp2) ∧ w'.cell? ⟨w0.heap.size + 1, 1, none⟩ = some (.int .i64 x2)) := fun w' h => ⟨(h.cell (p := ⟨w0.heap.size, 0, none⟩) za0_3).trans qa00_3, (h.cell (p := ⟨w0.heap.size, 1, none⟩) za0_3).trans qa01_3, (h.cell (p := ⟨w0.heap.size + 1, 0, none⟩) za2_3).trans qa20_3, (h.cell (p := ⟨w0.heap.size + 1, 1, none⟩) za2_3).trans qa21_3⟩
  have HOLD := Lib.hid hold
  clear hold
  go_region_held3 (fun w' : World => w'.cell? ⟨w0.heap.size, 0, none⟩ = some (.int .i64 n0) ∧ w'.cell? ⟨w0.heap.size, 1, none⟩ = some (.slice ad0 e0.length cp0) ∧ w'.cell? ⟨w0.heap.size + 1, 0, none⟩ = some (.slice ad2 i2.length cp2) ∧ w'.cell? ⟨w0.heap.size + 1, 1, none⟩ = some (.int .i64 x2)) (first | exact HOLD.out _ ((Below.refl _ _).drew) | exact HOLD.out _ (bel_trans ((Below.refl _ _).drew) hb4) | exact HOLD.out _ (bel_trans (bel_trans ((Below.refl _ _).drew) hb4) hb5) | exact HOLD.out _ (bel_trans (bel_trans (bel_trans ((Below.refl _ _).drew) hb4) hb5) hb6)) (first | (go_at_call 12; (with_reducible refine (toGraph n0 e0 _ _ (R0_3.out.keep ((Below.refl _ _).drew)) hb0g).mono ?_); rintro e w4 ⟨sA0, rfl, hnew0, hb4⟩) | (go_at_call 24; (with_reducible refine (toPath x2 i2 _ _ (R2_3.out.keep (bel_trans ((Below.refl _ _).drew) hb4)) hb2g).mono ?_); rintro e w5 ⟨sA2, rfl, hnew2, hb5⟩) | (go_at_call 36; (with_reducible refine (sPathRankX n0 a1 x2 e0 i2 _ _ _ (hnew0.row.keep hb5) hnew2.row hb0g hb2h).mono ?_); rintro e w6 ⟨rfl, hb6⟩))
  have hq : Below w3.heap.size w3 w6 := (bel_trans (bel_trans (bel_trans ((Below.refl _ _).drew) hb4) hb5) hb6)
  clear hb4 hb5 hb6 HOLD
  have hb6 := hq
  clear hq
  have H6 := bel_trans H3 hb6
  have qa00_6 := (hb6.cell (p := ⟨w0.heap.size, 0, none⟩) za0_3).trans qa00_3
  have qa01_6 := (hb6.cell (p := ⟨w0.heap.size, 1, none⟩) za0_3).trans qa01_3
  have za0_6 := Nat.lt_of_lt_of_le za0_3 hb6.size
  have qa20_6 := (hb6.cell (p := ⟨w0.heap.size + 1, 0, none⟩) za2_3).trans qa20_3
  have qa21_6 := (hb6.cell (p := ⟨w0.heap.size + 1, 1, none⟩) za2_3).trans qa21_3
  have za2_6 := Nat.lt_of_lt_of_le za2_3 hb6.size
  have R0_6 := Lib.hid (R0_3.out.keep hb6)
  have R2_6 := Lib.hid (R2_3.out.keep hb6)
  clear qa00_3 qa01_3 qa20_3 qa21_3 za0_3 za2_3 R0_3 R2_3
  go_wp2_with fail
  refine (toGraph n0 e0 _ _ R0_6.out hb0g).mono ?_
  rintro e w7 ⟨_, rfl, hnew, hb7⟩
  have H7 := bel_trans H6 hb7
  have qa00_7 := (hb7.cell (p := ⟨w0.heap.size, 0, none⟩) za0_6).trans qa00_6
  have qa01_7 := (hb7.cell (p := ⟨w0.heap.size, 1, none⟩) za0_6).trans qa01_6
  have za0_7 := Nat.lt_of_lt_of_le za0_6 hb7.size
  have qa20_7 := (hb7.cell (p := ⟨w0.heap.size + 1, 0, none⟩) za2_6).trans qa20_6
  have qa21_7 := (hb7.cell (p := ⟨w0.heap.size + 1, 1, none⟩) za2_6).trans qa21_6
  have za2_7 := Nat.lt_of_lt_of_le za2_6 hb7.size
  have R0_7 := Lib.hid (R0_6.out.keep hb7)
  have R2_7 := Lib.hid (R2_6.out.keep hb7)
  have OKX0 := Lib.hid hnew.ok
  obtain ⟨gX0, capX0, rfl, hgX0, hrowX0⟩ := hnew
  have X0_7 := Lib.hid (rowE_of_rowIs hrowX0 capX0)
  clear hrowX0
  have hgX0 := Lib.hid hgX0
  clear qa00_6 qa01_6 qa20_6 qa21_6 za0_6 za2_6 R0_6 R2_6
  go_wp2_with fail
  have hb8 : Below w7.heap.size w7 (w7.alloc (.cells #[.int .i64 n0, .slice (some ⟨gX0, 0, none⟩) e0.length capX0] 34)) := (Below.refl _ _).alloc (by simp <;> omega) _
  have qx00_8 : (w7.alloc (.cells #[.int .i64 n0, .slice (some ⟨gX0, 0, none⟩) e0.length capX0] 34)).cell? ⟨w7.heap.size, 0, none⟩ = some (.int .i64 n0) := by go_simp
  have qx01_8 : (w7.alloc (.cells #[.int .i64 n0, .slice (some ⟨gX0, 0, none⟩) e0.length capX0] 34)).cell? ⟨w7.heap.size, 1, none⟩ = some (.slice (some ⟨gX0, 0, none⟩) e0.length capX0) := by go_simp
  have zx0_8 : w7.heap.size < (w7.alloc (.cells #[.int .i64 n0, .slice (some ⟨gX0, 0, none⟩) e0.length capX0] 34)).heap.size := by simp <;> omega
  have fx0_8 : w0.heap.size ≤ w7.heap.size := by have := H7.size; omega
  have H8 := bel_trans H7 hb8
  have qa00_8 := (hb8.cell (p := ⟨w0.heap.size, 0, none⟩) za0_7).trans qa00_7
  have qa01_8 := (hb8.cell (p := ⟨w0.heap.size, 1, none⟩) za0_7).trans qa01_7
  have za0_8 := Nat.lt_of_lt_of_le za0_7 hb8.size
  have qa20_8 := (hb8.cell (p := ⟨w0.heap.size + 1, 0, none⟩) za2_7).trans qa20_7
  have qa21_8 := (hb8.cell (p := ⟨w0.heap.size + 1, 1, none⟩) za2_7).trans qa21_7
  have za2_8 := Nat.lt_of_lt_of_le za2_7 hb8.size
  have R0_8 := Lib.hid (R0_7.out.keep hb8)
  have R2_8 := Lib.hid (R2_7.out.keep hb8)
  have X0_8 := Lib.hid (X0_7.out.keep hb8)
  generalize (w7.alloc (.cells #[.int .i64 n0, .slice (some ⟨gX0, 0, none⟩) e0.length capX0] 34)) = w8 at hb8 H8 qx00_8 qx01_8 zx0_8 qa00_8 qa01_8 za0_8 qa20_8 qa21_8 za2_8 R0_8 R2_8 X0_8 ⊢
  clear qa00_7 qa01_7 qa20_7 qa21_7 za0_7 za2_7 R0_7 R2_7 X0_7
  go_wp2_with fail
  refine (toPath x2 i2 _ _ R2_8.out hb2g).mono ?_
  rintro e w9 ⟨_, rfl, hnew, hb9⟩
  have H9 := bel_trans H8 hb9
  have qa00_9 := (hb9.cell (p := ⟨w0.heap.size, 0, none⟩) za0_8).trans qa00_8
  have qa01_9 := (hb9.cell (p := ⟨w0.heap.size, 1, none⟩) za0_8).trans qa01_8
  have za0_9 := Nat.lt_of_lt_of_le za0_8 hb9.size
  have qa20_9 := (hb9.cell (p := ⟨w0.heap.size + 1, 0, none⟩) za2_8).trans qa20_8
  have qa21_9 := (hb9.cell (p := ⟨w0.heap.size + 1, 1, none⟩) za2_8).trans qa21_8
  have za2_9 := Nat.lt_of_lt_of_le za2_8 hb9.size
  have qx00_9 := (hb9.cell (p := ⟨w7.heap.size, 0, none⟩) zx0_8).trans qx00_8
  have qx01_9 := (hb9.cell (p := ⟨w7.heap.size, 1, none⟩) zx0_8).trans qx01_8
  have zx0_9 := Nat.lt_of_lt_of_le zx0_8 hb9.size
  have R0_9 := Lib.hid (R0_8.out.keep hb9)
  have R2_9 := Lib.hid (R2_8.out.keep hb9)
  have X0_9 := Lib.hid (X0_8.out.keep hb9)
  obtain ⟨gX2, capX2, rfl, hgX2, hrowX2⟩ := hnew
  have X2_9 := Lib.hid (rowI_of_rowIs hrowX2 capX2)
  clear hrowX2
  have hgX2 := Lib.hid hgX2
  clear qa00_8 qa01_8 qa20_8 qa21_8 qx00_8 qx01_8 za0_8 za2_8 zx0_8 R0_8 R2_8 X0_8
  go_wp2_with fail
  have hb10 : Below w9.heap.size w9 (w9.alloc (.cells #[.slice (some ⟨gX2, 0, none⟩) i2.length capX2, .int .i64 x2] 49)) := (Below.refl _ _).alloc (by simp <;> omega) _
  have qx20_10 : (w9.alloc (.cells #[.slice (some ⟨gX2, 0, none⟩) i2.length capX2, .int .i64 x2] 49)).cell? ⟨w9.heap.size, 0, none⟩ = some (.slice (some ⟨gX2, 0, none⟩) i2.length capX2) := by go_simp
  have qx21_10 : (w9.alloc (.cells #[.slice (some ⟨gX2, 0, none⟩) i2.length capX2, .int .i64 x2] 49)).cell? ⟨w9.heap.size, 1, none⟩ = some (.int .i64 x2) := by go_simp
  have zx2_10 : w9.heap.size < (w9.alloc (.cells #[.slice (some ⟨gX2, 0, none⟩) i2.length capX2, .int .i64 x2] 49)).heap.size := by simp <;> omega
  have fx2_10 : w0.heap.size ≤ w9.heap.size := by have := H9.size; omega
  have H10 := bel_trans H9 hb10
  have qa00_10 := (hb10.cell (p := ⟨w0.heap.size, 0, none⟩) za0_9).trans qa00_9
  have qa01_10 := (hb10.cell (p := ⟨w0.heap.size, 1, none⟩) za0_9).trans qa01_9
  have za0_10 := Nat.lt_of_lt_of_le za0_9 hb10.size
  have qa20_10 := (hb10.cell (p := ⟨w0.heap.size + 1, 0, none⟩) za2_9).trans qa20_9
  have qa21_10 := (hb10.cell (p := ⟨w0.heap.size + 1, 1, none⟩) za2_9).trans qa21_9
  have za2_10 := Nat.lt_of_lt_of_le za2_9 hb10.size
  have qx00_10 := (hb10.cell (p := ⟨w7.heap.size, 0, none⟩) zx0_9).trans qx00_9
  have qx01_10 := (hb10.cell (p := ⟨w7.heap.size, 1, none⟩) zx0_9).trans qx01_9
  have zx0_10 := Nat.lt_of_lt_of_le zx0_9 hb10.size
  have R0_10 := Lib.hid (R0_9.out.keep hb10)
  have R2_10 := Lib.hid (R2_9.out.keep hb10)
  have X0_10 := Lib.hid (X0_9.out.keep hb10)
  have X2_10 := Lib.hid (X2_9.out.keep hb10)
  generalize (w9.alloc (.cells #[.slice (some ⟨gX2, 0, none⟩) i2.length capX2, .int .i64 x2] 49)) = w10 at hb10 H10 qx20_10 qx21_10 zx2_10 qa00_10 qa01_10 za0_10 qa20_10 qa21_10 za2_10 qx00_10 qx01_10 zx0_10 R0_10 R2_10 X0_10 X2_10 ⊢
  clear qa00_9 qa01_9 qa20_9 qa21_9 qx00_9 qx01_9 za0_9 za2_9 zx0_9 R0_9 R2_9 X0_9 X2_9
  go_wp2_with fail
  refine (pathRankX n0 a1 x2 e0 i2 _ _ _ X0_10.out X2_10.out OKX0.out hb0g hb2h).mono ?_
  rintro e w11 ⟨rfl, hb11⟩
  have H11 := bel_trans H10 hb11
  have qa00_11 := (hb11.cell (p := ⟨w0.heap.size, 0, none⟩) za0_10).trans qa00_10
  have qa01_11 := (hb11.cell (p := ⟨w0.heap.size, 1, none⟩) za0_10).trans qa01_10
  have za0_11 := Nat.lt_of_lt_of_le za0_10 hb11.size
  have qa20_11 := (hb11.cell (p := ⟨w0.heap.size + 1, 0, none⟩) za2_10).trans qa20_10
  have qa21_11 := (hb11.cell (p := ⟨w0.heap.size + 1, 1, none⟩) za2_10).trans qa21_10
  have za2_11 := Nat.lt_of_lt_of_le za2_10 hb11.size
  have qx00_11 := (hb11.cell (p := ⟨w7.heap.size, 0, none⟩) zx0_10).trans qx00_10
  have qx01_11 := (hb11.cell (p := ⟨w7.heap.size, 1, none⟩) zx0_10).trans qx01_10
  have zx0_11 := Nat.lt_of_lt_of_le zx0_10 hb11.size
  have qx20_11 := (hb11.cell (p := ⟨w9.heap.size, 0, none⟩) zx2_10).trans qx20_10
  have qx21_11 := (hb11.cell (p := ⟨w9.heap.size, 1, none⟩) zx2_10).trans qx21_10
  have zx2_11 := Nat.lt_of_lt_of_le zx2_10 hb11.size
  have R0_11 := Lib.hid (R0_10.out.keep hb11)
  have R2_11 := Lib.hid (R2_10.out.keep hb11)
  have X0_11 := Lib.hid (X0_10.out.keep hb11)
  have X2_11 := Lib.hid (X2_10.out.keep hb11)
  clear qa00_10 qa01_10 qa20_10 qa21_10 qx00_10 qx01_10 qx20_10 qx21_10 za0_10 za2_10 zx0_10 zx2_10 R0_10 R2_10 X0_10 X2_10
  go_wp2_with fail
  have hold : ∀ w' : World, Below w11.heap.size w11 w' → (w'.cell? ⟨w7.heap.size, 0, none⟩ = some (.int .i64 n0) ∧ w'.cell? ⟨w7.heap.size, 1, none⟩ = some (.slice (some ⟨gX0, 0, none⟩) e0.length capX0) ∧ w'.cell? ⟨w0.heap.size, 0, none⟩ = some (.int .i64 n0) ∧ w'.cell? ⟨w0.heap.size, 1, none⟩ = some (.slice ad0 e0.length cp0)) := fun w' h => ⟨(h.cell (p := ⟨w7.heap.size, 0, none⟩) zx0_11).trans qx00_11, (h.cell (p := ⟨w7.heap.size, 1, none⟩) zx0_11).trans qx01_11, (h.cell (p := ⟨w0.heap.size, 0, none⟩) za0_11).trans qa00_11, (h.cell (p := ⟨w0.heap.size, 1, none⟩) za0_11).trans qa01_11⟩
  have HOLD := Lib.hid hold
  clear hold
  go_region_held3 (fun w' : World => w'.cell? ⟨w7.heap.size, 0, none⟩ = some (.int .i64 n0) ∧ w'.cell? ⟨w7.heap.size, 1, none⟩ = some (.slice (some ⟨gX0, 0, none⟩) e0.length capX0) ∧ w'.cell? ⟨w0.heap.size, 0, none⟩ = some (.int .i64 n0) ∧ w'.cell? ⟨w0.heap.size, 1, none⟩ = some (.slice ad0 e0.length cp0)) (first | exact HOLD.out _ ((Below.refl _ _).drew) | exact HOLD.out _ (bel_trans ((Below.refl _ _).drew) hb12) | exact HOLD.out _ (bel_trans (bel_trans ((Below.refl _ _).drew) hb12) hb13)) (first | (go_at_call 12; (with_reducible refine (toGraph n0 e0 _ _ (R0_11.out.keep ((Below.refl _ _).drew)) hb0g).mono ?_); rintro e w12 ⟨sB0, rfl, hnew0, hb12⟩) | (go_at_call 16; (with_reducible refine (eqGraph n0 e0 _ _ _ (X0_11.out.keep (bel_trans ((Below.refl _ _).drew) hb12)) hnew0.row hb0g).mono ?_); rintro e w13 ⟨rfl, hb13⟩))
  have hq : Below w11.heap.size w11 w13 := (bel_trans (bel_trans ((Below.refl _ _).drew) hb12) hb13)
  clear hb12 hb13 HOLD
  have hb13 := hq
  clear hq
  have H13 := bel_trans H11 hb13
  have qa00_13 := (hb13.cell (p := ⟨w0.heap.size, 0, none⟩) za0_11).trans qa00_11
  have qa01_13 := (hb13.cell (p := ⟨w0.heap.size, 1, none⟩) za0_11).trans qa01_11
  have za0_13 := Nat.lt_of_lt_of_le za0_11 hb13.size
  have qa20_13 := (hb13.cell (p := ⟨w0.heap.size + 1, 0, none⟩) za2_11).trans qa20_11
  have qa21_13 := (hb13.cell (p := ⟨w0.heap.size + 1, 1, none⟩) za2_11).trans qa21_11
  have za2_13 := Nat.lt_of_lt_of_le za2_11 hb13.size
  have qx00_13 := (hb13.cell (p := ⟨w7.heap.size, 0, none⟩) zx0_11).trans qx00_11
  have qx01_13 := (hb13.cell (p := ⟨w7.heap.size, 1, none⟩) zx0_11).trans qx01_11
  have zx0_13 := Nat.lt_of_lt_of_le zx0_11 hb13.size
  have qx20_13 := (hb13.cell (p := ⟨w9.heap.size, 0, none⟩) zx2_11).trans qx20_11
  have qx21_13 := (hb13.cell (p := ⟨w9.heap.size, 1, none⟩) zx2_11).trans qx21_11
  have zx2_13 := Nat.lt_of_lt_of_le zx2_11 hb13.size
  have R0_13 := Lib.hid (R0_11.out.keep hb13)
  have R2_13 := Lib.hid (R2_11.out.keep hb13)
  have X0_13 := Lib.hid (X0_11.out.keep hb13)
  have X2_13 := Lib.hid (X2_11.out.keep hb13)
  clear qa00_11 qa01_11 qa20_11 qa21_11 qx00_11 qx01_11 qx20_11 qx21_11 za0_11 za2_11 zx0_11 zx2_11 R0_11 R2_11 X0_11 X2_11
  clear hnew0
  clear X0_13
  go_wp2_with fail
  have hold : ∀ w' : World, Below w13.heap.size w13 w' → (w'.cell? ⟨w9.heap.size, 0, none⟩ = some (.slice (some ⟨gX2, 0, none⟩) i2.length capX2) ∧ w'.cell? ⟨w9.heap.size, 1, none⟩ = some (.int .i64 x2) ∧ w'.cell? ⟨w0.heap.size + 1, 0, none⟩ = some (.slice ad2 i2.length cp2) ∧ w'.cell? ⟨w0.heap.size + 1, 1, none⟩ = some (.int .i64 x2)) := fun w' h => ⟨(h.cell (p := ⟨w9.heap.size, 0, none⟩) zx2_13).trans qx20_13, (h.cell (p := ⟨w9.heap.size, 1, none⟩) zx2_13).trans qx21_13, (h.cell (p := ⟨w0.heap.size + 1, 0, none⟩) za2_13).trans qa20_13, (h.cell (p := ⟨w0.heap.size + 1, 1, none⟩) za2_13).trans qa21_13⟩
  have HOLD := Lib.hid hold
  clear hold
  go_region_held3 (fun w' : World => w'.cell? ⟨w9.heap.size, 0, none⟩ = some (.slice (some ⟨gX2, 0, none⟩) i2.length capX2) ∧ w'.cell? ⟨w9.heap.size, 1, none⟩ = some (.int .i64 x2) ∧ w'.cell? ⟨w0.heap.size + 1, 0, none⟩ = some (.slice ad2 i2.length cp2) ∧ w'.cell? ⟨w0.heap.size + 1, 1, none⟩ = some (.int .i64 x2)) (first | exact HOLD.out _ ((Below.refl _ _).drew) | exact HOLD.out _ (bel_trans ((Below.refl _ _).drew) hb14) | exact HOLD.out _ (bel_trans (bel_trans ((Below.refl _ _).drew) hb14) hb15)) (first | (go_at_call 24; (with_reducible refine (toPath x2 i2 _ _ (R2_13.out.keep ((Below.refl _ _).drew)) hb2g).mono ?_); rintro e w14 ⟨sB2, rfl, hnew2, hb14⟩) | (go_at_call 26; (with_reducible refine (eqPath x2 i2 _ _ _ (X2_13.out.keep (bel_trans ((Below.refl _ _).drew) hb14)) hnew2.row hb2g).mono ?_); rintro e w15 ⟨rfl, hb15⟩))
  have hq : Below w13.heap.size w13 w15 := (bel_trans (bel_trans ((Below.refl _ _).drew) hb14) hb15)
  clear hb14 hb15 HOLD
  have hb15 := hq
  clear hq
  have H15 := bel_trans H13 hb15
  have qa00_15 := (hb15.cell (p := ⟨w0.heap.size, 0, none⟩) za0_13).trans qa00_13
  have qa01_15 := (hb15.cell (p := ⟨w0.heap.size, 1, none⟩) za0_13).trans qa01_13
  have za0_15 := Nat.lt_of_lt_of_le za0_13 hb15.size
  have qa20_15 := (hb15.cell (p := ⟨w0.heap.size + 1, 0, none⟩) za2_13).trans qa20_13
  have qa21_15 := (hb15.cell (p := ⟨w0.heap.size + 1, 1, none⟩) za2_13).trans qa21_13
  have za2_15 := Nat.lt_of_lt_of_le za2_13 hb15.size
  have qx00_15 := (hb15.cell (p := ⟨w7.heap.size, 0, none⟩) zx0_13).trans qx00_13
  have qx01_15 := (hb15.cell (p := ⟨w7.heap.size, 1, none⟩) zx0_13).trans qx01_13
  have zx0_15 := Nat.lt_of_lt_of_le zx0_13 hb15.size
  have qx20_15 := (hb15.cell (p := ⟨w9.heap.size, 0, none⟩) zx2_13).trans qx20_13
  have qx21_15 := (hb15.cell (p := ⟨w9.heap.size, 1, none⟩) zx2_13).trans qx21_13
  have zx2_15 := Nat.lt_of_lt_of_le zx2_13 hb15.size
  have R0_15 := Lib.hid (R0_13.out.keep hb15)
  have R2_15 := Lib.hid (R2_13.out.keep hb15)
  have X2_15 := Lib.hid (X2_13.out.keep hb15)
  clear qa00_13 qa01_13 qa20_13 qa21_13 qx00_13 qx01_13 qx20_13 qx21_13 za0_13 za2_13 zx0_13 zx2_13 R0_13 R2_13 X2_13
  clear hnew2
  clear X2_15
  go_wp2
  go_ret
  exact ⟨rfl, H15⟩

set_option maxRecDepth 100000 in
theorem lifted (os : Os) (started : os.Started) (H : Type) (enc : TypeId × Value → H) :
    ReturnsInHanded {} Try.checked os 8 .any (Rows.fnExactPathRankSpec.pre6 enc Try.prog Try.f8 Rows.fnExactPathRankRow.domain false) (Rows.fnExactPathRankSpec.post enc Try.prog Try.f8 false true false false) := by
  refine returnsInHanded_of_change (C := Try.checked) own started (by kernel_rfl) Try.func8
    (ChangeSpec.witness6 (enc := enc) (C := Try.checked) false ⟨#[], #[.agg #[.int .i64 0, .slice none 0 0], .int .i64 0, .agg #[.slice none 0 0, .int .i64 0]], []⟩ 8 (by kernel_rfl) (by kernel_rfl) (by kernel_rfl) (by kernel_rfl)) ?_
  intro W base args ds gs before hval0 hW hcnd _
  have hval : ∀ (j : Nat) t v, Try.f8.params[j]? = some t → args[j]? = some v → Value.okWide Try.prog W .any base t v := hval0
  have hW' := hW
  obtain ⟨p, q, hA0, hV, rfl, hfz, hnd⟩ := hW
  have hA : DataW.TrodAll enc Try.prog W 0 (fun _ => true) true Try.f8.params.toList args.toList ds p := hA0
  rw [Try.params8] at hA hval
  obtain ⟨v0, vs0, d0, ds0, p0, q0, hargs, rfl, rfl, h0, rr0⟩ := trodAll_cons hA
  obtain ⟨v1, vs1, d1, ds1, p1, q1, rfl, rfl, rfl, h1, rr1⟩ := trodAll_cons rr0
  obtain ⟨v2, vs2, d2, ds2, p2, q2, rfl, rfl, rfl, h2, rr2⟩ := trodAll_cons rr1
  obtain ⟨rfl, rfl, rfl⟩ := trodAll_nil rr2
  obtain rfl : args = #[v0, v1, v2] := by cases args; simp_all
  obtain ⟨rfl, rfl⟩ := trodVars_none hV
  have k0 := h0
  have lt0 : ∀ x ∈ p0, x.block < W.heap.size := by obtain ⟨m, hm⟩ := k0; exact DataW.trod_lt m _ _ _ hm
  have k1 := h1
  have lt1 : ∀ x ∈ p1, x.block < W.heap.size := by obtain ⟨m, hm⟩ := k1; exact DataW.trod_lt m _ _ _ hm
  have k2 := h2
  have lt2 : ∀ x ∈ p2, x.block < W.heap.size := by obtain ⟨m, hm⟩ := k2; exact DataW.trod_lt m _ _ _ hm
  obtain ⟨n0, s0, e0, rfl, r0, l0⟩ := openGraph (hval 0 24 v0 rfl rfl) h0
  obtain ⟨a1, rfl, rfl, rfl, w1⟩ := open_int Try.underlying3 (hval 1 3 v1 rfl rfl) h1
  obtain ⟨s2, i2, x2, rfl, r2, l2⟩ := openPath (hval 2 46 v2 rfl rfl) h2
  clear hA0 hval0
  refine (walk W n0 s0 e0 r0 l0 a1 w1 x2 s2 i2 r2 l2).mono fun e W' ⟨he, bel⟩ => ?_
  subst he
  exact ⟨_, rfl, _, _, _, [], _, [], hW', trodAll_mk1 (shut_bool Try.underlying4 _), (trodAll_cons_mk (Below.trod laidOut (by kernel_rfl) (of_decide_eq_true (by kernel_rfl)) k0 bel lt0) (trodAll_cons_mk (Below.trod laidOut (by kernel_rfl) (of_decide_eq_true (by kernel_rfl)) k1 bel lt1) (trodAll_cons_mk (Below.trod laidOut (by kernel_rfl) (of_decide_eq_true (by kernel_rfl)) k2 bel lt2) trodAll_mk0))), rfl, bel.frame _, fun h => by cases h⟩

theorem over : Rows.fnExactPathRankRow.holds Try.pinned (OpenSpec.ofChange Rows.fnExactPathRankSpec) :=
  OpenClaim.holds_of_wide 8 Try.f8 rfl rfl rfl rfl rfl rfl rfl ⟨rfl, rfl, rfl, rfl, rfl⟩ rfl rfl rfl rfl rfl (by kernel_rfl) Try.func8 (by kernel_rfl)
    (of_decide_eq_true (by kernel_rfl)) (by unfold Func.isWrapper; first | (rw [if_pos (by decide +kernel)]; kernel_rfl) | (rw [if_neg (by decide +kernel)]; exact ⟨rfl, rfl⟩))
    (fun os started H enc _ => lifted os started H enc)

theorem proved : Rows.FnExactPathRankSaid := over
end Go.Proofs.Ytneapbggnnndhaa.fnExactPathRank
