/-
  Proved: at every integer and every two paths impl.PathBefore answers as the model spec.PathBefore does, and writes into no argument (the law FnExactPathBefore returns true for them all), with no further condition.
-/
import Derived.Test.YtneapbggnnndhaaRows
import Derived.Test.YtneapbggnnndhaaPbfD
import Derived.Test.YtneapbggnnndhaaPathF
import Derived.Test.YtneapbggnnndhaaVEdges
import Derived.Test.YtneapbggnnndhaaOpenV
import Derived.WalkKit
import Derived.ProofKit
import Derived.OpenShut
import Derived.ShutString
import Derived.ChangeOld
import Derived.Below
namespace Go.Proofs.Ytneapbggnnndhaa.fnExactPathBefore
open Go.Proofs.Ytneapbggnnndhaa Go.BigFrame
open Go.ChangeShapes Go.WideShapes Go.ChangeAt Go.RowKit
open Go.ChangeMaps (open_string shut_string)
set_option linter.unusedVariables false

theorem own : ownKnob Try.prog.godebug = none := by kernel_rfl
theorem laidOut : laidOutB Try.prog = true := by kernel_rfl

set_option maxRecDepth 100000 in
set_option maxHeartbeats 4000000 in
theorem walk (w : World) (a0 : Int) (w0 : (Lit.int .i64 a0).wf = true) (x1 : Int) (s1 : Value) (i1 : List Int) (r1 : Row w s1 i1) (l1 : i1.length ≤ 9223372036854775807) (x2 : Int) (s2 : Value) (i2 : List Int) (r2 : Row w s2 i2) (l2 : i2.length ≤ 9223372036854775807) :
    Calls Try.prog 5 #[.int .i64 a0, .agg #[s1, .int .i64 x1], .agg #[s2, .int .i64 x2]] w fun e w' => e = .returned (.bool true) ∧ Below w.heap.size w w' := by
  obtain ⟨ad1, cp1, hs1, hz1⟩ := id r1
  subst hs1
  clear hz1
  have R1 := Lib.hid r1
  clear r1
  obtain ⟨ad2, cp2, hs2, hz2⟩ := id r2
  subst hs2
  clear hz2
  have R2 := Lib.hid r2
  clear r2
  have hsz1 := fun w => szPath x1 i1.length cp1 ad1 (1048576) w (by omega) l1
  by_cases hbig1 : i1.length ≤ 1048576
  rotate_left
  · have eR : szR (1048576) i1.length = -1 := by rw [szR, if_neg hbig1]
    rw [eR] at hsz1
    have HZ1 := Lib.hid hsz1
    clear hsz1 eR
    obtain ⟨w0, hw0⟩ : ∃ w0, w0 = w := ⟨_, rfl⟩
    subst hw0
    have H0 := Below.refl w0.heap.size w0
    go_enter Try.func5, Try.ntmps5
    go_wp2_with fail
    have hb1 : Below w0.heap.size w0 ((w0.alloc (.cells #[.slice ad1 i1.length cp1, .int .i64 x1] 46)).alloc (.cells #[.slice ad2 i2.length cp2, .int .i64 x2] 46)) := ((Below.refl _ _).alloc (by simp <;> omega) _).alloc (by simp <;> omega) _
    have qa10_1 : ((w0.alloc (.cells #[.slice ad1 i1.length cp1, .int .i64 x1] 46)).alloc (.cells #[.slice ad2 i2.length cp2, .int .i64 x2] 46)).cell? ⟨w0.heap.size, 0, none⟩ = some (.slice ad1 i1.length cp1) := by go_simp
    have qa11_1 : ((w0.alloc (.cells #[.slice ad1 i1.length cp1, .int .i64 x1] 46)).alloc (.cells #[.slice ad2 i2.length cp2, .int .i64 x2] 46)).cell? ⟨w0.heap.size, 1, none⟩ = some (.int .i64 x1) := by go_simp
    have za1_1 : w0.heap.size < ((w0.alloc (.cells #[.slice ad1 i1.length cp1, .int .i64 x1] 46)).alloc (.cells #[.slice ad2 i2.length cp2, .int .i64 x2] 46)).heap.size := by simp <;> omega
    have fa1_1 : w0.heap.size ≤ w0.heap.size := by have := H0.size; omega
    have qa20_1 : ((w0.alloc (.cells #[.slice ad1 i1.length cp1, .int .i64 x1] 46)).alloc (.cells #[.slice ad2 i2.length cp2, .int .i64 x2] 46)).cell? ⟨w0.heap.size + 1, 0, none⟩ = some (.slice ad2 i2.length cp2) := by go_simp
    have qa21_1 : ((w0.alloc (.cells #[.slice ad1 i1.length cp1, .int .i64 x1] 46)).alloc (.cells #[.slice ad2 i2.length cp2, .int .i64 x2] 46)).cell? ⟨w0.heap.size + 1, 1, none⟩ = some (.int .i64 x2) := by go_simp
    have za2_1 : w0.heap.size + 1 < ((w0.alloc (.cells #[.slice ad1 i1.length cp1, .int .i64 x1] 46)).alloc (.cells #[.slice ad2 i2.length cp2, .int .i64 x2] 46)).heap.size := by simp <;> omega
    have fa2_1 : w0.heap.size ≤ w0.heap.size + 1 := by have := H0.size; omega
    have H1 := bel_trans H0 hb1
    generalize ((w0.alloc (.cells #[.slice ad1 i1.length cp1, .int .i64 x1] 46)).alloc (.cells #[.slice ad2 i2.length cp2, .int .i64 x2] 46)) = w1 at hb1 H1 qa10_1 qa11_1 za1_1 qa20_1 qa21_1 za2_1 ⊢
    refine (HZ1.out _).mono ?_
    rintro e w2 ⟨rfl, hb2⟩
    have H2 := bel_trans H1 hb2
    have qa10_2 := (hb2.cell (p := ⟨w0.heap.size, 0, none⟩) za1_1).trans qa10_1
    have qa11_2 := (hb2.cell (p := ⟨w0.heap.size, 1, none⟩) za1_1).trans qa11_1
    have za1_2 := Nat.lt_of_lt_of_le za1_1 hb2.size
    have qa20_2 := (hb2.cell (p := ⟨w0.heap.size + 1, 0, none⟩) za2_1).trans qa20_1
    have qa21_2 := (hb2.cell (p := ⟨w0.heap.size + 1, 1, none⟩) za2_1).trans qa21_1
    have za2_2 := Nat.lt_of_lt_of_le za2_1 hb2.size
    clear qa10_1 qa11_1 qa20_1 qa21_1 za1_1 za2_1
    go_wp2
    go_ret
    exact ⟨rfl, H2⟩
  have eR : szR (1048576) i1.length = ((1048576 - i1.length : Nat) : Int) := by rw [szR, if_pos hbig1]
  rw [eR] at hsz1
  have HZ1 := Lib.hid hsz1
  have hnn1 : decide (((1048576 - i1.length : Nat) : Int) < 0) = false := by simp <;> omega
  have hb1g : i1.length ≤ 1048576 := by omega
  have hb1h : i1.length ≤ 281474976710656 := by omega
  clear hsz1 eR
  have hsz2 := fun w => szPath x2 i2.length cp2 ad2 (1048576 - i1.length) w (by omega) l2
  by_cases hbig2 : i2.length ≤ 1048576 - i1.length
  rotate_left
  · have eR : szR (1048576 - i1.length) i2.length = -1 := by rw [szR, if_neg hbig2]
    rw [eR] at hsz2
    have HZ2 := Lib.hid hsz2
    clear hsz2 eR
    clear hb1g
    obtain ⟨w0, hw0⟩ : ∃ w0, w0 = w := ⟨_, rfl⟩
    subst hw0
    have H0 := Below.refl w0.heap.size w0
    go_enter Try.func5, Try.ntmps5
    go_wp2_with fail
    have hb1 : Below w0.heap.size w0 ((w0.alloc (.cells #[.slice ad1 i1.length cp1, .int .i64 x1] 46)).alloc (.cells #[.slice ad2 i2.length cp2, .int .i64 x2] 46)) := ((Below.refl _ _).alloc (by simp <;> omega) _).alloc (by simp <;> omega) _
    have qa10_1 : ((w0.alloc (.cells #[.slice ad1 i1.length cp1, .int .i64 x1] 46)).alloc (.cells #[.slice ad2 i2.length cp2, .int .i64 x2] 46)).cell? ⟨w0.heap.size, 0, none⟩ = some (.slice ad1 i1.length cp1) := by go_simp
    have qa11_1 : ((w0.alloc (.cells #[.slice ad1 i1.length cp1, .int .i64 x1] 46)).alloc (.cells #[.slice ad2 i2.length cp2, .int .i64 x2] 46)).cell? ⟨w0.heap.size, 1, none⟩ = some (.int .i64 x1) := by go_simp
    have za1_1 : w0.heap.size < ((w0.alloc (.cells #[.slice ad1 i1.length cp1, .int .i64 x1] 46)).alloc (.cells #[.slice ad2 i2.length cp2, .int .i64 x2] 46)).heap.size := by simp <;> omega
    have fa1_1 : w0.heap.size ≤ w0.heap.size := by have := H0.size; omega
    have qa20_1 : ((w0.alloc (.cells #[.slice ad1 i1.length cp1, .int .i64 x1] 46)).alloc (.cells #[.slice ad2 i2.length cp2, .int .i64 x2] 46)).cell? ⟨w0.heap.size + 1, 0, none⟩ = some (.slice ad2 i2.length cp2) := by go_simp
    have qa21_1 : ((w0.alloc (.cells #[.slice ad1 i1.length cp1, .int .i64 x1] 46)).alloc (.cells #[.slice ad2 i2.length cp2, .int .i64 x2] 46)).cell? ⟨w0.heap.size + 1, 1, none⟩ = some (.int .i64 x2) := by go_simp
    have za2_1 : w0.heap.size + 1 < ((w0.alloc (.cells #[.slice ad1 i1.length cp1, .int .i64 x1] 46)).alloc (.cells #[.slice ad2 i2.length cp2, .int .i64 x2] 46)).heap.size := by simp <;> omega
    have fa2_1 : w0.heap.size ≤ w0.heap.size + 1 := by have := H0.size; omega
    have H1 := bel_trans H0 hb1
    generalize ((w0.alloc (.cells #[.slice ad1 i1.length cp1, .int .i64 x1] 46)).alloc (.cells #[.slice ad2 i2.length cp2, .int .i64 x2] 46)) = w1 at hb1 H1 qa10_1 qa11_1 za1_1 qa20_1 qa21_1 za2_1 ⊢
    refine (HZ1.out _).mono ?_
    rintro e w2 ⟨rfl, hb2⟩
    have H2 := bel_trans H1 hb2
    have qa10_2 := (hb2.cell (p := ⟨w0.heap.size, 0, none⟩) za1_1).trans qa10_1
    have qa11_2 := (hb2.cell (p := ⟨w0.heap.size, 1, none⟩) za1_1).trans qa11_1
    have za1_2 := Nat.lt_of_lt_of_le za1_1 hb2.size
    have qa20_2 := (hb2.cell (p := ⟨w0.heap.size + 1, 0, none⟩) za2_1).trans qa20_1
    have qa21_2 := (hb2.cell (p := ⟨w0.heap.size + 1, 1, none⟩) za2_1).trans qa21_1
    have za2_2 := Nat.lt_of_lt_of_le za2_1 hb2.size
    clear qa10_1 qa11_1 qa20_1 qa21_1 za1_1 za2_1
    go_wp2_with fail
    refine (HZ2.out _).mono ?_
    rintro e w3 ⟨rfl, hb3⟩
    have H3 := bel_trans H2 hb3
    have qa10_3 := (hb3.cell (p := ⟨w0.heap.size, 0, none⟩) za1_2).trans qa10_2
    have qa11_3 := (hb3.cell (p := ⟨w0.heap.size, 1, none⟩) za1_2).trans qa11_2
    have za1_3 := Nat.lt_of_lt_of_le za1_2 hb3.size
    have qa20_3 := (hb3.cell (p := ⟨w0.heap.size + 1, 0, none⟩) za2_2).trans qa20_2
    have qa21_3 := (hb3.cell (p := ⟨w0.heap.size + 1, 1, none⟩) za2_2).trans qa21_2
    have za2_3 := Nat.lt_of_lt_of_le za2_2 hb3.size
    clear qa10_2 qa11_2 qa20_2 qa21_2 za1_2 za2_2
    go_wp2
    go_ret
    exact ⟨rfl, H3⟩
  have eR : szR (1048576 - i1.length) i2.length = ((1048576 - i1.length - i2.length : Nat) : Int) := by rw [szR, if_pos hbig2]
  rw [eR] at hsz2
  have HZ2 := Lib.hid hsz2
  have hnn2 : decide (((1048576 - i1.length - i2.length : Nat) : Int) < 0) = false := by simp <;> omega
  have hb2g : i2.length ≤ 1048576 := by omega
  have hb2h : i2.length ≤ 281474976710656 := by omega
  clear hsz2 eR
  obtain ⟨w0, hw0⟩ : ∃ w0, w0 = w := ⟨_, rfl⟩
  subst hw0
  have H0 := Below.refl w0.heap.size w0
  have R1_0 := R1
  clear R1
  have R2_0 := R2
  clear R2
  go_enter Try.func5, Try.ntmps5
  go_wp2_with fail
  have hb1 : Below w0.heap.size w0 ((w0.alloc (.cells #[.slice ad1 i1.length cp1, .int .i64 x1] 46)).alloc (.cells #[.slice ad2 i2.length cp2, .int .i64 x2] 46)) := ((Below.refl _ _).alloc (by simp <;> omega) _).alloc (by simp <;> omega) _
  have qa10_1 : ((w0.alloc (.cells #[.slice ad1 i1.length cp1, .int .i64 x1] 46)).alloc (.cells #[.slice ad2 i2.length cp2, .int .i64 x2] 46)).cell? ⟨w0.heap.size, 0, none⟩ = some (.slice ad1 i1.length cp1) := by go_simp
  have qa11_1 : ((w0.alloc (.cells #[.slice ad1 i1.length cp1, .int .i64 x1] 46)).alloc (.cells #[.slice ad2 i2.length cp2, .int .i64 x2] 46)).cell? ⟨w0.heap.size, 1, none⟩ = some (.int .i64 x1) := by go_simp
  have za1_1 : w0.heap.size < ((w0.alloc (.cells #[.slice ad1 i1.length cp1, .int .i64 x1] 46)).alloc (.cells #[.slice ad2 i2.length cp2, .int .i64 x2] 46)).heap.size := by simp <;> omega
  have fa1_1 : w0.heap.size ≤ w0.heap.size := by have := H0.size; omega
  have qa20_1 : ((w0.alloc (.cells #[.slice ad1 i1.length cp1, .int .i64 x1] 46)).alloc (.cells #[.slice ad2 i2.length cp2, .int .i64 x2] 46)).cell? ⟨w0.heap.size + 1, 0, none⟩ = some (.slice ad2 i2.length cp2) := by go_simp
  have qa21_1 : ((w0.alloc (.cells #[.slice ad1 i1.length cp1, .int .i64 x1] 46)).alloc (.cells #[.slice ad2 i2.length cp2, .int .i64 x2] 46)).cell? ⟨w0.heap.size + 1, 1, none⟩ = some (.int .i64 x2) := by go_simp
  have za2_1 : w0.heap.size + 1 < ((w0.alloc (.cells #[.slice ad1 i1.length cp1, .int .i64 x1] 46)).alloc (.cells #[.slice ad2 i2.length cp2, .int .i64 x2] 46)).heap.size := by simp <;> omega
  have fa2_1 : w0.heap.size ≤ w0.heap.size + 1 := by have := H0.size; omega
  have H1 := bel_trans H0 hb1
  have R1_1 := Lib.hid (R1_0.out.keep hb1)
  have R2_1 := Lib.hid (R2_0.out.keep hb1)
  generalize ((w0.alloc (.cells #[.slice ad1 i1.length cp1, .int .i64 x1] 46)).alloc (.cells #[.slice ad2 i2.length cp2, .int .i64 x2] 46)) = w1 at hb1 H1 qa10_1 qa11_1 za1_1 qa20_1 qa21_1 za2_1 R1_1 R2_1 ⊢
  clear R1_0 R2_0
  refine (HZ1.out _).mono ?_
  rintro e w2 ⟨rfl, hb2⟩
  have H2 := bel_trans H1 hb2
  have qa10_2 := (hb2.cell (p := ⟨w0.heap.size, 0, none⟩) za1_1).trans qa10_1
  have qa11_2 := (hb2.cell (p := ⟨w0.heap.size, 1, none⟩) za1_1).trans qa11_1
  have za1_2 := Nat.lt_of_lt_of_le za1_1 hb2.size
  have qa20_2 := (hb2.cell (p := ⟨w0.heap.size + 1, 0, none⟩) za2_1).trans qa20_1
  have qa21_2 := (hb2.cell (p := ⟨w0.heap.size + 1, 1, none⟩) za2_1).trans qa21_1
  have za2_2 := Nat.lt_of_lt_of_le za2_1 hb2.size
  have R1_2 := Lib.hid (R1_1.out.keep hb2)
  have R2_2 := Lib.hid (R2_1.out.keep hb2)
  clear qa10_1 qa11_1 qa20_1 qa21_1 za1_1 za2_1 R1_1 R2_1
  go_wp2_with fail
  refine (HZ2.out _).mono ?_
  rintro e w3 ⟨rfl, hb3⟩
  have H3 := bel_trans H2 hb3
  have qa10_3 := (hb3.cell (p := ⟨w0.heap.size, 0, none⟩) za1_2).trans qa10_2
  have qa11_3 := (hb3.cell (p := ⟨w0.heap.size, 1, none⟩) za1_2).trans qa11_2
  have za1_3 := Nat.lt_of_lt_of_le za1_2 hb3.size
  have qa20_3 := (hb3.cell (p := ⟨w0.heap.size + 1, 0, none⟩) za2_2).trans qa20_2
  have qa21_3 := (hb3.cell (p := ⟨w0.heap.size + 1, 1, none⟩) za2_2).trans qa21_2
  have za2_3 := Nat.lt_of_lt_of_le za2_2 hb3.size
  have R1_3 := Lib.hid (R1_2.out.keep hb3)
  have R2_3 := Lib.hid (R2_2.out.keep hb3)
  clear qa10_2 qa11_2 qa20_2 qa21_2 za1_2 za2_2 R1_2 R2_2
  go_wp2_with fail
  have hold : ∀ w' : World, Below w3.heap.size w3 w' → (w'.cell? ⟨w0.heap.size, 0, none⟩ = some (.slice ad1 i1.length cp1) ∧ w'.cell? ⟨w0.heap.size, 1, none⟩ = some (.int .i64 x1) ∧ w'.cell? ⟨w0.heap.size + 1, 0, none⟩ = some (.slice ad2 i2.length cp2) ∧ w'.cell? ⟨w0.heap.size + 1, 1, none⟩ = some (.int .i64 x2)) := fun w' h => ⟨(h.cell (p := ⟨w0.heap.size, 0, none⟩) za1_3).trans qa10_3, (h.cell (p := ⟨w0.heap.size, 1, none⟩) za1_3).trans qa11_3, (h.cell (p := ⟨w0.heap.size + 1, 0, none⟩) za2_3).trans qa20_3, (h.cell (p := ⟨w0.heap.size + 1, 1, none⟩) za2_3).trans qa21_3⟩
  have HOLD := Lib.hid hold
  clear hold
  go_region_held3 (fun w' : World => w'.cell? ⟨w0.heap.size, 0, none⟩ = some (.slice ad1 i1.length cp1) ∧ w'.cell? ⟨w0.heap.size, 1, none⟩ = some (.int .i64 x1) ∧ w'.cell? ⟨w0.heap.size + 1, 0, none⟩ = some (.slice ad2 i2.length cp2) ∧ w'.cell? ⟨w0.heap.size + 1, 1, none⟩ = some (.int .i64 x2)) (first | exact HOLD.out _ ((Below.refl _ _).drew) | exact HOLD.out _ (bel_trans ((Below.refl _ _).drew) hb4) | exact HOLD.out _ (bel_trans (bel_trans ((Below.refl _ _).drew) hb4) hb5) | exact HOLD.out _ (bel_trans (bel_trans (bel_trans ((Below.refl _ _).drew) hb4) hb5) hb6)) (first | (go_at_call 24; (with_reducible refine (toPath x1 i1 _ _ (R1_3.out.keep ((Below.refl _ _).drew)) hb1g).mono ?_); rintro e w4 ⟨sA1, rfl, hnew1, hb4⟩) | (go_at_call 24; (with_reducible refine (toPath x2 i2 _ _ (R2_3.out.keep (bel_trans ((Below.refl _ _).drew) hb4)) hb2g).mono ?_); rintro e w5 ⟨sA2, rfl, hnew2, hb5⟩) | (go_at_call 27; (with_reducible refine (sPathBefore a0 x1 x2 i1 i2 _ _ _ (hnew1.row.keep hb5) hnew2.row hb1h hb2h).mono ?_); rintro e w6 ⟨rfl, hb6⟩))
  have hq : Below w3.heap.size w3 w6 := (bel_trans (bel_trans (bel_trans ((Below.refl _ _).drew) hb4) hb5) hb6)
  clear hb4 hb5 hb6 HOLD
  have hb6 := hq
  clear hq
  have H6 := bel_trans H3 hb6
  have qa10_6 := (hb6.cell (p := ⟨w0.heap.size, 0, none⟩) za1_3).trans qa10_3
  have qa11_6 := (hb6.cell (p := ⟨w0.heap.size, 1, none⟩) za1_3).trans qa11_3
  have za1_6 := Nat.lt_of_lt_of_le za1_3 hb6.size
  have qa20_6 := (hb6.cell (p := ⟨w0.heap.size + 1, 0, none⟩) za2_3).trans qa20_3
  have qa21_6 := (hb6.cell (p := ⟨w0.heap.size + 1, 1, none⟩) za2_3).trans qa21_3
  have za2_6 := Nat.lt_of_lt_of_le za2_3 hb6.size
  have R1_6 := Lib.hid (R1_3.out.keep hb6)
  have R2_6 := Lib.hid (R2_3.out.keep hb6)
  clear qa10_3 qa11_3 qa20_3 qa21_3 za1_3 za2_3 R1_3 R2_3
  go_wp2_with fail
  refine (toPath x1 i1 _ _ R1_6.out hb1g).mono ?_
  rintro e w7 ⟨_, rfl, hnew, hb7⟩
  have H7 := bel_trans H6 hb7
  have qa10_7 := (hb7.cell (p := ⟨w0.heap.size, 0, none⟩) za1_6).trans qa10_6
  have qa11_7 := (hb7.cell (p := ⟨w0.heap.size, 1, none⟩) za1_6).trans qa11_6
  have za1_7 := Nat.lt_of_lt_of_le za1_6 hb7.size
  have qa20_7 := (hb7.cell (p := ⟨w0.heap.size + 1, 0, none⟩) za2_6).trans qa20_6
  have qa21_7 := (hb7.cell (p := ⟨w0.heap.size + 1, 1, none⟩) za2_6).trans qa21_6
  have za2_7 := Nat.lt_of_lt_of_le za2_6 hb7.size
  have R1_7 := Lib.hid (R1_6.out.keep hb7)
  have R2_7 := Lib.hid (R2_6.out.keep hb7)
  obtain ⟨gX1, capX1, rfl, hgX1, hrowX1⟩ := hnew
  have X1_7 := Lib.hid (rowI_of_rowIs hrowX1 capX1)
  clear hrowX1
  have hgX1 := Lib.hid hgX1
  clear qa10_6 qa11_6 qa20_6 qa21_6 za1_6 za2_6 R1_6 R2_6
  go_wp2_with fail
  have hb8 : Below w7.heap.size w7 (w7.alloc (.cells #[.slice (some ⟨gX1, 0, none⟩) i1.length capX1, .int .i64 x1] 49)) := (Below.refl _ _).alloc (by simp <;> omega) _
  have qx10_8 : (w7.alloc (.cells #[.slice (some ⟨gX1, 0, none⟩) i1.length capX1, .int .i64 x1] 49)).cell? ⟨w7.heap.size, 0, none⟩ = some (.slice (some ⟨gX1, 0, none⟩) i1.length capX1) := by go_simp
  have qx11_8 : (w7.alloc (.cells #[.slice (some ⟨gX1, 0, none⟩) i1.length capX1, .int .i64 x1] 49)).cell? ⟨w7.heap.size, 1, none⟩ = some (.int .i64 x1) := by go_simp
  have zx1_8 : w7.heap.size < (w7.alloc (.cells #[.slice (some ⟨gX1, 0, none⟩) i1.length capX1, .int .i64 x1] 49)).heap.size := by simp <;> omega
  have fx1_8 : w0.heap.size ≤ w7.heap.size := by have := H7.size; omega
  have H8 := bel_trans H7 hb8
  have qa10_8 := (hb8.cell (p := ⟨w0.heap.size, 0, none⟩) za1_7).trans qa10_7
  have qa11_8 := (hb8.cell (p := ⟨w0.heap.size, 1, none⟩) za1_7).trans qa11_7
  have za1_8 := Nat.lt_of_lt_of_le za1_7 hb8.size
  have qa20_8 := (hb8.cell (p := ⟨w0.heap.size + 1, 0, none⟩) za2_7).trans qa20_7
  have qa21_8 := (hb8.cell (p := ⟨w0.heap.size + 1, 1, none⟩) za2_7).trans qa21_7
  have za2_8 := Nat.lt_of_lt_of_le za2_7 hb8.size
  have R1_8 := Lib.hid (R1_7.out.keep hb8)
  have R2_8 := Lib.hid (R2_7.out.keep hb8)
  have X1_8 := Lib.hid (X1_7.out.keep hb8)
  generalize (w7.alloc (.cells #[.slice (some ⟨gX1, 0, none⟩) i1.length capX1, .int .i64 x1] 49)) = w8 at hb8 H8 qx10_8 qx11_8 zx1_8 qa10_8 qa11_8 za1_8 qa20_8 qa21_8 za2_8 R1_8 R2_8 X1_8 ⊢
  clear qa10_7 qa11_7 qa20_7 qa21_7 za1_7 za2_7 R1_7 R2_7 X1_7
  go_wp2_with fail
  refine (toPath x2 i2 _ _ R2_8.out hb2g).mono ?_
  rintro e w9 ⟨_, rfl, hnew, hb9⟩
  have H9 := bel_trans H8 hb9
  have qa10_9 := (hb9.cell (p := ⟨w0.heap.size, 0, none⟩) za1_8).trans qa10_8
  have qa11_9 := (hb9.cell (p := ⟨w0.heap.size, 1, none⟩) za1_8).trans qa11_8
  have za1_9 := Nat.lt_of_lt_of_le za1_8 hb9.size
  have qa20_9 := (hb9.cell (p := ⟨w0.heap.size + 1, 0, none⟩) za2_8).trans qa20_8
  have qa21_9 := (hb9.cell (p := ⟨w0.heap.size + 1, 1, none⟩) za2_8).trans qa21_8
  have za2_9 := Nat.lt_of_lt_of_le za2_8 hb9.size
  have qx10_9 := (hb9.cell (p := ⟨w7.heap.size, 0, none⟩) zx1_8).trans qx10_8
  have qx11_9 := (hb9.cell (p := ⟨w7.heap.size, 1, none⟩) zx1_8).trans qx11_8
  have zx1_9 := Nat.lt_of_lt_of_le zx1_8 hb9.size
  have R1_9 := Lib.hid (R1_8.out.keep hb9)
  have R2_9 := Lib.hid (R2_8.out.keep hb9)
  have X1_9 := Lib.hid (X1_8.out.keep hb9)
  obtain ⟨gX2, capX2, rfl, hgX2, hrowX2⟩ := hnew
  have X2_9 := Lib.hid (rowI_of_rowIs hrowX2 capX2)
  clear hrowX2
  have hgX2 := Lib.hid hgX2
  clear qa10_8 qa11_8 qa20_8 qa21_8 qx10_8 qx11_8 za1_8 za2_8 zx1_8 R1_8 R2_8 X1_8
  go_wp2_with fail
  have hb10 : Below w9.heap.size w9 (w9.alloc (.cells #[.slice (some ⟨gX2, 0, none⟩) i2.length capX2, .int .i64 x2] 49)) := (Below.refl _ _).alloc (by simp <;> omega) _
  have qx20_10 : (w9.alloc (.cells #[.slice (some ⟨gX2, 0, none⟩) i2.length capX2, .int .i64 x2] 49)).cell? ⟨w9.heap.size, 0, none⟩ = some (.slice (some ⟨gX2, 0, none⟩) i2.length capX2) := by go_simp
  have qx21_10 : (w9.alloc (.cells #[.slice (some ⟨gX2, 0, none⟩) i2.length capX2, .int .i64 x2] 49)).cell? ⟨w9.heap.size, 1, none⟩ = some (.int .i64 x2) := by go_simp
  have zx2_10 : w9.heap.size < (w9.alloc (.cells #[.slice (some ⟨gX2, 0, none⟩) i2.length capX2, .int .i64 x2] 49)).heap.size := by simp <;> omega
  have fx2_10 : w0.heap.size ≤ w9.heap.size := by have := H9.size; omega
  have H10 := bel_trans H9 hb10
  have qa10_10 := (hb10.cell (p := ⟨w0.heap.size, 0, none⟩) za1_9).trans qa10_9
  have qa11_10 := (hb10.cell (p := ⟨w0.heap.size, 1, none⟩) za1_9).trans qa11_9
  have za1_10 := Nat.lt_of_lt_of_le za1_9 hb10.size
  have qa20_10 := (hb10.cell (p := ⟨w0.heap.size + 1, 0, none⟩) za2_9).trans qa20_9
  have qa21_10 := (hb10.cell (p := ⟨w0.heap.size + 1, 1, none⟩) za2_9).trans qa21_9
  have za2_10 := Nat.lt_of_lt_of_le za2_9 hb10.size
  have qx10_10 := (hb10.cell (p := ⟨w7.heap.size, 0, none⟩) zx1_9).trans qx10_9
  have qx11_10 := (hb10.cell (p := ⟨w7.heap.size, 1, none⟩) zx1_9).trans qx11_9
  have zx1_10 := Nat.lt_of_lt_of_le zx1_9 hb10.size
  have R1_10 := Lib.hid (R1_9.out.keep hb10)
  have R2_10 := Lib.hid (R2_9.out.keep hb10)
  have X1_10 := Lib.hid (X1_9.out.keep hb10)
  have X2_10 := Lib.hid (X2_9.out.keep hb10)
  generalize (w9.alloc (.cells #[.slice (some ⟨gX2, 0, none⟩) i2.length capX2, .int .i64 x2] 49)) = w10 at hb10 H10 qx20_10 qx21_10 zx2_10 qa10_10 qa11_10 za1_10 qa20_10 qa21_10 za2_10 qx10_10 qx11_10 zx1_10 R1_10 R2_10 X1_10 X2_10 ⊢
  clear qa10_9 qa11_9 qa20_9 qa21_9 qx10_9 qx11_9 za1_9 za2_9 zx1_9 R1_9 R2_9 X1_9 X2_9
  go_wp2_with fail
  refine (pathBefore a0 x1 x2 i1 i2 _ _ _ X1_10.out X2_10.out hb1h hb2h).mono ?_
  rintro e w11 ⟨rfl, hb11⟩
  have H11 := bel_trans H10 hb11
  have qa10_11 := (hb11.cell (p := ⟨w0.heap.size, 0, none⟩) za1_10).trans qa10_10
  have qa11_11 := (hb11.cell (p := ⟨w0.heap.size, 1, none⟩) za1_10).trans qa11_10
  have za1_11 := Nat.lt_of_lt_of_le za1_10 hb11.size
  have qa20_11 := (hb11.cell (p := ⟨w0.heap.size + 1, 0, none⟩) za2_10).trans qa20_10
  have qa21_11 := (hb11.cell (p := ⟨w0.heap.size + 1, 1, none⟩) za2_10).trans qa21_10
  have za2_11 := Nat.lt_of_lt_of_le za2_10 hb11.size
  have qx10_11 := (hb11.cell (p := ⟨w7.heap.size, 0, none⟩) zx1_10).trans qx10_10
  have qx11_11 := (hb11.cell (p := ⟨w7.heap.size, 1, none⟩) zx1_10).trans qx11_10
  have zx1_11 := Nat.lt_of_lt_of_le zx1_10 hb11.size
  have qx20_11 := (hb11.cell (p := ⟨w9.heap.size, 0, none⟩) zx2_10).trans qx20_10
  have qx21_11 := (hb11.cell (p := ⟨w9.heap.size, 1, none⟩) zx2_10).trans qx21_10
  have zx2_11 := Nat.lt_of_lt_of_le zx2_10 hb11.size
  have R1_11 := Lib.hid (R1_10.out.keep hb11)
  have R2_11 := Lib.hid (R2_10.out.keep hb11)
  have X1_11 := Lib.hid (X1_10.out.keep hb11)
  have X2_11 := Lib.hid (X2_10.out.keep hb11)
  clear qa10_10 qa11_10 qa20_10 qa21_10 qx10_10 qx11_10 qx20_10 qx21_10 za1_10 za2_10 zx1_10 zx2_10 R1_10 R2_10 X1_10 X2_10
  go_wp2_with fail
  have hold : ∀ w' : World, Below w11.heap.size w11 w' → (w'.cell? ⟨w7.heap.size, 0, none⟩ = some (.slice (some ⟨gX1, 0, none⟩) i1.length capX1) ∧ w'.cell? ⟨w7.heap.size, 1, none⟩ = some (.int .i64 x1) ∧ w'.cell? ⟨w0.heap.size, 0, none⟩ = some (.slice ad1 i1.length cp1) ∧ w'.cell? ⟨w0.heap.size, 1, none⟩ = some (.int .i64 x1)) := fun w' h => ⟨(h.cell (p := ⟨w7.heap.size, 0, none⟩) zx1_11).trans qx10_11, (h.cell (p := ⟨w7.heap.size, 1, none⟩) zx1_11).trans qx11_11, (h.cell (p := ⟨w0.heap.size, 0, none⟩) za1_11).trans qa10_11, (h.cell (p := ⟨w0.heap.size, 1, none⟩) za1_11).trans qa11_11⟩
  have HOLD := Lib.hid hold
  clear hold
  go_region_held3 (fun w' : World => w'.cell? ⟨w7.heap.size, 0, none⟩ = some (.slice (some ⟨gX1, 0, none⟩) i1.length capX1) ∧ w'.cell? ⟨w7.heap.size, 1, none⟩ = some (.int .i64 x1) ∧ w'.cell? ⟨w0.heap.size, 0, none⟩ = some (.slice ad1 i1.length cp1) ∧ w'.cell? ⟨w0.heap.size, 1, none⟩ = some (.int .i64 x1)) (first | exact HOLD.out _ ((Below.refl _ _).drew) | exact HOLD.out _ (bel_trans ((Below.refl _ _).drew) hb12) | exact HOLD.out _ (bel_trans (bel_trans ((Below.refl _ _).drew) hb12) hb13)) (first | (go_at_call 24; (with_reducible refine (toPath x1 i1 _ _ (R1_11.out.keep ((Below.refl _ _).drew)) hb1g).mono ?_); rintro e w12 ⟨sB1, rfl, hnew1, hb12⟩) | (go_at_call 26; (with_reducible refine (eqPath x1 i1 _ _ _ (X1_11.out.keep (bel_trans ((Below.refl _ _).drew) hb12)) hnew1.row hb1g).mono ?_); rintro e w13 ⟨rfl, hb13⟩))
  have hq : Below w11.heap.size w11 w13 := (bel_trans (bel_trans ((Below.refl _ _).drew) hb12) hb13)
  clear hb12 hb13 HOLD
  have hb13 := hq
  clear hq
  have H13 := bel_trans H11 hb13
  have qa10_13 := (hb13.cell (p := ⟨w0.heap.size, 0, none⟩) za1_11).trans qa10_11
  have qa11_13 := (hb13.cell (p := ⟨w0.heap.size, 1, none⟩) za1_11).trans qa11_11
  have za1_13 := Nat.lt_of_lt_of_le za1_11 hb13.size
  have qa20_13 := (hb13.cell (p := ⟨w0.heap.size + 1, 0, none⟩) za2_11).trans qa20_11
  have qa21_13 := (hb13.cell (p := ⟨w0.heap.size + 1, 1, none⟩) za2_11).trans qa21_11
  have za2_13 := Nat.lt_of_lt_of_le za2_11 hb13.size
  have qx10_13 := (hb13.cell (p := ⟨w7.heap.size, 0, none⟩) zx1_11).trans qx10_11
  have qx11_13 := (hb13.cell (p := ⟨w7.heap.size, 1, none⟩) zx1_11).trans qx11_11
  have zx1_13 := Nat.lt_of_lt_of_le zx1_11 hb13.size
  have qx20_13 := (hb13.cell (p := ⟨w9.heap.size, 0, none⟩) zx2_11).trans qx20_11
  have qx21_13 := (hb13.cell (p := ⟨w9.heap.size, 1, none⟩) zx2_11).trans qx21_11
  have zx2_13 := Nat.lt_of_lt_of_le zx2_11 hb13.size
  have R1_13 := Lib.hid (R1_11.out.keep hb13)
  have R2_13 := Lib.hid (R2_11.out.keep hb13)
  have X1_13 := Lib.hid (X1_11.out.keep hb13)
  have X2_13 := Lib.hid (X2_11.out.keep hb13)
  clear qa10_11 qa11_11 qa20_11 qa21_11 qx10_11 qx11_11 qx20_11 qx21_11 za1_11 za2_11 zx1_11 zx2_11 R1_11 R2_11 X1_11 X2_11
  clear hnew1
  clear X1_13
  go_wp2_with fail
  have hold : ∀ w' : World, Below w13.heap.size w13 w' → (w'.cell? ⟨w9.heap.size, 0, none⟩ = some (.slice (some ⟨gX2, 0, none⟩) i2.length capX2) ∧ w'.cell? ⟨w9.heap.size, 1, none⟩ = some (.int .i64 x2) ∧ w'.cell? ⟨w0.heap.size + 1, 0, none⟩ = some (.slice ad2 i2.length cp2) ∧ w'.cell? ⟨w0.heap.size + 1, 1, none⟩ = some (.int .i64 x2)) := fun w' h => ⟨(h.cell (p := ⟨w9.heap.size, 0, none⟩) zx2_13).trans qx20_13, (h.cell (p := ⟨w9.heap.size, 1, none⟩) zx2_13).trans qx21_13, (h.cell (p := ⟨w0.heap.size + 1, 0, none⟩) za2_13).trans qa20_13, (h.cell (p := ⟨w0.heap.size + 1, 1, none⟩) za2_13).trans qa21_13⟩
  have HOLD := Lib.hid hold
  clear hold
  go_region_held3 (fun w' : World => w'.cell? ⟨w9.heap.size, 0, none⟩ = some (.slice (some ⟨gX2, 0, none⟩) i2.length capX2) ∧ w'.cell? ⟨w9.heap.size, 1, none⟩ = some (.int .i64 x2) ∧ w'.cell? ⟨w0.heap.size + 1, 0, none⟩ = some (.slice ad2 i2.length cp2) ∧ w'.cell? ⟨w0.heap.size + 1, 1, none⟩ = some (.int .i64 x2)) (first | exact HOLD.out _ ((Below.refl _ _).drew) | exact HOLD.out _ (bel_trans ((Below.refl _ _).drew) hb14) | exact HOLD.out _ (bel_trans (bel_trans ((Below.refl _ _).drew) hb14) hb15)) (first | (go_at_call 24; (with_reducible refine (toPath x2 i2 _ _ (R2_13.out.keep ((Below.refl _ _).drew)) hb2g).mono ?_); rintro e w14 ⟨sB2, rfl, hnew2, hb14⟩) | (go_at_call 26; (with_reducible refine (eqPath x2 i2 _ _ _ (X2_13.out.keep (bel_trans ((Below.refl _ _).drew) hb14)) hnew2.row hb2g).mono ?_); rintro e w15 ⟨rfl, hb15⟩))
  have hq : Below w13.heap.size w13 w15 := (bel_trans (bel_trans ((Below.refl _ _).drew) hb14) hb15)
  clear hb14 hb15 HOLD
  have hb15 := hq
  clear hq
  have H15 := bel_trans H13 hb15
  have qa10_15 := (hb15.cell (p := ⟨w0.heap.size, 0, none⟩) za1_13).trans qa10_13
  have qa11_15 := (hb15.cell (p := ⟨w0.heap.size, 1, none⟩) za1_13).trans qa11_13
  have za1_15 := Nat.lt_of_lt_of_le za1_13 hb15.size
  have qa20_15 := (hb15.cell (p := ⟨w0.heap.size + 1, 0, none⟩) za2_13).trans qa20_13
  have qa21_15 := (hb15.cell (p := ⟨w0.heap.size + 1, 1, none⟩) za2_13).trans qa21_13
  have za2_15 := Nat.lt_of_lt_of_le za2_13 hb15.size
  have qx10_15 := (hb15.cell (p := ⟨w7.heap.size, 0, none⟩) zx1_13).trans qx10_13
  have qx11_15 := (hb15.cell (p := ⟨w7.heap.size, 1, none⟩) zx1_13).trans qx11_13
  have zx1_15 := Nat.lt_of_lt_of_le zx1_13 hb15.size
  have qx20_15 := (hb15.cell (p := ⟨w9.heap.size, 0, none⟩) zx2_13).trans qx20_13
  have qx21_15 := (hb15.cell (p := ⟨w9.heap.size, 1, none⟩) zx2_13).trans qx21_13
  have zx2_15 := Nat.lt_of_lt_of_le zx2_13 hb15.size
  have R1_15 := Lib.hid (R1_13.out.keep hb15)
  have R2_15 := Lib.hid (R2_13.out.keep hb15)
  have X2_15 := Lib.hid (X2_13.out.keep hb15)
  clear qa10_13 qa11_13 qa20_13 qa21_13 qx10_13 qx11_13 qx20_13 qx21_13 za1_13 za2_13 zx1_13 zx2_13 R1_13 R2_13 X2_13
  clear hnew2
  clear X2_15
  go_wp2
  go_ret
  exact ⟨rfl, H15⟩

set_option maxRecDepth 100000 in
theorem lifted (os : Os) (started : os.Started) (H : Type) (enc : TypeId × Value → H) :
    ReturnsInHanded {} Try.checked os 5 .any (Rows.fnExactPathBeforeSpec.pre6 enc Try.prog Try.f5 Rows.fnExactPathBeforeRow.domain false) (Rows.fnExactPathBeforeSpec.post enc Try.prog Try.f5 false true false false) := by
  refine returnsInHanded_of_change (C := Try.checked) own started (by kernel_rfl) Try.func5
    (ChangeSpec.witness6 (enc := enc) (C := Try.checked) false ⟨#[], #[.int .i64 0, .agg #[.slice none 0 0, .int .i64 0], .agg #[.slice none 0 0, .int .i64 0]], []⟩ 8 (by kernel_rfl) (by kernel_rfl) (by kernel_rfl) (by kernel_rfl)) ?_
  intro W base args ds gs before hval0 hW hcnd _
  have hval : ∀ (j : Nat) t v, Try.f5.params[j]? = some t → args[j]? = some v → Value.okWide Try.prog W .any base t v := hval0
  have hW' := hW
  obtain ⟨p, q, hA0, hV, rfl, hfz, hnd⟩ := hW
  have hA : DataW.TrodAll enc Try.prog W 0 (fun _ => true) true Try.f5.params.toList args.toList ds p := hA0
  rw [Try.params5] at hA hval
  obtain ⟨v0, vs0, d0, ds0, p0, q0, hargs, rfl, rfl, h0, rr0⟩ := trodAll_cons hA
  obtain ⟨v1, vs1, d1, ds1, p1, q1, rfl, rfl, rfl, h1, rr1⟩ := trodAll_cons rr0
  obtain ⟨v2, vs2, d2, ds2, p2, q2, rfl, rfl, rfl, h2, rr2⟩ := trodAll_cons rr1
  obtain ⟨rfl, rfl, rfl⟩ := trodAll_nil rr2
  obtain rfl : args = #[v0, v1, v2] := by cases args; simp_all
  obtain ⟨rfl, rfl⟩ := trodVars_none hV
  have k0 := h0
  have lt0 : ∀ x ∈ p0, x.block < W.heap.size := by obtain ⟨m, hm⟩ := k0; exact DataW.trod_lt m _ _ _ hm
  have k1 := h1
  have lt1 : ∀ x ∈ p1, x.block < W.heap.size := by obtain ⟨m, hm⟩ := k1; exact DataW.trod_lt m _ _ _ hm
  have k2 := h2
  have lt2 : ∀ x ∈ p2, x.block < W.heap.size := by obtain ⟨m, hm⟩ := k2; exact DataW.trod_lt m _ _ _ hm
  obtain ⟨a0, rfl, rfl, rfl, w0⟩ := open_int Try.underlying3 (hval 0 3 v0 rfl rfl) h0
  obtain ⟨s1, i1, x1, rfl, r1, l1⟩ := openPath (hval 1 46 v1 rfl rfl) h1
  obtain ⟨s2, i2, x2, rfl, r2, l2⟩ := openPath (hval 2 46 v2 rfl rfl) h2
  clear hA0 hval0
  refine (walk W a0 w0 x1 s1 i1 r1 l1 x2 s2 i2 r2 l2).mono fun e W' ⟨he, bel⟩ => ?_
  subst he
  exact ⟨_, rfl, _, _, _, [], _, [], hW', trodAll_mk1 (shut_bool Try.underlying4 _), (trodAll_cons_mk (Below.trod laidOut (by kernel_rfl) (of_decide_eq_true (by kernel_rfl)) k0 bel lt0) (trodAll_cons_mk (Below.trod laidOut (by kernel_rfl) (of_decide_eq_true (by kernel_rfl)) k1 bel lt1) (trodAll_cons_mk (Below.trod laidOut (by kernel_rfl) (of_decide_eq_true (by kernel_rfl)) k2 bel lt2) trodAll_mk0))), rfl, bel.frame _, fun h => by cases h⟩

theorem over : Rows.fnExactPathBeforeRow.holds Try.pinned (OpenSpec.ofChange Rows.fnExactPathBeforeSpec) :=
  OpenClaim.holds_of_wide 5 Try.f5 rfl rfl rfl rfl rfl rfl rfl ⟨rfl, rfl, rfl, rfl, rfl⟩ rfl rfl rfl rfl rfl (by kernel_rfl) Try.func5 (by kernel_rfl)
    (of_decide_eq_true (by kernel_rfl)) (by unfold Func.isWrapper; first | (rw [if_pos (by decide +kernel)]; kernel_rfl) | (rw [if_neg (by decide +kernel)]; exact ⟨rfl, rfl⟩))
    (fun os started H enc _ => lifted os started H enc)

theorem proved : Rows.FnExactPathBeforeSaid := over
end Go.Proofs.Ytneapbggnnndhaa.fnExactPathBefore
