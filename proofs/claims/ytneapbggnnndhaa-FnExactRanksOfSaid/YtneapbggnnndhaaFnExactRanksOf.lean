/-
  Proved: at every graph and view impl.RanksOf answers as the model spec.RanksOf does, writes into no argument and returns memory of its own (the law FnExactRanksOf returns true for them all), with no further condition.
-/
import Derived.Test.YtneapbggnnndhaaRows
import Derived.Test.YtneapbggnnndhaaDerN
import Derived.Test.YtneapbggnnndhaaVEdges
import Derived.Test.YtneapbggnnndhaaMarks
import Derived.Test.YtneapbggnnndhaaHeld
import Derived.Test.YtneapbggnnndhaaOpenV
import Derived.WalkKit
import Derived.ProofKit
import Derived.OpenShut
import Derived.ShutString
import Derived.ChangeOld
import Derived.Below
namespace Go.Proofs.Ytneapbggnnndhaa.fnExactRanksOf
open Go.Proofs.Ytneapbggnnndhaa Go.BigFrame
open Go.ChangeShapes Go.WideShapes Go.ChangeAt Go.RowKit
open Go.ChangeMaps (open_string shut_string)
set_option linter.unusedVariables false

theorem own : ownKnob Try.prog.godebug = none := by kernel_rfl
theorem laidOut : laidOutB Try.prog = true := by kernel_rfl

set_option maxRecDepth 100000 in
set_option maxHeartbeats 4000000 in
theorem walk (w : World) (n0 : Int) (s0 : Value) (e0 : List Ed) (r0 : RowE w s0 e0) (l0 : e0.length ≤ 9223372036854775807) (m1 b1 : Int) (s1 : Value) (i1 : List Int) (r1 : Row w s1 i1) (l1 : i1.length ≤ 9223372036854775807) :
    Calls Try.prog 3 #[.agg #[.int .i64 n0, s0], .agg #[.int .i64 m1, .int .i64 b1, s1]] w fun e w' => e = .returned (.bool true) ∧ Below w.heap.size w w' := by
  obtain ⟨ad0, cp0, hs0, hz0⟩ := id r0
  subst hs0
  clear hz0
  have R0 := Lib.hid (InR.of_edges r0)
  clear r0
  obtain ⟨ad1, cp1, hs1, hz1⟩ := id r1
  subst hs1
  clear hz1
  have R1 := Lib.hid (InR.of_row r1)
  clear r1
  have hsz0 := fun w => szGraph n0 e0.length cp0 ad0 (1048576) w (by omega) l0
  by_cases hbig0 : e0.length ≤ 1048576
  rotate_left
  · have eR : szR (1048576) e0.length = -1 := by rw [szR, if_neg hbig0]
    rw [eR] at hsz0
    have HZ0 := Lib.hid hsz0
    clear hsz0 eR
    obtain ⟨w0, hw0⟩ : ∃ w0, w0 = w := ⟨_, rfl⟩
    subst hw0
    have H0 := Below.refl w0.heap.size w0
    go_enter Try.func3, Try.ntmps3
    go_wp2_with fail
    have hb1 : Below w0.heap.size w0 ((w0.alloc (.cells #[.int .i64 n0, .slice ad0 e0.length cp0] 24)).alloc (.cells #[.int .i64 m1, .int .i64 b1, .slice ad1 i1.length cp1] 27)) := ((Below.refl _ _).alloc (by simp <;> omega) _).alloc (by simp <;> omega) _
    have H1 := bel_trans H0 hb1
    have SZ1 := Lib.hid hb1.size
    have qa00_1 : ((w0.alloc (.cells #[.int .i64 n0, .slice ad0 e0.length cp0] 24)).alloc (.cells #[.int .i64 m1, .int .i64 b1, .slice ad1 i1.length cp1] 27)).cell? ⟨w0.heap.size, 0, none⟩ = some (.int .i64 n0) := by go_simp
    have qa01_1 : ((w0.alloc (.cells #[.int .i64 n0, .slice ad0 e0.length cp0] 24)).alloc (.cells #[.int .i64 m1, .int .i64 b1, .slice ad1 i1.length cp1] 27)).cell? ⟨w0.heap.size, 1, none⟩ = some (.slice ad0 e0.length cp0) := by go_simp
    have za0_1 : w0.heap.size < ((w0.alloc (.cells #[.int .i64 n0, .slice ad0 e0.length cp0] 24)).alloc (.cells #[.int .i64 m1, .int .i64 b1, .slice ad1 i1.length cp1] 27)).heap.size := by simp <;> omega
    have qa10_1 : ((w0.alloc (.cells #[.int .i64 n0, .slice ad0 e0.length cp0] 24)).alloc (.cells #[.int .i64 m1, .int .i64 b1, .slice ad1 i1.length cp1] 27)).cell? ⟨w0.heap.size + 1, 0, none⟩ = some (.int .i64 m1) := by go_simp
    have qa11_1 : ((w0.alloc (.cells #[.int .i64 n0, .slice ad0 e0.length cp0] 24)).alloc (.cells #[.int .i64 m1, .int .i64 b1, .slice ad1 i1.length cp1] 27)).cell? ⟨w0.heap.size + 1, 1, none⟩ = some (.int .i64 b1) := by go_simp
    have qa12_1 : ((w0.alloc (.cells #[.int .i64 n0, .slice ad0 e0.length cp0] 24)).alloc (.cells #[.int .i64 m1, .int .i64 b1, .slice ad1 i1.length cp1] 27)).cell? ⟨w0.heap.size + 1, 2, none⟩ = some (.slice ad1 i1.length cp1) := by go_simp
    have za1_1 : w0.heap.size + 1 < ((w0.alloc (.cells #[.int .i64 n0, .slice ad0 e0.length cp0] 24)).alloc (.cells #[.int .i64 m1, .int .i64 b1, .slice ad1 i1.length cp1] 27)).heap.size := by simp <;> omega
    generalize ((w0.alloc (.cells #[.int .i64 n0, .slice ad0 e0.length cp0] 24)).alloc (.cells #[.int .i64 m1, .int .i64 b1, .slice ad1 i1.length cp1] 27)) = w1 at hb1 H1 SZ1 qa00_1 qa01_1 qa10_1 qa11_1 qa12_1 za0_1 za1_1 ⊢
    have ZBa0 := Lib.hid za0_1
    have ZBa1 := Lib.hid za1_1
    refine (HZ0.out _).mono ?_
    rintro e w2 ⟨rfl, hb2⟩
    have H2 := bel_trans H1 hb2
    have SZ2 := Lib.hid hb2.size
    have qa00_2 := (hb2.cell (p := ⟨w0.heap.size, 0, none⟩) za0_1).trans qa00_1
    have qa01_2 := (hb2.cell (p := ⟨w0.heap.size, 1, none⟩) za0_1).trans qa01_1
    have za0_2 := Nat.lt_of_lt_of_le za0_1 hb2.size
    have qa10_2 := (hb2.cell (p := ⟨w0.heap.size + 1, 0, none⟩) za1_1).trans qa10_1
    have qa11_2 := (hb2.cell (p := ⟨w0.heap.size + 1, 1, none⟩) za1_1).trans qa11_1
    have qa12_2 := (hb2.cell (p := ⟨w0.heap.size + 1, 2, none⟩) za1_1).trans qa12_1
    have za1_2 := Nat.lt_of_lt_of_le za1_1 hb2.size
    clear qa00_1 qa01_1 za0_1 qa10_1 qa11_1 qa12_1 za1_1
    go_wp2
    go_ret
    exact ⟨rfl, H2⟩
  have eR : szR (1048576) e0.length = ((1048576 - e0.length : Nat) : Int) := by rw [szR, if_pos hbig0]
  rw [eR] at hsz0
  have HZ0 := Lib.hid hsz0
  have hnn0 : decide (((1048576 - e0.length : Nat) : Int) < 0) = false := by simp <;> omega
  have hb0g : e0.length ≤ 1048576 := by omega
  have hb0i : e0.length ≤ 4194304 := by omega
  have hb0h : e0.length ≤ 281474976710656 := by omega
  clear hsz0 eR
  have hsz1 := fun w => szView m1 b1 i1.length cp1 ad1 (1048576 - e0.length) w (by omega) l1
  by_cases hbig1 : i1.length ≤ 1048576 - e0.length
  rotate_left
  · have eR : szR (1048576 - e0.length) i1.length = -1 := by rw [szR, if_neg hbig1]
    rw [eR] at hsz1
    have HZ1 := Lib.hid hsz1
    clear hsz1 eR
    obtain ⟨w0, hw0⟩ : ∃ w0, w0 = w := ⟨_, rfl⟩
    subst hw0
    have H0 := Below.refl w0.heap.size w0
    go_enter Try.func3, Try.ntmps3
    go_wp2_with fail
    have hb1 : Below w0.heap.size w0 ((w0.alloc (.cells #[.int .i64 n0, .slice ad0 e0.length cp0] 24)).alloc (.cells #[.int .i64 m1, .int .i64 b1, .slice ad1 i1.length cp1] 27)) := ((Below.refl _ _).alloc (by simp <;> omega) _).alloc (by simp <;> omega) _
    have H1 := bel_trans H0 hb1
    have SZ1 := Lib.hid hb1.size
    have qa00_1 : ((w0.alloc (.cells #[.int .i64 n0, .slice ad0 e0.length cp0] 24)).alloc (.cells #[.int .i64 m1, .int .i64 b1, .slice ad1 i1.length cp1] 27)).cell? ⟨w0.heap.size, 0, none⟩ = some (.int .i64 n0) := by go_simp
    have qa01_1 : ((w0.alloc (.cells #[.int .i64 n0, .slice ad0 e0.length cp0] 24)).alloc (.cells #[.int .i64 m1, .int .i64 b1, .slice ad1 i1.length cp1] 27)).cell? ⟨w0.heap.size, 1, none⟩ = some (.slice ad0 e0.length cp0) := by go_simp
    have za0_1 : w0.heap.size < ((w0.alloc (.cells #[.int .i64 n0, .slice ad0 e0.length cp0] 24)).alloc (.cells #[.int .i64 m1, .int .i64 b1, .slice ad1 i1.length cp1] 27)).heap.size := by simp <;> omega
    have qa10_1 : ((w0.alloc (.cells #[.int .i64 n0, .slice ad0 e0.length cp0] 24)).alloc (.cells #[.int .i64 m1, .int .i64 b1, .slice ad1 i1.length cp1] 27)).cell? ⟨w0.heap.size + 1, 0, none⟩ = some (.int .i64 m1) := by go_simp
    have qa11_1 : ((w0.alloc (.cells #[.int .i64 n0, .slice ad0 e0.length cp0] 24)).alloc (.cells #[.int .i64 m1, .int .i64 b1, .slice ad1 i1.length cp1] 27)).cell? ⟨w0.heap.size + 1, 1, none⟩ = some (.int .i64 b1) := by go_simp
    have qa12_1 : ((w0.alloc (.cells #[.int .i64 n0, .slice ad0 e0.length cp0] 24)).alloc (.cells #[.int .i64 m1, .int .i64 b1, .slice ad1 i1.length cp1] 27)).cell? ⟨w0.heap.size + 1, 2, none⟩ = some (.slice ad1 i1.length cp1) := by go_simp
    have za1_1 : w0.heap.size + 1 < ((w0.alloc (.cells #[.int .i64 n0, .slice ad0 e0.length cp0] 24)).alloc (.cells #[.int .i64 m1, .int .i64 b1, .slice ad1 i1.length cp1] 27)).heap.size := by simp <;> omega
    generalize ((w0.alloc (.cells #[.int .i64 n0, .slice ad0 e0.length cp0] 24)).alloc (.cells #[.int .i64 m1, .int .i64 b1, .slice ad1 i1.length cp1] 27)) = w1 at hb1 H1 SZ1 qa00_1 qa01_1 qa10_1 qa11_1 qa12_1 za0_1 za1_1 ⊢
    have ZBa0 := Lib.hid za0_1
    have ZBa1 := Lib.hid za1_1
    refine (HZ0.out _).mono ?_
    rintro e w2 ⟨rfl, hb2⟩
    have H2 := bel_trans H1 hb2
    have SZ2 := Lib.hid hb2.size
    have qa00_2 := (hb2.cell (p := ⟨w0.heap.size, 0, none⟩) za0_1).trans qa00_1
    have qa01_2 := (hb2.cell (p := ⟨w0.heap.size, 1, none⟩) za0_1).trans qa01_1
    have za0_2 := Nat.lt_of_lt_of_le za0_1 hb2.size
    have qa10_2 := (hb2.cell (p := ⟨w0.heap.size + 1, 0, none⟩) za1_1).trans qa10_1
    have qa11_2 := (hb2.cell (p := ⟨w0.heap.size + 1, 1, none⟩) za1_1).trans qa11_1
    have qa12_2 := (hb2.cell (p := ⟨w0.heap.size + 1, 2, none⟩) za1_1).trans qa12_1
    have za1_2 := Nat.lt_of_lt_of_le za1_1 hb2.size
    clear qa00_1 qa01_1 za0_1 qa10_1 qa11_1 qa12_1 za1_1
    go_wp2_with fail
    refine (HZ1.out _).mono ?_
    rintro e w3 ⟨rfl, hb3⟩
    have H3 := bel_trans H2 hb3
    have SZ3 := Lib.hid hb3.size
    have qa00_3 := (hb3.cell (p := ⟨w0.heap.size, 0, none⟩) za0_2).trans qa00_2
    have qa01_3 := (hb3.cell (p := ⟨w0.heap.size, 1, none⟩) za0_2).trans qa01_2
    have za0_3 := Nat.lt_of_lt_of_le za0_2 hb3.size
    have qa10_3 := (hb3.cell (p := ⟨w0.heap.size + 1, 0, none⟩) za1_2).trans qa10_2
    have qa11_3 := (hb3.cell (p := ⟨w0.heap.size + 1, 1, none⟩) za1_2).trans qa11_2
    have qa12_3 := (hb3.cell (p := ⟨w0.heap.size + 1, 2, none⟩) za1_2).trans qa12_2
    have za1_3 := Nat.lt_of_lt_of_le za1_2 hb3.size
    clear qa00_2 qa01_2 za0_2 qa10_2 qa11_2 qa12_2 za1_2
    go_wp2
    go_ret
    exact ⟨rfl, H3⟩
  have eR : szR (1048576 - e0.length) i1.length = ((1048576 - e0.length - i1.length : Nat) : Int) := by rw [szR, if_pos hbig1]
  rw [eR] at hsz1
  have HZ1 := Lib.hid hsz1
  have hnn1 : decide (((1048576 - e0.length - i1.length : Nat) : Int) < 0) = false := by simp <;> omega
  have hb1g : i1.length ≤ 1048576 := by omega
  have hb1i : i1.length ≤ 4194304 := by omega
  have hb1h : i1.length ≤ 281474976710656 := by omega
  clear hsz1 eR
  obtain ⟨w0, hw0⟩ : ∃ w0, w0 = w := ⟨_, rfl⟩
  subst hw0
  have H0 := Below.refl w0.heap.size w0
  have R0_0 := R0
  clear R0
  have R1_0 := R1
  clear R1
  go_enter Try.func3, Try.ntmps3
  go_wp2_with fail
  have hb1 : Below w0.heap.size w0 ((w0.alloc (.cells #[.int .i64 n0, .slice ad0 e0.length cp0] 24)).alloc (.cells #[.int .i64 m1, .int .i64 b1, .slice ad1 i1.length cp1] 27)) := ((Below.refl _ _).alloc (by simp <;> omega) _).alloc (by simp <;> omega) _
  have H1 := bel_trans H0 hb1
  have SZ1 := Lib.hid hb1.size
  have R0_1 := Lib.hid (R0_0.out.keep hb1)
  have R1_1 := Lib.hid (R1_0.out.keep hb1)
  have qa00_1 : ((w0.alloc (.cells #[.int .i64 n0, .slice ad0 e0.length cp0] 24)).alloc (.cells #[.int .i64 m1, .int .i64 b1, .slice ad1 i1.length cp1] 27)).cell? ⟨w0.heap.size, 0, none⟩ = some (.int .i64 n0) := by go_simp
  have qa01_1 : ((w0.alloc (.cells #[.int .i64 n0, .slice ad0 e0.length cp0] 24)).alloc (.cells #[.int .i64 m1, .int .i64 b1, .slice ad1 i1.length cp1] 27)).cell? ⟨w0.heap.size, 1, none⟩ = some (.slice ad0 e0.length cp0) := by go_simp
  have za0_1 : w0.heap.size < ((w0.alloc (.cells #[.int .i64 n0, .slice ad0 e0.length cp0] 24)).alloc (.cells #[.int .i64 m1, .int .i64 b1, .slice ad1 i1.length cp1] 27)).heap.size := by simp <;> omega
  have qa10_1 : ((w0.alloc (.cells #[.int .i64 n0, .slice ad0 e0.length cp0] 24)).alloc (.cells #[.int .i64 m1, .int .i64 b1, .slice ad1 i1.length cp1] 27)).cell? ⟨w0.heap.size + 1, 0, none⟩ = some (.int .i64 m1) := by go_simp
  have qa11_1 : ((w0.alloc (.cells #[.int .i64 n0, .slice ad0 e0.length cp0] 24)).alloc (.cells #[.int .i64 m1, .int .i64 b1, .slice ad1 i1.length cp1] 27)).cell? ⟨w0.heap.size + 1, 1, none⟩ = some (.int .i64 b1) := by go_simp
  have qa12_1 : ((w0.alloc (.cells #[.int .i64 n0, .slice ad0 e0.length cp0] 24)).alloc (.cells #[.int .i64 m1, .int .i64 b1, .slice ad1 i1.length cp1] 27)).cell? ⟨w0.heap.size + 1, 2, none⟩ = some (.slice ad1 i1.length cp1) := by go_simp
  have za1_1 : w0.heap.size + 1 < ((w0.alloc (.cells #[.int .i64 n0, .slice ad0 e0.length cp0] 24)).alloc (.cells #[.int .i64 m1, .int .i64 b1, .slice ad1 i1.length cp1] 27)).heap.size := by simp <;> omega
  generalize ((w0.alloc (.cells #[.int .i64 n0, .slice ad0 e0.length cp0] 24)).alloc (.cells #[.int .i64 m1, .int .i64 b1, .slice ad1 i1.length cp1] 27)) = w1 at hb1 H1 SZ1 R0_1 R1_1 qa00_1 qa01_1 qa10_1 qa11_1 qa12_1 za0_1 za1_1 ⊢
  have ZBa0 := Lib.hid za0_1
  have ZBa1 := Lib.hid za1_1
  clear R0_0 R1_0
  refine (HZ0.out _).mono ?_
  rintro e w2 ⟨rfl, hb2⟩
  have H2 := bel_trans H1 hb2
  have SZ2 := Lib.hid hb2.size
  have qa00_2 := (hb2.cell (p := ⟨w0.heap.size, 0, none⟩) za0_1).trans qa00_1
  have qa01_2 := (hb2.cell (p := ⟨w0.heap.size, 1, none⟩) za0_1).trans qa01_1
  have za0_2 := Nat.lt_of_lt_of_le za0_1 hb2.size
  have qa10_2 := (hb2.cell (p := ⟨w0.heap.size + 1, 0, none⟩) za1_1).trans qa10_1
  have qa11_2 := (hb2.cell (p := ⟨w0.heap.size + 1, 1, none⟩) za1_1).trans qa11_1
  have qa12_2 := (hb2.cell (p := ⟨w0.heap.size + 1, 2, none⟩) za1_1).trans qa12_1
  have za1_2 := Nat.lt_of_lt_of_le za1_1 hb2.size
  have R0_2 := Lib.hid (R0_1.out.keep hb2)
  have R1_2 := Lib.hid (R1_1.out.keep hb2)
  clear R0_1 R1_1 qa00_1 qa01_1 za0_1 qa10_1 qa11_1 qa12_1 za1_1
  go_wp2_with fail
  refine (HZ1.out _).mono ?_
  rintro e w3 ⟨rfl, hb3⟩
  have H3 := bel_trans H2 hb3
  have SZ3 := Lib.hid hb3.size
  have qa00_3 := (hb3.cell (p := ⟨w0.heap.size, 0, none⟩) za0_2).trans qa00_2
  have qa01_3 := (hb3.cell (p := ⟨w0.heap.size, 1, none⟩) za0_2).trans qa01_2
  have za0_3 := Nat.lt_of_lt_of_le za0_2 hb3.size
  have qa10_3 := (hb3.cell (p := ⟨w0.heap.size + 1, 0, none⟩) za1_2).trans qa10_2
  have qa11_3 := (hb3.cell (p := ⟨w0.heap.size + 1, 1, none⟩) za1_2).trans qa11_2
  have qa12_3 := (hb3.cell (p := ⟨w0.heap.size + 1, 2, none⟩) za1_2).trans qa12_2
  have za1_3 := Nat.lt_of_lt_of_le za1_2 hb3.size
  have R0_3 := Lib.hid (R0_2.out.keep hb3)
  have R1_3 := Lib.hid (R1_2.out.keep hb3)
  clear qa00_2 qa01_2 za0_2 qa10_2 qa11_2 qa12_2 za1_2 R0_2 R1_2
  have hzl : (rkR n0 e0 m1 b1 i1).length ≤ 4194304 := by exact Nat.le_trans (rkR_len _ _ _ _ _) (by omega)
  have hsp := fun s t w h k => sRanksOf n0 m1 b1 e0 i1 s t w h k hb0h hb1h
  have him := fun s t w h k => ranksOf n0 m1 b1 e0 i1 s t w h k hb0h hb1h
  generalize vVal n0 e0 m1 b1 i1 = B at hsp him
  generalize rkR n0 e0 m1 b1 i1 = zs at hsp him hzl
  have HSP := Lib.hid hsp
  have HIM := Lib.hid him
  clear hsp him
  go_wp2_with fail
  have hold : ∀ w' : World, Below w3.heap.size w3 w' → (w'.cell? ⟨w0.heap.size, 0, none⟩ = some (.int .i64 n0) ∧ w'.cell? ⟨w0.heap.size, 1, none⟩ = some (.slice ad0 e0.length cp0) ∧ w'.cell? ⟨w0.heap.size + 1, 0, none⟩ = some (.int .i64 m1) ∧ w'.cell? ⟨w0.heap.size + 1, 1, none⟩ = some (.int .i64 b1) ∧ w'.cell? ⟨w0.heap.size + 1, 2, none⟩ = some (.slice ad1 i1.length cp1)) := fun w' h => ⟨(h.cell (p := ⟨w0.heap.size, 0, none⟩) za0_3).trans qa00_3, (h.cell (p := ⟨w0.heap.size, 1, none⟩) za0_3).trans qa01_3, (h.cell (p := ⟨w0.heap.size + 1, 0, none⟩) za1_3).trans qa10_3, (h.cell (p := ⟨w0.heap.size + 1, 1, none⟩) za1_3).trans qa11_3, (h.cell (p := ⟨w0.heap.size + 1, 2, none⟩) za1_3).trans qa12_3⟩
  have HOLD := Lib.hid hold
  clear hold
  go_region_held3 (fun w' : World => w'.cell? ⟨w0.heap.size, 0, none⟩ = some (.int .i64 n0) ∧ w'.cell? ⟨w0.heap.size, 1, none⟩ = some (.slice ad0 e0.length cp0) ∧ w'.cell? ⟨w0.heap.size + 1, 0, none⟩ = some (.int .i64 m1) ∧ w'.cell? ⟨w0.heap.size + 1, 1, none⟩ = some (.int .i64 b1) ∧ w'.cell? ⟨w0.heap.size + 1, 2, none⟩ = some (.slice ad1 i1.length cp1)) (first | exact HOLD.out _ ((Below.refl _ _).drew) | exact HOLD.out _ (bel_trans ((Below.refl _ _).drew) hb4) | exact HOLD.out _ (bel_trans (bel_trans ((Below.refl _ _).drew) hb4) hb5) | exact HOLD.out _ (bel_trans (bel_trans (bel_trans ((Below.refl _ _).drew) hb4) hb5) hb6)) (first | (go_at_call 12; (with_reducible refine (toGraph n0 e0 _ _ (R0_3.out.keep ((Below.refl _ _).drew)).edges hb0g).mono ?_); rintro e w4 ⟨sV0, rfl, hnew0, hb4⟩) | (go_at_call 13; (with_reducible refine (toView m1 b1 i1 _ _ (R1_3.out.keep (bel_trans ((Below.refl _ _).drew) hb4)).rowI hb1g).mono ?_); rintro e w5 ⟨sV1, rfl, hnew1, hb5⟩) | (go_at_call 11; (with_reducible refine (HSP.out _ _ _ (hnew0.row.keep hb5) (hnew1.row)).mono ?_); rintro e w6 ⟨vV, rfl, hown, hb6⟩))
  have hrow9 := hown.wider (l := w3.heap.size) (h := w6.heap.size) (bel_trans (bel_trans ((Below.refl _ _).drew) hb4) hb5).size (Nat.le_refl _) (Nat.le_refl _)
  clear hown
  have hq : Below w3.heap.size w3 w6 := (bel_trans (bel_trans (bel_trans ((Below.refl _ _).drew) hb4) hb5) hb6)
  clear hb4 hb5 hb6 HOLD hnew0 hnew1
  have hb6 := hq
  clear hq
  have H6 := bel_trans H3 hb6
  have SZ6 := Lib.hid hb6.size
  have qa00_6 := (hb6.cell (p := ⟨w0.heap.size, 0, none⟩) za0_3).trans qa00_3
  have qa01_6 := (hb6.cell (p := ⟨w0.heap.size, 1, none⟩) za0_3).trans qa01_3
  have za0_6 := Nat.lt_of_lt_of_le za0_3 hb6.size
  have qa10_6 := (hb6.cell (p := ⟨w0.heap.size + 1, 0, none⟩) za1_3).trans qa10_3
  have qa11_6 := (hb6.cell (p := ⟨w0.heap.size + 1, 1, none⟩) za1_3).trans qa11_3
  have qa12_6 := (hb6.cell (p := ⟨w0.heap.size + 1, 2, none⟩) za1_3).trans qa12_3
  have za1_6 := Nat.lt_of_lt_of_le za1_3 hb6.size
  have R0_6 := Lib.hid (R0_3.out.keep hb6)
  have R1_6 := Lib.hid (R1_3.out.keep hb6)
  clear qa00_3 qa01_3 za0_3 qa10_3 qa11_3 qa12_3 za1_3 R0_3 R1_3
  have V_6 := Lib.hid hrow9
  clear hrow9
  go_wp2_with fail
  refine (toGraph n0 e0 _ _ R0_6.out.edges hb0g).mono ?_
  rintro e w7 ⟨_, rfl, hnew, hb7⟩
  have H7 := bel_trans H6 hb7
  have SZ7 := Lib.hid hb7.size
  have qa00_7 := (hb7.cell (p := ⟨w0.heap.size, 0, none⟩) za0_6).trans qa00_6
  have qa01_7 := (hb7.cell (p := ⟨w0.heap.size, 1, none⟩) za0_6).trans qa01_6
  have za0_7 := Nat.lt_of_lt_of_le za0_6 hb7.size
  have qa10_7 := (hb7.cell (p := ⟨w0.heap.size + 1, 0, none⟩) za1_6).trans qa10_6
  have qa11_7 := (hb7.cell (p := ⟨w0.heap.size + 1, 1, none⟩) za1_6).trans qa11_6
  have qa12_7 := (hb7.cell (p := ⟨w0.heap.size + 1, 2, none⟩) za1_6).trans qa12_6
  have za1_7 := Nat.lt_of_lt_of_le za1_6 hb7.size
  have R0_7 := Lib.hid (R0_6.out.keep hb7)
  have R1_7 := Lib.hid (R1_6.out.keep hb7)
  have V_7 := Lib.hid (V_6.out.keep hb7)
  obtain ⟨gX0, capX0, rfl, hgX0, hrowX0⟩ := hnew
  have X0_7 := Lib.hid (NewE.inR ⟨gX0, capX0, rfl, hgX0, hrowX0⟩)
  clear qa00_6 qa01_6 za0_6 qa10_6 qa11_6 qa12_6 za1_6 R0_6 R1_6 V_6
  clear hgX0 hrowX0
  go_wp2_with fail
  have hb8 : Below w7.heap.size w7 (w7.alloc (.cells #[.int .i64 n0, .slice (some ⟨gX0, 0, none⟩) e0.length capX0] 34)) := (Below.refl _ _).alloc (by simp <;> omega) _
  have H8 := bel_trans H7 hb8
  have SZ8 := Lib.hid hb8.size
  have qa00_8 := (hb8.cell (p := ⟨w0.heap.size, 0, none⟩) za0_7).trans qa00_7
  have qa01_8 := (hb8.cell (p := ⟨w0.heap.size, 1, none⟩) za0_7).trans qa01_7
  have za0_8 := Nat.lt_of_lt_of_le za0_7 hb8.size
  have qa10_8 := (hb8.cell (p := ⟨w0.heap.size + 1, 0, none⟩) za1_7).trans qa10_7
  have qa11_8 := (hb8.cell (p := ⟨w0.heap.size + 1, 1, none⟩) za1_7).trans qa11_7
  have qa12_8 := (hb8.cell (p := ⟨w0.heap.size + 1, 2, none⟩) za1_7).trans qa12_7
  have za1_8 := Nat.lt_of_lt_of_le za1_7 hb8.size
  have R0_8 := Lib.hid (R0_7.out.keep hb8)
  have R1_8 := Lib.hid (R1_7.out.keep hb8)
  have V_8 := Lib.hid (V_7.out.keep hb8)
  have X0_8 := Lib.hid (X0_7.out.keep hb8)
  have qx00_8 : (w7.alloc (.cells #[.int .i64 n0, .slice (some ⟨gX0, 0, none⟩) e0.length capX0] 34)).cell? ⟨w7.heap.size, 0, none⟩ = some (.int .i64 n0) := by go_simp
  have qx01_8 : (w7.alloc (.cells #[.int .i64 n0, .slice (some ⟨gX0, 0, none⟩) e0.length capX0] 34)).cell? ⟨w7.heap.size, 1, none⟩ = some (.slice (some ⟨gX0, 0, none⟩) e0.length capX0) := by go_simp
  have zx0_8 : w7.heap.size < (w7.alloc (.cells #[.int .i64 n0, .slice (some ⟨gX0, 0, none⟩) e0.length capX0] 34)).heap.size := by simp <;> omega
  generalize (w7.alloc (.cells #[.int .i64 n0, .slice (some ⟨gX0, 0, none⟩) e0.length capX0] 34)) = w8 at hb8 H8 SZ8 R0_8 R1_8 V_8 X0_8 qa00_8 qa01_8 qa10_8 qa11_8 qa12_8 qx00_8 qx01_8 za0_8 za1_8 zx0_8 ⊢
  have ZBx0 := Lib.hid zx0_8
  clear qa00_7 qa01_7 za0_7 qa10_7 qa11_7 qa12_7 za1_7 R0_7 R1_7 V_7 X0_7
  go_wp2_with fail
  refine (toView m1 b1 i1 _ _ R1_8.out.rowI hb1g).mono ?_
  rintro e w9 ⟨_, rfl, hnew, hb9⟩
  have H9 := bel_trans H8 hb9
  have SZ9 := Lib.hid hb9.size
  have qa00_9 := (hb9.cell (p := ⟨w0.heap.size, 0, none⟩) za0_8).trans qa00_8
  have qa01_9 := (hb9.cell (p := ⟨w0.heap.size, 1, none⟩) za0_8).trans qa01_8
  have za0_9 := Nat.lt_of_lt_of_le za0_8 hb9.size
  have qa10_9 := (hb9.cell (p := ⟨w0.heap.size + 1, 0, none⟩) za1_8).trans qa10_8
  have qa11_9 := (hb9.cell (p := ⟨w0.heap.size + 1, 1, none⟩) za1_8).trans qa11_8
  have qa12_9 := (hb9.cell (p := ⟨w0.heap.size + 1, 2, none⟩) za1_8).trans qa12_8
  have za1_9 := Nat.lt_of_lt_of_le za1_8 hb9.size
  have qx00_9 := (hb9.cell (p := ⟨w7.heap.size, 0, none⟩) zx0_8).trans qx00_8
  have qx01_9 := (hb9.cell (p := ⟨w7.heap.size, 1, none⟩) zx0_8).trans qx01_8
  have zx0_9 := Nat.lt_of_lt_of_le zx0_8 hb9.size
  have R0_9 := Lib.hid (R0_8.out.keep hb9)
  have R1_9 := Lib.hid (R1_8.out.keep hb9)
  have V_9 := Lib.hid (V_8.out.keep hb9)
  have X0_9 := Lib.hid (X0_8.out.keep hb9)
  obtain ⟨gX1, capX1, rfl, hgX1, hrowX1⟩ := hnew
  have X1_9 := Lib.hid (NewI.inR ⟨gX1, capX1, rfl, hgX1, hrowX1⟩)
  clear qa00_8 qa01_8 za0_8 qa10_8 qa11_8 qa12_8 za1_8 R0_8 R1_8 V_8 X0_8 qx00_8 qx01_8 zx0_8
  clear hgX1 hrowX1
  go_wp2_with fail
  have hb10 : Below w9.heap.size w9 (w9.alloc (.cells #[.int .i64 m1, .int .i64 b1, .slice (some ⟨gX1, 0, none⟩) i1.length capX1] 36)) := (Below.refl _ _).alloc (by simp <;> omega) _
  have H10 := bel_trans H9 hb10
  have SZ10 := Lib.hid hb10.size
  have qa00_10 := (hb10.cell (p := ⟨w0.heap.size, 0, none⟩) za0_9).trans qa00_9
  have qa01_10 := (hb10.cell (p := ⟨w0.heap.size, 1, none⟩) za0_9).trans qa01_9
  have za0_10 := Nat.lt_of_lt_of_le za0_9 hb10.size
  have qa10_10 := (hb10.cell (p := ⟨w0.heap.size + 1, 0, none⟩) za1_9).trans qa10_9
  have qa11_10 := (hb10.cell (p := ⟨w0.heap.size + 1, 1, none⟩) za1_9).trans qa11_9
  have qa12_10 := (hb10.cell (p := ⟨w0.heap.size + 1, 2, none⟩) za1_9).trans qa12_9
  have za1_10 := Nat.lt_of_lt_of_le za1_9 hb10.size
  have qx00_10 := (hb10.cell (p := ⟨w7.heap.size, 0, none⟩) zx0_9).trans qx00_9
  have qx01_10 := (hb10.cell (p := ⟨w7.heap.size, 1, none⟩) zx0_9).trans qx01_9
  have zx0_10 := Nat.lt_of_lt_of_le zx0_9 hb10.size
  have R0_10 := Lib.hid (R0_9.out.keep hb10)
  have R1_10 := Lib.hid (R1_9.out.keep hb10)
  have V_10 := Lib.hid (V_9.out.keep hb10)
  have X0_10 := Lib.hid (X0_9.out.keep hb10)
  have X1_10 := Lib.hid (X1_9.out.keep hb10)
  have qx10_10 : (w9.alloc (.cells #[.int .i64 m1, .int .i64 b1, .slice (some ⟨gX1, 0, none⟩) i1.length capX1] 36)).cell? ⟨w9.heap.size, 0, none⟩ = some (.int .i64 m1) := by go_simp
  have qx11_10 : (w9.alloc (.cells #[.int .i64 m1, .int .i64 b1, .slice (some ⟨gX1, 0, none⟩) i1.length capX1] 36)).cell? ⟨w9.heap.size, 1, none⟩ = some (.int .i64 b1) := by go_simp
  have qx12_10 : (w9.alloc (.cells #[.int .i64 m1, .int .i64 b1, .slice (some ⟨gX1, 0, none⟩) i1.length capX1] 36)).cell? ⟨w9.heap.size, 2, none⟩ = some (.slice (some ⟨gX1, 0, none⟩) i1.length capX1) := by go_simp
  have zx1_10 : w9.heap.size < (w9.alloc (.cells #[.int .i64 m1, .int .i64 b1, .slice (some ⟨gX1, 0, none⟩) i1.length capX1] 36)).heap.size := by simp <;> omega
  generalize (w9.alloc (.cells #[.int .i64 m1, .int .i64 b1, .slice (some ⟨gX1, 0, none⟩) i1.length capX1] 36)) = w10 at hb10 H10 SZ10 R0_10 R1_10 V_10 X0_10 X1_10 qa00_10 qa01_10 qa10_10 qa11_10 qa12_10 qx00_10 qx01_10 qx10_10 qx11_10 qx12_10 za0_10 za1_10 zx0_10 zx1_10 ⊢
  have ZBx1 := Lib.hid zx1_10
  clear qa00_9 qa01_9 za0_9 qa10_9 qa11_9 qa12_9 za1_9 qx00_9 qx01_9 zx0_9 R0_9 R1_9 V_9 X0_9 X1_9
  go_wp2_with fail
  refine (HIM.out _ _ _ X0_10.out.edges X1_10.out.rowI).mono ?_
  rintro e w11 ⟨g0, rfl, hown, hb11⟩
  have H11 := bel_trans H10 hb11
  have SZ11 := Lib.hid hb11.size
  have qa00_11 := (hb11.cell (p := ⟨w0.heap.size, 0, none⟩) za0_10).trans qa00_10
  have qa01_11 := (hb11.cell (p := ⟨w0.heap.size, 1, none⟩) za0_10).trans qa01_10
  have za0_11 := Nat.lt_of_lt_of_le za0_10 hb11.size
  have qa10_11 := (hb11.cell (p := ⟨w0.heap.size + 1, 0, none⟩) za1_10).trans qa10_10
  have qa11_11 := (hb11.cell (p := ⟨w0.heap.size + 1, 1, none⟩) za1_10).trans qa11_10
  have qa12_11 := (hb11.cell (p := ⟨w0.heap.size + 1, 2, none⟩) za1_10).trans qa12_10
  have za1_11 := Nat.lt_of_lt_of_le za1_10 hb11.size
  have qx00_11 := (hb11.cell (p := ⟨w7.heap.size, 0, none⟩) zx0_10).trans qx00_10
  have qx01_11 := (hb11.cell (p := ⟨w7.heap.size, 1, none⟩) zx0_10).trans qx01_10
  have zx0_11 := Nat.lt_of_lt_of_le zx0_10 hb11.size
  have qx10_11 := (hb11.cell (p := ⟨w9.heap.size, 0, none⟩) zx1_10).trans qx10_10
  have qx11_11 := (hb11.cell (p := ⟨w9.heap.size, 1, none⟩) zx1_10).trans qx11_10
  have qx12_11 := (hb11.cell (p := ⟨w9.heap.size, 2, none⟩) zx1_10).trans qx12_10
  have zx1_11 := Nat.lt_of_lt_of_le zx1_10 hb11.size
  have R0_11 := Lib.hid (R0_10.out.keep hb11)
  have R1_11 := Lib.hid (R1_10.out.keep hb11)
  have V_11 := Lib.hid (V_10.out.keep hb11)
  have X0_11 := Lib.hid (X0_10.out.keep hb11)
  have X1_11 := Lib.hid (X1_10.out.keep hb11)
  have G_11 := Lib.hid (hown)
  clear qa00_10 qa01_10 za0_10 qa10_10 qa11_10 qa12_10 za1_10 qx00_10 qx01_10 zx0_10 R0_10 R1_10 V_10 X0_10 X1_10 qx10_10 qx11_10 qx12_10 zx1_10
  clear hown
  go_wp2_with fail
  refine (eqIntS4 zs _ _ _ G_11.out.ints V_11.out.ints hzl).mono ?_
  rintro e w12 ⟨rfl, hb12⟩
  have H12 := bel_trans H11 hb12
  have SZ12 := Lib.hid hb12.size
  have qa00_12 := (hb12.cell (p := ⟨w0.heap.size, 0, none⟩) za0_11).trans qa00_11
  have qa01_12 := (hb12.cell (p := ⟨w0.heap.size, 1, none⟩) za0_11).trans qa01_11
  have za0_12 := Nat.lt_of_lt_of_le za0_11 hb12.size
  have qa10_12 := (hb12.cell (p := ⟨w0.heap.size + 1, 0, none⟩) za1_11).trans qa10_11
  have qa11_12 := (hb12.cell (p := ⟨w0.heap.size + 1, 1, none⟩) za1_11).trans qa11_11
  have qa12_12 := (hb12.cell (p := ⟨w0.heap.size + 1, 2, none⟩) za1_11).trans qa12_11
  have za1_12 := Nat.lt_of_lt_of_le za1_11 hb12.size
  have qx00_12 := (hb12.cell (p := ⟨w7.heap.size, 0, none⟩) zx0_11).trans qx00_11
  have qx01_12 := (hb12.cell (p := ⟨w7.heap.size, 1, none⟩) zx0_11).trans qx01_11
  have zx0_12 := Nat.lt_of_lt_of_le zx0_11 hb12.size
  have qx10_12 := (hb12.cell (p := ⟨w9.heap.size, 0, none⟩) zx1_11).trans qx10_11
  have qx11_12 := (hb12.cell (p := ⟨w9.heap.size, 1, none⟩) zx1_11).trans qx11_11
  have qx12_12 := (hb12.cell (p := ⟨w9.heap.size, 2, none⟩) zx1_11).trans qx12_11
  have zx1_12 := Nat.lt_of_lt_of_le zx1_11 hb12.size
  have R0_12 := Lib.hid (R0_11.out.keep hb12)
  have R1_12 := Lib.hid (R1_11.out.keep hb12)
  have V_12 := Lib.hid (V_11.out.keep hb12)
  have X0_12 := Lib.hid (X0_11.out.keep hb12)
  have X1_12 := Lib.hid (X1_11.out.keep hb12)
  have G_12 := Lib.hid (G_11.out.keep hb12)
  clear qa00_11 qa01_11 za0_11 qa10_11 qa11_11 qa12_11 za1_11 qx00_11 qx01_11 zx0_11 qx10_11 qx11_11 qx12_11 zx1_11 R0_11 R1_11 V_11 X0_11 X1_11 G_11
  go_wp2_with fail
  have hold : ∀ w' : World, Below w12.heap.size w12 w' → (w'.cell? ⟨w7.heap.size, 0, none⟩ = some (.int .i64 n0) ∧ w'.cell? ⟨w7.heap.size, 1, none⟩ = some (.slice (some ⟨gX0, 0, none⟩) e0.length capX0) ∧ w'.cell? ⟨w0.heap.size, 0, none⟩ = some (.int .i64 n0) ∧ w'.cell? ⟨w0.heap.size, 1, none⟩ = some (.slice ad0 e0.length cp0)) := fun w' h => ⟨(h.cell (p := ⟨w7.heap.size, 0, none⟩) zx0_12).trans qx00_12, (h.cell (p := ⟨w7.heap.size, 1, none⟩) zx0_12).trans qx01_12, (h.cell (p := ⟨w0.heap.size, 0, none⟩) za0_12).trans qa00_12, (h.cell (p := ⟨w0.heap.size, 1, none⟩) za0_12).trans qa01_12⟩
  have HOLD := Lib.hid hold
  clear hold
  go_region_held3 (fun w' : World => w'.cell? ⟨w7.heap.size, 0, none⟩ = some (.int .i64 n0) ∧ w'.cell? ⟨w7.heap.size, 1, none⟩ = some (.slice (some ⟨gX0, 0, none⟩) e0.length capX0) ∧ w'.cell? ⟨w0.heap.size, 0, none⟩ = some (.int .i64 n0) ∧ w'.cell? ⟨w0.heap.size, 1, none⟩ = some (.slice ad0 e0.length cp0)) (first | exact HOLD.out _ ((Below.refl _ _).drew) | exact HOLD.out _ (bel_trans ((Below.refl _ _).drew) hb13) | exact HOLD.out _ (bel_trans (bel_trans ((Below.refl _ _).drew) hb13) hb14)) (first | (go_at_call 12; (with_reducible refine (toGraph n0 e0 _ _ (R0_12.out.keep ((Below.refl _ _).drew)).edges hb0g).mono ?_); rintro e w13 ⟨sB0, rfl, hnew0, hb13⟩) | (go_at_call 16; (with_reducible refine (eqGraph n0 e0 _ _ _ (X0_12.out.keep (bel_trans ((Below.refl _ _).drew) hb13)).edges hnew0.row hb0g).mono ?_); rintro e w14 ⟨rfl, hb14⟩))
  have hq : Below w12.heap.size w12 w14 := (bel_trans (bel_trans ((Below.refl _ _).drew) hb13) hb14)
  clear hb13 hb14 HOLD hnew0
  have hb14 := hq
  clear hq
  have H14 := bel_trans H12 hb14
  have SZ14 := Lib.hid hb14.size
  have qa00_14 := (hb14.cell (p := ⟨w0.heap.size, 0, none⟩) za0_12).trans qa00_12
  have qa01_14 := (hb14.cell (p := ⟨w0.heap.size, 1, none⟩) za0_12).trans qa01_12
  have za0_14 := Nat.lt_of_lt_of_le za0_12 hb14.size
  have qa10_14 := (hb14.cell (p := ⟨w0.heap.size + 1, 0, none⟩) za1_12).trans qa10_12
  have qa11_14 := (hb14.cell (p := ⟨w0.heap.size + 1, 1, none⟩) za1_12).trans qa11_12
  have qa12_14 := (hb14.cell (p := ⟨w0.heap.size + 1, 2, none⟩) za1_12).trans qa12_12
  have za1_14 := Nat.lt_of_lt_of_le za1_12 hb14.size
  have qx00_14 := (hb14.cell (p := ⟨w7.heap.size, 0, none⟩) zx0_12).trans qx00_12
  have qx01_14 := (hb14.cell (p := ⟨w7.heap.size, 1, none⟩) zx0_12).trans qx01_12
  have zx0_14 := Nat.lt_of_lt_of_le zx0_12 hb14.size
  have qx10_14 := (hb14.cell (p := ⟨w9.heap.size, 0, none⟩) zx1_12).trans qx10_12
  have qx11_14 := (hb14.cell (p := ⟨w9.heap.size, 1, none⟩) zx1_12).trans qx11_12
  have qx12_14 := (hb14.cell (p := ⟨w9.heap.size, 2, none⟩) zx1_12).trans qx12_12
  have zx1_14 := Nat.lt_of_lt_of_le zx1_12 hb14.size
  have R0_14 := Lib.hid (R0_12.out.keep hb14)
  have R1_14 := Lib.hid (R1_12.out.keep hb14)
  have V_14 := Lib.hid (V_12.out.keep hb14)
  have X0_14 := Lib.hid (X0_12.out.keep hb14)
  have X1_14 := Lib.hid (X1_12.out.keep hb14)
  have G_14 := Lib.hid (G_12.out.keep hb14)
  clear qa00_12 qa01_12 za0_12 qa10_12 qa11_12 qa12_12 za1_12 qx00_12 qx01_12 zx0_12 qx10_12 qx11_12 qx12_12 zx1_12 R0_12 R1_12 V_12 X0_12 X1_12 G_12
  go_wp2_with fail
  have hold : ∀ w' : World, Below w14.heap.size w14 w' → (w'.cell? ⟨w9.heap.size, 0, none⟩ = some (.int .i64 m1) ∧ w'.cell? ⟨w9.heap.size, 1, none⟩ = some (.int .i64 b1) ∧ w'.cell? ⟨w9.heap.size, 2, none⟩ = some (.slice (some ⟨gX1, 0, none⟩) i1.length capX1) ∧ w'.cell? ⟨w0.heap.size + 1, 0, none⟩ = some (.int .i64 m1) ∧ w'.cell? ⟨w0.heap.size + 1, 1, none⟩ = some (.int .i64 b1) ∧ w'.cell? ⟨w0.heap.size + 1, 2, none⟩ = some (.slice ad1 i1.length cp1)) := fun w' h => ⟨(h.cell (p := ⟨w9.heap.size, 0, none⟩) zx1_14).trans qx10_14, (h.cell (p := ⟨w9.heap.size, 1, none⟩) zx1_14).trans qx11_14, (h.cell (p := ⟨w9.heap.size, 2, none⟩) zx1_14).trans qx12_14, (h.cell (p := ⟨w0.heap.size + 1, 0, none⟩) za1_14).trans qa10_14, (h.cell (p := ⟨w0.heap.size + 1, 1, none⟩) za1_14).trans qa11_14, (h.cell (p := ⟨w0.heap.size + 1, 2, none⟩) za1_14).trans qa12_14⟩
  have HOLD := Lib.hid hold
  clear hold
  go_region_held3 (fun w' : World => w'.cell? ⟨w9.heap.size, 0, none⟩ = some (.int .i64 m1) ∧ w'.cell? ⟨w9.heap.size, 1, none⟩ = some (.int .i64 b1) ∧ w'.cell? ⟨w9.heap.size, 2, none⟩ = some (.slice (some ⟨gX1, 0, none⟩) i1.length capX1) ∧ w'.cell? ⟨w0.heap.size + 1, 0, none⟩ = some (.int .i64 m1) ∧ w'.cell? ⟨w0.heap.size + 1, 1, none⟩ = some (.int .i64 b1) ∧ w'.cell? ⟨w0.heap.size + 1, 2, none⟩ = some (.slice ad1 i1.length cp1)) (first | exact HOLD.out _ ((Below.refl _ _).drew) | exact HOLD.out _ (bel_trans ((Below.refl _ _).drew) hb15) | exact HOLD.out _ (bel_trans (bel_trans ((Below.refl _ _).drew) hb15) hb16)) (first | (go_at_call 13; (with_reducible refine (toView m1 b1 i1 _ _ (R1_14.out.keep ((Below.refl _ _).drew)).rowI hb1g).mono ?_); rintro e w15 ⟨sB1, rfl, hnew1, hb15⟩) | (go_at_call 17; (with_reducible refine (eqView m1 b1 i1 _ _ _ (X1_14.out.keep (bel_trans ((Below.refl _ _).drew) hb15)).rowI hnew1.row hb1g).mono ?_); rintro e w16 ⟨rfl, hb16⟩))
  have hq : Below w14.heap.size w14 w16 := (bel_trans (bel_trans ((Below.refl _ _).drew) hb15) hb16)
  clear hb15 hb16 HOLD hnew1
  have hb16 := hq
  clear hq
  have H16 := bel_trans H14 hb16
  have SZ16 := Lib.hid hb16.size
  have qa00_16 := (hb16.cell (p := ⟨w0.heap.size, 0, none⟩) za0_14).trans qa00_14
  have qa01_16 := (hb16.cell (p := ⟨w0.heap.size, 1, none⟩) za0_14).trans qa01_14
  have za0_16 := Nat.lt_of_lt_of_le za0_14 hb16.size
  have qa10_16 := (hb16.cell (p := ⟨w0.heap.size + 1, 0, none⟩) za1_14).trans qa10_14
  have qa11_16 := (hb16.cell (p := ⟨w0.heap.size + 1, 1, none⟩) za1_14).trans qa11_14
  have qa12_16 := (hb16.cell (p := ⟨w0.heap.size + 1, 2, none⟩) za1_14).trans qa12_14
  have za1_16 := Nat.lt_of_lt_of_le za1_14 hb16.size
  have qx00_16 := (hb16.cell (p := ⟨w7.heap.size, 0, none⟩) zx0_14).trans qx00_14
  have qx01_16 := (hb16.cell (p := ⟨w7.heap.size, 1, none⟩) zx0_14).trans qx01_14
  have zx0_16 := Nat.lt_of_lt_of_le zx0_14 hb16.size
  have qx10_16 := (hb16.cell (p := ⟨w9.heap.size, 0, none⟩) zx1_14).trans qx10_14
  have qx11_16 := (hb16.cell (p := ⟨w9.heap.size, 1, none⟩) zx1_14).trans qx11_14
  have qx12_16 := (hb16.cell (p := ⟨w9.heap.size, 2, none⟩) zx1_14).trans qx12_14
  have zx1_16 := Nat.lt_of_lt_of_le zx1_14 hb16.size
  have R0_16 := Lib.hid (R0_14.out.keep hb16)
  have R1_16 := Lib.hid (R1_14.out.keep hb16)
  have V_16 := Lib.hid (V_14.out.keep hb16)
  have X0_16 := Lib.hid (X0_14.out.keep hb16)
  have X1_16 := Lib.hid (X1_14.out.keep hb16)
  have G_16 := Lib.hid (G_14.out.keep hb16)
  clear qa00_14 qa01_14 za0_14 qa10_14 qa11_14 qa12_14 za1_14 qx00_14 qx01_14 zx0_14 qx10_14 qx11_14 qx12_14 zx1_14 R0_14 R1_14 V_14 X0_14 X1_14 G_14
  go_wp2_with fail
  refine (markGraph 1 n0 _ _ _ _ _ _ X0_16.out (by omega) (by omega) (by have := SZ16.out; have := SZ14.out; have := SZ12.out; have := SZ11.out; have := SZ10.out; have := SZ9.out; have := SZ8.out; omega)).mono ?_
  rintro e w17 ⟨rfl, hrow, hb17⟩
  have H17 := bel_chg H16 hb17 (by have := SZ6.out; have := SZ3.out; have := SZ2.out; have := SZ1.out; omega)
  have SZ17 := Lib.hid hb17.size
  have qa00_17 := (hb17.cell (p := ⟨w0.heap.size, 0, none⟩) za0_16 (.inl (by have := ZBa0.out; have := SZ6.out; have := SZ3.out; have := SZ2.out; simp only; omega))).trans qa00_16
  have qa01_17 := (hb17.cell (p := ⟨w0.heap.size, 1, none⟩) za0_16 (.inl (by have := ZBa0.out; have := SZ6.out; have := SZ3.out; have := SZ2.out; simp only; omega))).trans qa01_16
  have za0_17 := Nat.lt_of_lt_of_le za0_16 hb17.size
  have qa10_17 := (hb17.cell (p := ⟨w0.heap.size + 1, 0, none⟩) za1_16 (.inl (by have := ZBa1.out; have := SZ6.out; have := SZ3.out; have := SZ2.out; simp only; omega))).trans qa10_16
  have qa11_17 := (hb17.cell (p := ⟨w0.heap.size + 1, 1, none⟩) za1_16 (.inl (by have := ZBa1.out; have := SZ6.out; have := SZ3.out; have := SZ2.out; simp only; omega))).trans qa11_16
  have qa12_17 := (hb17.cell (p := ⟨w0.heap.size + 1, 2, none⟩) za1_16 (.inl (by have := ZBa1.out; have := SZ6.out; have := SZ3.out; have := SZ2.out; simp only; omega))).trans qa12_16
  have za1_17 := Nat.lt_of_lt_of_le za1_16 hb17.size
  have qx00_17 := (hb17.cell (p := ⟨w7.heap.size, 0, none⟩) zx0_16 (.inr (by simp only; omega))).trans qx00_16
  have qx01_17 := (hb17.cell (p := ⟨w7.heap.size, 1, none⟩) zx0_16 (.inr (by simp only; omega))).trans qx01_16
  have zx0_17 := Nat.lt_of_lt_of_le zx0_16 hb17.size
  have qx10_17 := (hb17.cell (p := ⟨w9.heap.size, 0, none⟩) zx1_16 (.inr (by have := SZ9.out; have := SZ8.out; simp only; omega))).trans qx10_16
  have qx11_17 := (hb17.cell (p := ⟨w9.heap.size, 1, none⟩) zx1_16 (.inr (by have := SZ9.out; have := SZ8.out; simp only; omega))).trans qx11_16
  have qx12_17 := (hb17.cell (p := ⟨w9.heap.size, 2, none⟩) zx1_16 (.inr (by have := SZ9.out; have := SZ8.out; simp only; omega))).trans qx12_16
  have zx1_17 := Nat.lt_of_lt_of_le zx1_16 hb17.size
  have R0_17 := Lib.hid (R0_16.out.chg hb17 (.inr (by have := SZ6.out; have := SZ3.out; have := SZ2.out; have := SZ1.out; omega)))
  have R1_17 := Lib.hid (R1_16.out.chg hb17 (.inr (by have := SZ6.out; have := SZ3.out; have := SZ2.out; have := SZ1.out; omega)))
  have V_17 := Lib.hid (V_16.out.chg hb17 (.inr (by omega)))
  have X1_17 := Lib.hid (X1_16.out.chg hb17 (.inl (by have := SZ8.out; omega)))
  have G_17 := Lib.hid (G_16.out.chg hb17 (.inl (by have := SZ10.out; have := SZ9.out; have := SZ8.out; omega)))
  have X0_17 := Lib.hid (hrow)
  clear qa00_16 qa01_16 za0_16 qa10_16 qa11_16 qa12_16 za1_16 qx00_16 qx01_16 zx0_16 qx10_16 qx11_16 qx12_16 zx1_16 R0_16 R1_16 V_16 X0_16 X1_16 G_16
  clear hrow
  go_wp2_with fail
  refine (markView (1 + e0.length * 3) m1 b1 _ _ _ _ _ _ X1_17.out (by omega) (by omega) (by have := SZ17.out; have := SZ16.out; have := SZ14.out; have := SZ12.out; have := SZ11.out; have := SZ10.out; omega)).mono ?_
  rintro e w18 ⟨rfl, hrow, hb18⟩
  have H18 := bel_chg H17 hb18 (by have := SZ8.out; have := SZ7.out; have := SZ6.out; have := SZ3.out; have := SZ2.out; have := SZ1.out; omega)
  have SZ18 := Lib.hid hb18.size
  have qa00_18 := (hb18.cell (p := ⟨w0.heap.size, 0, none⟩) za0_17 (.inl (by have := ZBa0.out; have := SZ8.out; have := SZ7.out; have := SZ6.out; have := SZ3.out; have := SZ2.out; simp only; omega))).trans qa00_17
  have qa01_18 := (hb18.cell (p := ⟨w0.heap.size, 1, none⟩) za0_17 (.inl (by have := ZBa0.out; have := SZ8.out; have := SZ7.out; have := SZ6.out; have := SZ3.out; have := SZ2.out; simp only; omega))).trans qa01_17
  have za0_18 := Nat.lt_of_lt_of_le za0_17 hb18.size
  have qa10_18 := (hb18.cell (p := ⟨w0.heap.size + 1, 0, none⟩) za1_17 (.inl (by have := ZBa1.out; have := SZ8.out; have := SZ7.out; have := SZ6.out; have := SZ3.out; have := SZ2.out; simp only; omega))).trans qa10_17
  have qa11_18 := (hb18.cell (p := ⟨w0.heap.size + 1, 1, none⟩) za1_17 (.inl (by have := ZBa1.out; have := SZ8.out; have := SZ7.out; have := SZ6.out; have := SZ3.out; have := SZ2.out; simp only; omega))).trans qa11_17
  have qa12_18 := (hb18.cell (p := ⟨w0.heap.size + 1, 2, none⟩) za1_17 (.inl (by have := ZBa1.out; have := SZ8.out; have := SZ7.out; have := SZ6.out; have := SZ3.out; have := SZ2.out; simp only; omega))).trans qa12_17
  have za1_18 := Nat.lt_of_lt_of_le za1_17 hb18.size
  have qx00_18 := (hb18.cell (p := ⟨w7.heap.size, 0, none⟩) zx0_17 (.inl (by have := ZBx0.out; simp only; omega))).trans qx00_17
  have qx01_18 := (hb18.cell (p := ⟨w7.heap.size, 1, none⟩) zx0_17 (.inl (by have := ZBx0.out; simp only; omega))).trans qx01_17
  have zx0_18 := Nat.lt_of_lt_of_le zx0_17 hb18.size
  have qx10_18 := (hb18.cell (p := ⟨w9.heap.size, 0, none⟩) zx1_17 (.inr (by simp only; omega))).trans qx10_17
  have qx11_18 := (hb18.cell (p := ⟨w9.heap.size, 1, none⟩) zx1_17 (.inr (by simp only; omega))).trans qx11_17
  have qx12_18 := (hb18.cell (p := ⟨w9.heap.size, 2, none⟩) zx1_17 (.inr (by simp only; omega))).trans qx12_17
  have zx1_18 := Nat.lt_of_lt_of_le zx1_17 hb18.size
  have R0_18 := Lib.hid (R0_17.out.chg hb18 (.inr (by have := SZ8.out; have := SZ7.out; have := SZ6.out; have := SZ3.out; have := SZ2.out; have := SZ1.out; omega)))
  have R1_18 := Lib.hid (R1_17.out.chg hb18 (.inr (by have := SZ8.out; have := SZ7.out; have := SZ6.out; have := SZ3.out; have := SZ2.out; have := SZ1.out; omega)))
  have V_18 := Lib.hid (V_17.out.chg hb18 (.inr (by have := SZ8.out; have := SZ7.out; omega)))
  have X0_18 := Lib.hid (X0_17.out.chg hb18 (.inr (by have := SZ8.out; omega)))
  have G_18 := Lib.hid (G_17.out.chg hb18 (.inl (by have := SZ10.out; omega)))
  have X1_18 := Lib.hid (hrow)
  clear qa00_17 qa01_17 za0_17 qa10_17 qa11_17 qa12_17 za1_17 qx00_17 qx01_17 zx0_17 qx10_17 qx11_17 qx12_17 zx1_17 R0_17 R1_17 V_17 X1_17 G_17 X0_17
  clear hrow
  have hk1 : decide ((((1 + e0.length * 3) + i1.length : Nat) : Int) < 0) = false := decide_eq_false (by omega)
  go_wp2_with fail
  refine (eqIntS4 zs _ _ _ G_18.out.ints V_18.out.ints hzl).mono ?_
  rintro e w19 ⟨rfl, hb19⟩
  have H19 := bel_trans H18 hb19
  have SZ19 := Lib.hid hb19.size
  have qa00_19 := (hb19.cell (p := ⟨w0.heap.size, 0, none⟩) za0_18).trans qa00_18
  have qa01_19 := (hb19.cell (p := ⟨w0.heap.size, 1, none⟩) za0_18).trans qa01_18
  have za0_19 := Nat.lt_of_lt_of_le za0_18 hb19.size
  have qa10_19 := (hb19.cell (p := ⟨w0.heap.size + 1, 0, none⟩) za1_18).trans qa10_18
  have qa11_19 := (hb19.cell (p := ⟨w0.heap.size + 1, 1, none⟩) za1_18).trans qa11_18
  have qa12_19 := (hb19.cell (p := ⟨w0.heap.size + 1, 2, none⟩) za1_18).trans qa12_18
  have za1_19 := Nat.lt_of_lt_of_le za1_18 hb19.size
  have qx00_19 := (hb19.cell (p := ⟨w7.heap.size, 0, none⟩) zx0_18).trans qx00_18
  have qx01_19 := (hb19.cell (p := ⟨w7.heap.size, 1, none⟩) zx0_18).trans qx01_18
  have zx0_19 := Nat.lt_of_lt_of_le zx0_18 hb19.size
  have qx10_19 := (hb19.cell (p := ⟨w9.heap.size, 0, none⟩) zx1_18).trans qx10_18
  have qx11_19 := (hb19.cell (p := ⟨w9.heap.size, 1, none⟩) zx1_18).trans qx11_18
  have qx12_19 := (hb19.cell (p := ⟨w9.heap.size, 2, none⟩) zx1_18).trans qx12_18
  have zx1_19 := Nat.lt_of_lt_of_le zx1_18 hb19.size
  have R0_19 := Lib.hid (R0_18.out.keep hb19)
  have R1_19 := Lib.hid (R1_18.out.keep hb19)
  have V_19 := Lib.hid (V_18.out.keep hb19)
  have X0_19 := Lib.hid (X0_18.out.keep hb19)
  have X1_19 := Lib.hid (X1_18.out.keep hb19)
  have G_19 := Lib.hid (G_18.out.keep hb19)
  clear qa00_18 qa01_18 za0_18 qa10_18 qa11_18 qa12_18 za1_18 qx00_18 qx01_18 zx0_18 qx10_18 qx11_18 qx12_18 zx1_18 R0_18 R1_18 V_18 X0_18 G_18 X1_18
  go_wp2_with fail
  refine (markIntS 1 _ _ _ _ _ _ G_19.out (by omega) (by omega)).mono ?_
  rintro e w20 ⟨rfl, hrow, hb20⟩
  have H20 := bel_chg H19 hb20 (by have := SZ10.out; have := SZ9.out; have := SZ8.out; have := SZ7.out; have := SZ6.out; have := SZ3.out; have := SZ2.out; have := SZ1.out; omega)
  have SZ20 := Lib.hid hb20.size
  have qa00_20 := (hb20.cell (p := ⟨w0.heap.size, 0, none⟩) za0_19 (.inl (by have := ZBa0.out; have := SZ10.out; have := SZ9.out; have := SZ8.out; have := SZ7.out; have := SZ6.out; have := SZ3.out; have := SZ2.out; simp only; omega))).trans qa00_19
  have qa01_20 := (hb20.cell (p := ⟨w0.heap.size, 1, none⟩) za0_19 (.inl (by have := ZBa0.out; have := SZ10.out; have := SZ9.out; have := SZ8.out; have := SZ7.out; have := SZ6.out; have := SZ3.out; have := SZ2.out; simp only; omega))).trans qa01_19
  have za0_20 := Nat.lt_of_lt_of_le za0_19 hb20.size
  have qa10_20 := (hb20.cell (p := ⟨w0.heap.size + 1, 0, none⟩) za1_19 (.inl (by have := ZBa1.out; have := SZ10.out; have := SZ9.out; have := SZ8.out; have := SZ7.out; have := SZ6.out; have := SZ3.out; have := SZ2.out; simp only; omega))).trans qa10_19
  have qa11_20 := (hb20.cell (p := ⟨w0.heap.size + 1, 1, none⟩) za1_19 (.inl (by have := ZBa1.out; have := SZ10.out; have := SZ9.out; have := SZ8.out; have := SZ7.out; have := SZ6.out; have := SZ3.out; have := SZ2.out; simp only; omega))).trans qa11_19
  have qa12_20 := (hb20.cell (p := ⟨w0.heap.size + 1, 2, none⟩) za1_19 (.inl (by have := ZBa1.out; have := SZ10.out; have := SZ9.out; have := SZ8.out; have := SZ7.out; have := SZ6.out; have := SZ3.out; have := SZ2.out; simp only; omega))).trans qa12_19
  have za1_20 := Nat.lt_of_lt_of_le za1_19 hb20.size
  have qx00_20 := (hb20.cell (p := ⟨w7.heap.size, 0, none⟩) zx0_19 (.inl (by have := ZBx0.out; have := SZ10.out; have := SZ9.out; simp only; omega))).trans qx00_19
  have qx01_20 := (hb20.cell (p := ⟨w7.heap.size, 1, none⟩) zx0_19 (.inl (by have := ZBx0.out; have := SZ10.out; have := SZ9.out; simp only; omega))).trans qx01_19
  have zx0_20 := Nat.lt_of_lt_of_le zx0_19 hb20.size
  have qx10_20 := (hb20.cell (p := ⟨w9.heap.size, 0, none⟩) zx1_19 (.inl (by have := ZBx1.out; simp only; omega))).trans qx10_19
  have qx11_20 := (hb20.cell (p := ⟨w9.heap.size, 1, none⟩) zx1_19 (.inl (by have := ZBx1.out; simp only; omega))).trans qx11_19
  have qx12_20 := (hb20.cell (p := ⟨w9.heap.size, 2, none⟩) zx1_19 (.inl (by have := ZBx1.out; simp only; omega))).trans qx12_19
  have zx1_20 := Nat.lt_of_lt_of_le zx1_19 hb20.size
  have R0_20 := Lib.hid (R0_19.out.chg hb20 (.inr (by have := SZ10.out; have := SZ9.out; have := SZ8.out; have := SZ7.out; have := SZ6.out; have := SZ3.out; have := SZ2.out; have := SZ1.out; omega)))
  have R1_20 := Lib.hid (R1_19.out.chg hb20 (.inr (by have := SZ10.out; have := SZ9.out; have := SZ8.out; have := SZ7.out; have := SZ6.out; have := SZ3.out; have := SZ2.out; have := SZ1.out; omega)))
  have V_20 := Lib.hid (V_19.out.chg hb20 (.inr (by have := SZ10.out; have := SZ9.out; have := SZ8.out; have := SZ7.out; omega)))
  have X0_20 := Lib.hid (X0_19.out.chg hb20 (.inr (by have := SZ10.out; have := SZ9.out; have := SZ8.out; omega)))
  have X1_20 := Lib.hid (X1_19.out.chg hb20 (.inr (by have := SZ10.out; omega)))
  have G_20 := Lib.hid (hrow)
  clear qa00_19 qa01_19 za0_19 qa10_19 qa11_19 qa12_19 za1_19 qx00_19 qx01_19 zx0_19 qx10_19 qx11_19 qx12_19 zx1_19 R0_19 R1_19 V_19 X0_19 X1_19 G_19
  clear hrow
  have hk2 : decide (((1 + zs.length : Nat) : Int) < 0) = false := decide_eq_false (by omega)
  go_wp2_with fail
  refine (heldIntS 1 true _ _ _ _ _ G_20.out (by omega) (by omega)).mono ?_
  rintro e w21 ⟨rfl, hb21⟩
  have H21 := bel_trans H20 hb21
  have SZ21 := Lib.hid hb21.size
  have qa00_21 := (hb21.cell (p := ⟨w0.heap.size, 0, none⟩) za0_20).trans qa00_20
  have qa01_21 := (hb21.cell (p := ⟨w0.heap.size, 1, none⟩) za0_20).trans qa01_20
  have za0_21 := Nat.lt_of_lt_of_le za0_20 hb21.size
  have qa10_21 := (hb21.cell (p := ⟨w0.heap.size + 1, 0, none⟩) za1_20).trans qa10_20
  have qa11_21 := (hb21.cell (p := ⟨w0.heap.size + 1, 1, none⟩) za1_20).trans qa11_20
  have qa12_21 := (hb21.cell (p := ⟨w0.heap.size + 1, 2, none⟩) za1_20).trans qa12_20
  have za1_21 := Nat.lt_of_lt_of_le za1_20 hb21.size
  have qx00_21 := (hb21.cell (p := ⟨w7.heap.size, 0, none⟩) zx0_20).trans qx00_20
  have qx01_21 := (hb21.cell (p := ⟨w7.heap.size, 1, none⟩) zx0_20).trans qx01_20
  have zx0_21 := Nat.lt_of_lt_of_le zx0_20 hb21.size
  have qx10_21 := (hb21.cell (p := ⟨w9.heap.size, 0, none⟩) zx1_20).trans qx10_20
  have qx11_21 := (hb21.cell (p := ⟨w9.heap.size, 1, none⟩) zx1_20).trans qx11_20
  have qx12_21 := (hb21.cell (p := ⟨w9.heap.size, 2, none⟩) zx1_20).trans qx12_20
  have zx1_21 := Nat.lt_of_lt_of_le zx1_20 hb21.size
  have R0_21 := Lib.hid (R0_20.out.keep hb21)
  have R1_21 := Lib.hid (R1_20.out.keep hb21)
  have V_21 := Lib.hid (V_20.out.keep hb21)
  have X0_21 := Lib.hid (X0_20.out.keep hb21)
  have X1_21 := Lib.hid (X1_20.out.keep hb21)
  have G_21 := Lib.hid (G_20.out.keep hb21)
  clear qa00_20 qa01_20 za0_20 qa10_20 qa11_20 qa12_20 za1_20 qx00_20 qx01_20 zx0_20 qx10_20 qx11_20 qx12_20 zx1_20 R0_20 R1_20 V_20 X0_20 X1_20 G_20
  go_wp2_with fail
  have hold : ∀ w' : World, Below w21.heap.size w21 w' → (w'.cell? ⟨w0.heap.size, 0, none⟩ = some (.int .i64 n0) ∧ w'.cell? ⟨w0.heap.size, 1, none⟩ = some (.slice ad0 e0.length cp0) ∧ w'.cell? ⟨w0.heap.size + 1, 0, none⟩ = some (.int .i64 m1) ∧ w'.cell? ⟨w0.heap.size + 1, 1, none⟩ = some (.int .i64 b1) ∧ w'.cell? ⟨w0.heap.size + 1, 2, none⟩ = some (.slice ad1 i1.length cp1)) := fun w' h => ⟨(h.cell (p := ⟨w0.heap.size, 0, none⟩) za0_21).trans qa00_21, (h.cell (p := ⟨w0.heap.size, 1, none⟩) za0_21).trans qa01_21, (h.cell (p := ⟨w0.heap.size + 1, 0, none⟩) za1_21).trans qa10_21, (h.cell (p := ⟨w0.heap.size + 1, 1, none⟩) za1_21).trans qa11_21, (h.cell (p := ⟨w0.heap.size + 1, 2, none⟩) za1_21).trans qa12_21⟩
  have HOLD := Lib.hid hold
  clear hold
  go_region_held3 (fun w' : World => w'.cell? ⟨w0.heap.size, 0, none⟩ = some (.int .i64 n0) ∧ w'.cell? ⟨w0.heap.size, 1, none⟩ = some (.slice ad0 e0.length cp0) ∧ w'.cell? ⟨w0.heap.size + 1, 0, none⟩ = some (.int .i64 m1) ∧ w'.cell? ⟨w0.heap.size + 1, 1, none⟩ = some (.int .i64 b1) ∧ w'.cell? ⟨w0.heap.size + 1, 2, none⟩ = some (.slice ad1 i1.length cp1)) (first | exact HOLD.out _ ((Below.refl _ _).drew) | exact HOLD.out _ (bel_trans ((Below.refl _ _).drew) hb22) | exact HOLD.out _ (bel_trans (bel_trans ((Below.refl _ _).drew) hb22) hb23) | exact HOLD.out _ (bel_trans (bel_trans (bel_trans ((Below.refl _ _).drew) hb22) hb23) hb24)) (first | (go_at_call 12; (with_reducible refine (toGraph n0 e0 _ _ (R0_21.out.keep ((Below.refl _ _).drew)).edges hb0g).mono ?_); rintro e w22 ⟨sK0, rfl, hnew0, hb22⟩) | (go_at_call 13; (with_reducible refine (toView m1 b1 i1 _ _ (R1_21.out.keep (bel_trans ((Below.refl _ _).drew) hb22)).rowI hb1g).mono ?_); rintro e w23 ⟨sK1, rfl, hnew1, hb23⟩) | (go_at_call 14; (with_reducible refine (HIM.out _ _ _ (hnew0.row.keep hb23) (hnew1.row)).mono ?_); rintro e w24 ⟨vK, rfl, hown, hb24⟩))
  have hrow9 := hown.wider (l := w21.heap.size) (h := w24.heap.size) (bel_trans (bel_trans ((Below.refl _ _).drew) hb22) hb23).size (Nat.le_refl _) (Nat.le_refl _)
  clear hown
  have hq : Below w21.heap.size w21 w24 := (bel_trans (bel_trans (bel_trans ((Below.refl _ _).drew) hb22) hb23) hb24)
  clear hb22 hb23 hb24 HOLD hnew0 hnew1
  have hb24 := hq
  clear hq
  have H24 := bel_trans H21 hb24
  have SZ24 := Lib.hid hb24.size
  have qa00_24 := (hb24.cell (p := ⟨w0.heap.size, 0, none⟩) za0_21).trans qa00_21
  have qa01_24 := (hb24.cell (p := ⟨w0.heap.size, 1, none⟩) za0_21).trans qa01_21
  have za0_24 := Nat.lt_of_lt_of_le za0_21 hb24.size
  have qa10_24 := (hb24.cell (p := ⟨w0.heap.size + 1, 0, none⟩) za1_21).trans qa10_21
  have qa11_24 := (hb24.cell (p := ⟨w0.heap.size + 1, 1, none⟩) za1_21).trans qa11_21
  have qa12_24 := (hb24.cell (p := ⟨w0.heap.size + 1, 2, none⟩) za1_21).trans qa12_21
  have za1_24 := Nat.lt_of_lt_of_le za1_21 hb24.size
  have qx00_24 := (hb24.cell (p := ⟨w7.heap.size, 0, none⟩) zx0_21).trans qx00_21
  have qx01_24 := (hb24.cell (p := ⟨w7.heap.size, 1, none⟩) zx0_21).trans qx01_21
  have zx0_24 := Nat.lt_of_lt_of_le zx0_21 hb24.size
  have qx10_24 := (hb24.cell (p := ⟨w9.heap.size, 0, none⟩) zx1_21).trans qx10_21
  have qx11_24 := (hb24.cell (p := ⟨w9.heap.size, 1, none⟩) zx1_21).trans qx11_21
  have qx12_24 := (hb24.cell (p := ⟨w9.heap.size, 2, none⟩) zx1_21).trans qx12_21
  have zx1_24 := Nat.lt_of_lt_of_le zx1_21 hb24.size
  have R0_24 := Lib.hid (R0_21.out.keep hb24)
  have R1_24 := Lib.hid (R1_21.out.keep hb24)
  have V_24 := Lib.hid (V_21.out.keep hb24)
  have X0_24 := Lib.hid (X0_21.out.keep hb24)
  have X1_24 := Lib.hid (X1_21.out.keep hb24)
  have G_24 := Lib.hid (G_21.out.keep hb24)
  clear qa00_21 qa01_21 za0_21 qa10_21 qa11_21 qa12_21 za1_21 qx00_21 qx01_21 zx0_21 qx10_21 qx11_21 qx12_21 zx1_21 R0_21 R1_21 V_21 X0_21 X1_21 G_21
  have K_24 := Lib.hid hrow9
  clear hrow9
  go_wp2_with fail
  refine (eqIntS4 zs _ _ _ K_24.out.ints V_24.out.ints hzl).mono ?_
  rintro e w25 ⟨rfl, hb25⟩
  have H25 := bel_trans H24 hb25
  have SZ25 := Lib.hid hb25.size
  have qa00_25 := (hb25.cell (p := ⟨w0.heap.size, 0, none⟩) za0_24).trans qa00_24
  have qa01_25 := (hb25.cell (p := ⟨w0.heap.size, 1, none⟩) za0_24).trans qa01_24
  have za0_25 := Nat.lt_of_lt_of_le za0_24 hb25.size
  have qa10_25 := (hb25.cell (p := ⟨w0.heap.size + 1, 0, none⟩) za1_24).trans qa10_24
  have qa11_25 := (hb25.cell (p := ⟨w0.heap.size + 1, 1, none⟩) za1_24).trans qa11_24
  have qa12_25 := (hb25.cell (p := ⟨w0.heap.size + 1, 2, none⟩) za1_24).trans qa12_24
  have za1_25 := Nat.lt_of_lt_of_le za1_24 hb25.size
  have qx00_25 := (hb25.cell (p := ⟨w7.heap.size, 0, none⟩) zx0_24).trans qx00_24
  have qx01_25 := (hb25.cell (p := ⟨w7.heap.size, 1, none⟩) zx0_24).trans qx01_24
  have zx0_25 := Nat.lt_of_lt_of_le zx0_24 hb25.size
  have qx10_25 := (hb25.cell (p := ⟨w9.heap.size, 0, none⟩) zx1_24).trans qx10_24
  have qx11_25 := (hb25.cell (p := ⟨w9.heap.size, 1, none⟩) zx1_24).trans qx11_24
  have qx12_25 := (hb25.cell (p := ⟨w9.heap.size, 2, none⟩) zx1_24).trans qx12_24
  have zx1_25 := Nat.lt_of_lt_of_le zx1_24 hb25.size
  have R0_25 := Lib.hid (R0_24.out.keep hb25)
  have R1_25 := Lib.hid (R1_24.out.keep hb25)
  have V_25 := Lib.hid (V_24.out.keep hb25)
  have X0_25 := Lib.hid (X0_24.out.keep hb25)
  have X1_25 := Lib.hid (X1_24.out.keep hb25)
  have G_25 := Lib.hid (G_24.out.keep hb25)
  have K_25 := Lib.hid (K_24.out.keep hb25)
  clear qa00_24 qa01_24 za0_24 qa10_24 qa11_24 qa12_24 za1_24 qx00_24 qx01_24 zx0_24 qx10_24 qx11_24 qx12_24 zx1_24 R0_24 R1_24 V_24 X0_24 X1_24 G_24 K_24
  go_wp2_with fail
  refine (heldIntS 1 true _ _ _ _ _ G_25.out (by omega) (by omega)).mono ?_
  rintro e w26 ⟨rfl, hb26⟩
  have H26 := bel_trans H25 hb26
  have SZ26 := Lib.hid hb26.size
  have qa00_26 := (hb26.cell (p := ⟨w0.heap.size, 0, none⟩) za0_25).trans qa00_25
  have qa01_26 := (hb26.cell (p := ⟨w0.heap.size, 1, none⟩) za0_25).trans qa01_25
  have za0_26 := Nat.lt_of_lt_of_le za0_25 hb26.size
  have qa10_26 := (hb26.cell (p := ⟨w0.heap.size + 1, 0, none⟩) za1_25).trans qa10_25
  have qa11_26 := (hb26.cell (p := ⟨w0.heap.size + 1, 1, none⟩) za1_25).trans qa11_25
  have qa12_26 := (hb26.cell (p := ⟨w0.heap.size + 1, 2, none⟩) za1_25).trans qa12_25
  have za1_26 := Nat.lt_of_lt_of_le za1_25 hb26.size
  have qx00_26 := (hb26.cell (p := ⟨w7.heap.size, 0, none⟩) zx0_25).trans qx00_25
  have qx01_26 := (hb26.cell (p := ⟨w7.heap.size, 1, none⟩) zx0_25).trans qx01_25
  have zx0_26 := Nat.lt_of_lt_of_le zx0_25 hb26.size
  have qx10_26 := (hb26.cell (p := ⟨w9.heap.size, 0, none⟩) zx1_25).trans qx10_25
  have qx11_26 := (hb26.cell (p := ⟨w9.heap.size, 1, none⟩) zx1_25).trans qx11_25
  have qx12_26 := (hb26.cell (p := ⟨w9.heap.size, 2, none⟩) zx1_25).trans qx12_25
  have zx1_26 := Nat.lt_of_lt_of_le zx1_25 hb26.size
  have R0_26 := Lib.hid (R0_25.out.keep hb26)
  have R1_26 := Lib.hid (R1_25.out.keep hb26)
  have V_26 := Lib.hid (V_25.out.keep hb26)
  have X0_26 := Lib.hid (X0_25.out.keep hb26)
  have X1_26 := Lib.hid (X1_25.out.keep hb26)
  have G_26 := Lib.hid (G_25.out.keep hb26)
  have K_26 := Lib.hid (K_25.out.keep hb26)
  clear qa00_25 qa01_25 za0_25 qa10_25 qa11_25 qa12_25 za1_25 qx00_25 qx01_25 zx0_25 qx10_25 qx11_25 qx12_25 zx1_25 R0_25 R1_25 V_25 X0_25 X1_25 G_25 K_25
  go_wp2
  go_ret
  exact ⟨rfl, H26⟩

set_option maxRecDepth 100000 in
theorem lifted (os : Os) (started : os.Started) (H : Type) (enc : TypeId × Value → H) :
    ReturnsInHanded {} Try.checked os 3 .any (Rows.fnExactRanksOfSpec.pre6 enc Try.prog Try.f3 Rows.fnExactRanksOfRow.domain false) (Rows.fnExactRanksOfSpec.post enc Try.prog Try.f3 false true false false) := by
  refine returnsInHanded_of_change (C := Try.checked) own started (by kernel_rfl) Try.func3
    (ChangeSpec.witness6 (enc := enc) (C := Try.checked) false ⟨#[], #[.agg #[.int .i64 0, .slice none 0 0], .agg #[.int .i64 0, .int .i64 0, .slice none 0 0]], []⟩ 8 (by kernel_rfl) (by kernel_rfl) (by kernel_rfl) (by kernel_rfl)) ?_
  intro W base args ds gs before hval0 hW hcnd _
  have hval : ∀ (j : Nat) t v, Try.f3.params[j]? = some t → args[j]? = some v → Value.okWide Try.prog W .any base t v := hval0
  have hW' := hW
  obtain ⟨p, q, hA0, hV, rfl, hfz, hnd⟩ := hW
  have hA : DataW.TrodAll enc Try.prog W 0 (fun _ => true) true Try.f3.params.toList args.toList ds p := hA0
  rw [Try.params3] at hA hval
  obtain ⟨v0, vs0, d0, ds0, p0, q0, hargs, rfl, rfl, h0, rr0⟩ := trodAll_cons hA
  obtain ⟨v1, vs1, d1, ds1, p1, q1, rfl, rfl, rfl, h1, rr1⟩ := trodAll_cons rr0
  obtain ⟨rfl, rfl, rfl⟩ := trodAll_nil rr1
  obtain rfl : args = #[v0, v1] := by cases args; simp_all
  obtain ⟨rfl, rfl⟩ := trodVars_none hV
  have k0 := h0
  have lt0 : ∀ x ∈ p0, x.block < W.heap.size := by obtain ⟨m, hm⟩ := k0; exact DataW.trod_lt m _ _ _ hm
  have k1 := h1
  have lt1 : ∀ x ∈ p1, x.block < W.heap.size := by obtain ⟨m, hm⟩ := k1; exact DataW.trod_lt m _ _ _ hm
  obtain ⟨n0, s0, e0, rfl, r0, l0⟩ := openGraph (hval 0 24 v0 rfl rfl) h0
  obtain ⟨m1, b1, s1, i1, rfl, r1, l1⟩ := openView (hval 1 27 v1 rfl rfl) h1
  clear hA0 hval0
  refine (walk W n0 s0 e0 r0 l0 m1 b1 s1 i1 r1 l1).mono fun e W' ⟨he, bel⟩ => ?_
  subst he
  exact ⟨_, rfl, _, _, _, [], _, [], hW', trodAll_mk1 (shut_bool Try.underlying4 _), (trodAll_cons_mk (Below.trod laidOut (by kernel_rfl) (of_decide_eq_true (by kernel_rfl)) k0 bel lt0) (trodAll_cons_mk (Below.trod laidOut (by kernel_rfl) (of_decide_eq_true (by kernel_rfl)) k1 bel lt1) trodAll_mk0)), rfl, bel.frame _, fun h => by cases h⟩

theorem over : Rows.fnExactRanksOfRow.holds Try.pinned (OpenSpec.ofChange Rows.fnExactRanksOfSpec) :=
  OpenClaim.holds_of_wide 3 Try.f3 rfl rfl rfl rfl rfl rfl rfl ⟨rfl, rfl, rfl, rfl, rfl⟩ rfl rfl rfl rfl rfl (by kernel_rfl) Try.func3 (by kernel_rfl)
    (of_decide_eq_true (by kernel_rfl)) (by unfold Func.isWrapper; first | (rw [if_pos (by decide +kernel)]; kernel_rfl) | (rw [if_neg (by decide +kernel)]; exact ⟨rfl, rfl⟩))
    (fun os started H enc _ => lifted os started H enc)

theorem proved : Rows.FnExactRanksOfSaid := over
end Go.Proofs.Ytneapbggnnndhaa.fnExactRanksOf
