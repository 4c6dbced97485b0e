/-
  Proved: at every graph and every list of changes impl.ChangesValid answers as the model spec.ChangesValid does, and writes into no argument (the law FnExactChangesValid returns true for them all), with no further condition.
-/
import Derived.Test.YtdlnekfifogcaaaRows
import Derived.Test.YtdlnekfifogcaaaChgM
import Derived.Test.YtdlnekfifogcaaaChgE
import Derived.Test.YtdlnekfifogcaaaMarks
import Derived.Test.YtdlnekfifogcaaaHeld
import Derived.Test.YtdlnekfifogcaaaOpenV
import Derived.WalkKit
import Derived.ProofKit
import Derived.OpenShut
import Derived.ShutString
import Derived.ChangeOld
import Derived.Below
namespace Go.Proofs.Ytdlnekfifogcaaa.fnExactChangesValid
open Go.Proofs.Ytdlnekfifogcaaa Go.BigFrame
open Go.ChangeShapes Go.WideShapes Go.ChangeAt Go.RowKit
open Go.ChangeMaps (open_string shut_string)
set_option linter.unusedVariables false

theorem own : ownKnob Try.prog.godebug = none := by kernel_rfl
theorem laidOut : laidOutB Try.prog = true := by kernel_rfl

set_option maxRecDepth 100000 in
set_option maxHeartbeats 4000000 in
theorem walk (w : World) (n0 : Int) (s0 : Value) (e0 : List Ed) (r0 : RowE w s0 e0) (l0 : e0.length ≤ 9223372036854775807) (s1 : Value) (c1 : List Ch) (r1 : RowCh w s1 c1) (l1 : c1.length ≤ 9223372036854775807) :
    Calls Try.prog 3 #[.agg #[.int .i64 n0, s0], s1] w fun e w' => e = .returned (.bool true) ∧ Below w.heap.size w w' := by
  obtain ⟨ad0, cp0, hs0, hz0⟩ := id r0
  subst hs0
  clear hz0
  have R0 := Lib.hid (InR.of_edges r0)
  clear r0
  obtain ⟨ad1, cp1, hs1, hz1⟩ := id r1
  subst hs1
  clear hz1
  have R1 := Lib.hid (@id (InR false _ 0 _ _ _ 4 (cellCh c1)) r1)
  clear r1
  have hsz0 := fun w => szGraph n0 e0.length cp0 ad0 (1048576) w (by omega) l0
  by_cases hbig0 : e0.length ≤ 1048576
  rotate_left
  · have eR : szR (1048576) e0.length = -1 := by rw [szR, if_neg hbig0]
    rw [eR] at hsz0
    have HZ0 := Lib.hid hsz0
    clear hsz0 eR
    obtain ⟨w0, hw0⟩ : ∃ w0, w0 = w := ⟨_, rfl⟩
    subst hw0
    have H0 := Below.refl w0.heap.size w0
    go_enter Try.func3, Try.ntmps3
    go_wp2_with fail
    have hb1 : Below w0.heap.size w0 (w0.alloc (.cells #[.int .i64 n0, .slice ad0 e0.length cp0] 24)) := (Below.refl _ _).alloc (by simp <;> omega) _
    have H1 := bel_trans H0 hb1
    have SZ1 := Lib.hid hb1.size
    have qa00_1 : (w0.alloc (.cells #[.int .i64 n0, .slice ad0 e0.length cp0] 24)).cell? ⟨w0.heap.size, 0, none⟩ = some (.int .i64 n0) := by go_simp
    have qa01_1 : (w0.alloc (.cells #[.int .i64 n0, .slice ad0 e0.length cp0] 24)).cell? ⟨w0.heap.size, 1, none⟩ = some (.slice ad0 e0.length cp0) := by go_simp
    have za0_1 : w0.heap.size < (w0.alloc (.cells #[.int .i64 n0, .slice ad0 e0.length cp0] 24)).heap.size := by simp <;> omega
    generalize (w0.alloc (.cells #[.int .i64 n0, .slice ad0 e0.length cp0] 24)) = w1 at hb1 H1 SZ1 qa00_1 qa01_1 za0_1 ⊢
    have ZBa0 := Lib.hid za0_1
    refine (HZ0.out _).mono ?_
    rintro e w2 ⟨rfl, hb2⟩
    have H2 := bel_trans H1 hb2
    have SZ2 := Lib.hid hb2.size
    have qa00_2 := (hb2.cell (p := ⟨w0.heap.size, 0, none⟩) za0_1).trans qa00_1
    have qa01_2 := (hb2.cell (p := ⟨w0.heap.size, 1, none⟩) za0_1).trans qa01_1
    have za0_2 := Nat.lt_of_lt_of_le za0_1 hb2.size
    clear qa00_1 qa01_1 za0_1
    go_wp2
    go_ret
    exact ⟨rfl, H2⟩
  have eR : szR (1048576) e0.length = ((1048576 - e0.length : Nat) : Int) := by rw [szR, if_pos hbig0]
  rw [eR] at hsz0
  have HZ0 := Lib.hid hsz0
  have hnn0 : decide (((1048576 - e0.length : Nat) : Int) < 0) = false := by simp <;> omega
  have hb0g : e0.length ≤ 1048576 := by omega
  have hb0i : e0.length ≤ 4194304 := by omega
  have hb0h : e0.length ≤ 281474976710656 := by omega
  clear hsz0 eR
  have hsz1 := fun w => szChangeS c1.length cp1 ad1 (1048576 - e0.length) w (by omega) l1
  by_cases hbig1 : c1.length ≤ 1048576 - e0.length
  rotate_left
  · have eR : szR (1048576 - e0.length) c1.length = -1 := by rw [szR, if_neg hbig1]
    rw [eR] at hsz1
    have HZ1 := Lib.hid hsz1
    clear hsz1 eR
    obtain ⟨w0, hw0⟩ : ∃ w0, w0 = w := ⟨_, rfl⟩
    subst hw0
    have H0 := Below.refl w0.heap.size w0
    go_enter Try.func3, Try.ntmps3
    go_wp2_with fail
    have hb1 : Below w0.heap.size w0 (w0.alloc (.cells #[.int .i64 n0, .slice ad0 e0.length cp0] 24)) := (Below.refl _ _).alloc (by simp <;> omega) _
    have H1 := bel_trans H0 hb1
    have SZ1 := Lib.hid hb1.size
    have qa00_1 : (w0.alloc (.cells #[.int .i64 n0, .slice ad0 e0.length cp0] 24)).cell? ⟨w0.heap.size, 0, none⟩ = some (.int .i64 n0) := by go_simp
    have qa01_1 : (w0.alloc (.cells #[.int .i64 n0, .slice ad0 e0.length cp0] 24)).cell? ⟨w0.heap.size, 1, none⟩ = some (.slice ad0 e0.length cp0) := by go_simp
    have za0_1 : w0.heap.size < (w0.alloc (.cells #[.int .i64 n0, .slice ad0 e0.length cp0] 24)).heap.size := by simp <;> omega
    generalize (w0.alloc (.cells #[.int .i64 n0, .slice ad0 e0.length cp0] 24)) = w1 at hb1 H1 SZ1 qa00_1 qa01_1 za0_1 ⊢
    have ZBa0 := Lib.hid za0_1
    refine (HZ0.out _).mono ?_
    rintro e w2 ⟨rfl, hb2⟩
    have H2 := bel_trans H1 hb2
    have SZ2 := Lib.hid hb2.size
    have qa00_2 := (hb2.cell (p := ⟨w0.heap.size, 0, none⟩) za0_1).trans qa00_1
    have qa01_2 := (hb2.cell (p := ⟨w0.heap.size, 1, none⟩) za0_1).trans qa01_1
    have za0_2 := Nat.lt_of_lt_of_le za0_1 hb2.size
    clear qa00_1 qa01_1 za0_1
    go_wp2_with fail
    refine (HZ1.out _).mono ?_
    rintro e w3 ⟨rfl, hb3⟩
    have H3 := bel_trans H2 hb3
    have SZ3 := Lib.hid hb3.size
    have qa00_3 := (hb3.cell (p := ⟨w0.heap.size, 0, none⟩) za0_2).trans qa00_2
    have qa01_3 := (hb3.cell (p := ⟨w0.heap.size, 1, none⟩) za0_2).trans qa01_2
    have za0_3 := Nat.lt_of_lt_of_le za0_2 hb3.size
    clear qa00_2 qa01_2 za0_2
    go_wp2
    go_ret
    exact ⟨rfl, H3⟩
  have eR : szR (1048576 - e0.length) c1.length = ((1048576 - e0.length - c1.length : Nat) : Int) := by rw [szR, if_pos hbig1]
  rw [eR] at hsz1
  have HZ1 := Lib.hid hsz1
  have hnn1 : decide (((1048576 - e0.length - c1.length : Nat) : Int) < 0) = false := by simp <;> omega
  have hb1g : c1.length ≤ 1048576 := by omega
  have hb1i : c1.length ≤ 4194304 := by omega
  have hb1h : c1.length ≤ 281474976710656 := by omega
  clear hsz1 eR
  obtain ⟨w0, hw0⟩ : ∃ w0, w0 = w := ⟨_, rfl⟩
  subst hw0
  have H0 := Below.refl w0.heap.size w0
  have R0_0 := R0
  clear R0
  have R1_0 := R1
  clear R1
  go_enter Try.func3, Try.ntmps3
  go_wp2_with fail
  have hb1 : Below w0.heap.size w0 (w0.alloc (.cells #[.int .i64 n0, .slice ad0 e0.length cp0] 24)) := (Below.refl _ _).alloc (by simp <;> omega) _
  have H1 := bel_trans H0 hb1
  have SZ1 := Lib.hid hb1.size
  have R0_1 := Lib.hid (R0_0.out.keep hb1)
  have R1_1 := Lib.hid (R1_0.out.keep hb1)
  have qa00_1 : (w0.alloc (.cells #[.int .i64 n0, .slice ad0 e0.length cp0] 24)).cell? ⟨w0.heap.size, 0, none⟩ = some (.int .i64 n0) := by go_simp
  have qa01_1 : (w0.alloc (.cells #[.int .i64 n0, .slice ad0 e0.length cp0] 24)).cell? ⟨w0.heap.size, 1, none⟩ = some (.slice ad0 e0.length cp0) := by go_simp
  have za0_1 : w0.heap.size < (w0.alloc (.cells #[.int .i64 n0, .slice ad0 e0.length cp0] 24)).heap.size := by simp <;> omega
  generalize (w0.alloc (.cells #[.int .i64 n0, .slice ad0 e0.length cp0] 24)) = w1 at hb1 H1 SZ1 R0_1 R1_1 qa00_1 qa01_1 za0_1 ⊢
  have ZBa0 := Lib.hid za0_1
  clear R0_0 R1_0
  refine (HZ0.out _).mono ?_
  rintro e w2 ⟨rfl, hb2⟩
  have H2 := bel_trans H1 hb2
  have SZ2 := Lib.hid hb2.size
  have qa00_2 := (hb2.cell (p := ⟨w0.heap.size, 0, none⟩) za0_1).trans qa00_1
  have qa01_2 := (hb2.cell (p := ⟨w0.heap.size, 1, none⟩) za0_1).trans qa01_1
  have za0_2 := Nat.lt_of_lt_of_le za0_1 hb2.size
  have R0_2 := Lib.hid (R0_1.out.keep hb2)
  have R1_2 := Lib.hid (R1_1.out.keep hb2)
  clear R0_1 R1_1 qa00_1 qa01_1 za0_1
  go_wp2_with fail
  refine (HZ1.out _).mono ?_
  rintro e w3 ⟨rfl, hb3⟩
  have H3 := bel_trans H2 hb3
  have SZ3 := Lib.hid hb3.size
  have qa00_3 := (hb3.cell (p := ⟨w0.heap.size, 0, none⟩) za0_2).trans qa00_2
  have qa01_3 := (hb3.cell (p := ⟨w0.heap.size, 1, none⟩) za0_2).trans qa01_2
  have za0_3 := Nat.lt_of_lt_of_le za0_2 hb3.size
  have R0_3 := Lib.hid (R0_2.out.keep hb3)
  have R1_3 := Lib.hid (R1_2.out.keep hb3)
  clear qa00_2 qa01_2 za0_2 R0_2 R1_2
  have hsp := fun s t w h k ok0 => sChangesValid n0 e0 c1 s t w h k ok0 hb0g hb1g
  have him := fun s t w h k ok0 => changesValid n0 e0 c1 s t w h k ok0 hb0g hb1g
  generalize apB n0 e0 c1 = B at hsp him
  have HSP := Lib.hid hsp
  have HIM := Lib.hid him
  clear hsp him
  go_wp2_with fail
  refine (toGraph n0 e0 _ _ R0_3.out.edges hb0g).mono ?_
  rintro e w4 ⟨sAV0, rfl, hnew, hb4⟩
  have H4 := bel_trans H3 hb4
  have SZ4 := Lib.hid hb4.size
  have qa00_4 := (hb4.cell (p := ⟨w0.heap.size, 0, none⟩) za0_3).trans qa00_3
  have qa01_4 := (hb4.cell (p := ⟨w0.heap.size, 1, none⟩) za0_3).trans qa01_3
  have za0_4 := Nat.lt_of_lt_of_le za0_3 hb4.size
  have R0_4 := Lib.hid (R0_3.out.keep hb4)
  have R1_4 := Lib.hid (R1_3.out.keep hb4)
  have OKAV0 := Lib.hid hnew.ok
  have AV0_4 := Lib.hid (hnew.inR)
  clear qa00_3 qa01_3 za0_3 R0_3 R1_3
  clear hnew
  go_wp2_with fail
  refine (toChangeS c1 _ _ R1_4.out.changes hb1g).mono ?_
  rintro e w5 ⟨sAV1, rfl, hnew, hb5⟩
  have H5 := bel_trans H4 hb5
  have SZ5 := Lib.hid hb5.size
  have qa00_5 := (hb5.cell (p := ⟨w0.heap.size, 0, none⟩) za0_4).trans qa00_4
  have qa01_5 := (hb5.cell (p := ⟨w0.heap.size, 1, none⟩) za0_4).trans qa01_4
  have za0_5 := Nat.lt_of_lt_of_le za0_4 hb5.size
  have R0_5 := Lib.hid (R0_4.out.keep hb5)
  have R1_5 := Lib.hid (R1_4.out.keep hb5)
  have AV0_5 := Lib.hid (AV0_4.out.keep hb5)
  have OKAV1 := Lib.hid hnew.ok
  have AV1_5 := Lib.hid (hnew.inR)
  clear qa00_4 qa01_4 za0_4 R0_4 R1_4 AV0_4
  clear hnew
  go_wp2_with fail
  refine (HSP.out _ _ _ AV0_5.out.edges AV1_5.out.changes OKAV0.out).mono ?_
  rintro e w6 ⟨rfl, hb6⟩
  have H6 := bel_trans H5 hb6
  have SZ6 := Lib.hid hb6.size
  have qa00_6 := (hb6.cell (p := ⟨w0.heap.size, 0, none⟩) za0_5).trans qa00_5
  have qa01_6 := (hb6.cell (p := ⟨w0.heap.size, 1, none⟩) za0_5).trans qa01_5
  have za0_6 := Nat.lt_of_lt_of_le za0_5 hb6.size
  have R0_6 := Lib.hid (R0_5.out.keep hb6)
  have R1_6 := Lib.hid (R1_5.out.keep hb6)
  have AV0_6 := Lib.hid (AV0_5.out.keep hb6)
  have AV1_6 := Lib.hid (AV1_5.out.keep hb6)
  clear qa00_5 qa01_5 za0_5 R0_5 R1_5 AV0_5 AV1_5
  clear AV0_6
  clear AV1_6
  go_wp2_with fail
  refine (toGraph n0 e0 _ _ R0_6.out.edges hb0g).mono ?_
  rintro e w7 ⟨_, rfl, hnew, hb7⟩
  have H7 := bel_trans H6 hb7
  have SZ7 := Lib.hid hb7.size
  have qa00_7 := (hb7.cell (p := ⟨w0.heap.size, 0, none⟩) za0_6).trans qa00_6
  have qa01_7 := (hb7.cell (p := ⟨w0.heap.size, 1, none⟩) za0_6).trans qa01_6
  have za0_7 := Nat.lt_of_lt_of_le za0_6 hb7.size
  have R0_7 := Lib.hid (R0_6.out.keep hb7)
  have R1_7 := Lib.hid (R1_6.out.keep hb7)
  have OKX0 := Lib.hid hnew.ok
  obtain ⟨gX0, capX0, rfl, hgX0, hrowX0⟩ := hnew
  have X0_7 := Lib.hid (NewE.inR ⟨gX0, capX0, rfl, hgX0, hrowX0⟩)
  clear qa00_6 qa01_6 za0_6 R0_6 R1_6
  clear hgX0 hrowX0
  go_wp2_with fail
  have hb8 : Below w7.heap.size w7 (w7.alloc (.cells #[.int .i64 n0, .slice (some ⟨gX0, 0, none⟩) e0.length capX0] 31)) := (Below.refl _ _).alloc (by simp <;> omega) _
  have H8 := bel_trans H7 hb8
  have SZ8 := Lib.hid hb8.size
  have qa00_8 := (hb8.cell (p := ⟨w0.heap.size, 0, none⟩) za0_7).trans qa00_7
  have qa01_8 := (hb8.cell (p := ⟨w0.heap.size, 1, none⟩) za0_7).trans qa01_7
  have za0_8 := Nat.lt_of_lt_of_le za0_7 hb8.size
  have R0_8 := Lib.hid (R0_7.out.keep hb8)
  have R1_8 := Lib.hid (R1_7.out.keep hb8)
  have X0_8 := Lib.hid (X0_7.out.keep hb8)
  have qx00_8 : (w7.alloc (.cells #[.int .i64 n0, .slice (some ⟨gX0, 0, none⟩) e0.length capX0] 31)).cell? ⟨w7.heap.size, 0, none⟩ = some (.int .i64 n0) := by go_simp
  have qx01_8 : (w7.alloc (.cells #[.int .i64 n0, .slice (some ⟨gX0, 0, none⟩) e0.length capX0] 31)).cell? ⟨w7.heap.size, 1, none⟩ = some (.slice (some ⟨gX0, 0, none⟩) e0.length capX0) := by go_simp
  have zx0_8 : w7.heap.size < (w7.alloc (.cells #[.int .i64 n0, .slice (some ⟨gX0, 0, none⟩) e0.length capX0] 31)).heap.size := by simp <;> omega
  generalize (w7.alloc (.cells #[.int .i64 n0, .slice (some ⟨gX0, 0, none⟩) e0.length capX0] 31)) = w8 at hb8 H8 SZ8 R0_8 R1_8 X0_8 qa00_8 qa01_8 qx00_8 qx01_8 za0_8 zx0_8 ⊢
  have ZBx0 := Lib.hid zx0_8
  clear qa00_7 qa01_7 za0_7 R0_7 R1_7 X0_7
  go_wp2_with fail
  refine (toChangeS c1 _ _ R1_8.out.changes hb1g).mono ?_
  rintro e w9 ⟨_, rfl, hnew, hb9⟩
  have H9 := bel_trans H8 hb9
  have SZ9 := Lib.hid hb9.size
  have qa00_9 := (hb9.cell (p := ⟨w0.heap.size, 0, none⟩) za0_8).trans qa00_8
  have qa01_9 := (hb9.cell (p := ⟨w0.heap.size, 1, none⟩) za0_8).trans qa01_8
  have za0_9 := Nat.lt_of_lt_of_le za0_8 hb9.size
  have qx00_9 := (hb9.cell (p := ⟨w7.heap.size, 0, none⟩) zx0_8).trans qx00_8
  have qx01_9 := (hb9.cell (p := ⟨w7.heap.size, 1, none⟩) zx0_8).trans qx01_8
  have zx0_9 := Nat.lt_of_lt_of_le zx0_8 hb9.size
  have R0_9 := Lib.hid (R0_8.out.keep hb9)
  have R1_9 := Lib.hid (R1_8.out.keep hb9)
  have X0_9 := Lib.hid (X0_8.out.keep hb9)
  have OKX1 := Lib.hid hnew.ok
  obtain ⟨gX1, capX1, rfl, hgX1, hrowX1⟩ := hnew
  have X1_9 := Lib.hid (NewCh.inR ⟨gX1, capX1, rfl, hgX1, hrowX1⟩)
  clear qa00_8 qa01_8 za0_8 R0_8 R1_8 X0_8 qx00_8 qx01_8 zx0_8
  clear hgX1 hrowX1
  go_wp2_with fail
  refine (HIM.out _ _ _ X0_9.out.edges X1_9.out.changes OKX0.out).mono ?_
  rintro e w10 ⟨rfl, hb10⟩
  have H10 := bel_trans H9 hb10
  have SZ10 := Lib.hid hb10.size
  have qa00_10 := (hb10.cell (p := ⟨w0.heap.size, 0, none⟩) za0_9).trans qa00_9
  have qa01_10 := (hb10.cell (p := ⟨w0.heap.size, 1, none⟩) za0_9).trans qa01_9
  have za0_10 := Nat.lt_of_lt_of_le za0_9 hb10.size
  have qx00_10 := (hb10.cell (p := ⟨w7.heap.size, 0, none⟩) zx0_9).trans qx00_9
  have qx01_10 := (hb10.cell (p := ⟨w7.heap.size, 1, none⟩) zx0_9).trans qx01_9
  have zx0_10 := Nat.lt_of_lt_of_le zx0_9 hb10.size
  have R0_10 := Lib.hid (R0_9.out.keep hb10)
  have R1_10 := Lib.hid (R1_9.out.keep hb10)
  have X0_10 := Lib.hid (X0_9.out.keep hb10)
  have X1_10 := Lib.hid (X1_9.out.keep hb10)
  clear qa00_9 qa01_9 za0_9 qx00_9 qx01_9 zx0_9 R0_9 R1_9 X0_9 X1_9
  go_wp2_with fail
  have hold : ∀ w' : World, Below w10.heap.size w10 w' → (w'.cell? ⟨w7.heap.size, 0, none⟩ = some (.int .i64 n0) ∧ w'.cell? ⟨w7.heap.size, 1, none⟩ = some (.slice (some ⟨gX0, 0, none⟩) e0.length capX0) ∧ w'.cell? ⟨w0.heap.size, 0, none⟩ = some (.int .i64 n0) ∧ w'.cell? ⟨w0.heap.size, 1, none⟩ = some (.slice ad0 e0.length cp0)) := fun w' h => ⟨(h.cell (p := ⟨w7.heap.size, 0, none⟩) zx0_10).trans qx00_10, (h.cell (p := ⟨w7.heap.size, 1, none⟩) zx0_10).trans qx01_10, (h.cell (p := ⟨w0.heap.size, 0, none⟩) za0_10).trans qa00_10, (h.cell (p := ⟨w0.heap.size, 1, none⟩) za0_10).trans qa01_10⟩
  have HOLD := Lib.hid hold
  clear hold
  go_region_held3 (fun w' : World => w'.cell? ⟨w7.heap.size, 0, none⟩ = some (.int .i64 n0) ∧ w'.cell? ⟨w7.heap.size, 1, none⟩ = some (.slice (some ⟨gX0, 0, none⟩) e0.length capX0) ∧ w'.cell? ⟨w0.heap.size, 0, none⟩ = some (.int .i64 n0) ∧ w'.cell? ⟨w0.heap.size, 1, none⟩ = some (.slice ad0 e0.length cp0)) (first | exact HOLD.out _ ((Below.refl _ _).drew) | exact HOLD.out _ (bel_trans ((Below.refl _ _).drew) hb11) | exact HOLD.out _ (bel_trans (bel_trans ((Below.refl _ _).drew) hb11) hb12)) (first | (go_at_call 13; (with_reducible refine (toGraph n0 e0 _ _ (R0_10.out.keep ((Below.refl _ _).drew)).edges hb0g).mono ?_); rintro e w11 ⟨sB0, rfl, hnew0, hb11⟩) | (go_at_call 16; (with_reducible refine (eqGraph n0 e0 _ _ _ (X0_10.out.keep (bel_trans ((Below.refl _ _).drew) hb11)).edges hnew0.row hb0g).mono ?_); rintro e w12 ⟨rfl, hb12⟩))
  have hq : Below w10.heap.size w10 w12 := (bel_trans (bel_trans ((Below.refl _ _).drew) hb11) hb12)
  clear hb11 hb12 HOLD hnew0
  have hb12 := hq
  clear hq
  have H12 := bel_trans H10 hb12
  have SZ12 := Lib.hid hb12.size
  have qa00_12 := (hb12.cell (p := ⟨w0.heap.size, 0, none⟩) za0_10).trans qa00_10
  have qa01_12 := (hb12.cell (p := ⟨w0.heap.size, 1, none⟩) za0_10).trans qa01_10
  have za0_12 := Nat.lt_of_lt_of_le za0_10 hb12.size
  have qx00_12 := (hb12.cell (p := ⟨w7.heap.size, 0, none⟩) zx0_10).trans qx00_10
  have qx01_12 := (hb12.cell (p := ⟨w7.heap.size, 1, none⟩) zx0_10).trans qx01_10
  have zx0_12 := Nat.lt_of_lt_of_le zx0_10 hb12.size
  have R0_12 := Lib.hid (R0_10.out.keep hb12)
  have R1_12 := Lib.hid (R1_10.out.keep hb12)
  have X0_12 := Lib.hid (X0_10.out.keep hb12)
  have X1_12 := Lib.hid (X1_10.out.keep hb12)
  clear qa00_10 qa01_10 za0_10 qx00_10 qx01_10 zx0_10 R0_10 R1_10 X0_10 X1_10
  go_wp2_with fail
  refine (toChangeS c1 _ _ R1_12.out.changes hb1g).mono ?_
  rintro e w13 ⟨sB1, rfl, hnew, hb13⟩
  have H13 := bel_trans H12 hb13
  have SZ13 := Lib.hid hb13.size
  have qa00_13 := (hb13.cell (p := ⟨w0.heap.size, 0, none⟩) za0_12).trans qa00_12
  have qa01_13 := (hb13.cell (p := ⟨w0.heap.size, 1, none⟩) za0_12).trans qa01_12
  have za0_13 := Nat.lt_of_lt_of_le za0_12 hb13.size
  have qx00_13 := (hb13.cell (p := ⟨w7.heap.size, 0, none⟩) zx0_12).trans qx00_12
  have qx01_13 := (hb13.cell (p := ⟨w7.heap.size, 1, none⟩) zx0_12).trans qx01_12
  have zx0_13 := Nat.lt_of_lt_of_le zx0_12 hb13.size
  have R0_13 := Lib.hid (R0_12.out.keep hb13)
  have R1_13 := Lib.hid (R1_12.out.keep hb13)
  have X0_13 := Lib.hid (X0_12.out.keep hb13)
  have X1_13 := Lib.hid (X1_12.out.keep hb13)
  have B1_13 := Lib.hid (hnew.inR)
  clear qa00_12 qa01_12 za0_12 qx00_12 qx01_12 zx0_12 R0_12 R1_12 X0_12 X1_12
  clear hnew
  go_wp2_with fail
  refine (eqChangeS c1 _ _ _ X1_13.out.changes B1_13.out.changes hb1g).mono ?_
  rintro e w14 ⟨rfl, hb14⟩
  have H14 := bel_trans H13 hb14
  have SZ14 := Lib.hid hb14.size
  have qa00_14 := (hb14.cell (p := ⟨w0.heap.size, 0, none⟩) za0_13).trans qa00_13
  have qa01_14 := (hb14.cell (p := ⟨w0.heap.size, 1, none⟩) za0_13).trans qa01_13
  have za0_14 := Nat.lt_of_lt_of_le za0_13 hb14.size
  have qx00_14 := (hb14.cell (p := ⟨w7.heap.size, 0, none⟩) zx0_13).trans qx00_13
  have qx01_14 := (hb14.cell (p := ⟨w7.heap.size, 1, none⟩) zx0_13).trans qx01_13
  have zx0_14 := Nat.lt_of_lt_of_le zx0_13 hb14.size
  have R0_14 := Lib.hid (R0_13.out.keep hb14)
  have R1_14 := Lib.hid (R1_13.out.keep hb14)
  have X0_14 := Lib.hid (X0_13.out.keep hb14)
  have X1_14 := Lib.hid (X1_13.out.keep hb14)
  have B1_14 := Lib.hid (B1_13.out.keep hb14)
  clear qa00_13 qa01_13 za0_13 qx00_13 qx01_13 zx0_13 R0_13 R1_13 X0_13 X1_13 B1_13
  clear B1_14
  go_wp2
  go_ret
  exact ⟨rfl, H14⟩

set_option maxRecDepth 100000 in
theorem lifted (os : Os) (started : os.Started) (H : Type) (enc : TypeId × Value → H) :
    ReturnsInHanded {} Try.checked os 3 .any (Rows.fnExactChangesValidSpec.pre6 enc Try.prog Try.f3 Rows.fnExactChangesValidRow.domain false) (Rows.fnExactChangesValidSpec.post enc Try.prog Try.f3 false true false false) := by
  refine returnsInHanded_of_change (C := Try.checked) own started (by kernel_rfl) Try.func3
    (ChangeSpec.witness6 (enc := enc) (C := Try.checked) false ⟨#[], #[.agg #[.int .i64 0, .slice none 0 0], .slice none 0 0], []⟩ 8 (by kernel_rfl) (by kernel_rfl) (by kernel_rfl) (by kernel_rfl)) ?_
  intro W base args ds gs before hval0 hW hcnd _
  have hval : ∀ (j : Nat) t v, Try.f3.params[j]? = some t → args[j]? = some v → Value.okWide Try.prog W .any base t v := hval0
  have hW' := hW
  obtain ⟨p, q, hA0, hV, rfl, hfz, hnd⟩ := hW
  have hA : DataW.TrodAll enc Try.prog W 0 (fun _ => true) true Try.f3.params.toList args.toList ds p := hA0
  rw [Try.params3] at hA hval
  obtain ⟨v0, vs0, d0, ds0, p0, q0, hargs, rfl, rfl, h0, rr0⟩ := trodAll_cons hA
  obtain ⟨v1, vs1, d1, ds1, p1, q1, rfl, rfl, rfl, h1, rr1⟩ := trodAll_cons rr0
  obtain ⟨rfl, rfl, rfl⟩ := trodAll_nil rr1
  obtain rfl : args = #[v0, v1] := by cases args; simp_all
  obtain ⟨rfl, rfl⟩ := trodVars_none hV
  have k0 := h0
  have lt0 : ∀ x ∈ p0, x.block < W.heap.size := by obtain ⟨m, hm⟩ := k0; exact DataW.trod_lt m _ _ _ hm
  have k1 := h1
  have lt1 : ∀ x ∈ p1, x.block < W.heap.size := by obtain ⟨m, hm⟩ := k1; exact DataW.trod_lt m _ _ _ hm
  obtain ⟨n0, s0, e0, rfl, r0, l0⟩ := openGraph (hval 0 24 v0 rfl rfl) h0
  obtain ⟨s1, c1, rfl, r1, l1⟩ := openChangeS (hval 1 25 v1 rfl rfl) h1
  clear hA0 hval0
  refine (walk W n0 s0 e0 r0 l0 _ c1 r1 l1).mono fun e W' ⟨he, bel⟩ => ?_
  subst he
  exact ⟨_, rfl, _, _, _, [], _, [], hW', trodAll_mk1 (shut_bool Try.underlying4 _), (trodAll_cons_mk (Below.trod laidOut (by kernel_rfl) (of_decide_eq_true (by kernel_rfl)) k0 bel lt0) (trodAll_cons_mk (Below.trod laidOut (by kernel_rfl) (of_decide_eq_true (by kernel_rfl)) k1 bel lt1) trodAll_mk0)), rfl, bel.frame _, fun h => by cases h⟩

theorem over : Rows.fnExactChangesValidRow.holds Try.pinned (OpenSpec.ofChange Rows.fnExactChangesValidSpec) :=
  OpenClaim.holds_of_wide 3 Try.f3 rfl rfl rfl rfl rfl rfl rfl ⟨rfl, rfl, rfl, rfl, rfl⟩ rfl rfl rfl rfl rfl (by kernel_rfl) Try.func3 (by kernel_rfl)
    (of_decide_eq_true (by kernel_rfl)) (by unfold Func.isWrapper; first | (rw [if_pos (by decide +kernel)]; kernel_rfl) | (rw [if_neg (by decide +kernel)]; exact ⟨rfl, rfl⟩))
    (fun os started H enc _ => lifted os started H enc)

theorem proved : Rows.FnExactChangesValidSaid := over
end Go.Proofs.Ytdlnekfifogcaaa.fnExactChangesValid
