/-
  Proved: at every graph, every integer and every list of nodes impl.NearestOf answers as the model spec.NearestOf does, writes into no argument and returns memory of its own (the law FnExactNearestOf returns true for them all), with no further condition.
-/
import Derived.Test.YthkmelkhpkmhaaaRows
import Derived.Test.YthkmelkhpkmhaaaDerQ
import Derived.Test.YthkmelkhpkmhaaaVEdges
import Derived.Test.YthkmelkhpkmhaaaMarks
import Derived.Test.YthkmelkhpkmhaaaHeld
import Derived.Test.YthkmelkhpkmhaaaOpenV
import Derived.WalkKit
import Derived.ProofKit
import Derived.OpenShut
import Derived.ShutString
import Derived.ChangeOld
import Derived.Below
namespace Go.Proofs.Ythkmelkhpkmhaaa.fnExactNearestOf
open Go.Proofs.Ythkmelkhpkmhaaa Go.BigFrame
open Go.ChangeShapes Go.WideShapes Go.ChangeAt Go.RowKit
open Go.ChangeMaps (open_string shut_string)
set_option linter.unusedVariables false

theorem own : ownKnob Try.prog.godebug = none := by kernel_rfl
theorem laidOut : laidOutB Try.prog = true := by kernel_rfl

set_option maxRecDepth 100000 in
set_option maxHeartbeats 4000000 in
theorem walk (w : World) (n0 : Int) (s0 : Value) (e0 : List Ed) (r0 : RowE w s0 e0) (l0 : e0.length ≤ 9223372036854775807) (a1 : Int) (w1 : (Lit.int .i64 a1).wf = true) (s2 : Value) (i2 : List Int) (r2 : Row w s2 i2) (l2 : i2.length ≤ 9223372036854775807) :
    Calls Try.prog 5 #[.agg #[.int .i64 n0, s0], .int .i64 a1, s2] w fun e w' => e = .returned (.bool true) ∧ Below w.heap.size w w' := by
  obtain ⟨ad0, cp0, hs0, hz0⟩ := id r0
  subst hs0
  clear hz0
  have R0 := Lib.hid (InR.of_edges r0)
  clear r0
  obtain ⟨ad2, cp2, hs2, hz2⟩ := id r2
  subst hs2
  clear hz2
  have R2 := Lib.hid (InR.of_row r2)
  clear r2
  by_cases hbig2 : i2.length ≤ 1048576
  rotate_left
  · have hgt2 : (1048576 : Int) < i2.length := by omega
    obtain ⟨w0, hw0⟩ : ∃ w0, w0 = w := ⟨_, rfl⟩
    subst hw0
    have H0 := Below.refl w0.heap.size w0
    go_enter Try.func5, Try.ntmps5
    go_wp2
    go_ret
    exact ⟨rfl, (Below.refl _ _).alloc (by simp <;> omega) _⟩
  have hgt2 : ¬ ((1048576 : Int) < i2.length) := by omega
  have hb2g : i2.length ≤ 1048576 := hbig2
  have hb2i : i2.length ≤ 4194304 := by omega
  have hb2h : i2.length ≤ 281474976710656 := by omega
  have hsz0 := fun w => szGraph n0 e0.length cp0 ad0 (1048576) w (by omega) l0
  by_cases hbig0 : e0.length ≤ 1048576
  rotate_left
  · have eR : szR (1048576) e0.length = -1 := by rw [szR, if_neg hbig0]
    rw [eR] at hsz0
    have HZ0 := Lib.hid hsz0
    clear hsz0 eR
    obtain ⟨w0, hw0⟩ : ∃ w0, w0 = w := ⟨_, rfl⟩
    subst hw0
    have H0 := Below.refl w0.heap.size w0
    go_enter Try.func5, Try.ntmps5
    go_wp2_with fail
    have hb1 : Below w0.heap.size w0 (w0.alloc (.cells #[.int .i64 n0, .slice ad0 e0.length cp0] 24)) := (Below.refl _ _).alloc (by simp <;> omega) _
    have H1 := bel_trans H0 hb1
    have SZ1 := Lib.hid hb1.size
    have qa00_1 : (w0.alloc (.cells #[.int .i64 n0, .slice ad0 e0.length cp0] 24)).cell? ⟨w0.heap.size, 0, none⟩ = some (.int .i64 n0) := by go_simp
    have qa01_1 : (w0.alloc (.cells #[.int .i64 n0, .slice ad0 e0.length cp0] 24)).cell? ⟨w0.heap.size, 1, none⟩ = some (.slice ad0 e0.length cp0) := by go_simp
    have za0_1 : w0.heap.size < (w0.alloc (.cells #[.int .i64 n0, .slice ad0 e0.length cp0] 24)).heap.size := by simp <;> omega
    generalize (w0.alloc (.cells #[.int .i64 n0, .slice ad0 e0.length cp0] 24)) = w1 at hb1 H1 SZ1 qa00_1 qa01_1 za0_1 ⊢
    have ZBa0 := Lib.hid za0_1
    refine (HZ0.out _).mono ?_
    rintro e w2 ⟨rfl, hb2⟩
    have H2 := bel_trans H1 hb2
    have SZ2 := Lib.hid hb2.size
    have qa00_2 := (hb2.cell (p := ⟨w0.heap.size, 0, none⟩) za0_1).trans qa00_1
    have qa01_2 := (hb2.cell (p := ⟨w0.heap.size, 1, none⟩) za0_1).trans qa01_1
    have za0_2 := Nat.lt_of_lt_of_le za0_1 hb2.size
    clear qa00_1 qa01_1 za0_1
    go_wp2
    go_ret
    exact ⟨rfl, H2⟩
  have eR : szR (1048576) e0.length = ((1048576 - e0.length : Nat) : Int) := by rw [szR, if_pos hbig0]
  rw [eR] at hsz0
  have HZ0 := Lib.hid hsz0
  have hnn0 : decide (((1048576 - e0.length : Nat) : Int) < 0) = false := by simp <;> omega
  have hb0g : e0.length ≤ 1048576 := by omega
  have hb0i : e0.length ≤ 4194304 := by omega
  have hb0h : e0.length ≤ 281474976710656 := by omega
  clear hsz0 eR
  obtain ⟨w0, hw0⟩ : ∃ w0, w0 = w := ⟨_, rfl⟩
  subst hw0
  have H0 := Below.refl w0.heap.size w0
  have R0_0 := R0
  clear R0
  have R2_0 := R2
  clear R2
  go_enter Try.func5, Try.ntmps5
  go_wp2_with fail
  have hb1 : Below w0.heap.size w0 (w0.alloc (.cells #[.int .i64 n0, .slice ad0 e0.length cp0] 24)) := (Below.refl _ _).alloc (by simp <;> omega) _
  have H1 := bel_trans H0 hb1
  have SZ1 := Lib.hid hb1.size
  have R0_1 := Lib.hid (R0_0.out.keep hb1)
  have R2_1 := Lib.hid (R2_0.out.keep hb1)
  have qa00_1 : (w0.alloc (.cells #[.int .i64 n0, .slice ad0 e0.length cp0] 24)).cell? ⟨w0.heap.size, 0, none⟩ = some (.int .i64 n0) := by go_simp
  have qa01_1 : (w0.alloc (.cells #[.int .i64 n0, .slice ad0 e0.length cp0] 24)).cell? ⟨w0.heap.size, 1, none⟩ = some (.slice ad0 e0.length cp0) := by go_simp
  have za0_1 : w0.heap.size < (w0.alloc (.cells #[.int .i64 n0, .slice ad0 e0.length cp0] 24)).heap.size := by simp <;> omega
  generalize (w0.alloc (.cells #[.int .i64 n0, .slice ad0 e0.length cp0] 24)) = w1 at hb1 H1 SZ1 R0_1 R2_1 qa00_1 qa01_1 za0_1 ⊢
  have ZBa0 := Lib.hid za0_1
  clear R0_0 R2_0
  refine (HZ0.out _).mono ?_
  rintro e w2 ⟨rfl, hb2⟩
  have H2 := bel_trans H1 hb2
  have SZ2 := Lib.hid hb2.size
  have qa00_2 := (hb2.cell (p := ⟨w0.heap.size, 0, none⟩) za0_1).trans qa00_1
  have qa01_2 := (hb2.cell (p := ⟨w0.heap.size, 1, none⟩) za0_1).trans qa01_1
  have za0_2 := Nat.lt_of_lt_of_le za0_1 hb2.size
  have R0_2 := Lib.hid (R0_1.out.keep hb2)
  have R2_2 := Lib.hid (R2_1.out.keep hb2)
  clear R0_1 R2_1 qa00_1 qa01_1 za0_1
  have hln : (nfV n0 e0 a1 i2).length ≤ 12 ∧ (nfO n0 e0 a1 i2).length ≤ 12 := nf_len n0 e0 a1 i2
  have hsp := fun s t w h k (ok2 : okS t) => sNearestOf n0 a1 e0 i2 s t w h k ok2 hb0h hb2h
  have him := fun s t w h k (ok2 : okS t) => nearestOf n0 a1 e0 i2 s t w h k hb0h hb2h
  generalize nfB n0 e0 a1 i2 = B at hsp him
  generalize nfV n0 e0 a1 i2 = ls at hsp him hln
  generalize nfO n0 e0 a1 i2 = lu at hsp him hln
  have hln1 := hln.1
  have hln2 := hln.2
  clear hln
  have HSP := Lib.hid hsp
  have HIM := Lib.hid him
  clear hsp him
  go_wp2_with fail
  refine (toGraph n0 e0 _ _ R0_2.out.edges hb0g).mono ?_
  rintro e w3 ⟨sAV0, rfl, hnew, hb3⟩
  have H3 := bel_trans H2 hb3
  have SZ3 := Lib.hid hb3.size
  have qa00_3 := (hb3.cell (p := ⟨w0.heap.size, 0, none⟩) za0_2).trans qa00_2
  have qa01_3 := (hb3.cell (p := ⟨w0.heap.size, 1, none⟩) za0_2).trans qa01_2
  have za0_3 := Nat.lt_of_lt_of_le za0_2 hb3.size
  have R0_3 := Lib.hid (R0_2.out.keep hb3)
  have R2_3 := Lib.hid (R2_2.out.keep hb3)
  have OKAV0 := Lib.hid hnew.ok
  have AV0_3 := Lib.hid (hnew.inR)
  clear qa00_2 qa01_2 za0_2 R0_2 R2_2
  clear hnew
  go_wp2_with fail
  refine (toIntSN i2 _ _ R2_3.out.rowI hb2g).mono ?_
  rintro e w4 ⟨sAV2, rfl, hnew, hb4⟩
  have H4 := bel_trans H3 hb4
  have SZ4 := Lib.hid hb4.size
  have qa00_4 := (hb4.cell (p := ⟨w0.heap.size, 0, none⟩) za0_3).trans qa00_3
  have qa01_4 := (hb4.cell (p := ⟨w0.heap.size, 1, none⟩) za0_3).trans qa01_3
  have za0_4 := Nat.lt_of_lt_of_le za0_3 hb4.size
  have R0_4 := Lib.hid (R0_3.out.keep hb4)
  have R2_4 := Lib.hid (R2_3.out.keep hb4)
  have AV0_4 := Lib.hid (AV0_3.out.keep hb4)
  have OKAV2 := Lib.hid hnew.ok
  have AV2_4 := Lib.hid (hnew.inR)
  clear qa00_3 qa01_3 za0_3 R0_3 R2_3 AV0_3
  clear hnew
  go_wp2_with fail
  refine (HSP.out _ _ _ AV0_4.out.edges AV2_4.out.rowI OKAV2.out).mono ?_
  rintro e w5 ⟨vV, uV, rfl, hv, hu, hb5⟩
  have H5 := bel_trans H4 hb5
  have SZ5 := Lib.hid hb5.size
  have qa00_5 := (hb5.cell (p := ⟨w0.heap.size, 0, none⟩) za0_4).trans qa00_4
  have qa01_5 := (hb5.cell (p := ⟨w0.heap.size, 1, none⟩) za0_4).trans qa01_4
  have za0_5 := Nat.lt_of_lt_of_le za0_4 hb5.size
  have R0_5 := Lib.hid (R0_4.out.keep hb5)
  have R2_5 := Lib.hid (R2_4.out.keep hb5)
  have AV0_5 := Lib.hid (AV0_4.out.keep hb5)
  have AV2_5 := Lib.hid (AV2_4.out.keep hb5)
  have V2_5 := Lib.hid hu
  have V_5 := Lib.hid (hv)
  clear qa00_4 qa01_4 za0_4 R0_4 R2_4 AV0_4 AV2_4
  clear hv hu
  clear AV0_5
  clear AV2_5
  go_wp2_with fail
  refine (toGraph n0 e0 _ _ R0_5.out.edges hb0g).mono ?_
  rintro e w6 ⟨_, rfl, hnew, hb6⟩
  have H6 := bel_trans H5 hb6
  have SZ6 := Lib.hid hb6.size
  have qa00_6 := (hb6.cell (p := ⟨w0.heap.size, 0, none⟩) za0_5).trans qa00_5
  have qa01_6 := (hb6.cell (p := ⟨w0.heap.size, 1, none⟩) za0_5).trans qa01_5
  have za0_6 := Nat.lt_of_lt_of_le za0_5 hb6.size
  have R0_6 := Lib.hid (R0_5.out.keep hb6)
  have R2_6 := Lib.hid (R2_5.out.keep hb6)
  have V_6 := Lib.hid (V_5.out.keep hb6)
  have V2_6 := Lib.hid (V2_5.out.keep hb6)
  have OKX0 := Lib.hid hnew.ok
  obtain ⟨gX0, capX0, rfl, hgX0, hrowX0⟩ := hnew
  have X0_6 := Lib.hid (NewE.inR ⟨gX0, capX0, rfl, hgX0, hrowX0⟩)
  clear qa00_5 qa01_5 za0_5 R0_5 R2_5 V2_5 V_5
  clear hgX0 hrowX0
  go_wp2_with fail
  have hb7 : Below w6.heap.size w6 (w6.alloc (.cells #[.int .i64 n0, .slice (some ⟨gX0, 0, none⟩) e0.length capX0] 29)) := (Below.refl _ _).alloc (by simp <;> omega) _
  have H7 := bel_trans H6 hb7
  have SZ7 := Lib.hid hb7.size
  have qa00_7 := (hb7.cell (p := ⟨w0.heap.size, 0, none⟩) za0_6).trans qa00_6
  have qa01_7 := (hb7.cell (p := ⟨w0.heap.size, 1, none⟩) za0_6).trans qa01_6
  have za0_7 := Nat.lt_of_lt_of_le za0_6 hb7.size
  have R0_7 := Lib.hid (R0_6.out.keep hb7)
  have R2_7 := Lib.hid (R2_6.out.keep hb7)
  have V_7 := Lib.hid (V_6.out.keep hb7)
  have V2_7 := Lib.hid (V2_6.out.keep hb7)
  have X0_7 := Lib.hid (X0_6.out.keep hb7)
  have qx00_7 : (w6.alloc (.cells #[.int .i64 n0, .slice (some ⟨gX0, 0, none⟩) e0.length capX0] 29)).cell? ⟨w6.heap.size, 0, none⟩ = some (.int .i64 n0) := by go_simp
  have qx01_7 : (w6.alloc (.cells #[.int .i64 n0, .slice (some ⟨gX0, 0, none⟩) e0.length capX0] 29)).cell? ⟨w6.heap.size, 1, none⟩ = some (.slice (some ⟨gX0, 0, none⟩) e0.length capX0) := by go_simp
  have zx0_7 : w6.heap.size < (w6.alloc (.cells #[.int .i64 n0, .slice (some ⟨gX0, 0, none⟩) e0.length capX0] 29)).heap.size := by simp <;> omega
  generalize (w6.alloc (.cells #[.int .i64 n0, .slice (some ⟨gX0, 0, none⟩) e0.length capX0] 29)) = w7 at hb7 H7 SZ7 R0_7 R2_7 V2_7 V_7 X0_7 qa00_7 qa01_7 qx00_7 qx01_7 za0_7 zx0_7 ⊢
  have ZBx0 := Lib.hid zx0_7
  clear qa00_6 qa01_6 za0_6 R0_6 R2_6 V_6 V2_6 X0_6
  go_wp2_with fail
  refine (toIntSN i2 _ _ R2_7.out.rowI hb2g).mono ?_
  rintro e w8 ⟨_, rfl, hnew, hb8⟩
  have H8 := bel_trans H7 hb8
  have SZ8 := Lib.hid hb8.size
  have qa00_8 := (hb8.cell (p := ⟨w0.heap.size, 0, none⟩) za0_7).trans qa00_7
  have qa01_8 := (hb8.cell (p := ⟨w0.heap.size, 1, none⟩) za0_7).trans qa01_7
  have za0_8 := Nat.lt_of_lt_of_le za0_7 hb8.size
  have qx00_8 := (hb8.cell (p := ⟨w6.heap.size, 0, none⟩) zx0_7).trans qx00_7
  have qx01_8 := (hb8.cell (p := ⟨w6.heap.size, 1, none⟩) zx0_7).trans qx01_7
  have zx0_8 := Nat.lt_of_lt_of_le zx0_7 hb8.size
  have R0_8 := Lib.hid (R0_7.out.keep hb8)
  have R2_8 := Lib.hid (R2_7.out.keep hb8)
  have V_8 := Lib.hid (V_7.out.keep hb8)
  have V2_8 := Lib.hid (V2_7.out.keep hb8)
  have X0_8 := Lib.hid (X0_7.out.keep hb8)
  have OKX2 := Lib.hid hnew.ok
  obtain ⟨gX2, capX2, rfl, hgX2, hrowX2⟩ := hnew
  have X2_8 := Lib.hid (NewI.inR ⟨gX2, capX2, rfl, hgX2, hrowX2⟩)
  clear qa00_7 qa01_7 za0_7 R0_7 R2_7 V_7 V2_7 X0_7 qx00_7 qx01_7 zx0_7
  clear hgX2 hrowX2
  go_wp2_with fail
  refine (HIM.out _ _ _ X0_8.out.edges X2_8.out.rowI OKX2.out).mono ?_
  rintro e w9 ⟨vG, uG, midG, rfl, hv, hu, hmid, hb9⟩
  have H9 := bel_trans H8 hb9
  have SZ9 := Lib.hid hb9.size
  have qa00_9 := (hb9.cell (p := ⟨w0.heap.size, 0, none⟩) za0_8).trans qa00_8
  have qa01_9 := (hb9.cell (p := ⟨w0.heap.size, 1, none⟩) za0_8).trans qa01_8
  have za0_9 := Nat.lt_of_lt_of_le za0_8 hb9.size
  have qx00_9 := (hb9.cell (p := ⟨w6.heap.size, 0, none⟩) zx0_8).trans qx00_8
  have qx01_9 := (hb9.cell (p := ⟨w6.heap.size, 1, none⟩) zx0_8).trans qx01_8
  have zx0_9 := Nat.lt_of_lt_of_le zx0_8 hb9.size
  have R0_9 := Lib.hid (R0_8.out.keep hb9)
  have R2_9 := Lib.hid (R2_8.out.keep hb9)
  have V_9 := Lib.hid (V_8.out.keep hb9)
  have V2_9 := Lib.hid (V2_8.out.keep hb9)
  have X0_9 := Lib.hid (X0_8.out.keep hb9)
  have X2_9 := Lib.hid (X2_8.out.keep hb9)
  have G2_9 := Lib.hid hu
  have HMID := Lib.hid hmid
  clear hmid
  have G_9 := Lib.hid (hv)
  clear qa00_8 qa01_8 za0_8 qx00_8 qx01_8 zx0_8 R0_8 R2_8 V_8 V2_8 X0_8 X2_8
  clear hv hu
  go_wp2_with fail
  refine (eqIntS4 ls _ _ _ G_9.out.ints V_9.out.ints (by omega)).mono ?_
  rintro e w10 ⟨rfl, hb10⟩
  have H10 := bel_trans H9 hb10
  have SZ10 := Lib.hid hb10.size
  have qa00_10 := (hb10.cell (p := ⟨w0.heap.size, 0, none⟩) za0_9).trans qa00_9
  have qa01_10 := (hb10.cell (p := ⟨w0.heap.size, 1, none⟩) za0_9).trans qa01_9
  have za0_10 := Nat.lt_of_lt_of_le za0_9 hb10.size
  have qx00_10 := (hb10.cell (p := ⟨w6.heap.size, 0, none⟩) zx0_9).trans qx00_9
  have qx01_10 := (hb10.cell (p := ⟨w6.heap.size, 1, none⟩) zx0_9).trans qx01_9
  have zx0_10 := Nat.lt_of_lt_of_le zx0_9 hb10.size
  have R0_10 := Lib.hid (R0_9.out.keep hb10)
  have R2_10 := Lib.hid (R2_9.out.keep hb10)
  have V_10 := Lib.hid (V_9.out.keep hb10)
  have V2_10 := Lib.hid (V2_9.out.keep hb10)
  have X0_10 := Lib.hid (X0_9.out.keep hb10)
  have X2_10 := Lib.hid (X2_9.out.keep hb10)
  have G_10 := Lib.hid (G_9.out.keep hb10)
  have G2_10 := Lib.hid (G2_9.out.keep hb10)
  clear qa00_9 qa01_9 za0_9 qx00_9 qx01_9 zx0_9 R0_9 R2_9 V_9 V2_9 X0_9 X2_9 G2_9 G_9
  go_wp2_with fail
  refine (eqIntS4 lu _ _ _ G2_10.out.ints V2_10.out.ints (by omega)).mono ?_
  rintro e w11 ⟨rfl, hb11⟩
  have H11 := bel_trans H10 hb11
  have SZ11 := Lib.hid hb11.size
  have qa00_11 := (hb11.cell (p := ⟨w0.heap.size, 0, none⟩) za0_10).trans qa00_10
  have qa01_11 := (hb11.cell (p := ⟨w0.heap.size, 1, none⟩) za0_10).trans qa01_10
  have za0_11 := Nat.lt_of_lt_of_le za0_10 hb11.size
  have qx00_11 := (hb11.cell (p := ⟨w6.heap.size, 0, none⟩) zx0_10).trans qx00_10
  have qx01_11 := (hb11.cell (p := ⟨w6.heap.size, 1, none⟩) zx0_10).trans qx01_10
  have zx0_11 := Nat.lt_of_lt_of_le zx0_10 hb11.size
  have R0_11 := Lib.hid (R0_10.out.keep hb11)
  have R2_11 := Lib.hid (R2_10.out.keep hb11)
  have V_11 := Lib.hid (V_10.out.keep hb11)
  have V2_11 := Lib.hid (V2_10.out.keep hb11)
  have X0_11 := Lib.hid (X0_10.out.keep hb11)
  have X2_11 := Lib.hid (X2_10.out.keep hb11)
  have G_11 := Lib.hid (G_10.out.keep hb11)
  have G2_11 := Lib.hid (G2_10.out.keep hb11)
  clear qa00_10 qa01_10 za0_10 qx00_10 qx01_10 zx0_10 R0_10 R2_10 V_10 V2_10 X0_10 X2_10 G_10 G2_10
  go_wp2_with fail
  have hold : ∀ w' : World, Below w11.heap.size w11 w' → (w'.cell? ⟨w6.heap.size, 0, none⟩ = some (.int .i64 n0) ∧ w'.cell? ⟨w6.heap.size, 1, none⟩ = some (.slice (some ⟨gX0, 0, none⟩) e0.length capX0) ∧ w'.cell? ⟨w0.heap.size, 0, none⟩ = some (.int .i64 n0) ∧ w'.cell? ⟨w0.heap.size, 1, none⟩ = some (.slice ad0 e0.length cp0)) := fun w' h => ⟨(h.cell (p := ⟨w6.heap.size, 0, none⟩) zx0_11).trans qx00_11, (h.cell (p := ⟨w6.heap.size, 1, none⟩) zx0_11).trans qx01_11, (h.cell (p := ⟨w0.heap.size, 0, none⟩) za0_11).trans qa00_11, (h.cell (p := ⟨w0.heap.size, 1, none⟩) za0_11).trans qa01_11⟩
  have HOLD := Lib.hid hold
  clear hold
  go_region_held3 (fun w' : World => w'.cell? ⟨w6.heap.size, 0, none⟩ = some (.int .i64 n0) ∧ w'.cell? ⟨w6.heap.size, 1, none⟩ = some (.slice (some ⟨gX0, 0, none⟩) e0.length capX0) ∧ w'.cell? ⟨w0.heap.size, 0, none⟩ = some (.int .i64 n0) ∧ w'.cell? ⟨w0.heap.size, 1, none⟩ = some (.slice ad0 e0.length cp0)) (first | exact HOLD.out _ ((Below.refl _ _).drew) | exact HOLD.out _ (bel_trans ((Below.refl _ _).drew) hb12) | exact HOLD.out _ (bel_trans (bel_trans ((Below.refl _ _).drew) hb12) hb13)) (first | (go_at_call 12; (with_reducible refine (toGraph n0 e0 _ _ (R0_11.out.keep ((Below.refl _ _).drew)).edges hb0g).mono ?_); rintro e w12 ⟨sB0, rfl, hnew0, hb12⟩) | (go_at_call 15; (with_reducible refine (eqGraph n0 e0 _ _ _ (X0_11.out.keep (bel_trans ((Below.refl _ _).drew) hb12)).edges hnew0.row hb0g).mono ?_); rintro e w13 ⟨rfl, hb13⟩))
  have hq : Below w11.heap.size w11 w13 := (bel_trans (bel_trans ((Below.refl _ _).drew) hb12) hb13)
  clear hb12 hb13 HOLD hnew0
  have hb13 := hq
  clear hq
  have H13 := bel_trans H11 hb13
  have SZ13 := Lib.hid hb13.size
  have qa00_13 := (hb13.cell (p := ⟨w0.heap.size, 0, none⟩) za0_11).trans qa00_11
  have qa01_13 := (hb13.cell (p := ⟨w0.heap.size, 1, none⟩) za0_11).trans qa01_11
  have za0_13 := Nat.lt_of_lt_of_le za0_11 hb13.size
  have qx00_13 := (hb13.cell (p := ⟨w6.heap.size, 0, none⟩) zx0_11).trans qx00_11
  have qx01_13 := (hb13.cell (p := ⟨w6.heap.size, 1, none⟩) zx0_11).trans qx01_11
  have zx0_13 := Nat.lt_of_lt_of_le zx0_11 hb13.size
  have R0_13 := Lib.hid (R0_11.out.keep hb13)
  have R2_13 := Lib.hid (R2_11.out.keep hb13)
  have V_13 := Lib.hid (V_11.out.keep hb13)
  have V2_13 := Lib.hid (V2_11.out.keep hb13)
  have X0_13 := Lib.hid (X0_11.out.keep hb13)
  have X2_13 := Lib.hid (X2_11.out.keep hb13)
  have G_13 := Lib.hid (G_11.out.keep hb13)
  have G2_13 := Lib.hid (G2_11.out.keep hb13)
  clear qa00_11 qa01_11 za0_11 qx00_11 qx01_11 zx0_11 R0_11 R2_11 V_11 V2_11 X0_11 X2_11 G_11 G2_11
  go_wp2_with fail
  refine (toIntSN i2 _ _ R2_13.out.rowI hb2g).mono ?_
  rintro e w14 ⟨sB2, rfl, hnew, hb14⟩
  have H14 := bel_trans H13 hb14
  have SZ14 := Lib.hid hb14.size
  have qa00_14 := (hb14.cell (p := ⟨w0.heap.size, 0, none⟩) za0_13).trans qa00_13
  have qa01_14 := (hb14.cell (p := ⟨w0.heap.size, 1, none⟩) za0_13).trans qa01_13
  have za0_14 := Nat.lt_of_lt_of_le za0_13 hb14.size
  have qx00_14 := (hb14.cell (p := ⟨w6.heap.size, 0, none⟩) zx0_13).trans qx00_13
  have qx01_14 := (hb14.cell (p := ⟨w6.heap.size, 1, none⟩) zx0_13).trans qx01_13
  have zx0_14 := Nat.lt_of_lt_of_le zx0_13 hb14.size
  have R0_14 := Lib.hid (R0_13.out.keep hb14)
  have R2_14 := Lib.hid (R2_13.out.keep hb14)
  have V_14 := Lib.hid (V_13.out.keep hb14)
  have V2_14 := Lib.hid (V2_13.out.keep hb14)
  have X0_14 := Lib.hid (X0_13.out.keep hb14)
  have X2_14 := Lib.hid (X2_13.out.keep hb14)
  have G_14 := Lib.hid (G_13.out.keep hb14)
  have G2_14 := Lib.hid (G2_13.out.keep hb14)
  have B2_14 := Lib.hid (hnew.inR)
  clear qa00_13 qa01_13 za0_13 qx00_13 qx01_13 zx0_13 R0_13 R2_13 V_13 V2_13 X0_13 X2_13 G_13 G2_13
  clear hnew
  go_wp2_with fail
  refine (eqIntS4 i2 _ _ _ X2_14.out.rowI B2_14.out.rowI hb2i).mono ?_
  rintro e w15 ⟨rfl, hb15⟩
  have H15 := bel_trans H14 hb15
  have SZ15 := Lib.hid hb15.size
  have qa00_15 := (hb15.cell (p := ⟨w0.heap.size, 0, none⟩) za0_14).trans qa00_14
  have qa01_15 := (hb15.cell (p := ⟨w0.heap.size, 1, none⟩) za0_14).trans qa01_14
  have za0_15 := Nat.lt_of_lt_of_le za0_14 hb15.size
  have qx00_15 := (hb15.cell (p := ⟨w6.heap.size, 0, none⟩) zx0_14).trans qx00_14
  have qx01_15 := (hb15.cell (p := ⟨w6.heap.size, 1, none⟩) zx0_14).trans qx01_14
  have zx0_15 := Nat.lt_of_lt_of_le zx0_14 hb15.size
  have R0_15 := Lib.hid (R0_14.out.keep hb15)
  have R2_15 := Lib.hid (R2_14.out.keep hb15)
  have V_15 := Lib.hid (V_14.out.keep hb15)
  have V2_15 := Lib.hid (V2_14.out.keep hb15)
  have X0_15 := Lib.hid (X0_14.out.keep hb15)
  have X2_15 := Lib.hid (X2_14.out.keep hb15)
  have G_15 := Lib.hid (G_14.out.keep hb15)
  have G2_15 := Lib.hid (G2_14.out.keep hb15)
  have B2_15 := Lib.hid (B2_14.out.keep hb15)
  clear qa00_14 qa01_14 za0_14 qx00_14 qx01_14 zx0_14 R0_14 R2_14 V_14 V2_14 X0_14 X2_14 G_14 G2_14 B2_14
  clear B2_15
  go_wp2_with fail
  refine (markGraph 1 n0 _ _ _ _ _ _ X0_15.out (by omega) (by omega) (by have := SZ15.out; have := SZ14.out; have := SZ13.out; have := SZ11.out; have := SZ10.out; have := SZ9.out; have := SZ8.out; have := SZ7.out; omega)).mono ?_
  rintro e w16 ⟨rfl, hrow, hb16⟩
  have H16 := bel_chg H15 hb16 (by have := HMID.out; have := SZ5.out; have := SZ4.out; have := SZ3.out; have := SZ2.out; have := SZ1.out; omega)
  have SZ16 := Lib.hid hb16.size
  have qa00_16 := (hb16.cell (p := ⟨w0.heap.size, 0, none⟩) za0_15 (.inl (by have := HMID.out; have := ZBa0.out; have := SZ5.out; have := SZ4.out; have := SZ3.out; have := SZ2.out; simp only; omega))).trans qa00_15
  have qa01_16 := (hb16.cell (p := ⟨w0.heap.size, 1, none⟩) za0_15 (.inl (by have := HMID.out; have := ZBa0.out; have := SZ5.out; have := SZ4.out; have := SZ3.out; have := SZ2.out; simp only; omega))).trans qa01_15
  have za0_16 := Nat.lt_of_lt_of_le za0_15 hb16.size
  have qx00_16 := (hb16.cell (p := ⟨w6.heap.size, 0, none⟩) zx0_15 (.inr (by have := HMID.out; simp only; omega))).trans qx00_15
  have qx01_16 := (hb16.cell (p := ⟨w6.heap.size, 1, none⟩) zx0_15 (.inr (by have := HMID.out; simp only; omega))).trans qx01_15
  have zx0_16 := Nat.lt_of_lt_of_le zx0_15 hb16.size
  have R0_16 := Lib.hid (R0_15.out.chg hb16 (.inr (by have := HMID.out; have := SZ5.out; have := SZ4.out; have := SZ3.out; have := SZ2.out; have := SZ1.out; omega)))
  have R2_16 := Lib.hid (R2_15.out.chg hb16 (.inr (by have := HMID.out; have := SZ5.out; have := SZ4.out; have := SZ3.out; have := SZ2.out; have := SZ1.out; omega)))
  have V_16 := Lib.hid (V_15.out.chg hb16 (.inr (by have := HMID.out; omega)))
  have V2_16 := Lib.hid (V2_15.out.chg hb16 (.inr (by have := HMID.out; omega)))
  have X2_16 := Lib.hid (X2_15.out.chg hb16 (.inl (by have := HMID.out; have := SZ7.out; omega)))
  have G_16 := Lib.hid (G_15.out.chg hb16 (.inl (by have := HMID.out; have := SZ8.out; have := SZ7.out; omega)))
  have G2_16 := Lib.hid (G2_15.out.chg hb16 (.inl (by have := HMID.out; have := SZ8.out; have := SZ7.out; omega)))
  have X0_16 := Lib.hid (hrow)
  clear qa00_15 qa01_15 za0_15 qx00_15 qx01_15 zx0_15 R0_15 R2_15 V_15 V2_15 X0_15 X2_15 G_15 G2_15
  clear hrow
  go_wp2_with fail
  refine (markIntS (1 + e0.length * 3) _ _ _ _ _ _ X2_16.out (by omega) (by omega)).mono ?_
  rintro e w17 ⟨rfl, hrow, hb17⟩
  have H17 := bel_chg H16 hb17 (by have := HMID.out; have := SZ7.out; have := SZ6.out; have := SZ5.out; have := SZ4.out; have := SZ3.out; have := SZ2.out; have := SZ1.out; omega)
  have SZ17 := Lib.hid hb17.size
  have qa00_17 := (hb17.cell (p := ⟨w0.heap.size, 0, none⟩) za0_16 (.inl (by have := HMID.out; have := ZBa0.out; have := SZ7.out; have := SZ6.out; have := SZ5.out; have := SZ4.out; have := SZ3.out; have := SZ2.out; simp only; omega))).trans qa00_16
  have qa01_17 := (hb17.cell (p := ⟨w0.heap.size, 1, none⟩) za0_16 (.inl (by have := HMID.out; have := ZBa0.out; have := SZ7.out; have := SZ6.out; have := SZ5.out; have := SZ4.out; have := SZ3.out; have := SZ2.out; simp only; omega))).trans qa01_16
  have za0_17 := Nat.lt_of_lt_of_le za0_16 hb17.size
  have qx00_17 := (hb17.cell (p := ⟨w6.heap.size, 0, none⟩) zx0_16 (.inl (by have := HMID.out; have := ZBx0.out; simp only; omega))).trans qx00_16
  have qx01_17 := (hb17.cell (p := ⟨w6.heap.size, 1, none⟩) zx0_16 (.inl (by have := HMID.out; have := ZBx0.out; simp only; omega))).trans qx01_16
  have zx0_17 := Nat.lt_of_lt_of_le zx0_16 hb17.size
  have R0_17 := Lib.hid (R0_16.out.chg hb17 (.inr (by have := HMID.out; have := SZ7.out; have := SZ6.out; have := SZ5.out; have := SZ4.out; have := SZ3.out; have := SZ2.out; have := SZ1.out; omega)))
  have R2_17 := Lib.hid (R2_16.out.chg hb17 (.inr (by have := HMID.out; have := SZ7.out; have := SZ6.out; have := SZ5.out; have := SZ4.out; have := SZ3.out; have := SZ2.out; have := SZ1.out; omega)))
  have V_17 := Lib.hid (V_16.out.chg hb17 (.inr (by have := HMID.out; have := SZ7.out; have := SZ6.out; omega)))
  have V2_17 := Lib.hid (V2_16.out.chg hb17 (.inr (by have := HMID.out; have := SZ7.out; have := SZ6.out; omega)))
  have X0_17 := Lib.hid (X0_16.out.chg hb17 (.inr (by have := HMID.out; have := SZ7.out; omega)))
  have G_17 := Lib.hid (G_16.out.chg hb17 (.inl (by have := HMID.out; omega)))
  have G2_17 := Lib.hid (G2_16.out.chg hb17 (.inl (by have := HMID.out; omega)))
  have X2_17 := Lib.hid (hrow)
  clear qa00_16 qa01_16 za0_16 qx00_16 qx01_16 zx0_16 R0_16 R2_16 V_16 V2_16 X2_16 G_16 G2_16 X0_16
  clear hrow
  have hk1 : decide ((((1 + e0.length * 3) + i2.length : Nat) : Int) < 0) = false := decide_eq_false (by omega)
  go_wp2_with fail
  refine (eqIntS4 ls _ _ _ G_17.out.ints V_17.out.ints (by omega)).mono ?_
  rintro e w18 ⟨rfl, hb18⟩
  have H18 := bel_trans H17 hb18
  have SZ18 := Lib.hid hb18.size
  have qa00_18 := (hb18.cell (p := ⟨w0.heap.size, 0, none⟩) za0_17).trans qa00_17
  have qa01_18 := (hb18.cell (p := ⟨w0.heap.size, 1, none⟩) za0_17).trans qa01_17
  have za0_18 := Nat.lt_of_lt_of_le za0_17 hb18.size
  have qx00_18 := (hb18.cell (p := ⟨w6.heap.size, 0, none⟩) zx0_17).trans qx00_17
  have qx01_18 := (hb18.cell (p := ⟨w6.heap.size, 1, none⟩) zx0_17).trans qx01_17
  have zx0_18 := Nat.lt_of_lt_of_le zx0_17 hb18.size
  have R0_18 := Lib.hid (R0_17.out.keep hb18)
  have R2_18 := Lib.hid (R2_17.out.keep hb18)
  have V_18 := Lib.hid (V_17.out.keep hb18)
  have V2_18 := Lib.hid (V2_17.out.keep hb18)
  have X0_18 := Lib.hid (X0_17.out.keep hb18)
  have X2_18 := Lib.hid (X2_17.out.keep hb18)
  have G_18 := Lib.hid (G_17.out.keep hb18)
  have G2_18 := Lib.hid (G2_17.out.keep hb18)
  clear qa00_17 qa01_17 za0_17 qx00_17 qx01_17 zx0_17 R0_17 R2_17 V_17 V2_17 X0_17 G_17 G2_17 X2_17
  go_wp2_with fail
  refine (eqIntS4 lu _ _ _ G2_18.out.ints V2_18.out.ints (by omega)).mono ?_
  rintro e w19 ⟨rfl, hb19⟩
  have H19 := bel_trans H18 hb19
  have SZ19 := Lib.hid hb19.size
  have qa00_19 := (hb19.cell (p := ⟨w0.heap.size, 0, none⟩) za0_18).trans qa00_18
  have qa01_19 := (hb19.cell (p := ⟨w0.heap.size, 1, none⟩) za0_18).trans qa01_18
  have za0_19 := Nat.lt_of_lt_of_le za0_18 hb19.size
  have qx00_19 := (hb19.cell (p := ⟨w6.heap.size, 0, none⟩) zx0_18).trans qx00_18
  have qx01_19 := (hb19.cell (p := ⟨w6.heap.size, 1, none⟩) zx0_18).trans qx01_18
  have zx0_19 := Nat.lt_of_lt_of_le zx0_18 hb19.size
  have R0_19 := Lib.hid (R0_18.out.keep hb19)
  have R2_19 := Lib.hid (R2_18.out.keep hb19)
  have V_19 := Lib.hid (V_18.out.keep hb19)
  have V2_19 := Lib.hid (V2_18.out.keep hb19)
  have X0_19 := Lib.hid (X0_18.out.keep hb19)
  have X2_19 := Lib.hid (X2_18.out.keep hb19)
  have G_19 := Lib.hid (G_18.out.keep hb19)
  have G2_19 := Lib.hid (G2_18.out.keep hb19)
  clear qa00_18 qa01_18 za0_18 qx00_18 qx01_18 zx0_18 R0_18 R2_18 V_18 V2_18 X0_18 X2_18 G_18 G2_18
  go_wp2_with fail
  refine (markIntS 1 _ _ _ _ _ _ G_19.out (by omega) (by omega)).mono ?_
  rintro e w20 ⟨rfl, hrow, hb20⟩
  have H20 := bel_chg H19 hb20 (by have := HMID.out; have := SZ8.out; have := SZ7.out; have := SZ6.out; have := SZ5.out; have := SZ4.out; have := SZ3.out; have := SZ2.out; have := SZ1.out; omega)
  have SZ20 := Lib.hid hb20.size
  have qa00_20 := (hb20.cell (p := ⟨w0.heap.size, 0, none⟩) za0_19 (.inl (by have := HMID.out; have := ZBa0.out; have := SZ8.out; have := SZ7.out; have := SZ6.out; have := SZ5.out; have := SZ4.out; have := SZ3.out; have := SZ2.out; simp only; omega))).trans qa00_19
  have qa01_20 := (hb20.cell (p := ⟨w0.heap.size, 1, none⟩) za0_19 (.inl (by have := HMID.out; have := ZBa0.out; have := SZ8.out; have := SZ7.out; have := SZ6.out; have := SZ5.out; have := SZ4.out; have := SZ3.out; have := SZ2.out; simp only; omega))).trans qa01_19
  have za0_20 := Nat.lt_of_lt_of_le za0_19 hb20.size
  have qx00_20 := (hb20.cell (p := ⟨w6.heap.size, 0, none⟩) zx0_19 (.inl (by have := HMID.out; have := ZBx0.out; have := SZ8.out; simp only; omega))).trans qx00_19
  have qx01_20 := (hb20.cell (p := ⟨w6.heap.size, 1, none⟩) zx0_19 (.inl (by have := HMID.out; have := ZBx0.out; have := SZ8.out; simp only; omega))).trans qx01_19
  have zx0_20 := Nat.lt_of_lt_of_le zx0_19 hb20.size
  have R0_20 := Lib.hid (R0_19.out.chg hb20 (.inr (by have := HMID.out; have := SZ8.out; have := SZ7.out; have := SZ6.out; have := SZ5.out; have := SZ4.out; have := SZ3.out; have := SZ2.out; have := SZ1.out; omega)))
  have R2_20 := Lib.hid (R2_19.out.chg hb20 (.inr (by have := HMID.out; have := SZ8.out; have := SZ7.out; have := SZ6.out; have := SZ5.out; have := SZ4.out; have := SZ3.out; have := SZ2.out; have := SZ1.out; omega)))
  have V_20 := Lib.hid (V_19.out.chg hb20 (.inr (by have := HMID.out; have := SZ8.out; have := SZ7.out; have := SZ6.out; omega)))
  have V2_20 := Lib.hid (V2_19.out.chg hb20 (.inr (by have := HMID.out; have := SZ8.out; have := SZ7.out; have := SZ6.out; omega)))
  have X0_20 := Lib.hid (X0_19.out.chg hb20 (.inr (by have := HMID.out; have := SZ8.out; have := SZ7.out; omega)))
  have X2_20 := Lib.hid (X2_19.out.chg hb20 (.inr (by have := HMID.out; omega)))
  have G2_20 := Lib.hid (G2_19.out.chg hb20 (.inl (Nat.le_refl _)))
  have G_20 := Lib.hid (hrow)
  clear qa00_19 qa01_19 za0_19 qx00_19 qx01_19 zx0_19 R0_19 R2_19 V_19 V2_19 X0_19 X2_19 G_19 G2_19
  clear hrow
  go_wp2_with fail
  refine (markIntS (1 + ls.length) _ _ _ _ _ _ G2_20.out (by omega) (by omega)).mono ?_
  rintro e w21 ⟨rfl, hrow, hb21⟩
  have H21 := bel_chg H20 hb21 (by have := HMID.out; have := SZ8.out; have := SZ7.out; have := SZ6.out; have := SZ5.out; have := SZ4.out; have := SZ3.out; have := SZ2.out; have := SZ1.out; omega)
  have SZ21 := Lib.hid hb21.size
  have qa00_21 := (hb21.cell (p := ⟨w0.heap.size, 0, none⟩) za0_20 (.inl (by have := HMID.out; have := ZBa0.out; have := SZ8.out; have := SZ7.out; have := SZ6.out; have := SZ5.out; have := SZ4.out; have := SZ3.out; have := SZ2.out; simp only; omega))).trans qa00_20
  have qa01_21 := (hb21.cell (p := ⟨w0.heap.size, 1, none⟩) za0_20 (.inl (by have := HMID.out; have := ZBa0.out; have := SZ8.out; have := SZ7.out; have := SZ6.out; have := SZ5.out; have := SZ4.out; have := SZ3.out; have := SZ2.out; simp only; omega))).trans qa01_20
  have za0_21 := Nat.lt_of_lt_of_le za0_20 hb21.size
  have qx00_21 := (hb21.cell (p := ⟨w6.heap.size, 0, none⟩) zx0_20 (.inl (by have := HMID.out; have := ZBx0.out; have := SZ8.out; simp only; omega))).trans qx00_20
  have qx01_21 := (hb21.cell (p := ⟨w6.heap.size, 1, none⟩) zx0_20 (.inl (by have := HMID.out; have := ZBx0.out; have := SZ8.out; simp only; omega))).trans qx01_20
  have zx0_21 := Nat.lt_of_lt_of_le zx0_20 hb21.size
  have R0_21 := Lib.hid (R0_20.out.chg hb21 (.inr (by have := HMID.out; have := SZ8.out; have := SZ7.out; have := SZ6.out; have := SZ5.out; have := SZ4.out; have := SZ3.out; have := SZ2.out; have := SZ1.out; omega)))
  have R2_21 := Lib.hid (R2_20.out.chg hb21 (.inr (by have := HMID.out; have := SZ8.out; have := SZ7.out; have := SZ6.out; have := SZ5.out; have := SZ4.out; have := SZ3.out; have := SZ2.out; have := SZ1.out; omega)))
  have V_21 := Lib.hid (V_20.out.chg hb21 (.inr (by have := HMID.out; have := SZ8.out; have := SZ7.out; have := SZ6.out; omega)))
  have V2_21 := Lib.hid (V2_20.out.chg hb21 (.inr (by have := HMID.out; have := SZ8.out; have := SZ7.out; have := SZ6.out; omega)))
  have X0_21 := Lib.hid (X0_20.out.chg hb21 (.inr (by have := HMID.out; have := SZ8.out; have := SZ7.out; omega)))
  have X2_21 := Lib.hid (X2_20.out.chg hb21 (.inr (by have := HMID.out; omega)))
  have G_21 := Lib.hid (G_20.out.chg hb21 (.inr (Nat.le_refl _)))
  have G2_21 := Lib.hid (hrow)
  clear qa00_20 qa01_20 za0_20 qx00_20 qx01_20 zx0_20 R0_20 R2_20 V_20 V2_20 X0_20 X2_20 G2_20 G_20
  clear hrow
  have hk2 : decide (((1 + ls.length : Nat) : Int) < 0) = false := decide_eq_false (by omega)
  have hk3 : decide (((1 + ls.length + lu.length : Nat) : Int) < 0) = false := decide_eq_false (by omega)
  go_wp2_with fail
  refine (heldIntS 1 true _ _ _ _ _ G_21.out (by omega) (by omega)).mono ?_
  rintro e w22 ⟨rfl, hb22⟩
  have H22 := bel_trans H21 hb22
  have SZ22 := Lib.hid hb22.size
  have qa00_22 := (hb22.cell (p := ⟨w0.heap.size, 0, none⟩) za0_21).trans qa00_21
  have qa01_22 := (hb22.cell (p := ⟨w0.heap.size, 1, none⟩) za0_21).trans qa01_21
  have za0_22 := Nat.lt_of_lt_of_le za0_21 hb22.size
  have qx00_22 := (hb22.cell (p := ⟨w6.heap.size, 0, none⟩) zx0_21).trans qx00_21
  have qx01_22 := (hb22.cell (p := ⟨w6.heap.size, 1, none⟩) zx0_21).trans qx01_21
  have zx0_22 := Nat.lt_of_lt_of_le zx0_21 hb22.size
  have R0_22 := Lib.hid (R0_21.out.keep hb22)
  have R2_22 := Lib.hid (R2_21.out.keep hb22)
  have V_22 := Lib.hid (V_21.out.keep hb22)
  have V2_22 := Lib.hid (V2_21.out.keep hb22)
  have X0_22 := Lib.hid (X0_21.out.keep hb22)
  have X2_22 := Lib.hid (X2_21.out.keep hb22)
  have G2_22 := Lib.hid (G2_21.out.keep hb22)
  have G_22 := Lib.hid (G_21.out.keep hb22)
  clear qa00_21 qa01_21 za0_21 qx00_21 qx01_21 zx0_21 R0_21 R2_21 V_21 V2_21 X0_21 X2_21 G_21 G2_21
  go_wp2_with fail
  refine (heldIntS (1 + ls.length) true _ _ _ _ _ G2_22.out (by omega) (by omega)).mono ?_
  rintro e w23 ⟨rfl, hb23⟩
  have H23 := bel_trans H22 hb23
  have SZ23 := Lib.hid hb23.size
  have qa00_23 := (hb23.cell (p := ⟨w0.heap.size, 0, none⟩) za0_22).trans qa00_22
  have qa01_23 := (hb23.cell (p := ⟨w0.heap.size, 1, none⟩) za0_22).trans qa01_22
  have za0_23 := Nat.lt_of_lt_of_le za0_22 hb23.size
  have qx00_23 := (hb23.cell (p := ⟨w6.heap.size, 0, none⟩) zx0_22).trans qx00_22
  have qx01_23 := (hb23.cell (p := ⟨w6.heap.size, 1, none⟩) zx0_22).trans qx01_22
  have zx0_23 := Nat.lt_of_lt_of_le zx0_22 hb23.size
  have R0_23 := Lib.hid (R0_22.out.keep hb23)
  have R2_23 := Lib.hid (R2_22.out.keep hb23)
  have V_23 := Lib.hid (V_22.out.keep hb23)
  have V2_23 := Lib.hid (V2_22.out.keep hb23)
  have X0_23 := Lib.hid (X0_22.out.keep hb23)
  have X2_23 := Lib.hid (X2_22.out.keep hb23)
  have G2_23 := Lib.hid (G2_22.out.keep hb23)
  have G_23 := Lib.hid (G_22.out.keep hb23)
  clear qa00_22 qa01_22 za0_22 qx00_22 qx01_22 zx0_22 R0_22 R2_22 V_22 V2_22 X0_22 X2_22 G2_22 G_22
  go_wp2_with fail
  refine (toGraph n0 e0 _ _ R0_23.out.edges hb0g).mono ?_
  rintro e w24 ⟨sAK0, rfl, hnew, hb24⟩
  have H24 := bel_trans H23 hb24
  have SZ24 := Lib.hid hb24.size
  have qa00_24 := (hb24.cell (p := ⟨w0.heap.size, 0, none⟩) za0_23).trans qa00_23
  have qa01_24 := (hb24.cell (p := ⟨w0.heap.size, 1, none⟩) za0_23).trans qa01_23
  have za0_24 := Nat.lt_of_lt_of_le za0_23 hb24.size
  have qx00_24 := (hb24.cell (p := ⟨w6.heap.size, 0, none⟩) zx0_23).trans qx00_23
  have qx01_24 := (hb24.cell (p := ⟨w6.heap.size, 1, none⟩) zx0_23).trans qx01_23
  have zx0_24 := Nat.lt_of_lt_of_le zx0_23 hb24.size
  have R0_24 := Lib.hid (R0_23.out.keep hb24)
  have R2_24 := Lib.hid (R2_23.out.keep hb24)
  have V_24 := Lib.hid (V_23.out.keep hb24)
  have V2_24 := Lib.hid (V2_23.out.keep hb24)
  have X0_24 := Lib.hid (X0_23.out.keep hb24)
  have X2_24 := Lib.hid (X2_23.out.keep hb24)
  have G2_24 := Lib.hid (G2_23.out.keep hb24)
  have G_24 := Lib.hid (G_23.out.keep hb24)
  have OKAK0 := Lib.hid hnew.ok
  have AK0_24 := Lib.hid (hnew.inR)
  clear qa00_23 qa01_23 za0_23 qx00_23 qx01_23 zx0_23 R0_23 R2_23 V_23 V2_23 X0_23 X2_23 G2_23 G_23
  clear hnew
  go_wp2_with fail
  refine (toIntSN i2 _ _ R2_24.out.rowI hb2g).mono ?_
  rintro e w25 ⟨sAK2, rfl, hnew, hb25⟩
  have H25 := bel_trans H24 hb25
  have SZ25 := Lib.hid hb25.size
  have qa00_25 := (hb25.cell (p := ⟨w0.heap.size, 0, none⟩) za0_24).trans qa00_24
  have qa01_25 := (hb25.cell (p := ⟨w0.heap.size, 1, none⟩) za0_24).trans qa01_24
  have za0_25 := Nat.lt_of_lt_of_le za0_24 hb25.size
  have qx00_25 := (hb25.cell (p := ⟨w6.heap.size, 0, none⟩) zx0_24).trans qx00_24
  have qx01_25 := (hb25.cell (p := ⟨w6.heap.size, 1, none⟩) zx0_24).trans qx01_24
  have zx0_25 := Nat.lt_of_lt_of_le zx0_24 hb25.size
  have R0_25 := Lib.hid (R0_24.out.keep hb25)
  have R2_25 := Lib.hid (R2_24.out.keep hb25)
  have V_25 := Lib.hid (V_24.out.keep hb25)
  have V2_25 := Lib.hid (V2_24.out.keep hb25)
  have X0_25 := Lib.hid (X0_24.out.keep hb25)
  have X2_25 := Lib.hid (X2_24.out.keep hb25)
  have G2_25 := Lib.hid (G2_24.out.keep hb25)
  have G_25 := Lib.hid (G_24.out.keep hb25)
  have AK0_25 := Lib.hid (AK0_24.out.keep hb25)
  have OKAK2 := Lib.hid hnew.ok
  have AK2_25 := Lib.hid (hnew.inR)
  clear qa00_24 qa01_24 za0_24 qx00_24 qx01_24 zx0_24 R0_24 R2_24 V_24 V2_24 X0_24 X2_24 G2_24 G_24 AK0_24
  clear hnew
  go_wp2_with fail
  refine (HIM.out _ _ _ AK0_25.out.edges AK2_25.out.rowI OKAK2.out).mono ?_
  rintro e w26 ⟨vK, uK, midK, rfl, hv, hu, -, hb26⟩
  have H26 := bel_trans H25 hb26
  have SZ26 := Lib.hid hb26.size
  have qa00_26 := (hb26.cell (p := ⟨w0.heap.size, 0, none⟩) za0_25).trans qa00_25
  have qa01_26 := (hb26.cell (p := ⟨w0.heap.size, 1, none⟩) za0_25).trans qa01_25
  have za0_26 := Nat.lt_of_lt_of_le za0_25 hb26.size
  have qx00_26 := (hb26.cell (p := ⟨w6.heap.size, 0, none⟩) zx0_25).trans qx00_25
  have qx01_26 := (hb26.cell (p := ⟨w6.heap.size, 1, none⟩) zx0_25).trans qx01_25
  have zx0_26 := Nat.lt_of_lt_of_le zx0_25 hb26.size
  have R0_26 := Lib.hid (R0_25.out.keep hb26)
  have R2_26 := Lib.hid (R2_25.out.keep hb26)
  have V_26 := Lib.hid (V_25.out.keep hb26)
  have V2_26 := Lib.hid (V2_25.out.keep hb26)
  have X0_26 := Lib.hid (X0_25.out.keep hb26)
  have X2_26 := Lib.hid (X2_25.out.keep hb26)
  have G2_26 := Lib.hid (G2_25.out.keep hb26)
  have G_26 := Lib.hid (G_25.out.keep hb26)
  have AK0_26 := Lib.hid (AK0_25.out.keep hb26)
  have AK2_26 := Lib.hid (AK2_25.out.keep hb26)
  have K2_26 := Lib.hid hu
  have K_26 := Lib.hid (hv)
  clear qa00_25 qa01_25 za0_25 qx00_25 qx01_25 zx0_25 R0_25 R2_25 V_25 V2_25 X0_25 X2_25 G2_25 G_25 AK0_25 AK2_25
  clear hv hu
  clear AK0_26
  clear AK2_26
  go_wp2_with fail
  refine (eqIntS4 ls _ _ _ K_26.out.ints V_26.out.ints (by omega)).mono ?_
  rintro e w27 ⟨rfl, hb27⟩
  have H27 := bel_trans H26 hb27
  have SZ27 := Lib.hid hb27.size
  have qa00_27 := (hb27.cell (p := ⟨w0.heap.size, 0, none⟩) za0_26).trans qa00_26
  have qa01_27 := (hb27.cell (p := ⟨w0.heap.size, 1, none⟩) za0_26).trans qa01_26
  have za0_27 := Nat.lt_of_lt_of_le za0_26 hb27.size
  have qx00_27 := (hb27.cell (p := ⟨w6.heap.size, 0, none⟩) zx0_26).trans qx00_26
  have qx01_27 := (hb27.cell (p := ⟨w6.heap.size, 1, none⟩) zx0_26).trans qx01_26
  have zx0_27 := Nat.lt_of_lt_of_le zx0_26 hb27.size
  have R0_27 := Lib.hid (R0_26.out.keep hb27)
  have R2_27 := Lib.hid (R2_26.out.keep hb27)
  have V_27 := Lib.hid (V_26.out.keep hb27)
  have V2_27 := Lib.hid (V2_26.out.keep hb27)
  have X0_27 := Lib.hid (X0_26.out.keep hb27)
  have X2_27 := Lib.hid (X2_26.out.keep hb27)
  have G2_27 := Lib.hid (G2_26.out.keep hb27)
  have G_27 := Lib.hid (G_26.out.keep hb27)
  have K_27 := Lib.hid (K_26.out.keep hb27)
  have K2_27 := Lib.hid (K2_26.out.keep hb27)
  clear qa00_26 qa01_26 za0_26 qx00_26 qx01_26 zx0_26 R0_26 R2_26 V_26 V2_26 X0_26 X2_26 G2_26 G_26 K2_26 K_26
  go_wp2_with fail
  refine (eqIntS4 lu _ _ _ K2_27.out.ints V2_27.out.ints (by omega)).mono ?_
  rintro e w28 ⟨rfl, hb28⟩
  have H28 := bel_trans H27 hb28
  have SZ28 := Lib.hid hb28.size
  have qa00_28 := (hb28.cell (p := ⟨w0.heap.size, 0, none⟩) za0_27).trans qa00_27
  have qa01_28 := (hb28.cell (p := ⟨w0.heap.size, 1, none⟩) za0_27).trans qa01_27
  have za0_28 := Nat.lt_of_lt_of_le za0_27 hb28.size
  have qx00_28 := (hb28.cell (p := ⟨w6.heap.size, 0, none⟩) zx0_27).trans qx00_27
  have qx01_28 := (hb28.cell (p := ⟨w6.heap.size, 1, none⟩) zx0_27).trans qx01_27
  have zx0_28 := Nat.lt_of_lt_of_le zx0_27 hb28.size
  have R0_28 := Lib.hid (R0_27.out.keep hb28)
  have R2_28 := Lib.hid (R2_27.out.keep hb28)
  have V_28 := Lib.hid (V_27.out.keep hb28)
  have V2_28 := Lib.hid (V2_27.out.keep hb28)
  have X0_28 := Lib.hid (X0_27.out.keep hb28)
  have X2_28 := Lib.hid (X2_27.out.keep hb28)
  have G2_28 := Lib.hid (G2_27.out.keep hb28)
  have G_28 := Lib.hid (G_27.out.keep hb28)
  have K_28 := Lib.hid (K_27.out.keep hb28)
  have K2_28 := Lib.hid (K2_27.out.keep hb28)
  clear qa00_27 qa01_27 za0_27 qx00_27 qx01_27 zx0_27 R0_27 R2_27 V_27 V2_27 X0_27 X2_27 G2_27 G_27 K_27 K2_27
  go_wp2_with fail
  refine (heldIntS 1 true _ _ _ _ _ G_28.out (by omega) (by omega)).mono ?_
  rintro e w29 ⟨rfl, hb29⟩
  have H29 := bel_trans H28 hb29
  have SZ29 := Lib.hid hb29.size
  have qa00_29 := (hb29.cell (p := ⟨w0.heap.size, 0, none⟩) za0_28).trans qa00_28
  have qa01_29 := (hb29.cell (p := ⟨w0.heap.size, 1, none⟩) za0_28).trans qa01_28
  have za0_29 := Nat.lt_of_lt_of_le za0_28 hb29.size
  have qx00_29 := (hb29.cell (p := ⟨w6.heap.size, 0, none⟩) zx0_28).trans qx00_28
  have qx01_29 := (hb29.cell (p := ⟨w6.heap.size, 1, none⟩) zx0_28).trans qx01_28
  have zx0_29 := Nat.lt_of_lt_of_le zx0_28 hb29.size
  have R0_29 := Lib.hid (R0_28.out.keep hb29)
  have R2_29 := Lib.hid (R2_28.out.keep hb29)
  have V_29 := Lib.hid (V_28.out.keep hb29)
  have V2_29 := Lib.hid (V2_28.out.keep hb29)
  have X0_29 := Lib.hid (X0_28.out.keep hb29)
  have X2_29 := Lib.hid (X2_28.out.keep hb29)
  have G2_29 := Lib.hid (G2_28.out.keep hb29)
  have G_29 := Lib.hid (G_28.out.keep hb29)
  have K_29 := Lib.hid (K_28.out.keep hb29)
  have K2_29 := Lib.hid (K2_28.out.keep hb29)
  clear qa00_28 qa01_28 za0_28 qx00_28 qx01_28 zx0_28 R0_28 R2_28 V_28 V2_28 X0_28 X2_28 G2_28 G_28 K_28 K2_28
  go_wp2_with fail
  refine (heldIntS (1 + ls.length) true _ _ _ _ _ G2_29.out (by omega) (by omega)).mono ?_
  rintro e w30 ⟨rfl, hb30⟩
  have H30 := bel_trans H29 hb30
  have SZ30 := Lib.hid hb30.size
  have qa00_30 := (hb30.cell (p := ⟨w0.heap.size, 0, none⟩) za0_29).trans qa00_29
  have qa01_30 := (hb30.cell (p := ⟨w0.heap.size, 1, none⟩) za0_29).trans qa01_29
  have za0_30 := Nat.lt_of_lt_of_le za0_29 hb30.size
  have qx00_30 := (hb30.cell (p := ⟨w6.heap.size, 0, none⟩) zx0_29).trans qx00_29
  have qx01_30 := (hb30.cell (p := ⟨w6.heap.size, 1, none⟩) zx0_29).trans qx01_29
  have zx0_30 := Nat.lt_of_lt_of_le zx0_29 hb30.size
  have R0_30 := Lib.hid (R0_29.out.keep hb30)
  have R2_30 := Lib.hid (R2_29.out.keep hb30)
  have V_30 := Lib.hid (V_29.out.keep hb30)
  have V2_30 := Lib.hid (V2_29.out.keep hb30)
  have X0_30 := Lib.hid (X0_29.out.keep hb30)
  have X2_30 := Lib.hid (X2_29.out.keep hb30)
  have G2_30 := Lib.hid (G2_29.out.keep hb30)
  have G_30 := Lib.hid (G_29.out.keep hb30)
  have K_30 := Lib.hid (K_29.out.keep hb30)
  have K2_30 := Lib.hid (K2_29.out.keep hb30)
  clear qa00_29 qa01_29 za0_29 qx00_29 qx01_29 zx0_29 R0_29 R2_29 V_29 V2_29 X0_29 X2_29 G2_29 G_29 K_29 K2_29
  go_wp2
  go_ret
  exact ⟨rfl, H30⟩

set_option maxRecDepth 100000 in
theorem lifted (os : Os) (started : os.Started) (H : Type) (enc : TypeId × Value → H) :
    ReturnsInHanded {} Try.checked os 5 .any (Rows.fnExactNearestOfSpec.pre6 enc Try.prog Try.f5 Rows.fnExactNearestOfRow.domain false) (Rows.fnExactNearestOfSpec.post enc Try.prog Try.f5 false true false false) := by
  refine returnsInHanded_of_change (C := Try.checked) own started (by kernel_rfl) Try.func5
    (ChangeSpec.witness6 (enc := enc) (C := Try.checked) false ⟨#[], #[.agg #[.int .i64 0, .slice none 0 0], .int .i64 0, .slice none 0 0], []⟩ 8 (by kernel_rfl) (by kernel_rfl) (by kernel_rfl) (by kernel_rfl)) ?_
  intro W base args ds gs before hval0 hW hcnd _
  have hval : ∀ (j : Nat) t v, Try.f5.params[j]? = some t → args[j]? = some v → Value.okWide Try.prog W .any base t v := hval0
  have hW' := hW
  obtain ⟨p, q, hA0, hV, rfl, hfz, hnd⟩ := hW
  have hA : DataW.TrodAll enc Try.prog W 0 (fun _ => true) true Try.f5.params.toList args.toList ds p := hA0
  rw [Try.params5] at hA hval
  obtain ⟨v0, vs0, d0, ds0, p0, q0, hargs, rfl, rfl, h0, rr0⟩ := trodAll_cons hA
  obtain ⟨v1, vs1, d1, ds1, p1, q1, rfl, rfl, rfl, h1, rr1⟩ := trodAll_cons rr0
  obtain ⟨v2, vs2, d2, ds2, p2, q2, rfl, rfl, rfl, h2, rr2⟩ := trodAll_cons rr1
  obtain ⟨rfl, rfl, rfl⟩ := trodAll_nil rr2
  obtain rfl : args = #[v0, v1, v2] := by cases args; simp_all
  obtain ⟨rfl, rfl⟩ := trodVars_none hV
  have k0 := h0
  have lt0 : ∀ x ∈ p0, x.block < W.heap.size := by obtain ⟨m, hm⟩ := k0; exact DataW.trod_lt m _ _ _ hm
  have k1 := h1
  have lt1 : ∀ x ∈ p1, x.block < W.heap.size := by obtain ⟨m, hm⟩ := k1; exact DataW.trod_lt m _ _ _ hm
  have k2 := h2
  have lt2 : ∀ x ∈ p2, x.block < W.heap.size := by obtain ⟨m, hm⟩ := k2; exact DataW.trod_lt m _ _ _ hm
  obtain ⟨n0, s0, e0, rfl, r0, l0⟩ := openGraph (hval 0 24 v0 rfl rfl) h0
  obtain ⟨a1, rfl, rfl, rfl, w1⟩ := open_int Try.underlying3 (hval 1 3 v1 rfl rfl) h1
  obtain ⟨s2, i2, rfl, r2, l2⟩ := openInts (hval 2 25 v2 rfl rfl) h2
  clear hA0 hval0
  refine (walk W n0 s0 e0 r0 l0 a1 w1 _ i2 r2 l2).mono fun e W' ⟨he, bel⟩ => ?_
  subst he
  exact ⟨_, rfl, _, _, _, [], _, [], hW', trodAll_mk1 (shut_bool Try.underlying4 _), (trodAll_cons_mk (Below.trod laidOut (by kernel_rfl) (of_decide_eq_true (by kernel_rfl)) k0 bel lt0) (trodAll_cons_mk (Below.trod laidOut (by kernel_rfl) (of_decide_eq_true (by kernel_rfl)) k1 bel lt1) (trodAll_cons_mk (Below.trod laidOut (by kernel_rfl) (of_decide_eq_true (by kernel_rfl)) k2 bel lt2) trodAll_mk0))), rfl, bel.frame _, fun h => by cases h⟩

theorem over : Rows.fnExactNearestOfRow.holds Try.pinned (OpenSpec.ofChange Rows.fnExactNearestOfSpec) :=
  OpenClaim.holds_of_wide 5 Try.f5 rfl rfl rfl rfl rfl rfl rfl ⟨rfl, rfl, rfl, rfl, rfl⟩ rfl rfl rfl rfl rfl (by kernel_rfl) Try.func5 (by kernel_rfl)
    (of_decide_eq_true (by kernel_rfl)) (by unfold Func.isWrapper; first | (rw [if_pos (by decide +kernel)]; kernel_rfl) | (rw [if_neg (by decide +kernel)]; exact ⟨rfl, rfl⟩))
    (fun os started H enc _ => lifted os started H enc)

theorem proved : Rows.FnExactNearestOfSaid := over
end Go.Proofs.Ythkmelkhpkmhaaa.fnExactNearestOf
