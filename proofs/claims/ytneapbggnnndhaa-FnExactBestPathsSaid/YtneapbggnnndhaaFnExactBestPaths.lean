/-
  Proved: at every graph and every four integers impl.BestPaths answers as the model spec.BestPaths does, writes into no argument and returns memory of its own (the law FnExactBestPaths returns true for them all), with no further condition.
-/
import Derived.Test.YtneapbggnnndhaaRows
import Derived.Test.YtneapbggnnndhaaBpsC
import Derived.Test.YtneapbggnnndhaaVEdges
import Derived.Test.YtneapbggnnndhaaMarks
import Derived.Test.YtneapbggnnndhaaHeld
import Derived.Test.YtneapbggnnndhaaOpenV
import Derived.WalkKit
import Derived.ProofKit
import Derived.OpenShut
import Derived.ShutString
import Derived.ChangeOld
import Derived.Below
namespace Go.Proofs.Ytneapbggnnndhaa.fnExactBestPaths
open Go.Proofs.Ytneapbggnnndhaa Go.BigFrame
open Go.ChangeShapes Go.WideShapes Go.ChangeAt Go.RowKit
open Go.ChangeMaps (open_string shut_string)
set_option linter.unusedVariables false

theorem own : ownKnob Try.prog.godebug = none := by kernel_rfl
theorem laidOut : laidOutB Try.prog = true := by kernel_rfl

set_option maxRecDepth 100000 in
set_option maxHeartbeats 4000000 in
theorem walk (w : World) (n0 : Int) (s0 : Value) (e0 : List Ed) (r0 : RowE w s0 e0) (l0 : e0.length ≤ 9223372036854775807) (a1 : Int) (w1 : (Lit.int .i64 a1).wf = true) (a2 : Int) (w2 : (Lit.int .i64 a2).wf = true) (a3 : Int) (w3 : (Lit.int .i64 a3).wf = true) (a4 : Int) (w4 : (Lit.int .i64 a4).wf = true) :
    Calls Try.prog 7 #[.agg #[.int .i64 n0, s0], .int .i64 a1, .int .i64 a2, .int .i64 a3, .int .i64 a4] w fun e w' => e = .returned (.bool true) ∧ Below w.heap.size w w' := by
  obtain ⟨ad0, cp0, hs0, hz0⟩ := id r0
  subst hs0
  clear hz0
  have R0 := Lib.hid (InR.of_edges r0)
  clear r0
  have hsz0 := fun w => szGraph n0 e0.length cp0 ad0 (1048576) w (by omega) l0
  by_cases hbig0 : e0.length ≤ 1048576
  rotate_left
  · have eR : szR (1048576) e0.length = -1 := by rw [szR, if_neg hbig0]
    rw [eR] at hsz0
    have HZ0 := Lib.hid hsz0
    clear hsz0 eR
    obtain ⟨w0, hw0⟩ : ∃ w0, w0 = w := ⟨_, rfl⟩
    subst hw0
    have H0 := Below.refl w0.heap.size w0
    go_enter Try.func7, Try.ntmps7
    go_wp2_with fail
    have hb1 : Below w0.heap.size w0 (w0.alloc (.cells #[.int .i64 n0, .slice ad0 e0.length cp0] 24)) := (Below.refl _ _).alloc (by simp <;> omega) _
    have H1 := bel_trans H0 hb1
    have SZ1 := Lib.hid hb1.size
    have qa00_1 : (w0.alloc (.cells #[.int .i64 n0, .slice ad0 e0.length cp0] 24)).cell? ⟨w0.heap.size, 0, none⟩ = some (.int .i64 n0) := by go_simp
    have qa01_1 : (w0.alloc (.cells #[.int .i64 n0, .slice ad0 e0.length cp0] 24)).cell? ⟨w0.heap.size, 1, none⟩ = some (.slice ad0 e0.length cp0) := by go_simp
    have za0_1 : w0.heap.size < (w0.alloc (.cells #[.int .i64 n0, .slice ad0 e0.length cp0] 24)).heap.size := by simp <;> omega
    generalize (w0.alloc (.cells #[.int .i64 n0, .slice ad0 e0.length cp0] 24)) = w1 at hb1 H1 SZ1 qa00_1 qa01_1 za0_1 ⊢
    have ZBa0 := Lib.hid za0_1
    refine (HZ0.out _).mono ?_
    rintro e w2 ⟨rfl, hb2⟩
    have H2 := bel_trans H1 hb2
    have SZ2 := Lib.hid hb2.size
    have qa00_2 := (hb2.cell (p := ⟨w0.heap.size, 0, none⟩) za0_1).trans qa00_1
    have qa01_2 := (hb2.cell (p := ⟨w0.heap.size, 1, none⟩) za0_1).trans qa01_1
    have za0_2 := Nat.lt_of_lt_of_le za0_1 hb2.size
    clear qa00_1 qa01_1 za0_1
    go_wp2
    go_ret
    exact ⟨rfl, H2⟩
  have eR : szR (1048576) e0.length = ((1048576 - e0.length : Nat) : Int) := by rw [szR, if_pos hbig0]
  rw [eR] at hsz0
  have HZ0 := Lib.hid hsz0
  have hnn0 : decide (((1048576 - e0.length : Nat) : Int) < 0) = false := by simp <;> omega
  have hb0g : e0.length ≤ 1048576 := by omega
  have hb0i : e0.length ≤ 4194304 := by omega
  have hb0h : e0.length ≤ 281474976710656 := by omega
  clear hsz0 eR
  obtain ⟨w0, hw0⟩ : ∃ w0, w0 = w := ⟨_, rfl⟩
  subst hw0
  have H0 := Below.refl w0.heap.size w0
  have R0_0 := R0
  clear R0
  go_enter Try.func7, Try.ntmps7
  go_wp2_with fail
  have hb1 : Below w0.heap.size w0 (w0.alloc (.cells #[.int .i64 n0, .slice ad0 e0.length cp0] 24)) := (Below.refl _ _).alloc (by simp <;> omega) _
  have H1 := bel_trans H0 hb1
  have SZ1 := Lib.hid hb1.size
  have R0_1 := Lib.hid (R0_0.out.keep hb1)
  have qa00_1 : (w0.alloc (.cells #[.int .i64 n0, .slice ad0 e0.length cp0] 24)).cell? ⟨w0.heap.size, 0, none⟩ = some (.int .i64 n0) := by go_simp
  have qa01_1 : (w0.alloc (.cells #[.int .i64 n0, .slice ad0 e0.length cp0] 24)).cell? ⟨w0.heap.size, 1, none⟩ = some (.slice ad0 e0.length cp0) := by go_simp
  have za0_1 : w0.heap.size < (w0.alloc (.cells #[.int .i64 n0, .slice ad0 e0.length cp0] 24)).heap.size := by simp <;> omega
  generalize (w0.alloc (.cells #[.int .i64 n0, .slice ad0 e0.length cp0] 24)) = w1 at hb1 H1 SZ1 R0_1 qa00_1 qa01_1 za0_1 ⊢
  have ZBa0 := Lib.hid za0_1
  clear R0_0
  refine (HZ0.out _).mono ?_
  rintro e w2 ⟨rfl, hb2⟩
  have H2 := bel_trans H1 hb2
  have SZ2 := Lib.hid hb2.size
  have qa00_2 := (hb2.cell (p := ⟨w0.heap.size, 0, none⟩) za0_1).trans qa00_1
  have qa01_2 := (hb2.cell (p := ⟨w0.heap.size, 1, none⟩) za0_1).trans qa01_1
  have za0_2 := Nat.lt_of_lt_of_le za0_1 hb2.size
  have R0_2 := Lib.hid (R0_1.out.keep hb2)
  clear R0_1 qa00_1 qa01_1 za0_1
  have hps : PsOk (bpR n0 e0 a1 a2 a3 a4) := bpR_ok _ _ _ _ _ _
  have hsp := fun s w h (ok0 : okS s) => sBestPathsX n0 a1 a2 a3 a4 e0 s w h hb0g
  have him := fun s w h (ok0 : okS s) => bestPathsX n0 a1 a2 a3 a4 e0 s w h ok0 hb0g
  generalize bpB n0 e0 a1 a2 a3 a4 = B at hsp him
  generalize bpR n0 e0 a1 a2 a3 a4 = ps at hsp him hps
  have hps1 := hps.1
  have hps3 := hps.2.2
  have HPS := Lib.hid hps.2.1
  clear hps
  have HSP := Lib.hid hsp
  have HIM := Lib.hid him
  clear hsp him
  go_wp2_with fail
  refine (toGraph n0 e0 _ _ R0_2.out.edges hb0g).mono ?_
  rintro e w3 ⟨sAV0, rfl, hnew, hb3⟩
  have H3 := bel_trans H2 hb3
  have SZ3 := Lib.hid hb3.size
  have qa00_3 := (hb3.cell (p := ⟨w0.heap.size, 0, none⟩) za0_2).trans qa00_2
  have qa01_3 := (hb3.cell (p := ⟨w0.heap.size, 1, none⟩) za0_2).trans qa01_2
  have za0_3 := Nat.lt_of_lt_of_le za0_2 hb3.size
  have R0_3 := Lib.hid (R0_2.out.keep hb3)
  have OKAV0 := Lib.hid hnew.ok
  have AV0_3 := Lib.hid (hnew.inR)
  clear qa00_2 qa01_2 za0_2 R0_2
  clear hnew
  go_wp2_with fail
  refine (HSP.out _ _ AV0_3.out.edges OKAV0.out).mono ?_
  rintro e w4 ⟨vV, rfl, hown, hb4⟩
  have H4 := bel_trans H3 hb4
  have SZ4 := Lib.hid hb4.size
  have qa00_4 := (hb4.cell (p := ⟨w0.heap.size, 0, none⟩) za0_3).trans qa00_3
  have qa01_4 := (hb4.cell (p := ⟨w0.heap.size, 1, none⟩) za0_3).trans qa01_3
  have za0_4 := Nat.lt_of_lt_of_le za0_3 hb4.size
  have R0_4 := Lib.hid (R0_3.out.keep hb4)
  have AV0_4 := Lib.hid (AV0_3.out.keep hb4)
  have V_4 := Lib.hid (hown)
  clear qa00_3 qa01_3 za0_3 R0_3 AV0_3
  clear hown
  clear AV0_4
  go_wp2_with fail
  refine (toGraph n0 e0 _ _ R0_4.out.edges hb0g).mono ?_
  rintro e w5 ⟨_, rfl, hnew, hb5⟩
  have H5 := bel_trans H4 hb5
  have SZ5 := Lib.hid hb5.size
  have qa00_5 := (hb5.cell (p := ⟨w0.heap.size, 0, none⟩) za0_4).trans qa00_4
  have qa01_5 := (hb5.cell (p := ⟨w0.heap.size, 1, none⟩) za0_4).trans qa01_4
  have za0_5 := Nat.lt_of_lt_of_le za0_4 hb5.size
  have R0_5 := Lib.hid (R0_4.out.keep hb5)
  have V_5 := Lib.hid (V_4.out.keep hb5)
  have OKX0 := Lib.hid hnew.ok
  obtain ⟨gX0, capX0, rfl, hgX0, hrowX0⟩ := hnew
  have X0_5 := Lib.hid (NewE.inR ⟨gX0, capX0, rfl, hgX0, hrowX0⟩)
  clear qa00_4 qa01_4 za0_4 R0_4 V_4
  clear hgX0 hrowX0
  go_wp2_with fail
  have hb6 : Below w5.heap.size w5 (w5.alloc (.cells #[.int .i64 n0, .slice (some ⟨gX0, 0, none⟩) e0.length capX0] 34)) := (Below.refl _ _).alloc (by simp <;> omega) _
  have H6 := bel_trans H5 hb6
  have SZ6 := Lib.hid hb6.size
  have qa00_6 := (hb6.cell (p := ⟨w0.heap.size, 0, none⟩) za0_5).trans qa00_5
  have qa01_6 := (hb6.cell (p := ⟨w0.heap.size, 1, none⟩) za0_5).trans qa01_5
  have za0_6 := Nat.lt_of_lt_of_le za0_5 hb6.size
  have R0_6 := Lib.hid (R0_5.out.keep hb6)
  have V_6 := Lib.hid (V_5.out.keep hb6)
  have X0_6 := Lib.hid (X0_5.out.keep hb6)
  have qx00_6 : (w5.alloc (.cells #[.int .i64 n0, .slice (some ⟨gX0, 0, none⟩) e0.length capX0] 34)).cell? ⟨w5.heap.size, 0, none⟩ = some (.int .i64 n0) := by go_simp
  have qx01_6 : (w5.alloc (.cells #[.int .i64 n0, .slice (some ⟨gX0, 0, none⟩) e0.length capX0] 34)).cell? ⟨w5.heap.size, 1, none⟩ = some (.slice (some ⟨gX0, 0, none⟩) e0.length capX0) := by go_simp
  have zx0_6 : w5.heap.size < (w5.alloc (.cells #[.int .i64 n0, .slice (some ⟨gX0, 0, none⟩) e0.length capX0] 34)).heap.size := by simp <;> omega
  generalize (w5.alloc (.cells #[.int .i64 n0, .slice (some ⟨gX0, 0, none⟩) e0.length capX0] 34)) = w6 at hb6 H6 SZ6 R0_6 V_6 X0_6 qa00_6 qa01_6 qx00_6 qx01_6 za0_6 zx0_6 ⊢
  have ZBx0 := Lib.hid zx0_6
  clear qa00_5 qa01_5 za0_5 R0_5 V_5 X0_5
  go_wp2_with fail
  refine (HIM.out _ _ X0_6.out.edges OKX0.out).mono ?_
  rintro e w7 ⟨vG, rfl, hown, hb7⟩
  have H7 := bel_trans H6 hb7
  have SZ7 := Lib.hid hb7.size
  have qa00_7 := (hb7.cell (p := ⟨w0.heap.size, 0, none⟩) za0_6).trans qa00_6
  have qa01_7 := (hb7.cell (p := ⟨w0.heap.size, 1, none⟩) za0_6).trans qa01_6
  have za0_7 := Nat.lt_of_lt_of_le za0_6 hb7.size
  have qx00_7 := (hb7.cell (p := ⟨w5.heap.size, 0, none⟩) zx0_6).trans qx00_6
  have qx01_7 := (hb7.cell (p := ⟨w5.heap.size, 1, none⟩) zx0_6).trans qx01_6
  have zx0_7 := Nat.lt_of_lt_of_le zx0_6 hb7.size
  have R0_7 := Lib.hid (R0_6.out.keep hb7)
  have V_7 := Lib.hid (V_6.out.keep hb7)
  have X0_7 := Lib.hid (X0_6.out.keep hb7)
  have G_7 := Lib.hid (hown)
  clear qa00_6 qa01_6 za0_6 R0_6 V_6 X0_6 qx00_6 qx01_6 zx0_6
  clear hown
  go_wp2_with fail
  refine (eqPs ps _ _ _ G_7.out.read V_7.out.read hps1 HPS.out).mono ?_
  rintro e w8 ⟨rfl, hb8⟩
  have H8 := bel_trans H7 hb8
  have SZ8 := Lib.hid hb8.size
  have qa00_8 := (hb8.cell (p := ⟨w0.heap.size, 0, none⟩) za0_7).trans qa00_7
  have qa01_8 := (hb8.cell (p := ⟨w0.heap.size, 1, none⟩) za0_7).trans qa01_7
  have za0_8 := Nat.lt_of_lt_of_le za0_7 hb8.size
  have qx00_8 := (hb8.cell (p := ⟨w5.heap.size, 0, none⟩) zx0_7).trans qx00_7
  have qx01_8 := (hb8.cell (p := ⟨w5.heap.size, 1, none⟩) zx0_7).trans qx01_7
  have zx0_8 := Nat.lt_of_lt_of_le zx0_7 hb8.size
  have R0_8 := Lib.hid (R0_7.out.keep hb8)
  have V_8 := Lib.hid (V_7.out.keep hb8)
  have X0_8 := Lib.hid (X0_7.out.keep hb8)
  have G_8 := Lib.hid (G_7.out.keep hb8)
  clear qa00_7 qa01_7 za0_7 qx00_7 qx01_7 zx0_7 R0_7 V_7 X0_7 G_7
  go_wp2_with fail
  have hold : ∀ w' : World, Below w8.heap.size w8 w' → (w'.cell? ⟨w5.heap.size, 0, none⟩ = some (.int .i64 n0) ∧ w'.cell? ⟨w5.heap.size, 1, none⟩ = some (.slice (some ⟨gX0, 0, none⟩) e0.length capX0) ∧ w'.cell? ⟨w0.heap.size, 0, none⟩ = some (.int .i64 n0) ∧ w'.cell? ⟨w0.heap.size, 1, none⟩ = some (.slice ad0 e0.length cp0)) := fun w' h => ⟨(h.cell (p := ⟨w5.heap.size, 0, none⟩) zx0_8).trans qx00_8, (h.cell (p := ⟨w5.heap.size, 1, none⟩) zx0_8).trans qx01_8, (h.cell (p := ⟨w0.heap.size, 0, none⟩) za0_8).trans qa00_8, (h.cell (p := ⟨w0.heap.size, 1, none⟩) za0_8).trans qa01_8⟩
  have HOLD := Lib.hid hold
  clear hold
  go_region_held3 (fun w' : World => w'.cell? ⟨w5.heap.size, 0, none⟩ = some (.int .i64 n0) ∧ w'.cell? ⟨w5.heap.size, 1, none⟩ = some (.slice (some ⟨gX0, 0, none⟩) e0.length capX0) ∧ w'.cell? ⟨w0.heap.size, 0, none⟩ = some (.int .i64 n0) ∧ w'.cell? ⟨w0.heap.size, 1, none⟩ = some (.slice ad0 e0.length cp0)) (first | exact HOLD.out _ ((Below.refl _ _).drew) | exact HOLD.out _ (bel_trans ((Below.refl _ _).drew) hb9) | exact HOLD.out _ (bel_trans (bel_trans ((Below.refl _ _).drew) hb9) hb10)) (first | (go_at_call 12; (with_reducible refine (toGraph n0 e0 _ _ (R0_8.out.keep ((Below.refl _ _).drew)).edges hb0g).mono ?_); rintro e w9 ⟨sB0, rfl, hnew0, hb9⟩) | (go_at_call 16; (with_reducible refine (eqGraph n0 e0 _ _ _ (X0_8.out.keep (bel_trans ((Below.refl _ _).drew) hb9)).edges hnew0.row hb0g).mono ?_); rintro e w10 ⟨rfl, hb10⟩))
  have hq : Below w8.heap.size w8 w10 := (bel_trans (bel_trans ((Below.refl _ _).drew) hb9) hb10)
  clear hb9 hb10 HOLD hnew0
  have hb10 := hq
  clear hq
  have H10 := bel_trans H8 hb10
  have SZ10 := Lib.hid hb10.size
  have qa00_10 := (hb10.cell (p := ⟨w0.heap.size, 0, none⟩) za0_8).trans qa00_8
  have qa01_10 := (hb10.cell (p := ⟨w0.heap.size, 1, none⟩) za0_8).trans qa01_8
  have za0_10 := Nat.lt_of_lt_of_le za0_8 hb10.size
  have qx00_10 := (hb10.cell (p := ⟨w5.heap.size, 0, none⟩) zx0_8).trans qx00_8
  have qx01_10 := (hb10.cell (p := ⟨w5.heap.size, 1, none⟩) zx0_8).trans qx01_8
  have zx0_10 := Nat.lt_of_lt_of_le zx0_8 hb10.size
  have R0_10 := Lib.hid (R0_8.out.keep hb10)
  have V_10 := Lib.hid (V_8.out.keep hb10)
  have X0_10 := Lib.hid (X0_8.out.keep hb10)
  have G_10 := Lib.hid (G_8.out.keep hb10)
  clear qa00_8 qa01_8 za0_8 qx00_8 qx01_8 zx0_8 R0_8 V_8 X0_8 G_8
  go_wp2_with fail
  refine (markGraph 1 n0 _ _ _ _ _ _ X0_10.out (by omega) (by omega) (by have := SZ10.out; have := SZ8.out; have := SZ7.out; have := SZ6.out; omega)).mono ?_
  rintro e w11 ⟨rfl, hrow, hb11⟩
  have H11 := bel_chg H10 hb11 (by have := SZ4.out; have := SZ3.out; have := SZ2.out; have := SZ1.out; omega)
  have SZ11 := Lib.hid hb11.size
  have qa00_11 := (hb11.cell (p := ⟨w0.heap.size, 0, none⟩) za0_10 (.inl (by have := ZBa0.out; have := SZ4.out; have := SZ3.out; have := SZ2.out; simp only; omega))).trans qa00_10
  have qa01_11 := (hb11.cell (p := ⟨w0.heap.size, 1, none⟩) za0_10 (.inl (by have := ZBa0.out; have := SZ4.out; have := SZ3.out; have := SZ2.out; simp only; omega))).trans qa01_10
  have za0_11 := Nat.lt_of_lt_of_le za0_10 hb11.size
  have qx00_11 := (hb11.cell (p := ⟨w5.heap.size, 0, none⟩) zx0_10 (.inr (by simp only; omega))).trans qx00_10
  have qx01_11 := (hb11.cell (p := ⟨w5.heap.size, 1, none⟩) zx0_10 (.inr (by simp only; omega))).trans qx01_10
  have zx0_11 := Nat.lt_of_lt_of_le zx0_10 hb11.size
  have R0_11 := Lib.hid (R0_10.out.chg hb11 (.inr (by have := SZ4.out; have := SZ3.out; have := SZ2.out; have := SZ1.out; omega)))
  have V_11 := Lib.hid (V_10.out.chg hb11 (.inr (by omega)))
  have G_11 := Lib.hid (G_10.out.chg hb11 (.inl (by have := SZ6.out; omega)))
  have X0_11 := Lib.hid (hrow)
  clear qa00_10 qa01_10 za0_10 qx00_10 qx01_10 zx0_10 R0_10 V_10 X0_10 G_10
  clear hrow
  have hk1 : decide (((1 + e0.length * 3 : Nat) : Int) < 0) = false := decide_eq_false (by omega)
  go_wp2_with fail
  refine (eqPs ps _ _ _ G_11.out.read V_11.out.read hps1 HPS.out).mono ?_
  rintro e w12 ⟨rfl, hb12⟩
  have H12 := bel_trans H11 hb12
  have SZ12 := Lib.hid hb12.size
  have qa00_12 := (hb12.cell (p := ⟨w0.heap.size, 0, none⟩) za0_11).trans qa00_11
  have qa01_12 := (hb12.cell (p := ⟨w0.heap.size, 1, none⟩) za0_11).trans qa01_11
  have za0_12 := Nat.lt_of_lt_of_le za0_11 hb12.size
  have qx00_12 := (hb12.cell (p := ⟨w5.heap.size, 0, none⟩) zx0_11).trans qx00_11
  have qx01_12 := (hb12.cell (p := ⟨w5.heap.size, 1, none⟩) zx0_11).trans qx01_11
  have zx0_12 := Nat.lt_of_lt_of_le zx0_11 hb12.size
  have R0_12 := Lib.hid (R0_11.out.keep hb12)
  have V_12 := Lib.hid (V_11.out.keep hb12)
  have X0_12 := Lib.hid (X0_11.out.keep hb12)
  have G_12 := Lib.hid (G_11.out.keep hb12)
  clear qa00_11 qa01_11 za0_11 qx00_11 qx01_11 zx0_11 R0_11 V_11 G_11 X0_11
  go_wp2_with fail
  refine (markPs ps _ _ _ _ G_12.out hps1 hps3).mono ?_
  rintro e w13 ⟨rfl, hrow, hb13⟩
  have H13 := bel_chg H12 hb13 (by have := SZ6.out; have := SZ5.out; have := SZ4.out; have := SZ3.out; have := SZ2.out; have := SZ1.out; omega)
  have SZ13 := Lib.hid hb13.size
  have qa00_13 := (hb13.cell (p := ⟨w0.heap.size, 0, none⟩) za0_12 (.inl (by have := ZBa0.out; have := SZ6.out; have := SZ5.out; have := SZ4.out; have := SZ3.out; have := SZ2.out; simp only; omega))).trans qa00_12
  have qa01_13 := (hb13.cell (p := ⟨w0.heap.size, 1, none⟩) za0_12 (.inl (by have := ZBa0.out; have := SZ6.out; have := SZ5.out; have := SZ4.out; have := SZ3.out; have := SZ2.out; simp only; omega))).trans qa01_12
  have za0_13 := Nat.lt_of_lt_of_le za0_12 hb13.size
  have qx00_13 := (hb13.cell (p := ⟨w5.heap.size, 0, none⟩) zx0_12 (.inl (by have := ZBx0.out; simp only; omega))).trans qx00_12
  have qx01_13 := (hb13.cell (p := ⟨w5.heap.size, 1, none⟩) zx0_12 (.inl (by have := ZBx0.out; simp only; omega))).trans qx01_12
  have zx0_13 := Nat.lt_of_lt_of_le zx0_12 hb13.size
  have R0_13 := Lib.hid (R0_12.out.chg hb13 (.inr (by have := SZ6.out; have := SZ5.out; have := SZ4.out; have := SZ3.out; have := SZ2.out; have := SZ1.out; omega)))
  have V_13 := Lib.hid (V_12.out.chg hb13 (.inr (by have := SZ6.out; have := SZ5.out; omega)))
  have X0_13 := Lib.hid (X0_12.out.chg hb13 (.inr (by have := SZ6.out; omega)))
  have G_13 := Lib.hid (hrow)
  clear qa00_12 qa01_12 za0_12 qx00_12 qx01_12 zx0_12 R0_12 V_12 X0_12 G_12
  clear hrow
  have hk2 : decide (((1 + ptP ps : Nat) : Int) < 0) = false := decide_eq_false (by omega)
  go_wp2_with fail
  refine (heldPs ps _ _ _ _ G_13.out hps1 hps3).mono ?_
  rintro e w14 ⟨rfl, hb14⟩
  have H14 := bel_trans H13 hb14
  have SZ14 := Lib.hid hb14.size
  have qa00_14 := (hb14.cell (p := ⟨w0.heap.size, 0, none⟩) za0_13).trans qa00_13
  have qa01_14 := (hb14.cell (p := ⟨w0.heap.size, 1, none⟩) za0_13).trans qa01_13
  have za0_14 := Nat.lt_of_lt_of_le za0_13 hb14.size
  have qx00_14 := (hb14.cell (p := ⟨w5.heap.size, 0, none⟩) zx0_13).trans qx00_13
  have qx01_14 := (hb14.cell (p := ⟨w5.heap.size, 1, none⟩) zx0_13).trans qx01_13
  have zx0_14 := Nat.lt_of_lt_of_le zx0_13 hb14.size
  have R0_14 := Lib.hid (R0_13.out.keep hb14)
  have V_14 := Lib.hid (V_13.out.keep hb14)
  have X0_14 := Lib.hid (X0_13.out.keep hb14)
  have G_14 := Lib.hid (G_13.out.keep hb14)
  clear qa00_13 qa01_13 za0_13 qx00_13 qx01_13 zx0_13 R0_13 V_13 X0_13 G_13
  go_wp2_with fail
  refine (toGraph n0 e0 _ _ R0_14.out.edges hb0g).mono ?_
  rintro e w15 ⟨sAK0, rfl, hnew, hb15⟩
  have H15 := bel_trans H14 hb15
  have SZ15 := Lib.hid hb15.size
  have qa00_15 := (hb15.cell (p := ⟨w0.heap.size, 0, none⟩) za0_14).trans qa00_14
  have qa01_15 := (hb15.cell (p := ⟨w0.heap.size, 1, none⟩) za0_14).trans qa01_14
  have za0_15 := Nat.lt_of_lt_of_le za0_14 hb15.size
  have qx00_15 := (hb15.cell (p := ⟨w5.heap.size, 0, none⟩) zx0_14).trans qx00_14
  have qx01_15 := (hb15.cell (p := ⟨w5.heap.size, 1, none⟩) zx0_14).trans qx01_14
  have zx0_15 := Nat.lt_of_lt_of_le zx0_14 hb15.size
  have R0_15 := Lib.hid (R0_14.out.keep hb15)
  have V_15 := Lib.hid (V_14.out.keep hb15)
  have X0_15 := Lib.hid (X0_14.out.keep hb15)
  have G_15 := Lib.hid (G_14.out.keep hb15)
  have OKAK0 := Lib.hid hnew.ok
  have AK0_15 := Lib.hid (hnew.inR)
  clear qa00_14 qa01_14 za0_14 qx00_14 qx01_14 zx0_14 R0_14 V_14 X0_14 G_14
  clear hnew
  go_wp2_with fail
  refine (HIM.out _ _ AK0_15.out.edges OKAK0.out).mono ?_
  rintro e w16 ⟨vK, rfl, hown, hb16⟩
  have H16 := bel_trans H15 hb16
  have SZ16 := Lib.hid hb16.size
  have qa00_16 := (hb16.cell (p := ⟨w0.heap.size, 0, none⟩) za0_15).trans qa00_15
  have qa01_16 := (hb16.cell (p := ⟨w0.heap.size, 1, none⟩) za0_15).trans qa01_15
  have za0_16 := Nat.lt_of_lt_of_le za0_15 hb16.size
  have qx00_16 := (hb16.cell (p := ⟨w5.heap.size, 0, none⟩) zx0_15).trans qx00_15
  have qx01_16 := (hb16.cell (p := ⟨w5.heap.size, 1, none⟩) zx0_15).trans qx01_15
  have zx0_16 := Nat.lt_of_lt_of_le zx0_15 hb16.size
  have R0_16 := Lib.hid (R0_15.out.keep hb16)
  have V_16 := Lib.hid (V_15.out.keep hb16)
  have X0_16 := Lib.hid (X0_15.out.keep hb16)
  have G_16 := Lib.hid (G_15.out.keep hb16)
  have AK0_16 := Lib.hid (AK0_15.out.keep hb16)
  have K_16 := Lib.hid (hown)
  clear qa00_15 qa01_15 za0_15 qx00_15 qx01_15 zx0_15 R0_15 V_15 X0_15 G_15 AK0_15
  clear hown
  clear AK0_16
  go_wp2_with fail
  refine (eqPs ps _ _ _ K_16.out.read V_16.out.read hps1 HPS.out).mono ?_
  rintro e w17 ⟨rfl, hb17⟩
  have H17 := bel_trans H16 hb17
  have SZ17 := Lib.hid hb17.size
  have qa00_17 := (hb17.cell (p := ⟨w0.heap.size, 0, none⟩) za0_16).trans qa00_16
  have qa01_17 := (hb17.cell (p := ⟨w0.heap.size, 1, none⟩) za0_16).trans qa01_16
  have za0_17 := Nat.lt_of_lt_of_le za0_16 hb17.size
  have qx00_17 := (hb17.cell (p := ⟨w5.heap.size, 0, none⟩) zx0_16).trans qx00_16
  have qx01_17 := (hb17.cell (p := ⟨w5.heap.size, 1, none⟩) zx0_16).trans qx01_16
  have zx0_17 := Nat.lt_of_lt_of_le zx0_16 hb17.size
  have R0_17 := Lib.hid (R0_16.out.keep hb17)
  have V_17 := Lib.hid (V_16.out.keep hb17)
  have X0_17 := Lib.hid (X0_16.out.keep hb17)
  have G_17 := Lib.hid (G_16.out.keep hb17)
  have K_17 := Lib.hid (K_16.out.keep hb17)
  clear qa00_16 qa01_16 za0_16 qx00_16 qx01_16 zx0_16 R0_16 V_16 X0_16 G_16 K_16
  go_wp2_with fail
  refine (heldPs ps _ _ _ _ G_17.out hps1 hps3).mono ?_
  rintro e w18 ⟨rfl, hb18⟩
  have H18 := bel_trans H17 hb18
  have SZ18 := Lib.hid hb18.size
  have qa00_18 := (hb18.cell (p := ⟨w0.heap.size, 0, none⟩) za0_17).trans qa00_17
  have qa01_18 := (hb18.cell (p := ⟨w0.heap.size, 1, none⟩) za0_17).trans qa01_17
  have za0_18 := Nat.lt_of_lt_of_le za0_17 hb18.size
  have qx00_18 := (hb18.cell (p := ⟨w5.heap.size, 0, none⟩) zx0_17).trans qx00_17
  have qx01_18 := (hb18.cell (p := ⟨w5.heap.size, 1, none⟩) zx0_17).trans qx01_17
  have zx0_18 := Nat.lt_of_lt_of_le zx0_17 hb18.size
  have R0_18 := Lib.hid (R0_17.out.keep hb18)
  have V_18 := Lib.hid (V_17.out.keep hb18)
  have X0_18 := Lib.hid (X0_17.out.keep hb18)
  have G_18 := Lib.hid (G_17.out.keep hb18)
  have K_18 := Lib.hid (K_17.out.keep hb18)
  clear qa00_17 qa01_17 za0_17 qx00_17 qx01_17 zx0_17 R0_17 V_17 X0_17 G_17 K_17
  go_wp2
  go_ret
  exact ⟨rfl, H18⟩

set_option maxRecDepth 100000 in
theorem lifted (os : Os) (started : os.Started) (H : Type) (enc : TypeId × Value → H) :
    ReturnsInHanded {} Try.checked os 7 .any (Rows.fnExactBestPathsSpec.pre6 enc Try.prog Try.f7 Rows.fnExactBestPathsRow.domain false) (Rows.fnExactBestPathsSpec.post enc Try.prog Try.f7 false true false false) := by
  refine returnsInHanded_of_change (C := Try.checked) own started (by kernel_rfl) Try.func7
    (ChangeSpec.witness6 (enc := enc) (C := Try.checked) false ⟨#[], #[.agg #[.int .i64 0, .slice none 0 0], .int .i64 0, .int .i64 0, .int .i64 0, .int .i64 0], []⟩ 8 (by kernel_rfl) (by kernel_rfl) (by kernel_rfl) (by kernel_rfl)) ?_
  intro W base args ds gs before hval0 hW hcnd _
  have hval : ∀ (j : Nat) t v, Try.f7.params[j]? = some t → args[j]? = some v → Value.okWide Try.prog W .any base t v := hval0
  have hW' := hW
  obtain ⟨p, q, hA0, hV, rfl, hfz, hnd⟩ := hW
  have hA : DataW.TrodAll enc Try.prog W 0 (fun _ => true) true Try.f7.params.toList args.toList ds p := hA0
  rw [Try.params7] at hA hval
  obtain ⟨v0, vs0, d0, ds0, p0, q0, hargs, rfl, rfl, h0, rr0⟩ := trodAll_cons hA
  obtain ⟨v1, vs1, d1, ds1, p1, q1, rfl, rfl, rfl, h1, rr1⟩ := trodAll_cons rr0
  obtain ⟨v2, vs2, d2, ds2, p2, q2, rfl, rfl, rfl, h2, rr2⟩ := trodAll_cons rr1
  obtain ⟨v3, vs3, d3, ds3, p3, q3, rfl, rfl, rfl, h3, rr3⟩ := trodAll_cons rr2
  obtain ⟨v4, vs4, d4, ds4, p4, q4, rfl, rfl, rfl, h4, rr4⟩ := trodAll_cons rr3
  obtain ⟨rfl, rfl, rfl⟩ := trodAll_nil rr4
  obtain rfl : args = #[v0, v1, v2, v3, v4] := by cases args; simp_all
  obtain ⟨rfl, rfl⟩ := trodVars_none hV
  have k0 := h0
  have lt0 : ∀ x ∈ p0, x.block < W.heap.size := by obtain ⟨m, hm⟩ := k0; exact DataW.trod_lt m _ _ _ hm
  have k1 := h1
  have lt1 : ∀ x ∈ p1, x.block < W.heap.size := by obtain ⟨m, hm⟩ := k1; exact DataW.trod_lt m _ _ _ hm
  have k2 := h2
  have lt2 : ∀ x ∈ p2, x.block < W.heap.size := by obtain ⟨m, hm⟩ := k2; exact DataW.trod_lt m _ _ _ hm
  have k3 := h3
  have lt3 : ∀ x ∈ p3, x.block < W.heap.size := by obtain ⟨m, hm⟩ := k3; exact DataW.trod_lt m _ _ _ hm
  have k4 := h4
  have lt4 : ∀ x ∈ p4, x.block < W.heap.size := by obtain ⟨m, hm⟩ := k4; exact DataW.trod_lt m _ _ _ hm
  obtain ⟨n0, s0, e0, rfl, r0, l0⟩ := openGraph (hval 0 24 v0 rfl rfl) h0
  obtain ⟨a1, rfl, rfl, rfl, w1⟩ := open_int Try.underlying3 (hval 1 3 v1 rfl rfl) h1
  obtain ⟨a2, rfl, rfl, rfl, w2⟩ := open_int Try.underlying3 (hval 2 3 v2 rfl rfl) h2
  obtain ⟨a3, rfl, rfl, rfl, w3⟩ := open_int Try.underlying3 (hval 3 3 v3 rfl rfl) h3
  obtain ⟨a4, rfl, rfl, rfl, w4⟩ := open_int Try.underlying3 (hval 4 3 v4 rfl rfl) h4
  clear hA0 hval0
  refine (walk W n0 s0 e0 r0 l0 a1 w1 a2 w2 a3 w3 a4 w4).mono fun e W' ⟨he, bel⟩ => ?_
  subst he
  exact ⟨_, rfl, _, _, _, [], _, [], hW', trodAll_mk1 (shut_bool Try.underlying4 _), (trodAll_cons_mk (Below.trod laidOut (by kernel_rfl) (of_decide_eq_true (by kernel_rfl)) k0 bel lt0) (trodAll_cons_mk (Below.trod laidOut (by kernel_rfl) (of_decide_eq_true (by kernel_rfl)) k1 bel lt1) (trodAll_cons_mk (Below.trod laidOut (by kernel_rfl) (of_decide_eq_true (by kernel_rfl)) k2 bel lt2) (trodAll_cons_mk (Below.trod laidOut (by kernel_rfl) (of_decide_eq_true (by kernel_rfl)) k3 bel lt3) (trodAll_cons_mk (Below.trod laidOut (by kernel_rfl) (of_decide_eq_true (by kernel_rfl)) k4 bel lt4) trodAll_mk0))))), rfl, bel.frame _, fun h => by cases h⟩

theorem over : Rows.fnExactBestPathsRow.holds Try.pinned (OpenSpec.ofChange Rows.fnExactBestPathsSpec) :=
  OpenClaim.holds_of_wide 7 Try.f7 rfl rfl rfl rfl rfl rfl rfl ⟨rfl, rfl, rfl, rfl, rfl⟩ rfl rfl rfl rfl rfl (by kernel_rfl) Try.func7 (by kernel_rfl)
    (of_decide_eq_true (by kernel_rfl)) (by unfold Func.isWrapper; first | (rw [if_pos (by decide +kernel)]; kernel_rfl) | (rw [if_neg (by decide +kernel)]; exact ⟨rfl, rfl⟩))
    (fun os started H enc _ => lifted os started H enc)

theorem proved : Rows.FnExactBestPathsSaid := over
end Go.Proofs.Ytneapbggnnndhaa.fnExactBestPaths
