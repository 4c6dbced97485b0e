/-
  Proved: at every graph, integer, path and integer impl.DetourOf answers as the model spec.DetourOf does, writes into no argument and returns memory of its own (the law FnExactDetourOf returns true for them all), with no further condition.
-/
import Derived.Test.YtneapbggnnndhaaGreatRows
import Derived.Test.YtneapbggnnndhaaGreatDetD
import Derived.Test.YtneapbggnnndhaaGreatBoxP
import Derived.Test.YtneapbggnnndhaaGreatPthM
import Derived.Test.YtneapbggnnndhaaGreatVEdges
import Derived.Test.YtneapbggnnndhaaGreatMarks
import Derived.Test.YtneapbggnnndhaaGreatHeld
import Derived.Test.YtneapbggnnndhaaGreatOpenV
import Derived.WalkKit
import Derived.ProofKit
import Derived.OpenShut
import Derived.ShutString
import Derived.ChangeOld
import Derived.Below
namespace Go.Proofs.YtneapbggnnndhaaGreat.fnExactDetourOf
open Go.Proofs.YtneapbggnnndhaaGreat Go.BigFrame
open Go.ChangeShapes Go.WideShapes Go.ChangeAt Go.RowKit
open Go.ChangeMaps (open_string shut_string)
set_option linter.unusedVariables false

theorem own : ownKnob Tryz.prog.godebug = none := by kernel_rfl
theorem laidOut : laidOutB Tryz.prog = true := by kernel_rfl

set_option maxRecDepth 100000 in
set_option maxHeartbeats 4000000 in
theorem walk (w : World) (n0 : Int) (s0 : Value) (e0 : List Ed) (r0 : RowE w s0 e0) (l0 : e0.length ≤ 9223372036854775807) (a1 : Int) (w1 : (Lit.int .i64 a1).wf = true) (x2 : Int) (s2 : Value) (i2 : List Int) (r2 : Row w s2 i2) (l2 : i2.length ≤ 9223372036854775807) (a3 : Int) (w3 : (Lit.int .i64 a3).wf = true) :
    Calls Tryz.prog 4 #[.agg #[.int .i64 n0, s0], .int .i64 a1, .agg #[s2, .int .i64 x2], .int .i64 a3] w fun e w' => e = .returned (.bool true) ∧ Below w.heap.size w w' := by
  obtain ⟨ad0, cp0, hs0, hz0⟩ := id r0
  subst hs0
  clear hz0
  have R0 := Lib.hid (InR.of_edges r0)
  clear r0
  obtain ⟨ad2, cp2, hs2, hz2⟩ := id r2
  subst hs2
  clear hz2
  have R2 := Lib.hid (InR.of_row r2)
  clear r2
  have hsz0 := fun w => szGraph n0 e0.length cp0 ad0 (1048576) w (by omega) l0
  by_cases hbig0 : e0.length ≤ 1048576
  rotate_left
  · have eR : szR (1048576) e0.length = -1 := by rw [szR, if_neg hbig0]
    rw [eR] at hsz0
    have HZ0 := Lib.hid hsz0
    clear hsz0 eR
    obtain ⟨w0, hw0⟩ : ∃ w0, w0 = w := ⟨_, rfl⟩
    subst hw0
    have H0 := Below.refl w0.heap.size w0
    go_enter Tryz.func4, Tryz.ntmps4
    go_wp2_with fail
    have hb1 : Below w0.heap.size w0 ((w0.alloc (.cells #[.int .i64 n0, .slice ad0 e0.length cp0] 24)).alloc (.cells #[.slice ad2 i2.length cp2, .int .i64 x2] 27)) := ((Below.refl _ _).alloc (by simp <;> omega) _).alloc (by simp <;> omega) _
    have H1 := bel_trans H0 hb1
    have SZ1 := Lib.hid hb1.size
    have qa00_1 : ((w0.alloc (.cells #[.int .i64 n0, .slice ad0 e0.length cp0] 24)).alloc (.cells #[.slice ad2 i2.length cp2, .int .i64 x2] 27)).cell? ⟨w0.heap.size, 0, none⟩ = some (.int .i64 n0) := by go_simp
    have qa01_1 : ((w0.alloc (.cells #[.int .i64 n0, .slice ad0 e0.length cp0] 24)).alloc (.cells #[.slice ad2 i2.length cp2, .int .i64 x2] 27)).cell? ⟨w0.heap.size, 1, none⟩ = some (.slice ad0 e0.length cp0) := by go_simp
    have za0_1 : w0.heap.size < ((w0.alloc (.cells #[.int .i64 n0, .slice ad0 e0.length cp0] 24)).alloc (.cells #[.slice ad2 i2.length cp2, .int .i64 x2] 27)).heap.size := by simp <;> omega
    have qa20_1 : ((w0.alloc (.cells #[.int .i64 n0, .slice ad0 e0.length cp0] 24)).alloc (.cells #[.slice ad2 i2.length cp2, .int .i64 x2] 27)).cell? ⟨w0.heap.size + 1, 0, none⟩ = some (.slice ad2 i2.length cp2) := by go_simp
    have qa21_1 : ((w0.alloc (.cells #[.int .i64 n0, .slice ad0 e0.length cp0] 24)).alloc (.cells #[.slice ad2 i2.length cp2, .int .i64 x2] 27)).cell? ⟨w0.heap.size + 1, 1, none⟩ = some (.int .i64 x2) := by go_simp
    have za2_1 : w0.heap.size + 1 < ((w0.alloc (.cells #[.int .i64 n0, .slice ad0 e0.length cp0] 24)).alloc (.cells #[.slice ad2 i2.length cp2, .int .i64 x2] 27)).heap.size := by simp <;> omega
    generalize ((w0.alloc (.cells #[.int .i64 n0, .slice ad0 e0.length cp0] 24)).alloc (.cells #[.slice ad2 i2.length cp2, .int .i64 x2] 27)) = w1 at hb1 H1 SZ1 qa00_1 qa01_1 qa20_1 qa21_1 za0_1 za2_1 ⊢
    have ZBa0 := Lib.hid za0_1
    have ZBa2 := Lib.hid za2_1
    refine (HZ0.out _).mono ?_
    rintro e w2 ⟨rfl, hb2⟩
    have H2 := bel_trans H1 hb2
    have SZ2 := Lib.hid hb2.size
    have qa00_2 := (hb2.cell (p := ⟨w0.heap.size, 0, none⟩) za0_1).trans qa00_1
    have qa01_2 := (hb2.cell (p := ⟨w0.heap.size, 1, none⟩) za0_1).trans qa01_1
    have za0_2 := Nat.lt_of_lt_of_le za0_1 hb2.size
    have qa20_2 := (hb2.cell (p := ⟨w0.heap.size + 1, 0, none⟩) za2_1).trans qa20_1
    have qa21_2 := (hb2.cell (p := ⟨w0.heap.size + 1, 1, none⟩) za2_1).trans qa21_1
    have za2_2 := Nat.lt_of_lt_of_le za2_1 hb2.size
    clear qa00_1 qa01_1 za0_1 qa20_1 qa21_1 za2_1
    go_wp2
    go_ret
    exact ⟨rfl, H2⟩
  have eR : szR (1048576) e0.length = ((1048576 - e0.length : Nat) : Int) := by rw [szR, if_pos hbig0]
  rw [eR] at hsz0
  have HZ0 := Lib.hid hsz0
  have hnn0 : decide (((1048576 - e0.length : Nat) : Int) < 0) = false := by simp <;> omega
  have hb0g : e0.length ≤ 1048576 := by omega
  have hb0h : e0.length ≤ 281474976710656 := by omega
  clear hsz0 eR
  have hsz2 := fun w => szPath x2 i2.length cp2 ad2 (1048576 - e0.length) w (by omega) l2
  by_cases hbig2 : i2.length ≤ 1048576 - e0.length
  rotate_left
  · have eR : szR (1048576 - e0.length) i2.length = -1 := by rw [szR, if_neg hbig2]
    rw [eR] at hsz2
    have HZ2 := Lib.hid hsz2
    clear hsz2 eR
    clear hb0g
    obtain ⟨w0, hw0⟩ : ∃ w0, w0 = w := ⟨_, rfl⟩
    subst hw0
    have H0 := Below.refl w0.heap.size w0
    go_enter Tryz.func4, Tryz.ntmps4
    go_wp2_with fail
    have hb1 : Below w0.heap.size w0 ((w0.alloc (.cells #[.int .i64 n0, .slice ad0 e0.length cp0] 24)).alloc (.cells #[.slice ad2 i2.length cp2, .int .i64 x2] 27)) := ((Below.refl _ _).alloc (by simp <;> omega) _).alloc (by simp <;> omega) _
    have H1 := bel_trans H0 hb1
    have SZ1 := Lib.hid hb1.size
    have qa00_1 : ((w0.alloc (.cells #[.int .i64 n0, .slice ad0 e0.length cp0] 24)).alloc (.cells #[.slice ad2 i2.length cp2, .int .i64 x2] 27)).cell? ⟨w0.heap.size, 0, none⟩ = some (.int .i64 n0) := by go_simp
    have qa01_1 : ((w0.alloc (.cells #[.int .i64 n0, .slice ad0 e0.length cp0] 24)).alloc (.cells #[.slice ad2 i2.length cp2, .int .i64 x2] 27)).cell? ⟨w0.heap.size, 1, none⟩ = some (.slice ad0 e0.length cp0) := by go_simp
    have za0_1 : w0.heap.size < ((w0.alloc (.cells #[.int .i64 n0, .slice ad0 e0.length cp0] 24)).alloc (.cells #[.slice ad2 i2.length cp2, .int .i64 x2] 27)).heap.size := by simp <;> omega
    have qa20_1 : ((w0.alloc (.cells #[.int .i64 n0, .slice ad0 e0.length cp0] 24)).alloc (.cells #[.slice ad2 i2.length cp2, .int .i64 x2] 27)).cell? ⟨w0.heap.size + 1, 0, none⟩ = some (.slice ad2 i2.length cp2) := by go_simp
    have qa21_1 : ((w0.alloc (.cells #[.int .i64 n0, .slice ad0 e0.length cp0] 24)).alloc (.cells #[.slice ad2 i2.length cp2, .int .i64 x2] 27)).cell? ⟨w0.heap.size + 1, 1, none⟩ = some (.int .i64 x2) := by go_simp
    have za2_1 : w0.heap.size + 1 < ((w0.alloc (.cells #[.int .i64 n0, .slice ad0 e0.length cp0] 24)).alloc (.cells #[.slice ad2 i2.length cp2, .int .i64 x2] 27)).heap.size := by simp <;> omega
    generalize ((w0.alloc (.cells #[.int .i64 n0, .slice ad0 e0.length cp0] 24)).alloc (.cells #[.slice ad2 i2.length cp2, .int .i64 x2] 27)) = w1 at hb1 H1 SZ1 qa00_1 qa01_1 qa20_1 qa21_1 za0_1 za2_1 ⊢
    have ZBa0 := Lib.hid za0_1
    have ZBa2 := Lib.hid za2_1
    refine (HZ0.out _).mono ?_
    rintro e w2 ⟨rfl, hb2⟩
    have H2 := bel_trans H1 hb2
    have SZ2 := Lib.hid hb2.size
    have qa00_2 := (hb2.cell (p := ⟨w0.heap.size, 0, none⟩) za0_1).trans qa00_1
    have qa01_2 := (hb2.cell (p := ⟨w0.heap.size, 1, none⟩) za0_1).trans qa01_1
    have za0_2 := Nat.lt_of_lt_of_le za0_1 hb2.size
    have qa20_2 := (hb2.cell (p := ⟨w0.heap.size + 1, 0, none⟩) za2_1).trans qa20_1
    have qa21_2 := (hb2.cell (p := ⟨w0.heap.size + 1, 1, none⟩) za2_1).trans qa21_1
    have za2_2 := Nat.lt_of_lt_of_le za2_1 hb2.size
    clear qa00_1 qa01_1 za0_1 qa20_1 qa21_1 za2_1
    go_wp2_with fail
    refine (HZ2.out _).mono ?_
    rintro e w3 ⟨rfl, hb3⟩
    have H3 := bel_trans H2 hb3
    have SZ3 := Lib.hid hb3.size
    have qa00_3 := (hb3.cell (p := ⟨w0.heap.size, 0, none⟩) za0_2).trans qa00_2
    have qa01_3 := (hb3.cell (p := ⟨w0.heap.size, 1, none⟩) za0_2).trans qa01_2
    have za0_3 := Nat.lt_of_lt_of_le za0_2 hb3.size
    have qa20_3 := (hb3.cell (p := ⟨w0.heap.size + 1, 0, none⟩) za2_2).trans qa20_2
    have qa21_3 := (hb3.cell (p := ⟨w0.heap.size + 1, 1, none⟩) za2_2).trans qa21_2
    have za2_3 := Nat.lt_of_lt_of_le za2_2 hb3.size
    clear qa00_2 qa01_2 za0_2 qa20_2 qa21_2 za2_2
    go_wp2
    go_ret
    exact ⟨rfl, H3⟩
  have eR : szR (1048576 - e0.length) i2.length = ((1048576 - e0.length - i2.length : Nat) : Int) := by rw [szR, if_pos hbig2]
  rw [eR] at hsz2
  have HZ2 := Lib.hid hsz2
  have hnn2 : decide (((1048576 - e0.length - i2.length : Nat) : Int) < 0) = false := by simp <;> omega
  have hb2g : i2.length ≤ 1048576 := by omega
  have hb2h : i2.length ≤ 281474976710656 := by omega
  clear hsz2 eR
  obtain ⟨w0, hw0⟩ : ∃ w0, w0 = w := ⟨_, rfl⟩
  subst hw0
  have H0 := Below.refl w0.heap.size w0
  have R0_0 := R0
  clear R0
  have R2_0 := R2
  clear R2
  go_enter Tryz.func4, Tryz.ntmps4
  go_wp2_with fail
  have hb1 : Below w0.heap.size w0 ((w0.alloc (.cells #[.int .i64 n0, .slice ad0 e0.length cp0] 24)).alloc (.cells #[.slice ad2 i2.length cp2, .int .i64 x2] 27)) := ((Below.refl _ _).alloc (by simp <;> omega) _).alloc (by simp <;> omega) _
  have H1 := bel_trans H0 hb1
  have SZ1 := Lib.hid hb1.size
  have R0_1 := Lib.hid (R0_0.out.keep hb1)
  have R2_1 := Lib.hid (R2_0.out.keep hb1)
  have qa00_1 : ((w0.alloc (.cells #[.int .i64 n0, .slice ad0 e0.length cp0] 24)).alloc (.cells #[.slice ad2 i2.length cp2, .int .i64 x2] 27)).cell? ⟨w0.heap.size, 0, none⟩ = some (.int .i64 n0) := by go_simp
  have qa01_1 : ((w0.alloc (.cells #[.int .i64 n0, .slice ad0 e0.length cp0] 24)).alloc (.cells #[.slice ad2 i2.length cp2, .int .i64 x2] 27)).cell? ⟨w0.heap.size, 1, none⟩ = some (.slice ad0 e0.length cp0) := by go_simp
  have za0_1 : w0.heap.size < ((w0.alloc (.cells #[.int .i64 n0, .slice ad0 e0.length cp0] 24)).alloc (.cells #[.slice ad2 i2.length cp2, .int .i64 x2] 27)).heap.size := by simp <;> omega
  have qa20_1 : ((w0.alloc (.cells #[.int .i64 n0, .slice ad0 e0.length cp0] 24)).alloc (.cells #[.slice ad2 i2.length cp2, .int .i64 x2] 27)).cell? ⟨w0.heap.size + 1, 0, none⟩ = some (.slice ad2 i2.length cp2) := by go_simp
  have qa21_1 : ((w0.alloc (.cells #[.int .i64 n0, .slice ad0 e0.length cp0] 24)).alloc (.cells #[.slice ad2 i2.length cp2, .int .i64 x2] 27)).cell? ⟨w0.heap.size + 1, 1, none⟩ = some (.int .i64 x2) := by go_simp
  have za2_1 : w0.heap.size + 1 < ((w0.alloc (.cells #[.int .i64 n0, .slice ad0 e0.length cp0] 24)).alloc (.cells #[.slice ad2 i2.length cp2, .int .i64 x2] 27)).heap.size := by simp <;> omega
  generalize ((w0.alloc (.cells #[.int .i64 n0, .slice ad0 e0.length cp0] 24)).alloc (.cells #[.slice ad2 i2.length cp2, .int .i64 x2] 27)) = w1 at hb1 H1 SZ1 R0_1 R2_1 qa00_1 qa01_1 qa20_1 qa21_1 za0_1 za2_1 ⊢
  have ZBa0 := Lib.hid za0_1
  have ZBa2 := Lib.hid za2_1
  clear R0_0 R2_0
  refine (HZ0.out _).mono ?_
  rintro e w2 ⟨rfl, hb2⟩
  have H2 := bel_trans H1 hb2
  have SZ2 := Lib.hid hb2.size
  have qa00_2 := (hb2.cell (p := ⟨w0.heap.size, 0, none⟩) za0_1).trans qa00_1
  have qa01_2 := (hb2.cell (p := ⟨w0.heap.size, 1, none⟩) za0_1).trans qa01_1
  have za0_2 := Nat.lt_of_lt_of_le za0_1 hb2.size
  have qa20_2 := (hb2.cell (p := ⟨w0.heap.size + 1, 0, none⟩) za2_1).trans qa20_1
  have qa21_2 := (hb2.cell (p := ⟨w0.heap.size + 1, 1, none⟩) za2_1).trans qa21_1
  have za2_2 := Nat.lt_of_lt_of_le za2_1 hb2.size
  have R0_2 := Lib.hid (R0_1.out.keep hb2)
  have R2_2 := Lib.hid (R2_1.out.keep hb2)
  clear R0_1 R2_1 qa00_1 qa01_1 za0_1 qa20_1 qa21_1 za2_1
  go_wp2_with fail
  refine (HZ2.out _).mono ?_
  rintro e w3 ⟨rfl, hb3⟩
  have H3 := bel_trans H2 hb3
  have SZ3 := Lib.hid hb3.size
  have qa00_3 := (hb3.cell (p := ⟨w0.heap.size, 0, none⟩) za0_2).trans qa00_2
  have qa01_3 := (hb3.cell (p := ⟨w0.heap.size, 1, none⟩) za0_2).trans qa01_2
  have za0_3 := Nat.lt_of_lt_of_le za0_2 hb3.size
  have qa20_3 := (hb3.cell (p := ⟨w0.heap.size + 1, 0, none⟩) za2_2).trans qa20_2
  have qa21_3 := (hb3.cell (p := ⟨w0.heap.size + 1, 1, none⟩) za2_2).trans qa21_2
  have za2_3 := Nat.lt_of_lt_of_le za2_2 hb3.size
  have R0_3 := Lib.hid (R0_2.out.keep hb3)
  have R2_3 := Lib.hid (R2_2.out.keep hb3)
  clear qa00_2 qa01_2 za0_2 qa20_2 qa21_2 za2_2 R0_2 R2_2
  have hln : ((dtP n0 e0 a1 i2 x2 a3).1).length ≤ 1048576 := by have := dtP_len n0 e0 a1 i2 x2 a3; omega
  have hsp := fun s t w h k (ok : okS s) => (sDetourOf n0 a1 x2 a3 e0 i2 s t w h k hb0g hb2g).mono (fun _ _ => OnePost.x)
  have him := fun s t w h k (ok : okS s) => (detourOf n0 a1 x2 a3 e0 i2 s t w h k ok hb0g hb2g).mono (fun _ _ => OnePost.x)
  generalize dtB n0 e0 a1 i2 x2 a3 = B at hsp him
  generalize ((dtP n0 e0 a1 i2 x2 a3).2) = N at hsp him
  generalize (dtP n0 e0 a1 i2 x2 a3).1 = ls at hsp him hln
  have HSP := Lib.hid hsp
  have HIM := Lib.hid him
  clear hsp him
  go_upto_region 8 with fail
  go_cut [10, 11] from 21 (fun p c wx => BoxInP w3 wx N ls p ∧ c = .bool B)
  · have hold : ∀ w' : World, Below w3.heap.size w3 w' → (w'.cell? ⟨w0.heap.size, 0, none⟩ = some (.int .i64 n0) ∧ w'.cell? ⟨w0.heap.size, 1, none⟩ = some (.slice ad0 e0.length cp0) ∧ w'.cell? ⟨w0.heap.size + 1, 0, none⟩ = some (.slice ad2 i2.length cp2) ∧ w'.cell? ⟨w0.heap.size + 1, 1, none⟩ = some (.int .i64 x2)) := fun w' h => ⟨(h.cell (p := ⟨w0.heap.size, 0, none⟩) za0_3).trans qa00_3, (h.cell (p := ⟨w0.heap.size, 1, none⟩) za0_3).trans qa01_3, (h.cell (p := ⟨w0.heap.size + 1, 0, none⟩) za2_3).trans qa20_3, (h.cell (p := ⟨w0.heap.size + 1, 1, none⟩) za2_3).trans qa21_3⟩
    have HOLD := Lib.hid hold
    clear hold
    go_region_held3 (fun w' : World => w'.cell? ⟨w0.heap.size, 0, none⟩ = some (.int .i64 n0) ∧ w'.cell? ⟨w0.heap.size, 1, none⟩ = some (.slice ad0 e0.length cp0) ∧ w'.cell? ⟨w0.heap.size + 1, 0, none⟩ = some (.slice ad2 i2.length cp2) ∧ w'.cell? ⟨w0.heap.size + 1, 1, none⟩ = some (.int .i64 x2)) (exact HOLD.out _ (by repeat' (first | with_reducible exact Below.refl _ _ | with_reducible apply b_alloc | with_reducible apply b_drew | with_reducible apply b_set | (refine @bel_trans _ ?_ _ ?_ ?_; rotate_right; with_reducible assumption)))) (first | (go_at_call 8; (with_reducible refine (toGraph n0 e0 _ _ (R0_3.out.keep (by repeat' (first | with_reducible exact Below.refl _ _ | with_reducible apply b_alloc | with_reducible apply b_drew | with_reducible apply b_set | (refine @bel_trans _ ?_ _ ?_ ?_; rotate_right; with_reducible assumption)))).edges hb0g).mono ?_); rintro e wA ⟨sA, rfl, hnewA, hbA⟩; (try (refine (fun (zz : w3.heap.size < wA.heap.size) => ?_) (Nat.lt_of_lt_of_le ?_ hbA.size); rotate_right; (first | with_reducible assumption | (simp <;> omega)))); (try (refine (fun (cc : wA.cell? ⟨w3.heap.size, 0, none⟩ = some (.slice none 0 0)) => ?_) ((hbA.cell (p := ⟨w3.heap.size, 0, none⟩) ?_).trans ?_); rotate_left; (first | with_reducible assumption | (simp <;> omega)); (first | with_reducible assumption | (focus (go_simp; done))))); (try (refine (fun (ff : wA.frozen? ⟨w3.heap.size, 0, none⟩ = false) => ?_) ((hbA.frozen (p := ⟨w3.heap.size, 0, none⟩) ?_).trans ?_); rotate_left; (first | with_reducible assumption | (simp <;> omega)); (first | with_reducible assumption | (focus (go_simp; done))))); (try (refine (fun (cc : wA.cell? ⟨w3.heap.size, 1, none⟩ = some (.int .i64 0)) => ?_) ((hbA.cell (p := ⟨w3.heap.size, 1, none⟩) ?_).trans ?_); rotate_left; (first | with_reducible assumption | (simp <;> omega)); (first | with_reducible assumption | (focus (go_simp; done))))); (try (refine (fun (ff : wA.frozen? ⟨w3.heap.size, 1, none⟩ = false) => ?_) ((hbA.frozen (p := ⟨w3.heap.size, 1, none⟩) ?_).trans ?_); rotate_left; (first | with_reducible assumption | (simp <;> omega)); (first | with_reducible assumption | (focus (go_simp; done)))))) | (go_at_call 9; (with_reducible refine (toPath x2 i2 _ _ (R2_3.out.keep (by repeat' (first | with_reducible exact Below.refl _ _ | with_reducible apply b_alloc | with_reducible apply b_drew | with_reducible apply b_set | (refine @bel_trans _ ?_ _ ?_ ?_; rotate_right; with_reducible assumption)))).rowI hb2g).mono ?_); rintro e wE ⟨sE, rfl, hnewE, hbE⟩; (try (refine (fun (zz : w3.heap.size < wE.heap.size) => ?_) (Nat.lt_of_lt_of_le ?_ hbE.size); rotate_right; (first | with_reducible assumption | (simp <;> omega)))); (try (refine (fun (cc : wE.cell? ⟨w3.heap.size, 0, none⟩ = some (.slice none 0 0)) => ?_) ((hbE.cell (p := ⟨w3.heap.size, 0, none⟩) ?_).trans ?_); rotate_left; (first | with_reducible assumption | (simp <;> omega)); (first | with_reducible assumption | (focus (go_simp; done))))); (try (refine (fun (ff : wE.frozen? ⟨w3.heap.size, 0, none⟩ = false) => ?_) ((hbE.frozen (p := ⟨w3.heap.size, 0, none⟩) ?_).trans ?_); rotate_left; (first | with_reducible assumption | (simp <;> omega)); (first | with_reducible assumption | (focus (go_simp; done))))); (try (refine (fun (cc : wE.cell? ⟨w3.heap.size, 1, none⟩ = some (.int .i64 0)) => ?_) ((hbE.cell (p := ⟨w3.heap.size, 1, none⟩) ?_).trans ?_); rotate_left; (first | with_reducible assumption | (simp <;> omega)); (first | with_reducible assumption | (focus (go_simp; done))))); (try (refine (fun (ff : wE.frozen? ⟨w3.heap.size, 1, none⟩ = false) => ?_) ((hbE.frozen (p := ⟨w3.heap.size, 1, none⟩) ?_).trans ?_); rotate_left; (first | with_reducible assumption | (simp <;> omega)); (first | with_reducible assumption | (focus (go_simp; done))))); (try (refine (fun (zz : wA.heap.size < wE.heap.size) => ?_) (Nat.lt_of_lt_of_le ?_ hbE.size); rotate_right; (first | with_reducible assumption | (simp <;> omega)))); (try (refine (fun (cc : wE.cell? ⟨wA.heap.size, 0, none⟩ = some (.slice none 0 0)) => ?_) ((hbE.cell (p := ⟨wA.heap.size, 0, none⟩) ?_).trans ?_); rotate_left; (first | with_reducible assumption | (simp <;> omega)); (first | with_reducible assumption | (focus (go_simp; done))))); (try (refine (fun (ff : wE.frozen? ⟨wA.heap.size, 0, none⟩ = false) => ?_) ((hbE.frozen (p := ⟨wA.heap.size, 0, none⟩) ?_).trans ?_); rotate_left; (first | with_reducible assumption | (simp <;> omega)); (first | with_reducible assumption | (focus (go_simp; done))))); (try (refine (fun (cc : wE.cell? ⟨wA.heap.size, 1, none⟩ = some (.int .i64 0)) => ?_) ((hbE.cell (p := ⟨wA.heap.size, 1, none⟩) ?_).trans ?_); rotate_left; (first | with_reducible assumption | (simp <;> omega)); (first | with_reducible assumption | (focus (go_simp; done))))); (try (refine (fun (ff : wE.frozen? ⟨wA.heap.size, 1, none⟩ = false) => ?_) ((hbE.frozen (p := ⟨wA.heap.size, 1, none⟩) ?_).trans ?_); rotate_left; (first | with_reducible assumption | (simp <;> omega)); (first | with_reducible assumption | (focus (go_simp; done)))))) | (go_at_call 16; (with_reducible refine (HSP.out _ _ _ (hnewA.inR.keep (by repeat' (first | with_reducible exact Below.refl _ _ | with_reducible apply b_alloc | with_reducible apply b_drew | with_reducible apply b_set | (refine @bel_trans _ ?_ _ ?_ ?_; rotate_right; with_reducible assumption)))).edges (hnewE.inR.keep (by repeat' (first | with_reducible exact Below.refl _ _ | with_reducible apply b_alloc | with_reducible apply b_drew | with_reducible apply b_set | (refine @bel_trans _ ?_ _ ?_ ?_; rotate_right; with_reducible assumption)))).rowI hnewA.ok).mono ?_); rintro e wC ⟨v, rfl, hown, hbC⟩; obtain ⟨va, vc, rfl⟩ := hown.slice; (try (refine (fun (zz : w3.heap.size < wC.heap.size) => ?_) (Nat.lt_of_lt_of_le ?_ hbC.size); rotate_right; (first | with_reducible assumption | (simp <;> omega)))); (try (refine (fun (cc : wC.cell? ⟨w3.heap.size, 0, none⟩ = some (.slice none 0 0)) => ?_) ((hbC.cell (p := ⟨w3.heap.size, 0, none⟩) ?_).trans ?_); rotate_left; (first | with_reducible assumption | (simp <;> omega)); (first | with_reducible assumption | (focus (go_simp; done))))); (try (refine (fun (ff : wC.frozen? ⟨w3.heap.size, 0, none⟩ = false) => ?_) ((hbC.frozen (p := ⟨w3.heap.size, 0, none⟩) ?_).trans ?_); rotate_left; (first | with_reducible assumption | (simp <;> omega)); (first | with_reducible assumption | (focus (go_simp; done))))); (try (refine (fun (cc : wC.cell? ⟨w3.heap.size, 1, none⟩ = some (.int .i64 0)) => ?_) ((hbC.cell (p := ⟨w3.heap.size, 1, none⟩) ?_).trans ?_); rotate_left; (first | with_reducible assumption | (simp <;> omega)); (first | with_reducible assumption | (focus (go_simp; done))))); (try (refine (fun (ff : wC.frozen? ⟨w3.heap.size, 1, none⟩ = false) => ?_) ((hbC.frozen (p := ⟨w3.heap.size, 1, none⟩) ?_).trans ?_); rotate_left; (first | with_reducible assumption | (simp <;> omega)); (first | with_reducible assumption | (focus (go_simp; done))))); (try (refine (fun (zz : wA.heap.size < wC.heap.size) => ?_) (Nat.lt_of_lt_of_le ?_ hbC.size); rotate_right; (first | with_reducible assumption | (simp <;> omega)))); (try (refine (fun (cc : wC.cell? ⟨wA.heap.size, 0, none⟩ = some (.slice none 0 0)) => ?_) ((hbC.cell (p := ⟨wA.heap.size, 0, none⟩) ?_).trans ?_); rotate_left; (first | with_reducible assumption | (simp <;> omega)); (first | with_reducible assumption | (focus (go_simp; done))))); (try (refine (fun (ff : wC.frozen? ⟨wA.heap.size, 0, none⟩ = false) => ?_) ((hbC.frozen (p := ⟨wA.heap.size, 0, none⟩) ?_).trans ?_); rotate_left; (first | with_reducible assumption | (simp <;> omega)); (first | with_reducible assumption | (focus (go_simp; done))))); (try (refine (fun (cc : wC.cell? ⟨wA.heap.size, 1, none⟩ = some (.int .i64 0)) => ?_) ((hbC.cell (p := ⟨wA.heap.size, 1, none⟩) ?_).trans ?_); rotate_left; (first | with_reducible assumption | (simp <;> omega)); (first | with_reducible assumption | (focus (go_simp; done))))); (try (refine (fun (ff : wC.frozen? ⟨wA.heap.size, 1, none⟩ = false) => ?_) ((hbC.frozen (p := ⟨wA.heap.size, 1, none⟩) ?_).trans ?_); rotate_left; (first | with_reducible assumption | (simp <;> omega)); (first | with_reducible assumption | (focus (go_simp; done))))); (try (refine (fun (zz : wE.heap.size < wC.heap.size) => ?_) (Nat.lt_of_lt_of_le ?_ hbC.size); rotate_right; (first | with_reducible assumption | (simp <;> omega)))); (try (refine (fun (cc : wC.cell? ⟨wE.heap.size, 0, none⟩ = some (.slice none 0 0)) => ?_) ((hbC.cell (p := ⟨wE.heap.size, 0, none⟩) ?_).trans ?_); rotate_left; (first | with_reducible assumption | (simp <;> omega)); (first | with_reducible assumption | (focus (go_simp; done))))); (try (refine (fun (ff : wC.frozen? ⟨wE.heap.size, 0, none⟩ = false) => ?_) ((hbC.frozen (p := ⟨wE.heap.size, 0, none⟩) ?_).trans ?_); rotate_left; (first | with_reducible assumption | (simp <;> omega)); (first | with_reducible assumption | (focus (go_simp; done))))); (try (refine (fun (cc : wC.cell? ⟨wE.heap.size, 1, none⟩ = some (.int .i64 0)) => ?_) ((hbC.cell (p := ⟨wE.heap.size, 1, none⟩) ?_).trans ?_); rotate_left; (first | with_reducible assumption | (simp <;> omega)); (first | with_reducible assumption | (focus (go_simp; done))))); (try (refine (fun (ff : wC.frozen? ⟨wE.heap.size, 1, none⟩ = false) => ?_) ((hbC.frozen (p := ⟨wE.heap.size, 1, none⟩) ?_).trans ?_); rotate_left; (first | with_reducible assumption | (simp <;> omega)); (first | with_reducible assumption | (focus (go_simp; done)))))))
    all_goals
      go_wp2_with fail
      go_meet
      first | (refine ⟨?_, rfl⟩; apply box_endP; (case ho => with_reducible assumption); (case hc => with_reducible assumption); (case hb => repeat' (first | with_reducible exact Below.refl _ _ | with_reducible apply b_alloc | with_reducible apply b_drew | with_reducible apply b_set | (refine @bel_trans _ ?_ _ ?_ ?_; rotate_right; with_reducible assumption))); done) | (refine ⟨?_, rfl⟩; apply box_midP (T := 30) (N0 := 0) (v0 := .slice none 0 0); (case ho => with_reducible assumption); (case hc => with_reducible assumption); (case hb => repeat' (first | with_reducible exact Below.refl _ _ | with_reducible apply b_alloc | with_reducible apply b_drew | with_reducible apply b_set | (refine @bel_trans _ ?_ _ ?_ ?_; rotate_right; with_reducible assumption))); (case hx => repeat' (first | with_reducible exact Below.refl _ _ | with_reducible apply b_alloc | with_reducible apply b_drew | with_reducible apply b_set | (refine @bel_trans _ ?_ _ ?_ ?_; rotate_right; with_reducible assumption))); done)
  obtain ⟨w4, hw4⟩ : ∃ w4, w4 = wc := ⟨_, rfl⟩
  subst hw4
  obtain ⟨⟨gbV, vaV, vcV, loV, hiV, rfl, ⟨hq0, hq1⟩, hrow, ⟨hge, hlt⟩, ⟨hlo, hhi⟩, hdj, hb4⟩, rfl⟩ := hcut
  have H4 := bel_trans H3 hb4
  have SZ4 := Lib.hid hb4.size
  have qa00_4 := (hb4.cell (p := ⟨w0.heap.size, 0, none⟩) za0_3).trans qa00_3
  have qa01_4 := (hb4.cell (p := ⟨w0.heap.size, 1, none⟩) za0_3).trans qa01_3
  have za0_4 := Nat.lt_of_lt_of_le za0_3 hb4.size
  have qa20_4 := (hb4.cell (p := ⟨w0.heap.size + 1, 0, none⟩) za2_3).trans qa20_3
  have qa21_4 := (hb4.cell (p := ⟨w0.heap.size + 1, 1, none⟩) za2_3).trans qa21_3
  have za2_4 := Nat.lt_of_lt_of_le za2_3 hb4.size
  have R0_4 := Lib.hid (R0_3.out.keep hb4)
  have R2_4 := Lib.hid (R2_3.out.keep hb4)
  have GEbV := Lib.hid hge
  have ZBbV := Lib.hid hlt
  have LOV := Lib.hid hlo
  have HIV := Lib.hid hhi
  have DJbV := Lib.hid hdj
  have qbV0_4 := hq0
  have qbV1_4 := hq1
  have zbV_4 := hlt
  have V_4 := Lib.hid hrow
  clear hq0 hq1 hrow hge hlt hlo hhi hdj
  clear qa00_3 qa01_3 za0_3 qa20_3 qa21_3 za2_3 R0_3 R2_3
  go_wp2_with fail
  refine (toGraph n0 e0 _ _ R0_4.out.edges hb0g).mono ?_
  rintro e w5 ⟨_, rfl, hnew, hb5⟩
  have H5 := bel_trans H4 hb5
  have SZ5 := Lib.hid hb5.size
  have qa00_5 := (hb5.cell (p := ⟨w0.heap.size, 0, none⟩) za0_4).trans qa00_4
  have qa01_5 := (hb5.cell (p := ⟨w0.heap.size, 1, none⟩) za0_4).trans qa01_4
  have za0_5 := Nat.lt_of_lt_of_le za0_4 hb5.size
  have qa20_5 := (hb5.cell (p := ⟨w0.heap.size + 1, 0, none⟩) za2_4).trans qa20_4
  have qa21_5 := (hb5.cell (p := ⟨w0.heap.size + 1, 1, none⟩) za2_4).trans qa21_4
  have za2_5 := Nat.lt_of_lt_of_le za2_4 hb5.size
  have qbV0_5 := (hb5.cell (p := ⟨gbV, 0, none⟩) zbV_4).trans qbV0_4
  have qbV1_5 := (hb5.cell (p := ⟨gbV, 1, none⟩) zbV_4).trans qbV1_4
  have zbV_5 := Nat.lt_of_lt_of_le zbV_4 hb5.size
  have R0_5 := Lib.hid (R0_4.out.keep hb5)
  have R2_5 := Lib.hid (R2_4.out.keep hb5)
  have V_5 := Lib.hid (V_4.out.keep hb5)
  have OKX0 := Lib.hid hnew.ok
  obtain ⟨gX0, capX0, rfl, hgX0, hrowX0⟩ := hnew
  have X0_5 := Lib.hid (NewE.inR ⟨gX0, capX0, rfl, hgX0, hrowX0⟩)
  clear qa00_4 qa01_4 za0_4 qa20_4 qa21_4 za2_4 R0_4 R2_4 qbV0_4 qbV1_4 zbV_4 V_4
  clear hgX0 hrowX0
  go_wp2_with fail
  have hb6 : Below w5.heap.size w5 (w5.alloc (.cells #[.int .i64 n0, .slice (some ⟨gX0, 0, none⟩) e0.length capX0] 35)) := (Below.refl _ _).alloc (by simp <;> omega) _
  have H6 := bel_trans H5 hb6
  have SZ6 := Lib.hid hb6.size
  have qa00_6 := (hb6.cell (p := ⟨w0.heap.size, 0, none⟩) za0_5).trans qa00_5
  have qa01_6 := (hb6.cell (p := ⟨w0.heap.size, 1, none⟩) za0_5).trans qa01_5
  have za0_6 := Nat.lt_of_lt_of_le za0_5 hb6.size
  have qa20_6 := (hb6.cell (p := ⟨w0.heap.size + 1, 0, none⟩) za2_5).trans qa20_5
  have qa21_6 := (hb6.cell (p := ⟨w0.heap.size + 1, 1, none⟩) za2_5).trans qa21_5
  have za2_6 := Nat.lt_of_lt_of_le za2_5 hb6.size
  have qbV0_6 := (hb6.cell (p := ⟨gbV, 0, none⟩) zbV_5).trans qbV0_5
  have qbV1_6 := (hb6.cell (p := ⟨gbV, 1, none⟩) zbV_5).trans qbV1_5
  have zbV_6 := Nat.lt_of_lt_of_le zbV_5 hb6.size
  have R0_6 := Lib.hid (R0_5.out.keep hb6)
  have R2_6 := Lib.hid (R2_5.out.keep hb6)
  have V_6 := Lib.hid (V_5.out.keep hb6)
  have X0_6 := Lib.hid (X0_5.out.keep hb6)
  have qx00_6 : (w5.alloc (.cells #[.int .i64 n0, .slice (some ⟨gX0, 0, none⟩) e0.length capX0] 35)).cell? ⟨w5.heap.size, 0, none⟩ = some (.int .i64 n0) := by go_simp
  have qx01_6 : (w5.alloc (.cells #[.int .i64 n0, .slice (some ⟨gX0, 0, none⟩) e0.length capX0] 35)).cell? ⟨w5.heap.size, 1, none⟩ = some (.slice (some ⟨gX0, 0, none⟩) e0.length capX0) := by go_simp
  have zx0_6 : w5.heap.size < (w5.alloc (.cells #[.int .i64 n0, .slice (some ⟨gX0, 0, none⟩) e0.length capX0] 35)).heap.size := by simp <;> omega
  generalize (w5.alloc (.cells #[.int .i64 n0, .slice (some ⟨gX0, 0, none⟩) e0.length capX0] 35)) = w6 at hb6 H6 SZ6 R0_6 R2_6 V_6 X0_6 qa00_6 qa01_6 qa20_6 qa21_6 qbV0_6 qbV1_6 qx00_6 qx01_6 za0_6 za2_6 zbV_6 zx0_6 ⊢
  have ZBx0 := Lib.hid zx0_6
  clear qa00_5 qa01_5 za0_5 qa20_5 qa21_5 za2_5 qbV0_5 qbV1_5 zbV_5 R0_5 R2_5 V_5 X0_5
  go_wp2_with fail
  refine (toPath x2 i2 _ _ R2_6.out.rowI hb2g).mono ?_
  rintro e w7 ⟨_, rfl, hnew, hb7⟩
  have H7 := bel_trans H6 hb7
  have SZ7 := Lib.hid hb7.size
  have qa00_7 := (hb7.cell (p := ⟨w0.heap.size, 0, none⟩) za0_6).trans qa00_6
  have qa01_7 := (hb7.cell (p := ⟨w0.heap.size, 1, none⟩) za0_6).trans qa01_6
  have za0_7 := Nat.lt_of_lt_of_le za0_6 hb7.size
  have qa20_7 := (hb7.cell (p := ⟨w0.heap.size + 1, 0, none⟩) za2_6).trans qa20_6
  have qa21_7 := (hb7.cell (p := ⟨w0.heap.size + 1, 1, none⟩) za2_6).trans qa21_6
  have za2_7 := Nat.lt_of_lt_of_le za2_6 hb7.size
  have qbV0_7 := (hb7.cell (p := ⟨gbV, 0, none⟩) zbV_6).trans qbV0_6
  have qbV1_7 := (hb7.cell (p := ⟨gbV, 1, none⟩) zbV_6).trans qbV1_6
  have zbV_7 := Nat.lt_of_lt_of_le zbV_6 hb7.size
  have qx00_7 := (hb7.cell (p := ⟨w5.heap.size, 0, none⟩) zx0_6).trans qx00_6
  have qx01_7 := (hb7.cell (p := ⟨w5.heap.size, 1, none⟩) zx0_6).trans qx01_6
  have zx0_7 := Nat.lt_of_lt_of_le zx0_6 hb7.size
  have R0_7 := Lib.hid (R0_6.out.keep hb7)
  have R2_7 := Lib.hid (R2_6.out.keep hb7)
  have V_7 := Lib.hid (V_6.out.keep hb7)
  have X0_7 := Lib.hid (X0_6.out.keep hb7)
  obtain ⟨gX2, capX2, rfl, hgX2, hrowX2⟩ := hnew
  have X2_7 := Lib.hid (NewI.inR ⟨gX2, capX2, rfl, hgX2, hrowX2⟩)
  clear qa00_6 qa01_6 za0_6 qa20_6 qa21_6 za2_6 qbV0_6 qbV1_6 zbV_6 R0_6 R2_6 V_6 X0_6 qx00_6 qx01_6 zx0_6
  clear hgX2 hrowX2
  go_wp2_with fail
  have hb8 : Below w7.heap.size w7 (w7.alloc (.cells #[.slice (some ⟨gX2, 0, none⟩) i2.length capX2, .int .i64 x2] 30)) := (Below.refl _ _).alloc (by simp <;> omega) _
  have H8 := bel_trans H7 hb8
  have SZ8 := Lib.hid hb8.size
  have qa00_8 := (hb8.cell (p := ⟨w0.heap.size, 0, none⟩) za0_7).trans qa00_7
  have qa01_8 := (hb8.cell (p := ⟨w0.heap.size, 1, none⟩) za0_7).trans qa01_7
  have za0_8 := Nat.lt_of_lt_of_le za0_7 hb8.size
  have qa20_8 := (hb8.cell (p := ⟨w0.heap.size + 1, 0, none⟩) za2_7).trans qa20_7
  have qa21_8 := (hb8.cell (p := ⟨w0.heap.size + 1, 1, none⟩) za2_7).trans qa21_7
  have za2_8 := Nat.lt_of_lt_of_le za2_7 hb8.size
  have qbV0_8 := (hb8.cell (p := ⟨gbV, 0, none⟩) zbV_7).trans qbV0_7
  have qbV1_8 := (hb8.cell (p := ⟨gbV, 1, none⟩) zbV_7).trans qbV1_7
  have zbV_8 := Nat.lt_of_lt_of_le zbV_7 hb8.size
  have qx00_8 := (hb8.cell (p := ⟨w5.heap.size, 0, none⟩) zx0_7).trans qx00_7
  have qx01_8 := (hb8.cell (p := ⟨w5.heap.size, 1, none⟩) zx0_7).trans qx01_7
  have zx0_8 := Nat.lt_of_lt_of_le zx0_7 hb8.size
  have R0_8 := Lib.hid (R0_7.out.keep hb8)
  have R2_8 := Lib.hid (R2_7.out.keep hb8)
  have V_8 := Lib.hid (V_7.out.keep hb8)
  have X0_8 := Lib.hid (X0_7.out.keep hb8)
  have X2_8 := Lib.hid (X2_7.out.keep hb8)
  have qx20_8 : (w7.alloc (.cells #[.slice (some ⟨gX2, 0, none⟩) i2.length capX2, .int .i64 x2] 30)).cell? ⟨w7.heap.size, 0, none⟩ = some (.slice (some ⟨gX2, 0, none⟩) i2.length capX2) := by go_simp
  have qx21_8 : (w7.alloc (.cells #[.slice (some ⟨gX2, 0, none⟩) i2.length capX2, .int .i64 x2] 30)).cell? ⟨w7.heap.size, 1, none⟩ = some (.int .i64 x2) := by go_simp
  have zx2_8 : w7.heap.size < (w7.alloc (.cells #[.slice (some ⟨gX2, 0, none⟩) i2.length capX2, .int .i64 x2] 30)).heap.size := by simp <;> omega
  generalize (w7.alloc (.cells #[.slice (some ⟨gX2, 0, none⟩) i2.length capX2, .int .i64 x2] 30)) = w8 at hb8 H8 SZ8 R0_8 R2_8 V_8 X0_8 X2_8 qa00_8 qa01_8 qa20_8 qa21_8 qbV0_8 qbV1_8 qx00_8 qx01_8 qx20_8 qx21_8 za0_8 za2_8 zbV_8 zx0_8 zx2_8 ⊢
  have ZBx2 := Lib.hid zx2_8
  clear qa00_7 qa01_7 za0_7 qa20_7 qa21_7 za2_7 qbV0_7 qbV1_7 zbV_7 qx00_7 qx01_7 zx0_7 R0_7 R2_7 V_7 X0_7 X2_7
  refine (HIM.out _ _ _ X0_8.out.edges X2_8.out.rowI OKX0.out).mono ?_
  rintro e w9 ⟨v, rfl, hown, hb9⟩
  have H9 := bel_trans H8 hb9
  have SZ9 := Lib.hid hb9.size
  have qa00_9 := (hb9.cell (p := ⟨w0.heap.size, 0, none⟩) za0_8).trans qa00_8
  have qa01_9 := (hb9.cell (p := ⟨w0.heap.size, 1, none⟩) za0_8).trans qa01_8
  have za0_9 := Nat.lt_of_lt_of_le za0_8 hb9.size
  have qa20_9 := (hb9.cell (p := ⟨w0.heap.size + 1, 0, none⟩) za2_8).trans qa20_8
  have qa21_9 := (hb9.cell (p := ⟨w0.heap.size + 1, 1, none⟩) za2_8).trans qa21_8
  have za2_9 := Nat.lt_of_lt_of_le za2_8 hb9.size
  have qbV0_9 := (hb9.cell (p := ⟨gbV, 0, none⟩) zbV_8).trans qbV0_8
  have qbV1_9 := (hb9.cell (p := ⟨gbV, 1, none⟩) zbV_8).trans qbV1_8
  have zbV_9 := Nat.lt_of_lt_of_le zbV_8 hb9.size
  have qx00_9 := (hb9.cell (p := ⟨w5.heap.size, 0, none⟩) zx0_8).trans qx00_8
  have qx01_9 := (hb9.cell (p := ⟨w5.heap.size, 1, none⟩) zx0_8).trans qx01_8
  have zx0_9 := Nat.lt_of_lt_of_le zx0_8 hb9.size
  have qx20_9 := (hb9.cell (p := ⟨w7.heap.size, 0, none⟩) zx2_8).trans qx20_8
  have qx21_9 := (hb9.cell (p := ⟨w7.heap.size, 1, none⟩) zx2_8).trans qx21_8
  have zx2_9 := Nat.lt_of_lt_of_le zx2_8 hb9.size
  have R0_9 := Lib.hid (R0_8.out.keep hb9)
  have R2_9 := Lib.hid (R2_8.out.keep hb9)
  have V_9 := Lib.hid (V_8.out.keep hb9)
  have X0_9 := Lib.hid (X0_8.out.keep hb9)
  have X2_9 := Lib.hid (X2_8.out.keep hb9)
  obtain ⟨vaG, vcG, rfl, hvz⟩ := id hown
  clear hvz
  have G_9 := Lib.hid (hown)
  clear qa00_8 qa01_8 za0_8 qa20_8 qa21_8 za2_8 qbV0_8 qbV1_8 zbV_8 qx00_8 qx01_8 zx0_8 R0_8 R2_8 V_8 X0_8 X2_8 qx20_8 qx21_8 zx2_8
  clear hown
  go_wp2_with fail
  have hb10 : Below w9.heap.size w9 (w9.alloc (.cells #[.slice vaG ls.length vcG, .int .i64 N] 30)) := (Below.refl _ _).alloc (by simp <;> omega) _
  have H10 := bel_trans H9 hb10
  have SZ10 := Lib.hid hb10.size
  have qa00_10 := (hb10.cell (p := ⟨w0.heap.size, 0, none⟩) za0_9).trans qa00_9
  have qa01_10 := (hb10.cell (p := ⟨w0.heap.size, 1, none⟩) za0_9).trans qa01_9
  have za0_10 := Nat.lt_of_lt_of_le za0_9 hb10.size
  have qa20_10 := (hb10.cell (p := ⟨w0.heap.size + 1, 0, none⟩) za2_9).trans qa20_9
  have qa21_10 := (hb10.cell (p := ⟨w0.heap.size + 1, 1, none⟩) za2_9).trans qa21_9
  have za2_10 := Nat.lt_of_lt_of_le za2_9 hb10.size
  have qbV0_10 := (hb10.cell (p := ⟨gbV, 0, none⟩) zbV_9).trans qbV0_9
  have qbV1_10 := (hb10.cell (p := ⟨gbV, 1, none⟩) zbV_9).trans qbV1_9
  have zbV_10 := Nat.lt_of_lt_of_le zbV_9 hb10.size
  have qx00_10 := (hb10.cell (p := ⟨w5.heap.size, 0, none⟩) zx0_9).trans qx00_9
  have qx01_10 := (hb10.cell (p := ⟨w5.heap.size, 1, none⟩) zx0_9).trans qx01_9
  have zx0_10 := Nat.lt_of_lt_of_le zx0_9 hb10.size
  have qx20_10 := (hb10.cell (p := ⟨w7.heap.size, 0, none⟩) zx2_9).trans qx20_9
  have qx21_10 := (hb10.cell (p := ⟨w7.heap.size, 1, none⟩) zx2_9).trans qx21_9
  have zx2_10 := Nat.lt_of_lt_of_le zx2_9 hb10.size
  have R0_10 := Lib.hid (R0_9.out.keep hb10)
  have R2_10 := Lib.hid (R2_9.out.keep hb10)
  have V_10 := Lib.hid (V_9.out.keep hb10)
  have X0_10 := Lib.hid (X0_9.out.keep hb10)
  have X2_10 := Lib.hid (X2_9.out.keep hb10)
  have G_10 := Lib.hid (G_9.out.keep hb10)
  have qbG0_10 : (w9.alloc (.cells #[.slice vaG ls.length vcG, .int .i64 N] 30)).cell? ⟨w9.heap.size, 0, none⟩ = some (.slice vaG ls.length vcG) := by go_simp
  have qbG1_10 : (w9.alloc (.cells #[.slice vaG ls.length vcG, .int .i64 N] 30)).cell? ⟨w9.heap.size, 1, none⟩ = some (.int .i64 N) := by go_simp
  have zbG_10 : w9.heap.size < (w9.alloc (.cells #[.slice vaG ls.length vcG, .int .i64 N] 30)).heap.size := by simp <;> omega
  generalize (w9.alloc (.cells #[.slice vaG ls.length vcG, .int .i64 N] 30)) = w10 at hb10 H10 SZ10 G_10 R0_10 R2_10 V_10 X0_10 X2_10 qa00_10 qa01_10 qa20_10 qa21_10 qbG0_10 qbG1_10 qbV0_10 qbV1_10 qx00_10 qx01_10 qx20_10 qx21_10 za0_10 za2_10 zbG_10 zbV_10 zx0_10 zx2_10 ⊢
  have ZBbG := Lib.hid zbG_10
  clear qa00_9 qa01_9 za0_9 qa20_9 qa21_9 za2_9 qbV0_9 qbV1_9 zbV_9 qx00_9 qx01_9 zx0_9 qx20_9 qx21_9 zx2_9 R0_9 R2_9 V_9 X0_9 X2_9 G_9
  refine (eqPath N ls _ _ _ G_10.out.rowI V_10.out.rowI hln).mono ?_
  rintro e w11 ⟨rfl, hb11⟩
  have H11 := bel_trans H10 hb11
  have SZ11 := Lib.hid hb11.size
  have qa00_11 := (hb11.cell (p := ⟨w0.heap.size, 0, none⟩) za0_10).trans qa00_10
  have qa01_11 := (hb11.cell (p := ⟨w0.heap.size, 1, none⟩) za0_10).trans qa01_10
  have za0_11 := Nat.lt_of_lt_of_le za0_10 hb11.size
  have qa20_11 := (hb11.cell (p := ⟨w0.heap.size + 1, 0, none⟩) za2_10).trans qa20_10
  have qa21_11 := (hb11.cell (p := ⟨w0.heap.size + 1, 1, none⟩) za2_10).trans qa21_10
  have za2_11 := Nat.lt_of_lt_of_le za2_10 hb11.size
  have qbV0_11 := (hb11.cell (p := ⟨gbV, 0, none⟩) zbV_10).trans qbV0_10
  have qbV1_11 := (hb11.cell (p := ⟨gbV, 1, none⟩) zbV_10).trans qbV1_10
  have zbV_11 := Nat.lt_of_lt_of_le zbV_10 hb11.size
  have qx00_11 := (hb11.cell (p := ⟨w5.heap.size, 0, none⟩) zx0_10).trans qx00_10
  have qx01_11 := (hb11.cell (p := ⟨w5.heap.size, 1, none⟩) zx0_10).trans qx01_10
  have zx0_11 := Nat.lt_of_lt_of_le zx0_10 hb11.size
  have qx20_11 := (hb11.cell (p := ⟨w7.heap.size, 0, none⟩) zx2_10).trans qx20_10
  have qx21_11 := (hb11.cell (p := ⟨w7.heap.size, 1, none⟩) zx2_10).trans qx21_10
  have zx2_11 := Nat.lt_of_lt_of_le zx2_10 hb11.size
  have qbG0_11 := (hb11.cell (p := ⟨w9.heap.size, 0, none⟩) zbG_10).trans qbG0_10
  have qbG1_11 := (hb11.cell (p := ⟨w9.heap.size, 1, none⟩) zbG_10).trans qbG1_10
  have zbG_11 := Nat.lt_of_lt_of_le zbG_10 hb11.size
  have R0_11 := Lib.hid (R0_10.out.keep hb11)
  have R2_11 := Lib.hid (R2_10.out.keep hb11)
  have V_11 := Lib.hid (V_10.out.keep hb11)
  have X0_11 := Lib.hid (X0_10.out.keep hb11)
  have X2_11 := Lib.hid (X2_10.out.keep hb11)
  have G_11 := Lib.hid (G_10.out.keep hb11)
  clear qa00_10 qa01_10 za0_10 qa20_10 qa21_10 za2_10 qbV0_10 qbV1_10 zbV_10 qx00_10 qx01_10 zx0_10 qx20_10 qx21_10 zx2_10 R0_10 R2_10 V_10 X0_10 X2_10 G_10 qbG0_10 qbG1_10 zbG_10
  go_wp2_with fail
  have hold : ∀ w' : World, Below w11.heap.size w11 w' → (w'.cell? ⟨w5.heap.size, 0, none⟩ = some (.int .i64 n0) ∧ w'.cell? ⟨w5.heap.size, 1, none⟩ = some (.slice (some ⟨gX0, 0, none⟩) e0.length capX0) ∧ w'.cell? ⟨w0.heap.size, 0, none⟩ = some (.int .i64 n0) ∧ w'.cell? ⟨w0.heap.size, 1, none⟩ = some (.slice ad0 e0.length cp0)) := fun w' h => ⟨(h.cell (p := ⟨w5.heap.size, 0, none⟩) zx0_11).trans qx00_11, (h.cell (p := ⟨w5.heap.size, 1, none⟩) zx0_11).trans qx01_11, (h.cell (p := ⟨w0.heap.size, 0, none⟩) za0_11).trans qa00_11, (h.cell (p := ⟨w0.heap.size, 1, none⟩) za0_11).trans qa01_11⟩
  have HOLD := Lib.hid hold
  clear hold
  go_region_held3 (fun w' : World => w'.cell? ⟨w5.heap.size, 0, none⟩ = some (.int .i64 n0) ∧ w'.cell? ⟨w5.heap.size, 1, none⟩ = some (.slice (some ⟨gX0, 0, none⟩) e0.length capX0) ∧ w'.cell? ⟨w0.heap.size, 0, none⟩ = some (.int .i64 n0) ∧ w'.cell? ⟨w0.heap.size, 1, none⟩ = some (.slice ad0 e0.length cp0)) (first | exact HOLD.out _ ((Below.refl _ _).drew) | exact HOLD.out _ (bel_trans ((Below.refl _ _).drew) hb12) | exact HOLD.out _ (bel_trans (bel_trans ((Below.refl _ _).drew) hb12) hb13)) (first | (go_at_call 8; (with_reducible refine (toGraph n0 e0 _ _ (R0_11.out.keep ((Below.refl _ _).drew)).edges hb0g).mono ?_); rintro e w12 ⟨sB0, rfl, hnew0, hb12⟩) | (go_at_call 12; (with_reducible refine (eqGraph n0 e0 _ _ _ (X0_11.out.keep (bel_trans ((Below.refl _ _).drew) hb12)).edges hnew0.row hb0g).mono ?_); rintro e w13 ⟨rfl, hb13⟩))
  have hq : Below w11.heap.size w11 w13 := (bel_trans (bel_trans ((Below.refl _ _).drew) hb12) hb13)
  clear hb12 hb13 HOLD hnew0
  have hb13 := hq
  clear hq
  have H13 := bel_trans H11 hb13
  have SZ13 := Lib.hid hb13.size
  have qa00_13 := (hb13.cell (p := ⟨w0.heap.size, 0, none⟩) za0_11).trans qa00_11
  have qa01_13 := (hb13.cell (p := ⟨w0.heap.size, 1, none⟩) za0_11).trans qa01_11
  have za0_13 := Nat.lt_of_lt_of_le za0_11 hb13.size
  have qa20_13 := (hb13.cell (p := ⟨w0.heap.size + 1, 0, none⟩) za2_11).trans qa20_11
  have qa21_13 := (hb13.cell (p := ⟨w0.heap.size + 1, 1, none⟩) za2_11).trans qa21_11
  have za2_13 := Nat.lt_of_lt_of_le za2_11 hb13.size
  have qbV0_13 := (hb13.cell (p := ⟨gbV, 0, none⟩) zbV_11).trans qbV0_11
  have qbV1_13 := (hb13.cell (p := ⟨gbV, 1, none⟩) zbV_11).trans qbV1_11
  have zbV_13 := Nat.lt_of_lt_of_le zbV_11 hb13.size
  have qx00_13 := (hb13.cell (p := ⟨w5.heap.size, 0, none⟩) zx0_11).trans qx00_11
  have qx01_13 := (hb13.cell (p := ⟨w5.heap.size, 1, none⟩) zx0_11).trans qx01_11
  have zx0_13 := Nat.lt_of_lt_of_le zx0_11 hb13.size
  have qx20_13 := (hb13.cell (p := ⟨w7.heap.size, 0, none⟩) zx2_11).trans qx20_11
  have qx21_13 := (hb13.cell (p := ⟨w7.heap.size, 1, none⟩) zx2_11).trans qx21_11
  have zx2_13 := Nat.lt_of_lt_of_le zx2_11 hb13.size
  have qbG0_13 := (hb13.cell (p := ⟨w9.heap.size, 0, none⟩) zbG_11).trans qbG0_11
  have qbG1_13 := (hb13.cell (p := ⟨w9.heap.size, 1, none⟩) zbG_11).trans qbG1_11
  have zbG_13 := Nat.lt_of_lt_of_le zbG_11 hb13.size
  have R0_13 := Lib.hid (R0_11.out.keep hb13)
  have R2_13 := Lib.hid (R2_11.out.keep hb13)
  have V_13 := Lib.hid (V_11.out.keep hb13)
  have X0_13 := Lib.hid (X0_11.out.keep hb13)
  have X2_13 := Lib.hid (X2_11.out.keep hb13)
  have G_13 := Lib.hid (G_11.out.keep hb13)
  clear qa00_11 qa01_11 za0_11 qa20_11 qa21_11 za2_11 qbV0_11 qbV1_11 zbV_11 qx00_11 qx01_11 zx0_11 qx20_11 qx21_11 zx2_11 qbG0_11 qbG1_11 zbG_11 R0_11 R2_11 V_11 X0_11 X2_11 G_11
  go_wp2_with fail
  have hold : ∀ w' : World, Below w13.heap.size w13 w' → (w'.cell? ⟨w7.heap.size, 0, none⟩ = some (.slice (some ⟨gX2, 0, none⟩) i2.length capX2) ∧ w'.cell? ⟨w7.heap.size, 1, none⟩ = some (.int .i64 x2) ∧ w'.cell? ⟨w0.heap.size + 1, 0, none⟩ = some (.slice ad2 i2.length cp2) ∧ w'.cell? ⟨w0.heap.size + 1, 1, none⟩ = some (.int .i64 x2)) := fun w' h => ⟨(h.cell (p := ⟨w7.heap.size, 0, none⟩) zx2_13).trans qx20_13, (h.cell (p := ⟨w7.heap.size, 1, none⟩) zx2_13).trans qx21_13, (h.cell (p := ⟨w0.heap.size + 1, 0, none⟩) za2_13).trans qa20_13, (h.cell (p := ⟨w0.heap.size + 1, 1, none⟩) za2_13).trans qa21_13⟩
  have HOLD := Lib.hid hold
  clear hold
  go_region_held3 (fun w' : World => w'.cell? ⟨w7.heap.size, 0, none⟩ = some (.slice (some ⟨gX2, 0, none⟩) i2.length capX2) ∧ w'.cell? ⟨w7.heap.size, 1, none⟩ = some (.int .i64 x2) ∧ w'.cell? ⟨w0.heap.size + 1, 0, none⟩ = some (.slice ad2 i2.length cp2) ∧ w'.cell? ⟨w0.heap.size + 1, 1, none⟩ = some (.int .i64 x2)) (first | exact HOLD.out _ ((Below.refl _ _).drew) | exact HOLD.out _ (bel_trans ((Below.refl _ _).drew) hb14) | exact HOLD.out _ (bel_trans (bel_trans ((Below.refl _ _).drew) hb14) hb15)) (first | (go_at_call 9; (with_reducible refine (toPath x2 i2 _ _ (R2_13.out.keep ((Below.refl _ _).drew)).rowI hb2g).mono ?_); rintro e w14 ⟨sB2, rfl, hnew2, hb14⟩) | (go_at_call 11; (with_reducible refine (eqPath x2 i2 _ _ _ (X2_13.out.keep (bel_trans ((Below.refl _ _).drew) hb14)).rowI hnew2.row hb2g).mono ?_); rintro e w15 ⟨rfl, hb15⟩))
  have hq : Below w13.heap.size w13 w15 := (bel_trans (bel_trans ((Below.refl _ _).drew) hb14) hb15)
  clear hb14 hb15 HOLD hnew2
  have hb15 := hq
  clear hq
  have H15 := bel_trans H13 hb15
  have SZ15 := Lib.hid hb15.size
  have qa00_15 := (hb15.cell (p := ⟨w0.heap.size, 0, none⟩) za0_13).trans qa00_13
  have qa01_15 := (hb15.cell (p := ⟨w0.heap.size, 1, none⟩) za0_13).trans qa01_13
  have za0_15 := Nat.lt_of_lt_of_le za0_13 hb15.size
  have qa20_15 := (hb15.cell (p := ⟨w0.heap.size + 1, 0, none⟩) za2_13).trans qa20_13
  have qa21_15 := (hb15.cell (p := ⟨w0.heap.size + 1, 1, none⟩) za2_13).trans qa21_13
  have za2_15 := Nat.lt_of_lt_of_le za2_13 hb15.size
  have qbV0_15 := (hb15.cell (p := ⟨gbV, 0, none⟩) zbV_13).trans qbV0_13
  have qbV1_15 := (hb15.cell (p := ⟨gbV, 1, none⟩) zbV_13).trans qbV1_13
  have zbV_15 := Nat.lt_of_lt_of_le zbV_13 hb15.size
  have qx00_15 := (hb15.cell (p := ⟨w5.heap.size, 0, none⟩) zx0_13).trans qx00_13
  have qx01_15 := (hb15.cell (p := ⟨w5.heap.size, 1, none⟩) zx0_13).trans qx01_13
  have zx0_15 := Nat.lt_of_lt_of_le zx0_13 hb15.size
  have qx20_15 := (hb15.cell (p := ⟨w7.heap.size, 0, none⟩) zx2_13).trans qx20_13
  have qx21_15 := (hb15.cell (p := ⟨w7.heap.size, 1, none⟩) zx2_13).trans qx21_13
  have zx2_15 := Nat.lt_of_lt_of_le zx2_13 hb15.size
  have qbG0_15 := (hb15.cell (p := ⟨w9.heap.size, 0, none⟩) zbG_13).trans qbG0_13
  have qbG1_15 := (hb15.cell (p := ⟨w9.heap.size, 1, none⟩) zbG_13).trans qbG1_13
  have zbG_15 := Nat.lt_of_lt_of_le zbG_13 hb15.size
  have R0_15 := Lib.hid (R0_13.out.keep hb15)
  have R2_15 := Lib.hid (R2_13.out.keep hb15)
  have V_15 := Lib.hid (V_13.out.keep hb15)
  have X0_15 := Lib.hid (X0_13.out.keep hb15)
  have X2_15 := Lib.hid (X2_13.out.keep hb15)
  have G_15 := Lib.hid (G_13.out.keep hb15)
  clear qa00_13 qa01_13 za0_13 qa20_13 qa21_13 za2_13 qbV0_13 qbV1_13 zbV_13 qx00_13 qx01_13 zx0_13 qx20_13 qx21_13 zx2_13 qbG0_13 qbG1_13 zbG_13 R0_13 R2_13 V_13 X0_13 X2_13 G_13
  go_wp2_with fail
  refine (markGraph 1 n0 _ _ _ _ _ _ X0_15.out (by omega) (by omega) (by have := SZ15.out; have := SZ13.out; have := SZ11.out; have := SZ10.out; have := SZ9.out; have := SZ8.out; have := SZ7.out; have := SZ6.out; omega)).mono ?_
  rintro e w16 ⟨rfl, hrow, hb16⟩
  have H16 := bel_chg H15 hb16 (by have := SZ4.out; have := SZ3.out; have := SZ2.out; have := SZ1.out; omega)
  have SZ16 := Lib.hid hb16.size
  have qa00_16 := (hb16.cell (p := ⟨w0.heap.size, 0, none⟩) za0_15 (.inl (by have := ZBa0.out; have := SZ4.out; have := SZ3.out; have := SZ2.out; simp only; omega))).trans qa00_15
  have qa01_16 := (hb16.cell (p := ⟨w0.heap.size, 1, none⟩) za0_15 (.inl (by have := ZBa0.out; have := SZ4.out; have := SZ3.out; have := SZ2.out; simp only; omega))).trans qa01_15
  have za0_16 := Nat.lt_of_lt_of_le za0_15 hb16.size
  have qa20_16 := (hb16.cell (p := ⟨w0.heap.size + 1, 0, none⟩) za2_15 (.inl (by have := ZBa2.out; have := SZ4.out; have := SZ3.out; have := SZ2.out; simp only; omega))).trans qa20_15
  have qa21_16 := (hb16.cell (p := ⟨w0.heap.size + 1, 1, none⟩) za2_15 (.inl (by have := ZBa2.out; have := SZ4.out; have := SZ3.out; have := SZ2.out; simp only; omega))).trans qa21_15
  have za2_16 := Nat.lt_of_lt_of_le za2_15 hb16.size
  have qbV0_16 := (hb16.cell (p := ⟨gbV, 0, none⟩) zbV_15 (.inl (by have := ZBbV.out; simp only; omega))).trans qbV0_15
  have qbV1_16 := (hb16.cell (p := ⟨gbV, 1, none⟩) zbV_15 (.inl (by have := ZBbV.out; simp only; omega))).trans qbV1_15
  have zbV_16 := Nat.lt_of_lt_of_le zbV_15 hb16.size
  have qx00_16 := (hb16.cell (p := ⟨w5.heap.size, 0, none⟩) zx0_15 (.inr (by simp only; omega))).trans qx00_15
  have qx01_16 := (hb16.cell (p := ⟨w5.heap.size, 1, none⟩) zx0_15 (.inr (by simp only; omega))).trans qx01_15
  have zx0_16 := Nat.lt_of_lt_of_le zx0_15 hb16.size
  have qx20_16 := (hb16.cell (p := ⟨w7.heap.size, 0, none⟩) zx2_15 (.inr (by have := SZ7.out; have := SZ6.out; simp only; omega))).trans qx20_15
  have qx21_16 := (hb16.cell (p := ⟨w7.heap.size, 1, none⟩) zx2_15 (.inr (by have := SZ7.out; have := SZ6.out; simp only; omega))).trans qx21_15
  have zx2_16 := Nat.lt_of_lt_of_le zx2_15 hb16.size
  have qbG0_16 := (hb16.cell (p := ⟨w9.heap.size, 0, none⟩) zbG_15 (.inr (by have := SZ9.out; have := SZ8.out; have := SZ7.out; have := SZ6.out; simp only; omega))).trans qbG0_15
  have qbG1_16 := (hb16.cell (p := ⟨w9.heap.size, 1, none⟩) zbG_15 (.inr (by have := SZ9.out; have := SZ8.out; have := SZ7.out; have := SZ6.out; simp only; omega))).trans qbG1_15
  have zbG_16 := Nat.lt_of_lt_of_le zbG_15 hb16.size
  have R0_16 := Lib.hid (R0_15.out.chg hb16 (.inr (by have := SZ4.out; have := SZ3.out; have := SZ2.out; have := SZ1.out; omega)))
  have R2_16 := Lib.hid (R2_15.out.chg hb16 (.inr (by have := SZ4.out; have := SZ3.out; have := SZ2.out; have := SZ1.out; omega)))
  have V_16 := Lib.hid (V_15.out.chg hb16 (.inr (by have := HIV.out; omega)))
  have X2_16 := Lib.hid (X2_15.out.chg hb16 (.inl (by have := SZ6.out; omega)))
  have G_16 := Lib.hid (G_15.out.chg hb16 (.inl (by have := SZ8.out; have := SZ7.out; have := SZ6.out; omega)))
  have X0_16 := Lib.hid (hrow)
  clear qa00_15 qa01_15 za0_15 qa20_15 qa21_15 za2_15 qbV0_15 qbV1_15 zbV_15 qx00_15 qx01_15 zx0_15 qx20_15 qx21_15 zx2_15 qbG0_15 qbG1_15 zbG_15 R0_15 R2_15 V_15 X0_15 X2_15 G_15
  clear hrow
  go_wp2_with fail
  refine (markPath (1 + e0.length * 3) x2 _ _ _ _ _ _ X2_16.out (by omega) (by omega) (by have := SZ16.out; have := SZ15.out; have := SZ13.out; have := SZ11.out; have := SZ10.out; have := SZ9.out; have := SZ8.out; omega)).mono ?_
  rintro e w17 ⟨rfl, hrow, hb17⟩
  have H17 := bel_chg H16 hb17 (by have := SZ6.out; have := SZ5.out; have := SZ4.out; have := SZ3.out; have := SZ2.out; have := SZ1.out; omega)
  have SZ17 := Lib.hid hb17.size
  have qa00_17 := (hb17.cell (p := ⟨w0.heap.size, 0, none⟩) za0_16 (.inl (by have := ZBa0.out; have := SZ6.out; have := SZ5.out; have := SZ4.out; have := SZ3.out; have := SZ2.out; simp only; omega))).trans qa00_16
  have qa01_17 := (hb17.cell (p := ⟨w0.heap.size, 1, none⟩) za0_16 (.inl (by have := ZBa0.out; have := SZ6.out; have := SZ5.out; have := SZ4.out; have := SZ3.out; have := SZ2.out; simp only; omega))).trans qa01_16
  have za0_17 := Nat.lt_of_lt_of_le za0_16 hb17.size
  have qa20_17 := (hb17.cell (p := ⟨w0.heap.size + 1, 0, none⟩) za2_16 (.inl (by have := ZBa2.out; have := SZ6.out; have := SZ5.out; have := SZ4.out; have := SZ3.out; have := SZ2.out; simp only; omega))).trans qa20_16
  have qa21_17 := (hb17.cell (p := ⟨w0.heap.size + 1, 1, none⟩) za2_16 (.inl (by have := ZBa2.out; have := SZ6.out; have := SZ5.out; have := SZ4.out; have := SZ3.out; have := SZ2.out; simp only; omega))).trans qa21_16
  have za2_17 := Nat.lt_of_lt_of_le za2_16 hb17.size
  have qbV0_17 := (hb17.cell (p := ⟨gbV, 0, none⟩) zbV_16 (.inl (by have := ZBbV.out; have := SZ6.out; have := SZ5.out; simp only; omega))).trans qbV0_16
  have qbV1_17 := (hb17.cell (p := ⟨gbV, 1, none⟩) zbV_16 (.inl (by have := ZBbV.out; have := SZ6.out; have := SZ5.out; simp only; omega))).trans qbV1_16
  have zbV_17 := Nat.lt_of_lt_of_le zbV_16 hb17.size
  have qx00_17 := (hb17.cell (p := ⟨w5.heap.size, 0, none⟩) zx0_16 (.inl (by have := ZBx0.out; simp only; omega))).trans qx00_16
  have qx01_17 := (hb17.cell (p := ⟨w5.heap.size, 1, none⟩) zx0_16 (.inl (by have := ZBx0.out; simp only; omega))).trans qx01_16
  have zx0_17 := Nat.lt_of_lt_of_le zx0_16 hb17.size
  have qx20_17 := (hb17.cell (p := ⟨w7.heap.size, 0, none⟩) zx2_16 (.inr (by simp only; omega))).trans qx20_16
  have qx21_17 := (hb17.cell (p := ⟨w7.heap.size, 1, none⟩) zx2_16 (.inr (by simp only; omega))).trans qx21_16
  have zx2_17 := Nat.lt_of_lt_of_le zx2_16 hb17.size
  have qbG0_17 := (hb17.cell (p := ⟨w9.heap.size, 0, none⟩) zbG_16 (.inr (by have := SZ9.out; have := SZ8.out; simp only; omega))).trans qbG0_16
  have qbG1_17 := (hb17.cell (p := ⟨w9.heap.size, 1, none⟩) zbG_16 (.inr (by have := SZ9.out; have := SZ8.out; simp only; omega))).trans qbG1_16
  have zbG_17 := Nat.lt_of_lt_of_le zbG_16 hb17.size
  have R0_17 := Lib.hid (R0_16.out.chg hb17 (.inr (by have := SZ6.out; have := SZ5.out; have := SZ4.out; have := SZ3.out; have := SZ2.out; have := SZ1.out; omega)))
  have R2_17 := Lib.hid (R2_16.out.chg hb17 (.inr (by have := SZ6.out; have := SZ5.out; have := SZ4.out; have := SZ3.out; have := SZ2.out; have := SZ1.out; omega)))
  have V_17 := Lib.hid (V_16.out.chg hb17 (.inr (by have := SZ6.out; have := SZ5.out; have := HIV.out; omega)))
  have X0_17 := Lib.hid (X0_16.out.chg hb17 (.inr (by have := SZ6.out; omega)))
  have G_17 := Lib.hid (G_16.out.chg hb17 (.inl (by have := SZ8.out; omega)))
  have X2_17 := Lib.hid (hrow)
  clear qa00_16 qa01_16 za0_16 qa20_16 qa21_16 za2_16 qbV0_16 qbV1_16 zbV_16 qx00_16 qx01_16 zx0_16 qx20_16 qx21_16 zx2_16 qbG0_16 qbG1_16 zbG_16 R0_16 R2_16 V_16 X2_16 G_16 X0_16
  clear hrow
  have hk1 : decide ((((1 + e0.length * 3) + i2.length : Nat) : Int) < 0) = false := decide_eq_false (by omega)
  go_wp2_with fail
  refine (eqPath N ls _ _ _ G_17.out.rowI V_17.out.rowI hln).mono ?_
  rintro e w18 ⟨rfl, hb18⟩
  have H18 := bel_trans H17 hb18
  have SZ18 := Lib.hid hb18.size
  have qa00_18 := (hb18.cell (p := ⟨w0.heap.size, 0, none⟩) za0_17).trans qa00_17
  have qa01_18 := (hb18.cell (p := ⟨w0.heap.size, 1, none⟩) za0_17).trans qa01_17
  have za0_18 := Nat.lt_of_lt_of_le za0_17 hb18.size
  have qa20_18 := (hb18.cell (p := ⟨w0.heap.size + 1, 0, none⟩) za2_17).trans qa20_17
  have qa21_18 := (hb18.cell (p := ⟨w0.heap.size + 1, 1, none⟩) za2_17).trans qa21_17
  have za2_18 := Nat.lt_of_lt_of_le za2_17 hb18.size
  have qbV0_18 := (hb18.cell (p := ⟨gbV, 0, none⟩) zbV_17).trans qbV0_17
  have qbV1_18 := (hb18.cell (p := ⟨gbV, 1, none⟩) zbV_17).trans qbV1_17
  have zbV_18 := Nat.lt_of_lt_of_le zbV_17 hb18.size
  have qx00_18 := (hb18.cell (p := ⟨w5.heap.size, 0, none⟩) zx0_17).trans qx00_17
  have qx01_18 := (hb18.cell (p := ⟨w5.heap.size, 1, none⟩) zx0_17).trans qx01_17
  have zx0_18 := Nat.lt_of_lt_of_le zx0_17 hb18.size
  have qx20_18 := (hb18.cell (p := ⟨w7.heap.size, 0, none⟩) zx2_17).trans qx20_17
  have qx21_18 := (hb18.cell (p := ⟨w7.heap.size, 1, none⟩) zx2_17).trans qx21_17
  have zx2_18 := Nat.lt_of_lt_of_le zx2_17 hb18.size
  have qbG0_18 := (hb18.cell (p := ⟨w9.heap.size, 0, none⟩) zbG_17).trans qbG0_17
  have qbG1_18 := (hb18.cell (p := ⟨w9.heap.size, 1, none⟩) zbG_17).trans qbG1_17
  have zbG_18 := Nat.lt_of_lt_of_le zbG_17 hb18.size
  have R0_18 := Lib.hid (R0_17.out.keep hb18)
  have R2_18 := Lib.hid (R2_17.out.keep hb18)
  have V_18 := Lib.hid (V_17.out.keep hb18)
  have X0_18 := Lib.hid (X0_17.out.keep hb18)
  have X2_18 := Lib.hid (X2_17.out.keep hb18)
  have G_18 := Lib.hid (G_17.out.keep hb18)
  clear qa00_17 qa01_17 za0_17 qa20_17 qa21_17 za2_17 qbV0_17 qbV1_17 zbV_17 qx00_17 qx01_17 zx0_17 qx20_17 qx21_17 zx2_17 qbG0_17 qbG1_17 zbG_17 R0_17 R2_17 V_17 X0_17 G_17 X2_17
  go_wp2_with fail
  refine (markPath 1 N _ _ _ _ _ _ G_18.out (by omega) (by omega) (by have := SZ18.out; have := SZ17.out; have := SZ16.out; have := SZ15.out; have := SZ13.out; have := SZ11.out; have := SZ10.out; omega)).mono ?_
  rintro e w19 ⟨rfl, hrow, hb19⟩
  have H19 := bel_chg H18 hb19 (by have := SZ8.out; have := SZ7.out; have := SZ6.out; have := SZ5.out; have := SZ4.out; have := SZ3.out; have := SZ2.out; have := SZ1.out; omega)
  have SZ19 := Lib.hid hb19.size
  have qa00_19 := (hb19.cell (p := ⟨w0.heap.size, 0, none⟩) za0_18 (.inl (by have := ZBa0.out; have := SZ8.out; have := SZ7.out; have := SZ6.out; have := SZ5.out; have := SZ4.out; have := SZ3.out; have := SZ2.out; simp only; omega))).trans qa00_18
  have qa01_19 := (hb19.cell (p := ⟨w0.heap.size, 1, none⟩) za0_18 (.inl (by have := ZBa0.out; have := SZ8.out; have := SZ7.out; have := SZ6.out; have := SZ5.out; have := SZ4.out; have := SZ3.out; have := SZ2.out; simp only; omega))).trans qa01_18
  have za0_19 := Nat.lt_of_lt_of_le za0_18 hb19.size
  have qa20_19 := (hb19.cell (p := ⟨w0.heap.size + 1, 0, none⟩) za2_18 (.inl (by have := ZBa2.out; have := SZ8.out; have := SZ7.out; have := SZ6.out; have := SZ5.out; have := SZ4.out; have := SZ3.out; have := SZ2.out; simp only; omega))).trans qa20_18
  have qa21_19 := (hb19.cell (p := ⟨w0.heap.size + 1, 1, none⟩) za2_18 (.inl (by have := ZBa2.out; have := SZ8.out; have := SZ7.out; have := SZ6.out; have := SZ5.out; have := SZ4.out; have := SZ3.out; have := SZ2.out; simp only; omega))).trans qa21_18
  have za2_19 := Nat.lt_of_lt_of_le za2_18 hb19.size
  have qbV0_19 := (hb19.cell (p := ⟨gbV, 0, none⟩) zbV_18 (.inl (by have := ZBbV.out; have := SZ8.out; have := SZ7.out; have := SZ6.out; have := SZ5.out; simp only; omega))).trans qbV0_18
  have qbV1_19 := (hb19.cell (p := ⟨gbV, 1, none⟩) zbV_18 (.inl (by have := ZBbV.out; have := SZ8.out; have := SZ7.out; have := SZ6.out; have := SZ5.out; simp only; omega))).trans qbV1_18
  have zbV_19 := Nat.lt_of_lt_of_le zbV_18 hb19.size
  have qx00_19 := (hb19.cell (p := ⟨w5.heap.size, 0, none⟩) zx0_18 (.inl (by have := ZBx0.out; have := SZ8.out; have := SZ7.out; simp only; omega))).trans qx00_18
  have qx01_19 := (hb19.cell (p := ⟨w5.heap.size, 1, none⟩) zx0_18 (.inl (by have := ZBx0.out; have := SZ8.out; have := SZ7.out; simp only; omega))).trans qx01_18
  have zx0_19 := Nat.lt_of_lt_of_le zx0_18 hb19.size
  have qx20_19 := (hb19.cell (p := ⟨w7.heap.size, 0, none⟩) zx2_18 (.inl (by have := ZBx2.out; simp only; omega))).trans qx20_18
  have qx21_19 := (hb19.cell (p := ⟨w7.heap.size, 1, none⟩) zx2_18 (.inl (by have := ZBx2.out; simp only; omega))).trans qx21_18
  have zx2_19 := Nat.lt_of_lt_of_le zx2_18 hb19.size
  have qbG0_19 := (hb19.cell (p := ⟨w9.heap.size, 0, none⟩) zbG_18 (.inr (by simp only; omega))).trans qbG0_18
  have qbG1_19 := (hb19.cell (p := ⟨w9.heap.size, 1, none⟩) zbG_18 (.inr (by simp only; omega))).trans qbG1_18
  have zbG_19 := Nat.lt_of_lt_of_le zbG_18 hb19.size
  have R0_19 := Lib.hid (R0_18.out.chg hb19 (.inr (by have := SZ8.out; have := SZ7.out; have := SZ6.out; have := SZ5.out; have := SZ4.out; have := SZ3.out; have := SZ2.out; have := SZ1.out; omega)))
  have R2_19 := Lib.hid (R2_18.out.chg hb19 (.inr (by have := SZ8.out; have := SZ7.out; have := SZ6.out; have := SZ5.out; have := SZ4.out; have := SZ3.out; have := SZ2.out; have := SZ1.out; omega)))
  have V_19 := Lib.hid (V_18.out.chg hb19 (.inr (by have := SZ8.out; have := SZ7.out; have := SZ6.out; have := SZ5.out; have := HIV.out; omega)))
  have X0_19 := Lib.hid (X0_18.out.chg hb19 (.inr (by have := SZ8.out; have := SZ7.out; have := SZ6.out; omega)))
  have X2_19 := Lib.hid (X2_18.out.chg hb19 (.inr (by have := SZ8.out; omega)))
  have G_19 := Lib.hid (hrow)
  clear qa00_18 qa01_18 za0_18 qa20_18 qa21_18 za2_18 qbV0_18 qbV1_18 zbV_18 qx00_18 qx01_18 zx0_18 qx20_18 qx21_18 zx2_18 qbG0_18 qbG1_18 zbG_18 R0_18 R2_18 V_18 X0_18 X2_18 G_18
  clear hrow
  have hk2 : decide (((1 + ls.length : Nat) : Int) < 0) = false := decide_eq_false (by omega)
  go_wp2_with fail
  refine (heldPath 1 N _ _ _ _ _ true G_19.out (by omega) (by omega) (by have := SZ19.out; have := SZ18.out; have := SZ17.out; have := SZ16.out; have := SZ15.out; have := SZ13.out; have := SZ11.out; have := SZ10.out; omega)).mono ?_
  rintro e w20 ⟨rfl, hb20⟩
  have H20 := bel_trans H19 hb20
  have SZ20 := Lib.hid hb20.size
  have qa00_20 := (hb20.cell (p := ⟨w0.heap.size, 0, none⟩) za0_19).trans qa00_19
  have qa01_20 := (hb20.cell (p := ⟨w0.heap.size, 1, none⟩) za0_19).trans qa01_19
  have za0_20 := Nat.lt_of_lt_of_le za0_19 hb20.size
  have qa20_20 := (hb20.cell (p := ⟨w0.heap.size + 1, 0, none⟩) za2_19).trans qa20_19
  have qa21_20 := (hb20.cell (p := ⟨w0.heap.size + 1, 1, none⟩) za2_19).trans qa21_19
  have za2_20 := Nat.lt_of_lt_of_le za2_19 hb20.size
  have qbV0_20 := (hb20.cell (p := ⟨gbV, 0, none⟩) zbV_19).trans qbV0_19
  have qbV1_20 := (hb20.cell (p := ⟨gbV, 1, none⟩) zbV_19).trans qbV1_19
  have zbV_20 := Nat.lt_of_lt_of_le zbV_19 hb20.size
  have qx00_20 := (hb20.cell (p := ⟨w5.heap.size, 0, none⟩) zx0_19).trans qx00_19
  have qx01_20 := (hb20.cell (p := ⟨w5.heap.size, 1, none⟩) zx0_19).trans qx01_19
  have zx0_20 := Nat.lt_of_lt_of_le zx0_19 hb20.size
  have qx20_20 := (hb20.cell (p := ⟨w7.heap.size, 0, none⟩) zx2_19).trans qx20_19
  have qx21_20 := (hb20.cell (p := ⟨w7.heap.size, 1, none⟩) zx2_19).trans qx21_19
  have zx2_20 := Nat.lt_of_lt_of_le zx2_19 hb20.size
  have qbG0_20 := (hb20.cell (p := ⟨w9.heap.size, 0, none⟩) zbG_19).trans qbG0_19
  have qbG1_20 := (hb20.cell (p := ⟨w9.heap.size, 1, none⟩) zbG_19).trans qbG1_19
  have zbG_20 := Nat.lt_of_lt_of_le zbG_19 hb20.size
  have R0_20 := Lib.hid (R0_19.out.keep hb20)
  have R2_20 := Lib.hid (R2_19.out.keep hb20)
  have V_20 := Lib.hid (V_19.out.keep hb20)
  have X0_20 := Lib.hid (X0_19.out.keep hb20)
  have X2_20 := Lib.hid (X2_19.out.keep hb20)
  have G_20 := Lib.hid (G_19.out.keep hb20)
  clear qa00_19 qa01_19 za0_19 qa20_19 qa21_19 za2_19 qbV0_19 qbV1_19 zbV_19 qx00_19 qx01_19 zx0_19 qx20_19 qx21_19 zx2_19 qbG0_19 qbG1_19 zbG_19 R0_19 R2_19 V_19 X0_19 X2_19 G_19
  go_upto_region 31 with fail
  go_cut [19, 20] from 21 (fun p c wx => BoxInP w20 wx N ls p ∧ c = .bool B)
  · have hold : ∀ w' : World, Below w20.heap.size w20 w' → (w'.cell? ⟨w0.heap.size, 0, none⟩ = some (.int .i64 n0) ∧ w'.cell? ⟨w0.heap.size, 1, none⟩ = some (.slice ad0 e0.length cp0) ∧ w'.cell? ⟨w0.heap.size + 1, 0, none⟩ = some (.slice ad2 i2.length cp2) ∧ w'.cell? ⟨w0.heap.size + 1, 1, none⟩ = some (.int .i64 x2)) := fun w' h => ⟨(h.cell (p := ⟨w0.heap.size, 0, none⟩) za0_20).trans qa00_20, (h.cell (p := ⟨w0.heap.size, 1, none⟩) za0_20).trans qa01_20, (h.cell (p := ⟨w0.heap.size + 1, 0, none⟩) za2_20).trans qa20_20, (h.cell (p := ⟨w0.heap.size + 1, 1, none⟩) za2_20).trans qa21_20⟩
    have HOLD := Lib.hid hold
    clear hold
    go_region_held3 (fun w' : World => w'.cell? ⟨w0.heap.size, 0, none⟩ = some (.int .i64 n0) ∧ w'.cell? ⟨w0.heap.size, 1, none⟩ = some (.slice ad0 e0.length cp0) ∧ w'.cell? ⟨w0.heap.size + 1, 0, none⟩ = some (.slice ad2 i2.length cp2) ∧ w'.cell? ⟨w0.heap.size + 1, 1, none⟩ = some (.int .i64 x2)) (exact HOLD.out _ (by repeat' (first | with_reducible exact Below.refl _ _ | with_reducible apply b_alloc | with_reducible apply b_drew | with_reducible apply b_set | (refine @bel_trans _ ?_ _ ?_ ?_; rotate_right; with_reducible assumption)))) (first | (go_at_call 8; (with_reducible refine (toGraph n0 e0 _ _ (R0_20.out.keep (by repeat' (first | with_reducible exact Below.refl _ _ | with_reducible apply b_alloc | with_reducible apply b_drew | with_reducible apply b_set | (refine @bel_trans _ ?_ _ ?_ ?_; rotate_right; with_reducible assumption)))).edges hb0g).mono ?_); rintro e wA ⟨sA, rfl, hnewA, hbA⟩; (try (refine (fun (zz : w20.heap.size < wA.heap.size) => ?_) (Nat.lt_of_lt_of_le ?_ hbA.size); rotate_right; (first | with_reducible assumption | (simp <;> omega)))); (try (refine (fun (cc : wA.cell? ⟨w20.heap.size, 0, none⟩ = some (.slice none 0 0)) => ?_) ((hbA.cell (p := ⟨w20.heap.size, 0, none⟩) ?_).trans ?_); rotate_left; (first | with_reducible assumption | (simp <;> omega)); (first | with_reducible assumption | (focus (go_simp; done))))); (try (refine (fun (ff : wA.frozen? ⟨w20.heap.size, 0, none⟩ = false) => ?_) ((hbA.frozen (p := ⟨w20.heap.size, 0, none⟩) ?_).trans ?_); rotate_left; (first | with_reducible assumption | (simp <;> omega)); (first | with_reducible assumption | (focus (go_simp; done))))); (try (refine (fun (cc : wA.cell? ⟨w20.heap.size, 1, none⟩ = some (.int .i64 0)) => ?_) ((hbA.cell (p := ⟨w20.heap.size, 1, none⟩) ?_).trans ?_); rotate_left; (first | with_reducible assumption | (simp <;> omega)); (first | with_reducible assumption | (focus (go_simp; done))))); (try (refine (fun (ff : wA.frozen? ⟨w20.heap.size, 1, none⟩ = false) => ?_) ((hbA.frozen (p := ⟨w20.heap.size, 1, none⟩) ?_).trans ?_); rotate_left; (first | with_reducible assumption | (simp <;> omega)); (first | with_reducible assumption | (focus (go_simp; done)))))) | (go_at_call 9; (with_reducible refine (toPath x2 i2 _ _ (R2_20.out.keep (by repeat' (first | with_reducible exact Below.refl _ _ | with_reducible apply b_alloc | with_reducible apply b_drew | with_reducible apply b_set | (refine @bel_trans _ ?_ _ ?_ ?_; rotate_right; with_reducible assumption)))).rowI hb2g).mono ?_); rintro e wE ⟨sE, rfl, hnewE, hbE⟩; (try (refine (fun (zz : w20.heap.size < wE.heap.size) => ?_) (Nat.lt_of_lt_of_le ?_ hbE.size); rotate_right; (first | with_reducible assumption | (simp <;> omega)))); (try (refine (fun (cc : wE.cell? ⟨w20.heap.size, 0, none⟩ = some (.slice none 0 0)) => ?_) ((hbE.cell (p := ⟨w20.heap.size, 0, none⟩) ?_).trans ?_); rotate_left; (first | with_reducible assumption | (simp <;> omega)); (first | with_reducible assumption | (focus (go_simp; done))))); (try (refine (fun (ff : wE.frozen? ⟨w20.heap.size, 0, none⟩ = false) => ?_) ((hbE.frozen (p := ⟨w20.heap.size, 0, none⟩) ?_).trans ?_); rotate_left; (first | with_reducible assumption | (simp <;> omega)); (first | with_reducible assumption | (focus (go_simp; done))))); (try (refine (fun (cc : wE.cell? ⟨w20.heap.size, 1, none⟩ = some (.int .i64 0)) => ?_) ((hbE.cell (p := ⟨w20.heap.size, 1, none⟩) ?_).trans ?_); rotate_left; (first | with_reducible assumption | (simp <;> omega)); (first | with_reducible assumption | (focus (go_simp; done))))); (try (refine (fun (ff : wE.frozen? ⟨w20.heap.size, 1, none⟩ = false) => ?_) ((hbE.frozen (p := ⟨w20.heap.size, 1, none⟩) ?_).trans ?_); rotate_left; (first | with_reducible assumption | (simp <;> omega)); (first | with_reducible assumption | (focus (go_simp; done))))); (try (refine (fun (zz : wA.heap.size < wE.heap.size) => ?_) (Nat.lt_of_lt_of_le ?_ hbE.size); rotate_right; (first | with_reducible assumption | (simp <;> omega)))); (try (refine (fun (cc : wE.cell? ⟨wA.heap.size, 0, none⟩ = some (.slice none 0 0)) => ?_) ((hbE.cell (p := ⟨wA.heap.size, 0, none⟩) ?_).trans ?_); rotate_left; (first | with_reducible assumption | (simp <;> omega)); (first | with_reducible assumption | (focus (go_simp; done))))); (try (refine (fun (ff : wE.frozen? ⟨wA.heap.size, 0, none⟩ = false) => ?_) ((hbE.frozen (p := ⟨wA.heap.size, 0, none⟩) ?_).trans ?_); rotate_left; (first | with_reducible assumption | (simp <;> omega)); (first | with_reducible assumption | (focus (go_simp; done))))); (try (refine (fun (cc : wE.cell? ⟨wA.heap.size, 1, none⟩ = some (.int .i64 0)) => ?_) ((hbE.cell (p := ⟨wA.heap.size, 1, none⟩) ?_).trans ?_); rotate_left; (first | with_reducible assumption | (simp <;> omega)); (first | with_reducible assumption | (focus (go_simp; done))))); (try (refine (fun (ff : wE.frozen? ⟨wA.heap.size, 1, none⟩ = false) => ?_) ((hbE.frozen (p := ⟨wA.heap.size, 1, none⟩) ?_).trans ?_); rotate_left; (first | with_reducible assumption | (simp <;> omega)); (first | with_reducible assumption | (focus (go_simp; done)))))) | (go_at_call 17; (with_reducible refine (HIM.out _ _ _ (hnewA.inR.keep (by repeat' (first | with_reducible exact Below.refl _ _ | with_reducible apply b_alloc | with_reducible apply b_drew | with_reducible apply b_set | (refine @bel_trans _ ?_ _ ?_ ?_; rotate_right; with_reducible assumption)))).edges (hnewE.inR.keep (by repeat' (first | with_reducible exact Below.refl _ _ | with_reducible apply b_alloc | with_reducible apply b_drew | with_reducible apply b_set | (refine @bel_trans _ ?_ _ ?_ ?_; rotate_right; with_reducible assumption)))).rowI hnewA.ok).mono ?_); rintro e wC ⟨v, rfl, hown, hbC⟩; obtain ⟨va, vc, rfl⟩ := hown.slice; (try (refine (fun (zz : w20.heap.size < wC.heap.size) => ?_) (Nat.lt_of_lt_of_le ?_ hbC.size); rotate_right; (first | with_reducible assumption | (simp <;> omega)))); (try (refine (fun (cc : wC.cell? ⟨w20.heap.size, 0, none⟩ = some (.slice none 0 0)) => ?_) ((hbC.cell (p := ⟨w20.heap.size, 0, none⟩) ?_).trans ?_); rotate_left; (first | with_reducible assumption | (simp <;> omega)); (first | with_reducible assumption | (focus (go_simp; done))))); (try (refine (fun (ff : wC.frozen? ⟨w20.heap.size, 0, none⟩ = false) => ?_) ((hbC.frozen (p := ⟨w20.heap.size, 0, none⟩) ?_).trans ?_); rotate_left; (first | with_reducible assumption | (simp <;> omega)); (first | with_reducible assumption | (focus (go_simp; done))))); (try (refine (fun (cc : wC.cell? ⟨w20.heap.size, 1, none⟩ = some (.int .i64 0)) => ?_) ((hbC.cell (p := ⟨w20.heap.size, 1, none⟩) ?_).trans ?_); rotate_left; (first | with_reducible assumption | (simp <;> omega)); (first | with_reducible assumption | (focus (go_simp; done))))); (try (refine (fun (ff : wC.frozen? ⟨w20.heap.size, 1, none⟩ = false) => ?_) ((hbC.frozen (p := ⟨w20.heap.size, 1, none⟩) ?_).trans ?_); rotate_left; (first | with_reducible assumption | (simp <;> omega)); (first | with_reducible assumption | (focus (go_simp; done))))); (try (refine (fun (zz : wA.heap.size < wC.heap.size) => ?_) (Nat.lt_of_lt_of_le ?_ hbC.size); rotate_right; (first | with_reducible assumption | (simp <;> omega)))); (try (refine (fun (cc : wC.cell? ⟨wA.heap.size, 0, none⟩ = some (.slice none 0 0)) => ?_) ((hbC.cell (p := ⟨wA.heap.size, 0, none⟩) ?_).trans ?_); rotate_left; (first | with_reducible assumption | (simp <;> omega)); (first | with_reducible assumption | (focus (go_simp; done))))); (try (refine (fun (ff : wC.frozen? ⟨wA.heap.size, 0, none⟩ = false) => ?_) ((hbC.frozen (p := ⟨wA.heap.size, 0, none⟩) ?_).trans ?_); rotate_left; (first | with_reducible assumption | (simp <;> omega)); (first | with_reducible assumption | (focus (go_simp; done))))); (try (refine (fun (cc : wC.cell? ⟨wA.heap.size, 1, none⟩ = some (.int .i64 0)) => ?_) ((hbC.cell (p := ⟨wA.heap.size, 1, none⟩) ?_).trans ?_); rotate_left; (first | with_reducible assumption | (simp <;> omega)); (first | with_reducible assumption | (focus (go_simp; done))))); (try (refine (fun (ff : wC.frozen? ⟨wA.heap.size, 1, none⟩ = false) => ?_) ((hbC.frozen (p := ⟨wA.heap.size, 1, none⟩) ?_).trans ?_); rotate_left; (first | with_reducible assumption | (simp <;> omega)); (first | with_reducible assumption | (focus (go_simp; done))))); (try (refine (fun (zz : wE.heap.size < wC.heap.size) => ?_) (Nat.lt_of_lt_of_le ?_ hbC.size); rotate_right; (first | with_reducible assumption | (simp <;> omega)))); (try (refine (fun (cc : wC.cell? ⟨wE.heap.size, 0, none⟩ = some (.slice none 0 0)) => ?_) ((hbC.cell (p := ⟨wE.heap.size, 0, none⟩) ?_).trans ?_); rotate_left; (first | with_reducible assumption | (simp <;> omega)); (first | with_reducible assumption | (focus (go_simp; done))))); (try (refine (fun (ff : wC.frozen? ⟨wE.heap.size, 0, none⟩ = false) => ?_) ((hbC.frozen (p := ⟨wE.heap.size, 0, none⟩) ?_).trans ?_); rotate_left; (first | with_reducible assumption | (simp <;> omega)); (first | with_reducible assumption | (focus (go_simp; done))))); (try (refine (fun (cc : wC.cell? ⟨wE.heap.size, 1, none⟩ = some (.int .i64 0)) => ?_) ((hbC.cell (p := ⟨wE.heap.size, 1, none⟩) ?_).trans ?_); rotate_left; (first | with_reducible assumption | (simp <;> omega)); (first | with_reducible assumption | (focus (go_simp; done))))); (try (refine (fun (ff : wC.frozen? ⟨wE.heap.size, 1, none⟩ = false) => ?_) ((hbC.frozen (p := ⟨wE.heap.size, 1, none⟩) ?_).trans ?_); rotate_left; (first | with_reducible assumption | (simp <;> omega)); (first | with_reducible assumption | (focus (go_simp; done)))))))
    all_goals
      go_wp2_with fail
      go_meet
      first | (refine ⟨?_, rfl⟩; apply box_endP; (case ho => with_reducible assumption); (case hc => with_reducible assumption); (case hb => repeat' (first | with_reducible exact Below.refl _ _ | with_reducible apply b_alloc | with_reducible apply b_drew | with_reducible apply b_set | (refine @bel_trans _ ?_ _ ?_ ?_; rotate_right; with_reducible assumption))); done) | (refine ⟨?_, rfl⟩; apply box_midP (T := 30) (N0 := 0) (v0 := .slice none 0 0); (case ho => with_reducible assumption); (case hc => with_reducible assumption); (case hb => repeat' (first | with_reducible exact Below.refl _ _ | with_reducible apply b_alloc | with_reducible apply b_drew | with_reducible apply b_set | (refine @bel_trans _ ?_ _ ?_ ?_; rotate_right; with_reducible assumption))); (case hx => repeat' (first | with_reducible exact Below.refl _ _ | with_reducible apply b_alloc | with_reducible apply b_drew | with_reducible apply b_set | (refine @bel_trans _ ?_ _ ?_ ?_; rotate_right; with_reducible assumption))); done)
  obtain ⟨w21, hw21⟩ : ∃ w21, w21 = wc := ⟨_, rfl⟩
  subst hw21
  obtain ⟨⟨gbK, vaK, vcK, loK, hiK, rfl, ⟨hq0, hq1⟩, hrow, ⟨hge, hlt⟩, ⟨hlo, hhi⟩, hdj, hb21⟩, rfl⟩ := hcut
  have H21 := bel_trans H20 hb21
  have SZ21 := Lib.hid hb21.size
  have qa00_21 := (hb21.cell (p := ⟨w0.heap.size, 0, none⟩) za0_20).trans qa00_20
  have qa01_21 := (hb21.cell (p := ⟨w0.heap.size, 1, none⟩) za0_20).trans qa01_20
  have za0_21 := Nat.lt_of_lt_of_le za0_20 hb21.size
  have qa20_21 := (hb21.cell (p := ⟨w0.heap.size + 1, 0, none⟩) za2_20).trans qa20_20
  have qa21_21 := (hb21.cell (p := ⟨w0.heap.size + 1, 1, none⟩) za2_20).trans qa21_20
  have za2_21 := Nat.lt_of_lt_of_le za2_20 hb21.size
  have qbV0_21 := (hb21.cell (p := ⟨gbV, 0, none⟩) zbV_20).trans qbV0_20
  have qbV1_21 := (hb21.cell (p := ⟨gbV, 1, none⟩) zbV_20).trans qbV1_20
  have zbV_21 := Nat.lt_of_lt_of_le zbV_20 hb21.size
  have qx00_21 := (hb21.cell (p := ⟨w5.heap.size, 0, none⟩) zx0_20).trans qx00_20
  have qx01_21 := (hb21.cell (p := ⟨w5.heap.size, 1, none⟩) zx0_20).trans qx01_20
  have zx0_21 := Nat.lt_of_lt_of_le zx0_20 hb21.size
  have qx20_21 := (hb21.cell (p := ⟨w7.heap.size, 0, none⟩) zx2_20).trans qx20_20
  have qx21_21 := (hb21.cell (p := ⟨w7.heap.size, 1, none⟩) zx2_20).trans qx21_20
  have zx2_21 := Nat.lt_of_lt_of_le zx2_20 hb21.size
  have qbG0_21 := (hb21.cell (p := ⟨w9.heap.size, 0, none⟩) zbG_20).trans qbG0_20
  have qbG1_21 := (hb21.cell (p := ⟨w9.heap.size, 1, none⟩) zbG_20).trans qbG1_20
  have zbG_21 := Nat.lt_of_lt_of_le zbG_20 hb21.size
  have R0_21 := Lib.hid (R0_20.out.keep hb21)
  have R2_21 := Lib.hid (R2_20.out.keep hb21)
  have V_21 := Lib.hid (V_20.out.keep hb21)
  have X0_21 := Lib.hid (X0_20.out.keep hb21)
  have X2_21 := Lib.hid (X2_20.out.keep hb21)
  have G_21 := Lib.hid (G_20.out.keep hb21)
  have GEbK := Lib.hid hge
  have ZBbK := Lib.hid hlt
  have LOK := Lib.hid hlo
  have HIK := Lib.hid hhi
  have DJbK := Lib.hid hdj
  have qbK0_21 := hq0
  have qbK1_21 := hq1
  have zbK_21 := hlt
  have K_21 := Lib.hid hrow
  clear hq0 hq1 hrow hge hlt hlo hhi hdj
  clear qa00_20 qa01_20 za0_20 qa20_20 qa21_20 za2_20 qbV0_20 qbV1_20 zbV_20 qx00_20 qx01_20 zx0_20 qx20_20 qx21_20 zx2_20 qbG0_20 qbG1_20 zbG_20 R0_20 R2_20 V_20 X0_20 X2_20 G_20
  go_wp2_with fail
  refine (eqPath N ls _ _ _ K_21.out.rowI V_21.out.rowI hln).mono ?_
  rintro e w22 ⟨rfl, hb22⟩
  have H22 := bel_trans H21 hb22
  have SZ22 := Lib.hid hb22.size
  have qa00_22 := (hb22.cell (p := ⟨w0.heap.size, 0, none⟩) za0_21).trans qa00_21
  have qa01_22 := (hb22.cell (p := ⟨w0.heap.size, 1, none⟩) za0_21).trans qa01_21
  have za0_22 := Nat.lt_of_lt_of_le za0_21 hb22.size
  have qa20_22 := (hb22.cell (p := ⟨w0.heap.size + 1, 0, none⟩) za2_21).trans qa20_21
  have qa21_22 := (hb22.cell (p := ⟨w0.heap.size + 1, 1, none⟩) za2_21).trans qa21_21
  have za2_22 := Nat.lt_of_lt_of_le za2_21 hb22.size
  have qbV0_22 := (hb22.cell (p := ⟨gbV, 0, none⟩) zbV_21).trans qbV0_21
  have qbV1_22 := (hb22.cell (p := ⟨gbV, 1, none⟩) zbV_21).trans qbV1_21
  have zbV_22 := Nat.lt_of_lt_of_le zbV_21 hb22.size
  have qx00_22 := (hb22.cell (p := ⟨w5.heap.size, 0, none⟩) zx0_21).trans qx00_21
  have qx01_22 := (hb22.cell (p := ⟨w5.heap.size, 1, none⟩) zx0_21).trans qx01_21
  have zx0_22 := Nat.lt_of_lt_of_le zx0_21 hb22.size
  have qx20_22 := (hb22.cell (p := ⟨w7.heap.size, 0, none⟩) zx2_21).trans qx20_21
  have qx21_22 := (hb22.cell (p := ⟨w7.heap.size, 1, none⟩) zx2_21).trans qx21_21
  have zx2_22 := Nat.lt_of_lt_of_le zx2_21 hb22.size
  have qbG0_22 := (hb22.cell (p := ⟨w9.heap.size, 0, none⟩) zbG_21).trans qbG0_21
  have qbG1_22 := (hb22.cell (p := ⟨w9.heap.size, 1, none⟩) zbG_21).trans qbG1_21
  have zbG_22 := Nat.lt_of_lt_of_le zbG_21 hb22.size
  have qbK0_22 := (hb22.cell (p := ⟨gbK, 0, none⟩) zbK_21).trans qbK0_21
  have qbK1_22 := (hb22.cell (p := ⟨gbK, 1, none⟩) zbK_21).trans qbK1_21
  have zbK_22 := Nat.lt_of_lt_of_le zbK_21 hb22.size
  have R0_22 := Lib.hid (R0_21.out.keep hb22)
  have R2_22 := Lib.hid (R2_21.out.keep hb22)
  have V_22 := Lib.hid (V_21.out.keep hb22)
  have X0_22 := Lib.hid (X0_21.out.keep hb22)
  have X2_22 := Lib.hid (X2_21.out.keep hb22)
  have G_22 := Lib.hid (G_21.out.keep hb22)
  have K_22 := Lib.hid (K_21.out.keep hb22)
  clear qa00_21 qa01_21 za0_21 qa20_21 qa21_21 za2_21 qbV0_21 qbV1_21 zbV_21 qx00_21 qx01_21 zx0_21 qx20_21 qx21_21 zx2_21 qbG0_21 qbG1_21 zbG_21 R0_21 R2_21 V_21 X0_21 X2_21 G_21 qbK0_21 qbK1_21 zbK_21 K_21
  go_wp2_with fail
  refine (heldPath 1 N _ _ _ _ _ true G_22.out (by omega) (by omega) (by have := SZ22.out; have := SZ21.out; have := SZ20.out; have := SZ19.out; have := SZ18.out; have := SZ17.out; have := SZ16.out; have := SZ15.out; have := SZ13.out; have := SZ11.out; have := SZ10.out; omega)).mono ?_
  rintro e w23 ⟨rfl, hb23⟩
  have H23 := bel_trans H22 hb23
  have SZ23 := Lib.hid hb23.size
  have qa00_23 := (hb23.cell (p := ⟨w0.heap.size, 0, none⟩) za0_22).trans qa00_22
  have qa01_23 := (hb23.cell (p := ⟨w0.heap.size, 1, none⟩) za0_22).trans qa01_22
  have za0_23 := Nat.lt_of_lt_of_le za0_22 hb23.size
  have qa20_23 := (hb23.cell (p := ⟨w0.heap.size + 1, 0, none⟩) za2_22).trans qa20_22
  have qa21_23 := (hb23.cell (p := ⟨w0.heap.size + 1, 1, none⟩) za2_22).trans qa21_22
  have za2_23 := Nat.lt_of_lt_of_le za2_22 hb23.size
  have qbV0_23 := (hb23.cell (p := ⟨gbV, 0, none⟩) zbV_22).trans qbV0_22
  have qbV1_23 := (hb23.cell (p := ⟨gbV, 1, none⟩) zbV_22).trans qbV1_22
  have zbV_23 := Nat.lt_of_lt_of_le zbV_22 hb23.size
  have qx00_23 := (hb23.cell (p := ⟨w5.heap.size, 0, none⟩) zx0_22).trans qx00_22
  have qx01_23 := (hb23.cell (p := ⟨w5.heap.size, 1, none⟩) zx0_22).trans qx01_22
  have zx0_23 := Nat.lt_of_lt_of_le zx0_22 hb23.size
  have qx20_23 := (hb23.cell (p := ⟨w7.heap.size, 0, none⟩) zx2_22).trans qx20_22
  have qx21_23 := (hb23.cell (p := ⟨w7.heap.size, 1, none⟩) zx2_22).trans qx21_22
  have zx2_23 := Nat.lt_of_lt_of_le zx2_22 hb23.size
  have qbG0_23 := (hb23.cell (p := ⟨w9.heap.size, 0, none⟩) zbG_22).trans qbG0_22
  have qbG1_23 := (hb23.cell (p := ⟨w9.heap.size, 1, none⟩) zbG_22).trans qbG1_22
  have zbG_23 := Nat.lt_of_lt_of_le zbG_22 hb23.size
  have qbK0_23 := (hb23.cell (p := ⟨gbK, 0, none⟩) zbK_22).trans qbK0_22
  have qbK1_23 := (hb23.cell (p := ⟨gbK, 1, none⟩) zbK_22).trans qbK1_22
  have zbK_23 := Nat.lt_of_lt_of_le zbK_22 hb23.size
  have R0_23 := Lib.hid (R0_22.out.keep hb23)
  have R2_23 := Lib.hid (R2_22.out.keep hb23)
  have V_23 := Lib.hid (V_22.out.keep hb23)
  have X0_23 := Lib.hid (X0_22.out.keep hb23)
  have X2_23 := Lib.hid (X2_22.out.keep hb23)
  have G_23 := Lib.hid (G_22.out.keep hb23)
  have K_23 := Lib.hid (K_22.out.keep hb23)
  clear qa00_22 qa01_22 za0_22 qa20_22 qa21_22 za2_22 qbV0_22 qbV1_22 zbV_22 qx00_22 qx01_22 zx0_22 qx20_22 qx21_22 zx2_22 qbG0_22 qbG1_22 zbG_22 qbK0_22 qbK1_22 zbK_22 R0_22 R2_22 V_22 X0_22 X2_22 G_22 K_22
  go_wp2
  go_ret
  exact ⟨rfl, H23⟩

set_option maxRecDepth 100000 in
theorem lifted (os : Os) (started : os.Started) (H : Type) (enc : TypeId × Value → H) :
    ReturnsInHanded {} Tryz.checked os 4 .any (Rows.fnExactDetourOfSpec.pre6 enc Tryz.prog Tryz.f4 Rows.fnExactDetourOfRow.domain false) (Rows.fnExactDetourOfSpec.post enc Tryz.prog Tryz.f4 false true false false) := by
  refine returnsInHanded_of_change (C := Tryz.checked) own started (by kernel_rfl) Tryz.func4
    (ChangeSpec.witness6 (enc := enc) (C := Tryz.checked) false ⟨#[], #[.agg #[.int .i64 0, .slice none 0 0], .int .i64 0, .agg #[.slice none 0 0, .int .i64 0], .int .i64 0], []⟩ 8 (by kernel_rfl) (by kernel_rfl) (by kernel_rfl) (by kernel_rfl)) ?_
  intro W base args ds gs before hval0 hW hcnd _
  have hval : ∀ (j : Nat) t v, Tryz.f4.params[j]? = some t → args[j]? = some v → Value.okWide Tryz.prog W .any base t v := hval0
  have hW' := hW
  obtain ⟨p, q, hA0, hV, rfl, hfz, hnd⟩ := hW
  have hA : DataW.TrodAll enc Tryz.prog W 0 (fun _ => true) true Tryz.f4.params.toList args.toList ds p := hA0
  rw [Tryz.params4] at hA hval
  obtain ⟨v0, vs0, d0, ds0, p0, q0, hargs, rfl, rfl, h0, rr0⟩ := trodAll_cons hA
  obtain ⟨v1, vs1, d1, ds1, p1, q1, rfl, rfl, rfl, h1, rr1⟩ := trodAll_cons rr0
  obtain ⟨v2, vs2, d2, ds2, p2, q2, rfl, rfl, rfl, h2, rr2⟩ := trodAll_cons rr1
  obtain ⟨v3, vs3, d3, ds3, p3, q3, rfl, rfl, rfl, h3, rr3⟩ := trodAll_cons rr2
  obtain ⟨rfl, rfl, rfl⟩ := trodAll_nil rr3
  obtain rfl : args = #[v0, v1, v2, v3] := by cases args; simp_all
  obtain ⟨rfl, rfl⟩ := trodVars_none hV
  have k0 := h0
  have lt0 : ∀ x ∈ p0, x.block < W.heap.size := by obtain ⟨m, hm⟩ := k0; exact DataW.trod_lt m _ _ _ hm
  have k1 := h1
  have lt1 : ∀ x ∈ p1, x.block < W.heap.size := by obtain ⟨m, hm⟩ := k1; exact DataW.trod_lt m _ _ _ hm
  have k2 := h2
  have lt2 : ∀ x ∈ p2, x.block < W.heap.size := by obtain ⟨m, hm⟩ := k2; exact DataW.trod_lt m _ _ _ hm
  have k3 := h3
  have lt3 : ∀ x ∈ p3, x.block < W.heap.size := by obtain ⟨m, hm⟩ := k3; exact DataW.trod_lt m _ _ _ hm
  obtain ⟨n0, s0, e0, rfl, r0, l0⟩ := openGraph (hval 0 24 v0 rfl rfl) h0
  obtain ⟨a1, rfl, rfl, rfl, w1⟩ := open_int Tryz.underlying3 (hval 1 3 v1 rfl rfl) h1
  obtain ⟨s2, i2, x2, rfl, r2, l2⟩ := openPath (hval 2 27 v2 rfl rfl) h2
  obtain ⟨a3, rfl, rfl, rfl, w3⟩ := open_int Tryz.underlying3 (hval 3 3 v3 rfl rfl) h3
  clear hA0 hval0
  refine (walk W n0 s0 e0 r0 l0 a1 w1 x2 s2 i2 r2 l2 a3 w3).mono fun e W' ⟨he, bel⟩ => ?_
  subst he
  exact ⟨_, rfl, _, _, _, [], _, [], hW', trodAll_mk1 (shut_bool Tryz.underlying4 _), (trodAll_cons_mk (Below.trod laidOut (by kernel_rfl) (of_decide_eq_true (by kernel_rfl)) k0 bel lt0) (trodAll_cons_mk (Below.trod laidOut (by kernel_rfl) (of_decide_eq_true (by kernel_rfl)) k1 bel lt1) (trodAll_cons_mk (Below.trod laidOut (by kernel_rfl) (of_decide_eq_true (by kernel_rfl)) k2 bel lt2) (trodAll_cons_mk (Below.trod laidOut (by kernel_rfl) (of_decide_eq_true (by kernel_rfl)) k3 bel lt3) trodAll_mk0)))), rfl, bel.frame _, fun h => by cases h⟩

theorem over : Rows.fnExactDetourOfRow.holds Tryz.pinned (OpenSpec.ofChange Rows.fnExactDetourOfSpec) :=
  OpenClaim.holds_of_wide 4 Tryz.f4 rfl rfl rfl rfl rfl rfl rfl ⟨rfl, rfl, rfl, rfl, rfl⟩ rfl rfl rfl rfl rfl (by kernel_rfl) Tryz.func4 (by kernel_rfl)
    (of_decide_eq_true (by kernel_rfl)) (by unfold Func.isWrapper; first | (rw [if_pos (by decide +kernel)]; kernel_rfl) | (rw [if_neg (by decide +kernel)]; exact ⟨rfl, rfl⟩))
    (fun os started H enc _ => lifted os started H enc)

theorem proved : Rows.FnExactDetourOfSaid := over
end Go.Proofs.YtneapbggnnndhaaGreat.fnExactDetourOf
