/-
  Proved: at every matrix and every edge impl.PutPair answers as the model spec.PutPair does, writes into no argument and returns memory of its own (the law FnExactPutPair returns true for them all), with no further condition.
-/
import Derived.Test.YtdpbmenjangpaaaRows
import Derived.Test.YtdpbmenjangpaaaPutS8
import Derived.Test.YtdpbmenjangpaaaMatL
import Derived.Test.YtdpbmenjangpaaaGrid
import Derived.WalkKit
import Derived.ProofKit
import Derived.OpenShut
import Derived.ShutString
import Derived.ChangeOld
import Derived.Below
namespace Go.Proofs.Ytdpbmenjangpaaa.fnExactPutPair
open Go.Proofs.Ytdpbmenjangpaaa Go.BigFrame
open Go.ChangeShapes Go.WideShapes Go.ChangeAt Go.RowKit
open Go.ChangeMaps (open_string shut_string)
set_option linter.unusedVariables false

theorem own : ownKnob Try.prog.godebug = none := by kernel_rfl
theorem laidOut : laidOutB Try.prog = true := by kernel_rfl

set_option maxRecDepth 100000 in
set_option maxHeartbeats 4000000 in
theorem walk (w : World) (m0 : Int) (s0 : Value) (Z0 : List (List Int)) (r0 : Grid w s0 Z0) (l0 : Z0.length ≤ 9223372036854775807 ∧ ∀ i, i < Z0.length → (Z0.getD i []).length ≤ 9223372036854775807) (x1 y1 z1 : Int) :
    Calls Try.prog 10 #[.agg #[.int .i64 m0, s0], .agg #[.int .i64 x1, .int .i64 y1, .int .i64 z1]] w fun e w' => e = .returned (.bool true) ∧ Below w.heap.size w w' := by
  obtain ⟨l0a, l0b⟩ := l0
  obtain ⟨ad0, cp0, hs0, hz0⟩ := id r0
  subst hs0
  clear hz0
  have R0 := Lib.hid (GridIn.of r0)
  clear r0
  have hsz0 := fun w (h : Grid w (.slice ad0 Z0.length cp0) Z0) => szMatrix m0 Z0 (.slice ad0 Z0.length cp0) (1048576) w h (by omega) l0a l0b
  by_cases hbig0 : (Z0.length + tl Z0) ≤ 1048576
  rotate_left
  · have eR : szG (1048576) Z0 = -1 := by rw [szG, if_neg hbig0]
    rw [eR] at hsz0
    have HZ0 := Lib.hid hsz0
    clear hsz0 eR
    obtain ⟨w0, hw0⟩ : ∃ w0, w0 = w := ⟨_, rfl⟩
    subst hw0
    have H0 := Below.refl w0.heap.size w0
    have R0_0 := R0
    clear R0
    go_enter Try.func10, Try.ntmps10
    go_wp2_with fail
    have hb1 : Below w0.heap.size w0 ((w0.alloc (.cells #[.int .i64 m0, .slice ad0 Z0.length cp0] 24)).alloc (.cells #[.int .i64 x1, .int .i64 y1, .int .i64 z1] 53)) := ((Below.refl _ _).alloc (by simp <;> omega) _).alloc (by simp <;> omega) _
    have H1 := bel_trans H0 hb1
    have SZ1 := Lib.hid hb1.size
    have R0_1 := Lib.hid (R0_0.out.keep hb1)
    have qa00_1 : ((w0.alloc (.cells #[.int .i64 m0, .slice ad0 Z0.length cp0] 24)).alloc (.cells #[.int .i64 x1, .int .i64 y1, .int .i64 z1] 53)).cell? ⟨w0.heap.size, 0, none⟩ = some (.int .i64 m0) := by go_simp
    have qa01_1 : ((w0.alloc (.cells #[.int .i64 m0, .slice ad0 Z0.length cp0] 24)).alloc (.cells #[.int .i64 x1, .int .i64 y1, .int .i64 z1] 53)).cell? ⟨w0.heap.size, 1, none⟩ = some (.slice ad0 Z0.length cp0) := by go_simp
    have za0_1 : w0.heap.size < ((w0.alloc (.cells #[.int .i64 m0, .slice ad0 Z0.length cp0] 24)).alloc (.cells #[.int .i64 x1, .int .i64 y1, .int .i64 z1] 53)).heap.size := by simp <;> omega
    have qa10_1 : ((w0.alloc (.cells #[.int .i64 m0, .slice ad0 Z0.length cp0] 24)).alloc (.cells #[.int .i64 x1, .int .i64 y1, .int .i64 z1] 53)).cell? ⟨w0.heap.size + 1, 0, none⟩ = some (.int .i64 x1) := by go_simp
    have qa11_1 : ((w0.alloc (.cells #[.int .i64 m0, .slice ad0 Z0.length cp0] 24)).alloc (.cells #[.int .i64 x1, .int .i64 y1, .int .i64 z1] 53)).cell? ⟨w0.heap.size + 1, 1, none⟩ = some (.int .i64 y1) := by go_simp
    have qa12_1 : ((w0.alloc (.cells #[.int .i64 m0, .slice ad0 Z0.length cp0] 24)).alloc (.cells #[.int .i64 x1, .int .i64 y1, .int .i64 z1] 53)).cell? ⟨w0.heap.size + 1, 2, none⟩ = some (.int .i64 z1) := by go_simp
    have za1_1 : w0.heap.size + 1 < ((w0.alloc (.cells #[.int .i64 m0, .slice ad0 Z0.length cp0] 24)).alloc (.cells #[.int .i64 x1, .int .i64 y1, .int .i64 z1] 53)).heap.size := by simp <;> omega
    generalize ((w0.alloc (.cells #[.int .i64 m0, .slice ad0 Z0.length cp0] 24)).alloc (.cells #[.int .i64 x1, .int .i64 y1, .int .i64 z1] 53)) = w1 at hb1 H1 SZ1 R0_1 qa00_1 qa01_1 qa10_1 qa11_1 qa12_1 za0_1 za1_1 ⊢
    have ZBa0 := Lib.hid za0_1
    have ZBa1 := Lib.hid za1_1
    clear R0_0
    refine (HZ0.out _ R0_1.out.grid).mono ?_
    rintro e w2 ⟨rfl, hb2⟩
    have H2 := bel_trans H1 hb2
    have SZ2 := Lib.hid hb2.size
    have qa00_2 := (hb2.cell (p := ⟨w0.heap.size, 0, none⟩) za0_1).trans qa00_1
    have qa01_2 := (hb2.cell (p := ⟨w0.heap.size, 1, none⟩) za0_1).trans qa01_1
    have za0_2 := Nat.lt_of_lt_of_le za0_1 hb2.size
    have qa10_2 := (hb2.cell (p := ⟨w0.heap.size + 1, 0, none⟩) za1_1).trans qa10_1
    have qa11_2 := (hb2.cell (p := ⟨w0.heap.size + 1, 1, none⟩) za1_1).trans qa11_1
    have qa12_2 := (hb2.cell (p := ⟨w0.heap.size + 1, 2, none⟩) za1_1).trans qa12_1
    have za1_2 := Nat.lt_of_lt_of_le za1_1 hb2.size
    have R0_2 := Lib.hid (R0_1.out.keep hb2)
    clear R0_1 qa00_1 qa01_1 za0_1 qa10_1 qa11_1 qa12_1 za1_1
    go_wp2
    go_ret
    exact ⟨rfl, H2⟩
  have eR : szG (1048576) Z0 = ((1048576 - (Z0.length + tl Z0) : Nat) : Int) := by rw [szG, if_pos hbig0]
  rw [eR] at hsz0
  obtain ⟨left0, hleft0⟩ : ∃ left, left = 1048576 - (Z0.length + tl Z0) := ⟨_, rfl⟩
  rw [← hleft0] at hsz0
  have hlb0 : left0 ≤ 1048576 := by omega
  have HZ0 := Lib.hid hsz0
  have hnn0 : decide ((left0 : Int) < 0) = false := by simp
  have HLE0 := Lib.hid hleft0
  clear hsz0 eR hleft0
  have hb0g : Z0.length ≤ 1048576 := by omega
  have hb0h : Z0.length ≤ 281474976710656 := by omega
  have hb0i : Z0.length ≤ 4194304 := by omega
  have htl0 : tl Z0 ≤ 1048575 := by have := tl_lt Z0; omega
  have HR0 : Hid (∀ i, i < Z0.length → (Z0.getD i []).length ≤ 1048576) := Lib.hid (fun i hi => by have := row_le Z0 hi; omega)
  have HR10 : Hid (∀ i, i < Z0.length → (Z0.getD i []).length ≤ 281474976710656) := Lib.hid (fun i hi => by have := row_le Z0 hi; omega)
  have HR20 : Hid (∀ i, i < Z0.length → (Z0.getD i []).length ≤ 4194304) := Lib.hid (fun i hi => by have := row_le Z0 hi; omega)
  obtain ⟨w0, hw0⟩ : ∃ w0, w0 = w := ⟨_, rfl⟩
  subst hw0
  have H0 := Below.refl w0.heap.size w0
  have R0_0 := R0
  clear R0
  go_enter Try.func10, Try.ntmps10
  go_wp2_with fail
  have hb1 : Below w0.heap.size w0 ((w0.alloc (.cells #[.int .i64 m0, .slice ad0 Z0.length cp0] 24)).alloc (.cells #[.int .i64 x1, .int .i64 y1, .int .i64 z1] 53)) := ((Below.refl _ _).alloc (by simp <;> omega) _).alloc (by simp <;> omega) _
  have H1 := bel_trans H0 hb1
  have SZ1 := Lib.hid hb1.size
  have R0_1 := Lib.hid (R0_0.out.keep hb1)
  have qa00_1 : ((w0.alloc (.cells #[.int .i64 m0, .slice ad0 Z0.length cp0] 24)).alloc (.cells #[.int .i64 x1, .int .i64 y1, .int .i64 z1] 53)).cell? ⟨w0.heap.size, 0, none⟩ = some (.int .i64 m0) := by go_simp
  have qa01_1 : ((w0.alloc (.cells #[.int .i64 m0, .slice ad0 Z0.length cp0] 24)).alloc (.cells #[.int .i64 x1, .int .i64 y1, .int .i64 z1] 53)).cell? ⟨w0.heap.size, 1, none⟩ = some (.slice ad0 Z0.length cp0) := by go_simp
  have za0_1 : w0.heap.size < ((w0.alloc (.cells #[.int .i64 m0, .slice ad0 Z0.length cp0] 24)).alloc (.cells #[.int .i64 x1, .int .i64 y1, .int .i64 z1] 53)).heap.size := by simp <;> omega
  have qa10_1 : ((w0.alloc (.cells #[.int .i64 m0, .slice ad0 Z0.length cp0] 24)).alloc (.cells #[.int .i64 x1, .int .i64 y1, .int .i64 z1] 53)).cell? ⟨w0.heap.size + 1, 0, none⟩ = some (.int .i64 x1) := by go_simp
  have qa11_1 : ((w0.alloc (.cells #[.int .i64 m0, .slice ad0 Z0.length cp0] 24)).alloc (.cells #[.int .i64 x1, .int .i64 y1, .int .i64 z1] 53)).cell? ⟨w0.heap.size + 1, 1, none⟩ = some (.int .i64 y1) := by go_simp
  have qa12_1 : ((w0.alloc (.cells #[.int .i64 m0, .slice ad0 Z0.length cp0] 24)).alloc (.cells #[.int .i64 x1, .int .i64 y1, .int .i64 z1] 53)).cell? ⟨w0.heap.size + 1, 2, none⟩ = some (.int .i64 z1) := by go_simp
  have za1_1 : w0.heap.size + 1 < ((w0.alloc (.cells #[.int .i64 m0, .slice ad0 Z0.length cp0] 24)).alloc (.cells #[.int .i64 x1, .int .i64 y1, .int .i64 z1] 53)).heap.size := by simp <;> omega
  generalize ((w0.alloc (.cells #[.int .i64 m0, .slice ad0 Z0.length cp0] 24)).alloc (.cells #[.int .i64 x1, .int .i64 y1, .int .i64 z1] 53)) = w1 at hb1 H1 SZ1 R0_1 qa00_1 qa01_1 qa10_1 qa11_1 qa12_1 za0_1 za1_1 ⊢
  have ZBa0 := Lib.hid za0_1
  have ZBa1 := Lib.hid za1_1
  clear R0_0
  refine (HZ0.out _ R0_1.out.grid).mono ?_
  rintro e w2 ⟨rfl, hb2⟩
  have H2 := bel_trans H1 hb2
  have SZ2 := Lib.hid hb2.size
  have qa00_2 := (hb2.cell (p := ⟨w0.heap.size, 0, none⟩) za0_1).trans qa00_1
  have qa01_2 := (hb2.cell (p := ⟨w0.heap.size, 1, none⟩) za0_1).trans qa01_1
  have za0_2 := Nat.lt_of_lt_of_le za0_1 hb2.size
  have qa10_2 := (hb2.cell (p := ⟨w0.heap.size + 1, 0, none⟩) za1_1).trans qa10_1
  have qa11_2 := (hb2.cell (p := ⟨w0.heap.size + 1, 1, none⟩) za1_1).trans qa11_1
  have qa12_2 := (hb2.cell (p := ⟨w0.heap.size + 1, 2, none⟩) za1_1).trans qa12_1
  have za1_2 := Nat.lt_of_lt_of_le za1_1 hb2.size
  have R0_2 := Lib.hid (R0_1.out.keep hb2)
  clear R0_1 qa00_1 qa01_1 za0_1 qa10_1 qa11_1 qa12_1 za1_1
  have hsm : Sm (rL (pOk m0 Z0 x1 y1 z1) (ppL m0 Z0 x1 y1 z1)) := rL_sm ppL_sm
  have hsp := fun s w h => sPutPair m0 x1 y1 z1 Z0 s w h hb0h HR10.out
  have him := fun s w h => putPair m0 x1 y1 z1 Z0 s w h hb0h HR10.out
  generalize rM (pOk m0 Z0 x1 y1 z1) m0 = M at hsp him
  generalize rL (pOk m0 Z0 x1 y1 z1) (ppL m0 Z0 x1 y1 z1) = ls at hsp him hsm
  generalize pOk m0 Z0 x1 y1 z1 = B at hsp him
  have hln : ls.length ≤ 4194304 := by have := hsm.1; omega
  have htl : tl ls ≤ 144 := hsm.tl
  have HLR := Lib.hid hsm.rows
  have HSP := Lib.hid hsp
  have HIM := Lib.hid him
  clear hsp him hsm
  go_upto_region 5 with fail
  go_cut [6, 7] from 16 (fun p c wx => BoxInM w2 wx M ls p ∧ c = .bool B)
  · have hold : ∀ w' : World, Below w2.heap.size w2 w' → (w'.cell? ⟨w0.heap.size, 0, none⟩ = some (.int .i64 m0) ∧ w'.cell? ⟨w0.heap.size, 1, none⟩ = some (.slice ad0 Z0.length cp0) ∧ w'.cell? ⟨w0.heap.size + 1, 0, none⟩ = some (.int .i64 x1) ∧ w'.cell? ⟨w0.heap.size + 1, 1, none⟩ = some (.int .i64 y1) ∧ w'.cell? ⟨w0.heap.size + 1, 2, none⟩ = some (.int .i64 z1)) := fun w' h => ⟨(h.cell (p := ⟨w0.heap.size, 0, none⟩) za0_2).trans qa00_2, (h.cell (p := ⟨w0.heap.size, 1, none⟩) za0_2).trans qa01_2, (h.cell (p := ⟨w0.heap.size + 1, 0, none⟩) za1_2).trans qa10_2, (h.cell (p := ⟨w0.heap.size + 1, 1, none⟩) za1_2).trans qa11_2, (h.cell (p := ⟨w0.heap.size + 1, 2, none⟩) za1_2).trans qa12_2⟩
    have HOLD := Lib.hid hold
    clear hold
    go_region_held3 (fun w' : World => w'.cell? ⟨w0.heap.size, 0, none⟩ = some (.int .i64 m0) ∧ w'.cell? ⟨w0.heap.size, 1, none⟩ = some (.slice ad0 Z0.length cp0) ∧ w'.cell? ⟨w0.heap.size + 1, 0, none⟩ = some (.int .i64 x1) ∧ w'.cell? ⟨w0.heap.size + 1, 1, none⟩ = some (.int .i64 y1) ∧ w'.cell? ⟨w0.heap.size + 1, 2, none⟩ = some (.int .i64 z1)) (exact HOLD.out _ (by repeat' (first | with_reducible exact Below.refl _ _ | with_reducible apply b_alloc | with_reducible apply b_drew | with_reducible apply b_set | (refine @bel_trans _ ?_ _ ?_ ?_; rotate_right; with_reducible assumption)))) (first | (go_at_call 13; (with_reducible refine (toMatrix m0 Z0 _ _ (R0_2.out.keep (by repeat' (first | with_reducible exact Below.refl _ _ | with_reducible apply b_alloc | with_reducible apply b_drew | with_reducible apply b_set | (refine @bel_trans _ ?_ _ ?_ ?_; rotate_right; with_reducible assumption)))).grid hb0g HR0.out).mono ?_); rintro e wA ⟨sA, rfl, hnewA, hbA⟩; (try (refine (fun (zz : w2.heap.size < wA.heap.size) => ?_) (Nat.lt_of_lt_of_le ?_ hbA.size); rotate_right; (first | with_reducible assumption | (simp <;> omega)))); (try (refine (fun (cc : wA.cell? ⟨w2.heap.size, 0, none⟩ = some (.int .i64 0)) => ?_) ((hbA.cell (p := ⟨w2.heap.size, 0, none⟩) ?_).trans ?_); rotate_left; (first | with_reducible assumption | (simp <;> omega)); (first | with_reducible assumption | (focus (go_simp; done))))); (try (refine (fun (ff : wA.frozen? ⟨w2.heap.size, 0, none⟩ = false) => ?_) ((hbA.frozen (p := ⟨w2.heap.size, 0, none⟩) ?_).trans ?_); rotate_left; (first | with_reducible assumption | (simp <;> omega)); (first | with_reducible assumption | (focus (go_simp; done))))); (try (refine (fun (cc : wA.cell? ⟨w2.heap.size, 1, none⟩ = some (.slice none 0 0)) => ?_) ((hbA.cell (p := ⟨w2.heap.size, 1, none⟩) ?_).trans ?_); rotate_left; (first | with_reducible assumption | (simp <;> omega)); (first | with_reducible assumption | (focus (go_simp; done))))); (try (refine (fun (ff : wA.frozen? ⟨w2.heap.size, 1, none⟩ = false) => ?_) ((hbA.frozen (p := ⟨w2.heap.size, 1, none⟩) ?_).trans ?_); rotate_left; (first | with_reducible assumption | (simp <;> omega)); (first | with_reducible assumption | (focus (go_simp; done)))))) | (go_at_call 35; (with_reducible refine (toEdge x1 y1 z1 _).mono ?_); rintro e wE ⟨rfl, hbE⟩; (try (refine (fun (zz : w2.heap.size < wE.heap.size) => ?_) (Nat.lt_of_lt_of_le ?_ hbE.size); rotate_right; (first | with_reducible assumption | (simp <;> omega)))); (try (refine (fun (cc : wE.cell? ⟨w2.heap.size, 0, none⟩ = some (.int .i64 0)) => ?_) ((hbE.cell (p := ⟨w2.heap.size, 0, none⟩) ?_).trans ?_); rotate_left; (first | with_reducible assumption | (simp <;> omega)); (first | with_reducible assumption | (focus (go_simp; done))))); (try (refine (fun (ff : wE.frozen? ⟨w2.heap.size, 0, none⟩ = false) => ?_) ((hbE.frozen (p := ⟨w2.heap.size, 0, none⟩) ?_).trans ?_); rotate_left; (first | with_reducible assumption | (simp <;> omega)); (first | with_reducible assumption | (focus (go_simp; done))))); (try (refine (fun (cc : wE.cell? ⟨w2.heap.size, 1, none⟩ = some (.slice none 0 0)) => ?_) ((hbE.cell (p := ⟨w2.heap.size, 1, none⟩) ?_).trans ?_); rotate_left; (first | with_reducible assumption | (simp <;> omega)); (first | with_reducible assumption | (focus (go_simp; done))))); (try (refine (fun (ff : wE.frozen? ⟨w2.heap.size, 1, none⟩ = false) => ?_) ((hbE.frozen (p := ⟨w2.heap.size, 1, none⟩) ?_).trans ?_); rotate_left; (first | with_reducible assumption | (simp <;> omega)); (first | with_reducible assumption | (focus (go_simp; done))))); (try (refine (fun (zz : wA.heap.size < wE.heap.size) => ?_) (Nat.lt_of_lt_of_le ?_ hbE.size); rotate_right; (first | with_reducible assumption | (simp <;> omega)))); (try (refine (fun (cc : wE.cell? ⟨wA.heap.size, 0, none⟩ = some (.int .i64 0)) => ?_) ((hbE.cell (p := ⟨wA.heap.size, 0, none⟩) ?_).trans ?_); rotate_left; (first | with_reducible assumption | (simp <;> omega)); (first | with_reducible assumption | (focus (go_simp; done))))); (try (refine (fun (ff : wE.frozen? ⟨wA.heap.size, 0, none⟩ = false) => ?_) ((hbE.frozen (p := ⟨wA.heap.size, 0, none⟩) ?_).trans ?_); rotate_left; (first | with_reducible assumption | (simp <;> omega)); (first | with_reducible assumption | (focus (go_simp; done))))); (try (refine (fun (cc : wE.cell? ⟨wA.heap.size, 1, none⟩ = some (.slice none 0 0)) => ?_) ((hbE.cell (p := ⟨wA.heap.size, 1, none⟩) ?_).trans ?_); rotate_left; (first | with_reducible assumption | (simp <;> omega)); (first | with_reducible assumption | (focus (go_simp; done))))); (try (refine (fun (ff : wE.frozen? ⟨wA.heap.size, 1, none⟩ = false) => ?_) ((hbE.frozen (p := ⟨wA.heap.size, 1, none⟩) ?_).trans ?_); rotate_left; (first | with_reducible assumption | (simp <;> omega)); (first | with_reducible assumption | (focus (go_simp; done)))))) | (go_at_call 34; (with_reducible refine (HSP.out _ _ (hnewA.keep (by repeat' (first | with_reducible exact Below.refl _ _ | with_reducible apply b_alloc | with_reducible apply b_drew | with_reducible apply b_set | (refine @bel_trans _ ?_ _ ?_ ?_; rotate_right; with_reducible assumption)))).grid).mono ?_); rintro e wC ⟨v, rfl, hown, hbC⟩; obtain ⟨va, vc, rfl⟩ := hown.slice; (try (refine (fun (zz : w2.heap.size < wC.heap.size) => ?_) (Nat.lt_of_lt_of_le ?_ hbC.size); rotate_right; (first | with_reducible assumption | (simp <;> omega)))); (try (refine (fun (cc : wC.cell? ⟨w2.heap.size, 0, none⟩ = some (.int .i64 0)) => ?_) ((hbC.cell (p := ⟨w2.heap.size, 0, none⟩) ?_).trans ?_); rotate_left; (first | with_reducible assumption | (simp <;> omega)); (first | with_reducible assumption | (focus (go_simp; done))))); (try (refine (fun (ff : wC.frozen? ⟨w2.heap.size, 0, none⟩ = false) => ?_) ((hbC.frozen (p := ⟨w2.heap.size, 0, none⟩) ?_).trans ?_); rotate_left; (first | with_reducible assumption | (simp <;> omega)); (first | with_reducible assumption | (focus (go_simp; done))))); (try (refine (fun (cc : wC.cell? ⟨w2.heap.size, 1, none⟩ = some (.slice none 0 0)) => ?_) ((hbC.cell (p := ⟨w2.heap.size, 1, none⟩) ?_).trans ?_); rotate_left; (first | with_reducible assumption | (simp <;> omega)); (first | with_reducible assumption | (focus (go_simp; done))))); (try (refine (fun (ff : wC.frozen? ⟨w2.heap.size, 1, none⟩ = false) => ?_) ((hbC.frozen (p := ⟨w2.heap.size, 1, none⟩) ?_).trans ?_); rotate_left; (first | with_reducible assumption | (simp <;> omega)); (first | with_reducible assumption | (focus (go_simp; done))))); (try (refine (fun (zz : wA.heap.size < wC.heap.size) => ?_) (Nat.lt_of_lt_of_le ?_ hbC.size); rotate_right; (first | with_reducible assumption | (simp <;> omega)))); (try (refine (fun (cc : wC.cell? ⟨wA.heap.size, 0, none⟩ = some (.int .i64 0)) => ?_) ((hbC.cell (p := ⟨wA.heap.size, 0, none⟩) ?_).trans ?_); rotate_left; (first | with_reducible assumption | (simp <;> omega)); (first | with_reducible assumption | (focus (go_simp; done))))); (try (refine (fun (ff : wC.frozen? ⟨wA.heap.size, 0, none⟩ = false) => ?_) ((hbC.frozen (p := ⟨wA.heap.size, 0, none⟩) ?_).trans ?_); rotate_left; (first | with_reducible assumption | (simp <;> omega)); (first | with_reducible assumption | (focus (go_simp; done))))); (try (refine (fun (cc : wC.cell? ⟨wA.heap.size, 1, none⟩ = some (.slice none 0 0)) => ?_) ((hbC.cell (p := ⟨wA.heap.size, 1, none⟩) ?_).trans ?_); rotate_left; (first | with_reducible assumption | (simp <;> omega)); (first | with_reducible assumption | (focus (go_simp; done))))); (try (refine (fun (ff : wC.frozen? ⟨wA.heap.size, 1, none⟩ = false) => ?_) ((hbC.frozen (p := ⟨wA.heap.size, 1, none⟩) ?_).trans ?_); rotate_left; (first | with_reducible assumption | (simp <;> omega)); (first | with_reducible assumption | (focus (go_simp; done))))); (try (refine (fun (zz : wE.heap.size < wC.heap.size) => ?_) (Nat.lt_of_lt_of_le ?_ hbC.size); rotate_right; (first | with_reducible assumption | (simp <;> omega)))); (try (refine (fun (cc : wC.cell? ⟨wE.heap.size, 0, none⟩ = some (.int .i64 0)) => ?_) ((hbC.cell (p := ⟨wE.heap.size, 0, none⟩) ?_).trans ?_); rotate_left; (first | with_reducible assumption | (simp <;> omega)); (first | with_reducible assumption | (focus (go_simp; done))))); (try (refine (fun (ff : wC.frozen? ⟨wE.heap.size, 0, none⟩ = false) => ?_) ((hbC.frozen (p := ⟨wE.heap.size, 0, none⟩) ?_).trans ?_); rotate_left; (first | with_reducible assumption | (simp <;> omega)); (first | with_reducible assumption | (focus (go_simp; done))))); (try (refine (fun (cc : wC.cell? ⟨wE.heap.size, 1, none⟩ = some (.slice none 0 0)) => ?_) ((hbC.cell (p := ⟨wE.heap.size, 1, none⟩) ?_).trans ?_); rotate_left; (first | with_reducible assumption | (simp <;> omega)); (first | with_reducible assumption | (focus (go_simp; done))))); (try (refine (fun (ff : wC.frozen? ⟨wE.heap.size, 1, none⟩ = false) => ?_) ((hbC.frozen (p := ⟨wE.heap.size, 1, none⟩) ?_).trans ?_); rotate_left; (first | with_reducible assumption | (simp <;> omega)); (first | with_reducible assumption | (focus (go_simp; done)))))))
    all_goals
      go_wp2_with fail
      go_meet
      first | (refine ⟨?_, rfl⟩; apply box_endM; (case ho => with_reducible assumption); (case hc => with_reducible assumption); (case hb => repeat' (first | with_reducible exact Below.refl _ _ | with_reducible apply b_alloc | with_reducible apply b_drew | with_reducible apply b_set | (refine @bel_trans _ ?_ _ ?_ ?_; rotate_right; with_reducible assumption))); done) | (refine ⟨?_, rfl⟩; apply box_midM (T := 27) (M0 := 0) (v0 := .slice none 0 0); (case ho => with_reducible assumption); (case hc => with_reducible assumption); (case hb => repeat' (first | with_reducible exact Below.refl _ _ | with_reducible apply b_alloc | with_reducible apply b_drew | with_reducible apply b_set | (refine @bel_trans _ ?_ _ ?_ ?_; rotate_right; with_reducible assumption))); (case hx => repeat' (first | with_reducible exact Below.refl _ _ | with_reducible apply b_alloc | with_reducible apply b_drew | with_reducible apply b_set | (refine @bel_trans _ ?_ _ ?_ ?_; rotate_right; with_reducible assumption))); done)
  obtain ⟨w3, hw3⟩ : ∃ w3, w3 = wc := ⟨_, rfl⟩
  subst hw3
  obtain ⟨⟨gbV, vaV, vcV, loV, hiV, rfl, ⟨hq0, hq1⟩, hrow, ⟨hge, hlt⟩, ⟨hlo, hhi⟩, hdj, hb3⟩, rfl⟩ := hcut
  have H3 := bel_trans H2 hb3
  have SZ3 := Lib.hid hb3.size
  have qa00_3 := (hb3.cell (p := ⟨w0.heap.size, 0, none⟩) za0_2).trans qa00_2
  have qa01_3 := (hb3.cell (p := ⟨w0.heap.size, 1, none⟩) za0_2).trans qa01_2
  have za0_3 := Nat.lt_of_lt_of_le za0_2 hb3.size
  have qa10_3 := (hb3.cell (p := ⟨w0.heap.size + 1, 0, none⟩) za1_2).trans qa10_2
  have qa11_3 := (hb3.cell (p := ⟨w0.heap.size + 1, 1, none⟩) za1_2).trans qa11_2
  have qa12_3 := (hb3.cell (p := ⟨w0.heap.size + 1, 2, none⟩) za1_2).trans qa12_2
  have za1_3 := Nat.lt_of_lt_of_le za1_2 hb3.size
  have R0_3 := Lib.hid (R0_2.out.keep hb3)
  have GEbV := Lib.hid hge
  have ZBbV := Lib.hid hlt
  have LOV := Lib.hid hlo
  have HIV := Lib.hid hhi
  have DJbV := Lib.hid hdj
  have qbV0_3 := hq0
  have qbV1_3 := hq1
  have zbV_3 := hlt
  have V_3 := Lib.hid hrow
  clear hq0 hq1 hrow hge hlt hlo hhi hdj
  clear qa00_2 qa01_2 za0_2 qa10_2 qa11_2 qa12_2 za1_2 R0_2
  go_wp2_with fail
  refine (toMatrix m0 Z0 _ _ R0_3.out.grid hb0g HR0.out).mono ?_
  rintro e w4 ⟨_, rfl, hnew, hb4⟩
  have H4 := bel_trans H3 hb4
  have SZ4 := Lib.hid hb4.size
  have qa00_4 := (hb4.cell (p := ⟨w0.heap.size, 0, none⟩) za0_3).trans qa00_3
  have qa01_4 := (hb4.cell (p := ⟨w0.heap.size, 1, none⟩) za0_3).trans qa01_3
  have za0_4 := Nat.lt_of_lt_of_le za0_3 hb4.size
  have qa10_4 := (hb4.cell (p := ⟨w0.heap.size + 1, 0, none⟩) za1_3).trans qa10_3
  have qa11_4 := (hb4.cell (p := ⟨w0.heap.size + 1, 1, none⟩) za1_3).trans qa11_3
  have qa12_4 := (hb4.cell (p := ⟨w0.heap.size + 1, 2, none⟩) za1_3).trans qa12_3
  have za1_4 := Nat.lt_of_lt_of_le za1_3 hb4.size
  have qbV0_4 := (hb4.cell (p := ⟨gbV, 0, none⟩) zbV_3).trans qbV0_3
  have qbV1_4 := (hb4.cell (p := ⟨gbV, 1, none⟩) zbV_3).trans qbV1_3
  have zbV_4 := Nat.lt_of_lt_of_le zbV_3 hb4.size
  have R0_4 := Lib.hid (R0_3.out.keep hb4)
  have V_4 := Lib.hid (V_3.out.keep hb4)
  obtain ⟨adX0, cpX0, rfl⟩ := hnew.slice
  have X0_4 := Lib.hid (hnew)
  clear qa00_3 qa01_3 za0_3 qa10_3 qa11_3 qa12_3 za1_3 R0_3 qbV0_3 qbV1_3 zbV_3 V_3
  clear hnew
  go_wp2_with fail
  have hb5 : Below w4.heap.size w4 (w4.alloc (.cells #[.int .i64 m0, .slice adX0 Z0.length cpX0] 27)) := (Below.refl _ _).alloc (by simp <;> omega) _
  have H5 := bel_trans H4 hb5
  have SZ5 := Lib.hid hb5.size
  have qa00_5 := (hb5.cell (p := ⟨w0.heap.size, 0, none⟩) za0_4).trans qa00_4
  have qa01_5 := (hb5.cell (p := ⟨w0.heap.size, 1, none⟩) za0_4).trans qa01_4
  have za0_5 := Nat.lt_of_lt_of_le za0_4 hb5.size
  have qa10_5 := (hb5.cell (p := ⟨w0.heap.size + 1, 0, none⟩) za1_4).trans qa10_4
  have qa11_5 := (hb5.cell (p := ⟨w0.heap.size + 1, 1, none⟩) za1_4).trans qa11_4
  have qa12_5 := (hb5.cell (p := ⟨w0.heap.size + 1, 2, none⟩) za1_4).trans qa12_4
  have za1_5 := Nat.lt_of_lt_of_le za1_4 hb5.size
  have qbV0_5 := (hb5.cell (p := ⟨gbV, 0, none⟩) zbV_4).trans qbV0_4
  have qbV1_5 := (hb5.cell (p := ⟨gbV, 1, none⟩) zbV_4).trans qbV1_4
  have zbV_5 := Nat.lt_of_lt_of_le zbV_4 hb5.size
  have R0_5 := Lib.hid (R0_4.out.keep hb5)
  have V_5 := Lib.hid (V_4.out.keep hb5)
  have X0_5 := Lib.hid (X0_4.out.keep hb5)
  have qx00_5 : (w4.alloc (.cells #[.int .i64 m0, .slice adX0 Z0.length cpX0] 27)).cell? ⟨w4.heap.size, 0, none⟩ = some (.int .i64 m0) := by go_simp
  have qx01_5 : (w4.alloc (.cells #[.int .i64 m0, .slice adX0 Z0.length cpX0] 27)).cell? ⟨w4.heap.size, 1, none⟩ = some (.slice adX0 Z0.length cpX0) := by go_simp
  have zx0_5 : w4.heap.size < (w4.alloc (.cells #[.int .i64 m0, .slice adX0 Z0.length cpX0] 27)).heap.size := by simp <;> omega
  generalize (w4.alloc (.cells #[.int .i64 m0, .slice adX0 Z0.length cpX0] 27)) = w5 at hb5 H5 SZ5 R0_5 V_5 X0_5 qa00_5 qa01_5 qa10_5 qa11_5 qa12_5 qbV0_5 qbV1_5 qx00_5 qx01_5 za0_5 za1_5 zbV_5 zx0_5 ⊢
  have ZBx0 := Lib.hid zx0_5
  clear qa00_4 qa01_4 za0_4 qa10_4 qa11_4 qa12_4 za1_4 qbV0_4 qbV1_4 zbV_4 R0_4 V_4 X0_4
  go_upto_region 7 with fail
  go_cut [9, 10] from 16 (fun p c wx => BoxInM w5 wx M ls p ∧ c = .bool B)
  · have hold : ∀ w' : World, Below w5.heap.size w5 w' → (w'.cell? ⟨w4.heap.size, 0, none⟩ = some (.int .i64 m0) ∧ w'.cell? ⟨w4.heap.size, 1, none⟩ = some (.slice adX0 Z0.length cpX0) ∧ w'.cell? ⟨w0.heap.size + 1, 0, none⟩ = some (.int .i64 x1) ∧ w'.cell? ⟨w0.heap.size + 1, 1, none⟩ = some (.int .i64 y1) ∧ w'.cell? ⟨w0.heap.size + 1, 2, none⟩ = some (.int .i64 z1)) := fun w' h => ⟨(h.cell (p := ⟨w4.heap.size, 0, none⟩) zx0_5).trans qx00_5, (h.cell (p := ⟨w4.heap.size, 1, none⟩) zx0_5).trans qx01_5, (h.cell (p := ⟨w0.heap.size + 1, 0, none⟩) za1_5).trans qa10_5, (h.cell (p := ⟨w0.heap.size + 1, 1, none⟩) za1_5).trans qa11_5, (h.cell (p := ⟨w0.heap.size + 1, 2, none⟩) za1_5).trans qa12_5⟩
    have HOLD := Lib.hid hold
    clear hold
    go_region_held3 (fun w' : World => w'.cell? ⟨w4.heap.size, 0, none⟩ = some (.int .i64 m0) ∧ w'.cell? ⟨w4.heap.size, 1, none⟩ = some (.slice adX0 Z0.length cpX0) ∧ w'.cell? ⟨w0.heap.size + 1, 0, none⟩ = some (.int .i64 x1) ∧ w'.cell? ⟨w0.heap.size + 1, 1, none⟩ = some (.int .i64 y1) ∧ w'.cell? ⟨w0.heap.size + 1, 2, none⟩ = some (.int .i64 z1)) (exact HOLD.out _ (by repeat' (first | with_reducible exact Below.refl _ _ | with_reducible apply b_alloc | with_reducible apply b_drew | with_reducible apply b_set | (refine @bel_trans _ ?_ _ ?_ ?_; rotate_right; with_reducible assumption)))) (first | (go_at_call 35; (with_reducible refine (toEdge x1 y1 z1 _).mono ?_); rintro e wE ⟨rfl, hbE⟩; (try (refine (fun (zz : w5.heap.size < wE.heap.size) => ?_) (Nat.lt_of_lt_of_le ?_ hbE.size); rotate_right; (first | with_reducible assumption | (simp <;> omega)))); (try (refine (fun (cc : wE.cell? ⟨w5.heap.size, 0, none⟩ = some (.int .i64 0)) => ?_) ((hbE.cell (p := ⟨w5.heap.size, 0, none⟩) ?_).trans ?_); rotate_left; (first | with_reducible assumption | (simp <;> omega)); (first | with_reducible assumption | (focus (go_simp; done))))); (try (refine (fun (ff : wE.frozen? ⟨w5.heap.size, 0, none⟩ = false) => ?_) ((hbE.frozen (p := ⟨w5.heap.size, 0, none⟩) ?_).trans ?_); rotate_left; (first | with_reducible assumption | (simp <;> omega)); (first | with_reducible assumption | (focus (go_simp; done))))); (try (refine (fun (cc : wE.cell? ⟨w5.heap.size, 1, none⟩ = some (.slice none 0 0)) => ?_) ((hbE.cell (p := ⟨w5.heap.size, 1, none⟩) ?_).trans ?_); rotate_left; (first | with_reducible assumption | (simp <;> omega)); (first | with_reducible assumption | (focus (go_simp; done))))); (try (refine (fun (ff : wE.frozen? ⟨w5.heap.size, 1, none⟩ = false) => ?_) ((hbE.frozen (p := ⟨w5.heap.size, 1, none⟩) ?_).trans ?_); rotate_left; (first | with_reducible assumption | (simp <;> omega)); (first | with_reducible assumption | (focus (go_simp; done)))))) | (go_at_call 36; (with_reducible refine (HIM.out _ _ (X0_5.out.keep (by repeat' (first | with_reducible exact Below.refl _ _ | with_reducible apply b_alloc | with_reducible apply b_drew | with_reducible apply b_set | (refine @bel_trans _ ?_ _ ?_ ?_; rotate_right; with_reducible assumption)))).gridO).mono ?_); rintro e wC ⟨v, rfl, hown, hbC⟩; obtain ⟨va, vc, rfl⟩ := hown.slice; (try (refine (fun (zz : w5.heap.size < wC.heap.size) => ?_) (Nat.lt_of_lt_of_le ?_ hbC.size); rotate_right; (first | with_reducible assumption | (simp <;> omega)))); (try (refine (fun (cc : wC.cell? ⟨w5.heap.size, 0, none⟩ = some (.int .i64 0)) => ?_) ((hbC.cell (p := ⟨w5.heap.size, 0, none⟩) ?_).trans ?_); rotate_left; (first | with_reducible assumption | (simp <;> omega)); (first | with_reducible assumption | (focus (go_simp; done))))); (try (refine (fun (ff : wC.frozen? ⟨w5.heap.size, 0, none⟩ = false) => ?_) ((hbC.frozen (p := ⟨w5.heap.size, 0, none⟩) ?_).trans ?_); rotate_left; (first | with_reducible assumption | (simp <;> omega)); (first | with_reducible assumption | (focus (go_simp; done))))); (try (refine (fun (cc : wC.cell? ⟨w5.heap.size, 1, none⟩ = some (.slice none 0 0)) => ?_) ((hbC.cell (p := ⟨w5.heap.size, 1, none⟩) ?_).trans ?_); rotate_left; (first | with_reducible assumption | (simp <;> omega)); (first | with_reducible assumption | (focus (go_simp; done))))); (try (refine (fun (ff : wC.frozen? ⟨w5.heap.size, 1, none⟩ = false) => ?_) ((hbC.frozen (p := ⟨w5.heap.size, 1, none⟩) ?_).trans ?_); rotate_left; (first | with_reducible assumption | (simp <;> omega)); (first | with_reducible assumption | (focus (go_simp; done))))); (try (refine (fun (zz : wE.heap.size < wC.heap.size) => ?_) (Nat.lt_of_lt_of_le ?_ hbC.size); rotate_right; (first | with_reducible assumption | (simp <;> omega)))); (try (refine (fun (cc : wC.cell? ⟨wE.heap.size, 0, none⟩ = some (.int .i64 0)) => ?_) ((hbC.cell (p := ⟨wE.heap.size, 0, none⟩) ?_).trans ?_); rotate_left; (first | with_reducible assumption | (simp <;> omega)); (first | with_reducible assumption | (focus (go_simp; done))))); (try (refine (fun (ff : wC.frozen? ⟨wE.heap.size, 0, none⟩ = false) => ?_) ((hbC.frozen (p := ⟨wE.heap.size, 0, none⟩) ?_).trans ?_); rotate_left; (first | with_reducible assumption | (simp <;> omega)); (first | with_reducible assumption | (focus (go_simp; done))))); (try (refine (fun (cc : wC.cell? ⟨wE.heap.size, 1, none⟩ = some (.slice none 0 0)) => ?_) ((hbC.cell (p := ⟨wE.heap.size, 1, none⟩) ?_).trans ?_); rotate_left; (first | with_reducible assumption | (simp <;> omega)); (first | with_reducible assumption | (focus (go_simp; done))))); (try (refine (fun (ff : wC.frozen? ⟨wE.heap.size, 1, none⟩ = false) => ?_) ((hbC.frozen (p := ⟨wE.heap.size, 1, none⟩) ?_).trans ?_); rotate_left; (first | with_reducible assumption | (simp <;> omega)); (first | with_reducible assumption | (focus (go_simp; done)))))))
    all_goals
      go_wp2_with fail
      go_meet
      first | (refine ⟨?_, rfl⟩; apply box_endM; (case ho => with_reducible assumption); (case hc => with_reducible assumption); (case hb => repeat' (first | with_reducible exact Below.refl _ _ | with_reducible apply b_alloc | with_reducible apply b_drew | with_reducible apply b_set | (refine @bel_trans _ ?_ _ ?_ ?_; rotate_right; with_reducible assumption))); done) | (refine ⟨?_, rfl⟩; apply box_midM (T := 27) (M0 := 0) (v0 := .slice none 0 0); (case ho => with_reducible assumption); (case hc => with_reducible assumption); (case hb => repeat' (first | with_reducible exact Below.refl _ _ | with_reducible apply b_alloc | with_reducible apply b_drew | with_reducible apply b_set | (refine @bel_trans _ ?_ _ ?_ ?_; rotate_right; with_reducible assumption))); (case hx => repeat' (first | with_reducible exact Below.refl _ _ | with_reducible apply b_alloc | with_reducible apply b_drew | with_reducible apply b_set | (refine @bel_trans _ ?_ _ ?_ ?_; rotate_right; with_reducible assumption))); done)
  obtain ⟨w6, hw6⟩ : ∃ w6, w6 = wc := ⟨_, rfl⟩
  subst hw6
  obtain ⟨⟨gbG, vaG, vcG, loG, hiG, rfl, ⟨hq0, hq1⟩, hrow, ⟨hge, hlt⟩, ⟨hlo, hhi⟩, hdj, hb6⟩, rfl⟩ := hcut
  have H6 := bel_trans H5 hb6
  have SZ6 := Lib.hid hb6.size
  have qa00_6 := (hb6.cell (p := ⟨w0.heap.size, 0, none⟩) za0_5).trans qa00_5
  have qa01_6 := (hb6.cell (p := ⟨w0.heap.size, 1, none⟩) za0_5).trans qa01_5
  have za0_6 := Nat.lt_of_lt_of_le za0_5 hb6.size
  have qa10_6 := (hb6.cell (p := ⟨w0.heap.size + 1, 0, none⟩) za1_5).trans qa10_5
  have qa11_6 := (hb6.cell (p := ⟨w0.heap.size + 1, 1, none⟩) za1_5).trans qa11_5
  have qa12_6 := (hb6.cell (p := ⟨w0.heap.size + 1, 2, none⟩) za1_5).trans qa12_5
  have za1_6 := Nat.lt_of_lt_of_le za1_5 hb6.size
  have qbV0_6 := (hb6.cell (p := ⟨gbV, 0, none⟩) zbV_5).trans qbV0_5
  have qbV1_6 := (hb6.cell (p := ⟨gbV, 1, none⟩) zbV_5).trans qbV1_5
  have zbV_6 := Nat.lt_of_lt_of_le zbV_5 hb6.size
  have qx00_6 := (hb6.cell (p := ⟨w4.heap.size, 0, none⟩) zx0_5).trans qx00_5
  have qx01_6 := (hb6.cell (p := ⟨w4.heap.size, 1, none⟩) zx0_5).trans qx01_5
  have zx0_6 := Nat.lt_of_lt_of_le zx0_5 hb6.size
  have R0_6 := Lib.hid (R0_5.out.keep hb6)
  have V_6 := Lib.hid (V_5.out.keep hb6)
  have X0_6 := Lib.hid (X0_5.out.keep hb6)
  have GEbG := Lib.hid hge
  have ZBbG := Lib.hid hlt
  have LOG := Lib.hid hlo
  have HIG := Lib.hid hhi
  have DJbG := Lib.hid hdj
  have qbG0_6 := hq0
  have qbG1_6 := hq1
  have zbG_6 := hlt
  have G_6 := Lib.hid hrow
  clear hq0 hq1 hrow hge hlt hlo hhi hdj
  clear qa00_5 qa01_5 za0_5 qa10_5 qa11_5 qa12_5 za1_5 qbV0_5 qbV1_5 zbV_5 R0_5 V_5 X0_5 qx00_5 qx01_5 zx0_5
  go_wp2_with fail
  refine (eqMatrix M ls _ _ _ G_6.out.grid V_6.out.grid hln HLR.out).mono ?_
  rintro e w7 ⟨rfl, hb7⟩
  have H7 := bel_trans H6 hb7
  have SZ7 := Lib.hid hb7.size
  have qa00_7 := (hb7.cell (p := ⟨w0.heap.size, 0, none⟩) za0_6).trans qa00_6
  have qa01_7 := (hb7.cell (p := ⟨w0.heap.size, 1, none⟩) za0_6).trans qa01_6
  have za0_7 := Nat.lt_of_lt_of_le za0_6 hb7.size
  have qa10_7 := (hb7.cell (p := ⟨w0.heap.size + 1, 0, none⟩) za1_6).trans qa10_6
  have qa11_7 := (hb7.cell (p := ⟨w0.heap.size + 1, 1, none⟩) za1_6).trans qa11_6
  have qa12_7 := (hb7.cell (p := ⟨w0.heap.size + 1, 2, none⟩) za1_6).trans qa12_6
  have za1_7 := Nat.lt_of_lt_of_le za1_6 hb7.size
  have qbV0_7 := (hb7.cell (p := ⟨gbV, 0, none⟩) zbV_6).trans qbV0_6
  have qbV1_7 := (hb7.cell (p := ⟨gbV, 1, none⟩) zbV_6).trans qbV1_6
  have zbV_7 := Nat.lt_of_lt_of_le zbV_6 hb7.size
  have qx00_7 := (hb7.cell (p := ⟨w4.heap.size, 0, none⟩) zx0_6).trans qx00_6
  have qx01_7 := (hb7.cell (p := ⟨w4.heap.size, 1, none⟩) zx0_6).trans qx01_6
  have zx0_7 := Nat.lt_of_lt_of_le zx0_6 hb7.size
  have qbG0_7 := (hb7.cell (p := ⟨gbG, 0, none⟩) zbG_6).trans qbG0_6
  have qbG1_7 := (hb7.cell (p := ⟨gbG, 1, none⟩) zbG_6).trans qbG1_6
  have zbG_7 := Nat.lt_of_lt_of_le zbG_6 hb7.size
  have R0_7 := Lib.hid (R0_6.out.keep hb7)
  have V_7 := Lib.hid (V_6.out.keep hb7)
  have X0_7 := Lib.hid (X0_6.out.keep hb7)
  have G_7 := Lib.hid (G_6.out.keep hb7)
  clear qa00_6 qa01_6 za0_6 qa10_6 qa11_6 qa12_6 za1_6 qbV0_6 qbV1_6 zbV_6 qx00_6 qx01_6 zx0_6 R0_6 V_6 X0_6 qbG0_6 qbG1_6 zbG_6 G_6
  go_wp2_with fail
  have hold : ∀ w' : World, Below w7.heap.size w7 w' → (w'.cell? ⟨w4.heap.size, 0, none⟩ = some (.int .i64 m0) ∧ w'.cell? ⟨w4.heap.size, 1, none⟩ = some (.slice adX0 Z0.length cpX0) ∧ w'.cell? ⟨w0.heap.size, 0, none⟩ = some (.int .i64 m0) ∧ w'.cell? ⟨w0.heap.size, 1, none⟩ = some (.slice ad0 Z0.length cp0)) := fun w' h => ⟨(h.cell (p := ⟨w4.heap.size, 0, none⟩) zx0_7).trans qx00_7, (h.cell (p := ⟨w4.heap.size, 1, none⟩) zx0_7).trans qx01_7, (h.cell (p := ⟨w0.heap.size, 0, none⟩) za0_7).trans qa00_7, (h.cell (p := ⟨w0.heap.size, 1, none⟩) za0_7).trans qa01_7⟩
  have HOLD := Lib.hid hold
  clear hold
  go_region_held3 (fun w' : World => w'.cell? ⟨w4.heap.size, 0, none⟩ = some (.int .i64 m0) ∧ w'.cell? ⟨w4.heap.size, 1, none⟩ = some (.slice adX0 Z0.length cpX0) ∧ w'.cell? ⟨w0.heap.size, 0, none⟩ = some (.int .i64 m0) ∧ w'.cell? ⟨w0.heap.size, 1, none⟩ = some (.slice ad0 Z0.length cp0)) (first | exact HOLD.out _ ((Below.refl _ _).drew) | exact HOLD.out _ (bel_trans ((Below.refl _ _).drew) hb8) | exact HOLD.out _ (bel_trans (bel_trans ((Below.refl _ _).drew) hb8) hb9)) (first | (go_at_call 13; (with_reducible refine (toMatrix m0 Z0 _ _ (R0_7.out.keep ((Below.refl _ _).drew)).grid hb0g HR0.out).mono ?_); rintro e w8 ⟨sB0, rfl, hnew0, hb8⟩) | (go_at_call 15; (with_reducible refine (eqMatrix m0 Z0 _ _ _ (X0_7.out.grid.keep (bel_trans ((Below.refl _ _).drew) hb8)) hnew0.grid hb0i HR20.out).mono ?_); rintro e w9 ⟨rfl, hb9⟩))
  have hq : Below w7.heap.size w7 w9 := (bel_trans (bel_trans ((Below.refl _ _).drew) hb8) hb9)
  clear hb8 hb9 HOLD hnew0
  have hb9 := hq
  clear hq
  have H9 := bel_trans H7 hb9
  have SZ9 := Lib.hid hb9.size
  have qa00_9 := (hb9.cell (p := ⟨w0.heap.size, 0, none⟩) za0_7).trans qa00_7
  have qa01_9 := (hb9.cell (p := ⟨w0.heap.size, 1, none⟩) za0_7).trans qa01_7
  have za0_9 := Nat.lt_of_lt_of_le za0_7 hb9.size
  have qa10_9 := (hb9.cell (p := ⟨w0.heap.size + 1, 0, none⟩) za1_7).trans qa10_7
  have qa11_9 := (hb9.cell (p := ⟨w0.heap.size + 1, 1, none⟩) za1_7).trans qa11_7
  have qa12_9 := (hb9.cell (p := ⟨w0.heap.size + 1, 2, none⟩) za1_7).trans qa12_7
  have za1_9 := Nat.lt_of_lt_of_le za1_7 hb9.size
  have qbV0_9 := (hb9.cell (p := ⟨gbV, 0, none⟩) zbV_7).trans qbV0_7
  have qbV1_9 := (hb9.cell (p := ⟨gbV, 1, none⟩) zbV_7).trans qbV1_7
  have zbV_9 := Nat.lt_of_lt_of_le zbV_7 hb9.size
  have qx00_9 := (hb9.cell (p := ⟨w4.heap.size, 0, none⟩) zx0_7).trans qx00_7
  have qx01_9 := (hb9.cell (p := ⟨w4.heap.size, 1, none⟩) zx0_7).trans qx01_7
  have zx0_9 := Nat.lt_of_lt_of_le zx0_7 hb9.size
  have qbG0_9 := (hb9.cell (p := ⟨gbG, 0, none⟩) zbG_7).trans qbG0_7
  have qbG1_9 := (hb9.cell (p := ⟨gbG, 1, none⟩) zbG_7).trans qbG1_7
  have zbG_9 := Nat.lt_of_lt_of_le zbG_7 hb9.size
  have R0_9 := Lib.hid (R0_7.out.keep hb9)
  have V_9 := Lib.hid (V_7.out.keep hb9)
  have X0_9 := Lib.hid (X0_7.out.keep hb9)
  have G_9 := Lib.hid (G_7.out.keep hb9)
  clear qa00_7 qa01_7 za0_7 qa10_7 qa11_7 qa12_7 za1_7 qbV0_7 qbV1_7 zbV_7 qx00_7 qx01_7 zx0_7 qbG0_7 qbG1_7 zbG_7 R0_7 V_7 X0_7 G_7
  go_wp2_with fail
  refine (markMatrix 1 m0 _ _ _ _ Z0 X0_9.out hb0i (by omega) (by omega)).mono ?_
  rintro e w10 ⟨rfl, hrow, hb10⟩
  have H10 := bel_chg H9 hb10 (by have := SZ3.out; have := SZ2.out; have := SZ1.out; omega)
  have SZ10 := Lib.hid hb10.size
  have qa00_10 := (hb10.cell (p := ⟨w0.heap.size, 0, none⟩) za0_9 (.inl (by have := ZBa0.out; have := SZ3.out; have := SZ2.out; simp only; omega))).trans qa00_9
  have qa01_10 := (hb10.cell (p := ⟨w0.heap.size, 1, none⟩) za0_9 (.inl (by have := ZBa0.out; have := SZ3.out; have := SZ2.out; simp only; omega))).trans qa01_9
  have za0_10 := Nat.lt_of_lt_of_le za0_9 hb10.size
  have qa10_10 := (hb10.cell (p := ⟨w0.heap.size + 1, 0, none⟩) za1_9 (.inl (by have := ZBa1.out; have := SZ3.out; have := SZ2.out; simp only; omega))).trans qa10_9
  have qa11_10 := (hb10.cell (p := ⟨w0.heap.size + 1, 1, none⟩) za1_9 (.inl (by have := ZBa1.out; have := SZ3.out; have := SZ2.out; simp only; omega))).trans qa11_9
  have qa12_10 := (hb10.cell (p := ⟨w0.heap.size + 1, 2, none⟩) za1_9 (.inl (by have := ZBa1.out; have := SZ3.out; have := SZ2.out; simp only; omega))).trans qa12_9
  have za1_10 := Nat.lt_of_lt_of_le za1_9 hb10.size
  have qbV0_10 := (hb10.cell (p := ⟨gbV, 0, none⟩) zbV_9 (.inl (by have := ZBbV.out; simp only; omega))).trans qbV0_9
  have qbV1_10 := (hb10.cell (p := ⟨gbV, 1, none⟩) zbV_9 (.inl (by have := ZBbV.out; simp only; omega))).trans qbV1_9
  have zbV_10 := Nat.lt_of_lt_of_le zbV_9 hb10.size
  have qx00_10 := (hb10.cell (p := ⟨w4.heap.size, 0, none⟩) zx0_9 (.inr (by simp only; omega))).trans qx00_9
  have qx01_10 := (hb10.cell (p := ⟨w4.heap.size, 1, none⟩) zx0_9 (.inr (by simp only; omega))).trans qx01_9
  have zx0_10 := Nat.lt_of_lt_of_le zx0_9 hb10.size
  have qbG0_10 := (hb10.cell (p := ⟨gbG, 0, none⟩) zbG_9 (.inr (by have := SZ5.out; have := GEbG.out; simp only; omega))).trans qbG0_9
  have qbG1_10 := (hb10.cell (p := ⟨gbG, 1, none⟩) zbG_9 (.inr (by have := SZ5.out; have := GEbG.out; simp only; omega))).trans qbG1_9
  have zbG_10 := Nat.lt_of_lt_of_le zbG_9 hb10.size
  have R0_10 := Lib.hid (R0_9.out.chg hb10 (.inr (by have := SZ3.out; have := SZ2.out; have := SZ1.out; omega)))
  have V_10 := Lib.hid (V_9.out.chg hb10 (.inr (by have := HIV.out; omega)))
  have G_10 := Lib.hid (G_9.out.chg hb10 (.inl (by have := SZ5.out; have := LOG.out; omega)))
  have X0_10 := Lib.hid (hrow)
  clear qa00_9 qa01_9 za0_9 qa10_9 qa11_9 qa12_9 za1_9 qbV0_9 qbV1_9 zbV_9 qx00_9 qx01_9 zx0_9 qbG0_9 qbG1_9 zbG_9 R0_9 V_9 X0_9 G_9
  clear hrow
  have hk1 : decide (((1 + tl Z0 : Nat) : Int) < 0) = false := decide_eq_false (by omega)
  go_wp2_with fail
  refine (eqMatrix M ls _ _ _ G_10.out.grid V_10.out.grid hln HLR.out).mono ?_
  rintro e w11 ⟨rfl, hb11⟩
  have H11 := bel_trans H10 hb11
  have SZ11 := Lib.hid hb11.size
  have qa00_11 := (hb11.cell (p := ⟨w0.heap.size, 0, none⟩) za0_10).trans qa00_10
  have qa01_11 := (hb11.cell (p := ⟨w0.heap.size, 1, none⟩) za0_10).trans qa01_10
  have za0_11 := Nat.lt_of_lt_of_le za0_10 hb11.size
  have qa10_11 := (hb11.cell (p := ⟨w0.heap.size + 1, 0, none⟩) za1_10).trans qa10_10
  have qa11_11 := (hb11.cell (p := ⟨w0.heap.size + 1, 1, none⟩) za1_10).trans qa11_10
  have qa12_11 := (hb11.cell (p := ⟨w0.heap.size + 1, 2, none⟩) za1_10).trans qa12_10
  have za1_11 := Nat.lt_of_lt_of_le za1_10 hb11.size
  have qbV0_11 := (hb11.cell (p := ⟨gbV, 0, none⟩) zbV_10).trans qbV0_10
  have qbV1_11 := (hb11.cell (p := ⟨gbV, 1, none⟩) zbV_10).trans qbV1_10
  have zbV_11 := Nat.lt_of_lt_of_le zbV_10 hb11.size
  have qx00_11 := (hb11.cell (p := ⟨w4.heap.size, 0, none⟩) zx0_10).trans qx00_10
  have qx01_11 := (hb11.cell (p := ⟨w4.heap.size, 1, none⟩) zx0_10).trans qx01_10
  have zx0_11 := Nat.lt_of_lt_of_le zx0_10 hb11.size
  have qbG0_11 := (hb11.cell (p := ⟨gbG, 0, none⟩) zbG_10).trans qbG0_10
  have qbG1_11 := (hb11.cell (p := ⟨gbG, 1, none⟩) zbG_10).trans qbG1_10
  have zbG_11 := Nat.lt_of_lt_of_le zbG_10 hb11.size
  have R0_11 := Lib.hid (R0_10.out.keep hb11)
  have V_11 := Lib.hid (V_10.out.keep hb11)
  have X0_11 := Lib.hid (X0_10.out.keep hb11)
  have G_11 := Lib.hid (G_10.out.keep hb11)
  clear qa00_10 qa01_10 za0_10 qa10_10 qa11_10 qa12_10 za1_10 qbV0_10 qbV1_10 zbV_10 qx00_10 qx01_10 zx0_10 qbG0_10 qbG1_10 zbG_10 R0_10 V_10 G_10 X0_10
  go_wp2_with fail
  refine (markMatrix 1 M _ _ _ _ ls G_11.out hln (by omega) (by omega)).mono ?_
  rintro e w12 ⟨rfl, hrow, hb12⟩
  have H12 := bel_chg H11 hb12 (by have := SZ5.out; have := SZ4.out; have := SZ3.out; have := SZ2.out; have := SZ1.out; have := LOG.out; omega)
  have SZ12 := Lib.hid hb12.size
  have qa00_12 := (hb12.cell (p := ⟨w0.heap.size, 0, none⟩) za0_11 (.inl (by have := ZBa0.out; have := SZ5.out; have := SZ4.out; have := SZ3.out; have := SZ2.out; have := LOG.out; simp only; omega))).trans qa00_11
  have qa01_12 := (hb12.cell (p := ⟨w0.heap.size, 1, none⟩) za0_11 (.inl (by have := ZBa0.out; have := SZ5.out; have := SZ4.out; have := SZ3.out; have := SZ2.out; have := LOG.out; simp only; omega))).trans qa01_11
  have za0_12 := Nat.lt_of_lt_of_le za0_11 hb12.size
  have qa10_12 := (hb12.cell (p := ⟨w0.heap.size + 1, 0, none⟩) za1_11 (.inl (by have := ZBa1.out; have := SZ5.out; have := SZ4.out; have := SZ3.out; have := SZ2.out; have := LOG.out; simp only; omega))).trans qa10_11
  have qa11_12 := (hb12.cell (p := ⟨w0.heap.size + 1, 1, none⟩) za1_11 (.inl (by have := ZBa1.out; have := SZ5.out; have := SZ4.out; have := SZ3.out; have := SZ2.out; have := LOG.out; simp only; omega))).trans qa11_11
  have qa12_12 := (hb12.cell (p := ⟨w0.heap.size + 1, 2, none⟩) za1_11 (.inl (by have := ZBa1.out; have := SZ5.out; have := SZ4.out; have := SZ3.out; have := SZ2.out; have := LOG.out; simp only; omega))).trans qa12_11
  have za1_12 := Nat.lt_of_lt_of_le za1_11 hb12.size
  have qbV0_12 := (hb12.cell (p := ⟨gbV, 0, none⟩) zbV_11 (.inl (by have := ZBbV.out; have := SZ5.out; have := SZ4.out; have := LOG.out; simp only; omega))).trans qbV0_11
  have qbV1_12 := (hb12.cell (p := ⟨gbV, 1, none⟩) zbV_11 (.inl (by have := ZBbV.out; have := SZ5.out; have := SZ4.out; have := LOG.out; simp only; omega))).trans qbV1_11
  have zbV_12 := Nat.lt_of_lt_of_le zbV_11 hb12.size
  have qx00_12 := (hb12.cell (p := ⟨w4.heap.size, 0, none⟩) zx0_11 (.inl (by have := ZBx0.out; have := LOG.out; simp only; omega))).trans qx00_11
  have qx01_12 := (hb12.cell (p := ⟨w4.heap.size, 1, none⟩) zx0_11 (.inl (by have := ZBx0.out; have := LOG.out; simp only; omega))).trans qx01_11
  have zx0_12 := Nat.lt_of_lt_of_le zx0_11 hb12.size
  have qbG0_12 := (hb12.cell (p := ⟨gbG, 0, none⟩) zbG_11 (DJbG.out)).trans qbG0_11
  have qbG1_12 := (hb12.cell (p := ⟨gbG, 1, none⟩) zbG_11 (DJbG.out)).trans qbG1_11
  have zbG_12 := Nat.lt_of_lt_of_le zbG_11 hb12.size
  have R0_12 := Lib.hid (R0_11.out.chg hb12 (.inr (by have := SZ5.out; have := SZ4.out; have := SZ3.out; have := SZ2.out; have := SZ1.out; have := LOG.out; omega)))
  have V_12 := Lib.hid (V_11.out.chg hb12 (.inr (by have := SZ5.out; have := SZ4.out; have := HIV.out; have := LOG.out; omega)))
  have X0_12 := Lib.hid (X0_11.out.chg hb12 (.inr (by have := SZ5.out; have := LOG.out; omega)))
  have G_12 := Lib.hid (hrow)
  clear qa00_11 qa01_11 za0_11 qa10_11 qa11_11 qa12_11 za1_11 qbV0_11 qbV1_11 zbV_11 qx00_11 qx01_11 zx0_11 qbG0_11 qbG1_11 zbG_11 R0_11 V_11 X0_11 G_11
  clear hrow
  have hk2 : decide (((1 + tl ls : Nat) : Int) < 0) = false := decide_eq_false (by omega)
  go_wp2_with fail
  refine (heldMatrix 1 M _ _ _ _ ls G_12.out hln (by omega) (by omega)).mono ?_
  rintro e w13 ⟨rfl, hb13⟩
  have H13 := bel_trans H12 hb13
  have SZ13 := Lib.hid hb13.size
  have qa00_13 := (hb13.cell (p := ⟨w0.heap.size, 0, none⟩) za0_12).trans qa00_12
  have qa01_13 := (hb13.cell (p := ⟨w0.heap.size, 1, none⟩) za0_12).trans qa01_12
  have za0_13 := Nat.lt_of_lt_of_le za0_12 hb13.size
  have qa10_13 := (hb13.cell (p := ⟨w0.heap.size + 1, 0, none⟩) za1_12).trans qa10_12
  have qa11_13 := (hb13.cell (p := ⟨w0.heap.size + 1, 1, none⟩) za1_12).trans qa11_12
  have qa12_13 := (hb13.cell (p := ⟨w0.heap.size + 1, 2, none⟩) za1_12).trans qa12_12
  have za1_13 := Nat.lt_of_lt_of_le za1_12 hb13.size
  have qbV0_13 := (hb13.cell (p := ⟨gbV, 0, none⟩) zbV_12).trans qbV0_12
  have qbV1_13 := (hb13.cell (p := ⟨gbV, 1, none⟩) zbV_12).trans qbV1_12
  have zbV_13 := Nat.lt_of_lt_of_le zbV_12 hb13.size
  have qx00_13 := (hb13.cell (p := ⟨w4.heap.size, 0, none⟩) zx0_12).trans qx00_12
  have qx01_13 := (hb13.cell (p := ⟨w4.heap.size, 1, none⟩) zx0_12).trans qx01_12
  have zx0_13 := Nat.lt_of_lt_of_le zx0_12 hb13.size
  have qbG0_13 := (hb13.cell (p := ⟨gbG, 0, none⟩) zbG_12).trans qbG0_12
  have qbG1_13 := (hb13.cell (p := ⟨gbG, 1, none⟩) zbG_12).trans qbG1_12
  have zbG_13 := Nat.lt_of_lt_of_le zbG_12 hb13.size
  have R0_13 := Lib.hid (R0_12.out.keep hb13)
  have V_13 := Lib.hid (V_12.out.keep hb13)
  have X0_13 := Lib.hid (X0_12.out.keep hb13)
  have G_13 := Lib.hid (G_12.out.keep hb13)
  clear qa00_12 qa01_12 za0_12 qa10_12 qa11_12 qa12_12 za1_12 qbV0_12 qbV1_12 zbV_12 qx00_12 qx01_12 zx0_12 qbG0_12 qbG1_12 zbG_12 R0_12 V_12 X0_12 G_12
  go_upto_region 24 with fail
  go_cut [14, 15] from 16 (fun p c wx => BoxInM w13 wx M ls p ∧ c = .bool B)
  · have hold : ∀ w' : World, Below w13.heap.size w13 w' → (w'.cell? ⟨w0.heap.size, 0, none⟩ = some (.int .i64 m0) ∧ w'.cell? ⟨w0.heap.size, 1, none⟩ = some (.slice ad0 Z0.length cp0) ∧ w'.cell? ⟨w0.heap.size + 1, 0, none⟩ = some (.int .i64 x1) ∧ w'.cell? ⟨w0.heap.size + 1, 1, none⟩ = some (.int .i64 y1) ∧ w'.cell? ⟨w0.heap.size + 1, 2, none⟩ = some (.int .i64 z1)) := fun w' h => ⟨(h.cell (p := ⟨w0.heap.size, 0, none⟩) za0_13).trans qa00_13, (h.cell (p := ⟨w0.heap.size, 1, none⟩) za0_13).trans qa01_13, (h.cell (p := ⟨w0.heap.size + 1, 0, none⟩) za1_13).trans qa10_13, (h.cell (p := ⟨w0.heap.size + 1, 1, none⟩) za1_13).trans qa11_13, (h.cell (p := ⟨w0.heap.size + 1, 2, none⟩) za1_13).trans qa12_13⟩
    have HOLD := Lib.hid hold
    clear hold
    go_region_held3 (fun w' : World => w'.cell? ⟨w0.heap.size, 0, none⟩ = some (.int .i64 m0) ∧ w'.cell? ⟨w0.heap.size, 1, none⟩ = some (.slice ad0 Z0.length cp0) ∧ w'.cell? ⟨w0.heap.size + 1, 0, none⟩ = some (.int .i64 x1) ∧ w'.cell? ⟨w0.heap.size + 1, 1, none⟩ = some (.int .i64 y1) ∧ w'.cell? ⟨w0.heap.size + 1, 2, none⟩ = some (.int .i64 z1)) (exact HOLD.out _ (by repeat' (first | with_reducible exact Below.refl _ _ | with_reducible apply b_alloc | with_reducible apply b_drew | with_reducible apply b_set | (refine @bel_trans _ ?_ _ ?_ ?_; rotate_right; with_reducible assumption)))) (first | (go_at_call 13; (with_reducible refine (toMatrix m0 Z0 _ _ (R0_13.out.keep (by repeat' (first | with_reducible exact Below.refl _ _ | with_reducible apply b_alloc | with_reducible apply b_drew | with_reducible apply b_set | (refine @bel_trans _ ?_ _ ?_ ?_; rotate_right; with_reducible assumption)))).grid hb0g HR0.out).mono ?_); rintro e wA ⟨sA, rfl, hnewA, hbA⟩; (try (refine (fun (zz : w13.heap.size < wA.heap.size) => ?_) (Nat.lt_of_lt_of_le ?_ hbA.size); rotate_right; (first | with_reducible assumption | (simp <;> omega)))); (try (refine (fun (cc : wA.cell? ⟨w13.heap.size, 0, none⟩ = some (.int .i64 0)) => ?_) ((hbA.cell (p := ⟨w13.heap.size, 0, none⟩) ?_).trans ?_); rotate_left; (first | with_reducible assumption | (simp <;> omega)); (first | with_reducible assumption | (focus (go_simp; done))))); (try (refine (fun (ff : wA.frozen? ⟨w13.heap.size, 0, none⟩ = false) => ?_) ((hbA.frozen (p := ⟨w13.heap.size, 0, none⟩) ?_).trans ?_); rotate_left; (first | with_reducible assumption | (simp <;> omega)); (first | with_reducible assumption | (focus (go_simp; done))))); (try (refine (fun (cc : wA.cell? ⟨w13.heap.size, 1, none⟩ = some (.slice none 0 0)) => ?_) ((hbA.cell (p := ⟨w13.heap.size, 1, none⟩) ?_).trans ?_); rotate_left; (first | with_reducible assumption | (simp <;> omega)); (first | with_reducible assumption | (focus (go_simp; done))))); (try (refine (fun (ff : wA.frozen? ⟨w13.heap.size, 1, none⟩ = false) => ?_) ((hbA.frozen (p := ⟨w13.heap.size, 1, none⟩) ?_).trans ?_); rotate_left; (first | with_reducible assumption | (simp <;> omega)); (first | with_reducible assumption | (focus (go_simp; done)))))) | (go_at_call 35; (with_reducible refine (toEdge x1 y1 z1 _).mono ?_); rintro e wE ⟨rfl, hbE⟩; (try (refine (fun (zz : w13.heap.size < wE.heap.size) => ?_) (Nat.lt_of_lt_of_le ?_ hbE.size); rotate_right; (first | with_reducible assumption | (simp <;> omega)))); (try (refine (fun (cc : wE.cell? ⟨w13.heap.size, 0, none⟩ = some (.int .i64 0)) => ?_) ((hbE.cell (p := ⟨w13.heap.size, 0, none⟩) ?_).trans ?_); rotate_left; (first | with_reducible assumption | (simp <;> omega)); (first | with_reducible assumption | (focus (go_simp; done))))); (try (refine (fun (ff : wE.frozen? ⟨w13.heap.size, 0, none⟩ = false) => ?_) ((hbE.frozen (p := ⟨w13.heap.size, 0, none⟩) ?_).trans ?_); rotate_left; (first | with_reducible assumption | (simp <;> omega)); (first | with_reducible assumption | (focus (go_simp; done))))); (try (refine (fun (cc : wE.cell? ⟨w13.heap.size, 1, none⟩ = some (.slice none 0 0)) => ?_) ((hbE.cell (p := ⟨w13.heap.size, 1, none⟩) ?_).trans ?_); rotate_left; (first | with_reducible assumption | (simp <;> omega)); (first | with_reducible assumption | (focus (go_simp; done))))); (try (refine (fun (ff : wE.frozen? ⟨w13.heap.size, 1, none⟩ = false) => ?_) ((hbE.frozen (p := ⟨w13.heap.size, 1, none⟩) ?_).trans ?_); rotate_left; (first | with_reducible assumption | (simp <;> omega)); (first | with_reducible assumption | (focus (go_simp; done))))); (try (refine (fun (zz : wA.heap.size < wE.heap.size) => ?_) (Nat.lt_of_lt_of_le ?_ hbE.size); rotate_right; (first | with_reducible assumption | (simp <;> omega)))); (try (refine (fun (cc : wE.cell? ⟨wA.heap.size, 0, none⟩ = some (.int .i64 0)) => ?_) ((hbE.cell (p := ⟨wA.heap.size, 0, none⟩) ?_).trans ?_); rotate_left; (first | with_reducible assumption | (simp <;> omega)); (first | with_reducible assumption | (focus (go_simp; done))))); (try (refine (fun (ff : wE.frozen? ⟨wA.heap.size, 0, none⟩ = false) => ?_) ((hbE.frozen (p := ⟨wA.heap.size, 0, none⟩) ?_).trans ?_); rotate_left; (first | with_reducible assumption | (simp <;> omega)); (first | with_reducible assumption | (focus (go_simp; done))))); (try (refine (fun (cc : wE.cell? ⟨wA.heap.size, 1, none⟩ = some (.slice none 0 0)) => ?_) ((hbE.cell (p := ⟨wA.heap.size, 1, none⟩) ?_).trans ?_); rotate_left; (first | with_reducible assumption | (simp <;> omega)); (first | with_reducible assumption | (focus (go_simp; done))))); (try (refine (fun (ff : wE.frozen? ⟨wA.heap.size, 1, none⟩ = false) => ?_) ((hbE.frozen (p := ⟨wA.heap.size, 1, none⟩) ?_).trans ?_); rotate_left; (first | with_reducible assumption | (simp <;> omega)); (first | with_reducible assumption | (focus (go_simp; done)))))) | (go_at_call 36; (with_reducible refine (HIM.out _ _ (hnewA.keep (by repeat' (first | with_reducible exact Below.refl _ _ | with_reducible apply b_alloc | with_reducible apply b_drew | with_reducible apply b_set | (refine @bel_trans _ ?_ _ ?_ ?_; rotate_right; with_reducible assumption)))).gridO).mono ?_); rintro e wC ⟨v, rfl, hown, hbC⟩; obtain ⟨va, vc, rfl⟩ := hown.slice; (try (refine (fun (zz : w13.heap.size < wC.heap.size) => ?_) (Nat.lt_of_lt_of_le ?_ hbC.size); rotate_right; (first | with_reducible assumption | (simp <;> omega)))); (try (refine (fun (cc : wC.cell? ⟨w13.heap.size, 0, none⟩ = some (.int .i64 0)) => ?_) ((hbC.cell (p := ⟨w13.heap.size, 0, none⟩) ?_).trans ?_); rotate_left; (first | with_reducible assumption | (simp <;> omega)); (first | with_reducible assumption | (focus (go_simp; done))))); (try (refine (fun (ff : wC.frozen? ⟨w13.heap.size, 0, none⟩ = false) => ?_) ((hbC.frozen (p := ⟨w13.heap.size, 0, none⟩) ?_).trans ?_); rotate_left; (first | with_reducible assumption | (simp <;> omega)); (first | with_reducible assumption | (focus (go_simp; done))))); (try (refine (fun (cc : wC.cell? ⟨w13.heap.size, 1, none⟩ = some (.slice none 0 0)) => ?_) ((hbC.cell (p := ⟨w13.heap.size, 1, none⟩) ?_).trans ?_); rotate_left; (first | with_reducible assumption | (simp <;> omega)); (first | with_reducible assumption | (focus (go_simp; done))))); (try (refine (fun (ff : wC.frozen? ⟨w13.heap.size, 1, none⟩ = false) => ?_) ((hbC.frozen (p := ⟨w13.heap.size, 1, none⟩) ?_).trans ?_); rotate_left; (first | with_reducible assumption | (simp <;> omega)); (first | with_reducible assumption | (focus (go_simp; done))))); (try (refine (fun (zz : wA.heap.size < wC.heap.size) => ?_) (Nat.lt_of_lt_of_le ?_ hbC.size); rotate_right; (first | with_reducible assumption | (simp <;> omega)))); (try (refine (fun (cc : wC.cell? ⟨wA.heap.size, 0, none⟩ = some (.int .i64 0)) => ?_) ((hbC.cell (p := ⟨wA.heap.size, 0, none⟩) ?_).trans ?_); rotate_left; (first | with_reducible assumption | (simp <;> omega)); (first | with_reducible assumption | (focus (go_simp; done))))); (try (refine (fun (ff : wC.frozen? ⟨wA.heap.size, 0, none⟩ = false) => ?_) ((hbC.frozen (p := ⟨wA.heap.size, 0, none⟩) ?_).trans ?_); rotate_left; (first | with_reducible assumption | (simp <;> omega)); (first | with_reducible assumption | (focus (go_simp; done))))); (try (refine (fun (cc : wC.cell? ⟨wA.heap.size, 1, none⟩ = some (.slice none 0 0)) => ?_) ((hbC.cell (p := ⟨wA.heap.size, 1, none⟩) ?_).trans ?_); rotate_left; (first | with_reducible assumption | (simp <;> omega)); (first | with_reducible assumption | (focus (go_simp; done))))); (try (refine (fun (ff : wC.frozen? ⟨wA.heap.size, 1, none⟩ = false) => ?_) ((hbC.frozen (p := ⟨wA.heap.size, 1, none⟩) ?_).trans ?_); rotate_left; (first | with_reducible assumption | (simp <;> omega)); (first | with_reducible assumption | (focus (go_simp; done))))); (try (refine (fun (zz : wE.heap.size < wC.heap.size) => ?_) (Nat.lt_of_lt_of_le ?_ hbC.size); rotate_right; (first | with_reducible assumption | (simp <;> omega)))); (try (refine (fun (cc : wC.cell? ⟨wE.heap.size, 0, none⟩ = some (.int .i64 0)) => ?_) ((hbC.cell (p := ⟨wE.heap.size, 0, none⟩) ?_).trans ?_); rotate_left; (first | with_reducible assumption | (simp <;> omega)); (first | with_reducible assumption | (focus (go_simp; done))))); (try (refine (fun (ff : wC.frozen? ⟨wE.heap.size, 0, none⟩ = false) => ?_) ((hbC.frozen (p := ⟨wE.heap.size, 0, none⟩) ?_).trans ?_); rotate_left; (first | with_reducible assumption | (simp <;> omega)); (first | with_reducible assumption | (focus (go_simp; done))))); (try (refine (fun (cc : wC.cell? ⟨wE.heap.size, 1, none⟩ = some (.slice none 0 0)) => ?_) ((hbC.cell (p := ⟨wE.heap.size, 1, none⟩) ?_).trans ?_); rotate_left; (first | with_reducible assumption | (simp <;> omega)); (first | with_reducible assumption | (focus (go_simp; done))))); (try (refine (fun (ff : wC.frozen? ⟨wE.heap.size, 1, none⟩ = false) => ?_) ((hbC.frozen (p := ⟨wE.heap.size, 1, none⟩) ?_).trans ?_); rotate_left; (first | with_reducible assumption | (simp <;> omega)); (first | with_reducible assumption | (focus (go_simp; done)))))))
    all_goals
      go_wp2_with fail
      go_meet
      first | (refine ⟨?_, rfl⟩; apply box_endM; (case ho => with_reducible assumption); (case hc => with_reducible assumption); (case hb => repeat' (first | with_reducible exact Below.refl _ _ | with_reducible apply b_alloc | with_reducible apply b_drew | with_reducible apply b_set | (refine @bel_trans _ ?_ _ ?_ ?_; rotate_right; with_reducible assumption))); done) | (refine ⟨?_, rfl⟩; apply box_midM (T := 27) (M0 := 0) (v0 := .slice none 0 0); (case ho => with_reducible assumption); (case hc => with_reducible assumption); (case hb => repeat' (first | with_reducible exact Below.refl _ _ | with_reducible apply b_alloc | with_reducible apply b_drew | with_reducible apply b_set | (refine @bel_trans _ ?_ _ ?_ ?_; rotate_right; with_reducible assumption))); (case hx => repeat' (first | with_reducible exact Below.refl _ _ | with_reducible apply b_alloc | with_reducible apply b_drew | with_reducible apply b_set | (refine @bel_trans _ ?_ _ ?_ ?_; rotate_right; with_reducible assumption))); done)
  obtain ⟨w14, hw14⟩ : ∃ w14, w14 = wc := ⟨_, rfl⟩
  subst hw14
  obtain ⟨⟨gbK, vaK, vcK, loK, hiK, rfl, ⟨hq0, hq1⟩, hrow, ⟨hge, hlt⟩, ⟨hlo, hhi⟩, hdj, hb14⟩, rfl⟩ := hcut
  have H14 := bel_trans H13 hb14
  have SZ14 := Lib.hid hb14.size
  have qa00_14 := (hb14.cell (p := ⟨w0.heap.size, 0, none⟩) za0_13).trans qa00_13
  have qa01_14 := (hb14.cell (p := ⟨w0.heap.size, 1, none⟩) za0_13).trans qa01_13
  have za0_14 := Nat.lt_of_lt_of_le za0_13 hb14.size
  have qa10_14 := (hb14.cell (p := ⟨w0.heap.size + 1, 0, none⟩) za1_13).trans qa10_13
  have qa11_14 := (hb14.cell (p := ⟨w0.heap.size + 1, 1, none⟩) za1_13).trans qa11_13
  have qa12_14 := (hb14.cell (p := ⟨w0.heap.size + 1, 2, none⟩) za1_13).trans qa12_13
  have za1_14 := Nat.lt_of_lt_of_le za1_13 hb14.size
  have qbV0_14 := (hb14.cell (p := ⟨gbV, 0, none⟩) zbV_13).trans qbV0_13
  have qbV1_14 := (hb14.cell (p := ⟨gbV, 1, none⟩) zbV_13).trans qbV1_13
  have zbV_14 := Nat.lt_of_lt_of_le zbV_13 hb14.size
  have qx00_14 := (hb14.cell (p := ⟨w4.heap.size, 0, none⟩) zx0_13).trans qx00_13
  have qx01_14 := (hb14.cell (p := ⟨w4.heap.size, 1, none⟩) zx0_13).trans qx01_13
  have zx0_14 := Nat.lt_of_lt_of_le zx0_13 hb14.size
  have qbG0_14 := (hb14.cell (p := ⟨gbG, 0, none⟩) zbG_13).trans qbG0_13
  have qbG1_14 := (hb14.cell (p := ⟨gbG, 1, none⟩) zbG_13).trans qbG1_13
  have zbG_14 := Nat.lt_of_lt_of_le zbG_13 hb14.size
  have R0_14 := Lib.hid (R0_13.out.keep hb14)
  have V_14 := Lib.hid (V_13.out.keep hb14)
  have X0_14 := Lib.hid (X0_13.out.keep hb14)
  have G_14 := Lib.hid (G_13.out.keep hb14)
  have GEbK := Lib.hid hge
  have ZBbK := Lib.hid hlt
  have LOK := Lib.hid hlo
  have HIK := Lib.hid hhi
  have DJbK := Lib.hid hdj
  have qbK0_14 := hq0
  have qbK1_14 := hq1
  have zbK_14 := hlt
  have K_14 := Lib.hid hrow
  clear hq0 hq1 hrow hge hlt hlo hhi hdj
  clear qa00_13 qa01_13 za0_13 qa10_13 qa11_13 qa12_13 za1_13 qbV0_13 qbV1_13 zbV_13 qx00_13 qx01_13 zx0_13 qbG0_13 qbG1_13 zbG_13 R0_13 V_13 X0_13 G_13
  go_wp2_with fail
  refine (eqMatrix M ls _ _ _ K_14.out.grid V_14.out.grid hln HLR.out).mono ?_
  rintro e w15 ⟨rfl, hb15⟩
  have H15 := bel_trans H14 hb15
  have SZ15 := Lib.hid hb15.size
  have qa00_15 := (hb15.cell (p := ⟨w0.heap.size, 0, none⟩) za0_14).trans qa00_14
  have qa01_15 := (hb15.cell (p := ⟨w0.heap.size, 1, none⟩) za0_14).trans qa01_14
  have za0_15 := Nat.lt_of_lt_of_le za0_14 hb15.size
  have qa10_15 := (hb15.cell (p := ⟨w0.heap.size + 1, 0, none⟩) za1_14).trans qa10_14
  have qa11_15 := (hb15.cell (p := ⟨w0.heap.size + 1, 1, none⟩) za1_14).trans qa11_14
  have qa12_15 := (hb15.cell (p := ⟨w0.heap.size + 1, 2, none⟩) za1_14).trans qa12_14
  have za1_15 := Nat.lt_of_lt_of_le za1_14 hb15.size
  have qbV0_15 := (hb15.cell (p := ⟨gbV, 0, none⟩) zbV_14).trans qbV0_14
  have qbV1_15 := (hb15.cell (p := ⟨gbV, 1, none⟩) zbV_14).trans qbV1_14
  have zbV_15 := Nat.lt_of_lt_of_le zbV_14 hb15.size
  have qx00_15 := (hb15.cell (p := ⟨w4.heap.size, 0, none⟩) zx0_14).trans qx00_14
  have qx01_15 := (hb15.cell (p := ⟨w4.heap.size, 1, none⟩) zx0_14).trans qx01_14
  have zx0_15 := Nat.lt_of_lt_of_le zx0_14 hb15.size
  have qbG0_15 := (hb15.cell (p := ⟨gbG, 0, none⟩) zbG_14).trans qbG0_14
  have qbG1_15 := (hb15.cell (p := ⟨gbG, 1, none⟩) zbG_14).trans qbG1_14
  have zbG_15 := Nat.lt_of_lt_of_le zbG_14 hb15.size
  have qbK0_15 := (hb15.cell (p := ⟨gbK, 0, none⟩) zbK_14).trans qbK0_14
  have qbK1_15 := (hb15.cell (p := ⟨gbK, 1, none⟩) zbK_14).trans qbK1_14
  have zbK_15 := Nat.lt_of_lt_of_le zbK_14 hb15.size
  have R0_15 := Lib.hid (R0_14.out.keep hb15)
  have V_15 := Lib.hid (V_14.out.keep hb15)
  have X0_15 := Lib.hid (X0_14.out.keep hb15)
  have G_15 := Lib.hid (G_14.out.keep hb15)
  have K_15 := Lib.hid (K_14.out.keep hb15)
  clear qa00_14 qa01_14 za0_14 qa10_14 qa11_14 qa12_14 za1_14 qbV0_14 qbV1_14 zbV_14 qx00_14 qx01_14 zx0_14 qbG0_14 qbG1_14 zbG_14 R0_14 V_14 X0_14 G_14 qbK0_14 qbK1_14 zbK_14 K_14
  go_wp2_with fail
  refine (heldMatrix 1 M _ _ _ _ ls G_15.out hln (by omega) (by omega)).mono ?_
  rintro e w16 ⟨rfl, hb16⟩
  have H16 := bel_trans H15 hb16
  have SZ16 := Lib.hid hb16.size
  have qa00_16 := (hb16.cell (p := ⟨w0.heap.size, 0, none⟩) za0_15).trans qa00_15
  have qa01_16 := (hb16.cell (p := ⟨w0.heap.size, 1, none⟩) za0_15).trans qa01_15
  have za0_16 := Nat.lt_of_lt_of_le za0_15 hb16.size
  have qa10_16 := (hb16.cell (p := ⟨w0.heap.size + 1, 0, none⟩) za1_15).trans qa10_15
  have qa11_16 := (hb16.cell (p := ⟨w0.heap.size + 1, 1, none⟩) za1_15).trans qa11_15
  have qa12_16 := (hb16.cell (p := ⟨w0.heap.size + 1, 2, none⟩) za1_15).trans qa12_15
  have za1_16 := Nat.lt_of_lt_of_le za1_15 hb16.size
  have qbV0_16 := (hb16.cell (p := ⟨gbV, 0, none⟩) zbV_15).trans qbV0_15
  have qbV1_16 := (hb16.cell (p := ⟨gbV, 1, none⟩) zbV_15).trans qbV1_15
  have zbV_16 := Nat.lt_of_lt_of_le zbV_15 hb16.size
  have qx00_16 := (hb16.cell (p := ⟨w4.heap.size, 0, none⟩) zx0_15).trans qx00_15
  have qx01_16 := (hb16.cell (p := ⟨w4.heap.size, 1, none⟩) zx0_15).trans qx01_15
  have zx0_16 := Nat.lt_of_lt_of_le zx0_15 hb16.size
  have qbG0_16 := (hb16.cell (p := ⟨gbG, 0, none⟩) zbG_15).trans qbG0_15
  have qbG1_16 := (hb16.cell (p := ⟨gbG, 1, none⟩) zbG_15).trans qbG1_15
  have zbG_16 := Nat.lt_of_lt_of_le zbG_15 hb16.size
  have qbK0_16 := (hb16.cell (p := ⟨gbK, 0, none⟩) zbK_15).trans qbK0_15
  have qbK1_16 := (hb16.cell (p := ⟨gbK, 1, none⟩) zbK_15).trans qbK1_15
  have zbK_16 := Nat.lt_of_lt_of_le zbK_15 hb16.size
  have R0_16 := Lib.hid (R0_15.out.keep hb16)
  have V_16 := Lib.hid (V_15.out.keep hb16)
  have X0_16 := Lib.hid (X0_15.out.keep hb16)
  have G_16 := Lib.hid (G_15.out.keep hb16)
  have K_16 := Lib.hid (K_15.out.keep hb16)
  clear qa00_15 qa01_15 za0_15 qa10_15 qa11_15 qa12_15 za1_15 qbV0_15 qbV1_15 zbV_15 qx00_15 qx01_15 zx0_15 qbG0_15 qbG1_15 zbG_15 qbK0_15 qbK1_15 zbK_15 R0_15 V_15 X0_15 G_15 K_15
  go_wp2
  go_ret
  exact ⟨rfl, H16⟩

set_option maxRecDepth 100000 in
theorem lifted (os : Os) (started : os.Started) (H : Type) (enc : TypeId × Value → H) :
    ReturnsInHanded {} Try.checked os 10 .any (Rows.fnExactPutPairSpec.pre6 enc Try.prog Try.f10 Rows.fnExactPutPairRow.domain false) (Rows.fnExactPutPairSpec.post enc Try.prog Try.f10 false true false false) := by
  refine returnsInHanded_of_change (C := Try.checked) own started (by kernel_rfl) Try.func10
    (ChangeSpec.witness6 (enc := enc) (C := Try.checked) false ⟨#[], #[.agg #[.int .i64 0, .slice none 0 0], .agg #[.int .i64 0, .int .i64 0, .int .i64 0]], []⟩ 8 (by kernel_rfl) (by kernel_rfl) (by kernel_rfl) (by kernel_rfl)) ?_
  intro W base args ds gs before hval0 hW hcnd _
  have hval : ∀ (j : Nat) t v, Try.f10.params[j]? = some t → args[j]? = some v → Value.okWide Try.prog W .any base t v := hval0
  have hW' := hW
  obtain ⟨p, q, hA0, hV, rfl, hfz, hnd⟩ := hW
  have hA : DataW.TrodAll enc Try.prog W 0 (fun _ => true) true Try.f10.params.toList args.toList ds p := hA0
  rw [Try.params10] at hA hval
  obtain ⟨v0, vs0, d0, ds0, p0, q0, hargs, rfl, rfl, h0, rr0⟩ := trodAll_cons hA
  obtain ⟨v1, vs1, d1, ds1, p1, q1, rfl, rfl, rfl, h1, rr1⟩ := trodAll_cons rr0
  obtain ⟨rfl, rfl, rfl⟩ := trodAll_nil rr1
  obtain rfl : args = #[v0, v1] := by cases args; simp_all
  obtain ⟨rfl, rfl⟩ := trodVars_none hV
  have k0 := h0
  have lt0 : ∀ x ∈ p0, x.block < W.heap.size := by obtain ⟨m, hm⟩ := k0; exact DataW.trod_lt m _ _ _ hm
  have k1 := h1
  have lt1 : ∀ x ∈ p1, x.block < W.heap.size := by obtain ⟨m, hm⟩ := k1; exact DataW.trod_lt m _ _ _ hm
  obtain ⟨m0, s0, Z0, rfl, r0, l0⟩ := openMatrix (hval 0 24 v0 rfl rfl) h0
  obtain ⟨x1, y1, z1, rfl⟩ := openEdge (hval 1 53 v1 rfl rfl) h1
  clear hA0 hval0
  refine (walk W m0 s0 Z0 r0 l0 x1 y1 z1).mono fun e W' ⟨he, bel⟩ => ?_
  subst he
  exact ⟨_, rfl, _, _, _, [], _, [], hW', trodAll_mk1 (shut_bool Try.underlying4 _), (trodAll_cons_mk (Below.trod laidOut (by kernel_rfl) (of_decide_eq_true (by kernel_rfl)) k0 bel lt0) (trodAll_cons_mk (Below.trod laidOut (by kernel_rfl) (of_decide_eq_true (by kernel_rfl)) k1 bel lt1) trodAll_mk0)), rfl, bel.frame _, fun h => by cases h⟩

theorem over : Rows.fnExactPutPairRow.holds Try.pinned (OpenSpec.ofChange Rows.fnExactPutPairSpec) :=
  OpenClaim.holds_of_wide 10 Try.f10 rfl rfl rfl rfl rfl rfl rfl ⟨rfl, rfl, rfl, rfl, rfl⟩ rfl rfl rfl rfl rfl (by kernel_rfl) Try.func10 (by kernel_rfl)
    (of_decide_eq_true (by kernel_rfl)) (by unfold Func.isWrapper; first | (rw [if_pos (by decide +kernel)]; kernel_rfl) | (rw [if_neg (by decide +kernel)]; exact ⟨rfl, rfl⟩))
    (fun os started H enc _ => lifted os started H enc)

theorem proved : Rows.FnExactPutPairSaid := over
end Go.Proofs.Ytdpbmenjangpaaa.fnExactPutPair
