/-
  Proved: at every graph and every two integers impl.CountBest answers as the model spec.CountBest does, and writes into no argument (the law FnExactCountBest returns true for them all), with no further condition.
-/
import Derived.Test.YtdblcaeeepkebaaRows
import Derived.Test.YtdblcaeeepkebaaCountS
import Derived.Test.YtdblcaeeepkebaaVEdges
import Derived.Test.YtdblcaeeepkebaaOpenV
import Derived.WalkKit
import Derived.ProofKit
import Derived.OpenShut
import Derived.ShutString
import Derived.ChangeOld
import Derived.Below
namespace Go.Proofs.Ytdblcaeeepkebaa.fnExactCountBest
open Go.Proofs.Ytdblcaeeepkebaa Go.BigFrame
open Go.ChangeShapes Go.WideShapes Go.ChangeAt Go.RowKit
open Go.ChangeMaps (open_string shut_string)
set_option linter.unusedVariables false

theorem own : ownKnob Try.prog.godebug = none := by kernel_rfl
theorem laidOut : laidOutB Try.prog = true := by kernel_rfl

set_option maxRecDepth 100000 in
set_option maxHeartbeats 4000000 in
theorem walk (w : World) (n0 : Int) (s0 : Value) (e0 : List Ed) (r0 : RowE w s0 e0) (l0 : e0.length ≤ 9223372036854775807) (a1 : Int) (w1 : (Lit.int .i64 a1).wf = true) (a2 : Int) (w2 : (Lit.int .i64 a2).wf = true) :
    Calls Try.prog 7 #[.agg #[.int .i64 n0, s0], .int .i64 a1, .int .i64 a2] w fun e w' => e = .returned (.bool true) ∧ Below w.heap.size w w' := by
  obtain ⟨ad0, cp0, hs0, hz0⟩ := id r0
  subst hs0
  clear hz0
  have R0 := Lib.hid r0
  clear r0
  have hsz0 := fun w => szGraph n0 e0.length cp0 ad0 (1048576) w (by omega) l0
  by_cases hbig0 : e0.length ≤ 1048576
  rotate_left
  · have eR : szR (1048576) e0.length = -1 := by rw [szR, if_neg hbig0]
    rw [eR] at hsz0
    have HZ0 := Lib.hid hsz0
    clear hsz0 eR
    obtain ⟨w0, hw0⟩ : ∃ w0, w0 = w := ⟨_, rfl⟩
    subst hw0
    have H0 := Below.refl w0.heap.size w0
    go_enter Try.func7, Try.ntmps7
    go_wp2_with fail
    have hb1 : Below w0.heap.size w0 (w0.alloc (.cells #[.int .i64 n0, .slice ad0 e0.length cp0] 24)) := (Below.refl _ _).alloc (by simp <;> omega) _
    have qa00_1 : (w0.alloc (.cells #[.int .i64 n0, .slice ad0 e0.length cp0] 24)).cell? ⟨w0.heap.size, 0, none⟩ = some (.int .i64 n0) := by go_simp
    have qa01_1 : (w0.alloc (.cells #[.int .i64 n0, .slice ad0 e0.length cp0] 24)).cell? ⟨w0.heap.size, 1, none⟩ = some (.slice ad0 e0.length cp0) := by go_simp
    have za0_1 : w0.heap.size < (w0.alloc (.cells #[.int .i64 n0, .slice ad0 e0.length cp0] 24)).heap.size := by simp <;> omega
    have fa0_1 : w0.heap.size ≤ w0.heap.size := by have := H0.size; omega
    have H1 := bel_trans H0 hb1
    generalize (w0.alloc (.cells #[.int .i64 n0, .slice ad0 e0.length cp0] 24)) = w1 at hb1 H1 qa00_1 qa01_1 za0_1 ⊢
    refine (HZ0.out _).mono ?_
    rintro e w2 ⟨rfl, hb2⟩
    have H2 := bel_trans H1 hb2
    have qa00_2 := (hb2.cell (p := ⟨w0.heap.size, 0, none⟩) za0_1).trans qa00_1
    have qa01_2 := (hb2.cell (p := ⟨w0.heap.size, 1, none⟩) za0_1).trans qa01_1
    have za0_2 := Nat.lt_of_lt_of_le za0_1 hb2.size
    clear qa00_1 qa01_1 za0_1
    go_wp2
    go_ret
    exact ⟨rfl, H2⟩
  have eR : szR (1048576) e0.length = ((1048576 - e0.length : Nat) : Int) := by rw [szR, if_pos hbig0]
  rw [eR] at hsz0
  have HZ0 := Lib.hid hsz0
  have hnn0 : decide (((1048576 - e0.length : Nat) : Int) < 0) = false := by simp <;> omega
  have hb0g : e0.length ≤ 1048576 := by omega
  have hb0h : e0.length ≤ 281474976710656 := by omega
  clear hsz0 eR
  obtain ⟨w0, hw0⟩ : ∃ w0, w0 = w := ⟨_, rfl⟩
  subst hw0
  have H0 := Below.refl w0.heap.size w0
  have R0_0 := R0
  clear R0
  go_enter Try.func7, Try.ntmps7
  go_wp2_with fail
  have hb1 : Below w0.heap.size w0 (w0.alloc (.cells #[.int .i64 n0, .slice ad0 e0.length cp0] 24)) := (Below.refl _ _).alloc (by simp <;> omega) _
  have qa00_1 : (w0.alloc (.cells #[.int .i64 n0, .slice ad0 e0.length cp0] 24)).cell? ⟨w0.heap.size, 0, none⟩ = some (.int .i64 n0) := by go_simp
  have qa01_1 : (w0.alloc (.cells #[.int .i64 n0, .slice ad0 e0.length cp0] 24)).cell? ⟨w0.heap.size, 1, none⟩ = some (.slice ad0 e0.length cp0) := by go_simp
  have za0_1 : w0.heap.size < (w0.alloc (.cells #[.int .i64 n0, .slice ad0 e0.length cp0] 24)).heap.size := by simp <;> omega
  have fa0_1 : w0.heap.size ≤ w0.heap.size := by have := H0.size; omega
  have H1 := bel_trans H0 hb1
  have R0_1 := Lib.hid (R0_0.out.keep hb1)
  generalize (w0.alloc (.cells #[.int .i64 n0, .slice ad0 e0.length cp0] 24)) = w1 at hb1 H1 qa00_1 qa01_1 za0_1 R0_1 ⊢
  clear R0_0
  refine (HZ0.out _).mono ?_
  rintro e w2 ⟨rfl, hb2⟩
  have H2 := bel_trans H1 hb2
  have qa00_2 := (hb2.cell (p := ⟨w0.heap.size, 0, none⟩) za0_1).trans qa00_1
  have qa01_2 := (hb2.cell (p := ⟨w0.heap.size, 1, none⟩) za0_1).trans qa01_1
  have za0_2 := Nat.lt_of_lt_of_le za0_1 hb2.size
  have R0_2 := Lib.hid (R0_1.out.keep hb2)
  clear qa00_1 qa01_1 za0_1 R0_1
  go_wp2_with fail
  refine (toGraph n0 e0 _ _ R0_2.out hb0g).mono ?_
  rintro e w3 ⟨sA0, rfl, hnew, hb3⟩
  have H3 := bel_trans H2 hb3
  have qa00_3 := (hb3.cell (p := ⟨w0.heap.size, 0, none⟩) za0_2).trans qa00_2
  have qa01_3 := (hb3.cell (p := ⟨w0.heap.size, 1, none⟩) za0_2).trans qa01_2
  have za0_3 := Nat.lt_of_lt_of_le za0_2 hb3.size
  have R0_3 := Lib.hid (R0_2.out.keep hb3)
  have A0_3 := Lib.hid hnew.row
  clear hnew
  clear qa00_2 qa01_2 za0_2 R0_2
  go_wp2_with fail
  refine (sCountBest n0 a1 a2 e0 _ _ A0_3.out hb0h).mono ?_
  rintro e w4 ⟨rfl, hb4⟩
  have H4 := bel_trans H3 hb4
  have qa00_4 := (hb4.cell (p := ⟨w0.heap.size, 0, none⟩) za0_3).trans qa00_3
  have qa01_4 := (hb4.cell (p := ⟨w0.heap.size, 1, none⟩) za0_3).trans qa01_3
  have za0_4 := Nat.lt_of_lt_of_le za0_3 hb4.size
  have R0_4 := Lib.hid (R0_3.out.keep hb4)
  have A0_4 := Lib.hid (A0_3.out.keep hb4)
  clear qa00_3 qa01_3 za0_3 R0_3 A0_3
  clear A0_4
  go_wp2_with fail
  refine (toGraph n0 e0 _ _ R0_4.out hb0g).mono ?_
  rintro e w5 ⟨_, rfl, hnew, hb5⟩
  have H5 := bel_trans H4 hb5
  have qa00_5 := (hb5.cell (p := ⟨w0.heap.size, 0, none⟩) za0_4).trans qa00_4
  have qa01_5 := (hb5.cell (p := ⟨w0.heap.size, 1, none⟩) za0_4).trans qa01_4
  have za0_5 := Nat.lt_of_lt_of_le za0_4 hb5.size
  have R0_5 := Lib.hid (R0_4.out.keep hb5)
  obtain ⟨gX0, capX0, rfl, hgX0, hrowX0⟩ := hnew
  have X0_5 := Lib.hid (rowE_of_rowIs hrowX0 capX0)
  clear hrowX0
  have hgX0 := Lib.hid hgX0
  clear qa00_4 qa01_4 za0_4 R0_4
  go_wp2_with fail
  have hb6 : Below w5.heap.size w5 (w5.alloc (.cells #[.int .i64 n0, .slice (some ⟨gX0, 0, none⟩) e0.length capX0] 31)) := (Below.refl _ _).alloc (by simp <;> omega) _
  have qx00_6 : (w5.alloc (.cells #[.int .i64 n0, .slice (some ⟨gX0, 0, none⟩) e0.length capX0] 31)).cell? ⟨w5.heap.size, 0, none⟩ = some (.int .i64 n0) := by go_simp
  have qx01_6 : (w5.alloc (.cells #[.int .i64 n0, .slice (some ⟨gX0, 0, none⟩) e0.length capX0] 31)).cell? ⟨w5.heap.size, 1, none⟩ = some (.slice (some ⟨gX0, 0, none⟩) e0.length capX0) := by go_simp
  have zx0_6 : w5.heap.size < (w5.alloc (.cells #[.int .i64 n0, .slice (some ⟨gX0, 0, none⟩) e0.length capX0] 31)).heap.size := by simp <;> omega
  have fx0_6 : w0.heap.size ≤ w5.heap.size := by have := H5.size; omega
  have H6 := bel_trans H5 hb6
  have qa00_6 := (hb6.cell (p := ⟨w0.heap.size, 0, none⟩) za0_5).trans qa00_5
  have qa01_6 := (hb6.cell (p := ⟨w0.heap.size, 1, none⟩) za0_5).trans qa01_5
  have za0_6 := Nat.lt_of_lt_of_le za0_5 hb6.size
  have R0_6 := Lib.hid (R0_5.out.keep hb6)
  have X0_6 := Lib.hid (X0_5.out.keep hb6)
  generalize (w5.alloc (.cells #[.int .i64 n0, .slice (some ⟨gX0, 0, none⟩) e0.length capX0] 31)) = w6 at hb6 H6 qx00_6 qx01_6 zx0_6 qa00_6 qa01_6 za0_6 R0_6 X0_6 ⊢
  clear qa00_5 qa01_5 za0_5 R0_5 X0_5
  refine (countBest n0 a1 a2 e0 _ _ X0_6.out hb0h).mono ?_
  rintro e w7 ⟨rfl, hb7⟩
  have H7 := bel_trans H6 hb7
  have qa00_7 := (hb7.cell (p := ⟨w0.heap.size, 0, none⟩) za0_6).trans qa00_6
  have qa01_7 := (hb7.cell (p := ⟨w0.heap.size, 1, none⟩) za0_6).trans qa01_6
  have za0_7 := Nat.lt_of_lt_of_le za0_6 hb7.size
  have qx00_7 := (hb7.cell (p := ⟨w5.heap.size, 0, none⟩) zx0_6).trans qx00_6
  have qx01_7 := (hb7.cell (p := ⟨w5.heap.size, 1, none⟩) zx0_6).trans qx01_6
  have zx0_7 := Nat.lt_of_lt_of_le zx0_6 hb7.size
  have R0_7 := Lib.hid (R0_6.out.keep hb7)
  have X0_7 := Lib.hid (X0_6.out.keep hb7)
  clear qa00_6 qa01_6 qx00_6 qx01_6 za0_6 zx0_6 R0_6 X0_6
  go_wp2_with fail
  have hold : ∀ w' : World, Below w7.heap.size w7 w' → (w'.cell? ⟨w5.heap.size, 0, none⟩ = some (.int .i64 n0) ∧ w'.cell? ⟨w5.heap.size, 1, none⟩ = some (.slice (some ⟨gX0, 0, none⟩) e0.length capX0) ∧ w'.cell? ⟨w0.heap.size, 0, none⟩ = some (.int .i64 n0) ∧ w'.cell? ⟨w0.heap.size, 1, none⟩ = some (.slice ad0 e0.length cp0)) := fun w' h => ⟨(h.cell (p := ⟨w5.heap.size, 0, none⟩) zx0_7).trans qx00_7, (h.cell (p := ⟨w5.heap.size, 1, none⟩) zx0_7).trans qx01_7, (h.cell (p := ⟨w0.heap.size, 0, none⟩) za0_7).trans qa00_7, (h.cell (p := ⟨w0.heap.size, 1, none⟩) za0_7).trans qa01_7⟩
  have HOLD := Lib.hid hold
  clear hold
  go_region_held3 (fun w' : World => w'.cell? ⟨w5.heap.size, 0, none⟩ = some (.int .i64 n0) ∧ w'.cell? ⟨w5.heap.size, 1, none⟩ = some (.slice (some ⟨gX0, 0, none⟩) e0.length capX0) ∧ w'.cell? ⟨w0.heap.size, 0, none⟩ = some (.int .i64 n0) ∧ w'.cell? ⟨w0.heap.size, 1, none⟩ = some (.slice ad0 e0.length cp0)) (first | exact HOLD.out _ ((Below.refl _ _).drew) | exact HOLD.out _ (bel_trans ((Below.refl _ _).drew) hb8) | exact HOLD.out _ (bel_trans (bel_trans ((Below.refl _ _).drew) hb8) hb9)) (first | (go_at_call 15; (with_reducible refine (toGraph n0 e0 _ _ (R0_7.out.keep ((Below.refl _ _).drew)) hb0g).mono ?_); rintro e w8 ⟨sB0, rfl, hnew0, hb8⟩) | (go_at_call 18; (with_reducible refine (eqGraph n0 e0 _ _ _ (X0_7.out.keep (bel_trans ((Below.refl _ _).drew) hb8)) hnew0.row hb0g).mono ?_); rintro e w9 ⟨rfl, hb9⟩))
  have hq : Below w7.heap.size w7 w9 := (bel_trans (bel_trans ((Below.refl _ _).drew) hb8) hb9)
  clear hb8 hb9 HOLD
  have hb9 := hq
  clear hq
  have H9 := bel_trans H7 hb9
  have qa00_9 := (hb9.cell (p := ⟨w0.heap.size, 0, none⟩) za0_7).trans qa00_7
  have qa01_9 := (hb9.cell (p := ⟨w0.heap.size, 1, none⟩) za0_7).trans qa01_7
  have za0_9 := Nat.lt_of_lt_of_le za0_7 hb9.size
  have qx00_9 := (hb9.cell (p := ⟨w5.heap.size, 0, none⟩) zx0_7).trans qx00_7
  have qx01_9 := (hb9.cell (p := ⟨w5.heap.size, 1, none⟩) zx0_7).trans qx01_7
  have zx0_9 := Nat.lt_of_lt_of_le zx0_7 hb9.size
  have R0_9 := Lib.hid (R0_7.out.keep hb9)
  have X0_9 := Lib.hid (X0_7.out.keep hb9)
  clear qa00_7 qa01_7 qx00_7 qx01_7 za0_7 zx0_7 R0_7 X0_7
  clear hnew0
  clear X0_9
  go_wp2
  go_ret
  exact ⟨rfl, H9⟩

set_option maxRecDepth 100000 in
theorem lifted (os : Os) (started : os.Started) (H : Type) (enc : TypeId × Value → H) :
    ReturnsInHanded {} Try.checked os 7 .any (Rows.fnExactCountBestSpec.pre6 enc Try.prog Try.f7 Rows.fnExactCountBestRow.domain false) (Rows.fnExactCountBestSpec.post enc Try.prog Try.f7 false true false false) := by
  refine returnsInHanded_of_change (C := Try.checked) own started (by kernel_rfl) Try.func7
    (ChangeSpec.witness6 (enc := enc) (C := Try.checked) false ⟨#[], #[.agg #[.int .i64 0, .slice none 0 0], .int .i64 0, .int .i64 0], []⟩ 8 (by kernel_rfl) (by kernel_rfl) (by kernel_rfl) (by kernel_rfl)) ?_
  intro W base args ds gs before hval0 hW hcnd _
  have hval : ∀ (j : Nat) t v, Try.f7.params[j]? = some t → args[j]? = some v → Value.okWide Try.prog W .any base t v := hval0
  have hW' := hW
  obtain ⟨p, q, hA0, hV, rfl, hfz, hnd⟩ := hW
  have hA : DataW.TrodAll enc Try.prog W 0 (fun _ => true) true Try.f7.params.toList args.toList ds p := hA0
  rw [Try.params7] at hA hval
  obtain ⟨v0, vs0, d0, ds0, p0, q0, hargs, rfl, rfl, h0, rr0⟩ := trodAll_cons hA
  obtain ⟨v1, vs1, d1, ds1, p1, q1, rfl, rfl, rfl, h1, rr1⟩ := trodAll_cons rr0
  obtain ⟨v2, vs2, d2, ds2, p2, q2, rfl, rfl, rfl, h2, rr2⟩ := trodAll_cons rr1
  obtain ⟨rfl, rfl, rfl⟩ := trodAll_nil rr2
  obtain rfl : args = #[v0, v1, v2] := by cases args; simp_all
  obtain ⟨rfl, rfl⟩ := trodVars_none hV
  have k0 := h0
  have lt0 : ∀ x ∈ p0, x.block < W.heap.size := by obtain ⟨m, hm⟩ := k0; exact DataW.trod_lt m _ _ _ hm
  have k1 := h1
  have lt1 : ∀ x ∈ p1, x.block < W.heap.size := by obtain ⟨m, hm⟩ := k1; exact DataW.trod_lt m _ _ _ hm
  have k2 := h2
  have lt2 : ∀ x ∈ p2, x.block < W.heap.size := by obtain ⟨m, hm⟩ := k2; exact DataW.trod_lt m _ _ _ hm
  obtain ⟨n0, s0, e0, rfl, r0, l0⟩ := openGraph (hval 0 24 v0 rfl rfl) h0
  obtain ⟨a1, rfl, rfl, rfl, w1⟩ := open_int Try.underlying3 (hval 1 3 v1 rfl rfl) h1
  obtain ⟨a2, rfl, rfl, rfl, w2⟩ := open_int Try.underlying3 (hval 2 3 v2 rfl rfl) h2
  clear hA0 hval0
  refine (walk W n0 s0 e0 r0 l0 a1 w1 a2 w2).mono fun e W' ⟨he, bel⟩ => ?_
  subst he
  exact ⟨_, rfl, _, _, _, [], _, [], hW', trodAll_mk1 (shut_bool Try.underlying4 _), (trodAll_cons_mk (Below.trod laidOut (by kernel_rfl) (of_decide_eq_true (by kernel_rfl)) k0 bel lt0) (trodAll_cons_mk (Below.trod laidOut (by kernel_rfl) (of_decide_eq_true (by kernel_rfl)) k1 bel lt1) (trodAll_cons_mk (Below.trod laidOut (by kernel_rfl) (of_decide_eq_true (by kernel_rfl)) k2 bel lt2) trodAll_mk0))), rfl, bel.frame _, fun h => by cases h⟩

theorem over : Rows.fnExactCountBestRow.holds Try.pinned (OpenSpec.ofChange Rows.fnExactCountBestSpec) :=
  OpenClaim.holds_of_wide 7 Try.f7 rfl rfl rfl rfl rfl rfl rfl ⟨rfl, rfl, rfl, rfl, rfl⟩ rfl rfl rfl rfl rfl (by kernel_rfl) Try.func7 (by kernel_rfl)
    (of_decide_eq_true (by kernel_rfl)) (by unfold Func.isWrapper; first | (rw [if_pos (by decide +kernel)]; kernel_rfl) | (rw [if_neg (by decide +kernel)]; exact ⟨rfl, rfl⟩))
    (fun os started H enc _ => lifted os started H enc)

theorem proved : Rows.FnExactCountBestSaid := over
end Go.Proofs.Ytdblcaeeepkebaa.fnExactCountBest
