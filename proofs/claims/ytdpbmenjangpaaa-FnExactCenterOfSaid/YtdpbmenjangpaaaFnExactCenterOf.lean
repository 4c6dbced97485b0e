/-
  Proved: at every matrix impl.CenterOf answers as the model spec.CenterOf does, and writes into no argument (the law FnExactCenterOf returns true for every matrix), with no further condition.
-/
import Derived.Test.YtdpbmenjangpaaaRows
import Derived.Test.YtdpbmenjangpaaaMatC
import Derived.Test.YtdpbmenjangpaaaGrid
import Derived.WalkKit
import Derived.ProofKit
import Derived.OpenShut
import Derived.ShutString
import Derived.ChangeOld
import Derived.Below
namespace Go.Proofs.Ytdpbmenjangpaaa.fnExactCenterOf
open Go.Proofs.Ytdpbmenjangpaaa Go.BigFrame
open Go.ChangeShapes Go.WideShapes Go.ChangeAt Go.RowKit
open Go.ChangeMaps (open_string shut_string)
set_option linter.unusedVariables false

theorem own : ownKnob Try.prog.godebug = none := by kernel_rfl
theorem laidOut : laidOutB Try.prog = true := by kernel_rfl

set_option maxRecDepth 100000 in
set_option maxHeartbeats 4000000 in
theorem walk (w : World) (m0 : Int) (s0 : Value) (Z0 : List (List Int)) (r0 : Grid w s0 Z0) (l0 : Z0.length ≤ 9223372036854775807 ∧ ∀ i, i < Z0.length → (Z0.getD i []).length ≤ 9223372036854775807) :
    Calls Try.prog 5 #[.agg #[.int .i64 m0, s0]] w fun e w' => e = .returned (.bool true) ∧ Below w.heap.size w w' := by
  obtain ⟨l0a, l0b⟩ := l0
  obtain ⟨ad0, cp0, hs0, hz0⟩ := id r0
  subst hs0
  clear hz0
  have R0 := Lib.hid r0
  clear r0
  have hsz0 := fun w r => szMatrix m0 Z0 (.slice ad0 Z0.length cp0) 1048576 w r (by omega) l0a l0b
  clear l0b
  by_cases hbig0 : Z0.length + tl Z0 ≤ 1048576
  rotate_left
  · have eR : szG 1048576 Z0 = -1 := by rw [szG, if_neg hbig0]
    rw [eR] at hsz0
    have HZ0 := Lib.hid hsz0
    clear hsz0 eR
    obtain ⟨w0, hw0⟩ : ∃ w0, w0 = w := ⟨_, rfl⟩
    subst hw0
    have H0 := Below.refl w0.heap.size w0
    have R0_0 := R0
    clear R0
    go_enter Try.func5, Try.ntmps5
    go_wp2_with fail
    have hb1 : Below w0.heap.size w0 (w0.alloc (.cells #[.int .i64 m0, .slice ad0 Z0.length cp0] 24)) := (Below.refl _ _).alloc (by simp <;> omega) _
    have qa00_1 : (w0.alloc (.cells #[.int .i64 m0, .slice ad0 Z0.length cp0] 24)).cell? ⟨w0.heap.size, 0, none⟩ = some (.int .i64 m0) := by go_simp
    have qa01_1 : (w0.alloc (.cells #[.int .i64 m0, .slice ad0 Z0.length cp0] 24)).cell? ⟨w0.heap.size, 1, none⟩ = some (.slice ad0 Z0.length cp0) := by go_simp
    have za0_1 : w0.heap.size < (w0.alloc (.cells #[.int .i64 m0, .slice ad0 Z0.length cp0] 24)).heap.size := by simp <;> omega
    have fa0_1 : w0.heap.size ≤ w0.heap.size := by have := H0.size; omega
    have H1 := bel_trans H0 hb1
    have R0_1 := Lib.hid (R0_0.out.keep hb1)
    generalize (w0.alloc (.cells #[.int .i64 m0, .slice ad0 Z0.length cp0] 24)) = w1 at hb1 H1 qa00_1 qa01_1 za0_1 R0_1 ⊢
    clear R0_0
    refine (HZ0.out _ R0_1.out).mono ?_
    rintro e w2 ⟨rfl, hb2⟩
    have H2 := bel_trans H1 hb2
    have qa00_2 := (hb2.cell (p := ⟨w0.heap.size, 0, none⟩) za0_1).trans qa00_1
    have qa01_2 := (hb2.cell (p := ⟨w0.heap.size, 1, none⟩) za0_1).trans qa01_1
    have za0_2 := Nat.lt_of_lt_of_le za0_1 hb2.size
    have R0_2 := Lib.hid (R0_1.out.keep hb2)
    clear qa00_1 qa01_1 za0_1 R0_1
    go_wp2
    go_ret
    exact ⟨rfl, H2⟩
  have eR : szG 1048576 Z0 = ((1048576 - (Z0.length + tl Z0) : Nat) : Int) := by rw [szG, if_pos hbig0]
  rw [eR] at hsz0
  obtain ⟨left, hleft⟩ : ∃ left, left = 1048576 - (Z0.length + tl Z0) := ⟨_, rfl⟩
  rw [← hleft] at hsz0
  have HZ0 := Lib.hid hsz0
  have hnn0 : decide ((left : Int) < 0) = false := by simp
  have hb0g : Z0.length ≤ 1048576 := by omega
  have hb0h : Z0.length ≤ 281474976710656 := by omega
  have hr0 : ∀ i, i < Z0.length → (Z0.getD i []).length ≤ 1048576 := fun i hi => by have := row_le Z0 hi; omega
  have hr1 : ∀ i, i < Z0.length → (Z0.getD i []).length ≤ 281474976710656 := fun i hi => by have := row_le Z0 hi; omega
  have hr2 : ∀ i, i < Z0.length → (Z0.getD i []).length ≤ 4194304 := fun i hi => by have := row_le Z0 hi; omega
  have hb0i : Z0.length ≤ 4194304 := by omega
  have HR0 := Lib.hid hr0
  have HR1 := Lib.hid hr1
  have HR2 := Lib.hid hr2
  clear hsz0 eR hleft hr0 hr1 hr2
  obtain ⟨w0, hw0⟩ : ∃ w0, w0 = w := ⟨_, rfl⟩
  subst hw0
  have H0 := Below.refl w0.heap.size w0
  have R0_0 := R0
  clear R0
  go_enter Try.func5, Try.ntmps5
  go_wp2_with fail
  have hb1 : Below w0.heap.size w0 (w0.alloc (.cells #[.int .i64 m0, .slice ad0 Z0.length cp0] 24)) := (Below.refl _ _).alloc (by simp <;> omega) _
  have qa00_1 : (w0.alloc (.cells #[.int .i64 m0, .slice ad0 Z0.length cp0] 24)).cell? ⟨w0.heap.size, 0, none⟩ = some (.int .i64 m0) := by go_simp
  have qa01_1 : (w0.alloc (.cells #[.int .i64 m0, .slice ad0 Z0.length cp0] 24)).cell? ⟨w0.heap.size, 1, none⟩ = some (.slice ad0 Z0.length cp0) := by go_simp
  have za0_1 : w0.heap.size < (w0.alloc (.cells #[.int .i64 m0, .slice ad0 Z0.length cp0] 24)).heap.size := by simp <;> omega
  have fa0_1 : w0.heap.size ≤ w0.heap.size := by have := H0.size; omega
  have H1 := bel_trans H0 hb1
  have R0_1 := Lib.hid (R0_0.out.keep hb1)
  generalize (w0.alloc (.cells #[.int .i64 m0, .slice ad0 Z0.length cp0] 24)) = w1 at hb1 H1 qa00_1 qa01_1 za0_1 R0_1 ⊢
  clear R0_0
  refine (HZ0.out _ R0_1.out).mono ?_
  rintro e w2 ⟨rfl, hb2⟩
  have H2 := bel_trans H1 hb2
  have qa00_2 := (hb2.cell (p := ⟨w0.heap.size, 0, none⟩) za0_1).trans qa00_1
  have qa01_2 := (hb2.cell (p := ⟨w0.heap.size, 1, none⟩) za0_1).trans qa01_1
  have za0_2 := Nat.lt_of_lt_of_le za0_1 hb2.size
  have R0_2 := Lib.hid (R0_1.out.keep hb2)
  clear qa00_1 qa01_1 za0_1 R0_1
  go_wp2_with fail
  refine (toMatrix m0 Z0 _ _ R0_2.out hb0g HR0.out).mono ?_
  rintro e w3 ⟨sA, rfl, hnew, hb3⟩
  have H3 := bel_trans H2 hb3
  have qa00_3 := (hb3.cell (p := ⟨w0.heap.size, 0, none⟩) za0_2).trans qa00_2
  have qa01_3 := (hb3.cell (p := ⟨w0.heap.size, 1, none⟩) za0_2).trans qa01_2
  have za0_3 := Nat.lt_of_lt_of_le za0_2 hb3.size
  have R0_3 := Lib.hid (R0_2.out.keep hb3)
  have A0_3 := Lib.hid hnew.grid
  clear hnew
  clear qa00_2 qa01_2 za0_2 R0_2
  go_wp2_with fail
  refine (sCenterOf m0 Z0 _ _ A0_3.out hb0h HR1.out).mono ?_
  rintro e w4 ⟨rfl, hb4⟩
  have H4 := bel_trans H3 hb4
  have qa00_4 := (hb4.cell (p := ⟨w0.heap.size, 0, none⟩) za0_3).trans qa00_3
  have qa01_4 := (hb4.cell (p := ⟨w0.heap.size, 1, none⟩) za0_3).trans qa01_3
  have za0_4 := Nat.lt_of_lt_of_le za0_3 hb4.size
  have R0_4 := Lib.hid (R0_3.out.keep hb4)
  have A0_4 := Lib.hid (A0_3.out.keep hb4)
  clear qa00_3 qa01_3 za0_3 R0_3 A0_3
  clear A0_4
  go_wp2_with fail
  refine (toMatrix m0 Z0 _ _ R0_4.out hb0g HR0.out).mono ?_
  rintro e w5 ⟨sX, rfl, hnew, hb5⟩
  have H5 := bel_trans H4 hb5
  have qa00_5 := (hb5.cell (p := ⟨w0.heap.size, 0, none⟩) za0_4).trans qa00_4
  have qa01_5 := (hb5.cell (p := ⟨w0.heap.size, 1, none⟩) za0_4).trans qa01_4
  have za0_5 := Nat.lt_of_lt_of_le za0_4 hb5.size
  have R0_5 := Lib.hid (R0_4.out.keep hb5)
  obtain ⟨adX, cpX, hsX⟩ := hnew.slice
  subst hsX
  have X0_5 := Lib.hid hnew.gridO
  clear hnew
  clear qa00_4 qa01_4 za0_4 R0_4
  go_wp2_with fail
  have hb6 : Below w5.heap.size w5 (w5.alloc (.cells #[.int .i64 m0, .slice adX Z0.length cpX] 27)) := (Below.refl _ _).alloc (by simp <;> omega) _
  have qx00_6 : (w5.alloc (.cells #[.int .i64 m0, .slice adX Z0.length cpX] 27)).cell? ⟨w5.heap.size, 0, none⟩ = some (.int .i64 m0) := by go_simp
  have qx01_6 : (w5.alloc (.cells #[.int .i64 m0, .slice adX Z0.length cpX] 27)).cell? ⟨w5.heap.size, 1, none⟩ = some (.slice adX Z0.length cpX) := by go_simp
  have zx0_6 : w5.heap.size < (w5.alloc (.cells #[.int .i64 m0, .slice adX Z0.length cpX] 27)).heap.size := by simp <;> omega
  have fx0_6 : w0.heap.size ≤ w5.heap.size := by have := H5.size; omega
  have H6 := bel_trans H5 hb6
  have qa00_6 := (hb6.cell (p := ⟨w0.heap.size, 0, none⟩) za0_5).trans qa00_5
  have qa01_6 := (hb6.cell (p := ⟨w0.heap.size, 1, none⟩) za0_5).trans qa01_5
  have za0_6 := Nat.lt_of_lt_of_le za0_5 hb6.size
  have R0_6 := Lib.hid (R0_5.out.keep hb6)
  have X0_6 := Lib.hid (X0_5.out.keep hb6)
  generalize (w5.alloc (.cells #[.int .i64 m0, .slice adX Z0.length cpX] 27)) = w6 at hb6 H6 qx00_6 qx01_6 zx0_6 qa00_6 qa01_6 za0_6 R0_6 X0_6 ⊢
  clear qa00_5 qa01_5 za0_5 R0_5 X0_5
  refine (centerOf m0 Z0 _ _ X0_6.out hb0h HR1.out).mono ?_
  rintro e w7 ⟨rfl, hb7⟩
  have H7 := bel_trans H6 hb7
  have qa00_7 := (hb7.cell (p := ⟨w0.heap.size, 0, none⟩) za0_6).trans qa00_6
  have qa01_7 := (hb7.cell (p := ⟨w0.heap.size, 1, none⟩) za0_6).trans qa01_6
  have za0_7 := Nat.lt_of_lt_of_le za0_6 hb7.size
  have qx00_7 := (hb7.cell (p := ⟨w5.heap.size, 0, none⟩) zx0_6).trans qx00_6
  have qx01_7 := (hb7.cell (p := ⟨w5.heap.size, 1, none⟩) zx0_6).trans qx01_6
  have zx0_7 := Nat.lt_of_lt_of_le zx0_6 hb7.size
  have R0_7 := Lib.hid (R0_6.out.keep hb7)
  have X0_7 := Lib.hid (X0_6.out.keep hb7)
  clear qa00_6 qa01_6 qx00_6 qx01_6 za0_6 zx0_6 R0_6 X0_6
  go_wp2_with fail
  have hold : ∀ w' : World, Below w7.heap.size w7 w' → (w'.cell? ⟨w5.heap.size, 0, none⟩ = some (.int .i64 m0) ∧ w'.cell? ⟨w5.heap.size, 1, none⟩ = some (.slice adX Z0.length cpX) ∧ w'.cell? ⟨w0.heap.size, 0, none⟩ = some (.int .i64 m0) ∧ w'.cell? ⟨w0.heap.size, 1, none⟩ = some (.slice ad0 Z0.length cp0)) := fun w' h => ⟨(h.cell (p := ⟨w5.heap.size, 0, none⟩) zx0_7).trans qx00_7, (h.cell (p := ⟨w5.heap.size, 1, none⟩) zx0_7).trans qx01_7, (h.cell (p := ⟨w0.heap.size, 0, none⟩) za0_7).trans qa00_7, (h.cell (p := ⟨w0.heap.size, 1, none⟩) za0_7).trans qa01_7⟩
  have HOLD := Lib.hid hold
  clear hold
  go_region_held3 (fun w' : World => w'.cell? ⟨w5.heap.size, 0, none⟩ = some (.int .i64 m0) ∧ w'.cell? ⟨w5.heap.size, 1, none⟩ = some (.slice adX Z0.length cpX) ∧ w'.cell? ⟨w0.heap.size, 0, none⟩ = some (.int .i64 m0) ∧ w'.cell? ⟨w0.heap.size, 1, none⟩ = some (.slice ad0 Z0.length cp0)) (first | exact HOLD.out _ ((Below.refl _ _).drew) | exact HOLD.out _ (bel_trans ((Below.refl _ _).drew) hb8) | exact HOLD.out _ (bel_trans (bel_trans ((Below.refl _ _).drew) hb8) hb9)) (first | (go_at_call 13; (with_reducible refine (toMatrix m0 Z0 _ _ (R0_7.out.keep ((Below.refl _ _).drew)) hb0g HR0.out).mono ?_); rintro e w8 ⟨sB, rfl, hnew, hb8⟩) | (go_at_call 15; (with_reducible refine (eqMatrix m0 Z0 _ _ _ (X0_7.out.grid.keep (bel_trans ((Below.refl _ _).drew) hb8)) hnew.grid hb0i HR2.out).mono ?_); rintro e w9 ⟨rfl, hb9⟩))
  have hq : Below w7.heap.size w7 w9 := (bel_trans (bel_trans ((Below.refl _ _).drew) hb8) hb9)
  clear hb8 hb9 HOLD
  have hb9 := hq
  clear hq
  have H9 := bel_trans H7 hb9
  have qa00_9 := (hb9.cell (p := ⟨w0.heap.size, 0, none⟩) za0_7).trans qa00_7
  have qa01_9 := (hb9.cell (p := ⟨w0.heap.size, 1, none⟩) za0_7).trans qa01_7
  have za0_9 := Nat.lt_of_lt_of_le za0_7 hb9.size
  have qx00_9 := (hb9.cell (p := ⟨w5.heap.size, 0, none⟩) zx0_7).trans qx00_7
  have qx01_9 := (hb9.cell (p := ⟨w5.heap.size, 1, none⟩) zx0_7).trans qx01_7
  have zx0_9 := Nat.lt_of_lt_of_le zx0_7 hb9.size
  have R0_9 := Lib.hid (R0_7.out.keep hb9)
  have X0_9 := Lib.hid (X0_7.out.keep hb9)
  clear qa00_7 qa01_7 qx00_7 qx01_7 za0_7 zx0_7 R0_7 X0_7
  go_wp2
  go_ret
  exact ⟨rfl, H9⟩

set_option maxRecDepth 100000 in
theorem lifted (os : Os) (started : os.Started) (H : Type) (enc : TypeId × Value → H) :
    ReturnsInHanded {} Try.checked os 5 .any (Rows.fnExactCenterOfSpec.pre6 enc Try.prog Try.f5 Rows.fnExactCenterOfRow.domain false) (Rows.fnExactCenterOfSpec.post enc Try.prog Try.f5 false true false false) := by
  refine returnsInHanded_of_change (C := Try.checked) own started (by kernel_rfl) Try.func5
    (ChangeSpec.witness6 (enc := enc) (C := Try.checked) false ⟨#[], #[.agg #[.int .i64 0, .slice none 0 0]], []⟩ 8 (by kernel_rfl) (by kernel_rfl) (by kernel_rfl) (by kernel_rfl)) ?_
  intro W base args ds gs before hval0 hW hcnd _
  have hval : ∀ (j : Nat) t v, Try.f5.params[j]? = some t → args[j]? = some v → Value.okWide Try.prog W .any base t v := hval0
  have hW' := hW
  obtain ⟨p, q, hA0, hV, rfl, hfz, hnd⟩ := hW
  have hA : DataW.TrodAll enc Try.prog W 0 (fun _ => true) true Try.f5.params.toList args.toList ds p := hA0
  rw [Try.params5] at hA hval
  obtain ⟨v0, vs0, d0, ds0, p0, q0, hargs, rfl, rfl, h0, rr0⟩ := trodAll_cons hA
  obtain ⟨rfl, rfl, rfl⟩ := trodAll_nil rr0
  obtain rfl : args = #[v0] := by cases args; simp_all
  obtain ⟨rfl, rfl⟩ := trodVars_none hV
  have k0 := h0
  have lt0 : ∀ x ∈ p0, x.block < W.heap.size := by obtain ⟨m, hm⟩ := k0; exact DataW.trod_lt m _ _ _ hm
  obtain ⟨m0, s0, Z0, rfl, r0, l0⟩ := openMatrix (hval 0 24 v0 rfl rfl) h0
  clear hA0 hval0
  refine (walk W m0 s0 Z0 r0 l0).mono fun e W' ⟨he, bel⟩ => ?_
  subst he
  exact ⟨_, rfl, _, _, _, [], _, [], hW', trodAll_mk1 (shut_bool Try.underlying4 _), (trodAll_cons_mk (Below.trod laidOut (by kernel_rfl) (of_decide_eq_true (by kernel_rfl)) k0 bel lt0) trodAll_mk0), rfl, bel.frame _, fun h => by cases h⟩

theorem over : Rows.fnExactCenterOfRow.holds Try.pinned (OpenSpec.ofChange Rows.fnExactCenterOfSpec) :=
  OpenClaim.holds_of_wide 5 Try.f5 rfl rfl rfl rfl rfl rfl rfl ⟨rfl, rfl, rfl, rfl, rfl⟩ rfl rfl rfl rfl rfl (by kernel_rfl) Try.func5 (by kernel_rfl)
    (of_decide_eq_true (by kernel_rfl)) (by unfold Func.isWrapper; first | (rw [if_pos (by decide +kernel)]; kernel_rfl) | (rw [if_neg (by decide +kernel)]; exact ⟨rfl, rfl⟩))
    (fun os started H enc _ => lifted os started H enc)

theorem proved : Rows.FnExactCenterOfSaid := over
end Go.Proofs.Ytdpbmenjangpaaa.fnExactCenterOf
