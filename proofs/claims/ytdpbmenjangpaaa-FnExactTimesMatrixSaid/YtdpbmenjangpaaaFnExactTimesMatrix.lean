/-
  Proved: at every two matrices impl.TimesMatrix answers as the model spec.TimesMatrix does, writes into no argument and returns memory of its own (the law FnExactTimesMatrix returns true for them all), with no further condition.
-/
import Derived.Test.YtdpbmenjangpaaaRows
import Derived.Test.YtdpbmenjangpaaaTimesS
import Derived.Test.YtdpbmenjangpaaaMatL
import Derived.Test.YtdpbmenjangpaaaGrid
import Derived.WalkKit
import Derived.ProofKit
import Derived.OpenShut
import Derived.ShutString
import Derived.ChangeOld
import Derived.Below
namespace Go.Proofs.Ytdpbmenjangpaaa.fnExactTimesMatrix
open Go.Proofs.Ytdpbmenjangpaaa Go.BigFrame
open Go.ChangeShapes Go.WideShapes Go.ChangeAt Go.RowKit
open Go.ChangeMaps (open_string shut_string)
set_option linter.unusedVariables false

theorem own : ownKnob Try.prog.godebug = none := by kernel_rfl
theorem laidOut : laidOutB Try.prog = true := by kernel_rfl

set_option maxRecDepth 100000 in
set_option maxHeartbeats 4000000 in
theorem walk (w : World) (m0 : Int) (s0 : Value) (Z0 : List (List Int)) (r0 : Grid w s0 Z0) (l0 : Z0.length ≤ 9223372036854775807 ∧ ∀ i, i < Z0.length → (Z0.getD i []).length ≤ 9223372036854775807) (m1 : Int) (s1 : Value) (Z1 : List (List Int)) (r1 : Grid w s1 Z1) (l1 : Z1.length ≤ 9223372036854775807 ∧ ∀ i, i < Z1.length → (Z1.getD i []).length ≤ 9223372036854775807) :
    Calls Try.prog 7 #[.agg #[.int .i64 m0, s0], .agg #[.int .i64 m1, s1]] w fun e w' => e = .returned (.bool true) ∧ Below w.heap.size w w' := by
  obtain ⟨l0a, l0b⟩ := l0
  obtain ⟨ad0, cp0, hs0, hz0⟩ := id r0
  subst hs0
  clear hz0
  have R0 := Lib.hid (GridIn.of r0)
  clear r0
  obtain ⟨l1a, l1b⟩ := l1
  obtain ⟨ad1, cp1, hs1, hz1⟩ := id r1
  subst hs1
  clear hz1
  have R1 := Lib.hid (GridIn.of r1)
  clear r1
  have hsz0 := fun w (h : Grid w (.slice ad0 Z0.length cp0) Z0) => szMatrix m0 Z0 (.slice ad0 Z0.length cp0) (1048576) w h (by omega) l0a l0b
  by_cases hbig0 : (Z0.length + tl Z0) ≤ 1048576
  rotate_left
  · have eR : szG (1048576) Z0 = -1 := by rw [szG, if_neg hbig0]
    rw [eR] at hsz0
    have HZ0 := Lib.hid hsz0
    clear hsz0 eR
    obtain ⟨w0, hw0⟩ : ∃ w0, w0 = w := ⟨_, rfl⟩
    subst hw0
    have H0 := Below.refl w0.heap.size w0
    have R0_0 := R0
    clear R0
    have R1_0 := R1
    clear R1
    go_enter Try.func7, Try.ntmps7
    go_wp2_with fail
    have hb1 : Below w0.heap.size w0 ((w0.alloc (.cells #[.int .i64 m0, .slice ad0 Z0.length cp0] 24)).alloc (.cells #[.int .i64 m1, .slice ad1 Z1.length cp1] 24)) := ((Below.refl _ _).alloc (by simp <;> omega) _).alloc (by simp <;> omega) _
    have H1 := bel_trans H0 hb1
    have SZ1 := Lib.hid hb1.size
    have R0_1 := Lib.hid (R0_0.out.keep hb1)
    have R1_1 := Lib.hid (R1_0.out.keep hb1)
    have qa00_1 : ((w0.alloc (.cells #[.int .i64 m0, .slice ad0 Z0.length cp0] 24)).alloc (.cells #[.int .i64 m1, .slice ad1 Z1.length cp1] 24)).cell? ⟨w0.heap.size, 0, none⟩ = some (.int .i64 m0) := by go_simp
    have qa01_1 : ((w0.alloc (.cells #[.int .i64 m0, .slice ad0 Z0.length cp0] 24)).alloc (.cells #[.int .i64 m1, .slice ad1 Z1.length cp1] 24)).cell? ⟨w0.heap.size, 1, none⟩ = some (.slice ad0 Z0.length cp0) := by go_simp
    have za0_1 : w0.heap.size < ((w0.alloc (.cells #[.int .i64 m0, .slice ad0 Z0.length cp0] 24)).alloc (.cells #[.int .i64 m1, .slice ad1 Z1.length cp1] 24)).heap.size := by simp <;> omega
    have qa10_1 : ((w0.alloc (.cells #[.int .i64 m0, .slice ad0 Z0.length cp0] 24)).alloc (.cells #[.int .i64 m1, .slice ad1 Z1.length cp1] 24)).cell? ⟨w0.heap.size + 1, 0, none⟩ = some (.int .i64 m1) := by go_simp
    have qa11_1 : ((w0.alloc (.cells #[.int .i64 m0, .slice ad0 Z0.length cp0] 24)).alloc (.cells #[.int .i64 m1, .slice ad1 Z1.length cp1] 24)).cell? ⟨w0.heap.size + 1, 1, none⟩ = some (.slice ad1 Z1.length cp1) := by go_simp
    have za1_1 : w0.heap.size + 1 < ((w0.alloc (.cells #[.int .i64 m0, .slice ad0 Z0.length cp0] 24)).alloc (.cells #[.int .i64 m1, .slice ad1 Z1.length cp1] 24)).heap.size := by simp <;> omega
    generalize ((w0.alloc (.cells #[.int .i64 m0, .slice ad0 Z0.length cp0] 24)).alloc (.cells #[.int .i64 m1, .slice ad1 Z1.length cp1] 24)) = w1 at hb1 H1 SZ1 R0_1 R1_1 qa00_1 qa01_1 qa10_1 qa11_1 za0_1 za1_1 ⊢
    have ZBa0 := Lib.hid za0_1
    have ZBa1 := Lib.hid za1_1
    clear R0_0 R1_0
    refine (HZ0.out _ R0_1.out.grid).mono ?_
    rintro e w2 ⟨rfl, hb2⟩
    have H2 := bel_trans H1 hb2
    have SZ2 := Lib.hid hb2.size
    have qa00_2 := (hb2.cell (p := ⟨w0.heap.size, 0, none⟩) za0_1).trans qa00_1
    have qa01_2 := (hb2.cell (p := ⟨w0.heap.size, 1, none⟩) za0_1).trans qa01_1
    have za0_2 := Nat.lt_of_lt_of_le za0_1 hb2.size
    have qa10_2 := (hb2.cell (p := ⟨w0.heap.size + 1, 0, none⟩) za1_1).trans qa10_1
    have qa11_2 := (hb2.cell (p := ⟨w0.heap.size + 1, 1, none⟩) za1_1).trans qa11_1
    have za1_2 := Nat.lt_of_lt_of_le za1_1 hb2.size
    have R0_2 := Lib.hid (R0_1.out.keep hb2)
    have R1_2 := Lib.hid (R1_1.out.keep hb2)
    clear R0_1 R1_1 qa00_1 qa01_1 za0_1 qa10_1 qa11_1 za1_1
    go_wp2
    go_ret
    exact ⟨rfl, H2⟩
  have eR : szG (1048576) Z0 = ((1048576 - (Z0.length + tl Z0) : Nat) : Int) := by rw [szG, if_pos hbig0]
  rw [eR] at hsz0
  obtain ⟨left0, hleft0⟩ : ∃ left, left = 1048576 - (Z0.length + tl Z0) := ⟨_, rfl⟩
  rw [← hleft0] at hsz0
  have hlb0 : left0 ≤ 1048576 := by omega
  have HZ0 := Lib.hid hsz0
  have hnn0 : decide ((left0 : Int) < 0) = false := by simp
  have HLE0 := Lib.hid hleft0
  clear hsz0 eR hleft0
  have hb0g : Z0.length ≤ 1048576 := by omega
  have hb0h : Z0.length ≤ 281474976710656 := by omega
  have hb0i : Z0.length ≤ 4194304 := by omega
  have htl0 : tl Z0 ≤ 1048575 := by have := tl_lt Z0; omega
  have HR0 : Hid (∀ i, i < Z0.length → (Z0.getD i []).length ≤ 1048576) := Lib.hid (fun i hi => by have := row_le Z0 hi; omega)
  have HR10 : Hid (∀ i, i < Z0.length → (Z0.getD i []).length ≤ 281474976710656) := Lib.hid (fun i hi => by have := row_le Z0 hi; omega)
  have HR20 : Hid (∀ i, i < Z0.length → (Z0.getD i []).length ≤ 4194304) := Lib.hid (fun i hi => by have := row_le Z0 hi; omega)
  have hsz1 := fun w (h : Grid w (.slice ad1 Z1.length cp1) Z1) => szMatrix m1 Z1 (.slice ad1 Z1.length cp1) (left0) w h (by omega) l1a l1b
  by_cases hbig1 : (Z1.length + tl Z1) ≤ left0
  rotate_left
  · have eR : szG (left0) Z1 = -1 := by rw [szG, if_neg hbig1]
    rw [eR] at hsz1
    have HZ1 := Lib.hid hsz1
    clear hsz1 eR
    obtain ⟨w0, hw0⟩ : ∃ w0, w0 = w := ⟨_, rfl⟩
    subst hw0
    have H0 := Below.refl w0.heap.size w0
    have R0_0 := R0
    clear R0
    have R1_0 := R1
    clear R1
    go_enter Try.func7, Try.ntmps7
    go_wp2_with fail
    have hb1 : Below w0.heap.size w0 ((w0.alloc (.cells #[.int .i64 m0, .slice ad0 Z0.length cp0] 24)).alloc (.cells #[.int .i64 m1, .slice ad1 Z1.length cp1] 24)) := ((Below.refl _ _).alloc (by simp <;> omega) _).alloc (by simp <;> omega) _
    have H1 := bel_trans H0 hb1
    have SZ1 := Lib.hid hb1.size
    have R0_1 := Lib.hid (R0_0.out.keep hb1)
    have R1_1 := Lib.hid (R1_0.out.keep hb1)
    have qa00_1 : ((w0.alloc (.cells #[.int .i64 m0, .slice ad0 Z0.length cp0] 24)).alloc (.cells #[.int .i64 m1, .slice ad1 Z1.length cp1] 24)).cell? ⟨w0.heap.size, 0, none⟩ = some (.int .i64 m0) := by go_simp
    have qa01_1 : ((w0.alloc (.cells #[.int .i64 m0, .slice ad0 Z0.length cp0] 24)).alloc (.cells #[.int .i64 m1, .slice ad1 Z1.length cp1] 24)).cell? ⟨w0.heap.size, 1, none⟩ = some (.slice ad0 Z0.length cp0) := by go_simp
    have za0_1 : w0.heap.size < ((w0.alloc (.cells #[.int .i64 m0, .slice ad0 Z0.length cp0] 24)).alloc (.cells #[.int .i64 m1, .slice ad1 Z1.length cp1] 24)).heap.size := by simp <;> omega
    have qa10_1 : ((w0.alloc (.cells #[.int .i64 m0, .slice ad0 Z0.length cp0] 24)).alloc (.cells #[.int .i64 m1, .slice ad1 Z1.length cp1] 24)).cell? ⟨w0.heap.size + 1, 0, none⟩ = some (.int .i64 m1) := by go_simp
    have qa11_1 : ((w0.alloc (.cells #[.int .i64 m0, .slice ad0 Z0.length cp0] 24)).alloc (.cells #[.int .i64 m1, .slice ad1 Z1.length cp1] 24)).cell? ⟨w0.heap.size + 1, 1, none⟩ = some (.slice ad1 Z1.length cp1) := by go_simp
    have za1_1 : w0.heap.size + 1 < ((w0.alloc (.cells #[.int .i64 m0, .slice ad0 Z0.length cp0] 24)).alloc (.cells #[.int .i64 m1, .slice ad1 Z1.length cp1] 24)).heap.size := by simp <;> omega
    generalize ((w0.alloc (.cells #[.int .i64 m0, .slice ad0 Z0.length cp0] 24)).alloc (.cells #[.int .i64 m1, .slice ad1 Z1.length cp1] 24)) = w1 at hb1 H1 SZ1 R0_1 R1_1 qa00_1 qa01_1 qa10_1 qa11_1 za0_1 za1_1 ⊢
    have ZBa0 := Lib.hid za0_1
    have ZBa1 := Lib.hid za1_1
    clear R0_0 R1_0
    refine (HZ0.out _ R0_1.out.grid).mono ?_
    rintro e w2 ⟨rfl, hb2⟩
    have H2 := bel_trans H1 hb2
    have SZ2 := Lib.hid hb2.size
    have qa00_2 := (hb2.cell (p := ⟨w0.heap.size, 0, none⟩) za0_1).trans qa00_1
    have qa01_2 := (hb2.cell (p := ⟨w0.heap.size, 1, none⟩) za0_1).trans qa01_1
    have za0_2 := Nat.lt_of_lt_of_le za0_1 hb2.size
    have qa10_2 := (hb2.cell (p := ⟨w0.heap.size + 1, 0, none⟩) za1_1).trans qa10_1
    have qa11_2 := (hb2.cell (p := ⟨w0.heap.size + 1, 1, none⟩) za1_1).trans qa11_1
    have za1_2 := Nat.lt_of_lt_of_le za1_1 hb2.size
    have R0_2 := Lib.hid (R0_1.out.keep hb2)
    have R1_2 := Lib.hid (R1_1.out.keep hb2)
    clear R0_1 R1_1 qa00_1 qa01_1 za0_1 qa10_1 qa11_1 za1_1
    go_wp2_with fail
    refine (HZ1.out _ R1_2.out.grid).mono ?_
    rintro e w3 ⟨rfl, hb3⟩
    have H3 := bel_trans H2 hb3
    have SZ3 := Lib.hid hb3.size
    have qa00_3 := (hb3.cell (p := ⟨w0.heap.size, 0, none⟩) za0_2).trans qa00_2
    have qa01_3 := (hb3.cell (p := ⟨w0.heap.size, 1, none⟩) za0_2).trans qa01_2
    have za0_3 := Nat.lt_of_lt_of_le za0_2 hb3.size
    have qa10_3 := (hb3.cell (p := ⟨w0.heap.size + 1, 0, none⟩) za1_2).trans qa10_2
    have qa11_3 := (hb3.cell (p := ⟨w0.heap.size + 1, 1, none⟩) za1_2).trans qa11_2
    have za1_3 := Nat.lt_of_lt_of_le za1_2 hb3.size
    have R0_3 := Lib.hid (R0_2.out.keep hb3)
    have R1_3 := Lib.hid (R1_2.out.keep hb3)
    clear qa00_2 qa01_2 za0_2 qa10_2 qa11_2 za1_2 R0_2 R1_2
    go_wp2
    go_ret
    exact ⟨rfl, H3⟩
  have eR : szG (left0) Z1 = ((left0 - (Z1.length + tl Z1) : Nat) : Int) := by rw [szG, if_pos hbig1]
  rw [eR] at hsz1
  obtain ⟨left1, hleft1⟩ : ∃ left, left = left0 - (Z1.length + tl Z1) := ⟨_, rfl⟩
  rw [← hleft1] at hsz1
  have hlb1 : left1 ≤ 1048576 := by omega
  have HZ1 := Lib.hid hsz1
  have hnn1 : decide ((left1 : Int) < 0) = false := by simp
  have HLE1 := Lib.hid hleft1
  clear hsz1 eR hleft1
  have hb1g : Z1.length ≤ 1048576 := by omega
  have hb1h : Z1.length ≤ 281474976710656 := by omega
  have hb1i : Z1.length ≤ 4194304 := by omega
  have htl1 : tl Z1 ≤ 1048575 := by have := tl_lt Z1; omega
  have HR1 : Hid (∀ i, i < Z1.length → (Z1.getD i []).length ≤ 1048576) := Lib.hid (fun i hi => by have := row_le Z1 hi; omega)
  have HR11 : Hid (∀ i, i < Z1.length → (Z1.getD i []).length ≤ 281474976710656) := Lib.hid (fun i hi => by have := row_le Z1 hi; omega)
  have HR21 : Hid (∀ i, i < Z1.length → (Z1.getD i []).length ≤ 4194304) := Lib.hid (fun i hi => by have := row_le Z1 hi; omega)
  obtain ⟨w0, hw0⟩ : ∃ w0, w0 = w := ⟨_, rfl⟩
  subst hw0
  have H0 := Below.refl w0.heap.size w0
  have R0_0 := R0
  clear R0
  have R1_0 := R1
  clear R1
  go_enter Try.func7, Try.ntmps7
  go_wp2_with fail
  have hb1 : Below w0.heap.size w0 ((w0.alloc (.cells #[.int .i64 m0, .slice ad0 Z0.length cp0] 24)).alloc (.cells #[.int .i64 m1, .slice ad1 Z1.length cp1] 24)) := ((Below.refl _ _).alloc (by simp <;> omega) _).alloc (by simp <;> omega) _
  have H1 := bel_trans H0 hb1
  have SZ1 := Lib.hid hb1.size
  have R0_1 := Lib.hid (R0_0.out.keep hb1)
  have R1_1 := Lib.hid (R1_0.out.keep hb1)
  have qa00_1 : ((w0.alloc (.cells #[.int .i64 m0, .slice ad0 Z0.length cp0] 24)).alloc (.cells #[.int .i64 m1, .slice ad1 Z1.length cp1] 24)).cell? ⟨w0.heap.size, 0, none⟩ = some (.int .i64 m0) := by go_simp
  have qa01_1 : ((w0.alloc (.cells #[.int .i64 m0, .slice ad0 Z0.length cp0] 24)).alloc (.cells #[.int .i64 m1, .slice ad1 Z1.length cp1] 24)).cell? ⟨w0.heap.size, 1, none⟩ = some (.slice ad0 Z0.length cp0) := by go_simp
  have za0_1 : w0.heap.size < ((w0.alloc (.cells #[.int .i64 m0, .slice ad0 Z0.length cp0] 24)).alloc (.cells #[.int .i64 m1, .slice ad1 Z1.length cp1] 24)).heap.size := by simp <;> omega
  have qa10_1 : ((w0.alloc (.cells #[.int .i64 m0, .slice ad0 Z0.length cp0] 24)).alloc (.cells #[.int .i64 m1, .slice ad1 Z1.length cp1] 24)).cell? ⟨w0.heap.size + 1, 0, none⟩ = some (.int .i64 m1) := by go_simp
  have qa11_1 : ((w0.alloc (.cells #[.int .i64 m0, .slice ad0 Z0.length cp0] 24)).alloc (.cells #[.int .i64 m1, .slice ad1 Z1.length cp1] 24)).cell? ⟨w0.heap.size + 1, 1, none⟩ = some (.slice ad1 Z1.length cp1) := by go_simp
  have za1_1 : w0.heap.size + 1 < ((w0.alloc (.cells #[.int .i64 m0, .slice ad0 Z0.length cp0] 24)).alloc (.cells #[.int .i64 m1, .slice ad1 Z1.length cp1] 24)).heap.size := by simp <;> omega
  generalize ((w0.alloc (.cells #[.int .i64 m0, .slice ad0 Z0.length cp0] 24)).alloc (.cells #[.int .i64 m1, .slice ad1 Z1.length cp1] 24)) = w1 at hb1 H1 SZ1 R0_1 R1_1 qa00_1 qa01_1 qa10_1 qa11_1 za0_1 za1_1 ⊢
  have ZBa0 := Lib.hid za0_1
  have ZBa1 := Lib.hid za1_1
  clear R0_0 R1_0
  refine (HZ0.out _ R0_1.out.grid).mono ?_
  rintro e w2 ⟨rfl, hb2⟩
  have H2 := bel_trans H1 hb2
  have SZ2 := Lib.hid hb2.size
  have qa00_2 := (hb2.cell (p := ⟨w0.heap.size, 0, none⟩) za0_1).trans qa00_1
  have qa01_2 := (hb2.cell (p := ⟨w0.heap.size, 1, none⟩) za0_1).trans qa01_1
  have za0_2 := Nat.lt_of_lt_of_le za0_1 hb2.size
  have qa10_2 := (hb2.cell (p := ⟨w0.heap.size + 1, 0, none⟩) za1_1).trans qa10_1
  have qa11_2 := (hb2.cell (p := ⟨w0.heap.size + 1, 1, none⟩) za1_1).trans qa11_1
  have za1_2 := Nat.lt_of_lt_of_le za1_1 hb2.size
  have R0_2 := Lib.hid (R0_1.out.keep hb2)
  have R1_2 := Lib.hid (R1_1.out.keep hb2)
  clear R0_1 R1_1 qa00_1 qa01_1 za0_1 qa10_1 qa11_1 za1_1
  go_wp2_with fail
  refine (HZ1.out _ R1_2.out.grid).mono ?_
  rintro e w3 ⟨rfl, hb3⟩
  have H3 := bel_trans H2 hb3
  have SZ3 := Lib.hid hb3.size
  have qa00_3 := (hb3.cell (p := ⟨w0.heap.size, 0, none⟩) za0_2).trans qa00_2
  have qa01_3 := (hb3.cell (p := ⟨w0.heap.size, 1, none⟩) za0_2).trans qa01_2
  have za0_3 := Nat.lt_of_lt_of_le za0_2 hb3.size
  have qa10_3 := (hb3.cell (p := ⟨w0.heap.size + 1, 0, none⟩) za1_2).trans qa10_2
  have qa11_3 := (hb3.cell (p := ⟨w0.heap.size + 1, 1, none⟩) za1_2).trans qa11_2
  have za1_3 := Nat.lt_of_lt_of_le za1_2 hb3.size
  have R0_3 := Lib.hid (R0_2.out.keep hb3)
  have R1_3 := Lib.hid (R1_2.out.keep hb3)
  clear qa00_2 qa01_2 za0_2 qa10_2 qa11_2 za1_2 R0_2 R1_2
  have hsm : Sm (rL (tOk m0 Z0 m1 Z1) (tmL m0 Z0 Z1 Z0.length)) := rL_sm tmL_sm
  have hsp := fun s t w h k => sTimesMatrix m0 m1 Z0 Z1 s t w h k hb0h HR10.out hb1h HR11.out
  have him := fun s t w h k => timesMatrix m0 m1 Z0 Z1 s t w h k hb0h HR10.out hb1h HR11.out
  generalize rM (tOk m0 Z0 m1 Z1) m0 = M at hsp him
  generalize rL (tOk m0 Z0 m1 Z1) (tmL m0 Z0 Z1 Z0.length) = ls at hsp him hsm
  generalize tOk m0 Z0 m1 Z1 = B at hsp him
  have hln : ls.length ≤ 4194304 := by have := hsm.1; omega
  have htl : tl ls ≤ 144 := hsm.tl
  have HLR := Lib.hid hsm.rows
  have HSP := Lib.hid hsp
  have HIM := Lib.hid him
  clear hsp him hsm
  go_upto_region 8 with fail
  go_cut [6, 7] from 17 (fun p c wx => BoxInM w3 wx M ls p ∧ c = .bool B)
  · have hold : ∀ w' : World, Below w3.heap.size w3 w' → (w'.cell? ⟨w0.heap.size, 0, none⟩ = some (.int .i64 m0) ∧ w'.cell? ⟨w0.heap.size, 1, none⟩ = some (.slice ad0 Z0.length cp0) ∧ w'.cell? ⟨w0.heap.size + 1, 0, none⟩ = some (.int .i64 m1) ∧ w'.cell? ⟨w0.heap.size + 1, 1, none⟩ = some (.slice ad1 Z1.length cp1)) := fun w' h => ⟨(h.cell (p := ⟨w0.heap.size, 0, none⟩) za0_3).trans qa00_3, (h.cell (p := ⟨w0.heap.size, 1, none⟩) za0_3).trans qa01_3, (h.cell (p := ⟨w0.heap.size + 1, 0, none⟩) za1_3).trans qa10_3, (h.cell (p := ⟨w0.heap.size + 1, 1, none⟩) za1_3).trans qa11_3⟩
    have HOLD := Lib.hid hold
    clear hold
    go_region_held3 (fun w' : World => w'.cell? ⟨w0.heap.size, 0, none⟩ = some (.int .i64 m0) ∧ w'.cell? ⟨w0.heap.size, 1, none⟩ = some (.slice ad0 Z0.length cp0) ∧ w'.cell? ⟨w0.heap.size + 1, 0, none⟩ = some (.int .i64 m1) ∧ w'.cell? ⟨w0.heap.size + 1, 1, none⟩ = some (.slice ad1 Z1.length cp1)) (exact HOLD.out _ (by repeat' (first | with_reducible exact Below.refl _ _ | with_reducible apply b_alloc | with_reducible apply b_drew | with_reducible apply b_set | (refine @bel_trans _ ?_ _ ?_ ?_; rotate_right; with_reducible assumption)))) (first | (go_at_call 13; (with_reducible refine (toMatrix m0 Z0 _ _ (R0_3.out.keep (by repeat' (first | with_reducible exact Below.refl _ _ | with_reducible apply b_alloc | with_reducible apply b_drew | with_reducible apply b_set | (refine @bel_trans _ ?_ _ ?_ ?_; rotate_right; with_reducible assumption)))).grid hb0g HR0.out).mono ?_); rintro e wA ⟨sA, rfl, hnewA, hbA⟩; (try (refine (fun (zz : w3.heap.size < wA.heap.size) => ?_) (Nat.lt_of_lt_of_le ?_ hbA.size); rotate_right; (first | with_reducible assumption | (simp <;> omega)))); (try (refine (fun (cc : wA.cell? ⟨w3.heap.size, 0, none⟩ = some (.int .i64 0)) => ?_) ((hbA.cell (p := ⟨w3.heap.size, 0, none⟩) ?_).trans ?_); rotate_left; (first | with_reducible assumption | (simp <;> omega)); (first | with_reducible assumption | (focus (go_simp; done))))); (try (refine (fun (ff : wA.frozen? ⟨w3.heap.size, 0, none⟩ = false) => ?_) ((hbA.frozen (p := ⟨w3.heap.size, 0, none⟩) ?_).trans ?_); rotate_left; (first | with_reducible assumption | (simp <;> omega)); (first | with_reducible assumption | (focus (go_simp; done))))); (try (refine (fun (cc : wA.cell? ⟨w3.heap.size, 1, none⟩ = some (.slice none 0 0)) => ?_) ((hbA.cell (p := ⟨w3.heap.size, 1, none⟩) ?_).trans ?_); rotate_left; (first | with_reducible assumption | (simp <;> omega)); (first | with_reducible assumption | (focus (go_simp; done))))); (try (refine (fun (ff : wA.frozen? ⟨w3.heap.size, 1, none⟩ = false) => ?_) ((hbA.frozen (p := ⟨w3.heap.size, 1, none⟩) ?_).trans ?_); rotate_left; (first | with_reducible assumption | (simp <;> omega)); (first | with_reducible assumption | (focus (go_simp; done)))))) | (go_at_call 13; (with_reducible refine (toMatrix m1 Z1 _ _ (R1_3.out.keep (by repeat' (first | with_reducible exact Below.refl _ _ | with_reducible apply b_alloc | with_reducible apply b_drew | with_reducible apply b_set | (refine @bel_trans _ ?_ _ ?_ ?_; rotate_right; with_reducible assumption)))).grid hb1g HR1.out).mono ?_); rintro e wE ⟨sE, rfl, hnewE, hbE⟩; (try (refine (fun (zz : w3.heap.size < wE.heap.size) => ?_) (Nat.lt_of_lt_of_le ?_ hbE.size); rotate_right; (first | with_reducible assumption | (simp <;> omega)))); (try (refine (fun (cc : wE.cell? ⟨w3.heap.size, 0, none⟩ = some (.int .i64 0)) => ?_) ((hbE.cell (p := ⟨w3.heap.size, 0, none⟩) ?_).trans ?_); rotate_left; (first | with_reducible assumption | (simp <;> omega)); (first | with_reducible assumption | (focus (go_simp; done))))); (try (refine (fun (ff : wE.frozen? ⟨w3.heap.size, 0, none⟩ = false) => ?_) ((hbE.frozen (p := ⟨w3.heap.size, 0, none⟩) ?_).trans ?_); rotate_left; (first | with_reducible assumption | (simp <;> omega)); (first | with_reducible assumption | (focus (go_simp; done))))); (try (refine (fun (cc : wE.cell? ⟨w3.heap.size, 1, none⟩ = some (.slice none 0 0)) => ?_) ((hbE.cell (p := ⟨w3.heap.size, 1, none⟩) ?_).trans ?_); rotate_left; (first | with_reducible assumption | (simp <;> omega)); (first | with_reducible assumption | (focus (go_simp; done))))); (try (refine (fun (ff : wE.frozen? ⟨w3.heap.size, 1, none⟩ = false) => ?_) ((hbE.frozen (p := ⟨w3.heap.size, 1, none⟩) ?_).trans ?_); rotate_left; (first | with_reducible assumption | (simp <;> omega)); (first | with_reducible assumption | (focus (go_simp; done))))); (try (refine (fun (zz : wA.heap.size < wE.heap.size) => ?_) (Nat.lt_of_lt_of_le ?_ hbE.size); rotate_right; (first | with_reducible assumption | (simp <;> omega)))); (try (refine (fun (cc : wE.cell? ⟨wA.heap.size, 0, none⟩ = some (.int .i64 0)) => ?_) ((hbE.cell (p := ⟨wA.heap.size, 0, none⟩) ?_).trans ?_); rotate_left; (first | with_reducible assumption | (simp <;> omega)); (first | with_reducible assumption | (focus (go_simp; done))))); (try (refine (fun (ff : wE.frozen? ⟨wA.heap.size, 0, none⟩ = false) => ?_) ((hbE.frozen (p := ⟨wA.heap.size, 0, none⟩) ?_).trans ?_); rotate_left; (first | with_reducible assumption | (simp <;> omega)); (first | with_reducible assumption | (focus (go_simp; done))))); (try (refine (fun (cc : wE.cell? ⟨wA.heap.size, 1, none⟩ = some (.slice none 0 0)) => ?_) ((hbE.cell (p := ⟨wA.heap.size, 1, none⟩) ?_).trans ?_); rotate_left; (first | with_reducible assumption | (simp <;> omega)); (first | with_reducible assumption | (focus (go_simp; done))))); (try (refine (fun (ff : wE.frozen? ⟨wA.heap.size, 1, none⟩ = false) => ?_) ((hbE.frozen (p := ⟨wA.heap.size, 1, none⟩) ?_).trans ?_); rotate_left; (first | with_reducible assumption | (simp <;> omega)); (first | with_reducible assumption | (focus (go_simp; done)))))) | (go_at_call 28; (with_reducible refine (HSP.out _ _ _ (hnewA.keep (by repeat' (first | with_reducible exact Below.refl _ _ | with_reducible apply b_alloc | with_reducible apply b_drew | with_reducible apply b_set | (refine @bel_trans _ ?_ _ ?_ ?_; rotate_right; with_reducible assumption)))).grid (hnewE.keep (by repeat' (first | with_reducible exact Below.refl _ _ | with_reducible apply b_alloc | with_reducible apply b_drew | with_reducible apply b_set | (refine @bel_trans _ ?_ _ ?_ ?_; rotate_right; with_reducible assumption)))).grid).mono ?_); rintro e wC ⟨v, rfl, hown, hbC⟩; obtain ⟨va, vc, rfl⟩ := hown.slice; (try (refine (fun (zz : w3.heap.size < wC.heap.size) => ?_) (Nat.lt_of_lt_of_le ?_ hbC.size); rotate_right; (first | with_reducible assumption | (simp <;> omega)))); (try (refine (fun (cc : wC.cell? ⟨w3.heap.size, 0, none⟩ = some (.int .i64 0)) => ?_) ((hbC.cell (p := ⟨w3.heap.size, 0, none⟩) ?_).trans ?_); rotate_left; (first | with_reducible assumption | (simp <;> omega)); (first | with_reducible assumption | (focus (go_simp; done))))); (try (refine (fun (ff : wC.frozen? ⟨w3.heap.size, 0, none⟩ = false) => ?_) ((hbC.frozen (p := ⟨w3.heap.size, 0, none⟩) ?_).trans ?_); rotate_left; (first | with_reducible assumption | (simp <;> omega)); (first | with_reducible assumption | (focus (go_simp; done))))); (try (refine (fun (cc : wC.cell? ⟨w3.heap.size, 1, none⟩ = some (.slice none 0 0)) => ?_) ((hbC.cell (p := ⟨w3.heap.size, 1, none⟩) ?_).trans ?_); rotate_left; (first | with_reducible assumption | (simp <;> omega)); (first | with_reducible assumption | (focus (go_simp; done))))); (try (refine (fun (ff : wC.frozen? ⟨w3.heap.size, 1, none⟩ = false) => ?_) ((hbC.frozen (p := ⟨w3.heap.size, 1, none⟩) ?_).trans ?_); rotate_left; (first | with_reducible assumption | (simp <;> omega)); (first | with_reducible assumption | (focus (go_simp; done))))); (try (refine (fun (zz : wA.heap.size < wC.heap.size) => ?_) (Nat.lt_of_lt_of_le ?_ hbC.size); rotate_right; (first | with_reducible assumption | (simp <;> omega)))); (try (refine (fun (cc : wC.cell? ⟨wA.heap.size, 0, none⟩ = some (.int .i64 0)) => ?_) ((hbC.cell (p := ⟨wA.heap.size, 0, none⟩) ?_).trans ?_); rotate_left; (first | with_reducible assumption | (simp <;> omega)); (first | with_reducible assumption | (focus (go_simp; done))))); (try (refine (fun (ff : wC.frozen? ⟨wA.heap.size, 0, none⟩ = false) => ?_) ((hbC.frozen (p := ⟨wA.heap.size, 0, none⟩) ?_).trans ?_); rotate_left; (first | with_reducible assumption | (simp <;> omega)); (first | with_reducible assumption | (focus (go_simp; done))))); (try (refine (fun (cc : wC.cell? ⟨wA.heap.size, 1, none⟩ = some (.slice none 0 0)) => ?_) ((hbC.cell (p := ⟨wA.heap.size, 1, none⟩) ?_).trans ?_); rotate_left; (first | with_reducible assumption | (simp <;> omega)); (first | with_reducible assumption | (focus (go_simp; done))))); (try (refine (fun (ff : wC.frozen? ⟨wA.heap.size, 1, none⟩ = false) => ?_) ((hbC.frozen (p := ⟨wA.heap.size, 1, none⟩) ?_).trans ?_); rotate_left; (first | with_reducible assumption | (simp <;> omega)); (first | with_reducible assumption | (focus (go_simp; done))))); (try (refine (fun (zz : wE.heap.size < wC.heap.size) => ?_) (Nat.lt_of_lt_of_le ?_ hbC.size); rotate_right; (first | with_reducible assumption | (simp <;> omega)))); (try (refine (fun (cc : wC.cell? ⟨wE.heap.size, 0, none⟩ = some (.int .i64 0)) => ?_) ((hbC.cell (p := ⟨wE.heap.size, 0, none⟩) ?_).trans ?_); rotate_left; (first | with_reducible assumption | (simp <;> omega)); (first | with_reducible assumption | (focus (go_simp; done))))); (try (refine (fun (ff : wC.frozen? ⟨wE.heap.size, 0, none⟩ = false) => ?_) ((hbC.frozen (p := ⟨wE.heap.size, 0, none⟩) ?_).trans ?_); rotate_left; (first | with_reducible assumption | (simp <;> omega)); (first | with_reducible assumption | (focus (go_simp; done))))); (try (refine (fun (cc : wC.cell? ⟨wE.heap.size, 1, none⟩ = some (.slice none 0 0)) => ?_) ((hbC.cell (p := ⟨wE.heap.size, 1, none⟩) ?_).trans ?_); rotate_left; (first | with_reducible assumption | (simp <;> omega)); (first | with_reducible assumption | (focus (go_simp; done))))); (try (refine (fun (ff : wC.frozen? ⟨wE.heap.size, 1, none⟩ = false) => ?_) ((hbC.frozen (p := ⟨wE.heap.size, 1, none⟩) ?_).trans ?_); rotate_left; (first | with_reducible assumption | (simp <;> omega)); (first | with_reducible assumption | (focus (go_simp; done)))))))
    all_goals
      go_wp2_with fail
      go_meet
      first | (refine ⟨?_, rfl⟩; apply box_endM; (case ho => with_reducible assumption); (case hc => with_reducible assumption); (case hb => repeat' (first | with_reducible exact Below.refl _ _ | with_reducible apply b_alloc | with_reducible apply b_drew | with_reducible apply b_set | (refine @bel_trans _ ?_ _ ?_ ?_; rotate_right; with_reducible assumption))); done) | (refine ⟨?_, rfl⟩; apply box_midM (T := 27) (M0 := 0) (v0 := .slice none 0 0); (case ho => with_reducible assumption); (case hc => with_reducible assumption); (case hb => repeat' (first | with_reducible exact Below.refl _ _ | with_reducible apply b_alloc | with_reducible apply b_drew | with_reducible apply b_set | (refine @bel_trans _ ?_ _ ?_ ?_; rotate_right; with_reducible assumption))); (case hx => repeat' (first | with_reducible exact Below.refl _ _ | with_reducible apply b_alloc | with_reducible apply b_drew | with_reducible apply b_set | (refine @bel_trans _ ?_ _ ?_ ?_; rotate_right; with_reducible assumption))); done)
  obtain ⟨w4, hw4⟩ : ∃ w4, w4 = wc := ⟨_, rfl⟩
  subst hw4
  obtain ⟨⟨gbV, vaV, vcV, loV, hiV, rfl, ⟨hq0, hq1⟩, hrow, ⟨hge, hlt⟩, ⟨hlo, hhi⟩, hdj, hb4⟩, rfl⟩ := hcut
  have H4 := bel_trans H3 hb4
  have SZ4 := Lib.hid hb4.size
  have qa00_4 := (hb4.cell (p := ⟨w0.heap.size, 0, none⟩) za0_3).trans qa00_3
  have qa01_4 := (hb4.cell (p := ⟨w0.heap.size, 1, none⟩) za0_3).trans qa01_3
  have za0_4 := Nat.lt_of_lt_of_le za0_3 hb4.size
  have qa10_4 := (hb4.cell (p := ⟨w0.heap.size + 1, 0, none⟩) za1_3).trans qa10_3
  have qa11_4 := (hb4.cell (p := ⟨w0.heap.size + 1, 1, none⟩) za1_3).trans qa11_3
  have za1_4 := Nat.lt_of_lt_of_le za1_3 hb4.size
  have R0_4 := Lib.hid (R0_3.out.keep hb4)
  have R1_4 := Lib.hid (R1_3.out.keep hb4)
  have GEbV := Lib.hid hge
  have ZBbV := Lib.hid hlt
  have LOV := Lib.hid hlo
  have HIV := Lib.hid hhi
  have DJbV := Lib.hid hdj
  have qbV0_4 := hq0
  have qbV1_4 := hq1
  have zbV_4 := hlt
  have V_4 := Lib.hid hrow
  clear hq0 hq1 hrow hge hlt hlo hhi hdj
  clear qa00_3 qa01_3 za0_3 qa10_3 qa11_3 za1_3 R0_3 R1_3
  go_wp2_with fail
  refine (toMatrix m0 Z0 _ _ R0_4.out.grid hb0g HR0.out).mono ?_
  rintro e w5 ⟨_, rfl, hnew, hb5⟩
  have H5 := bel_trans H4 hb5
  have SZ5 := Lib.hid hb5.size
  have qa00_5 := (hb5.cell (p := ⟨w0.heap.size, 0, none⟩) za0_4).trans qa00_4
  have qa01_5 := (hb5.cell (p := ⟨w0.heap.size, 1, none⟩) za0_4).trans qa01_4
  have za0_5 := Nat.lt_of_lt_of_le za0_4 hb5.size
  have qa10_5 := (hb5.cell (p := ⟨w0.heap.size + 1, 0, none⟩) za1_4).trans qa10_4
  have qa11_5 := (hb5.cell (p := ⟨w0.heap.size + 1, 1, none⟩) za1_4).trans qa11_4
  have za1_5 := Nat.lt_of_lt_of_le za1_4 hb5.size
  have qbV0_5 := (hb5.cell (p := ⟨gbV, 0, none⟩) zbV_4).trans qbV0_4
  have qbV1_5 := (hb5.cell (p := ⟨gbV, 1, none⟩) zbV_4).trans qbV1_4
  have zbV_5 := Nat.lt_of_lt_of_le zbV_4 hb5.size
  have R0_5 := Lib.hid (R0_4.out.keep hb5)
  have R1_5 := Lib.hid (R1_4.out.keep hb5)
  have V_5 := Lib.hid (V_4.out.keep hb5)
  obtain ⟨adX0, cpX0, rfl⟩ := hnew.slice
  have X0_5 := Lib.hid (hnew)
  clear qa00_4 qa01_4 za0_4 qa10_4 qa11_4 za1_4 R0_4 R1_4 qbV0_4 qbV1_4 zbV_4 V_4
  clear hnew
  go_wp2_with fail
  have hb6 : Below w5.heap.size w5 (w5.alloc (.cells #[.int .i64 m0, .slice adX0 Z0.length cpX0] 27)) := (Below.refl _ _).alloc (by simp <;> omega) _
  have H6 := bel_trans H5 hb6
  have SZ6 := Lib.hid hb6.size
  have qa00_6 := (hb6.cell (p := ⟨w0.heap.size, 0, none⟩) za0_5).trans qa00_5
  have qa01_6 := (hb6.cell (p := ⟨w0.heap.size, 1, none⟩) za0_5).trans qa01_5
  have za0_6 := Nat.lt_of_lt_of_le za0_5 hb6.size
  have qa10_6 := (hb6.cell (p := ⟨w0.heap.size + 1, 0, none⟩) za1_5).trans qa10_5
  have qa11_6 := (hb6.cell (p := ⟨w0.heap.size + 1, 1, none⟩) za1_5).trans qa11_5
  have za1_6 := Nat.lt_of_lt_of_le za1_5 hb6.size
  have qbV0_6 := (hb6.cell (p := ⟨gbV, 0, none⟩) zbV_5).trans qbV0_5
  have qbV1_6 := (hb6.cell (p := ⟨gbV, 1, none⟩) zbV_5).trans qbV1_5
  have zbV_6 := Nat.lt_of_lt_of_le zbV_5 hb6.size
  have R0_6 := Lib.hid (R0_5.out.keep hb6)
  have R1_6 := Lib.hid (R1_5.out.keep hb6)
  have V_6 := Lib.hid (V_5.out.keep hb6)
  have X0_6 := Lib.hid (X0_5.out.keep hb6)
  have qx00_6 : (w5.alloc (.cells #[.int .i64 m0, .slice adX0 Z0.length cpX0] 27)).cell? ⟨w5.heap.size, 0, none⟩ = some (.int .i64 m0) := by go_simp
  have qx01_6 : (w5.alloc (.cells #[.int .i64 m0, .slice adX0 Z0.length cpX0] 27)).cell? ⟨w5.heap.size, 1, none⟩ = some (.slice adX0 Z0.length cpX0) := by go_simp
  have zx0_6 : w5.heap.size < (w5.alloc (.cells #[.int .i64 m0, .slice adX0 Z0.length cpX0] 27)).heap.size := by simp <;> omega
  generalize (w5.alloc (.cells #[.int .i64 m0, .slice adX0 Z0.length cpX0] 27)) = w6 at hb6 H6 SZ6 R0_6 R1_6 V_6 X0_6 qa00_6 qa01_6 qa10_6 qa11_6 qbV0_6 qbV1_6 qx00_6 qx01_6 za0_6 za1_6 zbV_6 zx0_6 ⊢
  have ZBx0 := Lib.hid zx0_6
  clear qa00_5 qa01_5 za0_5 qa10_5 qa11_5 za1_5 qbV0_5 qbV1_5 zbV_5 R0_5 R1_5 V_5 X0_5
  go_wp2_with fail
  refine (toMatrix m1 Z1 _ _ R1_6.out.grid hb1g HR1.out).mono ?_
  rintro e w7 ⟨_, rfl, hnew, hb7⟩
  have H7 := bel_trans H6 hb7
  have SZ7 := Lib.hid hb7.size
  have qa00_7 := (hb7.cell (p := ⟨w0.heap.size, 0, none⟩) za0_6).trans qa00_6
  have qa01_7 := (hb7.cell (p := ⟨w0.heap.size, 1, none⟩) za0_6).trans qa01_6
  have za0_7 := Nat.lt_of_lt_of_le za0_6 hb7.size
  have qa10_7 := (hb7.cell (p := ⟨w0.heap.size + 1, 0, none⟩) za1_6).trans qa10_6
  have qa11_7 := (hb7.cell (p := ⟨w0.heap.size + 1, 1, none⟩) za1_6).trans qa11_6
  have za1_7 := Nat.lt_of_lt_of_le za1_6 hb7.size
  have qbV0_7 := (hb7.cell (p := ⟨gbV, 0, none⟩) zbV_6).trans qbV0_6
  have qbV1_7 := (hb7.cell (p := ⟨gbV, 1, none⟩) zbV_6).trans qbV1_6
  have zbV_7 := Nat.lt_of_lt_of_le zbV_6 hb7.size
  have qx00_7 := (hb7.cell (p := ⟨w5.heap.size, 0, none⟩) zx0_6).trans qx00_6
  have qx01_7 := (hb7.cell (p := ⟨w5.heap.size, 1, none⟩) zx0_6).trans qx01_6
  have zx0_7 := Nat.lt_of_lt_of_le zx0_6 hb7.size
  have R0_7 := Lib.hid (R0_6.out.keep hb7)
  have R1_7 := Lib.hid (R1_6.out.keep hb7)
  have V_7 := Lib.hid (V_6.out.keep hb7)
  have X0_7 := Lib.hid (X0_6.out.keep hb7)
  obtain ⟨adX1, cpX1, rfl⟩ := hnew.slice
  have X1_7 := Lib.hid (hnew)
  clear qa00_6 qa01_6 za0_6 qa10_6 qa11_6 za1_6 qbV0_6 qbV1_6 zbV_6 R0_6 R1_6 V_6 X0_6 qx00_6 qx01_6 zx0_6
  clear hnew
  go_wp2_with fail
  have hb8 : Below w7.heap.size w7 (w7.alloc (.cells #[.int .i64 m1, .slice adX1 Z1.length cpX1] 27)) := (Below.refl _ _).alloc (by simp <;> omega) _
  have H8 := bel_trans H7 hb8
  have SZ8 := Lib.hid hb8.size
  have qa00_8 := (hb8.cell (p := ⟨w0.heap.size, 0, none⟩) za0_7).trans qa00_7
  have qa01_8 := (hb8.cell (p := ⟨w0.heap.size, 1, none⟩) za0_7).trans qa01_7
  have za0_8 := Nat.lt_of_lt_of_le za0_7 hb8.size
  have qa10_8 := (hb8.cell (p := ⟨w0.heap.size + 1, 0, none⟩) za1_7).trans qa10_7
  have qa11_8 := (hb8.cell (p := ⟨w0.heap.size + 1, 1, none⟩) za1_7).trans qa11_7
  have za1_8 := Nat.lt_of_lt_of_le za1_7 hb8.size
  have qbV0_8 := (hb8.cell (p := ⟨gbV, 0, none⟩) zbV_7).trans qbV0_7
  have qbV1_8 := (hb8.cell (p := ⟨gbV, 1, none⟩) zbV_7).trans qbV1_7
  have zbV_8 := Nat.lt_of_lt_of_le zbV_7 hb8.size
  have qx00_8 := (hb8.cell (p := ⟨w5.heap.size, 0, none⟩) zx0_7).trans qx00_7
  have qx01_8 := (hb8.cell (p := ⟨w5.heap.size, 1, none⟩) zx0_7).trans qx01_7
  have zx0_8 := Nat.lt_of_lt_of_le zx0_7 hb8.size
  have R0_8 := Lib.hid (R0_7.out.keep hb8)
  have R1_8 := Lib.hid (R1_7.out.keep hb8)
  have V_8 := Lib.hid (V_7.out.keep hb8)
  have X0_8 := Lib.hid (X0_7.out.keep hb8)
  have X1_8 := Lib.hid (X1_7.out.keep hb8)
  have qx10_8 : (w7.alloc (.cells #[.int .i64 m1, .slice adX1 Z1.length cpX1] 27)).cell? ⟨w7.heap.size, 0, none⟩ = some (.int .i64 m1) := by go_simp
  have qx11_8 : (w7.alloc (.cells #[.int .i64 m1, .slice adX1 Z1.length cpX1] 27)).cell? ⟨w7.heap.size, 1, none⟩ = some (.slice adX1 Z1.length cpX1) := by go_simp
  have zx1_8 : w7.heap.size < (w7.alloc (.cells #[.int .i64 m1, .slice adX1 Z1.length cpX1] 27)).heap.size := by simp <;> omega
  generalize (w7.alloc (.cells #[.int .i64 m1, .slice adX1 Z1.length cpX1] 27)) = w8 at hb8 H8 SZ8 R0_8 R1_8 V_8 X0_8 X1_8 qa00_8 qa01_8 qa10_8 qa11_8 qbV0_8 qbV1_8 qx00_8 qx01_8 qx10_8 qx11_8 za0_8 za1_8 zbV_8 zx0_8 zx1_8 ⊢
  have ZBx1 := Lib.hid zx1_8
  clear qa00_7 qa01_7 za0_7 qa10_7 qa11_7 za1_7 qbV0_7 qbV1_7 zbV_7 qx00_7 qx01_7 zx0_7 R0_7 R1_7 V_7 X0_7 X1_7
  refine (HIM.out _ _ _ X0_8.out.gridO X1_8.out.gridO).mono ?_
  rintro e w9 ⟨v, rfl, hown, hb9⟩
  have H9 := bel_trans H8 hb9
  have SZ9 := Lib.hid hb9.size
  have qa00_9 := (hb9.cell (p := ⟨w0.heap.size, 0, none⟩) za0_8).trans qa00_8
  have qa01_9 := (hb9.cell (p := ⟨w0.heap.size, 1, none⟩) za0_8).trans qa01_8
  have za0_9 := Nat.lt_of_lt_of_le za0_8 hb9.size
  have qa10_9 := (hb9.cell (p := ⟨w0.heap.size + 1, 0, none⟩) za1_8).trans qa10_8
  have qa11_9 := (hb9.cell (p := ⟨w0.heap.size + 1, 1, none⟩) za1_8).trans qa11_8
  have za1_9 := Nat.lt_of_lt_of_le za1_8 hb9.size
  have qbV0_9 := (hb9.cell (p := ⟨gbV, 0, none⟩) zbV_8).trans qbV0_8
  have qbV1_9 := (hb9.cell (p := ⟨gbV, 1, none⟩) zbV_8).trans qbV1_8
  have zbV_9 := Nat.lt_of_lt_of_le zbV_8 hb9.size
  have qx00_9 := (hb9.cell (p := ⟨w5.heap.size, 0, none⟩) zx0_8).trans qx00_8
  have qx01_9 := (hb9.cell (p := ⟨w5.heap.size, 1, none⟩) zx0_8).trans qx01_8
  have zx0_9 := Nat.lt_of_lt_of_le zx0_8 hb9.size
  have qx10_9 := (hb9.cell (p := ⟨w7.heap.size, 0, none⟩) zx1_8).trans qx10_8
  have qx11_9 := (hb9.cell (p := ⟨w7.heap.size, 1, none⟩) zx1_8).trans qx11_8
  have zx1_9 := Nat.lt_of_lt_of_le zx1_8 hb9.size
  have R0_9 := Lib.hid (R0_8.out.keep hb9)
  have R1_9 := Lib.hid (R1_8.out.keep hb9)
  have V_9 := Lib.hid (V_8.out.keep hb9)
  have X0_9 := Lib.hid (X0_8.out.keep hb9)
  have X1_9 := Lib.hid (X1_8.out.keep hb9)
  obtain ⟨vaG, vcG, rfl⟩ := hown.slice
  have G_9 := Lib.hid (hown)
  clear qa00_8 qa01_8 za0_8 qa10_8 qa11_8 za1_8 qbV0_8 qbV1_8 zbV_8 qx00_8 qx01_8 zx0_8 R0_8 R1_8 V_8 X0_8 X1_8 qx10_8 qx11_8 zx1_8
  clear hown
  go_wp2_with fail
  have hb10 : Below w9.heap.size w9 (w9.alloc (.cells #[.int .i64 M, .slice vaG ls.length vcG] 27)) := (Below.refl _ _).alloc (by simp <;> omega) _
  have H10 := bel_trans H9 hb10
  have SZ10 := Lib.hid hb10.size
  have qa00_10 := (hb10.cell (p := ⟨w0.heap.size, 0, none⟩) za0_9).trans qa00_9
  have qa01_10 := (hb10.cell (p := ⟨w0.heap.size, 1, none⟩) za0_9).trans qa01_9
  have za0_10 := Nat.lt_of_lt_of_le za0_9 hb10.size
  have qa10_10 := (hb10.cell (p := ⟨w0.heap.size + 1, 0, none⟩) za1_9).trans qa10_9
  have qa11_10 := (hb10.cell (p := ⟨w0.heap.size + 1, 1, none⟩) za1_9).trans qa11_9
  have za1_10 := Nat.lt_of_lt_of_le za1_9 hb10.size
  have qbV0_10 := (hb10.cell (p := ⟨gbV, 0, none⟩) zbV_9).trans qbV0_9
  have qbV1_10 := (hb10.cell (p := ⟨gbV, 1, none⟩) zbV_9).trans qbV1_9
  have zbV_10 := Nat.lt_of_lt_of_le zbV_9 hb10.size
  have qx00_10 := (hb10.cell (p := ⟨w5.heap.size, 0, none⟩) zx0_9).trans qx00_9
  have qx01_10 := (hb10.cell (p := ⟨w5.heap.size, 1, none⟩) zx0_9).trans qx01_9
  have zx0_10 := Nat.lt_of_lt_of_le zx0_9 hb10.size
  have qx10_10 := (hb10.cell (p := ⟨w7.heap.size, 0, none⟩) zx1_9).trans qx10_9
  have qx11_10 := (hb10.cell (p := ⟨w7.heap.size, 1, none⟩) zx1_9).trans qx11_9
  have zx1_10 := Nat.lt_of_lt_of_le zx1_9 hb10.size
  have R0_10 := Lib.hid (R0_9.out.keep hb10)
  have R1_10 := Lib.hid (R1_9.out.keep hb10)
  have V_10 := Lib.hid (V_9.out.keep hb10)
  have X0_10 := Lib.hid (X0_9.out.keep hb10)
  have X1_10 := Lib.hid (X1_9.out.keep hb10)
  have G_10 := Lib.hid (G_9.out.keep hb10)
  have qbG0_10 : (w9.alloc (.cells #[.int .i64 M, .slice vaG ls.length vcG] 27)).cell? ⟨w9.heap.size, 0, none⟩ = some (.int .i64 M) := by go_simp
  have qbG1_10 : (w9.alloc (.cells #[.int .i64 M, .slice vaG ls.length vcG] 27)).cell? ⟨w9.heap.size, 1, none⟩ = some (.slice vaG ls.length vcG) := by go_simp
  have zbG_10 : w9.heap.size < (w9.alloc (.cells #[.int .i64 M, .slice vaG ls.length vcG] 27)).heap.size := by simp <;> omega
  generalize (w9.alloc (.cells #[.int .i64 M, .slice vaG ls.length vcG] 27)) = w10 at hb10 H10 SZ10 G_10 R0_10 R1_10 V_10 X0_10 X1_10 qa00_10 qa01_10 qa10_10 qa11_10 qbG0_10 qbG1_10 qbV0_10 qbV1_10 qx00_10 qx01_10 qx10_10 qx11_10 za0_10 za1_10 zbG_10 zbV_10 zx0_10 zx1_10 ⊢
  have ZBbG := Lib.hid zbG_10
  clear qa00_9 qa01_9 za0_9 qa10_9 qa11_9 za1_9 qbV0_9 qbV1_9 zbV_9 qx00_9 qx01_9 zx0_9 qx10_9 qx11_9 zx1_9 R0_9 R1_9 V_9 X0_9 X1_9 G_9
  refine (eqMatrix M ls _ _ _ G_10.out.grid V_10.out.grid hln HLR.out).mono ?_
  rintro e w11 ⟨rfl, hb11⟩
  have H11 := bel_trans H10 hb11
  have SZ11 := Lib.hid hb11.size
  have qa00_11 := (hb11.cell (p := ⟨w0.heap.size, 0, none⟩) za0_10).trans qa00_10
  have qa01_11 := (hb11.cell (p := ⟨w0.heap.size, 1, none⟩) za0_10).trans qa01_10
  have za0_11 := Nat.lt_of_lt_of_le za0_10 hb11.size
  have qa10_11 := (hb11.cell (p := ⟨w0.heap.size + 1, 0, none⟩) za1_10).trans qa10_10
  have qa11_11 := (hb11.cell (p := ⟨w0.heap.size + 1, 1, none⟩) za1_10).trans qa11_10
  have za1_11 := Nat.lt_of_lt_of_le za1_10 hb11.size
  have qbV0_11 := (hb11.cell (p := ⟨gbV, 0, none⟩) zbV_10).trans qbV0_10
  have qbV1_11 := (hb11.cell (p := ⟨gbV, 1, none⟩) zbV_10).trans qbV1_10
  have zbV_11 := Nat.lt_of_lt_of_le zbV_10 hb11.size
  have qx00_11 := (hb11.cell (p := ⟨w5.heap.size, 0, none⟩) zx0_10).trans qx00_10
  have qx01_11 := (hb11.cell (p := ⟨w5.heap.size, 1, none⟩) zx0_10).trans qx01_10
  have zx0_11 := Nat.lt_of_lt_of_le zx0_10 hb11.size
  have qx10_11 := (hb11.cell (p := ⟨w7.heap.size, 0, none⟩) zx1_10).trans qx10_10
  have qx11_11 := (hb11.cell (p := ⟨w7.heap.size, 1, none⟩) zx1_10).trans qx11_10
  have zx1_11 := Nat.lt_of_lt_of_le zx1_10 hb11.size
  have qbG0_11 := (hb11.cell (p := ⟨w9.heap.size, 0, none⟩) zbG_10).trans qbG0_10
  have qbG1_11 := (hb11.cell (p := ⟨w9.heap.size, 1, none⟩) zbG_10).trans qbG1_10
  have zbG_11 := Nat.lt_of_lt_of_le zbG_10 hb11.size
  have R0_11 := Lib.hid (R0_10.out.keep hb11)
  have R1_11 := Lib.hid (R1_10.out.keep hb11)
  have V_11 := Lib.hid (V_10.out.keep hb11)
  have X0_11 := Lib.hid (X0_10.out.keep hb11)
  have X1_11 := Lib.hid (X1_10.out.keep hb11)
  have G_11 := Lib.hid (G_10.out.keep hb11)
  clear qa00_10 qa01_10 za0_10 qa10_10 qa11_10 za1_10 qbV0_10 qbV1_10 zbV_10 qx00_10 qx01_10 zx0_10 qx10_10 qx11_10 zx1_10 R0_10 R1_10 V_10 X0_10 X1_10 G_10 qbG0_10 qbG1_10 zbG_10
  go_wp2_with fail
  have hold : ∀ w' : World, Below w11.heap.size w11 w' → (w'.cell? ⟨w5.heap.size, 0, none⟩ = some (.int .i64 m0) ∧ w'.cell? ⟨w5.heap.size, 1, none⟩ = some (.slice adX0 Z0.length cpX0) ∧ w'.cell? ⟨w0.heap.size, 0, none⟩ = some (.int .i64 m0) ∧ w'.cell? ⟨w0.heap.size, 1, none⟩ = some (.slice ad0 Z0.length cp0)) := fun w' h => ⟨(h.cell (p := ⟨w5.heap.size, 0, none⟩) zx0_11).trans qx00_11, (h.cell (p := ⟨w5.heap.size, 1, none⟩) zx0_11).trans qx01_11, (h.cell (p := ⟨w0.heap.size, 0, none⟩) za0_11).trans qa00_11, (h.cell (p := ⟨w0.heap.size, 1, none⟩) za0_11).trans qa01_11⟩
  have HOLD := Lib.hid hold
  clear hold
  go_region_held3 (fun w' : World => w'.cell? ⟨w5.heap.size, 0, none⟩ = some (.int .i64 m0) ∧ w'.cell? ⟨w5.heap.size, 1, none⟩ = some (.slice adX0 Z0.length cpX0) ∧ w'.cell? ⟨w0.heap.size, 0, none⟩ = some (.int .i64 m0) ∧ w'.cell? ⟨w0.heap.size, 1, none⟩ = some (.slice ad0 Z0.length cp0)) (first | exact HOLD.out _ ((Below.refl _ _).drew) | exact HOLD.out _ (bel_trans ((Below.refl _ _).drew) hb12) | exact HOLD.out _ (bel_trans (bel_trans ((Below.refl _ _).drew) hb12) hb13)) (first | (go_at_call 13; (with_reducible refine (toMatrix m0 Z0 _ _ (R0_11.out.keep ((Below.refl _ _).drew)).grid hb0g HR0.out).mono ?_); rintro e w12 ⟨sB0, rfl, hnew0, hb12⟩) | (go_at_call 15; (with_reducible refine (eqMatrix m0 Z0 _ _ _ (X0_11.out.grid.keep (bel_trans ((Below.refl _ _).drew) hb12)) hnew0.grid hb0i HR20.out).mono ?_); rintro e w13 ⟨rfl, hb13⟩))
  have hq : Below w11.heap.size w11 w13 := (bel_trans (bel_trans ((Below.refl _ _).drew) hb12) hb13)
  clear hb12 hb13 HOLD hnew0
  have hb13 := hq
  clear hq
  have H13 := bel_trans H11 hb13
  have SZ13 := Lib.hid hb13.size
  have qa00_13 := (hb13.cell (p := ⟨w0.heap.size, 0, none⟩) za0_11).trans qa00_11
  have qa01_13 := (hb13.cell (p := ⟨w0.heap.size, 1, none⟩) za0_11).trans qa01_11
  have za0_13 := Nat.lt_of_lt_of_le za0_11 hb13.size
  have qa10_13 := (hb13.cell (p := ⟨w0.heap.size + 1, 0, none⟩) za1_11).trans qa10_11
  have qa11_13 := (hb13.cell (p := ⟨w0.heap.size + 1, 1, none⟩) za1_11).trans qa11_11
  have za1_13 := Nat.lt_of_lt_of_le za1_11 hb13.size
  have qbV0_13 := (hb13.cell (p := ⟨gbV, 0, none⟩) zbV_11).trans qbV0_11
  have qbV1_13 := (hb13.cell (p := ⟨gbV, 1, none⟩) zbV_11).trans qbV1_11
  have zbV_13 := Nat.lt_of_lt_of_le zbV_11 hb13.size
  have qx00_13 := (hb13.cell (p := ⟨w5.heap.size, 0, none⟩) zx0_11).trans qx00_11
  have qx01_13 := (hb13.cell (p := ⟨w5.heap.size, 1, none⟩) zx0_11).trans qx01_11
  have zx0_13 := Nat.lt_of_lt_of_le zx0_11 hb13.size
  have qx10_13 := (hb13.cell (p := ⟨w7.heap.size, 0, none⟩) zx1_11).trans qx10_11
  have qx11_13 := (hb13.cell (p := ⟨w7.heap.size, 1, none⟩) zx1_11).trans qx11_11
  have zx1_13 := Nat.lt_of_lt_of_le zx1_11 hb13.size
  have qbG0_13 := (hb13.cell (p := ⟨w9.heap.size, 0, none⟩) zbG_11).trans qbG0_11
  have qbG1_13 := (hb13.cell (p := ⟨w9.heap.size, 1, none⟩) zbG_11).trans qbG1_11
  have zbG_13 := Nat.lt_of_lt_of_le zbG_11 hb13.size
  have R0_13 := Lib.hid (R0_11.out.keep hb13)
  have R1_13 := Lib.hid (R1_11.out.keep hb13)
  have V_13 := Lib.hid (V_11.out.keep hb13)
  have X0_13 := Lib.hid (X0_11.out.keep hb13)
  have X1_13 := Lib.hid (X1_11.out.keep hb13)
  have G_13 := Lib.hid (G_11.out.keep hb13)
  clear qa00_11 qa01_11 za0_11 qa10_11 qa11_11 za1_11 qbV0_11 qbV1_11 zbV_11 qx00_11 qx01_11 zx0_11 qx10_11 qx11_11 zx1_11 qbG0_11 qbG1_11 zbG_11 R0_11 R1_11 V_11 X0_11 X1_11 G_11
  go_wp2_with fail
  have hold : ∀ w' : World, Below w13.heap.size w13 w' → (w'.cell? ⟨w7.heap.size, 0, none⟩ = some (.int .i64 m1) ∧ w'.cell? ⟨w7.heap.size, 1, none⟩ = some (.slice adX1 Z1.length cpX1) ∧ w'.cell? ⟨w0.heap.size + 1, 0, none⟩ = some (.int .i64 m1) ∧ w'.cell? ⟨w0.heap.size + 1, 1, none⟩ = some (.slice ad1 Z1.length cp1)) := fun w' h => ⟨(h.cell (p := ⟨w7.heap.size, 0, none⟩) zx1_13).trans qx10_13, (h.cell (p := ⟨w7.heap.size, 1, none⟩) zx1_13).trans qx11_13, (h.cell (p := ⟨w0.heap.size + 1, 0, none⟩) za1_13).trans qa10_13, (h.cell (p := ⟨w0.heap.size + 1, 1, none⟩) za1_13).trans qa11_13⟩
  have HOLD := Lib.hid hold
  clear hold
  go_region_held3 (fun w' : World => w'.cell? ⟨w7.heap.size, 0, none⟩ = some (.int .i64 m1) ∧ w'.cell? ⟨w7.heap.size, 1, none⟩ = some (.slice adX1 Z1.length cpX1) ∧ w'.cell? ⟨w0.heap.size + 1, 0, none⟩ = some (.int .i64 m1) ∧ w'.cell? ⟨w0.heap.size + 1, 1, none⟩ = some (.slice ad1 Z1.length cp1)) (first | exact HOLD.out _ ((Below.refl _ _).drew) | exact HOLD.out _ (bel_trans ((Below.refl _ _).drew) hb14) | exact HOLD.out _ (bel_trans (bel_trans ((Below.refl _ _).drew) hb14) hb15)) (first | (go_at_call 13; (with_reducible refine (toMatrix m1 Z1 _ _ (R1_13.out.keep ((Below.refl _ _).drew)).grid hb1g HR1.out).mono ?_); rintro e w14 ⟨sB1, rfl, hnew1, hb14⟩) | (go_at_call 15; (with_reducible refine (eqMatrix m1 Z1 _ _ _ (X1_13.out.grid.keep (bel_trans ((Below.refl _ _).drew) hb14)) hnew1.grid hb1i HR21.out).mono ?_); rintro e w15 ⟨rfl, hb15⟩))
  have hq : Below w13.heap.size w13 w15 := (bel_trans (bel_trans ((Below.refl _ _).drew) hb14) hb15)
  clear hb14 hb15 HOLD hnew1
  have hb15 := hq
  clear hq
  have H15 := bel_trans H13 hb15
  have SZ15 := Lib.hid hb15.size
  have qa00_15 := (hb15.cell (p := ⟨w0.heap.size, 0, none⟩) za0_13).trans qa00_13
  have qa01_15 := (hb15.cell (p := ⟨w0.heap.size, 1, none⟩) za0_13).trans qa01_13
  have za0_15 := Nat.lt_of_lt_of_le za0_13 hb15.size
  have qa10_15 := (hb15.cell (p := ⟨w0.heap.size + 1, 0, none⟩) za1_13).trans qa10_13
  have qa11_15 := (hb15.cell (p := ⟨w0.heap.size + 1, 1, none⟩) za1_13).trans qa11_13
  have za1_15 := Nat.lt_of_lt_of_le za1_13 hb15.size
  have qbV0_15 := (hb15.cell (p := ⟨gbV, 0, none⟩) zbV_13).trans qbV0_13
  have qbV1_15 := (hb15.cell (p := ⟨gbV, 1, none⟩) zbV_13).trans qbV1_13
  have zbV_15 := Nat.lt_of_lt_of_le zbV_13 hb15.size
  have qx00_15 := (hb15.cell (p := ⟨w5.heap.size, 0, none⟩) zx0_13).trans qx00_13
  have qx01_15 := (hb15.cell (p := ⟨w5.heap.size, 1, none⟩) zx0_13).trans qx01_13
  have zx0_15 := Nat.lt_of_lt_of_le zx0_13 hb15.size
  have qx10_15 := (hb15.cell (p := ⟨w7.heap.size, 0, none⟩) zx1_13).trans qx10_13
  have qx11_15 := (hb15.cell (p := ⟨w7.heap.size, 1, none⟩) zx1_13).trans qx11_13
  have zx1_15 := Nat.lt_of_lt_of_le zx1_13 hb15.size
  have qbG0_15 := (hb15.cell (p := ⟨w9.heap.size, 0, none⟩) zbG_13).trans qbG0_13
  have qbG1_15 := (hb15.cell (p := ⟨w9.heap.size, 1, none⟩) zbG_13).trans qbG1_13
  have zbG_15 := Nat.lt_of_lt_of_le zbG_13 hb15.size
  have R0_15 := Lib.hid (R0_13.out.keep hb15)
  have R1_15 := Lib.hid (R1_13.out.keep hb15)
  have V_15 := Lib.hid (V_13.out.keep hb15)
  have X0_15 := Lib.hid (X0_13.out.keep hb15)
  have X1_15 := Lib.hid (X1_13.out.keep hb15)
  have G_15 := Lib.hid (G_13.out.keep hb15)
  clear qa00_13 qa01_13 za0_13 qa10_13 qa11_13 za1_13 qbV0_13 qbV1_13 zbV_13 qx00_13 qx01_13 zx0_13 qx10_13 qx11_13 zx1_13 qbG0_13 qbG1_13 zbG_13 R0_13 R1_13 V_13 X0_13 X1_13 G_13
  go_wp2_with fail
  refine (markMatrix 1 m0 _ _ _ _ Z0 X0_15.out hb0i (by omega) (by omega)).mono ?_
  rintro e w16 ⟨rfl, hrow, hb16⟩
  have H16 := bel_chg H15 hb16 (by have := SZ4.out; have := SZ3.out; have := SZ2.out; have := SZ1.out; omega)
  have SZ16 := Lib.hid hb16.size
  have qa00_16 := (hb16.cell (p := ⟨w0.heap.size, 0, none⟩) za0_15 (.inl (by have := ZBa0.out; have := SZ4.out; have := SZ3.out; have := SZ2.out; simp only; omega))).trans qa00_15
  have qa01_16 := (hb16.cell (p := ⟨w0.heap.size, 1, none⟩) za0_15 (.inl (by have := ZBa0.out; have := SZ4.out; have := SZ3.out; have := SZ2.out; simp only; omega))).trans qa01_15
  have za0_16 := Nat.lt_of_lt_of_le za0_15 hb16.size
  have qa10_16 := (hb16.cell (p := ⟨w0.heap.size + 1, 0, none⟩) za1_15 (.inl (by have := ZBa1.out; have := SZ4.out; have := SZ3.out; have := SZ2.out; simp only; omega))).trans qa10_15
  have qa11_16 := (hb16.cell (p := ⟨w0.heap.size + 1, 1, none⟩) za1_15 (.inl (by have := ZBa1.out; have := SZ4.out; have := SZ3.out; have := SZ2.out; simp only; omega))).trans qa11_15
  have za1_16 := Nat.lt_of_lt_of_le za1_15 hb16.size
  have qbV0_16 := (hb16.cell (p := ⟨gbV, 0, none⟩) zbV_15 (.inl (by have := ZBbV.out; simp only; omega))).trans qbV0_15
  have qbV1_16 := (hb16.cell (p := ⟨gbV, 1, none⟩) zbV_15 (.inl (by have := ZBbV.out; simp only; omega))).trans qbV1_15
  have zbV_16 := Nat.lt_of_lt_of_le zbV_15 hb16.size
  have qx00_16 := (hb16.cell (p := ⟨w5.heap.size, 0, none⟩) zx0_15 (.inr (by simp only; omega))).trans qx00_15
  have qx01_16 := (hb16.cell (p := ⟨w5.heap.size, 1, none⟩) zx0_15 (.inr (by simp only; omega))).trans qx01_15
  have zx0_16 := Nat.lt_of_lt_of_le zx0_15 hb16.size
  have qx10_16 := (hb16.cell (p := ⟨w7.heap.size, 0, none⟩) zx1_15 (.inr (by have := SZ7.out; have := SZ6.out; simp only; omega))).trans qx10_15
  have qx11_16 := (hb16.cell (p := ⟨w7.heap.size, 1, none⟩) zx1_15 (.inr (by have := SZ7.out; have := SZ6.out; simp only; omega))).trans qx11_15
  have zx1_16 := Nat.lt_of_lt_of_le zx1_15 hb16.size
  have qbG0_16 := (hb16.cell (p := ⟨w9.heap.size, 0, none⟩) zbG_15 (.inr (by have := SZ9.out; have := SZ8.out; have := SZ7.out; have := SZ6.out; simp only; omega))).trans qbG0_15
  have qbG1_16 := (hb16.cell (p := ⟨w9.heap.size, 1, none⟩) zbG_15 (.inr (by have := SZ9.out; have := SZ8.out; have := SZ7.out; have := SZ6.out; simp only; omega))).trans qbG1_15
  have zbG_16 := Nat.lt_of_lt_of_le zbG_15 hb16.size
  have R0_16 := Lib.hid (R0_15.out.chg hb16 (.inr (by have := SZ4.out; have := SZ3.out; have := SZ2.out; have := SZ1.out; omega)))
  have R1_16 := Lib.hid (R1_15.out.chg hb16 (.inr (by have := SZ4.out; have := SZ3.out; have := SZ2.out; have := SZ1.out; omega)))
  have V_16 := Lib.hid (V_15.out.chg hb16 (.inr (by have := HIV.out; omega)))
  have X1_16 := Lib.hid (X1_15.out.chg hb16 (.inl (by have := SZ6.out; omega)))
  have G_16 := Lib.hid (G_15.out.chg hb16 (.inl (by have := SZ8.out; have := SZ7.out; have := SZ6.out; omega)))
  have X0_16 := Lib.hid (hrow)
  clear qa00_15 qa01_15 za0_15 qa10_15 qa11_15 za1_15 qbV0_15 qbV1_15 zbV_15 qx00_15 qx01_15 zx0_15 qx10_15 qx11_15 zx1_15 qbG0_15 qbG1_15 zbG_15 R0_15 R1_15 V_15 X0_15 X1_15 G_15
  clear hrow
  go_wp2_with fail
  refine (markMatrix (1 + tl Z0) m1 _ _ _ _ Z1 X1_16.out hb1i (by omega) (by omega)).mono ?_
  rintro e w17 ⟨rfl, hrow, hb17⟩
  have H17 := bel_chg H16 hb17 (by have := SZ6.out; have := SZ5.out; have := SZ4.out; have := SZ3.out; have := SZ2.out; have := SZ1.out; omega)
  have SZ17 := Lib.hid hb17.size
  have qa00_17 := (hb17.cell (p := ⟨w0.heap.size, 0, none⟩) za0_16 (.inl (by have := ZBa0.out; have := SZ6.out; have := SZ5.out; have := SZ4.out; have := SZ3.out; have := SZ2.out; simp only; omega))).trans qa00_16
  have qa01_17 := (hb17.cell (p := ⟨w0.heap.size, 1, none⟩) za0_16 (.inl (by have := ZBa0.out; have := SZ6.out; have := SZ5.out; have := SZ4.out; have := SZ3.out; have := SZ2.out; simp only; omega))).trans qa01_16
  have za0_17 := Nat.lt_of_lt_of_le za0_16 hb17.size
  have qa10_17 := (hb17.cell (p := ⟨w0.heap.size + 1, 0, none⟩) za1_16 (.inl (by have := ZBa1.out; have := SZ6.out; have := SZ5.out; have := SZ4.out; have := SZ3.out; have := SZ2.out; simp only; omega))).trans qa10_16
  have qa11_17 := (hb17.cell (p := ⟨w0.heap.size + 1, 1, none⟩) za1_16 (.inl (by have := ZBa1.out; have := SZ6.out; have := SZ5.out; have := SZ4.out; have := SZ3.out; have := SZ2.out; simp only; omega))).trans qa11_16
  have za1_17 := Nat.lt_of_lt_of_le za1_16 hb17.size
  have qbV0_17 := (hb17.cell (p := ⟨gbV, 0, none⟩) zbV_16 (.inl (by have := ZBbV.out; have := SZ6.out; have := SZ5.out; simp only; omega))).trans qbV0_16
  have qbV1_17 := (hb17.cell (p := ⟨gbV, 1, none⟩) zbV_16 (.inl (by have := ZBbV.out; have := SZ6.out; have := SZ5.out; simp only; omega))).trans qbV1_16
  have zbV_17 := Nat.lt_of_lt_of_le zbV_16 hb17.size
  have qx00_17 := (hb17.cell (p := ⟨w5.heap.size, 0, none⟩) zx0_16 (.inl (by have := ZBx0.out; simp only; omega))).trans qx00_16
  have qx01_17 := (hb17.cell (p := ⟨w5.heap.size, 1, none⟩) zx0_16 (.inl (by have := ZBx0.out; simp only; omega))).trans qx01_16
  have zx0_17 := Nat.lt_of_lt_of_le zx0_16 hb17.size
  have qx10_17 := (hb17.cell (p := ⟨w7.heap.size, 0, none⟩) zx1_16 (.inr (by simp only; omega))).trans qx10_16
  have qx11_17 := (hb17.cell (p := ⟨w7.heap.size, 1, none⟩) zx1_16 (.inr (by simp only; omega))).trans qx11_16
  have zx1_17 := Nat.lt_of_lt_of_le zx1_16 hb17.size
  have qbG0_17 := (hb17.cell (p := ⟨w9.heap.size, 0, none⟩) zbG_16 (.inr (by have := SZ9.out; have := SZ8.out; simp only; omega))).trans qbG0_16
  have qbG1_17 := (hb17.cell (p := ⟨w9.heap.size, 1, none⟩) zbG_16 (.inr (by have := SZ9.out; have := SZ8.out; simp only; omega))).trans qbG1_16
  have zbG_17 := Nat.lt_of_lt_of_le zbG_16 hb17.size
  have R0_17 := Lib.hid (R0_16.out.chg hb17 (.inr (by have := SZ6.out; have := SZ5.out; have := SZ4.out; have := SZ3.out; have := SZ2.out; have := SZ1.out; omega)))
  have R1_17 := Lib.hid (R1_16.out.chg hb17 (.inr (by have := SZ6.out; have := SZ5.out; have := SZ4.out; have := SZ3.out; have := SZ2.out; have := SZ1.out; omega)))
  have V_17 := Lib.hid (V_16.out.chg hb17 (.inr (by have := SZ6.out; have := SZ5.out; have := HIV.out; omega)))
  have X0_17 := Lib.hid (X0_16.out.chg hb17 (.inr (by have := SZ6.out; omega)))
  have G_17 := Lib.hid (G_16.out.chg hb17 (.inl (by have := SZ8.out; omega)))
  have X1_17 := Lib.hid (hrow)
  clear qa00_16 qa01_16 za0_16 qa10_16 qa11_16 za1_16 qbV0_16 qbV1_16 zbV_16 qx00_16 qx01_16 zx0_16 qx10_16 qx11_16 zx1_16 qbG0_16 qbG1_16 zbG_16 R0_16 R1_16 V_16 X1_16 G_16 X0_16
  clear hrow
  have hk1 : decide ((((1 + tl Z0) + tl Z1 : Nat) : Int) < 0) = false := decide_eq_false (by omega)
  go_wp2_with fail
  refine (eqMatrix M ls _ _ _ G_17.out.grid V_17.out.grid hln HLR.out).mono ?_
  rintro e w18 ⟨rfl, hb18⟩
  have H18 := bel_trans H17 hb18
  have SZ18 := Lib.hid hb18.size
  have qa00_18 := (hb18.cell (p := ⟨w0.heap.size, 0, none⟩) za0_17).trans qa00_17
  have qa01_18 := (hb18.cell (p := ⟨w0.heap.size, 1, none⟩) za0_17).trans qa01_17
  have za0_18 := Nat.lt_of_lt_of_le za0_17 hb18.size
  have qa10_18 := (hb18.cell (p := ⟨w0.heap.size + 1, 0, none⟩) za1_17).trans qa10_17
  have qa11_18 := (hb18.cell (p := ⟨w0.heap.size + 1, 1, none⟩) za1_17).trans qa11_17
  have za1_18 := Nat.lt_of_lt_of_le za1_17 hb18.size
  have qbV0_18 := (hb18.cell (p := ⟨gbV, 0, none⟩) zbV_17).trans qbV0_17
  have qbV1_18 := (hb18.cell (p := ⟨gbV, 1, none⟩) zbV_17).trans qbV1_17
  have zbV_18 := Nat.lt_of_lt_of_le zbV_17 hb18.size
  have qx00_18 := (hb18.cell (p := ⟨w5.heap.size, 0, none⟩) zx0_17).trans qx00_17
  have qx01_18 := (hb18.cell (p := ⟨w5.heap.size, 1, none⟩) zx0_17).trans qx01_17
  have zx0_18 := Nat.lt_of_lt_of_le zx0_17 hb18.size
  have qx10_18 := (hb18.cell (p := ⟨w7.heap.size, 0, none⟩) zx1_17).trans qx10_17
  have qx11_18 := (hb18.cell (p := ⟨w7.heap.size, 1, none⟩) zx1_17).trans qx11_17
  have zx1_18 := Nat.lt_of_lt_of_le zx1_17 hb18.size
  have qbG0_18 := (hb18.cell (p := ⟨w9.heap.size, 0, none⟩) zbG_17).trans qbG0_17
  have qbG1_18 := (hb18.cell (p := ⟨w9.heap.size, 1, none⟩) zbG_17).trans qbG1_17
  have zbG_18 := Nat.lt_of_lt_of_le zbG_17 hb18.size
  have R0_18 := Lib.hid (R0_17.out.keep hb18)
  have R1_18 := Lib.hid (R1_17.out.keep hb18)
  have V_18 := Lib.hid (V_17.out.keep hb18)
  have X0_18 := Lib.hid (X0_17.out.keep hb18)
  have X1_18 := Lib.hid (X1_17.out.keep hb18)
  have G_18 := Lib.hid (G_17.out.keep hb18)
  clear qa00_17 qa01_17 za0_17 qa10_17 qa11_17 za1_17 qbV0_17 qbV1_17 zbV_17 qx00_17 qx01_17 zx0_17 qx10_17 qx11_17 zx1_17 qbG0_17 qbG1_17 zbG_17 R0_17 R1_17 V_17 X0_17 G_17 X1_17
  go_wp2_with fail
  refine (markMatrix 1 M _ _ _ _ ls G_18.out hln (by omega) (by omega)).mono ?_
  rintro e w19 ⟨rfl, hrow, hb19⟩
  have H19 := bel_chg H18 hb19 (by have := SZ8.out; have := SZ7.out; have := SZ6.out; have := SZ5.out; have := SZ4.out; have := SZ3.out; have := SZ2.out; have := SZ1.out; omega)
  have SZ19 := Lib.hid hb19.size
  have qa00_19 := (hb19.cell (p := ⟨w0.heap.size, 0, none⟩) za0_18 (.inl (by have := ZBa0.out; have := SZ8.out; have := SZ7.out; have := SZ6.out; have := SZ5.out; have := SZ4.out; have := SZ3.out; have := SZ2.out; simp only; omega))).trans qa00_18
  have qa01_19 := (hb19.cell (p := ⟨w0.heap.size, 1, none⟩) za0_18 (.inl (by have := ZBa0.out; have := SZ8.out; have := SZ7.out; have := SZ6.out; have := SZ5.out; have := SZ4.out; have := SZ3.out; have := SZ2.out; simp only; omega))).trans qa01_18
  have za0_19 := Nat.lt_of_lt_of_le za0_18 hb19.size
  have qa10_19 := (hb19.cell (p := ⟨w0.heap.size + 1, 0, none⟩) za1_18 (.inl (by have := ZBa1.out; have := SZ8.out; have := SZ7.out; have := SZ6.out; have := SZ5.out; have := SZ4.out; have := SZ3.out; have := SZ2.out; simp only; omega))).trans qa10_18
  have qa11_19 := (hb19.cell (p := ⟨w0.heap.size + 1, 1, none⟩) za1_18 (.inl (by have := ZBa1.out; have := SZ8.out; have := SZ7.out; have := SZ6.out; have := SZ5.out; have := SZ4.out; have := SZ3.out; have := SZ2.out; simp only; omega))).trans qa11_18
  have za1_19 := Nat.lt_of_lt_of_le za1_18 hb19.size
  have qbV0_19 := (hb19.cell (p := ⟨gbV, 0, none⟩) zbV_18 (.inl (by have := ZBbV.out; have := SZ8.out; have := SZ7.out; have := SZ6.out; have := SZ5.out; simp only; omega))).trans qbV0_18
  have qbV1_19 := (hb19.cell (p := ⟨gbV, 1, none⟩) zbV_18 (.inl (by have := ZBbV.out; have := SZ8.out; have := SZ7.out; have := SZ6.out; have := SZ5.out; simp only; omega))).trans qbV1_18
  have zbV_19 := Nat.lt_of_lt_of_le zbV_18 hb19.size
  have qx00_19 := (hb19.cell (p := ⟨w5.heap.size, 0, none⟩) zx0_18 (.inl (by have := ZBx0.out; have := SZ8.out; have := SZ7.out; simp only; omega))).trans qx00_18
  have qx01_19 := (hb19.cell (p := ⟨w5.heap.size, 1, none⟩) zx0_18 (.inl (by have := ZBx0.out; have := SZ8.out; have := SZ7.out; simp only; omega))).trans qx01_18
  have zx0_19 := Nat.lt_of_lt_of_le zx0_18 hb19.size
  have qx10_19 := (hb19.cell (p := ⟨w7.heap.size, 0, none⟩) zx1_18 (.inl (by have := ZBx1.out; simp only; omega))).trans qx10_18
  have qx11_19 := (hb19.cell (p := ⟨w7.heap.size, 1, none⟩) zx1_18 (.inl (by have := ZBx1.out; simp only; omega))).trans qx11_18
  have zx1_19 := Nat.lt_of_lt_of_le zx1_18 hb19.size
  have qbG0_19 := (hb19.cell (p := ⟨w9.heap.size, 0, none⟩) zbG_18 (.inr (by simp only; omega))).trans qbG0_18
  have qbG1_19 := (hb19.cell (p := ⟨w9.heap.size, 1, none⟩) zbG_18 (.inr (by simp only; omega))).trans qbG1_18
  have zbG_19 := Nat.lt_of_lt_of_le zbG_18 hb19.size
  have R0_19 := Lib.hid (R0_18.out.chg hb19 (.inr (by have := SZ8.out; have := SZ7.out; have := SZ6.out; have := SZ5.out; have := SZ4.out; have := SZ3.out; have := SZ2.out; have := SZ1.out; omega)))
  have R1_19 := Lib.hid (R1_18.out.chg hb19 (.inr (by have := SZ8.out; have := SZ7.out; have := SZ6.out; have := SZ5.out; have := SZ4.out; have := SZ3.out; have := SZ2.out; have := SZ1.out; omega)))
  have V_19 := Lib.hid (V_18.out.chg hb19 (.inr (by have := SZ8.out; have := SZ7.out; have := SZ6.out; have := SZ5.out; have := HIV.out; omega)))
  have X0_19 := Lib.hid (X0_18.out.chg hb19 (.inr (by have := SZ8.out; have := SZ7.out; have := SZ6.out; omega)))
  have X1_19 := Lib.hid (X1_18.out.chg hb19 (.inr (by have := SZ8.out; omega)))
  have G_19 := Lib.hid (hrow)
  clear qa00_18 qa01_18 za0_18 qa10_18 qa11_18 za1_18 qbV0_18 qbV1_18 zbV_18 qx00_18 qx01_18 zx0_18 qx10_18 qx11_18 zx1_18 qbG0_18 qbG1_18 zbG_18 R0_18 R1_18 V_18 X0_18 X1_18 G_18
  clear hrow
  have hk2 : decide (((1 + tl ls : Nat) : Int) < 0) = false := decide_eq_false (by omega)
  go_wp2_with fail
  refine (heldMatrix 1 M _ _ _ _ ls G_19.out hln (by omega) (by omega)).mono ?_
  rintro e w20 ⟨rfl, hb20⟩
  have H20 := bel_trans H19 hb20
  have SZ20 := Lib.hid hb20.size
  have qa00_20 := (hb20.cell (p := ⟨w0.heap.size, 0, none⟩) za0_19).trans qa00_19
  have qa01_20 := (hb20.cell (p := ⟨w0.heap.size, 1, none⟩) za0_19).trans qa01_19
  have za0_20 := Nat.lt_of_lt_of_le za0_19 hb20.size
  have qa10_20 := (hb20.cell (p := ⟨w0.heap.size + 1, 0, none⟩) za1_19).trans qa10_19
  have qa11_20 := (hb20.cell (p := ⟨w0.heap.size + 1, 1, none⟩) za1_19).trans qa11_19
  have za1_20 := Nat.lt_of_lt_of_le za1_19 hb20.size
  have qbV0_20 := (hb20.cell (p := ⟨gbV, 0, none⟩) zbV_19).trans qbV0_19
  have qbV1_20 := (hb20.cell (p := ⟨gbV, 1, none⟩) zbV_19).trans qbV1_19
  have zbV_20 := Nat.lt_of_lt_of_le zbV_19 hb20.size
  have qx00_20 := (hb20.cell (p := ⟨w5.heap.size, 0, none⟩) zx0_19).trans qx00_19
  have qx01_20 := (hb20.cell (p := ⟨w5.heap.size, 1, none⟩) zx0_19).trans qx01_19
  have zx0_20 := Nat.lt_of_lt_of_le zx0_19 hb20.size
  have qx10_20 := (hb20.cell (p := ⟨w7.heap.size, 0, none⟩) zx1_19).trans qx10_19
  have qx11_20 := (hb20.cell (p := ⟨w7.heap.size, 1, none⟩) zx1_19).trans qx11_19
  have zx1_20 := Nat.lt_of_lt_of_le zx1_19 hb20.size
  have qbG0_20 := (hb20.cell (p := ⟨w9.heap.size, 0, none⟩) zbG_19).trans qbG0_19
  have qbG1_20 := (hb20.cell (p := ⟨w9.heap.size, 1, none⟩) zbG_19).trans qbG1_19
  have zbG_20 := Nat.lt_of_lt_of_le zbG_19 hb20.size
  have R0_20 := Lib.hid (R0_19.out.keep hb20)
  have R1_20 := Lib.hid (R1_19.out.keep hb20)
  have V_20 := Lib.hid (V_19.out.keep hb20)
  have X0_20 := Lib.hid (X0_19.out.keep hb20)
  have X1_20 := Lib.hid (X1_19.out.keep hb20)
  have G_20 := Lib.hid (G_19.out.keep hb20)
  clear qa00_19 qa01_19 za0_19 qa10_19 qa11_19 za1_19 qbV0_19 qbV1_19 zbV_19 qx00_19 qx01_19 zx0_19 qx10_19 qx11_19 zx1_19 qbG0_19 qbG1_19 zbG_19 R0_19 R1_19 V_19 X0_19 X1_19 G_19
  go_upto_region 31 with fail
  go_cut [15, 16] from 17 (fun p c wx => BoxInM w20 wx M ls p ∧ c = .bool B)
  · have hold : ∀ w' : World, Below w20.heap.size w20 w' → (w'.cell? ⟨w0.heap.size, 0, none⟩ = some (.int .i64 m0) ∧ w'.cell? ⟨w0.heap.size, 1, none⟩ = some (.slice ad0 Z0.length cp0) ∧ w'.cell? ⟨w0.heap.size + 1, 0, none⟩ = some (.int .i64 m1) ∧ w'.cell? ⟨w0.heap.size + 1, 1, none⟩ = some (.slice ad1 Z1.length cp1)) := fun w' h => ⟨(h.cell (p := ⟨w0.heap.size, 0, none⟩) za0_20).trans qa00_20, (h.cell (p := ⟨w0.heap.size, 1, none⟩) za0_20).trans qa01_20, (h.cell (p := ⟨w0.heap.size + 1, 0, none⟩) za1_20).trans qa10_20, (h.cell (p := ⟨w0.heap.size + 1, 1, none⟩) za1_20).trans qa11_20⟩
    have HOLD := Lib.hid hold
    clear hold
    go_region_held3 (fun w' : World => w'.cell? ⟨w0.heap.size, 0, none⟩ = some (.int .i64 m0) ∧ w'.cell? ⟨w0.heap.size, 1, none⟩ = some (.slice ad0 Z0.length cp0) ∧ w'.cell? ⟨w0.heap.size + 1, 0, none⟩ = some (.int .i64 m1) ∧ w'.cell? ⟨w0.heap.size + 1, 1, none⟩ = some (.slice ad1 Z1.length cp1)) (exact HOLD.out _ (by repeat' (first | with_reducible exact Below.refl _ _ | with_reducible apply b_alloc | with_reducible apply b_drew | with_reducible apply b_set | (refine @bel_trans _ ?_ _ ?_ ?_; rotate_right; with_reducible assumption)))) (first | (go_at_call 13; (with_reducible refine (toMatrix m0 Z0 _ _ (R0_20.out.keep (by repeat' (first | with_reducible exact Below.refl _ _ | with_reducible apply b_alloc | with_reducible apply b_drew | with_reducible apply b_set | (refine @bel_trans _ ?_ _ ?_ ?_; rotate_right; with_reducible assumption)))).grid hb0g HR0.out).mono ?_); rintro e wA ⟨sA, rfl, hnewA, hbA⟩; (try (refine (fun (zz : w20.heap.size < wA.heap.size) => ?_) (Nat.lt_of_lt_of_le ?_ hbA.size); rotate_right; (first | with_reducible assumption | (simp <;> omega)))); (try (refine (fun (cc : wA.cell? ⟨w20.heap.size, 0, none⟩ = some (.int .i64 0)) => ?_) ((hbA.cell (p := ⟨w20.heap.size, 0, none⟩) ?_).trans ?_); rotate_left; (first | with_reducible assumption | (simp <;> omega)); (first | with_reducible assumption | (focus (go_simp; done))))); (try (refine (fun (ff : wA.frozen? ⟨w20.heap.size, 0, none⟩ = false) => ?_) ((hbA.frozen (p := ⟨w20.heap.size, 0, none⟩) ?_).trans ?_); rotate_left; (first | with_reducible assumption | (simp <;> omega)); (first | with_reducible assumption | (focus (go_simp; done))))); (try (refine (fun (cc : wA.cell? ⟨w20.heap.size, 1, none⟩ = some (.slice none 0 0)) => ?_) ((hbA.cell (p := ⟨w20.heap.size, 1, none⟩) ?_).trans ?_); rotate_left; (first | with_reducible assumption | (simp <;> omega)); (first | with_reducible assumption | (focus (go_simp; done))))); (try (refine (fun (ff : wA.frozen? ⟨w20.heap.size, 1, none⟩ = false) => ?_) ((hbA.frozen (p := ⟨w20.heap.size, 1, none⟩) ?_).trans ?_); rotate_left; (first | with_reducible assumption | (simp <;> omega)); (first | with_reducible assumption | (focus (go_simp; done)))))) | (go_at_call 13; (with_reducible refine (toMatrix m1 Z1 _ _ (R1_20.out.keep (by repeat' (first | with_reducible exact Below.refl _ _ | with_reducible apply b_alloc | with_reducible apply b_drew | with_reducible apply b_set | (refine @bel_trans _ ?_ _ ?_ ?_; rotate_right; with_reducible assumption)))).grid hb1g HR1.out).mono ?_); rintro e wE ⟨sE, rfl, hnewE, hbE⟩; (try (refine (fun (zz : w20.heap.size < wE.heap.size) => ?_) (Nat.lt_of_lt_of_le ?_ hbE.size); rotate_right; (first | with_reducible assumption | (simp <;> omega)))); (try (refine (fun (cc : wE.cell? ⟨w20.heap.size, 0, none⟩ = some (.int .i64 0)) => ?_) ((hbE.cell (p := ⟨w20.heap.size, 0, none⟩) ?_).trans ?_); rotate_left; (first | with_reducible assumption | (simp <;> omega)); (first | with_reducible assumption | (focus (go_simp; done))))); (try (refine (fun (ff : wE.frozen? ⟨w20.heap.size, 0, none⟩ = false) => ?_) ((hbE.frozen (p := ⟨w20.heap.size, 0, none⟩) ?_).trans ?_); rotate_left; (first | with_reducible assumption | (simp <;> omega)); (first | with_reducible assumption | (focus (go_simp; done))))); (try (refine (fun (cc : wE.cell? ⟨w20.heap.size, 1, none⟩ = some (.slice none 0 0)) => ?_) ((hbE.cell (p := ⟨w20.heap.size, 1, none⟩) ?_).trans ?_); rotate_left; (first | with_reducible assumption | (simp <;> omega)); (first | with_reducible assumption | (focus (go_simp; done))))); (try (refine (fun (ff : wE.frozen? ⟨w20.heap.size, 1, none⟩ = false) => ?_) ((hbE.frozen (p := ⟨w20.heap.size, 1, none⟩) ?_).trans ?_); rotate_left; (first | with_reducible assumption | (simp <;> omega)); (first | with_reducible assumption | (focus (go_simp; done))))); (try (refine (fun (zz : wA.heap.size < wE.heap.size) => ?_) (Nat.lt_of_lt_of_le ?_ hbE.size); rotate_right; (first | with_reducible assumption | (simp <;> omega)))); (try (refine (fun (cc : wE.cell? ⟨wA.heap.size, 0, none⟩ = some (.int .i64 0)) => ?_) ((hbE.cell (p := ⟨wA.heap.size, 0, none⟩) ?_).trans ?_); rotate_left; (first | with_reducible assumption | (simp <;> omega)); (first | with_reducible assumption | (focus (go_simp; done))))); (try (refine (fun (ff : wE.frozen? ⟨wA.heap.size, 0, none⟩ = false) => ?_) ((hbE.frozen (p := ⟨wA.heap.size, 0, none⟩) ?_).trans ?_); rotate_left; (first | with_reducible assumption | (simp <;> omega)); (first | with_reducible assumption | (focus (go_simp; done))))); (try (refine (fun (cc : wE.cell? ⟨wA.heap.size, 1, none⟩ = some (.slice none 0 0)) => ?_) ((hbE.cell (p := ⟨wA.heap.size, 1, none⟩) ?_).trans ?_); rotate_left; (first | with_reducible assumption | (simp <;> omega)); (first | with_reducible assumption | (focus (go_simp; done))))); (try (refine (fun (ff : wE.frozen? ⟨wA.heap.size, 1, none⟩ = false) => ?_) ((hbE.frozen (p := ⟨wA.heap.size, 1, none⟩) ?_).trans ?_); rotate_left; (first | with_reducible assumption | (simp <;> omega)); (first | with_reducible assumption | (focus (go_simp; done)))))) | (go_at_call 29; (with_reducible refine (HIM.out _ _ _ (hnewA.keep (by repeat' (first | with_reducible exact Below.refl _ _ | with_reducible apply b_alloc | with_reducible apply b_drew | with_reducible apply b_set | (refine @bel_trans _ ?_ _ ?_ ?_; rotate_right; with_reducible assumption)))).gridO (hnewE.keep (by repeat' (first | with_reducible exact Below.refl _ _ | with_reducible apply b_alloc | with_reducible apply b_drew | with_reducible apply b_set | (refine @bel_trans _ ?_ _ ?_ ?_; rotate_right; with_reducible assumption)))).gridO).mono ?_); rintro e wC ⟨v, rfl, hown, hbC⟩; obtain ⟨va, vc, rfl⟩ := hown.slice; (try (refine (fun (zz : w20.heap.size < wC.heap.size) => ?_) (Nat.lt_of_lt_of_le ?_ hbC.size); rotate_right; (first | with_reducible assumption | (simp <;> omega)))); (try (refine (fun (cc : wC.cell? ⟨w20.heap.size, 0, none⟩ = some (.int .i64 0)) => ?_) ((hbC.cell (p := ⟨w20.heap.size, 0, none⟩) ?_).trans ?_); rotate_left; (first | with_reducible assumption | (simp <;> omega)); (first | with_reducible assumption | (focus (go_simp; done))))); (try (refine (fun (ff : wC.frozen? ⟨w20.heap.size, 0, none⟩ = false) => ?_) ((hbC.frozen (p := ⟨w20.heap.size, 0, none⟩) ?_).trans ?_); rotate_left; (first | with_reducible assumption | (simp <;> omega)); (first | with_reducible assumption | (focus (go_simp; done))))); (try (refine (fun (cc : wC.cell? ⟨w20.heap.size, 1, none⟩ = some (.slice none 0 0)) => ?_) ((hbC.cell (p := ⟨w20.heap.size, 1, none⟩) ?_).trans ?_); rotate_left; (first | with_reducible assumption | (simp <;> omega)); (first | with_reducible assumption | (focus (go_simp; done))))); (try (refine (fun (ff : wC.frozen? ⟨w20.heap.size, 1, none⟩ = false) => ?_) ((hbC.frozen (p := ⟨w20.heap.size, 1, none⟩) ?_).trans ?_); rotate_left; (first | with_reducible assumption | (simp <;> omega)); (first | with_reducible assumption | (focus (go_simp; done))))); (try (refine (fun (zz : wA.heap.size < wC.heap.size) => ?_) (Nat.lt_of_lt_of_le ?_ hbC.size); rotate_right; (first | with_reducible assumption | (simp <;> omega)))); (try (refine (fun (cc : wC.cell? ⟨wA.heap.size, 0, none⟩ = some (.int .i64 0)) => ?_) ((hbC.cell (p := ⟨wA.heap.size, 0, none⟩) ?_).trans ?_); rotate_left; (first | with_reducible assumption | (simp <;> omega)); (first | with_reducible assumption | (focus (go_simp; done))))); (try (refine (fun (ff : wC.frozen? ⟨wA.heap.size, 0, none⟩ = false) => ?_) ((hbC.frozen (p := ⟨wA.heap.size, 0, none⟩) ?_).trans ?_); rotate_left; (first | with_reducible assumption | (simp <;> omega)); (first | with_reducible assumption | (focus (go_simp; done))))); (try (refine (fun (cc : wC.cell? ⟨wA.heap.size, 1, none⟩ = some (.slice none 0 0)) => ?_) ((hbC.cell (p := ⟨wA.heap.size, 1, none⟩) ?_).trans ?_); rotate_left; (first | with_reducible assumption | (simp <;> omega)); (first | with_reducible assumption | (focus (go_simp; done))))); (try (refine (fun (ff : wC.frozen? ⟨wA.heap.size, 1, none⟩ = false) => ?_) ((hbC.frozen (p := ⟨wA.heap.size, 1, none⟩) ?_).trans ?_); rotate_left; (first | with_reducible assumption | (simp <;> omega)); (first | with_reducible assumption | (focus (go_simp; done))))); (try (refine (fun (zz : wE.heap.size < wC.heap.size) => ?_) (Nat.lt_of_lt_of_le ?_ hbC.size); rotate_right; (first | with_reducible assumption | (simp <;> omega)))); (try (refine (fun (cc : wC.cell? ⟨wE.heap.size, 0, none⟩ = some (.int .i64 0)) => ?_) ((hbC.cell (p := ⟨wE.heap.size, 0, none⟩) ?_).trans ?_); rotate_left; (first | with_reducible assumption | (simp <;> omega)); (first | with_reducible assumption | (focus (go_simp; done))))); (try (refine (fun (ff : wC.frozen? ⟨wE.heap.size, 0, none⟩ = false) => ?_) ((hbC.frozen (p := ⟨wE.heap.size, 0, none⟩) ?_).trans ?_); rotate_left; (first | with_reducible assumption | (simp <;> omega)); (first | with_reducible assumption | (focus (go_simp; done))))); (try (refine (fun (cc : wC.cell? ⟨wE.heap.size, 1, none⟩ = some (.slice none 0 0)) => ?_) ((hbC.cell (p := ⟨wE.heap.size, 1, none⟩) ?_).trans ?_); rotate_left; (first | with_reducible assumption | (simp <;> omega)); (first | with_reducible assumption | (focus (go_simp; done))))); (try (refine (fun (ff : wC.frozen? ⟨wE.heap.size, 1, none⟩ = false) => ?_) ((hbC.frozen (p := ⟨wE.heap.size, 1, none⟩) ?_).trans ?_); rotate_left; (first | with_reducible assumption | (simp <;> omega)); (first | with_reducible assumption | (focus (go_simp; done)))))))
    all_goals
      go_wp2_with fail
      go_meet
      first | (refine ⟨?_, rfl⟩; apply box_endM; (case ho => with_reducible assumption); (case hc => with_reducible assumption); (case hb => repeat' (first | with_reducible exact Below.refl _ _ | with_reducible apply b_alloc | with_reducible apply b_drew | with_reducible apply b_set | (refine @bel_trans _ ?_ _ ?_ ?_; rotate_right; with_reducible assumption))); done) | (refine ⟨?_, rfl⟩; apply box_midM (T := 27) (M0 := 0) (v0 := .slice none 0 0); (case ho => with_reducible assumption); (case hc => with_reducible assumption); (case hb => repeat' (first | with_reducible exact Below.refl _ _ | with_reducible apply b_alloc | with_reducible apply b_drew | with_reducible apply b_set | (refine @bel_trans _ ?_ _ ?_ ?_; rotate_right; with_reducible assumption))); (case hx => repeat' (first | with_reducible exact Below.refl _ _ | with_reducible apply b_alloc | with_reducible apply b_drew | with_reducible apply b_set | (refine @bel_trans _ ?_ _ ?_ ?_; rotate_right; with_reducible assumption))); done)
  obtain ⟨w21, hw21⟩ : ∃ w21, w21 = wc := ⟨_, rfl⟩
  subst hw21
  obtain ⟨⟨gbK, vaK, vcK, loK, hiK, rfl, ⟨hq0, hq1⟩, hrow, ⟨hge, hlt⟩, ⟨hlo, hhi⟩, hdj, hb21⟩, rfl⟩ := hcut
  have H21 := bel_trans H20 hb21
  have SZ21 := Lib.hid hb21.size
  have qa00_21 := (hb21.cell (p := ⟨w0.heap.size, 0, none⟩) za0_20).trans qa00_20
  have qa01_21 := (hb21.cell (p := ⟨w0.heap.size, 1, none⟩) za0_20).trans qa01_20
  have za0_21 := Nat.lt_of_lt_of_le za0_20 hb21.size
  have qa10_21 := (hb21.cell (p := ⟨w0.heap.size + 1, 0, none⟩) za1_20).trans qa10_20
  have qa11_21 := (hb21.cell (p := ⟨w0.heap.size + 1, 1, none⟩) za1_20).trans qa11_20
  have za1_21 := Nat.lt_of_lt_of_le za1_20 hb21.size
  have qbV0_21 := (hb21.cell (p := ⟨gbV, 0, none⟩) zbV_20).trans qbV0_20
  have qbV1_21 := (hb21.cell (p := ⟨gbV, 1, none⟩) zbV_20).trans qbV1_20
  have zbV_21 := Nat.lt_of_lt_of_le zbV_20 hb21.size
  have qx00_21 := (hb21.cell (p := ⟨w5.heap.size, 0, none⟩) zx0_20).trans qx00_20
  have qx01_21 := (hb21.cell (p := ⟨w5.heap.size, 1, none⟩) zx0_20).trans qx01_20
  have zx0_21 := Nat.lt_of_lt_of_le zx0_20 hb21.size
  have qx10_21 := (hb21.cell (p := ⟨w7.heap.size, 0, none⟩) zx1_20).trans qx10_20
  have qx11_21 := (hb21.cell (p := ⟨w7.heap.size, 1, none⟩) zx1_20).trans qx11_20
  have zx1_21 := Nat.lt_of_lt_of_le zx1_20 hb21.size
  have qbG0_21 := (hb21.cell (p := ⟨w9.heap.size, 0, none⟩) zbG_20).trans qbG0_20
  have qbG1_21 := (hb21.cell (p := ⟨w9.heap.size, 1, none⟩) zbG_20).trans qbG1_20
  have zbG_21 := Nat.lt_of_lt_of_le zbG_20 hb21.size
  have R0_21 := Lib.hid (R0_20.out.keep hb21)
  have R1_21 := Lib.hid (R1_20.out.keep hb21)
  have V_21 := Lib.hid (V_20.out.keep hb21)
  have X0_21 := Lib.hid (X0_20.out.keep hb21)
  have X1_21 := Lib.hid (X1_20.out.keep hb21)
  have G_21 := Lib.hid (G_20.out.keep hb21)
  have GEbK := Lib.hid hge
  have ZBbK := Lib.hid hlt
  have LOK := Lib.hid hlo
  have HIK := Lib.hid hhi
  have DJbK := Lib.hid hdj
  have qbK0_21 := hq0
  have qbK1_21 := hq1
  have zbK_21 := hlt
  have K_21 := Lib.hid hrow
  clear hq0 hq1 hrow hge hlt hlo hhi hdj
  clear qa00_20 qa01_20 za0_20 qa10_20 qa11_20 za1_20 qbV0_20 qbV1_20 zbV_20 qx00_20 qx01_20 zx0_20 qx10_20 qx11_20 zx1_20 qbG0_20 qbG1_20 zbG_20 R0_20 R1_20 V_20 X0_20 X1_20 G_20
  go_wp2_with fail
  refine (eqMatrix M ls _ _ _ K_21.out.grid V_21.out.grid hln HLR.out).mono ?_
  rintro e w22 ⟨rfl, hb22⟩
  have H22 := bel_trans H21 hb22
  have SZ22 := Lib.hid hb22.size
  have qa00_22 := (hb22.cell (p := ⟨w0.heap.size, 0, none⟩) za0_21).trans qa00_21
  have qa01_22 := (hb22.cell (p := ⟨w0.heap.size, 1, none⟩) za0_21).trans qa01_21
  have za0_22 := Nat.lt_of_lt_of_le za0_21 hb22.size
  have qa10_22 := (hb22.cell (p := ⟨w0.heap.size + 1, 0, none⟩) za1_21).trans qa10_21
  have qa11_22 := (hb22.cell (p := ⟨w0.heap.size + 1, 1, none⟩) za1_21).trans qa11_21
  have za1_22 := Nat.lt_of_lt_of_le za1_21 hb22.size
  have qbV0_22 := (hb22.cell (p := ⟨gbV, 0, none⟩) zbV_21).trans qbV0_21
  have qbV1_22 := (hb22.cell (p := ⟨gbV, 1, none⟩) zbV_21).trans qbV1_21
  have zbV_22 := Nat.lt_of_lt_of_le zbV_21 hb22.size
  have qx00_22 := (hb22.cell (p := ⟨w5.heap.size, 0, none⟩) zx0_21).trans qx00_21
  have qx01_22 := (hb22.cell (p := ⟨w5.heap.size, 1, none⟩) zx0_21).trans qx01_21
  have zx0_22 := Nat.lt_of_lt_of_le zx0_21 hb22.size
  have qx10_22 := (hb22.cell (p := ⟨w7.heap.size, 0, none⟩) zx1_21).trans qx10_21
  have qx11_22 := (hb22.cell (p := ⟨w7.heap.size, 1, none⟩) zx1_21).trans qx11_21
  have zx1_22 := Nat.lt_of_lt_of_le zx1_21 hb22.size
  have qbG0_22 := (hb22.cell (p := ⟨w9.heap.size, 0, none⟩) zbG_21).trans qbG0_21
  have qbG1_22 := (hb22.cell (p := ⟨w9.heap.size, 1, none⟩) zbG_21).trans qbG1_21
  have zbG_22 := Nat.lt_of_lt_of_le zbG_21 hb22.size
  have qbK0_22 := (hb22.cell (p := ⟨gbK, 0, none⟩) zbK_21).trans qbK0_21
  have qbK1_22 := (hb22.cell (p := ⟨gbK, 1, none⟩) zbK_21).trans qbK1_21
  have zbK_22 := Nat.lt_of_lt_of_le zbK_21 hb22.size
  have R0_22 := Lib.hid (R0_21.out.keep hb22)
  have R1_22 := Lib.hid (R1_21.out.keep hb22)
  have V_22 := Lib.hid (V_21.out.keep hb22)
  have X0_22 := Lib.hid (X0_21.out.keep hb22)
  have X1_22 := Lib.hid (X1_21.out.keep hb22)
  have G_22 := Lib.hid (G_21.out.keep hb22)
  have K_22 := Lib.hid (K_21.out.keep hb22)
  clear qa00_21 qa01_21 za0_21 qa10_21 qa11_21 za1_21 qbV0_21 qbV1_21 zbV_21 qx00_21 qx01_21 zx0_21 qx10_21 qx11_21 zx1_21 qbG0_21 qbG1_21 zbG_21 R0_21 R1_21 V_21 X0_21 X1_21 G_21 qbK0_21 qbK1_21 zbK_21 K_21
  go_wp2_with fail
  refine (heldMatrix 1 M _ _ _ _ ls G_22.out hln (by omega) (by omega)).mono ?_
  rintro e w23 ⟨rfl, hb23⟩
  have H23 := bel_trans H22 hb23
  have SZ23 := Lib.hid hb23.size
  have qa00_23 := (hb23.cell (p := ⟨w0.heap.size, 0, none⟩) za0_22).trans qa00_22
  have qa01_23 := (hb23.cell (p := ⟨w0.heap.size, 1, none⟩) za0_22).trans qa01_22
  have za0_23 := Nat.lt_of_lt_of_le za0_22 hb23.size
  have qa10_23 := (hb23.cell (p := ⟨w0.heap.size + 1, 0, none⟩) za1_22).trans qa10_22
  have qa11_23 := (hb23.cell (p := ⟨w0.heap.size + 1, 1, none⟩) za1_22).trans qa11_22
  have za1_23 := Nat.lt_of_lt_of_le za1_22 hb23.size
  have qbV0_23 := (hb23.cell (p := ⟨gbV, 0, none⟩) zbV_22).trans qbV0_22
  have qbV1_23 := (hb23.cell (p := ⟨gbV, 1, none⟩) zbV_22).trans qbV1_22
  have zbV_23 := Nat.lt_of_lt_of_le zbV_22 hb23.size
  have qx00_23 := (hb23.cell (p := ⟨w5.heap.size, 0, none⟩) zx0_22).trans qx00_22
  have qx01_23 := (hb23.cell (p := ⟨w5.heap.size, 1, none⟩) zx0_22).trans qx01_22
  have zx0_23 := Nat.lt_of_lt_of_le zx0_22 hb23.size
  have qx10_23 := (hb23.cell (p := ⟨w7.heap.size, 0, none⟩) zx1_22).trans qx10_22
  have qx11_23 := (hb23.cell (p := ⟨w7.heap.size, 1, none⟩) zx1_22).trans qx11_22
  have zx1_23 := Nat.lt_of_lt_of_le zx1_22 hb23.size
  have qbG0_23 := (hb23.cell (p := ⟨w9.heap.size, 0, none⟩) zbG_22).trans qbG0_22
  have qbG1_23 := (hb23.cell (p := ⟨w9.heap.size, 1, none⟩) zbG_22).trans qbG1_22
  have zbG_23 := Nat.lt_of_lt_of_le zbG_22 hb23.size
  have qbK0_23 := (hb23.cell (p := ⟨gbK, 0, none⟩) zbK_22).trans qbK0_22
  have qbK1_23 := (hb23.cell (p := ⟨gbK, 1, none⟩) zbK_22).trans qbK1_22
  have zbK_23 := Nat.lt_of_lt_of_le zbK_22 hb23.size
  have R0_23 := Lib.hid (R0_22.out.keep hb23)
  have R1_23 := Lib.hid (R1_22.out.keep hb23)
  have V_23 := Lib.hid (V_22.out.keep hb23)
  have X0_23 := Lib.hid (X0_22.out.keep hb23)
  have X1_23 := Lib.hid (X1_22.out.keep hb23)
  have G_23 := Lib.hid (G_22.out.keep hb23)
  have K_23 := Lib.hid (K_22.out.keep hb23)
  clear qa00_22 qa01_22 za0_22 qa10_22 qa11_22 za1_22 qbV0_22 qbV1_22 zbV_22 qx00_22 qx01_22 zx0_22 qx10_22 qx11_22 zx1_22 qbG0_22 qbG1_22 zbG_22 qbK0_22 qbK1_22 zbK_22 R0_22 R1_22 V_22 X0_22 X1_22 G_22 K_22
  go_wp2
  go_ret
  exact ⟨rfl, H23⟩

set_option maxRecDepth 100000 in
theorem lifted (os : Os) (started : os.Started) (H : Type) (enc : TypeId × Value → H) :
    ReturnsInHanded {} Try.checked os 7 .any (Rows.fnExactTimesMatrixSpec.pre6 enc Try.prog Try.f7 Rows.fnExactTimesMatrixRow.domain false) (Rows.fnExactTimesMatrixSpec.post enc Try.prog Try.f7 false true false false) := by
  refine returnsInHanded_of_change (C := Try.checked) own started (by kernel_rfl) Try.func7
    (ChangeSpec.witness6 (enc := enc) (C := Try.checked) false ⟨#[], #[.agg #[.int .i64 0, .slice none 0 0], .agg #[.int .i64 0, .slice none 0 0]], []⟩ 8 (by kernel_rfl) (by kernel_rfl) (by kernel_rfl) (by kernel_rfl)) ?_
  intro W base args ds gs before hval0 hW hcnd _
  have hval : ∀ (j : Nat) t v, Try.f7.params[j]? = some t → args[j]? = some v → Value.okWide Try.prog W .any base t v := hval0
  have hW' := hW
  obtain ⟨p, q, hA0, hV, rfl, hfz, hnd⟩ := hW
  have hA : DataW.TrodAll enc Try.prog W 0 (fun _ => true) true Try.f7.params.toList args.toList ds p := hA0
  rw [Try.params7] at hA hval
  obtain ⟨v0, vs0, d0, ds0, p0, q0, hargs, rfl, rfl, h0, rr0⟩ := trodAll_cons hA
  obtain ⟨v1, vs1, d1, ds1, p1, q1, rfl, rfl, rfl, h1, rr1⟩ := trodAll_cons rr0
  obtain ⟨rfl, rfl, rfl⟩ := trodAll_nil rr1
  obtain rfl : args = #[v0, v1] := by cases args; simp_all
  obtain ⟨rfl, rfl⟩ := trodVars_none hV
  have k0 := h0
  have lt0 : ∀ x ∈ p0, x.block < W.heap.size := by obtain ⟨m, hm⟩ := k0; exact DataW.trod_lt m _ _ _ hm
  have k1 := h1
  have lt1 : ∀ x ∈ p1, x.block < W.heap.size := by obtain ⟨m, hm⟩ := k1; exact DataW.trod_lt m _ _ _ hm
  obtain ⟨m0, s0, Z0, rfl, r0, l0⟩ := openMatrix (hval 0 24 v0 rfl rfl) h0
  obtain ⟨m1, s1, Z1, rfl, r1, l1⟩ := openMatrix (hval 1 24 v1 rfl rfl) h1
  clear hA0 hval0
  refine (walk W m0 s0 Z0 r0 l0 m1 s1 Z1 r1 l1).mono fun e W' ⟨he, bel⟩ => ?_
  subst he
  exact ⟨_, rfl, _, _, _, [], _, [], hW', trodAll_mk1 (shut_bool Try.underlying4 _), (trodAll_cons_mk (Below.trod laidOut (by kernel_rfl) (of_decide_eq_true (by kernel_rfl)) k0 bel lt0) (trodAll_cons_mk (Below.trod laidOut (by kernel_rfl) (of_decide_eq_true (by kernel_rfl)) k1 bel lt1) trodAll_mk0)), rfl, bel.frame _, fun h => by cases h⟩

theorem over : Rows.fnExactTimesMatrixRow.holds Try.pinned (OpenSpec.ofChange Rows.fnExactTimesMatrixSpec) :=
  OpenClaim.holds_of_wide 7 Try.f7 rfl rfl rfl rfl rfl rfl rfl ⟨rfl, rfl, rfl, rfl, rfl⟩ rfl rfl rfl rfl rfl (by kernel_rfl) Try.func7 (by kernel_rfl)
    (of_decide_eq_true (by kernel_rfl)) (by unfold Func.isWrapper; first | (rw [if_pos (by decide +kernel)]; kernel_rfl) | (rw [if_neg (by decide +kernel)]; exact ⟨rfl, rfl⟩))
    (fun os started H enc _ => lifted os started H enc)

theorem proved : Rows.FnExactTimesMatrixSaid := over
end Go.Proofs.Ytdpbmenjangpaaa.fnExactTimesMatrix
