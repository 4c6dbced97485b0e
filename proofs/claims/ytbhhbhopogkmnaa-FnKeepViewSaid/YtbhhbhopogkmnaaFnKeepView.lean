/-
  Proved: a kept view is valid, and it is the right view of its graph (the law FnKeepView returns true for every input and leaves it as it was), with no further condition.
-/
import Derived.Test.YtbhhbhopogkmnaaRows
import Derived.Test.YtbhhbhopogkmnaaDrawC7
import Derived.Test.YtbhhbhopogkmnaaKeepL
import Derived.Test.YtbhhbhopogkmnaaKeptV
import Derived.Test.YtbhhbhopogkmnaaViewT
import Derived.Test.YtbhhbhopogkmnaaStartL
import Derived.WalkKit
import Derived.ProofKit
import Derived.OpenShut
import Derived.ShutString
import Derived.ChangeOld
import Derived.Below
namespace Go.Proofs.Ytbhhbhopogkmnaa.fnKeepView
open Go.Proofs.Ytbhhbhopogkmnaa Go.BigFrame
open Go.ChangeShapes Go.WideShapes Go.ChangeAt Go.RowKit
open Go.ChangeMaps (open_string shut_string)
set_option linter.unusedVariables false

theorem own : ownKnob Try.prog.godebug = none := by kernel_rfl
theorem laidOut : laidOutB Try.prog = true := by kernel_rfl

def IsRow (k : IntKind) (w : World) (a : Option Addr) (len cap : Nat) (zs : List Int) : Prop :=
  (a = none ∧ len = 0 ∧ cap = 0 ∧ zs = []) ∨
  ∃ x, a = some x ∧ len ≤ cap ∧ cap ≤ maxLen ∧ zs.length = cap ∧ (∀ i, i < zs.length → w.cell? (x.add i) = some (.int k (zs.getD i 0))) ∧ ∀ n ∈ zs, (Lit.int k n).wf = true

theorem bytes_of {w : World} {a : Option Addr} {len cap : Nat} {zs : List Int} (h : IsRow .u8 w a len cap zs) : Bytes w a len ∧ len ≤ cap ∧ len ≤ 9223372036854775807 := by
  rcases h with ⟨rfl, rfl, rfl, rfl⟩ | ⟨x, rfl, hl, hm, hz, hc, hw⟩
  · exact ⟨.inl rfl, Nat.le_refl _, by omega⟩
  · unfold maxLen at hm
    refine ⟨?_, hl, by omega⟩
    by_cases h0 : len = 0
    · exact .inl h0
    · obtain ⟨b, off, rfl, hc'⟩ := ints_at hc (by omega)
      exact .inr ⟨b, off, rfl, World.block_lt_of_cell? _ _ (hc' 0 (by omega)), fun i hi => ⟨zs[i]?.getD 0, (range_u8 hw i).1, (range_u8 hw i).2, hc' i (by omega)⟩⟩

theorem walk (a0 : Option Addr) (len0 cap0 : Nat) (z0 : List Int) (w : World) (w0 : IsRow .u8 w a0 len0 cap0 z0) :
    Calls Try.prog 10 #[.slice a0 len0 cap0] w fun e w' => e = .returned (.bool true) ∧ Below w.heap.size w w' := by
  obtain ⟨hby, hcp, hn⟩ := bytes_of w0
  have HB0 := Lib.hid hby
  clear hby w0
  by_cases h0 : 1048576 < len0
  · go_enter Try.func10, Try.ntmps10
    go_wp2
    go_ret
    exact ⟨rfl, Below.refl _ _⟩
  have h0' : len0 ≤ 1048576 := by omega
  clear h0
  obtain ⟨w0, hw0⟩ : ∃ w0, w0 = w := ⟨_, rfl⟩
  subst hw0
  have H0 := Below.refl w0.heap.size w0
  go_enter Try.func10, Try.ntmps10
  go_wp2_with fail
  refine (dDrawKeepView a0 len0 cap0 _ HB0.out hcp (by omega)).mono ?_
  rintro e w1 ⟨n, es, v, m, src, rfl, hle, hrow, hok, hb1⟩
  have H1 := bel_trans H0 hb1
  have SZ1 := Lib.hid hb1.size
  obtain ⟨va, vc, rfl, hz9⟩ := id hrow
  have HOKG := Lib.hid hok
  clear hz9 hok
  have G_1 := Lib.hid (hrow)
  clear hrow
  go_wp2_with fail
  have hb2 : Below w1.heap.size w1 (w1.alloc (.cells #[.int .i64 n, .slice va es.length vc] 34)) := (Below.refl _ _).alloc (by simp <;> omega) _
  have H2 := bel_trans H1 hb2
  have SZ2 := Lib.hid hb2.size
  have G_2 := Lib.hid (G_1.out.keep hb2)
  have qg0_2 : (w1.alloc (.cells #[.int .i64 n, .slice va es.length vc] 34)).cell? ⟨w1.heap.size, 0, none⟩ = some (.int .i64 n) := by go_simp
  have qg1_2 : (w1.alloc (.cells #[.int .i64 n, .slice va es.length vc] 34)).cell? ⟨w1.heap.size, 1, none⟩ = some (.slice va es.length vc) := by go_simp
  have zg_2 : w1.heap.size < (w1.alloc (.cells #[.int .i64 n, .slice va es.length vc] 34)).heap.size := by simp <;> omega
  generalize (w1.alloc (.cells #[.int .i64 n, .slice va es.length vc] 34)) = w2 at hb2 H2 SZ2 G_2 qg0_2 qg1_2 zg_2 ⊢
  have ZBg := Lib.hid zg_2
  clear G_1
  have hle2 : es.length ≤ 1048576 := by omega
  have hle3 : es.length ≤ 281474976710656 := by omega
  have hst := fun w (h : RowE w (.slice va es.length vc) es) => keepViewG n m src es va vc w h HOKG.out hle2
  have hss := fun w (h : RowE w (.slice va es.length vc) es) => sKeepViewA n m src es va vc w h HOKG.out hle2
  cases hk : onOk n es m [src]
  · rw [hk] at hst hss
    have k1 : ∀ x, kvI false x = 0 := fun _ => rfl
    have k2 : kvE false es = [] := rfl
    have k3 : ∀ R, bfV false R = ⟨[], [], [], 0, []⟩ := fun _ => rfl
    simp only [k1, k2, k3] at hst hss
    have HST := Lib.hid hst
    have HSS := Lib.hid hss
    clear hst hss hk k1 k2 k3
    refine (HST.out _ G_2.out.edges).mono ?_
    rintro e w3 ⟨pk, qk, rk, rfl, hrkk, hb3⟩
    have H3 := bel_trans H2 hb3
    have SZ3 := Lib.hid hb3.size
    have qg0_3 := (hb3.cell (p := ⟨w1.heap.size, 0, none⟩) zg_2).trans qg0_2
    have qg1_3 := (hb3.cell (p := ⟨w1.heap.size, 1, none⟩) zg_2).trans qg1_2
    have zg_3 := Nat.lt_of_lt_of_le zg_2 hb3.size
    have G_3 := Lib.hid (G_2.out.keep hb3)
    obtain ⟨pak, pck, qak, qck, rak, rck, rfl, rfl, rfl⟩ := id hrkk.slices
    have K_3 := Lib.hid (hrkk)
    clear qg0_2 zg_2 G_2 qg1_2
    clear hrkk
    go_wp2_with fail
    have hb4 : Below w3.heap.size w3 (w3.alloc (.cells #[.int .i64 0, .slice pak ([] : List Ed).length pck, .int .i64 0, .int .i64 0, .slice qak ([] : List Int).length qck, .slice rak ([] : List Int).length rck] 55)) := (Below.refl _ _).alloc (by simp <;> omega) _
    have H4 := bel_trans H3 hb4
    have SZ4 := Lib.hid hb4.size
    have qg0_4 := (hb4.cell (p := ⟨w1.heap.size, 0, none⟩) zg_3).trans qg0_3
    have qg1_4 := (hb4.cell (p := ⟨w1.heap.size, 1, none⟩) zg_3).trans qg1_3
    have zg_4 := Nat.lt_of_lt_of_le zg_3 hb4.size
    have G_4 := Lib.hid (G_3.out.keep hb4)
    have K_4 := Lib.hid (K_3.out.keep hb4)
    have qk0_4 : (w3.alloc (.cells #[.int .i64 0, .slice pak ([] : List Ed).length pck, .int .i64 0, .int .i64 0, .slice qak ([] : List Int).length qck, .slice rak ([] : List Int).length rck] 55)).cell? ⟨w3.heap.size, 0, none⟩ = some (.int .i64 0) := by go_simp
    have qk1_4 : (w3.alloc (.cells #[.int .i64 0, .slice pak ([] : List Ed).length pck, .int .i64 0, .int .i64 0, .slice qak ([] : List Int).length qck, .slice rak ([] : List Int).length rck] 55)).cell? ⟨w3.heap.size, 1, none⟩ = some (.slice pak ([] : List Ed).length pck) := by go_simp
    have qk2_4 : (w3.alloc (.cells #[.int .i64 0, .slice pak ([] : List Ed).length pck, .int .i64 0, .int .i64 0, .slice qak ([] : List Int).length qck, .slice rak ([] : List Int).length rck] 55)).cell? ⟨w3.heap.size, 2, none⟩ = some (.int .i64 0) := by go_simp
    have qk3_4 : (w3.alloc (.cells #[.int .i64 0, .slice pak ([] : List Ed).length pck, .int .i64 0, .int .i64 0, .slice qak ([] : List Int).length qck, .slice rak ([] : List Int).length rck] 55)).cell? ⟨w3.heap.size, 3, none⟩ = some (.int .i64 0) := by go_simp
    have qk4_4 : (w3.alloc (.cells #[.int .i64 0, .slice pak ([] : List Ed).length pck, .int .i64 0, .int .i64 0, .slice qak ([] : List Int).length qck, .slice rak ([] : List Int).length rck] 55)).cell? ⟨w3.heap.size, 4, none⟩ = some (.slice qak ([] : List Int).length qck) := by go_simp
    have qk5_4 : (w3.alloc (.cells #[.int .i64 0, .slice pak ([] : List Ed).length pck, .int .i64 0, .int .i64 0, .slice qak ([] : List Int).length qck, .slice rak ([] : List Int).length rck] 55)).cell? ⟨w3.heap.size, 5, none⟩ = some (.slice rak ([] : List Int).length rck) := by go_simp
    have zk_4 : w3.heap.size < (w3.alloc (.cells #[.int .i64 0, .slice pak ([] : List Ed).length pck, .int .i64 0, .int .i64 0, .slice qak ([] : List Int).length qck, .slice rak ([] : List Int).length rck] 55)).heap.size := by simp <;> omega
    generalize (w3.alloc (.cells #[.int .i64 0, .slice pak ([] : List Ed).length pck, .int .i64 0, .int .i64 0, .slice qak ([] : List Int).length qck, .slice rak ([] : List Int).length rck] 55)) = w4 at hb4 H4 SZ4 G_4 K_4 qg0_4 qg1_4 qk0_4 qk1_4 qk2_4 qk3_4 qk4_4 qk5_4 zg_4 zk_4 ⊢
    have ZBk := Lib.hid zk_4
    clear qg0_3 qg1_3 zg_3 G_3 K_3
    refine (HSS.out _ G_4.out.edges).mono ?_
    rintro e w5 ⟨py, qy, ry, rfl, hrky, hb5⟩
    have H5 := bel_trans H4 hb5
    have SZ5 := Lib.hid hb5.size
    have qg0_5 := (hb5.cell (p := ⟨w1.heap.size, 0, none⟩) zg_4).trans qg0_4
    have qg1_5 := (hb5.cell (p := ⟨w1.heap.size, 1, none⟩) zg_4).trans qg1_4
    have zg_5 := Nat.lt_of_lt_of_le zg_4 hb5.size
    have qk0_5 := (hb5.cell (p := ⟨w3.heap.size, 0, none⟩) zk_4).trans qk0_4
    have qk1_5 := (hb5.cell (p := ⟨w3.heap.size, 1, none⟩) zk_4).trans qk1_4
    have qk2_5 := (hb5.cell (p := ⟨w3.heap.size, 2, none⟩) zk_4).trans qk2_4
    have qk3_5 := (hb5.cell (p := ⟨w3.heap.size, 3, none⟩) zk_4).trans qk3_4
    have qk4_5 := (hb5.cell (p := ⟨w3.heap.size, 4, none⟩) zk_4).trans qk4_4
    have qk5_5 := (hb5.cell (p := ⟨w3.heap.size, 5, none⟩) zk_4).trans qk5_4
    have zk_5 := Nat.lt_of_lt_of_le zk_4 hb5.size
    have G_5 := Lib.hid (G_4.out.keep hb5)
    have K_5 := Lib.hid (K_4.out.keep hb5)
    obtain ⟨pay, pcy, qay, qcy, ray, rcy, rfl, rfl, rfl⟩ := id hrky.slices
    have Y_5 := Lib.hid (hrky)
    clear qg0_4 qg1_4 zg_4 G_4 K_4 qk0_4 qk1_4 qk2_4 qk3_4 qk4_4 qk5_4 zk_4
    clear hrky
    go_wp2_with fail
    have hb6 : Below w5.heap.size w5 (w5.alloc (.cells #[.int .i64 0, .slice pay ([] : List Ed).length pcy, .int .i64 0, .int .i64 0, .slice qay ([] : List Int).length qcy, .slice ray ([] : List Int).length rcy] 55)) := (Below.refl _ _).alloc (by simp <;> omega) _
    have H6 := bel_trans H5 hb6
    have SZ6 := Lib.hid hb6.size
    have qg0_6 := (hb6.cell (p := ⟨w1.heap.size, 0, none⟩) zg_5).trans qg0_5
    have qg1_6 := (hb6.cell (p := ⟨w1.heap.size, 1, none⟩) zg_5).trans qg1_5
    have zg_6 := Nat.lt_of_lt_of_le zg_5 hb6.size
    have qk0_6 := (hb6.cell (p := ⟨w3.heap.size, 0, none⟩) zk_5).trans qk0_5
    have qk1_6 := (hb6.cell (p := ⟨w3.heap.size, 1, none⟩) zk_5).trans qk1_5
    have qk2_6 := (hb6.cell (p := ⟨w3.heap.size, 2, none⟩) zk_5).trans qk2_5
    have qk3_6 := (hb6.cell (p := ⟨w3.heap.size, 3, none⟩) zk_5).trans qk3_5
    have qk4_6 := (hb6.cell (p := ⟨w3.heap.size, 4, none⟩) zk_5).trans qk4_5
    have qk5_6 := (hb6.cell (p := ⟨w3.heap.size, 5, none⟩) zk_5).trans qk5_5
    have zk_6 := Nat.lt_of_lt_of_le zk_5 hb6.size
    have G_6 := Lib.hid (G_5.out.keep hb6)
    have K_6 := Lib.hid (K_5.out.keep hb6)
    have Y_6 := Lib.hid (Y_5.out.keep hb6)
    have qy0_6 : (w5.alloc (.cells #[.int .i64 0, .slice pay ([] : List Ed).length pcy, .int .i64 0, .int .i64 0, .slice qay ([] : List Int).length qcy, .slice ray ([] : List Int).length rcy] 55)).cell? ⟨w5.heap.size, 0, none⟩ = some (.int .i64 0) := by go_simp
    have qy1_6 : (w5.alloc (.cells #[.int .i64 0, .slice pay ([] : List Ed).length pcy, .int .i64 0, .int .i64 0, .slice qay ([] : List Int).length qcy, .slice ray ([] : List Int).length rcy] 55)).cell? ⟨w5.heap.size, 1, none⟩ = some (.slice pay ([] : List Ed).length pcy) := by go_simp
    have qy2_6 : (w5.alloc (.cells #[.int .i64 0, .slice pay ([] : List Ed).length pcy, .int .i64 0, .int .i64 0, .slice qay ([] : List Int).length qcy, .slice ray ([] : List Int).length rcy] 55)).cell? ⟨w5.heap.size, 2, none⟩ = some (.int .i64 0) := by go_simp
    have qy3_6 : (w5.alloc (.cells #[.int .i64 0, .slice pay ([] : List Ed).length pcy, .int .i64 0, .int .i64 0, .slice qay ([] : List Int).length qcy, .slice ray ([] : List Int).length rcy] 55)).cell? ⟨w5.heap.size, 3, none⟩ = some (.int .i64 0) := by go_simp
    have qy4_6 : (w5.alloc (.cells #[.int .i64 0, .slice pay ([] : List Ed).length pcy, .int .i64 0, .int .i64 0, .slice qay ([] : List Int).length qcy, .slice ray ([] : List Int).length rcy] 55)).cell? ⟨w5.heap.size, 4, none⟩ = some (.slice qay ([] : List Int).length qcy) := by go_simp
    have qy5_6 : (w5.alloc (.cells #[.int .i64 0, .slice pay ([] : List Ed).length pcy, .int .i64 0, .int .i64 0, .slice qay ([] : List Int).length qcy, .slice ray ([] : List Int).length rcy] 55)).cell? ⟨w5.heap.size, 5, none⟩ = some (.slice ray ([] : List Int).length rcy) := by go_simp
    have zy_6 : w5.heap.size < (w5.alloc (.cells #[.int .i64 0, .slice pay ([] : List Ed).length pcy, .int .i64 0, .int .i64 0, .slice qay ([] : List Int).length qcy, .slice ray ([] : List Int).length rcy] 55)).heap.size := by simp <;> omega
    generalize (w5.alloc (.cells #[.int .i64 0, .slice pay ([] : List Ed).length pcy, .int .i64 0, .int .i64 0, .slice qay ([] : List Int).length qcy, .slice ray ([] : List Int).length rcy] 55)) = w6 at hb6 H6 SZ6 G_6 K_6 Y_6 qg0_6 qg1_6 qk0_6 qk1_6 qk2_6 qk3_6 qk4_6 qk5_6 qy0_6 qy1_6 qy2_6 qy3_6 qy4_6 qy5_6 zg_6 zk_6 zy_6 ⊢
    have ZBy := Lib.hid zy_6
    clear qg0_5 qg1_5 zg_5 qk0_5 qk1_5 qk2_5 qk3_5 qk4_5 qk5_5 zk_5 G_5 K_5 Y_5
    refine (gvKept 0 0 0 [] [] [] _ _ _ _ _ _ _ K_6.out.rows.1 K_6.out.rows.2.1 K_6.out.rows.2.2 Y_6.out.rows.1 Y_6.out.rows.2.1 Y_6.out.rows.2.2 (by simp) (by simp) (by simp)).mono ?_
    rintro e w7 ⟨rfl, hb7⟩
    have H7 := bel_trans H6 hb7
    have SZ7 := Lib.hid hb7.size
    have qg0_7 := (hb7.cell (p := ⟨w1.heap.size, 0, none⟩) zg_6).trans qg0_6
    have qg1_7 := (hb7.cell (p := ⟨w1.heap.size, 1, none⟩) zg_6).trans qg1_6
    have zg_7 := Nat.lt_of_lt_of_le zg_6 hb7.size
    have qk0_7 := (hb7.cell (p := ⟨w3.heap.size, 0, none⟩) zk_6).trans qk0_6
    have qk1_7 := (hb7.cell (p := ⟨w3.heap.size, 1, none⟩) zk_6).trans qk1_6
    have qk2_7 := (hb7.cell (p := ⟨w3.heap.size, 2, none⟩) zk_6).trans qk2_6
    have qk3_7 := (hb7.cell (p := ⟨w3.heap.size, 3, none⟩) zk_6).trans qk3_6
    have qk4_7 := (hb7.cell (p := ⟨w3.heap.size, 4, none⟩) zk_6).trans qk4_6
    have qk5_7 := (hb7.cell (p := ⟨w3.heap.size, 5, none⟩) zk_6).trans qk5_6
    have zk_7 := Nat.lt_of_lt_of_le zk_6 hb7.size
    have qy0_7 := (hb7.cell (p := ⟨w5.heap.size, 0, none⟩) zy_6).trans qy0_6
    have qy1_7 := (hb7.cell (p := ⟨w5.heap.size, 1, none⟩) zy_6).trans qy1_6
    have qy2_7 := (hb7.cell (p := ⟨w5.heap.size, 2, none⟩) zy_6).trans qy2_6
    have qy3_7 := (hb7.cell (p := ⟨w5.heap.size, 3, none⟩) zy_6).trans qy3_6
    have qy4_7 := (hb7.cell (p := ⟨w5.heap.size, 4, none⟩) zy_6).trans qy4_6
    have qy5_7 := (hb7.cell (p := ⟨w5.heap.size, 5, none⟩) zy_6).trans qy5_6
    have zy_7 := Nat.lt_of_lt_of_le zy_6 hb7.size
    have G_7 := Lib.hid (G_6.out.keep hb7)
    have K_7 := Lib.hid (K_6.out.keep hb7)
    have Y_7 := Lib.hid (Y_6.out.keep hb7)
    clear qg0_6 qg1_6 zg_6 qk0_6 qk1_6 qk2_6 qk3_6 qk4_6 qk5_6 zk_6 G_6 K_6 Y_6 qy0_6 qy1_6 qy2_6 qy3_6 qy4_6 qy5_6 zy_6
    go_wp2_with fail
    refine (gvKept 0 0 0 [] [] [] _ _ _ _ _ _ _ K_7.out.rows.1 K_7.out.rows.2.1 K_7.out.rows.2.2 Y_7.out.rows.1 Y_7.out.rows.2.1 Y_7.out.rows.2.2 (by simp) (by simp) (by simp)).mono ?_
    rintro e w8 ⟨rfl, hb8⟩
    have H8 := bel_trans H7 hb8
    have SZ8 := Lib.hid hb8.size
    have qg0_8 := (hb8.cell (p := ⟨w1.heap.size, 0, none⟩) zg_7).trans qg0_7
    have qg1_8 := (hb8.cell (p := ⟨w1.heap.size, 1, none⟩) zg_7).trans qg1_7
    have zg_8 := Nat.lt_of_lt_of_le zg_7 hb8.size
    have qk0_8 := (hb8.cell (p := ⟨w3.heap.size, 0, none⟩) zk_7).trans qk0_7
    have qk1_8 := (hb8.cell (p := ⟨w3.heap.size, 1, none⟩) zk_7).trans qk1_7
    have qk2_8 := (hb8.cell (p := ⟨w3.heap.size, 2, none⟩) zk_7).trans qk2_7
    have qk3_8 := (hb8.cell (p := ⟨w3.heap.size, 3, none⟩) zk_7).trans qk3_7
    have qk4_8 := (hb8.cell (p := ⟨w3.heap.size, 4, none⟩) zk_7).trans qk4_7
    have qk5_8 := (hb8.cell (p := ⟨w3.heap.size, 5, none⟩) zk_7).trans qk5_7
    have zk_8 := Nat.lt_of_lt_of_le zk_7 hb8.size
    have qy0_8 := (hb8.cell (p := ⟨w5.heap.size, 0, none⟩) zy_7).trans qy0_7
    have qy1_8 := (hb8.cell (p := ⟨w5.heap.size, 1, none⟩) zy_7).trans qy1_7
    have qy2_8 := (hb8.cell (p := ⟨w5.heap.size, 2, none⟩) zy_7).trans qy2_7
    have qy3_8 := (hb8.cell (p := ⟨w5.heap.size, 3, none⟩) zy_7).trans qy3_7
    have qy4_8 := (hb8.cell (p := ⟨w5.heap.size, 4, none⟩) zy_7).trans qy4_7
    have qy5_8 := (hb8.cell (p := ⟨w5.heap.size, 5, none⟩) zy_7).trans qy5_7
    have zy_8 := Nat.lt_of_lt_of_le zy_7 hb8.size
    have G_8 := Lib.hid (G_7.out.keep hb8)
    have K_8 := Lib.hid (K_7.out.keep hb8)
    have Y_8 := Lib.hid (Y_7.out.keep hb8)
    clear qg0_7 qg1_7 zg_7 qk0_7 qk1_7 qk2_7 qk3_7 qk4_7 qk5_7 zk_7 qy0_7 qy1_7 qy2_7 qy3_7 qy4_7 qy5_7 zy_7 G_7 K_7 Y_7
    go_wp2
    go_ret
    exact ⟨by first | rfl | simp, H8⟩
  · rw [hk] at hst hss
    have k1 : ∀ x, kvI true x = x := fun _ => rfl
    have k2 : kvE true es = es := rfl
    have k3 : ∀ R, bfV true R = R := fun _ => rfl
    simp only [k1, k2, k3] at hst hss
    clear k1 k2 k3
    obtain ⟨hgv, hsr, hmk⟩ := onOk_one3 hk
    have h12 := (gVal_iff.1 hgv).1.2.1
    obtain ⟨N, hN⟩ : ∃ N : Nat, n = N := ⟨n.toNat, by omega⟩
    subst hN
    obtain ⟨A, hA⟩ : ∃ A : Nat, src = A := ⟨src.toNat, by omega⟩
    subst hA
    have hAN : A < N := by omega
    have hN12 : N ≤ 12 := by omega
    rw [Int.toNat_natCast, Int.toNat_natCast] at hst hss
    have hea : eAll N es := by have := eAll_of hgv; rwa [Int.toNat_natCast] at this
    have hkv := bf_kVal hmk hgv hAN hN12
    have hbf := bf_full hmk hea hAN
    have hbv := hbf.vals
    have hbl := hbf.dj.ok.vals
    have hbp := hbf.dj.ok.par
    have hvz := fun s w (h : RowE w s es) => viewOf (N : Int) m (A : Int) es s w h hle3
    rw [show stM (N : Int) es m (A : Int) = m by unfold stM; rw [if_pos hk], show stA (N : Int) es m (A : Int) = (A : Int) by unfold stA; rw [if_pos hk], show voL (N : Int) es m (A : Int) = vRt m (N : Int) es (A : Int) by unfold voL; rw [if_pos hk]; rfl, hk, ← hbv] at hvz
    obtain ⟨R, hR⟩ : ∃ R, R = bfR m (-1) es N A := ⟨_, rfl⟩
    rw [← hR] at hst hss hkv hbl hbp hvz
    have hkk := fun s v p w (h : RowE w s es) (h1 : Row w v R.vals) (h2 : Row w p R.par) => keptValid (N : Int) m (A : Int) es R.vals R.par s v p w h h1 h2 hle2 (by omega) (by omega)
    rw [hkv] at hkk
    have HST := Lib.hid hst
    have HSS := Lib.hid hss
    have HVZ := Lib.hid hvz
    have HKK := Lib.hid hkk
    have HBL := Lib.hid hbl
    have HBP := Lib.hid hbp
    clear hst hss hvz hkk hkv hbl hbp hbv hbf hea hR hgv hsr hmk hk h12
    refine (HST.out _ G_2.out.edges).mono ?_
    rintro e w3 ⟨pk, qk, rk, rfl, hrkk, hb3⟩
    have H3 := bel_trans H2 hb3
    have SZ3 := Lib.hid hb3.size
    have qg0_3 := (hb3.cell (p := ⟨w1.heap.size, 0, none⟩) zg_2).trans qg0_2
    have qg1_3 := (hb3.cell (p := ⟨w1.heap.size, 1, none⟩) zg_2).trans qg1_2
    have zg_3 := Nat.lt_of_lt_of_le zg_2 hb3.size
    have G_3 := Lib.hid (G_2.out.keep hb3)
    obtain ⟨pak, pck, qak, qck, rak, rck, rfl, rfl, rfl⟩ := id hrkk.slices
    have K_3 := Lib.hid (hrkk)
    clear qg0_2 zg_2 G_2 qg1_2
    clear hrkk
    go_wp2_with fail
    have hb4 : Below w3.heap.size w3 (w3.alloc (.cells #[.int .i64 N, .slice pak es.length pck, .int .i64 m, .int .i64 A, .slice qak R.vals.length qck, .slice rak R.par.length rck] 55)) := (Below.refl _ _).alloc (by simp <;> omega) _
    have H4 := bel_trans H3 hb4
    have SZ4 := Lib.hid hb4.size
    have qg0_4 := (hb4.cell (p := ⟨w1.heap.size, 0, none⟩) zg_3).trans qg0_3
    have qg1_4 := (hb4.cell (p := ⟨w1.heap.size, 1, none⟩) zg_3).trans qg1_3
    have zg_4 := Nat.lt_of_lt_of_le zg_3 hb4.size
    have G_4 := Lib.hid (G_3.out.keep hb4)
    have K_4 := Lib.hid (K_3.out.keep hb4)
    have qk0_4 : (w3.alloc (.cells #[.int .i64 N, .slice pak es.length pck, .int .i64 m, .int .i64 A, .slice qak R.vals.length qck, .slice rak R.par.length rck] 55)).cell? ⟨w3.heap.size, 0, none⟩ = some (.int .i64 N) := by go_simp
    have qk1_4 : (w3.alloc (.cells #[.int .i64 N, .slice pak es.length pck, .int .i64 m, .int .i64 A, .slice qak R.vals.length qck, .slice rak R.par.length rck] 55)).cell? ⟨w3.heap.size, 1, none⟩ = some (.slice pak es.length pck) := by go_simp
    have qk2_4 : (w3.alloc (.cells #[.int .i64 N, .slice pak es.length pck, .int .i64 m, .int .i64 A, .slice qak R.vals.length qck, .slice rak R.par.length rck] 55)).cell? ⟨w3.heap.size, 2, none⟩ = some (.int .i64 m) := by go_simp
    have qk3_4 : (w3.alloc (.cells #[.int .i64 N, .slice pak es.length pck, .int .i64 m, .int .i64 A, .slice qak R.vals.length qck, .slice rak R.par.length rck] 55)).cell? ⟨w3.heap.size, 3, none⟩ = some (.int .i64 A) := by go_simp
    have qk4_4 : (w3.alloc (.cells #[.int .i64 N, .slice pak es.length pck, .int .i64 m, .int .i64 A, .slice qak R.vals.length qck, .slice rak R.par.length rck] 55)).cell? ⟨w3.heap.size, 4, none⟩ = some (.slice qak R.vals.length qck) := by go_simp
    have qk5_4 : (w3.alloc (.cells #[.int .i64 N, .slice pak es.length pck, .int .i64 m, .int .i64 A, .slice qak R.vals.length qck, .slice rak R.par.length rck] 55)).cell? ⟨w3.heap.size, 5, none⟩ = some (.slice rak R.par.length rck) := by go_simp
    have zk_4 : w3.heap.size < (w3.alloc (.cells #[.int .i64 N, .slice pak es.length pck, .int .i64 m, .int .i64 A, .slice qak R.vals.length qck, .slice rak R.par.length rck] 55)).heap.size := by simp <;> omega
    generalize (w3.alloc (.cells #[.int .i64 N, .slice pak es.length pck, .int .i64 m, .int .i64 A, .slice qak R.vals.length qck, .slice rak R.par.length rck] 55)) = w4 at hb4 H4 SZ4 G_4 K_4 qg0_4 qg1_4 qk0_4 qk1_4 qk2_4 qk3_4 qk4_4 qk5_4 zg_4 zk_4 ⊢
    have ZBk := Lib.hid zk_4
    clear qg0_3 qg1_3 zg_3 G_3 K_3
    refine (HSS.out _ G_4.out.edges).mono ?_
    rintro e w5 ⟨py, qy, ry, rfl, hrky, hb5⟩
    have H5 := bel_trans H4 hb5
    have SZ5 := Lib.hid hb5.size
    have qg0_5 := (hb5.cell (p := ⟨w1.heap.size, 0, none⟩) zg_4).trans qg0_4
    have qg1_5 := (hb5.cell (p := ⟨w1.heap.size, 1, none⟩) zg_4).trans qg1_4
    have zg_5 := Nat.lt_of_lt_of_le zg_4 hb5.size
    have qk0_5 := (hb5.cell (p := ⟨w3.heap.size, 0, none⟩) zk_4).trans qk0_4
    have qk1_5 := (hb5.cell (p := ⟨w3.heap.size, 1, none⟩) zk_4).trans qk1_4
    have qk2_5 := (hb5.cell (p := ⟨w3.heap.size, 2, none⟩) zk_4).trans qk2_4
    have qk3_5 := (hb5.cell (p := ⟨w3.heap.size, 3, none⟩) zk_4).trans qk3_4
    have qk4_5 := (hb5.cell (p := ⟨w3.heap.size, 4, none⟩) zk_4).trans qk4_4
    have qk5_5 := (hb5.cell (p := ⟨w3.heap.size, 5, none⟩) zk_4).trans qk5_4
    have zk_5 := Nat.lt_of_lt_of_le zk_4 hb5.size
    have G_5 := Lib.hid (G_4.out.keep hb5)
    have K_5 := Lib.hid (K_4.out.keep hb5)
    obtain ⟨pay, pcy, qay, qcy, ray, rcy, rfl, rfl, rfl⟩ := id hrky.slices
    have Y_5 := Lib.hid (hrky)
    clear qg0_4 qg1_4 zg_4 G_4 K_4 qk0_4 qk1_4 qk2_4 qk3_4 qk4_4 qk5_4 zk_4
    clear hrky
    go_wp2_with fail
    have hb6 : Below w5.heap.size w5 (w5.alloc (.cells #[.int .i64 N, .slice pay es.length pcy, .int .i64 m, .int .i64 A, .slice qay R.vals.length qcy, .slice ray R.par.length rcy] 55)) := (Below.refl _ _).alloc (by simp <;> omega) _
    have H6 := bel_trans H5 hb6
    have SZ6 := Lib.hid hb6.size
    have qg0_6 := (hb6.cell (p := ⟨w1.heap.size, 0, none⟩) zg_5).trans qg0_5
    have qg1_6 := (hb6.cell (p := ⟨w1.heap.size, 1, none⟩) zg_5).trans qg1_5
    have zg_6 := Nat.lt_of_lt_of_le zg_5 hb6.size
    have qk0_6 := (hb6.cell (p := ⟨w3.heap.size, 0, none⟩) zk_5).trans qk0_5
    have qk1_6 := (hb6.cell (p := ⟨w3.heap.size, 1, none⟩) zk_5).trans qk1_5
    have qk2_6 := (hb6.cell (p := ⟨w3.heap.size, 2, none⟩) zk_5).trans qk2_5
    have qk3_6 := (hb6.cell (p := ⟨w3.heap.size, 3, none⟩) zk_5).trans qk3_5
    have qk4_6 := (hb6.cell (p := ⟨w3.heap.size, 4, none⟩) zk_5).trans qk4_5
    have qk5_6 := (hb6.cell (p := ⟨w3.heap.size, 5, none⟩) zk_5).trans qk5_5
    have zk_6 := Nat.lt_of_lt_of_le zk_5 hb6.size
    have G_6 := Lib.hid (G_5.out.keep hb6)
    have K_6 := Lib.hid (K_5.out.keep hb6)
    have Y_6 := Lib.hid (Y_5.out.keep hb6)
    have qy0_6 : (w5.alloc (.cells #[.int .i64 N, .slice pay es.length pcy, .int .i64 m, .int .i64 A, .slice qay R.vals.length qcy, .slice ray R.par.length rcy] 55)).cell? ⟨w5.heap.size, 0, none⟩ = some (.int .i64 N) := by go_simp
    have qy1_6 : (w5.alloc (.cells #[.int .i64 N, .slice pay es.length pcy, .int .i64 m, .int .i64 A, .slice qay R.vals.length qcy, .slice ray R.par.length rcy] 55)).cell? ⟨w5.heap.size, 1, none⟩ = some (.slice pay es.length pcy) := by go_simp
    have qy2_6 : (w5.alloc (.cells #[.int .i64 N, .slice pay es.length pcy, .int .i64 m, .int .i64 A, .slice qay R.vals.length qcy, .slice ray R.par.length rcy] 55)).cell? ⟨w5.heap.size, 2, none⟩ = some (.int .i64 m) := by go_simp
    have qy3_6 : (w5.alloc (.cells #[.int .i64 N, .slice pay es.length pcy, .int .i64 m, .int .i64 A, .slice qay R.vals.length qcy, .slice ray R.par.length rcy] 55)).cell? ⟨w5.heap.size, 3, none⟩ = some (.int .i64 A) := by go_simp
    have qy4_6 : (w5.alloc (.cells #[.int .i64 N, .slice pay es.length pcy, .int .i64 m, .int .i64 A, .slice qay R.vals.length qcy, .slice ray R.par.length rcy] 55)).cell? ⟨w5.heap.size, 4, none⟩ = some (.slice qay R.vals.length qcy) := by go_simp
    have qy5_6 : (w5.alloc (.cells #[.int .i64 N, .slice pay es.length pcy, .int .i64 m, .int .i64 A, .slice qay R.vals.length qcy, .slice ray R.par.length rcy] 55)).cell? ⟨w5.heap.size, 5, none⟩ = some (.slice ray R.par.length rcy) := by go_simp
    have zy_6 : w5.heap.size < (w5.alloc (.cells #[.int .i64 N, .slice pay es.length pcy, .int .i64 m, .int .i64 A, .slice qay R.vals.length qcy, .slice ray R.par.length rcy] 55)).heap.size := by simp <;> omega
    generalize (w5.alloc (.cells #[.int .i64 N, .slice pay es.length pcy, .int .i64 m, .int .i64 A, .slice qay R.vals.length qcy, .slice ray R.par.length rcy] 55)) = w6 at hb6 H6 SZ6 G_6 K_6 Y_6 qg0_6 qg1_6 qk0_6 qk1_6 qk2_6 qk3_6 qk4_6 qk5_6 qy0_6 qy1_6 qy2_6 qy3_6 qy4_6 qy5_6 zg_6 zk_6 zy_6 ⊢
    have ZBy := Lib.hid zy_6
    clear qg0_5 qg1_5 zg_5 qk0_5 qk1_5 qk2_5 qk3_5 qk4_5 qk5_5 zk_5 G_5 K_5 Y_5
    refine (gvKept (N : Int) m (A : Int) es R.vals R.par _ _ _ _ _ _ _ K_6.out.rows.1 K_6.out.rows.2.1 K_6.out.rows.2.2 Y_6.out.rows.1 Y_6.out.rows.2.1 Y_6.out.rows.2.2 hle2 (by have := HBL.out; omega) (by have := HBP.out; omega)).mono ?_
    rintro e w7 ⟨rfl, hb7⟩
    have H7 := bel_trans H6 hb7
    have SZ7 := Lib.hid hb7.size
    have qg0_7 := (hb7.cell (p := ⟨w1.heap.size, 0, none⟩) zg_6).trans qg0_6
    have qg1_7 := (hb7.cell (p := ⟨w1.heap.size, 1, none⟩) zg_6).trans qg1_6
    have zg_7 := Nat.lt_of_lt_of_le zg_6 hb7.size
    have qk0_7 := (hb7.cell (p := ⟨w3.heap.size, 0, none⟩) zk_6).trans qk0_6
    have qk1_7 := (hb7.cell (p := ⟨w3.heap.size, 1, none⟩) zk_6).trans qk1_6
    have qk2_7 := (hb7.cell (p := ⟨w3.heap.size, 2, none⟩) zk_6).trans qk2_6
    have qk3_7 := (hb7.cell (p := ⟨w3.heap.size, 3, none⟩) zk_6).trans qk3_6
    have qk4_7 := (hb7.cell (p := ⟨w3.heap.size, 4, none⟩) zk_6).trans qk4_6
    have qk5_7 := (hb7.cell (p := ⟨w3.heap.size, 5, none⟩) zk_6).trans qk5_6
    have zk_7 := Nat.lt_of_lt_of_le zk_6 hb7.size
    have qy0_7 := (hb7.cell (p := ⟨w5.heap.size, 0, none⟩) zy_6).trans qy0_6
    have qy1_7 := (hb7.cell (p := ⟨w5.heap.size, 1, none⟩) zy_6).trans qy1_6
    have qy2_7 := (hb7.cell (p := ⟨w5.heap.size, 2, none⟩) zy_6).trans qy2_6
    have qy3_7 := (hb7.cell (p := ⟨w5.heap.size, 3, none⟩) zy_6).trans qy3_6
    have qy4_7 := (hb7.cell (p := ⟨w5.heap.size, 4, none⟩) zy_6).trans qy4_6
    have qy5_7 := (hb7.cell (p := ⟨w5.heap.size, 5, none⟩) zy_6).trans qy5_6
    have zy_7 := Nat.lt_of_lt_of_le zy_6 hb7.size
    have G_7 := Lib.hid (G_6.out.keep hb7)
    have K_7 := Lib.hid (K_6.out.keep hb7)
    have Y_7 := Lib.hid (Y_6.out.keep hb7)
    clear qg0_6 qg1_6 zg_6 qk0_6 qk1_6 qk2_6 qk3_6 qk4_6 qk5_6 zk_6 G_6 K_6 Y_6 qy0_6 qy1_6 qy2_6 qy3_6 qy4_6 qy5_6 zy_6
    go_wp2_with fail
    refine (HVZ.out _ _ G_7.out.edges).mono ?_
    rintro e w8 ⟨vz, rfl, howz, hokz, hb8⟩
    have H8 := bel_trans H7 hb8
    have SZ8 := Lib.hid hb8.size
    have qg0_8 := (hb8.cell (p := ⟨w1.heap.size, 0, none⟩) zg_7).trans qg0_7
    have qg1_8 := (hb8.cell (p := ⟨w1.heap.size, 1, none⟩) zg_7).trans qg1_7
    have zg_8 := Nat.lt_of_lt_of_le zg_7 hb8.size
    have qk0_8 := (hb8.cell (p := ⟨w3.heap.size, 0, none⟩) zk_7).trans qk0_7
    have qk1_8 := (hb8.cell (p := ⟨w3.heap.size, 1, none⟩) zk_7).trans qk1_7
    have qk2_8 := (hb8.cell (p := ⟨w3.heap.size, 2, none⟩) zk_7).trans qk2_7
    have qk3_8 := (hb8.cell (p := ⟨w3.heap.size, 3, none⟩) zk_7).trans qk3_7
    have qk4_8 := (hb8.cell (p := ⟨w3.heap.size, 4, none⟩) zk_7).trans qk4_7
    have qk5_8 := (hb8.cell (p := ⟨w3.heap.size, 5, none⟩) zk_7).trans qk5_7
    have zk_8 := Nat.lt_of_lt_of_le zk_7 hb8.size
    have qy0_8 := (hb8.cell (p := ⟨w5.heap.size, 0, none⟩) zy_7).trans qy0_7
    have qy1_8 := (hb8.cell (p := ⟨w5.heap.size, 1, none⟩) zy_7).trans qy1_7
    have qy2_8 := (hb8.cell (p := ⟨w5.heap.size, 2, none⟩) zy_7).trans qy2_7
    have qy3_8 := (hb8.cell (p := ⟨w5.heap.size, 3, none⟩) zy_7).trans qy3_7
    have qy4_8 := (hb8.cell (p := ⟨w5.heap.size, 4, none⟩) zy_7).trans qy4_7
    have qy5_8 := (hb8.cell (p := ⟨w5.heap.size, 5, none⟩) zy_7).trans qy5_7
    have zy_8 := Nat.lt_of_lt_of_le zy_7 hb8.size
    have G_8 := Lib.hid (G_7.out.keep hb8)
    have K_8 := Lib.hid (K_7.out.keep hb8)
    have Y_8 := Lib.hid (Y_7.out.keep hb8)
    obtain ⟨az, cz, rfl, hz9⟩ := id howz
    clear hz9 hokz
    have Z_8 := Lib.hid (show InR true w8 w7.heap.size w8.heap.size _ R.vals.length 1 (cellI R.vals) from howz)
    clear qg0_7 qg1_7 zg_7 qk0_7 qk1_7 qk2_7 qk3_7 qk4_7 qk5_7 zk_7 qy0_7 qy1_7 qy2_7 qy3_7 qy4_7 qy5_7 zy_7 G_7 K_7 Y_7
    clear howz
    go_wp2_with fail
    have hb9 : Below w8.heap.size w8 (w8.alloc (.cells #[.int .i64 m, .int .i64 A, .slice az R.vals.length cz] 25)) := (Below.refl _ _).alloc (by simp <;> omega) _
    have H9 := bel_trans H8 hb9
    have SZ9 := Lib.hid hb9.size
    have qg0_9 := (hb9.cell (p := ⟨w1.heap.size, 0, none⟩) zg_8).trans qg0_8
    have qg1_9 := (hb9.cell (p := ⟨w1.heap.size, 1, none⟩) zg_8).trans qg1_8
    have zg_9 := Nat.lt_of_lt_of_le zg_8 hb9.size
    have qk0_9 := (hb9.cell (p := ⟨w3.heap.size, 0, none⟩) zk_8).trans qk0_8
    have qk1_9 := (hb9.cell (p := ⟨w3.heap.size, 1, none⟩) zk_8).trans qk1_8
    have qk2_9 := (hb9.cell (p := ⟨w3.heap.size, 2, none⟩) zk_8).trans qk2_8
    have qk3_9 := (hb9.cell (p := ⟨w3.heap.size, 3, none⟩) zk_8).trans qk3_8
    have qk4_9 := (hb9.cell (p := ⟨w3.heap.size, 4, none⟩) zk_8).trans qk4_8
    have qk5_9 := (hb9.cell (p := ⟨w3.heap.size, 5, none⟩) zk_8).trans qk5_8
    have zk_9 := Nat.lt_of_lt_of_le zk_8 hb9.size
    have qy0_9 := (hb9.cell (p := ⟨w5.heap.size, 0, none⟩) zy_8).trans qy0_8
    have qy1_9 := (hb9.cell (p := ⟨w5.heap.size, 1, none⟩) zy_8).trans qy1_8
    have qy2_9 := (hb9.cell (p := ⟨w5.heap.size, 2, none⟩) zy_8).trans qy2_8
    have qy3_9 := (hb9.cell (p := ⟨w5.heap.size, 3, none⟩) zy_8).trans qy3_8
    have qy4_9 := (hb9.cell (p := ⟨w5.heap.size, 4, none⟩) zy_8).trans qy4_8
    have qy5_9 := (hb9.cell (p := ⟨w5.heap.size, 5, none⟩) zy_8).trans qy5_8
    have zy_9 := Nat.lt_of_lt_of_le zy_8 hb9.size
    have G_9 := Lib.hid (G_8.out.keep hb9)
    have K_9 := Lib.hid (K_8.out.keep hb9)
    have Y_9 := Lib.hid (Y_8.out.keep hb9)
    have Z_9 := Lib.hid (Z_8.out.keep hb9)
    have qz0_9 : (w8.alloc (.cells #[.int .i64 m, .int .i64 A, .slice az R.vals.length cz] 25)).cell? ⟨w8.heap.size, 0, none⟩ = some (.int .i64 m) := by go_simp
    have qz1_9 : (w8.alloc (.cells #[.int .i64 m, .int .i64 A, .slice az R.vals.length cz] 25)).cell? ⟨w8.heap.size, 1, none⟩ = some (.int .i64 A) := by go_simp
    have qz2_9 : (w8.alloc (.cells #[.int .i64 m, .int .i64 A, .slice az R.vals.length cz] 25)).cell? ⟨w8.heap.size, 2, none⟩ = some (.slice az R.vals.length cz) := by go_simp
    have zz_9 : w8.heap.size < (w8.alloc (.cells #[.int .i64 m, .int .i64 A, .slice az R.vals.length cz] 25)).heap.size := by simp <;> omega
    generalize (w8.alloc (.cells #[.int .i64 m, .int .i64 A, .slice az R.vals.length cz] 25)) = w9 at hb9 H9 SZ9 G_9 K_9 Y_9 Z_9 qg0_9 qg1_9 qk0_9 qk1_9 qk2_9 qk3_9 qk4_9 qk5_9 qy0_9 qy1_9 qy2_9 qy3_9 qy4_9 qy5_9 qz0_9 qz1_9 qz2_9 zg_9 zk_9 zy_9 zz_9 ⊢
    have ZBz := Lib.hid zz_9
    clear qg0_8 qg1_8 zg_8 qk0_8 qk1_8 qk2_8 qk3_8 qk4_8 qk5_8 zk_8 qy0_8 qy1_8 qy2_8 qy3_8 qy4_8 qy5_8 zy_8 G_8 K_8 Y_8 Z_8
    refine (HKK.out _ _ _ _ K_9.out.rows.1 K_9.out.rows.2.1 K_9.out.rows.2.2).mono ?_
    rintro e w10 ⟨rfl, hb10⟩
    have H10 := bel_trans H9 hb10
    have SZ10 := Lib.hid hb10.size
    have qg0_10 := (hb10.cell (p := ⟨w1.heap.size, 0, none⟩) zg_9).trans qg0_9
    have qg1_10 := (hb10.cell (p := ⟨w1.heap.size, 1, none⟩) zg_9).trans qg1_9
    have zg_10 := Nat.lt_of_lt_of_le zg_9 hb10.size
    have qk0_10 := (hb10.cell (p := ⟨w3.heap.size, 0, none⟩) zk_9).trans qk0_9
    have qk1_10 := (hb10.cell (p := ⟨w3.heap.size, 1, none⟩) zk_9).trans qk1_9
    have qk2_10 := (hb10.cell (p := ⟨w3.heap.size, 2, none⟩) zk_9).trans qk2_9
    have qk3_10 := (hb10.cell (p := ⟨w3.heap.size, 3, none⟩) zk_9).trans qk3_9
    have qk4_10 := (hb10.cell (p := ⟨w3.heap.size, 4, none⟩) zk_9).trans qk4_9
    have qk5_10 := (hb10.cell (p := ⟨w3.heap.size, 5, none⟩) zk_9).trans qk5_9
    have zk_10 := Nat.lt_of_lt_of_le zk_9 hb10.size
    have qy0_10 := (hb10.cell (p := ⟨w5.heap.size, 0, none⟩) zy_9).trans qy0_9
    have qy1_10 := (hb10.cell (p := ⟨w5.heap.size, 1, none⟩) zy_9).trans qy1_9
    have qy2_10 := (hb10.cell (p := ⟨w5.heap.size, 2, none⟩) zy_9).trans qy2_9
    have qy3_10 := (hb10.cell (p := ⟨w5.heap.size, 3, none⟩) zy_9).trans qy3_9
    have qy4_10 := (hb10.cell (p := ⟨w5.heap.size, 4, none⟩) zy_9).trans qy4_9
    have qy5_10 := (hb10.cell (p := ⟨w5.heap.size, 5, none⟩) zy_9).trans qy5_9
    have zy_10 := Nat.lt_of_lt_of_le zy_9 hb10.size
    have qz0_10 := (hb10.cell (p := ⟨w8.heap.size, 0, none⟩) zz_9).trans qz0_9
    have qz1_10 := (hb10.cell (p := ⟨w8.heap.size, 1, none⟩) zz_9).trans qz1_9
    have qz2_10 := (hb10.cell (p := ⟨w8.heap.size, 2, none⟩) zz_9).trans qz2_9
    have zz_10 := Nat.lt_of_lt_of_le zz_9 hb10.size
    have G_10 := Lib.hid (G_9.out.keep hb10)
    have K_10 := Lib.hid (K_9.out.keep hb10)
    have Y_10 := Lib.hid (Y_9.out.keep hb10)
    have Z_10 := Lib.hid (Z_9.out.keep hb10)
    clear qg0_9 qg1_9 zg_9 qk0_9 qk1_9 qk2_9 qk3_9 qk4_9 qk5_9 zk_9 qy0_9 qy1_9 qy2_9 qy3_9 qy4_9 qy5_9 zy_9 G_9 K_9 Y_9 Z_9 qz0_9 qz1_9 qz2_9 zz_9
    go_wp2_with fail
    refine (viewSame m A m A R.vals R.vals _ _ _ K_10.out.rows.2.1 Z_10.out.rowI (by have := HBL.out; omega) (by have := HBL.out; omega)).mono ?_
    rintro e w11 ⟨hS, hb11⟩
    have H11 := bel_trans H10 hb11
    have SZ11 := Lib.hid hb11.size
    have qg0_11 := (hb11.cell (p := ⟨w1.heap.size, 0, none⟩) zg_10).trans qg0_10
    have qg1_11 := (hb11.cell (p := ⟨w1.heap.size, 1, none⟩) zg_10).trans qg1_10
    have zg_11 := Nat.lt_of_lt_of_le zg_10 hb11.size
    have qk0_11 := (hb11.cell (p := ⟨w3.heap.size, 0, none⟩) zk_10).trans qk0_10
    have qk1_11 := (hb11.cell (p := ⟨w3.heap.size, 1, none⟩) zk_10).trans qk1_10
    have qk2_11 := (hb11.cell (p := ⟨w3.heap.size, 2, none⟩) zk_10).trans qk2_10
    have qk3_11 := (hb11.cell (p := ⟨w3.heap.size, 3, none⟩) zk_10).trans qk3_10
    have qk4_11 := (hb11.cell (p := ⟨w3.heap.size, 4, none⟩) zk_10).trans qk4_10
    have qk5_11 := (hb11.cell (p := ⟨w3.heap.size, 5, none⟩) zk_10).trans qk5_10
    have zk_11 := Nat.lt_of_lt_of_le zk_10 hb11.size
    have qy0_11 := (hb11.cell (p := ⟨w5.heap.size, 0, none⟩) zy_10).trans qy0_10
    have qy1_11 := (hb11.cell (p := ⟨w5.heap.size, 1, none⟩) zy_10).trans qy1_10
    have qy2_11 := (hb11.cell (p := ⟨w5.heap.size, 2, none⟩) zy_10).trans qy2_10
    have qy3_11 := (hb11.cell (p := ⟨w5.heap.size, 3, none⟩) zy_10).trans qy3_10
    have qy4_11 := (hb11.cell (p := ⟨w5.heap.size, 4, none⟩) zy_10).trans qy4_10
    have qy5_11 := (hb11.cell (p := ⟨w5.heap.size, 5, none⟩) zy_10).trans qy5_10
    have zy_11 := Nat.lt_of_lt_of_le zy_10 hb11.size
    have qz0_11 := (hb11.cell (p := ⟨w8.heap.size, 0, none⟩) zz_10).trans qz0_10
    have qz1_11 := (hb11.cell (p := ⟨w8.heap.size, 1, none⟩) zz_10).trans qz1_10
    have qz2_11 := (hb11.cell (p := ⟨w8.heap.size, 2, none⟩) zz_10).trans qz2_10
    have zz_11 := Nat.lt_of_lt_of_le zz_10 hb11.size
    have G_11 := Lib.hid (G_10.out.keep hb11)
    have K_11 := Lib.hid (K_10.out.keep hb11)
    have Y_11 := Lib.hid (Y_10.out.keep hb11)
    have Z_11 := Lib.hid (Z_10.out.keep hb11)
    rw [vSame_self] at hS
    subst hS
    clear qg0_10 qg1_10 zg_10 qk0_10 qk1_10 qk2_10 qk3_10 qk4_10 qk5_10 zk_10 qy0_10 qy1_10 qy2_10 qy3_10 qy4_10 qy5_10 zy_10 qz0_10 qz1_10 qz2_10 zz_10 G_10 K_10 Y_10 Z_10
    go_wp2_with fail
    refine (graphSame (N : Int) (N : Int) es es _ _ _ K_11.out.rows.1 G_11.out.edges hle3 hle3).mono ?_
    rintro e w12 ⟨hS, hb12⟩
    have H12 := bel_trans H11 hb12
    have SZ12 := Lib.hid hb12.size
    have qg0_12 := (hb12.cell (p := ⟨w1.heap.size, 0, none⟩) zg_11).trans qg0_11
    have qg1_12 := (hb12.cell (p := ⟨w1.heap.size, 1, none⟩) zg_11).trans qg1_11
    have zg_12 := Nat.lt_of_lt_of_le zg_11 hb12.size
    have qk0_12 := (hb12.cell (p := ⟨w3.heap.size, 0, none⟩) zk_11).trans qk0_11
    have qk1_12 := (hb12.cell (p := ⟨w3.heap.size, 1, none⟩) zk_11).trans qk1_11
    have qk2_12 := (hb12.cell (p := ⟨w3.heap.size, 2, none⟩) zk_11).trans qk2_11
    have qk3_12 := (hb12.cell (p := ⟨w3.heap.size, 3, none⟩) zk_11).trans qk3_11
    have qk4_12 := (hb12.cell (p := ⟨w3.heap.size, 4, none⟩) zk_11).trans qk4_11
    have qk5_12 := (hb12.cell (p := ⟨w3.heap.size, 5, none⟩) zk_11).trans qk5_11
    have zk_12 := Nat.lt_of_lt_of_le zk_11 hb12.size
    have qy0_12 := (hb12.cell (p := ⟨w5.heap.size, 0, none⟩) zy_11).trans qy0_11
    have qy1_12 := (hb12.cell (p := ⟨w5.heap.size, 1, none⟩) zy_11).trans qy1_11
    have qy2_12 := (hb12.cell (p := ⟨w5.heap.size, 2, none⟩) zy_11).trans qy2_11
    have qy3_12 := (hb12.cell (p := ⟨w5.heap.size, 3, none⟩) zy_11).trans qy3_11
    have qy4_12 := (hb12.cell (p := ⟨w5.heap.size, 4, none⟩) zy_11).trans qy4_11
    have qy5_12 := (hb12.cell (p := ⟨w5.heap.size, 5, none⟩) zy_11).trans qy5_11
    have zy_12 := Nat.lt_of_lt_of_le zy_11 hb12.size
    have qz0_12 := (hb12.cell (p := ⟨w8.heap.size, 0, none⟩) zz_11).trans qz0_11
    have qz1_12 := (hb12.cell (p := ⟨w8.heap.size, 1, none⟩) zz_11).trans qz1_11
    have qz2_12 := (hb12.cell (p := ⟨w8.heap.size, 2, none⟩) zz_11).trans qz2_11
    have zz_12 := Nat.lt_of_lt_of_le zz_11 hb12.size
    have G_12 := Lib.hid (G_11.out.keep hb12)
    have K_12 := Lib.hid (K_11.out.keep hb12)
    have Y_12 := Lib.hid (Y_11.out.keep hb12)
    have Z_12 := Lib.hid (Z_11.out.keep hb12)
    rw [gSame_self] at hS
    subst hS
    clear qg0_11 qg1_11 zg_11 qk0_11 qk1_11 qk2_11 qk3_11 qk4_11 qk5_11 zk_11 qy0_11 qy1_11 qy2_11 qy3_11 qy4_11 qy5_11 zy_11 qz0_11 qz1_11 qz2_11 zz_11 G_11 K_11 Y_11 Z_11
    go_wp2
    go_ret
    exact ⟨by first | rfl | simp, H12⟩

set_option maxRecDepth 100000 in
theorem lifted (os : Os) (started : os.Started) (H : Type) (enc : TypeId × Value → H) :
    ReturnsInHanded {} Try.checked os 10 .any (Rows.fnKeepViewSpec.pre6 enc Try.prog Try.f10 Rows.fnKeepViewRow.domain false) (Rows.fnKeepViewSpec.post enc Try.prog Try.f10 false true false false) := by
  refine returnsInHanded_of_change (C := Try.checked) own started (by kernel_rfl) Try.func10
    (ChangeSpec.witness6 (enc := enc) (C := Try.checked) false ⟨#[], #[.slice none 0 0], []⟩ 8 (by kernel_rfl) (by kernel_rfl) (by kernel_rfl) (by kernel_rfl)) ?_
  intro W base args ds gs before hval0 hW hcnd _
  have hval : ∀ (j : Nat) t v, Try.f10.params[j]? = some t → args[j]? = some v → Value.okWide Try.prog W .any base t v := hval0
  have hW' := hW
  obtain ⟨p, q, hA0, hV, rfl, hfz, hnd⟩ := hW
  have hA : DataW.TrodAll enc Try.prog W 0 (fun _ => true) true Try.f10.params.toList args.toList ds p := hA0
  rw [Try.params10] at hA hval
  obtain ⟨v0, vs0, d0, ds0, p0, q0, hargs, rfl, rfl, h0, r0⟩ := trodAll_cons hA
  obtain ⟨rfl, rfl, rfl⟩ := trodAll_nil r0
  obtain rfl : args = #[v0] := by cases args; simp_all
  obtain ⟨rfl, rfl⟩ := trodVars_none hV
  obtain ⟨a0, len0, cap0, rfl⟩ := okWide_slice Try.underlying22 (hval 0 22 v0 rfl rfl)
  have k0 := h0
  have lt0 : ∀ x ∈ p0, x.block < W.heap.size := by obtain ⟨m, hm⟩ := k0; exact DataW.trod_lt m _ _ _ hm
  obtain ⟨z0, w0⟩ : ∃ zs, IsRow .u8 W a0 len0 cap0 zs := by
    obtain ⟨fuel, hf⟩ := h0
    rcases open_ints Try.underlying22 Try.underlying5 (by kernel_rfl) hf with ⟨hcs, _⟩ | ⟨x, l, c, zs, hcs, _, hl, hm, hz, _, hcell, hwz⟩
    · simp [Value.cells] at hcs
      obtain ⟨rfl, rfl, rfl⟩ := hcs
      exact ⟨[], .inl ⟨rfl, rfl, rfl, rfl⟩⟩
    · simp [Value.cells] at hcs
      obtain ⟨rfl, rfl, rfl⟩ := hcs
      exact ⟨zs, .inr ⟨_, rfl, hl, hm, by simpa using hz, hcell, hwz⟩⟩
  clear hA0 hval0
  refine (walk a0 len0 cap0 z0 W w0).mono fun e W' ⟨he, bel⟩ => ?_
  subst he
  exact ⟨_, rfl, _, _, _, [], _, [], hW', trodAll_mk1 (shut_bool Try.underlying4 _), (trodAll_cons_mk (Below.trod laidOut (by kernel_rfl) (of_decide_eq_true (by kernel_rfl)) k0 bel lt0) trodAll_mk0), rfl, bel.frame _, fun h => by cases h⟩

theorem over : Rows.fnKeepViewRow.holds Try.pinned (OpenSpec.ofChange Rows.fnKeepViewSpec) :=
  OpenClaim.holds_of_wide 10 Try.f10 rfl rfl rfl rfl rfl rfl rfl ⟨rfl, rfl, rfl, rfl, rfl⟩ rfl rfl rfl rfl rfl (by kernel_rfl) Try.func10 (by kernel_rfl)
    (of_decide_eq_true (by kernel_rfl)) (by unfold Func.isWrapper; first | (rw [if_pos (by decide +kernel)]; kernel_rfl) | (rw [if_neg (by decide +kernel)]; exact ⟨rfl, rfl⟩))
    (fun os started H enc _ => lifted os started H enc)

theorem proved : Rows.FnKeepViewSaid := over
end Go.Proofs.Ytbhhbhopogkmnaa.fnKeepView
