/-
  Proved: two views are the same exactly if their values are, whichever comes first (the law FnViewSame returns true for every input and leaves it as it was), with no further condition.
-/
import Derived.Test.YtjpikbbpmbeckaaRows
import Derived.Test.YtjpikbbpmbeckaaDrawW
import Derived.Test.YtjpikbbpmbeckaaVSame2
import Derived.Test.YtjpikbbpmbeckaaVEdges
import Derived.Test.YtjpikbbpmbeckaaGvInts
import Derived.WalkKit
import Derived.ProofKit
import Derived.OpenShut
import Derived.ShutString
import Derived.ChangeOld
import Derived.Below
namespace Go.Proofs.Ytjpikbbpmbeckaa.fnViewSame
open Go.Proofs.Ytjpikbbpmbeckaa Go.BigFrame
open Go.ChangeShapes Go.WideShapes Go.ChangeAt Go.RowKit
open Go.ChangeMaps (open_string shut_string)
set_option linter.unusedVariables false

theorem own : ownKnob Try.prog.godebug = none := by kernel_rfl
theorem laidOut : laidOutB Try.prog = true := by kernel_rfl

def IsRow (k : IntKind) (w : World) (a : Option Addr) (len cap : Nat) (zs : List Int) : Prop :=
  (a = none ∧ len = 0 ∧ cap = 0 ∧ zs = []) ∨
  ∃ x, a = some x ∧ len ≤ cap ∧ cap ≤ maxLen ∧ zs.length = cap ∧ (∀ i, i < zs.length → w.cell? (x.add i) = some (.int k (zs.getD i 0))) ∧ ∀ n ∈ zs, (Lit.int k n).wf = true

theorem bytes_of {w : World} {a : Option Addr} {len cap : Nat} {zs : List Int} (h : IsRow .u8 w a len cap zs) : Bytes w a len ∧ len ≤ cap ∧ len ≤ 9223372036854775807 := by
  rcases h with ⟨rfl, rfl, rfl, rfl⟩ | ⟨x, rfl, hl, hm, hz, hc, hw⟩
  · exact ⟨.inl rfl, Nat.le_refl _, by omega⟩
  · unfold maxLen at hm
    refine ⟨?_, hl, by omega⟩
    by_cases h0 : len = 0
    · exact .inl h0
    · obtain ⟨b, off, rfl, hc'⟩ := ints_at hc (by omega)
      exact .inr ⟨b, off, rfl, World.block_lt_of_cell? _ _ (hc' 0 (by omega)), fun i hi => ⟨zs[i]?.getD 0, (range_u8 hw i).1, (range_u8 hw i).2, hc' i (by omega)⟩⟩

set_option maxRecDepth 100000 in
set_option maxHeartbeats 4000000 in
theorem walk (a0 : Option Addr) (len0 cap0 : Nat) (z0 : List Int) (w : World) (w0 : IsRow .u8 w a0 len0 cap0 z0) :
    Calls Try.prog 3 #[.slice a0 len0 cap0] w fun e w' => e = .returned (.bool true) ∧ Below w.heap.size w w' := by
  obtain ⟨hby, hcp, hn⟩ := bytes_of w0
  have HB0 := Lib.hid hby
  clear hby w0
  by_cases h0 : 1048576 < len0
  · go_enter Try.func3, Try.ntmps3
    go_wp2
    go_ret
    exact ⟨rfl, Below.refl _ _⟩
  have h0' : len0 ≤ 1048576 := by omega
  clear h0
  obtain ⟨w0, hw0⟩ : ∃ w0, w0 = w := ⟨_, rfl⟩
  subst hw0
  have H0 := Below.refl w0.heap.size w0
  go_enter Try.func3, Try.ntmps3
  go_wp2_with fail
  refine (dDrawViewSame a0 len0 cap0 _ HB0.out hcp (by omega)).mono ?_
  rintro e w1 ⟨m, src, zs, ys, vs, us, rfl, hle, hrG, hrO, hb1⟩
  have H1 := bel_trans H0 hb1
  have SZ1 := Lib.hid hb1.size
  obtain ⟨va, vc, rfl, hz9⟩ := id hrG
  obtain ⟨oa, oc, rfl, hz8⟩ := id hrO
  clear hz9 hz8
  have V_1 := Lib.hid (hrG)
  have Y_1 := Lib.hid hrO
  have hle1 := hle.1
  have hle2 : ys.length ≤ 12 := by have := hle.1; have := hle.2; omega
  clear hrG hrO hle
  go_wp2_with fail
  have hb2 : Below w1.heap.size w1 ((w1.alloc (.cells #[.int .i64 m, .int .i64 src, .slice va zs.length vc] 25)).alloc (.cells #[.int .i64 m, .int .i64 src, .slice oa ys.length oc] 25)) := ((Below.refl _ _).alloc (by simp <;> omega) _).alloc (by simp <;> omega) _
  have H2 := bel_trans H1 hb2
  have SZ2 := Lib.hid hb2.size
  have V_2 := Lib.hid (V_1.out.keep hb2)
  have Y_2 := Lib.hid (Y_1.out.keep hb2)
  have qv0_2 : ((w1.alloc (.cells #[.int .i64 m, .int .i64 src, .slice va zs.length vc] 25)).alloc (.cells #[.int .i64 m, .int .i64 src, .slice oa ys.length oc] 25)).cell? ⟨w1.heap.size, 0, none⟩ = some (.int .i64 m) := by go_simp
  have qv1_2 : ((w1.alloc (.cells #[.int .i64 m, .int .i64 src, .slice va zs.length vc] 25)).alloc (.cells #[.int .i64 m, .int .i64 src, .slice oa ys.length oc] 25)).cell? ⟨w1.heap.size, 1, none⟩ = some (.int .i64 src) := by go_simp
  have qv2_2 : ((w1.alloc (.cells #[.int .i64 m, .int .i64 src, .slice va zs.length vc] 25)).alloc (.cells #[.int .i64 m, .int .i64 src, .slice oa ys.length oc] 25)).cell? ⟨w1.heap.size, 2, none⟩ = some (.slice va zs.length vc) := by go_simp
  have zv_2 : w1.heap.size < ((w1.alloc (.cells #[.int .i64 m, .int .i64 src, .slice va zs.length vc] 25)).alloc (.cells #[.int .i64 m, .int .i64 src, .slice oa ys.length oc] 25)).heap.size := by simp <;> omega
  have qy0_2 : ((w1.alloc (.cells #[.int .i64 m, .int .i64 src, .slice va zs.length vc] 25)).alloc (.cells #[.int .i64 m, .int .i64 src, .slice oa ys.length oc] 25)).cell? ⟨w1.heap.size + 1, 0, none⟩ = some (.int .i64 m) := by go_simp
  have qy1_2 : ((w1.alloc (.cells #[.int .i64 m, .int .i64 src, .slice va zs.length vc] 25)).alloc (.cells #[.int .i64 m, .int .i64 src, .slice oa ys.length oc] 25)).cell? ⟨w1.heap.size + 1, 1, none⟩ = some (.int .i64 src) := by go_simp
  have qy2_2 : ((w1.alloc (.cells #[.int .i64 m, .int .i64 src, .slice va zs.length vc] 25)).alloc (.cells #[.int .i64 m, .int .i64 src, .slice oa ys.length oc] 25)).cell? ⟨w1.heap.size + 1, 2, none⟩ = some (.slice oa ys.length oc) := by go_simp
  have zy_2 : w1.heap.size + 1 < ((w1.alloc (.cells #[.int .i64 m, .int .i64 src, .slice va zs.length vc] 25)).alloc (.cells #[.int .i64 m, .int .i64 src, .slice oa ys.length oc] 25)).heap.size := by simp <;> omega
  generalize ((w1.alloc (.cells #[.int .i64 m, .int .i64 src, .slice va zs.length vc] 25)).alloc (.cells #[.int .i64 m, .int .i64 src, .slice oa ys.length oc] 25)) = w2 at hb2 H2 SZ2 V_2 Y_2 qv0_2 qv1_2 qv2_2 qy0_2 qy1_2 qy2_2 zv_2 zy_2 ⊢
  have ZBv := Lib.hid zv_2
  have ZBy := Lib.hid zy_2
  clear V_1 Y_1
  have hse : ∀ L K : List Int, vSame m src L m src K = decide (L = K) := fun L K => by unfold vSame iSame; simp
  have hA := fun s t w (h : Row w s zs) (k : Row w t ys) => viewSame m src m src zs ys s t w h k (by omega) (by omega)
  rw [hse] at hA
  have hB := fun s t w (h : Row w s zs) (k : Row w t ys) => sViewSame m src m src zs ys s t w h k (by omega) (by omega)
  rw [hse] at hB
  have hC := fun s t w (h : Row w s ys) (k : Row w t zs) => viewSame m src m src ys zs s t w h k (by omega) (by omega)
  rw [hse] at hC
  have hD := fun s t w (h : Row w s zs) (k : Row w t zs) => viewSame m src m src zs zs s t w h k (by omega) (by omega)
  rw [hse] at hD
  rw [decide_eq_true rfl] at hD
  clear hse
  by_cases he : zs = ys
  · rw [decide_eq_true he] at hA hB
    rw [decide_eq_true he.symm] at hC
    have HVA := Lib.hid hA
    have HVB := Lib.hid hB
    have HVC := Lib.hid hC
    have HVD := Lib.hid hD
    clear hA hB hC hD
    have HE := Lib.hid he
    clear he
    go_wp2_with fail
    refine (HVA.out _ _ _ V_2.out.rowI Y_2.out.rowI).mono ?_
    rintro e w3 ⟨rfl, hb3⟩
    have H3 := bel_trans H2 hb3
    have SZ3 := Lib.hid hb3.size
    have qv0_3 := (hb3.cell (p := ⟨w1.heap.size, 0, none⟩) zv_2).trans qv0_2
    have qv1_3 := (hb3.cell (p := ⟨w1.heap.size, 1, none⟩) zv_2).trans qv1_2
    have qv2_3 := (hb3.cell (p := ⟨w1.heap.size, 2, none⟩) zv_2).trans qv2_2
    have zv_3 := Nat.lt_of_lt_of_le zv_2 hb3.size
    have qy0_3 := (hb3.cell (p := ⟨w1.heap.size + 1, 0, none⟩) zy_2).trans qy0_2
    have qy1_3 := (hb3.cell (p := ⟨w1.heap.size + 1, 1, none⟩) zy_2).trans qy1_2
    have qy2_3 := (hb3.cell (p := ⟨w1.heap.size + 1, 2, none⟩) zy_2).trans qy2_2
    have zy_3 := Nat.lt_of_lt_of_le zy_2 hb3.size
    have V_3 := Lib.hid (V_2.out.keep hb3)
    have Y_3 := Lib.hid (Y_2.out.keep hb3)
    clear V_2 qy0_2 Y_2 qy2_2 zv_2 qy1_2 qv0_2 zy_2 qv1_2 qv2_2
    go_wp2_with fail
    refine (HVB.out _ _ _ V_3.out.rowI Y_3.out.rowI).mono ?_
    rintro e w4 ⟨rfl, hb4⟩
    have H4 := bel_trans H3 hb4
    have SZ4 := Lib.hid hb4.size
    have qv0_4 := (hb4.cell (p := ⟨w1.heap.size, 0, none⟩) zv_3).trans qv0_3
    have qv1_4 := (hb4.cell (p := ⟨w1.heap.size, 1, none⟩) zv_3).trans qv1_3
    have qv2_4 := (hb4.cell (p := ⟨w1.heap.size, 2, none⟩) zv_3).trans qv2_3
    have zv_4 := Nat.lt_of_lt_of_le zv_3 hb4.size
    have qy0_4 := (hb4.cell (p := ⟨w1.heap.size + 1, 0, none⟩) zy_3).trans qy0_3
    have qy1_4 := (hb4.cell (p := ⟨w1.heap.size + 1, 1, none⟩) zy_3).trans qy1_3
    have qy2_4 := (hb4.cell (p := ⟨w1.heap.size + 1, 2, none⟩) zy_3).trans qy2_3
    have zy_4 := Nat.lt_of_lt_of_le zy_3 hb4.size
    have V_4 := Lib.hid (V_3.out.keep hb4)
    have Y_4 := Lib.hid (Y_3.out.keep hb4)
    clear qv0_3 qv1_3 qv2_3 zv_3 qy0_3 qy1_3 qy2_3 zy_3 V_3 Y_3
    go_wp2_with fail
    refine (HVC.out _ _ _ Y_4.out.rowI V_4.out.rowI).mono ?_
    rintro e w5 ⟨rfl, hb5⟩
    have H5 := bel_trans H4 hb5
    have SZ5 := Lib.hid hb5.size
    have qv0_5 := (hb5.cell (p := ⟨w1.heap.size, 0, none⟩) zv_4).trans qv0_4
    have qv1_5 := (hb5.cell (p := ⟨w1.heap.size, 1, none⟩) zv_4).trans qv1_4
    have qv2_5 := (hb5.cell (p := ⟨w1.heap.size, 2, none⟩) zv_4).trans qv2_4
    have zv_5 := Nat.lt_of_lt_of_le zv_4 hb5.size
    have qy0_5 := (hb5.cell (p := ⟨w1.heap.size + 1, 0, none⟩) zy_4).trans qy0_4
    have qy1_5 := (hb5.cell (p := ⟨w1.heap.size + 1, 1, none⟩) zy_4).trans qy1_4
    have qy2_5 := (hb5.cell (p := ⟨w1.heap.size + 1, 2, none⟩) zy_4).trans qy2_4
    have zy_5 := Nat.lt_of_lt_of_le zy_4 hb5.size
    have V_5 := Lib.hid (V_4.out.keep hb5)
    have Y_5 := Lib.hid (Y_4.out.keep hb5)
    clear qv0_4 qv1_4 qv2_4 zv_4 qy0_4 qy1_4 qy2_4 zy_4 V_4 Y_4
    go_wp2_with fail
    refine (HVD.out _ _ _ V_5.out.rowI V_5.out.rowI).mono ?_
    rintro e w6 ⟨rfl, hb6⟩
    have H6 := bel_trans H5 hb6
    have SZ6 := Lib.hid hb6.size
    have qv0_6 := (hb6.cell (p := ⟨w1.heap.size, 0, none⟩) zv_5).trans qv0_5
    have qv1_6 := (hb6.cell (p := ⟨w1.heap.size, 1, none⟩) zv_5).trans qv1_5
    have qv2_6 := (hb6.cell (p := ⟨w1.heap.size, 2, none⟩) zv_5).trans qv2_5
    have zv_6 := Nat.lt_of_lt_of_le zv_5 hb6.size
    have qy0_6 := (hb6.cell (p := ⟨w1.heap.size + 1, 0, none⟩) zy_5).trans qy0_5
    have qy1_6 := (hb6.cell (p := ⟨w1.heap.size + 1, 1, none⟩) zy_5).trans qy1_5
    have qy2_6 := (hb6.cell (p := ⟨w1.heap.size + 1, 2, none⟩) zy_5).trans qy2_5
    have zy_6 := Nat.lt_of_lt_of_le zy_5 hb6.size
    have V_6 := Lib.hid (V_5.out.keep hb6)
    have Y_6 := Lib.hid (Y_5.out.keep hb6)
    clear qv0_5 qv1_5 qv2_5 zv_5 qy0_5 qy1_5 qy2_5 zy_5 V_5 Y_5
    go_wp2_with fail
    refine (gvInts zs _ _ _ V_6.out.rowI (row_eqV HE.out Y_6.out.rowI) (by omega)).mono ?_
    rintro e w7 ⟨rfl, hb7⟩
    have H7 := bel_trans H6 hb7
    have SZ7 := Lib.hid hb7.size
    have qv0_7 := (hb7.cell (p := ⟨w1.heap.size, 0, none⟩) zv_6).trans qv0_6
    have qv1_7 := (hb7.cell (p := ⟨w1.heap.size, 1, none⟩) zv_6).trans qv1_6
    have qv2_7 := (hb7.cell (p := ⟨w1.heap.size, 2, none⟩) zv_6).trans qv2_6
    have zv_7 := Nat.lt_of_lt_of_le zv_6 hb7.size
    have qy0_7 := (hb7.cell (p := ⟨w1.heap.size + 1, 0, none⟩) zy_6).trans qy0_6
    have qy1_7 := (hb7.cell (p := ⟨w1.heap.size + 1, 1, none⟩) zy_6).trans qy1_6
    have qy2_7 := (hb7.cell (p := ⟨w1.heap.size + 1, 2, none⟩) zy_6).trans qy2_6
    have zy_7 := Nat.lt_of_lt_of_le zy_6 hb7.size
    have V_7 := Lib.hid (V_6.out.keep hb7)
    have Y_7 := Lib.hid (Y_6.out.keep hb7)
    clear qv0_6 qv1_6 qv2_6 zv_6 qy0_6 qy1_6 qy2_6 zy_6 V_6 Y_6
    go_wp2
    go_ret
    exact ⟨by first | rfl | simp, H7⟩
  · rw [decide_eq_false he] at hA hB
    rw [decide_eq_false (fun h => he h.symm)] at hC
    have HVA := Lib.hid hA
    have HVB := Lib.hid hB
    have HVC := Lib.hid hC
    have HVD := Lib.hid hD
    clear hA hB hC hD
    go_wp2_with fail
    refine (HVA.out _ _ _ V_2.out.rowI Y_2.out.rowI).mono ?_
    rintro e w3 ⟨rfl, hb3⟩
    have H3 := bel_trans H2 hb3
    have SZ3 := Lib.hid hb3.size
    have qv0_3 := (hb3.cell (p := ⟨w1.heap.size, 0, none⟩) zv_2).trans qv0_2
    have qv1_3 := (hb3.cell (p := ⟨w1.heap.size, 1, none⟩) zv_2).trans qv1_2
    have qv2_3 := (hb3.cell (p := ⟨w1.heap.size, 2, none⟩) zv_2).trans qv2_2
    have zv_3 := Nat.lt_of_lt_of_le zv_2 hb3.size
    have qy0_3 := (hb3.cell (p := ⟨w1.heap.size + 1, 0, none⟩) zy_2).trans qy0_2
    have qy1_3 := (hb3.cell (p := ⟨w1.heap.size + 1, 1, none⟩) zy_2).trans qy1_2
    have qy2_3 := (hb3.cell (p := ⟨w1.heap.size + 1, 2, none⟩) zy_2).trans qy2_2
    have zy_3 := Nat.lt_of_lt_of_le zy_2 hb3.size
    have V_3 := Lib.hid (V_2.out.keep hb3)
    have Y_3 := Lib.hid (Y_2.out.keep hb3)
    clear V_2 qy0_2 Y_2 qy2_2 zv_2 qy1_2 qv0_2 zy_2 qv1_2 qv2_2
    go_wp2_with fail
    refine (HVB.out _ _ _ V_3.out.rowI Y_3.out.rowI).mono ?_
    rintro e w4 ⟨rfl, hb4⟩
    have H4 := bel_trans H3 hb4
    have SZ4 := Lib.hid hb4.size
    have qv0_4 := (hb4.cell (p := ⟨w1.heap.size, 0, none⟩) zv_3).trans qv0_3
    have qv1_4 := (hb4.cell (p := ⟨w1.heap.size, 1, none⟩) zv_3).trans qv1_3
    have qv2_4 := (hb4.cell (p := ⟨w1.heap.size, 2, none⟩) zv_3).trans qv2_3
    have zv_4 := Nat.lt_of_lt_of_le zv_3 hb4.size
    have qy0_4 := (hb4.cell (p := ⟨w1.heap.size + 1, 0, none⟩) zy_3).trans qy0_3
    have qy1_4 := (hb4.cell (p := ⟨w1.heap.size + 1, 1, none⟩) zy_3).trans qy1_3
    have qy2_4 := (hb4.cell (p := ⟨w1.heap.size + 1, 2, none⟩) zy_3).trans qy2_3
    have zy_4 := Nat.lt_of_lt_of_le zy_3 hb4.size
    have V_4 := Lib.hid (V_3.out.keep hb4)
    have Y_4 := Lib.hid (Y_3.out.keep hb4)
    clear qv0_3 qv1_3 qv2_3 zv_3 qy0_3 qy1_3 qy2_3 zy_3 V_3 Y_3
    go_wp2_with fail
    refine (HVC.out _ _ _ Y_4.out.rowI V_4.out.rowI).mono ?_
    rintro e w5 ⟨rfl, hb5⟩
    have H5 := bel_trans H4 hb5
    have SZ5 := Lib.hid hb5.size
    have qv0_5 := (hb5.cell (p := ⟨w1.heap.size, 0, none⟩) zv_4).trans qv0_4
    have qv1_5 := (hb5.cell (p := ⟨w1.heap.size, 1, none⟩) zv_4).trans qv1_4
    have qv2_5 := (hb5.cell (p := ⟨w1.heap.size, 2, none⟩) zv_4).trans qv2_4
    have zv_5 := Nat.lt_of_lt_of_le zv_4 hb5.size
    have qy0_5 := (hb5.cell (p := ⟨w1.heap.size + 1, 0, none⟩) zy_4).trans qy0_4
    have qy1_5 := (hb5.cell (p := ⟨w1.heap.size + 1, 1, none⟩) zy_4).trans qy1_4
    have qy2_5 := (hb5.cell (p := ⟨w1.heap.size + 1, 2, none⟩) zy_4).trans qy2_4
    have zy_5 := Nat.lt_of_lt_of_le zy_4 hb5.size
    have V_5 := Lib.hid (V_4.out.keep hb5)
    have Y_5 := Lib.hid (Y_4.out.keep hb5)
    clear qv0_4 qv1_4 qv2_4 zv_4 qy0_4 qy1_4 qy2_4 zy_4 V_4 Y_4
    go_wp2_with fail
    refine (HVD.out _ _ _ V_5.out.rowI V_5.out.rowI).mono ?_
    rintro e w6 ⟨rfl, hb6⟩
    have H6 := bel_trans H5 hb6
    have SZ6 := Lib.hid hb6.size
    have qv0_6 := (hb6.cell (p := ⟨w1.heap.size, 0, none⟩) zv_5).trans qv0_5
    have qv1_6 := (hb6.cell (p := ⟨w1.heap.size, 1, none⟩) zv_5).trans qv1_5
    have qv2_6 := (hb6.cell (p := ⟨w1.heap.size, 2, none⟩) zv_5).trans qv2_5
    have zv_6 := Nat.lt_of_lt_of_le zv_5 hb6.size
    have qy0_6 := (hb6.cell (p := ⟨w1.heap.size + 1, 0, none⟩) zy_5).trans qy0_5
    have qy1_6 := (hb6.cell (p := ⟨w1.heap.size + 1, 1, none⟩) zy_5).trans qy1_5
    have qy2_6 := (hb6.cell (p := ⟨w1.heap.size + 1, 2, none⟩) zy_5).trans qy2_5
    have zy_6 := Nat.lt_of_lt_of_le zy_5 hb6.size
    have V_6 := Lib.hid (V_5.out.keep hb6)
    have Y_6 := Lib.hid (Y_5.out.keep hb6)
    clear qv0_5 qv1_5 qv2_5 zv_5 qy0_5 qy1_5 qy2_5 zy_5 V_5 Y_5
    go_wp2
    go_ret
    exact ⟨by first | rfl | simp, H6⟩

set_option maxRecDepth 100000 in
theorem lifted (os : Os) (started : os.Started) (H : Type) (enc : TypeId × Value → H) :
    ReturnsInHanded {} Try.checked os 3 .any (Rows.fnViewSameSpec.pre6 enc Try.prog Try.f3 Rows.fnViewSameRow.domain false) (Rows.fnViewSameSpec.post enc Try.prog Try.f3 false true false false) := by
  refine returnsInHanded_of_change (C := Try.checked) own started (by kernel_rfl) Try.func3
    (ChangeSpec.witness6 (enc := enc) (C := Try.checked) false ⟨#[], #[.slice none 0 0], []⟩ 8 (by kernel_rfl) (by kernel_rfl) (by kernel_rfl) (by kernel_rfl)) ?_
  intro W base args ds gs before hval0 hW hcnd _
  have hval : ∀ (j : Nat) t v, Try.f3.params[j]? = some t → args[j]? = some v → Value.okWide Try.prog W .any base t v := hval0
  have hW' := hW
  obtain ⟨p, q, hA0, hV, rfl, hfz, hnd⟩ := hW
  have hA : DataW.TrodAll enc Try.prog W 0 (fun _ => true) true Try.f3.params.toList args.toList ds p := hA0
  rw [Try.params3] at hA hval
  obtain ⟨v0, vs0, d0, ds0, p0, q0, hargs, rfl, rfl, h0, r0⟩ := trodAll_cons hA
  obtain ⟨rfl, rfl, rfl⟩ := trodAll_nil r0
  obtain rfl : args = #[v0] := by cases args; simp_all
  obtain ⟨rfl, rfl⟩ := trodVars_none hV
  obtain ⟨a0, len0, cap0, rfl⟩ := okWide_slice Try.underlying22 (hval 0 22 v0 rfl rfl)
  have k0 := h0
  have lt0 : ∀ x ∈ p0, x.block < W.heap.size := by obtain ⟨m, hm⟩ := k0; exact DataW.trod_lt m _ _ _ hm
  obtain ⟨z0, w0⟩ : ∃ zs, IsRow .u8 W a0 len0 cap0 zs := by
    obtain ⟨fuel, hf⟩ := h0
    rcases open_ints Try.underlying22 Try.underlying5 (by kernel_rfl) hf with ⟨hcs, _⟩ | ⟨x, l, c, zs, hcs, _, hl, hm, hz, _, hcell, hwz⟩
    · simp [Value.cells] at hcs
      obtain ⟨rfl, rfl, rfl⟩ := hcs
      exact ⟨[], .inl ⟨rfl, rfl, rfl, rfl⟩⟩
    · simp [Value.cells] at hcs
      obtain ⟨rfl, rfl, rfl⟩ := hcs
      exact ⟨zs, .inr ⟨_, rfl, hl, hm, by simpa using hz, hcell, hwz⟩⟩
  clear hA0 hval0
  refine (walk a0 len0 cap0 z0 W w0).mono fun e W' ⟨he, bel⟩ => ?_
  subst he
  exact ⟨_, rfl, _, _, _, [], _, [], hW', trodAll_mk1 (shut_bool Try.underlying4 _), (trodAll_cons_mk (Below.trod laidOut (by kernel_rfl) (of_decide_eq_true (by kernel_rfl)) k0 bel lt0) trodAll_mk0), rfl, bel.frame _, fun h => by cases h⟩

theorem over : Rows.fnViewSameRow.holds Try.pinned (OpenSpec.ofChange Rows.fnViewSameSpec) :=
  OpenClaim.holds_of_wide 3 Try.f3 rfl rfl rfl rfl rfl rfl rfl ⟨rfl, rfl, rfl, rfl, rfl⟩ rfl rfl rfl rfl rfl (by kernel_rfl) Try.func3 (by kernel_rfl)
    (of_decide_eq_true (by kernel_rfl)) (by unfold Func.isWrapper; first | (rw [if_pos (by decide +kernel)]; kernel_rfl) | (rw [if_neg (by decide +kernel)]; exact ⟨rfl, rfl⟩))
    (fun os started H enc _ => lifted os started H enc)

theorem proved : Rows.FnViewSameSaid := over
end Go.Proofs.Ytjpikbbpmbeckaa.fnViewSame
