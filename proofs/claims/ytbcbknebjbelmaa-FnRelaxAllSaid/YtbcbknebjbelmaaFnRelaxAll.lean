/-
  Proved: relaxing makes no value worse and no edge is loose for the values before it (the law FnRelaxAll returns true for every input and leaves it as it was), with no further condition.
-/
import Derived.Test.YtbcbknebjbelmaaRows
import Derived.Test.YtbcbknebjbelmaaDrawsV
import Derived.Test.YtbcbknebjbelmaaRelaxT
import Derived.Test.YtbcbknebjbelmaaImpl2
import Derived.Test.YtbcbknebjbelmaaStartL
import Derived.Test.YtbcbknebjbelmaaBestB
import Derived.WalkKit
import Derived.ProofKit
import Derived.OpenShut
import Derived.ShutString
import Derived.ChangeOld
import Derived.Below
namespace Go.Proofs.Ytbcbknebjbelmaa.fnRelaxAll
open Go.Proofs.Ytbcbknebjbelmaa Go.BigFrame
open Go.ChangeShapes Go.WideShapes Go.ChangeAt Go.RowKit
open Go.ChangeMaps (open_string shut_string)
set_option linter.unusedVariables false

theorem own : ownKnob Try.prog.godebug = none := by kernel_rfl
theorem laidOut : laidOutB Try.prog = true := by kernel_rfl

def IsRow (k : IntKind) (w : World) (a : Option Addr) (len cap : Nat) (zs : List Int) : Prop :=
  (a = none ∧ len = 0 ∧ cap = 0 ∧ zs = []) ∨
  ∃ x, a = some x ∧ len ≤ cap ∧ cap ≤ maxLen ∧ zs.length = cap ∧ (∀ i, i < zs.length → w.cell? (x.add i) = some (.int k (zs.getD i 0))) ∧ ∀ n ∈ zs, (Lit.int k n).wf = true

theorem bytes_of {w : World} {a : Option Addr} {len cap : Nat} {zs : List Int} (h : IsRow .u8 w a len cap zs) : Bytes w a len ∧ len ≤ cap ∧ len ≤ 9223372036854775807 := by
  rcases h with ⟨rfl, rfl, rfl, rfl⟩ | ⟨x, rfl, hl, hm, hz, hc, hw⟩
  · exact ⟨.inl rfl, Nat.le_refl _, by omega⟩
  · unfold maxLen at hm
    refine ⟨?_, hl, by omega⟩
    by_cases h0 : len = 0
    · exact .inl h0
    · obtain ⟨b, off, rfl, hc'⟩ := ints_at hc (by omega)
      exact .inr ⟨b, off, rfl, World.block_lt_of_cell? _ _ (hc' 0 (by omega)), fun i hi => ⟨zs[i]?.getD 0, (range_u8 hw i).1, (range_u8 hw i).2, hc' i (by omega)⟩⟩

set_option maxRecDepth 100000 in
set_option maxHeartbeats 4000000 in
theorem walk (a0 : Option Addr) (len0 cap0 : Nat) (z0 : List Int) (w : World) (w0 : IsRow .u8 w a0 len0 cap0 z0) :
    Calls Try.prog 6 #[.slice a0 len0 cap0] w fun e w' => e = .returned (.bool true) ∧ Below w.heap.size w w' := by
  obtain ⟨hby, hcp, hn⟩ := bytes_of w0
  have HB0 := Lib.hid hby
  clear hby w0
  by_cases h0 : 1048576 < len0
  · go_enter Try.func6, Try.ntmps6
    go_wp2
    go_ret
    exact ⟨rfl, Below.refl _ _⟩
  have h0' : len0 ≤ 1048576 := by omega
  clear h0
  obtain ⟨w0, hw0⟩ : ∃ w0, w0 = w := ⟨_, rfl⟩
  subst hw0
  have H0 := Below.refl w0.heap.size w0
  go_enter Try.func6, Try.ntmps6
  go_wp2_with fail
  refine (dDrawRelaxAll a0 len0 cap0 _ HB0.out hcp (by omega)).mono ?_
  rintro e w1 ⟨n, es, gs, m, src, zs, vs, rfl, hle, hrG, hrV, hb1⟩
  have H1 := bel_trans H0 hb1
  have SZ1 := Lib.hid hb1.size
  obtain ⟨va, vc, rfl, hz9⟩ := id hrG.1
  obtain ⟨vb, vd, rfl, hz8⟩ := id hrV.1
  clear hz9 hz8
  have G_1 := Lib.hid (hrG.1)
  have V_1 := Lib.hid hrV.1
  have hle1 := hle.1
  have hle2 := hle.2
  clear hrG hrV hle
  go_wp2_with fail
  have hb2 : Below w1.heap.size w1 ((w1.alloc (.cells #[.int .i64 n, .slice va es.length vc] 25)).alloc (.cells #[.int .i64 m, .int .i64 src, .slice vb zs.length vd] 28)) := ((Below.refl _ _).alloc (by simp <;> omega) _).alloc (by simp <;> omega) _
  have H2 := bel_trans H1 hb2
  have SZ2 := Lib.hid hb2.size
  have G_2 := Lib.hid (G_1.out.keep hb2)
  have V_2 := Lib.hid (V_1.out.keep hb2)
  have qg0_2 : ((w1.alloc (.cells #[.int .i64 n, .slice va es.length vc] 25)).alloc (.cells #[.int .i64 m, .int .i64 src, .slice vb zs.length vd] 28)).cell? ⟨w1.heap.size, 0, none⟩ = some (.int .i64 n) := by go_simp
  have qg1_2 : ((w1.alloc (.cells #[.int .i64 n, .slice va es.length vc] 25)).alloc (.cells #[.int .i64 m, .int .i64 src, .slice vb zs.length vd] 28)).cell? ⟨w1.heap.size, 1, none⟩ = some (.slice va es.length vc) := by go_simp
  have zg_2 : w1.heap.size < ((w1.alloc (.cells #[.int .i64 n, .slice va es.length vc] 25)).alloc (.cells #[.int .i64 m, .int .i64 src, .slice vb zs.length vd] 28)).heap.size := by simp <;> omega
  have qv0_2 : ((w1.alloc (.cells #[.int .i64 n, .slice va es.length vc] 25)).alloc (.cells #[.int .i64 m, .int .i64 src, .slice vb zs.length vd] 28)).cell? ⟨w1.heap.size + 1, 0, none⟩ = some (.int .i64 m) := by go_simp
  have qv1_2 : ((w1.alloc (.cells #[.int .i64 n, .slice va es.length vc] 25)).alloc (.cells #[.int .i64 m, .int .i64 src, .slice vb zs.length vd] 28)).cell? ⟨w1.heap.size + 1, 1, none⟩ = some (.int .i64 src) := by go_simp
  have qv2_2 : ((w1.alloc (.cells #[.int .i64 n, .slice va es.length vc] 25)).alloc (.cells #[.int .i64 m, .int .i64 src, .slice vb zs.length vd] 28)).cell? ⟨w1.heap.size + 1, 2, none⟩ = some (.slice vb zs.length vd) := by go_simp
  have zv_2 : w1.heap.size + 1 < ((w1.alloc (.cells #[.int .i64 n, .slice va es.length vc] 25)).alloc (.cells #[.int .i64 m, .int .i64 src, .slice vb zs.length vd] 28)).heap.size := by simp <;> omega
  generalize ((w1.alloc (.cells #[.int .i64 n, .slice va es.length vc] 25)).alloc (.cells #[.int .i64 m, .int .i64 src, .slice vb zs.length vd] 28)) = w2 at hb2 H2 SZ2 G_2 V_2 qg0_2 qg1_2 qv0_2 qv1_2 qv2_2 zg_2 zv_2 ⊢
  have ZBg := Lib.hid zg_2
  have ZBv := Lib.hid zv_2
  clear G_1 V_1
  have hlE : es.length ≤ 281474976710656 := by omega
  have hlZ : zs.length ≤ 281474976710656 := by omega
  have hst := fun s t w (h : RowE w s es) (k : Row w t zs) => relaxAll n m src es zs s t w h k hlE hlZ
  have hss := fun s t w (h : RowE w s es) (k : Row w t zs) => sRelaxAll n m src es zs s t w h k hlE hlZ
  cases hV : vVal n es m src zs
  · rw [show rxM n es m src zs = 0 by unfold rxM; rw [hV]; rfl, show rxA n es m src zs = 0 by unfold rxA; rw [hV]; rfl, show rxL n es m src zs = [] by unfold rxL; rw [hV]; rfl, hV] at hst hss
    have HST := Lib.hid hst
    have HSS := Lib.hid hss
    clear hst hss hV
    go_wp2_with fail
    refine (HST.out _ _ _ G_2.out.edges V_2.out.rowI).mono ?_
    rintro e w3 ⟨vx, rfl, howx, hokx, hb3⟩
    have H3 := bel_trans H2 hb3
    have SZ3 := Lib.hid hb3.size
    have qg0_3 := (hb3.cell (p := ⟨w1.heap.size, 0, none⟩) zg_2).trans qg0_2
    have qg1_3 := (hb3.cell (p := ⟨w1.heap.size, 1, none⟩) zg_2).trans qg1_2
    have zg_3 := Nat.lt_of_lt_of_le zg_2 hb3.size
    have qv0_3 := (hb3.cell (p := ⟨w1.heap.size + 1, 0, none⟩) zv_2).trans qv0_2
    have qv1_3 := (hb3.cell (p := ⟨w1.heap.size + 1, 1, none⟩) zv_2).trans qv1_2
    have qv2_3 := (hb3.cell (p := ⟨w1.heap.size + 1, 2, none⟩) zv_2).trans qv2_2
    have zv_3 := Nat.lt_of_lt_of_le zv_2 hb3.size
    have G_3 := Lib.hid (G_2.out.keep hb3)
    have V_3 := Lib.hid (V_2.out.keep hb3)
    obtain ⟨ax, cx, rfl, hz9⟩ := id howx
    clear hz9 hokx
    have X_3 := Lib.hid (show InR true w3 w2.heap.size w3.heap.size _ ([] : List Int).length 1 (cellI ([] : List Int)) from howx)
    clear zg_2 V_2 zv_2 qv0_2 qv1_2 G_2 qg1_2 qg0_2 qv2_2
    clear howx
    go_wp2_with fail
    have hb4 : Below w3.heap.size w3 (w3.alloc (.cells #[.int .i64 0, .int .i64 0, .slice ax ([] : List Int).length cx] 28)) := (Below.refl _ _).alloc (by simp <;> omega) _
    have H4 := bel_trans H3 hb4
    have SZ4 := Lib.hid hb4.size
    have qg0_4 := (hb4.cell (p := ⟨w1.heap.size, 0, none⟩) zg_3).trans qg0_3
    have qg1_4 := (hb4.cell (p := ⟨w1.heap.size, 1, none⟩) zg_3).trans qg1_3
    have zg_4 := Nat.lt_of_lt_of_le zg_3 hb4.size
    have qv0_4 := (hb4.cell (p := ⟨w1.heap.size + 1, 0, none⟩) zv_3).trans qv0_3
    have qv1_4 := (hb4.cell (p := ⟨w1.heap.size + 1, 1, none⟩) zv_3).trans qv1_3
    have qv2_4 := (hb4.cell (p := ⟨w1.heap.size + 1, 2, none⟩) zv_3).trans qv2_3
    have zv_4 := Nat.lt_of_lt_of_le zv_3 hb4.size
    have G_4 := Lib.hid (G_3.out.keep hb4)
    have V_4 := Lib.hid (V_3.out.keep hb4)
    have X_4 := Lib.hid (X_3.out.keep hb4)
    have qx0_4 : (w3.alloc (.cells #[.int .i64 0, .int .i64 0, .slice ax ([] : List Int).length cx] 28)).cell? ⟨w3.heap.size, 0, none⟩ = some (.int .i64 0) := by go_simp
    have qx1_4 : (w3.alloc (.cells #[.int .i64 0, .int .i64 0, .slice ax ([] : List Int).length cx] 28)).cell? ⟨w3.heap.size, 1, none⟩ = some (.int .i64 0) := by go_simp
    have qx2_4 : (w3.alloc (.cells #[.int .i64 0, .int .i64 0, .slice ax ([] : List Int).length cx] 28)).cell? ⟨w3.heap.size, 2, none⟩ = some (.slice ax ([] : List Int).length cx) := by go_simp
    have zx_4 : w3.heap.size < (w3.alloc (.cells #[.int .i64 0, .int .i64 0, .slice ax ([] : List Int).length cx] 28)).heap.size := by simp <;> omega
    generalize (w3.alloc (.cells #[.int .i64 0, .int .i64 0, .slice ax ([] : List Int).length cx] 28)) = w4 at hb4 H4 SZ4 G_4 V_4 X_4 qg0_4 qg1_4 qv0_4 qv1_4 qv2_4 qx0_4 qx1_4 qx2_4 zg_4 zv_4 zx_4 ⊢
    have ZBx := Lib.hid zx_4
    clear qg0_3 qg1_3 zg_3 qv0_3 qv1_3 qv2_3 zv_3 G_3 V_3 X_3
    refine (HSS.out _ _ _ G_4.out.edges V_4.out.rowI).mono ?_
    rintro e w5 ⟨vy, rfl, howy, hoky, hb5⟩
    have H5 := bel_trans H4 hb5
    have SZ5 := Lib.hid hb5.size
    have qg0_5 := (hb5.cell (p := ⟨w1.heap.size, 0, none⟩) zg_4).trans qg0_4
    have qg1_5 := (hb5.cell (p := ⟨w1.heap.size, 1, none⟩) zg_4).trans qg1_4
    have zg_5 := Nat.lt_of_lt_of_le zg_4 hb5.size
    have qv0_5 := (hb5.cell (p := ⟨w1.heap.size + 1, 0, none⟩) zv_4).trans qv0_4
    have qv1_5 := (hb5.cell (p := ⟨w1.heap.size + 1, 1, none⟩) zv_4).trans qv1_4
    have qv2_5 := (hb5.cell (p := ⟨w1.heap.size + 1, 2, none⟩) zv_4).trans qv2_4
    have zv_5 := Nat.lt_of_lt_of_le zv_4 hb5.size
    have qx0_5 := (hb5.cell (p := ⟨w3.heap.size, 0, none⟩) zx_4).trans qx0_4
    have qx1_5 := (hb5.cell (p := ⟨w3.heap.size, 1, none⟩) zx_4).trans qx1_4
    have qx2_5 := (hb5.cell (p := ⟨w3.heap.size, 2, none⟩) zx_4).trans qx2_4
    have zx_5 := Nat.lt_of_lt_of_le zx_4 hb5.size
    have G_5 := Lib.hid (G_4.out.keep hb5)
    have V_5 := Lib.hid (V_4.out.keep hb5)
    have X_5 := Lib.hid (X_4.out.keep hb5)
    obtain ⟨ay, cy, rfl, hz9⟩ := id howy
    clear hz9 hoky
    have Y_5 := Lib.hid (show InR true w5 w4.heap.size w5.heap.size _ ([] : List Int).length 1 (cellI ([] : List Int)) from howy)
    clear qg0_4 qg1_4 zg_4 qv0_4 qv1_4 qv2_4 zv_4 G_4 V_4 X_4 qx0_4 qx1_4 qx2_4 zx_4
    clear howy
    go_wp2_with fail
    have hb6 : Below w5.heap.size w5 (w5.alloc (.cells #[.int .i64 0, .int .i64 0, .slice ay ([] : List Int).length cy] 28)) := (Below.refl _ _).alloc (by simp <;> omega) _
    have H6 := bel_trans H5 hb6
    have SZ6 := Lib.hid hb6.size
    have qg0_6 := (hb6.cell (p := ⟨w1.heap.size, 0, none⟩) zg_5).trans qg0_5
    have qg1_6 := (hb6.cell (p := ⟨w1.heap.size, 1, none⟩) zg_5).trans qg1_5
    have zg_6 := Nat.lt_of_lt_of_le zg_5 hb6.size
    have qv0_6 := (hb6.cell (p := ⟨w1.heap.size + 1, 0, none⟩) zv_5).trans qv0_5
    have qv1_6 := (hb6.cell (p := ⟨w1.heap.size + 1, 1, none⟩) zv_5).trans qv1_5
    have qv2_6 := (hb6.cell (p := ⟨w1.heap.size + 1, 2, none⟩) zv_5).trans qv2_5
    have zv_6 := Nat.lt_of_lt_of_le zv_5 hb6.size
    have qx0_6 := (hb6.cell (p := ⟨w3.heap.size, 0, none⟩) zx_5).trans qx0_5
    have qx1_6 := (hb6.cell (p := ⟨w3.heap.size, 1, none⟩) zx_5).trans qx1_5
    have qx2_6 := (hb6.cell (p := ⟨w3.heap.size, 2, none⟩) zx_5).trans qx2_5
    have zx_6 := Nat.lt_of_lt_of_le zx_5 hb6.size
    have G_6 := Lib.hid (G_5.out.keep hb6)
    have V_6 := Lib.hid (V_5.out.keep hb6)
    have X_6 := Lib.hid (X_5.out.keep hb6)
    have Y_6 := Lib.hid (Y_5.out.keep hb6)
    have qy0_6 : (w5.alloc (.cells #[.int .i64 0, .int .i64 0, .slice ay ([] : List Int).length cy] 28)).cell? ⟨w5.heap.size, 0, none⟩ = some (.int .i64 0) := by go_simp
    have qy1_6 : (w5.alloc (.cells #[.int .i64 0, .int .i64 0, .slice ay ([] : List Int).length cy] 28)).cell? ⟨w5.heap.size, 1, none⟩ = some (.int .i64 0) := by go_simp
    have qy2_6 : (w5.alloc (.cells #[.int .i64 0, .int .i64 0, .slice ay ([] : List Int).length cy] 28)).cell? ⟨w5.heap.size, 2, none⟩ = some (.slice ay ([] : List Int).length cy) := by go_simp
    have zy_6 : w5.heap.size < (w5.alloc (.cells #[.int .i64 0, .int .i64 0, .slice ay ([] : List Int).length cy] 28)).heap.size := by simp <;> omega
    generalize (w5.alloc (.cells #[.int .i64 0, .int .i64 0, .slice ay ([] : List Int).length cy] 28)) = w6 at hb6 H6 SZ6 G_6 V_6 X_6 Y_6 qg0_6 qg1_6 qv0_6 qv1_6 qv2_6 qx0_6 qx1_6 qx2_6 qy0_6 qy1_6 qy2_6 zg_6 zv_6 zx_6 zy_6 ⊢
    have ZBy := Lib.hid zy_6
    clear qg0_5 qg1_5 zg_5 qv0_5 qv1_5 qv2_5 zv_5 qx0_5 qx1_5 qx2_5 zx_5 G_5 V_5 X_5 Y_5
    refine (viewSame 0 0 0 0 [] [] _ _ _ X_6.out.rowI Y_6.out.rowI (by simp) (by simp)).mono ?_
    rintro e w7 ⟨rfl, hb7⟩
    have H7 := bel_trans H6 hb7
    have SZ7 := Lib.hid hb7.size
    have qg0_7 := (hb7.cell (p := ⟨w1.heap.size, 0, none⟩) zg_6).trans qg0_6
    have qg1_7 := (hb7.cell (p := ⟨w1.heap.size, 1, none⟩) zg_6).trans qg1_6
    have zg_7 := Nat.lt_of_lt_of_le zg_6 hb7.size
    have qv0_7 := (hb7.cell (p := ⟨w1.heap.size + 1, 0, none⟩) zv_6).trans qv0_6
    have qv1_7 := (hb7.cell (p := ⟨w1.heap.size + 1, 1, none⟩) zv_6).trans qv1_6
    have qv2_7 := (hb7.cell (p := ⟨w1.heap.size + 1, 2, none⟩) zv_6).trans qv2_6
    have zv_7 := Nat.lt_of_lt_of_le zv_6 hb7.size
    have qx0_7 := (hb7.cell (p := ⟨w3.heap.size, 0, none⟩) zx_6).trans qx0_6
    have qx1_7 := (hb7.cell (p := ⟨w3.heap.size, 1, none⟩) zx_6).trans qx1_6
    have qx2_7 := (hb7.cell (p := ⟨w3.heap.size, 2, none⟩) zx_6).trans qx2_6
    have zx_7 := Nat.lt_of_lt_of_le zx_6 hb7.size
    have qy0_7 := (hb7.cell (p := ⟨w5.heap.size, 0, none⟩) zy_6).trans qy0_6
    have qy1_7 := (hb7.cell (p := ⟨w5.heap.size, 1, none⟩) zy_6).trans qy1_6
    have qy2_7 := (hb7.cell (p := ⟨w5.heap.size, 2, none⟩) zy_6).trans qy2_6
    have zy_7 := Nat.lt_of_lt_of_le zy_6 hb7.size
    have G_7 := Lib.hid (G_6.out.keep hb7)
    have V_7 := Lib.hid (V_6.out.keep hb7)
    have X_7 := Lib.hid (X_6.out.keep hb7)
    have Y_7 := Lib.hid (Y_6.out.keep hb7)
    clear qg0_6 qg1_6 zg_6 qv0_6 qv1_6 qv2_6 zv_6 qx0_6 qx1_6 qx2_6 zx_6 G_6 V_6 X_6 Y_6 qy0_6 qy1_6 qy2_6 zy_6
    go_wp2_with fail
    refine (viewSame 0 0 0 0 [] [] _ _ _ X_7.out.rowI Y_7.out.rowI (by simp) (by simp)).mono ?_
    rintro e w8 ⟨rfl, hb8⟩
    have H8 := bel_trans H7 hb8
    have SZ8 := Lib.hid hb8.size
    have qg0_8 := (hb8.cell (p := ⟨w1.heap.size, 0, none⟩) zg_7).trans qg0_7
    have qg1_8 := (hb8.cell (p := ⟨w1.heap.size, 1, none⟩) zg_7).trans qg1_7
    have zg_8 := Nat.lt_of_lt_of_le zg_7 hb8.size
    have qv0_8 := (hb8.cell (p := ⟨w1.heap.size + 1, 0, none⟩) zv_7).trans qv0_7
    have qv1_8 := (hb8.cell (p := ⟨w1.heap.size + 1, 1, none⟩) zv_7).trans qv1_7
    have qv2_8 := (hb8.cell (p := ⟨w1.heap.size + 1, 2, none⟩) zv_7).trans qv2_7
    have zv_8 := Nat.lt_of_lt_of_le zv_7 hb8.size
    have qx0_8 := (hb8.cell (p := ⟨w3.heap.size, 0, none⟩) zx_7).trans qx0_7
    have qx1_8 := (hb8.cell (p := ⟨w3.heap.size, 1, none⟩) zx_7).trans qx1_7
    have qx2_8 := (hb8.cell (p := ⟨w3.heap.size, 2, none⟩) zx_7).trans qx2_7
    have zx_8 := Nat.lt_of_lt_of_le zx_7 hb8.size
    have qy0_8 := (hb8.cell (p := ⟨w5.heap.size, 0, none⟩) zy_7).trans qy0_7
    have qy1_8 := (hb8.cell (p := ⟨w5.heap.size, 1, none⟩) zy_7).trans qy1_7
    have qy2_8 := (hb8.cell (p := ⟨w5.heap.size, 2, none⟩) zy_7).trans qy2_7
    have zy_8 := Nat.lt_of_lt_of_le zy_7 hb8.size
    have G_8 := Lib.hid (G_7.out.keep hb8)
    have V_8 := Lib.hid (V_7.out.keep hb8)
    have X_8 := Lib.hid (X_7.out.keep hb8)
    have Y_8 := Lib.hid (Y_7.out.keep hb8)
    clear qg0_7 qg1_7 zg_7 qv0_7 qv1_7 qv2_7 zv_7 qx0_7 qx1_7 qx2_7 zx_7 qy0_7 qy1_7 qy2_7 zy_7 G_7 V_7 X_7 Y_7
    go_wp2
    go_ret
    exact ⟨rfl, H8⟩
  · rw [show rxM n es m src zs = m by unfold rxM; rw [if_pos hV], show rxA n es m src zs = src by unfold rxA; rw [if_pos hV], show rxL n es m src zs = vRelax m es zs by unfold rxL; rw [if_pos hV], hV] at hst hss
    obtain ⟨hgv, hsr, hlen, hmk, hall⟩ := vVal_parts hV
    obtain ⟨hm, hz0, hz12, hz40, hva, hea⟩ := vVal_use hV
    obtain ⟨N, hN⟩ : ∃ N : Nat, n = N := ⟨n.toNat, by omega⟩
    subst hN
    obtain ⟨A, hA⟩ : ∃ A : Nat, src = A := ⟨src.toNat, by omega⟩
    subst hA
    have hNz : zs.length = N := by omega
    have hAN : A < N := by omega
    have hN12 : N ≤ 12 := by omega
    have hea2 : eAll N es := by rw [hNz] at hea; exact hea
    have hfold := (vFold_at hmk hva es zs rfl hea hva).2
    have hrall := vRelax_all hmk hva hea
    obtain ⟨L, hL⟩ : ∃ L, L = vRelax m es zs := ⟨_, rfl⟩
    have hfold2 : ∀ v, v < zs.length → mBet m (zs.getD v 0) (L.getD v 0) = false ∧ ∀ e ∈ es, e.2.1.toNat = v → mBet m (vGive m zs e) (L.getD v 0) = false := fun v h => by rw [hL]; exact ⟨(hfold v h).1, (hfold v h).2.1⟩
    have hlL : L.length = N := by rw [hL, vRelax_length, hNz]
    rw [← hL] at hst hss hrall
    have hvx : vVal (N : Int) es m (A : Int) L = true := vVal_mk hgv hsr hmk (by omega) hrall
    have hvv := fun s t w (h : RowE w s es) (k : Row w t L) => viewValid (N : Int) m (A : Int) es L s t w h k hlE (by omega)
    rw [hvx] at hvv
    have HST := Lib.hid hst
    have HSS := Lib.hid hss
    have HVV := Lib.hid hvv
    have HLL := Lib.hid hlL
    have HNZ := Lib.hid hNz
    have HFO := Lib.hid hfold2
    have HVA := Lib.hid hva
    have HMK := Lib.hid hmk
    have HEA := Lib.hid hea2
    clear hst hss hvv hvx hlL hNz hfold hfold2 hva hmk hea hea2 hV hgv hsr hlen hall hL hrall hm
    obtain ⟨_, _, hva9, hz9⟩ := id V_2.out
    injection hva9 with hv1 hv2 hv3
    subst hv1
    clear hv2 hv3
    rcases hz9 with hz9 | ⟨bv, ov, rfl, hr1, hr2, hr3, hrc⟩
    · have := HNZ.out; omega
    have hcl : ∀ k : Nat, k < N → w2.cell? ⟨bv, ov + k, none⟩ = some (.int .i64 (zs.getD k 0)) := fun k h => (hrc k (by have := HNZ.out; omega)).1
    have HCV := Lib.hid (And.intro hcl (show bv < w2.heap.size by omega))
    clear hcl hrc hr1 hr2 hr3
    go_wp2_with fail
    refine (HST.out _ _ _ G_2.out.edges V_2.out.rowI).mono ?_
    rintro e w3 ⟨vx, rfl, howx, hokx, hb3⟩
    have H3 := bel_trans H2 hb3
    have SZ3 := Lib.hid hb3.size
    have qg0_3 := (hb3.cell (p := ⟨w1.heap.size, 0, none⟩) zg_2).trans qg0_2
    have qg1_3 := (hb3.cell (p := ⟨w1.heap.size, 1, none⟩) zg_2).trans qg1_2
    have zg_3 := Nat.lt_of_lt_of_le zg_2 hb3.size
    have qv0_3 := (hb3.cell (p := ⟨w1.heap.size + 1, 0, none⟩) zv_2).trans qv0_2
    have qv1_3 := (hb3.cell (p := ⟨w1.heap.size + 1, 1, none⟩) zv_2).trans qv1_2
    have qv2_3 := (hb3.cell (p := ⟨w1.heap.size + 1, 2, none⟩) zv_2).trans qv2_2
    have zv_3 := Nat.lt_of_lt_of_le zv_2 hb3.size
    have G_3 := Lib.hid (G_2.out.keep hb3)
    have V_3 := Lib.hid (V_2.out.keep hb3)
    obtain ⟨ax, cx, rfl, hz9⟩ := id howx
    clear hz9 hokx
    have X_3 := Lib.hid (show InR true w3 w2.heap.size w3.heap.size _ L.length 1 (cellI L) from howx)
    clear zg_2 V_2 zv_2 qv0_2 qv1_2 G_2 qg1_2 qg0_2 qv2_2
    clear howx
    go_wp2_with fail
    have hb4 : Below w3.heap.size w3 (w3.alloc (.cells #[.int .i64 m, .int .i64 A, .slice ax L.length cx] 28)) := (Below.refl _ _).alloc (by simp <;> omega) _
    have H4 := bel_trans H3 hb4
    have SZ4 := Lib.hid hb4.size
    have qg0_4 := (hb4.cell (p := ⟨w1.heap.size, 0, none⟩) zg_3).trans qg0_3
    have qg1_4 := (hb4.cell (p := ⟨w1.heap.size, 1, none⟩) zg_3).trans qg1_3
    have zg_4 := Nat.lt_of_lt_of_le zg_3 hb4.size
    have qv0_4 := (hb4.cell (p := ⟨w1.heap.size + 1, 0, none⟩) zv_3).trans qv0_3
    have qv1_4 := (hb4.cell (p := ⟨w1.heap.size + 1, 1, none⟩) zv_3).trans qv1_3
    have qv2_4 := (hb4.cell (p := ⟨w1.heap.size + 1, 2, none⟩) zv_3).trans qv2_3
    have zv_4 := Nat.lt_of_lt_of_le zv_3 hb4.size
    have G_4 := Lib.hid (G_3.out.keep hb4)
    have V_4 := Lib.hid (V_3.out.keep hb4)
    have X_4 := Lib.hid (X_3.out.keep hb4)
    have qx0_4 : (w3.alloc (.cells #[.int .i64 m, .int .i64 A, .slice ax L.length cx] 28)).cell? ⟨w3.heap.size, 0, none⟩ = some (.int .i64 m) := by go_simp
    have qx1_4 : (w3.alloc (.cells #[.int .i64 m, .int .i64 A, .slice ax L.length cx] 28)).cell? ⟨w3.heap.size, 1, none⟩ = some (.int .i64 A) := by go_simp
    have qx2_4 : (w3.alloc (.cells #[.int .i64 m, .int .i64 A, .slice ax L.length cx] 28)).cell? ⟨w3.heap.size, 2, none⟩ = some (.slice ax L.length cx) := by go_simp
    have zx_4 : w3.heap.size < (w3.alloc (.cells #[.int .i64 m, .int .i64 A, .slice ax L.length cx] 28)).heap.size := by simp <;> omega
    generalize (w3.alloc (.cells #[.int .i64 m, .int .i64 A, .slice ax L.length cx] 28)) = w4 at hb4 H4 SZ4 G_4 V_4 X_4 qg0_4 qg1_4 qv0_4 qv1_4 qv2_4 qx0_4 qx1_4 qx2_4 zg_4 zv_4 zx_4 ⊢
    have ZBx := Lib.hid zx_4
    clear qg0_3 qg1_3 zg_3 qv0_3 qv1_3 qv2_3 zv_3 G_3 V_3 X_3
    refine (HSS.out _ _ _ G_4.out.edges V_4.out.rowI).mono ?_
    rintro e w5 ⟨vy, rfl, howy, hoky, hb5⟩
    have H5 := bel_trans H4 hb5
    have SZ5 := Lib.hid hb5.size
    have qg0_5 := (hb5.cell (p := ⟨w1.heap.size, 0, none⟩) zg_4).trans qg0_4
    have qg1_5 := (hb5.cell (p := ⟨w1.heap.size, 1, none⟩) zg_4).trans qg1_4
    have zg_5 := Nat.lt_of_lt_of_le zg_4 hb5.size
    have qv0_5 := (hb5.cell (p := ⟨w1.heap.size + 1, 0, none⟩) zv_4).trans qv0_4
    have qv1_5 := (hb5.cell (p := ⟨w1.heap.size + 1, 1, none⟩) zv_4).trans qv1_4
    have qv2_5 := (hb5.cell (p := ⟨w1.heap.size + 1, 2, none⟩) zv_4).trans qv2_4
    have zv_5 := Nat.lt_of_lt_of_le zv_4 hb5.size
    have qx0_5 := (hb5.cell (p := ⟨w3.heap.size, 0, none⟩) zx_4).trans qx0_4
    have qx1_5 := (hb5.cell (p := ⟨w3.heap.size, 1, none⟩) zx_4).trans qx1_4
    have qx2_5 := (hb5.cell (p := ⟨w3.heap.size, 2, none⟩) zx_4).trans qx2_4
    have zx_5 := Nat.lt_of_lt_of_le zx_4 hb5.size
    have G_5 := Lib.hid (G_4.out.keep hb5)
    have V_5 := Lib.hid (V_4.out.keep hb5)
    have X_5 := Lib.hid (X_4.out.keep hb5)
    obtain ⟨ay, cy, rfl, hz9⟩ := id howy
    clear hz9 hoky
    have Y_5 := Lib.hid (show InR true w5 w4.heap.size w5.heap.size _ L.length 1 (cellI L) from howy)
    clear qg0_4 qg1_4 zg_4 qv0_4 qv1_4 qv2_4 zv_4 G_4 V_4 X_4 qx0_4 qx1_4 qx2_4 zx_4
    clear howy
    go_wp2_with fail
    have hb6 : Below w5.heap.size w5 (w5.alloc (.cells #[.int .i64 m, .int .i64 A, .slice ay L.length cy] 28)) := (Below.refl _ _).alloc (by simp <;> omega) _
    have H6 := bel_trans H5 hb6
    have SZ6 := Lib.hid hb6.size
    have qg0_6 := (hb6.cell (p := ⟨w1.heap.size, 0, none⟩) zg_5).trans qg0_5
    have qg1_6 := (hb6.cell (p := ⟨w1.heap.size, 1, none⟩) zg_5).trans qg1_5
    have zg_6 := Nat.lt_of_lt_of_le zg_5 hb6.size
    have qv0_6 := (hb6.cell (p := ⟨w1.heap.size + 1, 0, none⟩) zv_5).trans qv0_5
    have qv1_6 := (hb6.cell (p := ⟨w1.heap.size + 1, 1, none⟩) zv_5).trans qv1_5
    have qv2_6 := (hb6.cell (p := ⟨w1.heap.size + 1, 2, none⟩) zv_5).trans qv2_5
    have zv_6 := Nat.lt_of_lt_of_le zv_5 hb6.size
    have qx0_6 := (hb6.cell (p := ⟨w3.heap.size, 0, none⟩) zx_5).trans qx0_5
    have qx1_6 := (hb6.cell (p := ⟨w3.heap.size, 1, none⟩) zx_5).trans qx1_5
    have qx2_6 := (hb6.cell (p := ⟨w3.heap.size, 2, none⟩) zx_5).trans qx2_5
    have zx_6 := Nat.lt_of_lt_of_le zx_5 hb6.size
    have G_6 := Lib.hid (G_5.out.keep hb6)
    have V_6 := Lib.hid (V_5.out.keep hb6)
    have X_6 := Lib.hid (X_5.out.keep hb6)
    have Y_6 := Lib.hid (Y_5.out.keep hb6)
    have qy0_6 : (w5.alloc (.cells #[.int .i64 m, .int .i64 A, .slice ay L.length cy] 28)).cell? ⟨w5.heap.size, 0, none⟩ = some (.int .i64 m) := by go_simp
    have qy1_6 : (w5.alloc (.cells #[.int .i64 m, .int .i64 A, .slice ay L.length cy] 28)).cell? ⟨w5.heap.size, 1, none⟩ = some (.int .i64 A) := by go_simp
    have qy2_6 : (w5.alloc (.cells #[.int .i64 m, .int .i64 A, .slice ay L.length cy] 28)).cell? ⟨w5.heap.size, 2, none⟩ = some (.slice ay L.length cy) := by go_simp
    have zy_6 : w5.heap.size < (w5.alloc (.cells #[.int .i64 m, .int .i64 A, .slice ay L.length cy] 28)).heap.size := by simp <;> omega
    generalize (w5.alloc (.cells #[.int .i64 m, .int .i64 A, .slice ay L.length cy] 28)) = w6 at hb6 H6 SZ6 G_6 V_6 X_6 Y_6 qg0_6 qg1_6 qv0_6 qv1_6 qv2_6 qx0_6 qx1_6 qx2_6 qy0_6 qy1_6 qy2_6 zg_6 zv_6 zx_6 zy_6 ⊢
    have ZBy := Lib.hid zy_6
    clear qg0_5 qg1_5 zg_5 qv0_5 qv1_5 qv2_5 zv_5 qx0_5 qx1_5 qx2_5 zx_5 G_5 V_5 X_5 Y_5
    refine (viewSame m A m A L L _ _ _ X_6.out.rowI Y_6.out.rowI (by have := HLL.out; omega) (by have := HLL.out; omega)).mono ?_
    rintro e w7 ⟨hS, hb7⟩
    have H7 := bel_trans H6 hb7
    have SZ7 := Lib.hid hb7.size
    have qg0_7 := (hb7.cell (p := ⟨w1.heap.size, 0, none⟩) zg_6).trans qg0_6
    have qg1_7 := (hb7.cell (p := ⟨w1.heap.size, 1, none⟩) zg_6).trans qg1_6
    have zg_7 := Nat.lt_of_lt_of_le zg_6 hb7.size
    have qv0_7 := (hb7.cell (p := ⟨w1.heap.size + 1, 0, none⟩) zv_6).trans qv0_6
    have qv1_7 := (hb7.cell (p := ⟨w1.heap.size + 1, 1, none⟩) zv_6).trans qv1_6
    have qv2_7 := (hb7.cell (p := ⟨w1.heap.size + 1, 2, none⟩) zv_6).trans qv2_6
    have zv_7 := Nat.lt_of_lt_of_le zv_6 hb7.size
    have qx0_7 := (hb7.cell (p := ⟨w3.heap.size, 0, none⟩) zx_6).trans qx0_6
    have qx1_7 := (hb7.cell (p := ⟨w3.heap.size, 1, none⟩) zx_6).trans qx1_6
    have qx2_7 := (hb7.cell (p := ⟨w3.heap.size, 2, none⟩) zx_6).trans qx2_6
    have zx_7 := Nat.lt_of_lt_of_le zx_6 hb7.size
    have qy0_7 := (hb7.cell (p := ⟨w5.heap.size, 0, none⟩) zy_6).trans qy0_6
    have qy1_7 := (hb7.cell (p := ⟨w5.heap.size, 1, none⟩) zy_6).trans qy1_6
    have qy2_7 := (hb7.cell (p := ⟨w5.heap.size, 2, none⟩) zy_6).trans qy2_6
    have zy_7 := Nat.lt_of_lt_of_le zy_6 hb7.size
    have G_7 := Lib.hid (G_6.out.keep hb7)
    have V_7 := Lib.hid (V_6.out.keep hb7)
    have X_7 := Lib.hid (X_6.out.keep hb7)
    have Y_7 := Lib.hid (Y_6.out.keep hb7)
    rw [vSame_self] at hS
    subst hS
    clear qg0_6 qg1_6 zg_6 qv0_6 qv1_6 qv2_6 zv_6 qx0_6 qx1_6 qx2_6 zx_6 G_6 V_6 X_6 Y_6 qy0_6 qy1_6 qy2_6 zy_6
    have HBV := Lib.hid (show Below w2.heap.size w2 w7 from (bel_trans (bel_trans (bel_trans (bel_trans hb3 hb4) hb5) hb6) hb7))
    obtain ⟨_, _, hva9, hz9⟩ := id X_7.out
    injection hva9 with hv1 hv2 hv3
    subst hv1
    clear hv2 hv3
    rcases hz9 with hz9 | ⟨bx, ox, rfl, hr1, hr2, hr3, hrc⟩
    · have := HLL.out; omega
    have hcl : ∀ k : Nat, k < N → w7.cell? ⟨bx, ox + k, none⟩ = some (.int .i64 (L.getD k 0)) := fun k h => (hrc k (by have := HLL.out; omega)).1
    have HCX := Lib.hid (And.intro hcl (show bx < w7.heap.size by omega))
    clear hcl hrc hr1 hr2 hr3
    have HZG := Lib.hid (rowE_parts G_7.out.edges)
    go_wp2_with fail
    go_loopw [9] (fun c wr => ∃ k : Nat, k ≤ N ∧ c = .int .i64 k ∧ Hid (Below w7.heap.size w7 wr)) (fun c _ => N - (intOf c).toNat)
    case atStart => exact ⟨0, Nat.zero_le _, rfl, Lib.hid (Below.refl _ _)⟩
    case round =>
      obtain ⟨k, hk, rfl, HBW⟩ := hrel
      have sW := HBW.out.size
      have qg0_r := (HBW.out.cell (p := ⟨w1.heap.size, 0, none⟩) zg_7).trans qg0_7
      have qg1_r := (HBW.out.cell (p := ⟨w1.heap.size, 1, none⟩) zg_7).trans qg1_7
      have zg_r := Nat.lt_of_lt_of_le zg_7 HBW.out.size
      have qv0_r := (HBW.out.cell (p := ⟨w1.heap.size + 1, 0, none⟩) zv_7).trans qv0_7
      have qv1_r := (HBW.out.cell (p := ⟨w1.heap.size + 1, 1, none⟩) zv_7).trans qv1_7
      have qv2_r := (HBW.out.cell (p := ⟨w1.heap.size + 1, 2, none⟩) zv_7).trans qv2_7
      have zv_r := Nat.lt_of_lt_of_le zv_7 HBW.out.size
      have qx0_r := (HBW.out.cell (p := ⟨w3.heap.size, 0, none⟩) zx_7).trans qx0_7
      have qx1_r := (HBW.out.cell (p := ⟨w3.heap.size, 1, none⟩) zx_7).trans qx1_7
      have qx2_r := (HBW.out.cell (p := ⟨w3.heap.size, 2, none⟩) zx_7).trans qx2_7
      have zx_r := Nat.lt_of_lt_of_le zx_7 HBW.out.size
      by_cases hlt : k < N
      · have hkv : k < zs.length := by have := HNZ.out; omega
        have hkv' : (k : Int) < zs.length := by omega
        have hkl : k < L.length := by have := HLL.out; omega
        have hkl' : (k : Int) < L.length := by omega
        have cvk := ((bel_trans HBV.out HBW.out).cell (p := ⟨bv, ov + k, none⟩) HCV.out.2).trans (HCV.out.1 k hlt)
        have cxk := (HBW.out.cell (p := ⟨bx, ox + k, none⟩) HCX.out.2).trans (HCX.out.1 k hlt)
        have hlv := Nat.lt_of_lt_of_le HCV.out.2 (bel_trans HBV.out HBW.out).size
        have hlx := Nat.lt_of_lt_of_le HCX.out.2 sW
        have hib := fun w => iIsBetter m (zs.getD k 0) (L.getD k 0) w
        rw [bBet_ofN (HFO.out k hkv).1] at hib
        obtain ⟨y1, hy1⟩ : ∃ y, y = L.getD k 0 := ⟨_, rfl⟩
        obtain ⟨y2, hy2⟩ : ∃ y, y = zs.getD k 0 := ⟨_, rfl⟩
        rw [← hy1] at cxk hib
        rw [← hy2] at cvk hib
        have HIB := Lib.hid hib
        clear hib hy1 hy2
        have hff : ∀ w' : World, Below wr.heap.size wr w' → (w'.cell? ⟨w1.heap.size + 1, 0, none⟩ = some (.int .i64 m) ∧ w'.cell? ⟨w1.heap.size + 1, 2, none⟩ = some (.slice (some ⟨bv, ov, none⟩) zs.length vd) ∧ w'.cell? ⟨w3.heap.size, 2, none⟩ = some (.slice (some ⟨bx, ox, none⟩) L.length cx) ∧ w'.cell? ⟨bv, ov + k, none⟩ = some (.int .i64 y2) ∧ w'.cell? ⟨bx, ox + k, none⟩ = some (.int .i64 y1)) := fun w' h => ⟨(h.cell (p := ⟨w1.heap.size + 1, 0, none⟩) zv_r).trans qv0_r, (h.cell (p := ⟨w1.heap.size + 1, 2, none⟩) zv_r).trans qv2_r, (h.cell (p := ⟨w3.heap.size, 2, none⟩) zx_r).trans qx2_r, (h.cell (p := ⟨bv, ov + k, none⟩) hlv).trans cvk, (h.cell (p := ⟨bx, ox + k, none⟩) hlx).trans cxk⟩
        have FF := Lib.hid hff
        clear hff
        go_wp2_with fail
        refine wp_region_below (by kernel_rfl) (by kernel_rfl) ?_
        repeat (go_big_quiet_step ((intro hw; first | with_reducible rfl | (obtain ⟨f0, f1, f2, f3, f4⟩ := FF.out _ hw; simp only [f0, f1, f2, f3, f4, Result.andThen]; first | exact ⟨trivial, rfl⟩ | exact ⟨rfl, rfl⟩) | (go_at_call 28; exact quietB (HIB.out _) hw))))
        refine wpQuiet_nil ?_
        intro w9 hbw9
        go_wp2
        go_roundw
        case rel => first | exact ⟨k + 1, by omega, by go_num, Lib.hid (bel_trans HBW.out hbw9)⟩ | exact ⟨_, ⟨k + 1, by omega, by go_num, Lib.hid (bel_trans HBW.out hbw9)⟩, rfl⟩
        case measure => simp [intOf]; omega
      · have hke : k = N := by omega
        have hkk : ¬ ((k : Int) < zs.length) := by have := HNZ.out; omega
        clear hlt hke
        obtain ⟨wo, hwo⟩ : ∃ wo, wo = wr := ⟨_, rfl⟩
        subst hwo
        have HBO := Lib.hid HBW.out
        clear HBW sW
        go_wp2_with fail
        go_loopw [10] (fun c wr => ∃ k : Nat, k ≤ es.length ∧ c = .int .i64 k ∧ Hid (Below wo.heap.size wo wr)) (fun c _ => es.length - (intOf c).toNat)
        case atStart => exact ⟨0, Nat.zero_le _, rfl, Lib.hid (Below.refl _ _)⟩
        case round =>
          obtain ⟨k, hk, rfl, HBW⟩ := hrel
          have sW := HBW.out.size
          have HBT := Lib.hid (bel_trans HBO.out HBW.out)
          have qg0_r := (HBT.out.cell (p := ⟨w1.heap.size, 0, none⟩) zg_7).trans qg0_7
          have qg1_r := (HBT.out.cell (p := ⟨w1.heap.size, 1, none⟩) zg_7).trans qg1_7
          have zg_r := Nat.lt_of_lt_of_le zg_7 HBT.out.size
          have qv0_r := (HBT.out.cell (p := ⟨w1.heap.size + 1, 0, none⟩) zv_7).trans qv0_7
          have qv1_r := (HBT.out.cell (p := ⟨w1.heap.size + 1, 1, none⟩) zv_7).trans qv1_7
          have qv2_r := (HBT.out.cell (p := ⟨w1.heap.size + 1, 2, none⟩) zv_7).trans qv2_7
          have zv_r := Nat.lt_of_lt_of_le zv_7 HBT.out.size
          have qx0_r := (HBT.out.cell (p := ⟨w3.heap.size, 0, none⟩) zx_7).trans qx0_7
          have qx1_r := (HBT.out.cell (p := ⟨w3.heap.size, 1, none⟩) zx_7).trans qx1_7
          have qx2_r := (HBT.out.cell (p := ⟨w3.heap.size, 2, none⟩) zx_7).trans qx2_7
          have zx_r := Nat.lt_of_lt_of_le zx_7 HBT.out.size
          by_cases hlt : k < es.length
          · have hlt' : (k : Int) < es.length := by omega
            rcases HZG.out with h00 | ⟨bg, og, rfl, hbg, hcg⟩
            · rw [h00] at hlt; simp at hlt
            obtain ⟨x, y, z, hx⟩ : ∃ x y z, (x, y, z) = es.getD k (0, 0, 0) := ⟨_, _, _, rfl⟩
            obtain ⟨X, Y, rfl, rfl, hX, hY, hwz⟩ := edge_natN HEA.out hlt hx
            have hin : ((X : Int), (Y : Int), z) ∈ es := by rw [hx]; simp [List.getD, hlt]
            have hg1 := hcg k hlt
            rw [← hx] at hg1
            simp only at hg1
            have ce0 := (HBT.out.cell (p := ⟨bg, og + k * 3, none⟩) hbg).trans hg1.1
            have ce1 := (HBT.out.cell (p := ⟨bg, og + k * 3 + 1, none⟩) hbg).trans hg1.2.1
            have ce2 := (HBT.out.cell (p := ⟨bg, og + k * 3 + 2, none⟩) hbg).trans hg1.2.2
            have hXv : X < zs.length := by have := HNZ.out; omega
            have hYv : Y < zs.length := by have := HNZ.out; omega
            have hXv' : (X : Int) < zs.length := by omega
            have hYl' : (Y : Int) < L.length := by have := HLL.out; omega
            have hfe := (HFO.out Y hYv).2 _ hin rfl
            have hvX := HVA.out X hXv
            have hee := fun w => iEdgeMeasure m z w
            rw [(bEdge_ofN HMK.out hwz).1, (bEdge_ofN HMK.out hwz).2] at hee
            have hxx := fun w => iExtend m (zs.getD X 0) (mEdge m z) w
            rw [rExt_ofN HMK.out hvX (mEdge_in HMK.out hwz), bTwo_mk HMK.out hvX (mEdge_in HMK.out hwz)] at hxx
            have hib := fun w => iIsBetter m (mJoin m (zs.getD X 0) (mEdge m z)) (L.getD Y 0) w
            rw [bBet_ofN (show mBet m (mJoin m (zs.getD X 0) (mEdge m z)) (L.getD Y 0) = false from hfe)] at hib
            have cvk := ((bel_trans HBV.out HBT.out).cell (p := ⟨bv, ov + X, none⟩) HCV.out.2).trans (HCV.out.1 X hX)
            have cxk := (HBT.out.cell (p := ⟨bx, ox + Y, none⟩) HCX.out.2).trans (HCX.out.1 Y hY)
            have hlv := Nat.lt_of_lt_of_le HCV.out.2 (bel_trans HBV.out HBT.out).size
            have hlx := Nat.lt_of_lt_of_le HCX.out.2 HBT.out.size
            obtain ⟨y1, hy1⟩ : ∃ y, y = L.getD Y 0 := ⟨_, rfl⟩
            obtain ⟨y2, hy2⟩ : ∃ y, y = zs.getD X 0 := ⟨_, rfl⟩
            obtain ⟨y3, hy3⟩ : ∃ y, y = mEdge m z := ⟨_, rfl⟩
            rw [← hy1] at cxk hib
            rw [← hy2] at cvk hib hxx
            rw [← hy3] at hee hxx hib
            obtain ⟨y4, hy4⟩ : ∃ y, y = mJoin m y2 y3 := ⟨_, rfl⟩
            rw [← hy4] at hxx hib
            have HIB := Lib.hid hib
            have HEE := Lib.hid hee
            have HXX := Lib.hid hxx
            clear hib hee hxx hy1 hy2 hy3 hy4 hfe hvX hin hg1 hcg hx hwz
            go_wp2_with fail
            have hbA : Below wr.heap.size wr (wr.alloc (.cells #[.int .i64 X, .int .i64 Y, .int .i64 z] 44)) := (Below.refl _ _).alloc (Nat.le_refl _) _
            have hbx9 := Box.new wr 44 #[.int .i64 X, .int .i64 Y, .int .i64 z]
            generalize (wr.alloc (.cells #[.int .i64 X, .int .i64 Y, .int .i64 z] 44)) = wa at hbA hbx9 ⊢
            refine (HEE.out _).mono ?_
            rintro e w9 ⟨rfl, hb9⟩
            have hB9 := bel_trans hbA hb9
            have hx9 := hbx9.keep hb9
            have e09 : w9.cell? ⟨wr.heap.size, 0, none⟩ = some (.int .i64 X) := by simpa using hx9.cell 0
            have e19 : w9.cell? ⟨wr.heap.size, 1, none⟩ = some (.int .i64 Y) := by simpa using hx9.cell 1
            have e29 : w9.cell? ⟨wr.heap.size, 2, none⟩ = some (.int .i64 z) := by simpa using hx9.cell 2
            have hl9 := hx9.lt
            have qv0_9 := (hB9.cell (p := ⟨w1.heap.size + 1, 0, none⟩) zv_r).trans qv0_r
            have qv2_9 := (hB9.cell (p := ⟨w1.heap.size + 1, 2, none⟩) zv_r).trans qv2_r
            have zv_9 := Nat.lt_of_lt_of_le zv_r hB9.size
            have qx0_9 := (hB9.cell (p := ⟨w3.heap.size, 0, none⟩) zx_r).trans qx0_r
            have qx2_9 := (hB9.cell (p := ⟨w3.heap.size, 2, none⟩) zx_r).trans qx2_r
            have zx_9 := Nat.lt_of_lt_of_le zx_r hB9.size
            have cv9 := (hB9.cell (p := ⟨bv, ov + X, none⟩) hlv).trans cvk
            have hlv9 := Nat.lt_of_lt_of_le hlv hB9.size
            have cx9 := (hB9.cell (p := ⟨bx, ox + Y, none⟩) hlx).trans cxk
            have hlx9 := Nat.lt_of_lt_of_le hlx hB9.size
            have HB9 := Lib.hid hB9
            clear hbA hbx9 hb9 hB9 hx9
            have hff : ∀ w' : World, Below w9.heap.size w9 w' → (w'.cell? ⟨w1.heap.size + 1, 0, none⟩ = some (.int .i64 m) ∧ w'.cell? ⟨w1.heap.size + 1, 2, none⟩ = some (.slice (some ⟨bv, ov, none⟩) zs.length vd) ∧ w'.cell? ⟨wr.heap.size, 0, none⟩ = some (.int .i64 X) ∧ w'.cell? ⟨bv, ov + X, none⟩ = some (.int .i64 y2)) := fun w' h => ⟨(h.cell (p := ⟨w1.heap.size + 1, 0, none⟩) zv_9).trans qv0_9, (h.cell (p := ⟨w1.heap.size + 1, 2, none⟩) zv_9).trans qv2_9, (h.cell (p := ⟨wr.heap.size, 0, none⟩) hl9).trans e09, (h.cell (p := ⟨bv, ov + X, none⟩) hlv9).trans cv9⟩
            have FF := Lib.hid hff
            clear hff
            go_wp2_with fail
            refine wp_region_below (by kernel_rfl) (by kernel_rfl) ?_
            repeat (go_big_quiet_step ((intro hw; first | with_reducible rfl | (obtain ⟨f0, f1, f2, f3⟩ := FF.out _ hw; simp only [f0, f1, f2, f3, Result.andThen]; first | exact ⟨trivial, rfl⟩ | exact ⟨rfl, rfl⟩) | (go_at_call 32; exact quietB (HXX.out _) hw))))
            refine wpQuiet_nil ?_
            intro w8 hbw8
            have qx2_8 := (hbw8.cell (p := ⟨w3.heap.size, 2, none⟩) zx_9).trans qx2_9
            have qv0_8 := (hbw8.cell (p := ⟨w1.heap.size + 1, 0, none⟩) zv_9).trans qv0_9
            have e18 := (hbw8.cell (p := ⟨wr.heap.size, 1, none⟩) hl9).trans e19
            have cx8 := (hbw8.cell (p := ⟨bx, ox + Y, none⟩) hlx9).trans cx9
            have zx_8 := Nat.lt_of_lt_of_le zx_9 hbw8.size
            have zv_8 := Nat.lt_of_lt_of_le zv_9 hbw8.size
            have hl8 := Nat.lt_of_lt_of_le hl9 hbw8.size
            have hlx8 := Nat.lt_of_lt_of_le hlx9 hbw8.size
            have hff : ∀ w' : World, Below w8.heap.size w8 w' → (w'.cell? ⟨w1.heap.size + 1, 0, none⟩ = some (.int .i64 m) ∧ w'.cell? ⟨w3.heap.size, 2, none⟩ = some (.slice (some ⟨bx, ox, none⟩) L.length cx) ∧ w'.cell? ⟨wr.heap.size, 1, none⟩ = some (.int .i64 Y) ∧ w'.cell? ⟨bx, ox + Y, none⟩ = some (.int .i64 y1)) := fun w' h => ⟨(h.cell (p := ⟨w1.heap.size + 1, 0, none⟩) zv_8).trans qv0_8, (h.cell (p := ⟨w3.heap.size, 2, none⟩) zx_8).trans qx2_8, (h.cell (p := ⟨wr.heap.size, 1, none⟩) hl8).trans e18, (h.cell (p := ⟨bx, ox + Y, none⟩) hlx8).trans cx8⟩
            have FF := Lib.hid hff
            clear hff
            go_wp2_with fail
            refine wp_region_below (by kernel_rfl) (by kernel_rfl) ?_
            repeat (go_big_quiet_step ((intro hw; first | with_reducible rfl | (obtain ⟨f0, f1, f2, f3⟩ := FF.out _ hw; simp only [f0, f1, f2, f3, Result.andThen]; first | exact ⟨trivial, rfl⟩ | exact ⟨rfl, rfl⟩) | (go_at_call 28; exact quietB (HIB.out _) hw))))
            refine wpQuiet_nil ?_
            intro w7 hbw7
            go_wp2
            go_roundw
            case rel => first | exact ⟨k + 1, by omega, by go_num, Lib.hid (bel_trans (bel_trans (bel_trans HBW.out HB9.out) hbw8) hbw7)⟩ | ((repeat apply Exists.intro); exact ⟨⟨k + 1, by omega, by go_num, Lib.hid (bel_trans (bel_trans (bel_trans HBW.out HB9.out) hbw8) hbw7)⟩, rfl⟩)
            case measure => simp [intOf]; omega
          · have hkk2 : ¬ ((k : Int) < es.length) := by omega
            go_wp2_with fail
            refine (HVV.out _ _ _ (G_7.out.keep HBT.out).edges (X_7.out.keep HBT.out).rowI).mono ?_
            rintro e w9 ⟨rfl, hb9⟩
            go_wp2
            go_ret
            exact ⟨rfl, bel_trans (bel_trans H7 HBT.out) hb9⟩

set_option maxRecDepth 100000 in
theorem lifted (os : Os) (started : os.Started) (H : Type) (enc : TypeId × Value → H) :
    ReturnsInHanded {} Try.checked os 6 .any (Rows.fnRelaxAllSpec.pre6 enc Try.prog Try.f6 Rows.fnRelaxAllRow.domain false) (Rows.fnRelaxAllSpec.post enc Try.prog Try.f6 false true false false) := by
  refine returnsInHanded_of_change (C := Try.checked) own started (by kernel_rfl) Try.func6
    (ChangeSpec.witness6 (enc := enc) (C := Try.checked) false ⟨#[], #[.slice none 0 0], []⟩ 8 (by kernel_rfl) (by kernel_rfl) (by kernel_rfl) (by kernel_rfl)) ?_
  intro W base args ds gs before hval0 hW hcnd _
  have hval : ∀ (j : Nat) t v, Try.f6.params[j]? = some t → args[j]? = some v → Value.okWide Try.prog W .any base t v := hval0
  have hW' := hW
  obtain ⟨p, q, hA0, hV, rfl, hfz, hnd⟩ := hW
  have hA : DataW.TrodAll enc Try.prog W 0 (fun _ => true) true Try.f6.params.toList args.toList ds p := hA0
  rw [Try.params6] at hA hval
  obtain ⟨v0, vs0, d0, ds0, p0, q0, hargs, rfl, rfl, h0, r0⟩ := trodAll_cons hA
  obtain ⟨rfl, rfl, rfl⟩ := trodAll_nil r0
  obtain rfl : args = #[v0] := by cases args; simp_all
  obtain ⟨rfl, rfl⟩ := trodVars_none hV
  obtain ⟨a0, len0, cap0, rfl⟩ := okWide_slice Try.underlying22 (hval 0 22 v0 rfl rfl)
  have k0 := h0
  have lt0 : ∀ x ∈ p0, x.block < W.heap.size := by obtain ⟨m, hm⟩ := k0; exact DataW.trod_lt m _ _ _ hm
  obtain ⟨z0, w0⟩ : ∃ zs, IsRow .u8 W a0 len0 cap0 zs := by
    obtain ⟨fuel, hf⟩ := h0
    rcases open_ints Try.underlying22 Try.underlying5 (by kernel_rfl) hf with ⟨hcs, _⟩ | ⟨x, l, c, zs, hcs, _, hl, hm, hz, _, hcell, hwz⟩
    · simp [Value.cells] at hcs
      obtain ⟨rfl, rfl, rfl⟩ := hcs
      exact ⟨[], .inl ⟨rfl, rfl, rfl, rfl⟩⟩
    · simp [Value.cells] at hcs
      obtain ⟨rfl, rfl, rfl⟩ := hcs
      exact ⟨zs, .inr ⟨_, rfl, hl, hm, by simpa using hz, hcell, hwz⟩⟩
  clear hA0 hval0
  refine (walk a0 len0 cap0 z0 W w0).mono fun e W' ⟨he, bel⟩ => ?_
  subst he
  exact ⟨_, rfl, _, _, _, [], _, [], hW', trodAll_mk1 (shut_bool Try.underlying4 _), (trodAll_cons_mk (Below.trod laidOut (by kernel_rfl) (of_decide_eq_true (by kernel_rfl)) k0 bel lt0) trodAll_mk0), rfl, bel.frame _, fun h => by cases h⟩

theorem over : Rows.fnRelaxAllRow.holds Try.pinned (OpenSpec.ofChange Rows.fnRelaxAllSpec) :=
  OpenClaim.holds_of_wide 6 Try.f6 rfl rfl rfl rfl rfl rfl rfl ⟨rfl, rfl, rfl, rfl, rfl⟩ rfl rfl rfl rfl rfl (by kernel_rfl) Try.func6 (by kernel_rfl)
    (of_decide_eq_true (by kernel_rfl)) (by unfold Func.isWrapper; first | (rw [if_pos (by decide +kernel)]; kernel_rfl) | (rw [if_neg (by decide +kernel)]; exact ⟨rfl, rfl⟩))
    (fun os started H enc _ => lifted os started H enc)

theorem proved : Rows.FnRelaxAllSaid := over
end Go.Proofs.Ytbcbknebjbelmaa.fnRelaxAll
