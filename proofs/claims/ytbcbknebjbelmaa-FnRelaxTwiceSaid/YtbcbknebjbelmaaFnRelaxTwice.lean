/-
  Proved: relaxing an edge twice is relaxing it once, and relaxing all edges makes nothing worse than that (the law FnRelaxTwice returns true for every input and leaves it as it was), with no further condition.
-/
import Derived.Test.YtbcbknebjbelmaaRows
import Derived.Test.YtbcbknebjbelmaaDrawsP
import Derived.Test.YtbcbknebjbelmaaRunU
import Derived.Test.YtbcbknebjbelmaaRelaxT
import Derived.Test.YtbcbknebjbelmaaImpl2
import Derived.Test.YtbcbknebjbelmaaStartL
import Derived.Test.YtbcbknebjbelmaaTwice
import Derived.WalkKit
import Derived.ProofKit
import Derived.OpenShut
import Derived.ShutString
import Derived.ChangeOld
import Derived.Below
namespace Go.Proofs.Ytbcbknebjbelmaa.fnRelaxTwice
open Go.Proofs.Ytbcbknebjbelmaa Go.BigFrame
open Go.ChangeShapes Go.WideShapes Go.ChangeAt Go.RowKit
open Go.ChangeMaps (open_string shut_string)
set_option linter.unusedVariables false

theorem own : ownKnob Try.prog.godebug = none := by kernel_rfl
theorem laidOut : laidOutB Try.prog = true := by kernel_rfl

def IsRow (k : IntKind) (w : World) (a : Option Addr) (len cap : Nat) (zs : List Int) : Prop :=
  (a = none ∧ len = 0 ∧ cap = 0 ∧ zs = []) ∨
  ∃ x, a = some x ∧ len ≤ cap ∧ cap ≤ maxLen ∧ zs.length = cap ∧ (∀ i, i < zs.length → w.cell? (x.add i) = some (.int k (zs.getD i 0))) ∧ ∀ n ∈ zs, (Lit.int k n).wf = true

theorem bytes_of {w : World} {a : Option Addr} {len cap : Nat} {zs : List Int} (h : IsRow .u8 w a len cap zs) : Bytes w a len ∧ len ≤ cap ∧ len ≤ 9223372036854775807 := by
  rcases h with ⟨rfl, rfl, rfl, rfl⟩ | ⟨x, rfl, hl, hm, hz, hc, hw⟩
  · exact ⟨.inl rfl, Nat.le_refl _, by omega⟩
  · unfold maxLen at hm
    refine ⟨?_, hl, by omega⟩
    by_cases h0 : len = 0
    · exact .inl h0
    · obtain ⟨b, off, rfl, hc'⟩ := ints_at hc (by omega)
      exact .inr ⟨b, off, rfl, World.block_lt_of_cell? _ _ (hc' 0 (by omega)), fun i hi => ⟨zs[i]?.getD 0, (range_u8 hw i).1, (range_u8 hw i).2, hc' i (by omega)⟩⟩

set_option maxRecDepth 100000 in
set_option maxHeartbeats 4000000 in
theorem walk (a0 : Option Addr) (len0 cap0 : Nat) (z0 : List Int) (w : World) (w0 : IsRow .u8 w a0 len0 cap0 z0) :
    Calls Try.prog 13 #[.slice a0 len0 cap0] w fun e w' => e = .returned (.bool true) ∧ Below w.heap.size w w' := by
  obtain ⟨hby, hcp, hn⟩ := bytes_of w0
  have HB0 := Lib.hid hby
  clear hby w0
  by_cases h0 : 1048576 < len0
  · go_enter Try.func13, Try.ntmps13
    go_wp2
    go_ret
    exact ⟨rfl, Below.refl _ _⟩
  have h0' : len0 ≤ 1048576 := by omega
  clear h0
  obtain ⟨w0, hw0⟩ : ∃ w0, w0 = w := ⟨_, rfl⟩
  subst hw0
  have H0 := Below.refl w0.heap.size w0
  go_enter Try.func13, Try.ntmps13
  go_wp2_with fail
  refine (dDrawRelaxEdge a0 len0 cap0 _ HB0.out hcp (by omega)).mono ?_
  rintro e w1 ⟨n, es, gs, m, src, zs, vs, ix, rfl, hle, hrG, hrV, hb1⟩
  have H1 := bel_trans H0 hb1
  have SZ1 := Lib.hid hb1.size
  obtain ⟨va, vc, rfl, hz9⟩ := id hrG.1
  obtain ⟨vb, vd, rfl, hz8⟩ := id hrV.1
  clear hz9 hz8
  have G_1 := Lib.hid (hrG.1)
  have V_1 := Lib.hid hrV.1
  have hle1 := hle.1
  have hle2 := hle.2
  clear hrG hrV hle
  go_wp2_with fail
  have hb2 : Below w1.heap.size w1 ((w1.alloc (.cells #[.int .i64 n, .slice va es.length vc] 25)).alloc (.cells #[.int .i64 m, .int .i64 src, .slice vb zs.length vd] 28)) := ((Below.refl _ _).alloc (by simp <;> omega) _).alloc (by simp <;> omega) _
  have H2 := bel_trans H1 hb2
  have SZ2 := Lib.hid hb2.size
  have G_2 := Lib.hid (G_1.out.keep hb2)
  have V_2 := Lib.hid (V_1.out.keep hb2)
  have qg0_2 : ((w1.alloc (.cells #[.int .i64 n, .slice va es.length vc] 25)).alloc (.cells #[.int .i64 m, .int .i64 src, .slice vb zs.length vd] 28)).cell? ⟨w1.heap.size, 0, none⟩ = some (.int .i64 n) := by go_simp
  have qg1_2 : ((w1.alloc (.cells #[.int .i64 n, .slice va es.length vc] 25)).alloc (.cells #[.int .i64 m, .int .i64 src, .slice vb zs.length vd] 28)).cell? ⟨w1.heap.size, 1, none⟩ = some (.slice va es.length vc) := by go_simp
  have zg_2 : w1.heap.size < ((w1.alloc (.cells #[.int .i64 n, .slice va es.length vc] 25)).alloc (.cells #[.int .i64 m, .int .i64 src, .slice vb zs.length vd] 28)).heap.size := by simp <;> omega
  have qv0_2 : ((w1.alloc (.cells #[.int .i64 n, .slice va es.length vc] 25)).alloc (.cells #[.int .i64 m, .int .i64 src, .slice vb zs.length vd] 28)).cell? ⟨w1.heap.size + 1, 0, none⟩ = some (.int .i64 m) := by go_simp
  have qv1_2 : ((w1.alloc (.cells #[.int .i64 n, .slice va es.length vc] 25)).alloc (.cells #[.int .i64 m, .int .i64 src, .slice vb zs.length vd] 28)).cell? ⟨w1.heap.size + 1, 1, none⟩ = some (.int .i64 src) := by go_simp
  have qv2_2 : ((w1.alloc (.cells #[.int .i64 n, .slice va es.length vc] 25)).alloc (.cells #[.int .i64 m, .int .i64 src, .slice vb zs.length vd] 28)).cell? ⟨w1.heap.size + 1, 2, none⟩ = some (.slice vb zs.length vd) := by go_simp
  have zv_2 : w1.heap.size + 1 < ((w1.alloc (.cells #[.int .i64 n, .slice va es.length vc] 25)).alloc (.cells #[.int .i64 m, .int .i64 src, .slice vb zs.length vd] 28)).heap.size := by simp <;> omega
  generalize ((w1.alloc (.cells #[.int .i64 n, .slice va es.length vc] 25)).alloc (.cells #[.int .i64 m, .int .i64 src, .slice vb zs.length vd] 28)) = w2 at hb2 H2 SZ2 G_2 V_2 qg0_2 qg1_2 qv0_2 qv1_2 qv2_2 zg_2 zv_2 ⊢
  have ZBg := Lib.hid zg_2
  have ZBv := Lib.hid zv_2
  clear G_1 V_1
  have hlE : es.length ≤ 281474976710656 := by omega
  have hlZ : zs.length ≤ 281474976710656 := by omega
  have hst := fun s t w (h : RowE w s es) (k : Row w t zs) => relaxEdgeU n m src ix es zs s t w h k hlE hlZ
  have hss := fun s t w (h : RowE w s es) (k : Row w t zs) => sRelaxEdgeU n m src ix es zs s t w h k hlE hlZ
  cases hB : rsB n es m src zs [ix]
  · rw [show rsM n es m src zs [ix] = 0 by unfold rsM; rw [hB]; rfl, show rsA n es m src zs [ix] = 0 by unfold rsA; rw [hB]; rfl, show rsL n es m src zs [ix] = [] by unfold rsL; rw [hB]; rfl, hB] at hst hss
    have HST := Lib.hid hst
    have HSS := Lib.hid hss
    clear hst hss hB
    go_wp2_with fail
    refine (HST.out _ _ _ G_2.out.edges V_2.out.rowI).mono ?_
    rintro e w3 ⟨vx, rfl, howx, hokx, hb3⟩
    have H3 := bel_trans H2 hb3
    have SZ3 := Lib.hid hb3.size
    have qg0_3 := (hb3.cell (p := ⟨w1.heap.size, 0, none⟩) zg_2).trans qg0_2
    have qg1_3 := (hb3.cell (p := ⟨w1.heap.size, 1, none⟩) zg_2).trans qg1_2
    have zg_3 := Nat.lt_of_lt_of_le zg_2 hb3.size
    have qv0_3 := (hb3.cell (p := ⟨w1.heap.size + 1, 0, none⟩) zv_2).trans qv0_2
    have qv1_3 := (hb3.cell (p := ⟨w1.heap.size + 1, 1, none⟩) zv_2).trans qv1_2
    have qv2_3 := (hb3.cell (p := ⟨w1.heap.size + 1, 2, none⟩) zv_2).trans qv2_2
    have zv_3 := Nat.lt_of_lt_of_le zv_2 hb3.size
    have G_3 := Lib.hid (G_2.out.keep hb3)
    have V_3 := Lib.hid (V_2.out.keep hb3)
    obtain ⟨ax, cx, rfl, hz9⟩ := id howx
    clear hz9 hokx
    have X_3 := Lib.hid (show InR true w3 w2.heap.size w3.heap.size _ ([] : List Int).length 1 (cellI ([] : List Int)) from howx)
    clear qv2_2 qv0_2 qg0_2 qv1_2 V_2 G_2 zv_2 qg1_2 zg_2
    clear howx
    go_wp2_with fail
    have hb4 : Below w3.heap.size w3 (w3.alloc (.cells #[.int .i64 0, .int .i64 0, .slice ax ([] : List Int).length cx] 28)) := (Below.refl _ _).alloc (by simp <;> omega) _
    have H4 := bel_trans H3 hb4
    have SZ4 := Lib.hid hb4.size
    have qg0_4 := (hb4.cell (p := ⟨w1.heap.size, 0, none⟩) zg_3).trans qg0_3
    have qg1_4 := (hb4.cell (p := ⟨w1.heap.size, 1, none⟩) zg_3).trans qg1_3
    have zg_4 := Nat.lt_of_lt_of_le zg_3 hb4.size
    have qv0_4 := (hb4.cell (p := ⟨w1.heap.size + 1, 0, none⟩) zv_3).trans qv0_3
    have qv1_4 := (hb4.cell (p := ⟨w1.heap.size + 1, 1, none⟩) zv_3).trans qv1_3
    have qv2_4 := (hb4.cell (p := ⟨w1.heap.size + 1, 2, none⟩) zv_3).trans qv2_3
    have zv_4 := Nat.lt_of_lt_of_le zv_3 hb4.size
    have G_4 := Lib.hid (G_3.out.keep hb4)
    have V_4 := Lib.hid (V_3.out.keep hb4)
    have X_4 := Lib.hid (X_3.out.keep hb4)
    have qx0_4 : (w3.alloc (.cells #[.int .i64 0, .int .i64 0, .slice ax ([] : List Int).length cx] 28)).cell? ⟨w3.heap.size, 0, none⟩ = some (.int .i64 0) := by go_simp
    have qx1_4 : (w3.alloc (.cells #[.int .i64 0, .int .i64 0, .slice ax ([] : List Int).length cx] 28)).cell? ⟨w3.heap.size, 1, none⟩ = some (.int .i64 0) := by go_simp
    have qx2_4 : (w3.alloc (.cells #[.int .i64 0, .int .i64 0, .slice ax ([] : List Int).length cx] 28)).cell? ⟨w3.heap.size, 2, none⟩ = some (.slice ax ([] : List Int).length cx) := by go_simp
    have zx_4 : w3.heap.size < (w3.alloc (.cells #[.int .i64 0, .int .i64 0, .slice ax ([] : List Int).length cx] 28)).heap.size := by simp <;> omega
    generalize (w3.alloc (.cells #[.int .i64 0, .int .i64 0, .slice ax ([] : List Int).length cx] 28)) = w4 at hb4 H4 SZ4 G_4 V_4 X_4 qg0_4 qg1_4 qv0_4 qv1_4 qv2_4 qx0_4 qx1_4 qx2_4 zg_4 zv_4 zx_4 ⊢
    have ZBx := Lib.hid zx_4
    clear qg0_3 qg1_3 zg_3 qv0_3 qv1_3 qv2_3 zv_3 G_3 V_3 X_3
    refine (HSS.out _ _ _ G_4.out.edges V_4.out.rowI).mono ?_
    rintro e w5 ⟨vy, rfl, howy, hoky, hb5⟩
    have H5 := bel_trans H4 hb5
    have SZ5 := Lib.hid hb5.size
    have qg0_5 := (hb5.cell (p := ⟨w1.heap.size, 0, none⟩) zg_4).trans qg0_4
    have qg1_5 := (hb5.cell (p := ⟨w1.heap.size, 1, none⟩) zg_4).trans qg1_4
    have zg_5 := Nat.lt_of_lt_of_le zg_4 hb5.size
    have qv0_5 := (hb5.cell (p := ⟨w1.heap.size + 1, 0, none⟩) zv_4).trans qv0_4
    have qv1_5 := (hb5.cell (p := ⟨w1.heap.size + 1, 1, none⟩) zv_4).trans qv1_4
    have qv2_5 := (hb5.cell (p := ⟨w1.heap.size + 1, 2, none⟩) zv_4).trans qv2_4
    have zv_5 := Nat.lt_of_lt_of_le zv_4 hb5.size
    have qx0_5 := (hb5.cell (p := ⟨w3.heap.size, 0, none⟩) zx_4).trans qx0_4
    have qx1_5 := (hb5.cell (p := ⟨w3.heap.size, 1, none⟩) zx_4).trans qx1_4
    have qx2_5 := (hb5.cell (p := ⟨w3.heap.size, 2, none⟩) zx_4).trans qx2_4
    have zx_5 := Nat.lt_of_lt_of_le zx_4 hb5.size
    have G_5 := Lib.hid (G_4.out.keep hb5)
    have V_5 := Lib.hid (V_4.out.keep hb5)
    have X_5 := Lib.hid (X_4.out.keep hb5)
    obtain ⟨ay, cy, rfl, hz9⟩ := id howy
    clear hz9 hoky
    have Y_5 := Lib.hid (show InR true w5 w4.heap.size w5.heap.size _ ([] : List Int).length 1 (cellI ([] : List Int)) from howy)
    clear qg0_4 qg1_4 zg_4 qv0_4 qv1_4 qv2_4 zv_4 G_4 V_4 X_4 qx0_4 qx1_4 qx2_4 zx_4
    clear howy
    go_wp2_with fail
    have hb6 : Below w5.heap.size w5 (w5.alloc (.cells #[.int .i64 0, .int .i64 0, .slice ay ([] : List Int).length cy] 28)) := (Below.refl _ _).alloc (by simp <;> omega) _
    have H6 := bel_trans H5 hb6
    have SZ6 := Lib.hid hb6.size
    have qg0_6 := (hb6.cell (p := ⟨w1.heap.size, 0, none⟩) zg_5).trans qg0_5
    have qg1_6 := (hb6.cell (p := ⟨w1.heap.size, 1, none⟩) zg_5).trans qg1_5
    have zg_6 := Nat.lt_of_lt_of_le zg_5 hb6.size
    have qv0_6 := (hb6.cell (p := ⟨w1.heap.size + 1, 0, none⟩) zv_5).trans qv0_5
    have qv1_6 := (hb6.cell (p := ⟨w1.heap.size + 1, 1, none⟩) zv_5).trans qv1_5
    have qv2_6 := (hb6.cell (p := ⟨w1.heap.size + 1, 2, none⟩) zv_5).trans qv2_5
    have zv_6 := Nat.lt_of_lt_of_le zv_5 hb6.size
    have qx0_6 := (hb6.cell (p := ⟨w3.heap.size, 0, none⟩) zx_5).trans qx0_5
    have qx1_6 := (hb6.cell (p := ⟨w3.heap.size, 1, none⟩) zx_5).trans qx1_5
    have qx2_6 := (hb6.cell (p := ⟨w3.heap.size, 2, none⟩) zx_5).trans qx2_5
    have zx_6 := Nat.lt_of_lt_of_le zx_5 hb6.size
    have G_6 := Lib.hid (G_5.out.keep hb6)
    have V_6 := Lib.hid (V_5.out.keep hb6)
    have X_6 := Lib.hid (X_5.out.keep hb6)
    have Y_6 := Lib.hid (Y_5.out.keep hb6)
    have qy0_6 : (w5.alloc (.cells #[.int .i64 0, .int .i64 0, .slice ay ([] : List Int).length cy] 28)).cell? ⟨w5.heap.size, 0, none⟩ = some (.int .i64 0) := by go_simp
    have qy1_6 : (w5.alloc (.cells #[.int .i64 0, .int .i64 0, .slice ay ([] : List Int).length cy] 28)).cell? ⟨w5.heap.size, 1, none⟩ = some (.int .i64 0) := by go_simp
    have qy2_6 : (w5.alloc (.cells #[.int .i64 0, .int .i64 0, .slice ay ([] : List Int).length cy] 28)).cell? ⟨w5.heap.size, 2, none⟩ = some (.slice ay ([] : List Int).length cy) := by go_simp
    have zy_6 : w5.heap.size < (w5.alloc (.cells #[.int .i64 0, .int .i64 0, .slice ay ([] : List Int).length cy] 28)).heap.size := by simp <;> omega
    generalize (w5.alloc (.cells #[.int .i64 0, .int .i64 0, .slice ay ([] : List Int).length cy] 28)) = w6 at hb6 H6 SZ6 G_6 V_6 X_6 Y_6 qg0_6 qg1_6 qv0_6 qv1_6 qv2_6 qx0_6 qx1_6 qx2_6 qy0_6 qy1_6 qy2_6 zg_6 zv_6 zx_6 zy_6 ⊢
    have ZBy := Lib.hid zy_6
    clear qg0_5 qg1_5 zg_5 qv0_5 qv1_5 qv2_5 zv_5 qx0_5 qx1_5 qx2_5 zx_5 G_5 V_5 X_5 Y_5
    refine (viewSame 0 0 0 0 [] [] _ _ _ X_6.out.rowI Y_6.out.rowI (by simp) (by simp)).mono ?_
    rintro e w7 ⟨rfl, hb7⟩
    have H7 := bel_trans H6 hb7
    have SZ7 := Lib.hid hb7.size
    have qg0_7 := (hb7.cell (p := ⟨w1.heap.size, 0, none⟩) zg_6).trans qg0_6
    have qg1_7 := (hb7.cell (p := ⟨w1.heap.size, 1, none⟩) zg_6).trans qg1_6
    have zg_7 := Nat.lt_of_lt_of_le zg_6 hb7.size
    have qv0_7 := (hb7.cell (p := ⟨w1.heap.size + 1, 0, none⟩) zv_6).trans qv0_6
    have qv1_7 := (hb7.cell (p := ⟨w1.heap.size + 1, 1, none⟩) zv_6).trans qv1_6
    have qv2_7 := (hb7.cell (p := ⟨w1.heap.size + 1, 2, none⟩) zv_6).trans qv2_6
    have zv_7 := Nat.lt_of_lt_of_le zv_6 hb7.size
    have qx0_7 := (hb7.cell (p := ⟨w3.heap.size, 0, none⟩) zx_6).trans qx0_6
    have qx1_7 := (hb7.cell (p := ⟨w3.heap.size, 1, none⟩) zx_6).trans qx1_6
    have qx2_7 := (hb7.cell (p := ⟨w3.heap.size, 2, none⟩) zx_6).trans qx2_6
    have zx_7 := Nat.lt_of_lt_of_le zx_6 hb7.size
    have qy0_7 := (hb7.cell (p := ⟨w5.heap.size, 0, none⟩) zy_6).trans qy0_6
    have qy1_7 := (hb7.cell (p := ⟨w5.heap.size, 1, none⟩) zy_6).trans qy1_6
    have qy2_7 := (hb7.cell (p := ⟨w5.heap.size, 2, none⟩) zy_6).trans qy2_6
    have zy_7 := Nat.lt_of_lt_of_le zy_6 hb7.size
    have G_7 := Lib.hid (G_6.out.keep hb7)
    have V_7 := Lib.hid (V_6.out.keep hb7)
    have X_7 := Lib.hid (X_6.out.keep hb7)
    have Y_7 := Lib.hid (Y_6.out.keep hb7)
    clear qg0_6 qg1_6 zg_6 qv0_6 qv1_6 qv2_6 zv_6 qx0_6 qx1_6 qx2_6 zx_6 G_6 V_6 X_6 Y_6 qy0_6 qy1_6 qy2_6 zy_6
    go_wp2_with fail
    refine (viewSame 0 0 0 0 [] [] _ _ _ X_7.out.rowI Y_7.out.rowI (by simp) (by simp)).mono ?_
    rintro e w8 ⟨rfl, hb8⟩
    have H8 := bel_trans H7 hb8
    have SZ8 := Lib.hid hb8.size
    have qg0_8 := (hb8.cell (p := ⟨w1.heap.size, 0, none⟩) zg_7).trans qg0_7
    have qg1_8 := (hb8.cell (p := ⟨w1.heap.size, 1, none⟩) zg_7).trans qg1_7
    have zg_8 := Nat.lt_of_lt_of_le zg_7 hb8.size
    have qv0_8 := (hb8.cell (p := ⟨w1.heap.size + 1, 0, none⟩) zv_7).trans qv0_7
    have qv1_8 := (hb8.cell (p := ⟨w1.heap.size + 1, 1, none⟩) zv_7).trans qv1_7
    have qv2_8 := (hb8.cell (p := ⟨w1.heap.size + 1, 2, none⟩) zv_7).trans qv2_7
    have zv_8 := Nat.lt_of_lt_of_le zv_7 hb8.size
    have qx0_8 := (hb8.cell (p := ⟨w3.heap.size, 0, none⟩) zx_7).trans qx0_7
    have qx1_8 := (hb8.cell (p := ⟨w3.heap.size, 1, none⟩) zx_7).trans qx1_7
    have qx2_8 := (hb8.cell (p := ⟨w3.heap.size, 2, none⟩) zx_7).trans qx2_7
    have zx_8 := Nat.lt_of_lt_of_le zx_7 hb8.size
    have qy0_8 := (hb8.cell (p := ⟨w5.heap.size, 0, none⟩) zy_7).trans qy0_7
    have qy1_8 := (hb8.cell (p := ⟨w5.heap.size, 1, none⟩) zy_7).trans qy1_7
    have qy2_8 := (hb8.cell (p := ⟨w5.heap.size, 2, none⟩) zy_7).trans qy2_7
    have zy_8 := Nat.lt_of_lt_of_le zy_7 hb8.size
    have G_8 := Lib.hid (G_7.out.keep hb8)
    have V_8 := Lib.hid (V_7.out.keep hb8)
    have X_8 := Lib.hid (X_7.out.keep hb8)
    have Y_8 := Lib.hid (Y_7.out.keep hb8)
    clear qg0_7 qg1_7 zg_7 qv0_7 qv1_7 qv2_7 zv_7 qx0_7 qx1_7 qx2_7 zx_7 qy0_7 qy1_7 qy2_7 zy_7 G_7 V_7 X_7 Y_7
    go_wp2
    go_ret
    exact ⟨rfl, H8⟩
  · have hV : vVal n es m src zs = true := by unfold rsB at hB; exact (Bool.and_eq_true_iff.1 hB).1
    have hO : oOk es.length [ix] = true := by unfold rsB at hB; exact (Bool.and_eq_true_iff.1 hB).2
    rw [show rsM n es m src zs [ix] = m by unfold rsM; rw [if_pos hB], show rsA n es m src zs [ix] = src by unfold rsA; rw [if_pos hB], show rsL n es m src zs [ix] = vRun m es zs [ix] by unfold rsL; rw [if_pos hB], hB] at hst hss
    clear hB
    have hrx := fun s t w (h : RowE w s es) (k : Row w t zs) => relaxAll n m src es zs s t w h k hlE hlZ
    rw [show rxM n es m src zs = m by unfold rxM; rw [if_pos hV], show rxA n es m src zs = src by unfold rxA; rw [if_pos hV], show rxL n es m src zs = vRelax m es zs by unfold rxL; rw [if_pos hV], hV] at hrx
    obtain ⟨hgv, hsr, hlen, hmk, hall⟩ := vVal_parts hV
    obtain ⟨hm, hz0, hz12, hz40, hva, hea⟩ := vVal_use hV
    obtain ⟨N, hN⟩ : ∃ N : Nat, n = N := ⟨n.toNat, by omega⟩
    subst hN
    obtain ⟨A, hA⟩ : ∃ A : Nat, src = A := ⟨src.toNat, by omega⟩
    subst hA
    have hNz : zs.length = N := by omega
    have hAN : A < N := by omega
    have hN12 : N ≤ 12 := by omega
    have hoi := oOk_all hO ix (by simp)
    have hoi2 : 0 ≤ ix ∧ ix < es.length := by unfold oIn at hoi; simpa using hoi
    obtain ⟨I, hI⟩ : ∃ I : Nat, ix = I := ⟨ix.toNat, by omega⟩
    subst hI
    have hIl : I < es.length := by omega
    have hIl' : (I : Int) < es.length := by omega
    obtain ⟨x, y, z, hx⟩ : ∃ x y z, (x, y, z) = es.getD I (0, 0, 0) := ⟨_, _, _, rfl⟩
    have heI : eAt es (I : Int) = (x, y, z) := by rw [hx]; rfl
    have hin : (x, y, z) ∈ es := by rw [← heI]; exact eAt_in hoi
    obtain ⟨h1e, h2e, hwz⟩ := hea _ hin
    simp only at h1e h2e hwz
    have hL1 : vRun m es zs [(I : Int)] = vOne m zs (x, y, z) := by show vOne m zs (eAt es (I : Int)) = _; rw [heI]
    have htw := vOne_twice hmk hva (e := (x, y, z)) h1e.2 h2e.2 hwz
    have hal := one_all hmk hva hea hin
    have hLall := vOne_all hmk hva (e := (x, y, z)) h1e.2 hwz
    obtain ⟨L, hL⟩ : ∃ L, L = vOne m zs (x, y, z) := ⟨_, rfl⟩
    rw [hL1, ← hL] at hst hss
    have hlL : L.length = N := by rw [hL, vOne_length, hNz]
    rw [← hL] at htw hal hLall
    obtain ⟨T, hT⟩ : ∃ T, T = vRelax m es zs := ⟨_, rfl⟩
    rw [← hT] at hrx hal
    have hlT : T.length = N := by rw [hT, vRelax_length, hNz]
    have hvL : vVal (N : Int) es m (A : Int) L = true := vVal_mk hgv hsr hmk (by omega) hLall
    have hbL : rsB (N : Int) es m (A : Int) L [(I : Int)] = true := by unfold rsB; rw [hvL, hO]; rfl
    have hL2 : vRun m es L [(I : Int)] = L := by show vOne m L (eAt es (I : Int)) = _; rw [heI]; exact htw
    have hs2 := fun s t w (h : RowE w s es) (k : Row w t L) => relaxEdgeU (N : Int) m (A : Int) (I : Int) es L s t w h k hlE (by omega)
    rw [show rsM (N : Int) es m (A : Int) L [(I : Int)] = m by unfold rsM; rw [if_pos hbL], show rsA (N : Int) es m (A : Int) L [(I : Int)] = (A : Int) by unfold rsA; rw [if_pos hbL], show rsL (N : Int) es m (A : Int) L [(I : Int)] = L by unfold rsL; rw [if_pos hbL]; exact hL2, hbL] at hs2
    obtain ⟨Y, hY⟩ : ∃ Y : Nat, y = Y := ⟨y.toNat, by omega⟩
    subst hY
    have hYN : Y < N := by omega
    have hib := fun w => iIsBetter m (L.getD Y 0) (T.getD Y 0) w
    rw [bBet_ofN (show mBet m (L.getD Y 0) (T.getD Y 0) = false from hal)] at hib
    have HST := Lib.hid hst
    have HSS := Lib.hid hss
    have HRX := Lib.hid hrx
    have HS2 := Lib.hid hs2
    have HIB0 := Lib.hid hib
    have HLL := Lib.hid hlL
    have HLT := Lib.hid hlT
    have HNZ := Lib.hid hNz
    have HXE := Lib.hid hx
    clear hst hss hrx hs2 hib hlL hlT hNz hx heI hin hL1 htw hal hLall hL hT hvL hbL hL2 hV hO hoi hoi2 h1e h2e hwz hgv hsr hlen hall hva hea hmk hm
    go_wp2_with fail
    refine (HST.out _ _ _ G_2.out.edges V_2.out.rowI).mono ?_
    rintro e w3 ⟨vx, rfl, howx, hokx, hb3⟩
    have H3 := bel_trans H2 hb3
    have SZ3 := Lib.hid hb3.size
    have qg0_3 := (hb3.cell (p := ⟨w1.heap.size, 0, none⟩) zg_2).trans qg0_2
    have qg1_3 := (hb3.cell (p := ⟨w1.heap.size, 1, none⟩) zg_2).trans qg1_2
    have zg_3 := Nat.lt_of_lt_of_le zg_2 hb3.size
    have qv0_3 := (hb3.cell (p := ⟨w1.heap.size + 1, 0, none⟩) zv_2).trans qv0_2
    have qv1_3 := (hb3.cell (p := ⟨w1.heap.size + 1, 1, none⟩) zv_2).trans qv1_2
    have qv2_3 := (hb3.cell (p := ⟨w1.heap.size + 1, 2, none⟩) zv_2).trans qv2_2
    have zv_3 := Nat.lt_of_lt_of_le zv_2 hb3.size
    have G_3 := Lib.hid (G_2.out.keep hb3)
    have V_3 := Lib.hid (V_2.out.keep hb3)
    obtain ⟨ax, cx, rfl, hz9⟩ := id howx
    clear hz9 hokx
    have X_3 := Lib.hid (show InR true w3 w2.heap.size w3.heap.size _ L.length 1 (cellI L) from howx)
    clear qv2_2 qv0_2 qg0_2 qv1_2 V_2 G_2 zv_2 qg1_2 zg_2
    clear howx
    go_wp2_with fail
    have hb4 : Below w3.heap.size w3 (w3.alloc (.cells #[.int .i64 m, .int .i64 A, .slice ax L.length cx] 28)) := (Below.refl _ _).alloc (by simp <;> omega) _
    have H4 := bel_trans H3 hb4
    have SZ4 := Lib.hid hb4.size
    have qg0_4 := (hb4.cell (p := ⟨w1.heap.size, 0, none⟩) zg_3).trans qg0_3
    have qg1_4 := (hb4.cell (p := ⟨w1.heap.size, 1, none⟩) zg_3).trans qg1_3
    have zg_4 := Nat.lt_of_lt_of_le zg_3 hb4.size
    have qv0_4 := (hb4.cell (p := ⟨w1.heap.size + 1, 0, none⟩) zv_3).trans qv0_3
    have qv1_4 := (hb4.cell (p := ⟨w1.heap.size + 1, 1, none⟩) zv_3).trans qv1_3
    have qv2_4 := (hb4.cell (p := ⟨w1.heap.size + 1, 2, none⟩) zv_3).trans qv2_3
    have zv_4 := Nat.lt_of_lt_of_le zv_3 hb4.size
    have G_4 := Lib.hid (G_3.out.keep hb4)
    have V_4 := Lib.hid (V_3.out.keep hb4)
    have X_4 := Lib.hid (X_3.out.keep hb4)
    have qx0_4 : (w3.alloc (.cells #[.int .i64 m, .int .i64 A, .slice ax L.length cx] 28)).cell? ⟨w3.heap.size, 0, none⟩ = some (.int .i64 m) := by go_simp
    have qx1_4 : (w3.alloc (.cells #[.int .i64 m, .int .i64 A, .slice ax L.length cx] 28)).cell? ⟨w3.heap.size, 1, none⟩ = some (.int .i64 A) := by go_simp
    have qx2_4 : (w3.alloc (.cells #[.int .i64 m, .int .i64 A, .slice ax L.length cx] 28)).cell? ⟨w3.heap.size, 2, none⟩ = some (.slice ax L.length cx) := by go_simp
    have zx_4 : w3.heap.size < (w3.alloc (.cells #[.int .i64 m, .int .i64 A, .slice ax L.length cx] 28)).heap.size := by simp <;> omega
    generalize (w3.alloc (.cells #[.int .i64 m, .int .i64 A, .slice ax L.length cx] 28)) = w4 at hb4 H4 SZ4 G_4 V_4 X_4 qg0_4 qg1_4 qv0_4 qv1_4 qv2_4 qx0_4 qx1_4 qx2_4 zg_4 zv_4 zx_4 ⊢
    have ZBx := Lib.hid zx_4
    clear qg0_3 qg1_3 zg_3 qv0_3 qv1_3 qv2_3 zv_3 G_3 V_3 X_3
    refine (HSS.out _ _ _ G_4.out.edges V_4.out.rowI).mono ?_
    rintro e w5 ⟨vy, rfl, howy, hoky, hb5⟩
    have H5 := bel_trans H4 hb5
    have SZ5 := Lib.hid hb5.size
    have qg0_5 := (hb5.cell (p := ⟨w1.heap.size, 0, none⟩) zg_4).trans qg0_4
    have qg1_5 := (hb5.cell (p := ⟨w1.heap.size, 1, none⟩) zg_4).trans qg1_4
    have zg_5 := Nat.lt_of_lt_of_le zg_4 hb5.size
    have qv0_5 := (hb5.cell (p := ⟨w1.heap.size + 1, 0, none⟩) zv_4).trans qv0_4
    have qv1_5 := (hb5.cell (p := ⟨w1.heap.size + 1, 1, none⟩) zv_4).trans qv1_4
    have qv2_5 := (hb5.cell (p := ⟨w1.heap.size + 1, 2, none⟩) zv_4).trans qv2_4
    have zv_5 := Nat.lt_of_lt_of_le zv_4 hb5.size
    have qx0_5 := (hb5.cell (p := ⟨w3.heap.size, 0, none⟩) zx_4).trans qx0_4
    have qx1_5 := (hb5.cell (p := ⟨w3.heap.size, 1, none⟩) zx_4).trans qx1_4
    have qx2_5 := (hb5.cell (p := ⟨w3.heap.size, 2, none⟩) zx_4).trans qx2_4
    have zx_5 := Nat.lt_of_lt_of_le zx_4 hb5.size
    have G_5 := Lib.hid (G_4.out.keep hb5)
    have V_5 := Lib.hid (V_4.out.keep hb5)
    have X_5 := Lib.hid (X_4.out.keep hb5)
    obtain ⟨ay, cy, rfl, hz9⟩ := id howy
    clear hz9 hoky
    have Y_5 := Lib.hid (show InR true w5 w4.heap.size w5.heap.size _ L.length 1 (cellI L) from howy)
    clear qg0_4 qg1_4 zg_4 qv0_4 qv1_4 qv2_4 zv_4 G_4 V_4 X_4 qx0_4 qx1_4 qx2_4 zx_4
    clear howy
    go_wp2_with fail
    have hb6 : Below w5.heap.size w5 (w5.alloc (.cells #[.int .i64 m, .int .i64 A, .slice ay L.length cy] 28)) := (Below.refl _ _).alloc (by simp <;> omega) _
    have H6 := bel_trans H5 hb6
    have SZ6 := Lib.hid hb6.size
    have qg0_6 := (hb6.cell (p := ⟨w1.heap.size, 0, none⟩) zg_5).trans qg0_5
    have qg1_6 := (hb6.cell (p := ⟨w1.heap.size, 1, none⟩) zg_5).trans qg1_5
    have zg_6 := Nat.lt_of_lt_of_le zg_5 hb6.size
    have qv0_6 := (hb6.cell (p := ⟨w1.heap.size + 1, 0, none⟩) zv_5).trans qv0_5
    have qv1_6 := (hb6.cell (p := ⟨w1.heap.size + 1, 1, none⟩) zv_5).trans qv1_5
    have qv2_6 := (hb6.cell (p := ⟨w1.heap.size + 1, 2, none⟩) zv_5).trans qv2_5
    have zv_6 := Nat.lt_of_lt_of_le zv_5 hb6.size
    have qx0_6 := (hb6.cell (p := ⟨w3.heap.size, 0, none⟩) zx_5).trans qx0_5
    have qx1_6 := (hb6.cell (p := ⟨w3.heap.size, 1, none⟩) zx_5).trans qx1_5
    have qx2_6 := (hb6.cell (p := ⟨w3.heap.size, 2, none⟩) zx_5).trans qx2_5
    have zx_6 := Nat.lt_of_lt_of_le zx_5 hb6.size
    have G_6 := Lib.hid (G_5.out.keep hb6)
    have V_6 := Lib.hid (V_5.out.keep hb6)
    have X_6 := Lib.hid (X_5.out.keep hb6)
    have Y_6 := Lib.hid (Y_5.out.keep hb6)
    have qy0_6 : (w5.alloc (.cells #[.int .i64 m, .int .i64 A, .slice ay L.length cy] 28)).cell? ⟨w5.heap.size, 0, none⟩ = some (.int .i64 m) := by go_simp
    have qy1_6 : (w5.alloc (.cells #[.int .i64 m, .int .i64 A, .slice ay L.length cy] 28)).cell? ⟨w5.heap.size, 1, none⟩ = some (.int .i64 A) := by go_simp
    have qy2_6 : (w5.alloc (.cells #[.int .i64 m, .int .i64 A, .slice ay L.length cy] 28)).cell? ⟨w5.heap.size, 2, none⟩ = some (.slice ay L.length cy) := by go_simp
    have zy_6 : w5.heap.size < (w5.alloc (.cells #[.int .i64 m, .int .i64 A, .slice ay L.length cy] 28)).heap.size := by simp <;> omega
    generalize (w5.alloc (.cells #[.int .i64 m, .int .i64 A, .slice ay L.length cy] 28)) = w6 at hb6 H6 SZ6 G_6 V_6 X_6 Y_6 qg0_6 qg1_6 qv0_6 qv1_6 qv2_6 qx0_6 qx1_6 qx2_6 qy0_6 qy1_6 qy2_6 zg_6 zv_6 zx_6 zy_6 ⊢
    have ZBy := Lib.hid zy_6
    clear qg0_5 qg1_5 zg_5 qv0_5 qv1_5 qv2_5 zv_5 qx0_5 qx1_5 qx2_5 zx_5 G_5 V_5 X_5 Y_5
    refine (viewSame m A m A L L _ _ _ X_6.out.rowI Y_6.out.rowI (by have := HLL.out; omega) (by have := HLL.out; omega)).mono ?_
    rintro e w7 ⟨hS, hb7⟩
    have H7 := bel_trans H6 hb7
    have SZ7 := Lib.hid hb7.size
    have qg0_7 := (hb7.cell (p := ⟨w1.heap.size, 0, none⟩) zg_6).trans qg0_6
    have qg1_7 := (hb7.cell (p := ⟨w1.heap.size, 1, none⟩) zg_6).trans qg1_6
    have zg_7 := Nat.lt_of_lt_of_le zg_6 hb7.size
    have qv0_7 := (hb7.cell (p := ⟨w1.heap.size + 1, 0, none⟩) zv_6).trans qv0_6
    have qv1_7 := (hb7.cell (p := ⟨w1.heap.size + 1, 1, none⟩) zv_6).trans qv1_6
    have qv2_7 := (hb7.cell (p := ⟨w1.heap.size + 1, 2, none⟩) zv_6).trans qv2_6
    have zv_7 := Nat.lt_of_lt_of_le zv_6 hb7.size
    have qx0_7 := (hb7.cell (p := ⟨w3.heap.size, 0, none⟩) zx_6).trans qx0_6
    have qx1_7 := (hb7.cell (p := ⟨w3.heap.size, 1, none⟩) zx_6).trans qx1_6
    have qx2_7 := (hb7.cell (p := ⟨w3.heap.size, 2, none⟩) zx_6).trans qx2_6
    have zx_7 := Nat.lt_of_lt_of_le zx_6 hb7.size
    have qy0_7 := (hb7.cell (p := ⟨w5.heap.size, 0, none⟩) zy_6).trans qy0_6
    have qy1_7 := (hb7.cell (p := ⟨w5.heap.size, 1, none⟩) zy_6).trans qy1_6
    have qy2_7 := (hb7.cell (p := ⟨w5.heap.size, 2, none⟩) zy_6).trans qy2_6
    have zy_7 := Nat.lt_of_lt_of_le zy_6 hb7.size
    have G_7 := Lib.hid (G_6.out.keep hb7)
    have V_7 := Lib.hid (V_6.out.keep hb7)
    have X_7 := Lib.hid (X_6.out.keep hb7)
    have Y_7 := Lib.hid (Y_6.out.keep hb7)
    rw [vSame_self] at hS
    subst hS
    clear qg0_6 qg1_6 zg_6 qv0_6 qv1_6 qv2_6 zv_6 qx0_6 qx1_6 qx2_6 zx_6 G_6 V_6 X_6 Y_6 qy0_6 qy1_6 qy2_6 zy_6
    go_wp2_with fail
    refine (HS2.out _ _ _ G_7.out.edges X_7.out.rowI).mono ?_
    rintro e w8 ⟨vz, rfl, howz, hokz, hb8⟩
    have H8 := bel_trans H7 hb8
    have SZ8 := Lib.hid hb8.size
    have qg0_8 := (hb8.cell (p := ⟨w1.heap.size, 0, none⟩) zg_7).trans qg0_7
    have qg1_8 := (hb8.cell (p := ⟨w1.heap.size, 1, none⟩) zg_7).trans qg1_7
    have zg_8 := Nat.lt_of_lt_of_le zg_7 hb8.size
    have qv0_8 := (hb8.cell (p := ⟨w1.heap.size + 1, 0, none⟩) zv_7).trans qv0_7
    have qv1_8 := (hb8.cell (p := ⟨w1.heap.size + 1, 1, none⟩) zv_7).trans qv1_7
    have qv2_8 := (hb8.cell (p := ⟨w1.heap.size + 1, 2, none⟩) zv_7).trans qv2_7
    have zv_8 := Nat.lt_of_lt_of_le zv_7 hb8.size
    have qx0_8 := (hb8.cell (p := ⟨w3.heap.size, 0, none⟩) zx_7).trans qx0_7
    have qx1_8 := (hb8.cell (p := ⟨w3.heap.size, 1, none⟩) zx_7).trans qx1_7
    have qx2_8 := (hb8.cell (p := ⟨w3.heap.size, 2, none⟩) zx_7).trans qx2_7
    have zx_8 := Nat.lt_of_lt_of_le zx_7 hb8.size
    have qy0_8 := (hb8.cell (p := ⟨w5.heap.size, 0, none⟩) zy_7).trans qy0_7
    have qy1_8 := (hb8.cell (p := ⟨w5.heap.size, 1, none⟩) zy_7).trans qy1_7
    have qy2_8 := (hb8.cell (p := ⟨w5.heap.size, 2, none⟩) zy_7).trans qy2_7
    have zy_8 := Nat.lt_of_lt_of_le zy_7 hb8.size
    have G_8 := Lib.hid (G_7.out.keep hb8)
    have V_8 := Lib.hid (V_7.out.keep hb8)
    have X_8 := Lib.hid (X_7.out.keep hb8)
    have Y_8 := Lib.hid (Y_7.out.keep hb8)
    obtain ⟨az, cz, rfl, hz9⟩ := id howz
    clear hz9 hokz
    have Z_8 := Lib.hid (show InR true w8 w7.heap.size w8.heap.size _ L.length 1 (cellI L) from howz)
    clear qg0_7 qg1_7 zg_7 qv0_7 qv1_7 qv2_7 zv_7 qx0_7 qx1_7 qx2_7 zx_7 qy0_7 qy1_7 qy2_7 zy_7 G_7 V_7 X_7 Y_7
    clear howz
    go_wp2_with fail
    have hb9 : Below w8.heap.size w8 (w8.alloc (.cells #[.int .i64 m, .int .i64 A, .slice az L.length cz] 28)) := (Below.refl _ _).alloc (by simp <;> omega) _
    have H9 := bel_trans H8 hb9
    have SZ9 := Lib.hid hb9.size
    have qg0_9 := (hb9.cell (p := ⟨w1.heap.size, 0, none⟩) zg_8).trans qg0_8
    have qg1_9 := (hb9.cell (p := ⟨w1.heap.size, 1, none⟩) zg_8).trans qg1_8
    have zg_9 := Nat.lt_of_lt_of_le zg_8 hb9.size
    have qv0_9 := (hb9.cell (p := ⟨w1.heap.size + 1, 0, none⟩) zv_8).trans qv0_8
    have qv1_9 := (hb9.cell (p := ⟨w1.heap.size + 1, 1, none⟩) zv_8).trans qv1_8
    have qv2_9 := (hb9.cell (p := ⟨w1.heap.size + 1, 2, none⟩) zv_8).trans qv2_8
    have zv_9 := Nat.lt_of_lt_of_le zv_8 hb9.size
    have qx0_9 := (hb9.cell (p := ⟨w3.heap.size, 0, none⟩) zx_8).trans qx0_8
    have qx1_9 := (hb9.cell (p := ⟨w3.heap.size, 1, none⟩) zx_8).trans qx1_8
    have qx2_9 := (hb9.cell (p := ⟨w3.heap.size, 2, none⟩) zx_8).trans qx2_8
    have zx_9 := Nat.lt_of_lt_of_le zx_8 hb9.size
    have qy0_9 := (hb9.cell (p := ⟨w5.heap.size, 0, none⟩) zy_8).trans qy0_8
    have qy1_9 := (hb9.cell (p := ⟨w5.heap.size, 1, none⟩) zy_8).trans qy1_8
    have qy2_9 := (hb9.cell (p := ⟨w5.heap.size, 2, none⟩) zy_8).trans qy2_8
    have zy_9 := Nat.lt_of_lt_of_le zy_8 hb9.size
    have G_9 := Lib.hid (G_8.out.keep hb9)
    have V_9 := Lib.hid (V_8.out.keep hb9)
    have X_9 := Lib.hid (X_8.out.keep hb9)
    have Y_9 := Lib.hid (Y_8.out.keep hb9)
    have Z_9 := Lib.hid (Z_8.out.keep hb9)
    have qz0_9 : (w8.alloc (.cells #[.int .i64 m, .int .i64 A, .slice az L.length cz] 28)).cell? ⟨w8.heap.size, 0, none⟩ = some (.int .i64 m) := by go_simp
    have qz1_9 : (w8.alloc (.cells #[.int .i64 m, .int .i64 A, .slice az L.length cz] 28)).cell? ⟨w8.heap.size, 1, none⟩ = some (.int .i64 A) := by go_simp
    have qz2_9 : (w8.alloc (.cells #[.int .i64 m, .int .i64 A, .slice az L.length cz] 28)).cell? ⟨w8.heap.size, 2, none⟩ = some (.slice az L.length cz) := by go_simp
    have zz_9 : w8.heap.size < (w8.alloc (.cells #[.int .i64 m, .int .i64 A, .slice az L.length cz] 28)).heap.size := by simp <;> omega
    generalize (w8.alloc (.cells #[.int .i64 m, .int .i64 A, .slice az L.length cz] 28)) = w9 at hb9 H9 SZ9 G_9 V_9 X_9 Y_9 Z_9 qg0_9 qg1_9 qv0_9 qv1_9 qv2_9 qx0_9 qx1_9 qx2_9 qy0_9 qy1_9 qy2_9 qz0_9 qz1_9 qz2_9 zg_9 zv_9 zx_9 zy_9 zz_9 ⊢
    have ZBz := Lib.hid zz_9
    clear qg0_8 qg1_8 zg_8 qv0_8 qv1_8 qv2_8 zv_8 qx0_8 qx1_8 qx2_8 zx_8 qy0_8 qy1_8 qy2_8 zy_8 G_8 V_8 X_8 Y_8 Z_8
    refine (HRX.out _ _ _ G_9.out.edges V_9.out.rowI).mono ?_
    rintro e w10 ⟨vf, rfl, howf, hokf, hb10⟩
    have H10 := bel_trans H9 hb10
    have SZ10 := Lib.hid hb10.size
    have qg0_10 := (hb10.cell (p := ⟨w1.heap.size, 0, none⟩) zg_9).trans qg0_9
    have qg1_10 := (hb10.cell (p := ⟨w1.heap.size, 1, none⟩) zg_9).trans qg1_9
    have zg_10 := Nat.lt_of_lt_of_le zg_9 hb10.size
    have qv0_10 := (hb10.cell (p := ⟨w1.heap.size + 1, 0, none⟩) zv_9).trans qv0_9
    have qv1_10 := (hb10.cell (p := ⟨w1.heap.size + 1, 1, none⟩) zv_9).trans qv1_9
    have qv2_10 := (hb10.cell (p := ⟨w1.heap.size + 1, 2, none⟩) zv_9).trans qv2_9
    have zv_10 := Nat.lt_of_lt_of_le zv_9 hb10.size
    have qx0_10 := (hb10.cell (p := ⟨w3.heap.size, 0, none⟩) zx_9).trans qx0_9
    have qx1_10 := (hb10.cell (p := ⟨w3.heap.size, 1, none⟩) zx_9).trans qx1_9
    have qx2_10 := (hb10.cell (p := ⟨w3.heap.size, 2, none⟩) zx_9).trans qx2_9
    have zx_10 := Nat.lt_of_lt_of_le zx_9 hb10.size
    have qy0_10 := (hb10.cell (p := ⟨w5.heap.size, 0, none⟩) zy_9).trans qy0_9
    have qy1_10 := (hb10.cell (p := ⟨w5.heap.size, 1, none⟩) zy_9).trans qy1_9
    have qy2_10 := (hb10.cell (p := ⟨w5.heap.size, 2, none⟩) zy_9).trans qy2_9
    have zy_10 := Nat.lt_of_lt_of_le zy_9 hb10.size
    have qz0_10 := (hb10.cell (p := ⟨w8.heap.size, 0, none⟩) zz_9).trans qz0_9
    have qz1_10 := (hb10.cell (p := ⟨w8.heap.size, 1, none⟩) zz_9).trans qz1_9
    have qz2_10 := (hb10.cell (p := ⟨w8.heap.size, 2, none⟩) zz_9).trans qz2_9
    have zz_10 := Nat.lt_of_lt_of_le zz_9 hb10.size
    have G_10 := Lib.hid (G_9.out.keep hb10)
    have V_10 := Lib.hid (V_9.out.keep hb10)
    have X_10 := Lib.hid (X_9.out.keep hb10)
    have Y_10 := Lib.hid (Y_9.out.keep hb10)
    have Z_10 := Lib.hid (Z_9.out.keep hb10)
    obtain ⟨af, cf, rfl, hz9⟩ := id howf
    clear hz9 hokf
    have F_10 := Lib.hid (show InR true w10 w9.heap.size w10.heap.size _ T.length 1 (cellI T) from howf)
    clear qg0_9 qg1_9 zg_9 qv0_9 qv1_9 qv2_9 zv_9 qx0_9 qx1_9 qx2_9 zx_9 qy0_9 qy1_9 qy2_9 zy_9 G_9 V_9 X_9 Y_9 Z_9 qz0_9 qz1_9 qz2_9 zz_9
    clear howf
    go_wp2_with fail
    have hb11 : Below w10.heap.size w10 (w10.alloc (.cells #[.int .i64 m, .int .i64 A, .slice af T.length cf] 28)) := (Below.refl _ _).alloc (by simp <;> omega) _
    have H11 := bel_trans H10 hb11
    have SZ11 := Lib.hid hb11.size
    have qg0_11 := (hb11.cell (p := ⟨w1.heap.size, 0, none⟩) zg_10).trans qg0_10
    have qg1_11 := (hb11.cell (p := ⟨w1.heap.size, 1, none⟩) zg_10).trans qg1_10
    have zg_11 := Nat.lt_of_lt_of_le zg_10 hb11.size
    have qv0_11 := (hb11.cell (p := ⟨w1.heap.size + 1, 0, none⟩) zv_10).trans qv0_10
    have qv1_11 := (hb11.cell (p := ⟨w1.heap.size + 1, 1, none⟩) zv_10).trans qv1_10
    have qv2_11 := (hb11.cell (p := ⟨w1.heap.size + 1, 2, none⟩) zv_10).trans qv2_10
    have zv_11 := Nat.lt_of_lt_of_le zv_10 hb11.size
    have qx0_11 := (hb11.cell (p := ⟨w3.heap.size, 0, none⟩) zx_10).trans qx0_10
    have qx1_11 := (hb11.cell (p := ⟨w3.heap.size, 1, none⟩) zx_10).trans qx1_10
    have qx2_11 := (hb11.cell (p := ⟨w3.heap.size, 2, none⟩) zx_10).trans qx2_10
    have zx_11 := Nat.lt_of_lt_of_le zx_10 hb11.size
    have qy0_11 := (hb11.cell (p := ⟨w5.heap.size, 0, none⟩) zy_10).trans qy0_10
    have qy1_11 := (hb11.cell (p := ⟨w5.heap.size, 1, none⟩) zy_10).trans qy1_10
    have qy2_11 := (hb11.cell (p := ⟨w5.heap.size, 2, none⟩) zy_10).trans qy2_10
    have zy_11 := Nat.lt_of_lt_of_le zy_10 hb11.size
    have qz0_11 := (hb11.cell (p := ⟨w8.heap.size, 0, none⟩) zz_10).trans qz0_10
    have qz1_11 := (hb11.cell (p := ⟨w8.heap.size, 1, none⟩) zz_10).trans qz1_10
    have qz2_11 := (hb11.cell (p := ⟨w8.heap.size, 2, none⟩) zz_10).trans qz2_10
    have zz_11 := Nat.lt_of_lt_of_le zz_10 hb11.size
    have G_11 := Lib.hid (G_10.out.keep hb11)
    have V_11 := Lib.hid (V_10.out.keep hb11)
    have X_11 := Lib.hid (X_10.out.keep hb11)
    have Y_11 := Lib.hid (Y_10.out.keep hb11)
    have Z_11 := Lib.hid (Z_10.out.keep hb11)
    have F_11 := Lib.hid (F_10.out.keep hb11)
    have qf0_11 : (w10.alloc (.cells #[.int .i64 m, .int .i64 A, .slice af T.length cf] 28)).cell? ⟨w10.heap.size, 0, none⟩ = some (.int .i64 m) := by go_simp
    have qf1_11 : (w10.alloc (.cells #[.int .i64 m, .int .i64 A, .slice af T.length cf] 28)).cell? ⟨w10.heap.size, 1, none⟩ = some (.int .i64 A) := by go_simp
    have qf2_11 : (w10.alloc (.cells #[.int .i64 m, .int .i64 A, .slice af T.length cf] 28)).cell? ⟨w10.heap.size, 2, none⟩ = some (.slice af T.length cf) := by go_simp
    have zf_11 : w10.heap.size < (w10.alloc (.cells #[.int .i64 m, .int .i64 A, .slice af T.length cf] 28)).heap.size := by simp <;> omega
    generalize (w10.alloc (.cells #[.int .i64 m, .int .i64 A, .slice af T.length cf] 28)) = w11 at hb11 H11 SZ11 F_11 G_11 V_11 X_11 Y_11 Z_11 qf0_11 qf1_11 qf2_11 qg0_11 qg1_11 qv0_11 qv1_11 qv2_11 qx0_11 qx1_11 qx2_11 qy0_11 qy1_11 qy2_11 qz0_11 qz1_11 qz2_11 zf_11 zg_11 zv_11 zx_11 zy_11 zz_11 ⊢
    have ZBf := Lib.hid zf_11
    clear qg0_10 qg1_10 zg_10 qv0_10 qv1_10 qv2_10 zv_10 qx0_10 qx1_10 qx2_10 zx_10 qy0_10 qy1_10 qy2_10 zy_10 qz0_10 qz1_10 qz2_10 zz_10 G_10 V_10 X_10 Y_10 Z_10 F_10
    have hzg := rowE_parts G_11.out.edges
    rcases hzg with h00 | ⟨bg, og, rfl, hbg, hcg⟩
    · rw [h00] at hIl; simp at hIl
    have hg1 := hcg I hIl
    rw [← HXE.out] at hg1
    simp only at hg1
    obtain ⟨ce0, ce1, ce2⟩ := hg1
    clear hcg
    go_wp2_with fail
    go_simp
    go_wp2_with fail
    have hb12 : Below w11.heap.size w11 (w11.alloc (.cells #[.int .i64 x, .int .i64 Y, .int .i64 z] 44)) := (Below.refl _ _).alloc (by simp <;> omega) _
    have H12 := bel_trans H11 hb12
    have SZ12 := Lib.hid hb12.size
    have qg0_12 := (hb12.cell (p := ⟨w1.heap.size, 0, none⟩) zg_11).trans qg0_11
    have qg1_12 := (hb12.cell (p := ⟨w1.heap.size, 1, none⟩) zg_11).trans qg1_11
    have zg_12 := Nat.lt_of_lt_of_le zg_11 hb12.size
    have qv0_12 := (hb12.cell (p := ⟨w1.heap.size + 1, 0, none⟩) zv_11).trans qv0_11
    have qv1_12 := (hb12.cell (p := ⟨w1.heap.size + 1, 1, none⟩) zv_11).trans qv1_11
    have qv2_12 := (hb12.cell (p := ⟨w1.heap.size + 1, 2, none⟩) zv_11).trans qv2_11
    have zv_12 := Nat.lt_of_lt_of_le zv_11 hb12.size
    have qx0_12 := (hb12.cell (p := ⟨w3.heap.size, 0, none⟩) zx_11).trans qx0_11
    have qx1_12 := (hb12.cell (p := ⟨w3.heap.size, 1, none⟩) zx_11).trans qx1_11
    have qx2_12 := (hb12.cell (p := ⟨w3.heap.size, 2, none⟩) zx_11).trans qx2_11
    have zx_12 := Nat.lt_of_lt_of_le zx_11 hb12.size
    have qy0_12 := (hb12.cell (p := ⟨w5.heap.size, 0, none⟩) zy_11).trans qy0_11
    have qy1_12 := (hb12.cell (p := ⟨w5.heap.size, 1, none⟩) zy_11).trans qy1_11
    have qy2_12 := (hb12.cell (p := ⟨w5.heap.size, 2, none⟩) zy_11).trans qy2_11
    have zy_12 := Nat.lt_of_lt_of_le zy_11 hb12.size
    have qz0_12 := (hb12.cell (p := ⟨w8.heap.size, 0, none⟩) zz_11).trans qz0_11
    have qz1_12 := (hb12.cell (p := ⟨w8.heap.size, 1, none⟩) zz_11).trans qz1_11
    have qz2_12 := (hb12.cell (p := ⟨w8.heap.size, 2, none⟩) zz_11).trans qz2_11
    have zz_12 := Nat.lt_of_lt_of_le zz_11 hb12.size
    have qf0_12 := (hb12.cell (p := ⟨w10.heap.size, 0, none⟩) zf_11).trans qf0_11
    have qf1_12 := (hb12.cell (p := ⟨w10.heap.size, 1, none⟩) zf_11).trans qf1_11
    have qf2_12 := (hb12.cell (p := ⟨w10.heap.size, 2, none⟩) zf_11).trans qf2_11
    have zf_12 := Nat.lt_of_lt_of_le zf_11 hb12.size
    have G_12 := Lib.hid (G_11.out.keep hb12)
    have V_12 := Lib.hid (V_11.out.keep hb12)
    have X_12 := Lib.hid (X_11.out.keep hb12)
    have Y_12 := Lib.hid (Y_11.out.keep hb12)
    have Z_12 := Lib.hid (Z_11.out.keep hb12)
    have F_12 := Lib.hid (F_11.out.keep hb12)
    have qe0_12 : (w11.alloc (.cells #[.int .i64 x, .int .i64 Y, .int .i64 z] 44)).cell? ⟨w11.heap.size, 0, none⟩ = some (.int .i64 x) := by go_simp
    have qe1_12 : (w11.alloc (.cells #[.int .i64 x, .int .i64 Y, .int .i64 z] 44)).cell? ⟨w11.heap.size, 1, none⟩ = some (.int .i64 Y) := by go_simp
    have qe2_12 : (w11.alloc (.cells #[.int .i64 x, .int .i64 Y, .int .i64 z] 44)).cell? ⟨w11.heap.size, 2, none⟩ = some (.int .i64 z) := by go_simp
    have ze_12 : w11.heap.size < (w11.alloc (.cells #[.int .i64 x, .int .i64 Y, .int .i64 z] 44)).heap.size := by simp <;> omega
    generalize (w11.alloc (.cells #[.int .i64 x, .int .i64 Y, .int .i64 z] 44)) = w12 at hb12 H12 SZ12 F_12 G_12 V_12 X_12 Y_12 Z_12 qe0_12 qe1_12 qe2_12 qf0_12 qf1_12 qf2_12 qg0_12 qg1_12 qv0_12 qv1_12 qv2_12 qx0_12 qx1_12 qx2_12 qy0_12 qy1_12 qy2_12 qz0_12 qz1_12 qz2_12 ze_12 zf_12 zg_12 zv_12 zx_12 zy_12 zz_12 ⊢
    have ZBe := Lib.hid ze_12
    clear qg0_11 qg1_11 zg_11 qv0_11 qv1_11 qv2_11 zv_11 qx0_11 qx1_11 qx2_11 zx_11 qy0_11 qy1_11 qy2_11 zy_11 qz0_11 qz1_11 qz2_11 zz_11 G_11 V_11 X_11 Y_11 Z_11 F_11 qf0_11 qf1_11 qf2_11 zf_11
    obtain ⟨_, _, hva9, hz9⟩ := id X_12.out
    injection hva9 with hv1 hv2 hv3
    subst hv1
    clear hv2 hv3
    rcases hz9 with hz9 | ⟨bx, ox, rfl, hr1, hr2, hr3, hrc⟩
    · have := HLL.out; omega
    have hcl : ∀ k : Nat, k < N → w12.cell? ⟨bx, ox + k, none⟩ = some (.int .i64 (L.getD k 0)) := fun k h => (hrc k (by have := HLL.out; omega)).1
    have HCX := Lib.hid (And.intro hcl (show bx < w12.heap.size by omega))
    clear hcl hrc hr1 hr2 hr3
    obtain ⟨_, _, hva9, hz9⟩ := id F_12.out
    injection hva9 with hv1 hv2 hv3
    subst hv1
    clear hv2 hv3
    rcases hz9 with hz9 | ⟨bf, of, rfl, hr1, hr2, hr3, hrc⟩
    · have := HLT.out; omega
    have hcl : ∀ k : Nat, k < N → w12.cell? ⟨bf, of + k, none⟩ = some (.int .i64 (T.getD k 0)) := fun k h => (hrc k (by have := HLT.out; omega)).1
    have HCF := Lib.hid (And.intro hcl (show bf < w12.heap.size by omega))
    clear hcl hrc hr1 hr2 hr3
    have cxk := HCX.out.1 Y hYN
    have cfk := HCF.out.1 Y hYN
    have hlx := HCX.out.2
    have hlf := HCF.out.2
    have hYl : (Y : Int) < L.length := by have := HLL.out; omega
    have hYt : (Y : Int) < T.length := by have := HLT.out; omega
    have hYl2 : Y < L.length := by have := HLL.out; omega
    have hYt2 : Y < T.length := by have := HLT.out; omega
    have hib := HIB0.out
    obtain ⟨y1, hy1⟩ : ∃ y, y = L.getD Y 0 := ⟨_, rfl⟩
    obtain ⟨y2, hy2⟩ : ∃ y, y = T.getD Y 0 := ⟨_, rfl⟩
    rw [← hy1] at cxk hib
    rw [← hy2] at cfk hib
    have HIB := Lib.hid hib
    clear hib hy1 hy2
    have hvs := fun w9 (h9 : Below w12.heap.size w12 w9) => viewSame m A m A L L _ _ w9 (Z_12.out.keep h9).rowI (X_12.out.keep h9).rowI (by have := HLL.out; omega) (by have := HLL.out; omega)
    rw [vSame_self] at hvs
    have HVS := Lib.hid hvs
    clear hvs
    have hff : ∀ w' : World, Below w12.heap.size w12 w' → (w'.cell? ⟨w1.heap.size + 1, 0, none⟩ = some (.int .i64 m) ∧ w'.cell? ⟨w3.heap.size, 0, none⟩ = some (.int .i64 m) ∧ w'.cell? ⟨w3.heap.size, 1, none⟩ = some (.int .i64 A) ∧ w'.cell? ⟨w3.heap.size, 2, none⟩ = some (.slice (some ⟨bx, ox, none⟩) L.length cx) ∧ w'.cell? ⟨w8.heap.size, 0, none⟩ = some (.int .i64 m) ∧ w'.cell? ⟨w8.heap.size, 1, none⟩ = some (.int .i64 A) ∧ w'.cell? ⟨w8.heap.size, 2, none⟩ = some (.slice az L.length cz) ∧ w'.cell? ⟨w10.heap.size, 2, none⟩ = some (.slice (some ⟨bf, of, none⟩) T.length cf) ∧ w'.cell? ⟨w11.heap.size, 1, none⟩ = some (.int .i64 Y) ∧ w'.cell? ⟨bx, ox + Y, none⟩ = some (.int .i64 y1) ∧ w'.cell? ⟨bf, of + Y, none⟩ = some (.int .i64 y2)) := fun w' h => ⟨(h.cell (p := ⟨w1.heap.size + 1, 0, none⟩) zv_12).trans qv0_12, (h.cell (p := ⟨w3.heap.size, 0, none⟩) zx_12).trans qx0_12, (h.cell (p := ⟨w3.heap.size, 1, none⟩) zx_12).trans qx1_12, (h.cell (p := ⟨w3.heap.size, 2, none⟩) zx_12).trans qx2_12, (h.cell (p := ⟨w8.heap.size, 0, none⟩) zz_12).trans qz0_12, (h.cell (p := ⟨w8.heap.size, 1, none⟩) zz_12).trans qz1_12, (h.cell (p := ⟨w8.heap.size, 2, none⟩) zz_12).trans qz2_12, (h.cell (p := ⟨w10.heap.size, 2, none⟩) zf_12).trans qf2_12, (h.cell (p := ⟨w11.heap.size, 1, none⟩) ze_12).trans qe1_12, (h.cell (p := ⟨bx, ox + Y, none⟩) hlx).trans cxk, (h.cell (p := ⟨bf, of + Y, none⟩) hlf).trans cfk⟩
    have FF := Lib.hid hff
    clear hff
    go_wp2_with fail
    refine wp_region_below (by kernel_rfl) (by kernel_rfl) ?_
    repeat (go_big_quiet_step ((intro hw; first | with_reducible rfl | (obtain ⟨f0, f1, f2, f3, f4, f5, f6, f7, f8, f9, f10⟩ := FF.out _ hw; simp only [f0, f1, f2, f3, f4, f5, f6, f7, f8, f9, f10, Result.andThen]; first | exact ⟨trivial, rfl⟩ | exact ⟨rfl, rfl⟩) | (go_at_call 21; exact quietB (HVS.out _ hw) hw) | (go_at_call 28; exact quietB (HIB.out _) hw))))
    refine wpQuiet_nil ?_
    intro w99 hbw99
    go_wp2
    go_ret
    exact ⟨rfl, bel_trans H12 hbw99⟩

set_option maxRecDepth 100000 in
theorem lifted (os : Os) (started : os.Started) (H : Type) (enc : TypeId × Value → H) :
    ReturnsInHanded {} Try.checked os 13 .any (Rows.fnRelaxTwiceSpec.pre6 enc Try.prog Try.f13 Rows.fnRelaxTwiceRow.domain false) (Rows.fnRelaxTwiceSpec.post enc Try.prog Try.f13 false true false false) := by
  refine returnsInHanded_of_change (C := Try.checked) own started (by kernel_rfl) Try.func13
    (ChangeSpec.witness6 (enc := enc) (C := Try.checked) false ⟨#[], #[.slice none 0 0], []⟩ 8 (by kernel_rfl) (by kernel_rfl) (by kernel_rfl) (by kernel_rfl)) ?_
  intro W base args ds gs before hval0 hW hcnd _
  have hval : ∀ (j : Nat) t v, Try.f13.params[j]? = some t → args[j]? = some v → Value.okWide Try.prog W .any base t v := hval0
  have hW' := hW
  obtain ⟨p, q, hA0, hV, rfl, hfz, hnd⟩ := hW
  have hA : DataW.TrodAll enc Try.prog W 0 (fun _ => true) true Try.f13.params.toList args.toList ds p := hA0
  rw [Try.params13] at hA hval
  obtain ⟨v0, vs0, d0, ds0, p0, q0, hargs, rfl, rfl, h0, r0⟩ := trodAll_cons hA
  obtain ⟨rfl, rfl, rfl⟩ := trodAll_nil r0
  obtain rfl : args = #[v0] := by cases args; simp_all
  obtain ⟨rfl, rfl⟩ := trodVars_none hV
  obtain ⟨a0, len0, cap0, rfl⟩ := okWide_slice Try.underlying22 (hval 0 22 v0 rfl rfl)
  have k0 := h0
  have lt0 : ∀ x ∈ p0, x.block < W.heap.size := by obtain ⟨m, hm⟩ := k0; exact DataW.trod_lt m _ _ _ hm
  obtain ⟨z0, w0⟩ : ∃ zs, IsRow .u8 W a0 len0 cap0 zs := by
    obtain ⟨fuel, hf⟩ := h0
    rcases open_ints Try.underlying22 Try.underlying5 (by kernel_rfl) hf with ⟨hcs, _⟩ | ⟨x, l, c, zs, hcs, _, hl, hm, hz, _, hcell, hwz⟩
    · simp [Value.cells] at hcs
      obtain ⟨rfl, rfl, rfl⟩ := hcs
      exact ⟨[], .inl ⟨rfl, rfl, rfl, rfl⟩⟩
    · simp [Value.cells] at hcs
      obtain ⟨rfl, rfl, rfl⟩ := hcs
      exact ⟨zs, .inr ⟨_, rfl, hl, hm, by simpa using hz, hcell, hwz⟩⟩
  clear hA0 hval0
  refine (walk a0 len0 cap0 z0 W w0).mono fun e W' ⟨he, bel⟩ => ?_
  subst he
  exact ⟨_, rfl, _, _, _, [], _, [], hW', trodAll_mk1 (shut_bool Try.underlying4 _), (trodAll_cons_mk (Below.trod laidOut (by kernel_rfl) (of_decide_eq_true (by kernel_rfl)) k0 bel lt0) trodAll_mk0), rfl, bel.frame _, fun h => by cases h⟩

theorem over : Rows.fnRelaxTwiceRow.holds Try.pinned (OpenSpec.ofChange Rows.fnRelaxTwiceSpec) :=
  OpenClaim.holds_of_wide 13 Try.f13 rfl rfl rfl rfl rfl rfl rfl ⟨rfl, rfl, rfl, rfl, rfl⟩ rfl rfl rfl rfl rfl (by kernel_rfl) Try.func13 (by kernel_rfl)
    (of_decide_eq_true (by kernel_rfl)) (by unfold Func.isWrapper; first | (rw [if_pos (by decide +kernel)]; kernel_rfl) | (rw [if_neg (by decide +kernel)]; exact ⟨rfl, rfl⟩))
    (fun os started H enc _ => lifted os started H enc)

theorem proved : Rows.FnRelaxTwiceSaid := over
end Go.Proofs.Ytbcbknebjbelmaa.fnRelaxTwice
