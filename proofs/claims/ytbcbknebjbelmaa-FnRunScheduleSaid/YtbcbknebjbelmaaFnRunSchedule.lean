/-
  Proved: a schedule makes no value worse and from the start none better than the right one (the law FnRunSchedule returns true for every input and leaves it as it was), with no further condition.
-/
import Derived.Test.YtbcbknebjbelmaaRows
import Derived.Test.YtbcbknebjbelmaaDrawsO
import Derived.Test.YtbcbknebjbelmaaRunU
import Derived.Test.YtbcbknebjbelmaaOneM
import Derived.Test.YtbcbknebjbelmaaRight
import Derived.Test.YtbcbknebjbelmaaViewT
import Derived.Test.YtbcbknebjbelmaaImpl2
import Derived.Test.YtbcbknebjbelmaaStartL
import Derived.Test.YtbcbknebjbelmaaBestB
import Derived.Test.YtbcbknebjbelmaaVStartJ
import Derived.WalkKit
import Derived.ProofKit
import Derived.OpenShut
import Derived.ShutString
import Derived.ChangeOld
import Derived.Below
namespace Go.Proofs.Ytbcbknebjbelmaa.fnRunSchedule
open Go.Proofs.Ytbcbknebjbelmaa Go.BigFrame
open Go.ChangeShapes Go.WideShapes Go.ChangeAt Go.RowKit
open Go.ChangeMaps (open_string shut_string)
set_option linter.unusedVariables false

theorem own : ownKnob Try.prog.godebug = none := by kernel_rfl
theorem laidOut : laidOutB Try.prog = true := by kernel_rfl

def IsRow (k : IntKind) (w : World) (a : Option Addr) (len cap : Nat) (zs : List Int) : Prop :=
  (a = none ∧ len = 0 ∧ cap = 0 ∧ zs = []) ∨
  ∃ x, a = some x ∧ len ≤ cap ∧ cap ≤ maxLen ∧ zs.length = cap ∧ (∀ i, i < zs.length → w.cell? (x.add i) = some (.int k (zs.getD i 0))) ∧ ∀ n ∈ zs, (Lit.int k n).wf = true

theorem bytes_of {w : World} {a : Option Addr} {len cap : Nat} {zs : List Int} (h : IsRow .u8 w a len cap zs) : Bytes w a len ∧ len ≤ cap ∧ len ≤ 9223372036854775807 := by
  rcases h with ⟨rfl, rfl, rfl, rfl⟩ | ⟨x, rfl, hl, hm, hz, hc, hw⟩
  · exact ⟨.inl rfl, Nat.le_refl _, by omega⟩
  · unfold maxLen at hm
    refine ⟨?_, hl, by omega⟩
    by_cases h0 : len = 0
    · exact .inl h0
    · obtain ⟨b, off, rfl, hc'⟩ := ints_at hc (by omega)
      exact .inr ⟨b, off, rfl, World.block_lt_of_cell? _ _ (hc' 0 (by omega)), fun i hi => ⟨zs[i]?.getD 0, (range_u8 hw i).1, (range_u8 hw i).2, hc' i (by omega)⟩⟩

set_option maxRecDepth 100000 in
set_option maxHeartbeats 4000000 in
theorem walk (a0 : Option Addr) (len0 cap0 : Nat) (z0 : List Int) (w : World) (w0 : IsRow .u8 w a0 len0 cap0 z0) :
    Calls Try.prog 9 #[.slice a0 len0 cap0] w fun e w' => e = .returned (.bool true) ∧ Below w.heap.size w w' := by
  obtain ⟨hby, hcp, hn⟩ := bytes_of w0
  have HB0 := Lib.hid hby
  clear hby w0
  by_cases h0 : 1048576 < len0
  · go_enter Try.func9, Try.ntmps9
    go_wp2
    go_ret
    exact ⟨rfl, Below.refl _ _⟩
  have h0' : len0 ≤ 1048576 := by omega
  clear h0
  obtain ⟨w0, hw0⟩ : ∃ w0, w0 = w := ⟨_, rfl⟩
  subst hw0
  have H0 := Below.refl w0.heap.size w0
  go_enter Try.func9, Try.ntmps9
  go_wp2_with fail
  refine (dDrawRunSchedule a0 len0 cap0 _ HB0.out hcp (by omega)).mono ?_
  rintro e w1 ⟨n, es, gs, m, src, zs, vs, os, us, rfl, hle, hrG, hrV, hrO, hb1⟩
  have H1 := bel_trans H0 hb1
  have SZ1 := Lib.hid hb1.size
  obtain ⟨va, vc, rfl, hz9⟩ := id hrG.1
  obtain ⟨vb, vd, rfl, hz8⟩ := id hrV.1
  obtain ⟨oa, oc, rfl, hz7⟩ := id hrO.1
  clear hz9 hz8 hz7
  have G_1 := Lib.hid (hrG.1)
  have V_1 := Lib.hid hrV.1
  have O_1 := Lib.hid hrO.1
  have hle1 := hle.1
  have hle2 := hle.2.1
  have hle3 := hle.2.2
  clear hrG hrV hrO hle
  go_wp2_with fail
  have hb2 : Below w1.heap.size w1 ((w1.alloc (.cells #[.int .i64 n, .slice va es.length vc] 25)).alloc (.cells #[.int .i64 m, .int .i64 src, .slice vb zs.length vd] 28)) := ((Below.refl _ _).alloc (by simp <;> omega) _).alloc (by simp <;> omega) _
  have H2 := bel_trans H1 hb2
  have SZ2 := Lib.hid hb2.size
  have G_2 := Lib.hid (G_1.out.keep hb2)
  have V_2 := Lib.hid (V_1.out.keep hb2)
  have O_2 := Lib.hid (O_1.out.keep hb2)
  have qg0_2 : ((w1.alloc (.cells #[.int .i64 n, .slice va es.length vc] 25)).alloc (.cells #[.int .i64 m, .int .i64 src, .slice vb zs.length vd] 28)).cell? ⟨w1.heap.size, 0, none⟩ = some (.int .i64 n) := by go_simp
  have qg1_2 : ((w1.alloc (.cells #[.int .i64 n, .slice va es.length vc] 25)).alloc (.cells #[.int .i64 m, .int .i64 src, .slice vb zs.length vd] 28)).cell? ⟨w1.heap.size, 1, none⟩ = some (.slice va es.length vc) := by go_simp
  have zg_2 : w1.heap.size < ((w1.alloc (.cells #[.int .i64 n, .slice va es.length vc] 25)).alloc (.cells #[.int .i64 m, .int .i64 src, .slice vb zs.length vd] 28)).heap.size := by simp <;> omega
  have qv0_2 : ((w1.alloc (.cells #[.int .i64 n, .slice va es.length vc] 25)).alloc (.cells #[.int .i64 m, .int .i64 src, .slice vb zs.length vd] 28)).cell? ⟨w1.heap.size + 1, 0, none⟩ = some (.int .i64 m) := by go_simp
  have qv1_2 : ((w1.alloc (.cells #[.int .i64 n, .slice va es.length vc] 25)).alloc (.cells #[.int .i64 m, .int .i64 src, .slice vb zs.length vd] 28)).cell? ⟨w1.heap.size + 1, 1, none⟩ = some (.int .i64 src) := by go_simp
  have qv2_2 : ((w1.alloc (.cells #[.int .i64 n, .slice va es.length vc] 25)).alloc (.cells #[.int .i64 m, .int .i64 src, .slice vb zs.length vd] 28)).cell? ⟨w1.heap.size + 1, 2, none⟩ = some (.slice vb zs.length vd) := by go_simp
  have zv_2 : w1.heap.size + 1 < ((w1.alloc (.cells #[.int .i64 n, .slice va es.length vc] 25)).alloc (.cells #[.int .i64 m, .int .i64 src, .slice vb zs.length vd] 28)).heap.size := by simp <;> omega
  generalize ((w1.alloc (.cells #[.int .i64 n, .slice va es.length vc] 25)).alloc (.cells #[.int .i64 m, .int .i64 src, .slice vb zs.length vd] 28)) = w2 at hb2 H2 SZ2 G_2 O_2 V_2 qg0_2 qg1_2 qv0_2 qv1_2 qv2_2 zg_2 zv_2 ⊢
  have ZBg := Lib.hid zg_2
  have ZBv := Lib.hid zv_2
  clear G_1 V_1 O_1
  have hlE : es.length ≤ 281474976710656 := by omega
  have hlZ : zs.length ≤ 281474976710656 := by omega
  have hlO : os.length ≤ 281474976710656 := by omega
  have hst := fun s t u w (h : RowE w s es) (k : Row w t zs) (q : Row w u os) => runScheduleU n m src es zs os s t u w h k q hlE hlZ hlO
  have hss := fun s t u w (h : RowE w s es) (k : Row w t zs) (q : Row w u os) => sRunScheduleU n m src es zs os s t u w h k q hlE hlZ hlO
  cases hB : rsB n es m src zs os
  · rw [show rsM n es m src zs os = 0 by unfold rsM; rw [hB]; rfl, show rsA n es m src zs os = 0 by unfold rsA; rw [hB]; rfl, show rsL n es m src zs os = [] by unfold rsL; rw [hB]; rfl, hB] at hst hss
    have HST := Lib.hid hst
    have HSS := Lib.hid hss
    clear hst hss hB
    go_wp2_with fail
    refine (HST.out _ _ _ _ G_2.out.edges V_2.out.rowI O_2.out.rowI).mono ?_
    rintro e w3 ⟨vx, rfl, howx, hokx, hb3⟩
    have H3 := bel_trans H2 hb3
    have SZ3 := Lib.hid hb3.size
    have qg0_3 := (hb3.cell (p := ⟨w1.heap.size, 0, none⟩) zg_2).trans qg0_2
    have qg1_3 := (hb3.cell (p := ⟨w1.heap.size, 1, none⟩) zg_2).trans qg1_2
    have zg_3 := Nat.lt_of_lt_of_le zg_2 hb3.size
    have qv0_3 := (hb3.cell (p := ⟨w1.heap.size + 1, 0, none⟩) zv_2).trans qv0_2
    have qv1_3 := (hb3.cell (p := ⟨w1.heap.size + 1, 1, none⟩) zv_2).trans qv1_2
    have qv2_3 := (hb3.cell (p := ⟨w1.heap.size + 1, 2, none⟩) zv_2).trans qv2_2
    have zv_3 := Nat.lt_of_lt_of_le zv_2 hb3.size
    have G_3 := Lib.hid (G_2.out.keep hb3)
    have V_3 := Lib.hid (V_2.out.keep hb3)
    have O_3 := Lib.hid (O_2.out.keep hb3)
    obtain ⟨ax, cx, rfl, hz9⟩ := id howx
    clear hz9 hokx
    have X_3 := Lib.hid (show InR true w3 w2.heap.size w3.heap.size _ ([] : List Int).length 1 (cellI ([] : List Int)) from howx)
    clear zv_2 qg0_2 qg1_2 qv0_2 qv2_2 O_2 qv1_2 zg_2 G_2 V_2
    clear howx
    go_wp2_with fail
    have hb4 : Below w3.heap.size w3 (w3.alloc (.cells #[.int .i64 0, .int .i64 0, .slice ax ([] : List Int).length cx] 28)) := (Below.refl _ _).alloc (by simp <;> omega) _
    have H4 := bel_trans H3 hb4
    have SZ4 := Lib.hid hb4.size
    have qg0_4 := (hb4.cell (p := ⟨w1.heap.size, 0, none⟩) zg_3).trans qg0_3
    have qg1_4 := (hb4.cell (p := ⟨w1.heap.size, 1, none⟩) zg_3).trans qg1_3
    have zg_4 := Nat.lt_of_lt_of_le zg_3 hb4.size
    have qv0_4 := (hb4.cell (p := ⟨w1.heap.size + 1, 0, none⟩) zv_3).trans qv0_3
    have qv1_4 := (hb4.cell (p := ⟨w1.heap.size + 1, 1, none⟩) zv_3).trans qv1_3
    have qv2_4 := (hb4.cell (p := ⟨w1.heap.size + 1, 2, none⟩) zv_3).trans qv2_3
    have zv_4 := Nat.lt_of_lt_of_le zv_3 hb4.size
    have G_4 := Lib.hid (G_3.out.keep hb4)
    have V_4 := Lib.hid (V_3.out.keep hb4)
    have O_4 := Lib.hid (O_3.out.keep hb4)
    have X_4 := Lib.hid (X_3.out.keep hb4)
    have qx0_4 : (w3.alloc (.cells #[.int .i64 0, .int .i64 0, .slice ax ([] : List Int).length cx] 28)).cell? ⟨w3.heap.size, 0, none⟩ = some (.int .i64 0) := by go_simp
    have qx1_4 : (w3.alloc (.cells #[.int .i64 0, .int .i64 0, .slice ax ([] : List Int).length cx] 28)).cell? ⟨w3.heap.size, 1, none⟩ = some (.int .i64 0) := by go_simp
    have qx2_4 : (w3.alloc (.cells #[.int .i64 0, .int .i64 0, .slice ax ([] : List Int).length cx] 28)).cell? ⟨w3.heap.size, 2, none⟩ = some (.slice ax ([] : List Int).length cx) := by go_simp
    have zx_4 : w3.heap.size < (w3.alloc (.cells #[.int .i64 0, .int .i64 0, .slice ax ([] : List Int).length cx] 28)).heap.size := by simp <;> omega
    generalize (w3.alloc (.cells #[.int .i64 0, .int .i64 0, .slice ax ([] : List Int).length cx] 28)) = w4 at hb4 H4 SZ4 G_4 O_4 V_4 X_4 qg0_4 qg1_4 qv0_4 qv1_4 qv2_4 qx0_4 qx1_4 qx2_4 zg_4 zv_4 zx_4 ⊢
    have ZBx := Lib.hid zx_4
    clear qg0_3 qg1_3 zg_3 qv0_3 qv1_3 qv2_3 zv_3 G_3 V_3 O_3 X_3
    refine (HSS.out _ _ _ _ G_4.out.edges V_4.out.rowI O_4.out.rowI).mono ?_
    rintro e w5 ⟨vy, rfl, howy, hoky, hb5⟩
    have H5 := bel_trans H4 hb5
    have SZ5 := Lib.hid hb5.size
    have qg0_5 := (hb5.cell (p := ⟨w1.heap.size, 0, none⟩) zg_4).trans qg0_4
    have qg1_5 := (hb5.cell (p := ⟨w1.heap.size, 1, none⟩) zg_4).trans qg1_4
    have zg_5 := Nat.lt_of_lt_of_le zg_4 hb5.size
    have qv0_5 := (hb5.cell (p := ⟨w1.heap.size + 1, 0, none⟩) zv_4).trans qv0_4
    have qv1_5 := (hb5.cell (p := ⟨w1.heap.size + 1, 1, none⟩) zv_4).trans qv1_4
    have qv2_5 := (hb5.cell (p := ⟨w1.heap.size + 1, 2, none⟩) zv_4).trans qv2_4
    have zv_5 := Nat.lt_of_lt_of_le zv_4 hb5.size
    have qx0_5 := (hb5.cell (p := ⟨w3.heap.size, 0, none⟩) zx_4).trans qx0_4
    have qx1_5 := (hb5.cell (p := ⟨w3.heap.size, 1, none⟩) zx_4).trans qx1_4
    have qx2_5 := (hb5.cell (p := ⟨w3.heap.size, 2, none⟩) zx_4).trans qx2_4
    have zx_5 := Nat.lt_of_lt_of_le zx_4 hb5.size
    have G_5 := Lib.hid (G_4.out.keep hb5)
    have V_5 := Lib.hid (V_4.out.keep hb5)
    have O_5 := Lib.hid (O_4.out.keep hb5)
    have X_5 := Lib.hid (X_4.out.keep hb5)
    obtain ⟨ay, cy, rfl, hz9⟩ := id howy
    clear hz9 hoky
    have Y_5 := Lib.hid (show InR true w5 w4.heap.size w5.heap.size _ ([] : List Int).length 1 (cellI ([] : List Int)) from howy)
    clear qg0_4 qg1_4 zg_4 qv0_4 qv1_4 qv2_4 zv_4 G_4 V_4 O_4 X_4 qx0_4 qx1_4 qx2_4 zx_4
    clear howy
    go_wp2_with fail
    have hb6 : Below w5.heap.size w5 (w5.alloc (.cells #[.int .i64 0, .int .i64 0, .slice ay ([] : List Int).length cy] 28)) := (Below.refl _ _).alloc (by simp <;> omega) _
    have H6 := bel_trans H5 hb6
    have SZ6 := Lib.hid hb6.size
    have qg0_6 := (hb6.cell (p := ⟨w1.heap.size, 0, none⟩) zg_5).trans qg0_5
    have qg1_6 := (hb6.cell (p := ⟨w1.heap.size, 1, none⟩) zg_5).trans qg1_5
    have zg_6 := Nat.lt_of_lt_of_le zg_5 hb6.size
    have qv0_6 := (hb6.cell (p := ⟨w1.heap.size + 1, 0, none⟩) zv_5).trans qv0_5
    have qv1_6 := (hb6.cell (p := ⟨w1.heap.size + 1, 1, none⟩) zv_5).trans qv1_5
    have qv2_6 := (hb6.cell (p := ⟨w1.heap.size + 1, 2, none⟩) zv_5).trans qv2_5
    have zv_6 := Nat.lt_of_lt_of_le zv_5 hb6.size
    have qx0_6 := (hb6.cell (p := ⟨w3.heap.size, 0, none⟩) zx_5).trans qx0_5
    have qx1_6 := (hb6.cell (p := ⟨w3.heap.size, 1, none⟩) zx_5).trans qx1_5
    have qx2_6 := (hb6.cell (p := ⟨w3.heap.size, 2, none⟩) zx_5).trans qx2_5
    have zx_6 := Nat.lt_of_lt_of_le zx_5 hb6.size
    have G_6 := Lib.hid (G_5.out.keep hb6)
    have V_6 := Lib.hid (V_5.out.keep hb6)
    have O_6 := Lib.hid (O_5.out.keep hb6)
    have X_6 := Lib.hid (X_5.out.keep hb6)
    have Y_6 := Lib.hid (Y_5.out.keep hb6)
    have qy0_6 : (w5.alloc (.cells #[.int .i64 0, .int .i64 0, .slice ay ([] : List Int).length cy] 28)).cell? ⟨w5.heap.size, 0, none⟩ = some (.int .i64 0) := by go_simp
    have qy1_6 : (w5.alloc (.cells #[.int .i64 0, .int .i64 0, .slice ay ([] : List Int).length cy] 28)).cell? ⟨w5.heap.size, 1, none⟩ = some (.int .i64 0) := by go_simp
    have qy2_6 : (w5.alloc (.cells #[.int .i64 0, .int .i64 0, .slice ay ([] : List Int).length cy] 28)).cell? ⟨w5.heap.size, 2, none⟩ = some (.slice ay ([] : List Int).length cy) := by go_simp
    have zy_6 : w5.heap.size < (w5.alloc (.cells #[.int .i64 0, .int .i64 0, .slice ay ([] : List Int).length cy] 28)).heap.size := by simp <;> omega
    generalize (w5.alloc (.cells #[.int .i64 0, .int .i64 0, .slice ay ([] : List Int).length cy] 28)) = w6 at hb6 H6 SZ6 G_6 O_6 V_6 X_6 Y_6 qg0_6 qg1_6 qv0_6 qv1_6 qv2_6 qx0_6 qx1_6 qx2_6 qy0_6 qy1_6 qy2_6 zg_6 zv_6 zx_6 zy_6 ⊢
    have ZBy := Lib.hid zy_6
    clear qg0_5 qg1_5 zg_5 qv0_5 qv1_5 qv2_5 zv_5 qx0_5 qx1_5 qx2_5 zx_5 G_5 V_5 O_5 X_5 Y_5
    refine (viewSame 0 0 0 0 [] [] _ _ _ X_6.out.rowI Y_6.out.rowI (by simp) (by simp)).mono ?_
    rintro e w7 ⟨rfl, hb7⟩
    have H7 := bel_trans H6 hb7
    have SZ7 := Lib.hid hb7.size
    have qg0_7 := (hb7.cell (p := ⟨w1.heap.size, 0, none⟩) zg_6).trans qg0_6
    have qg1_7 := (hb7.cell (p := ⟨w1.heap.size, 1, none⟩) zg_6).trans qg1_6
    have zg_7 := Nat.lt_of_lt_of_le zg_6 hb7.size
    have qv0_7 := (hb7.cell (p := ⟨w1.heap.size + 1, 0, none⟩) zv_6).trans qv0_6
    have qv1_7 := (hb7.cell (p := ⟨w1.heap.size + 1, 1, none⟩) zv_6).trans qv1_6
    have qv2_7 := (hb7.cell (p := ⟨w1.heap.size + 1, 2, none⟩) zv_6).trans qv2_6
    have zv_7 := Nat.lt_of_lt_of_le zv_6 hb7.size
    have qx0_7 := (hb7.cell (p := ⟨w3.heap.size, 0, none⟩) zx_6).trans qx0_6
    have qx1_7 := (hb7.cell (p := ⟨w3.heap.size, 1, none⟩) zx_6).trans qx1_6
    have qx2_7 := (hb7.cell (p := ⟨w3.heap.size, 2, none⟩) zx_6).trans qx2_6
    have zx_7 := Nat.lt_of_lt_of_le zx_6 hb7.size
    have qy0_7 := (hb7.cell (p := ⟨w5.heap.size, 0, none⟩) zy_6).trans qy0_6
    have qy1_7 := (hb7.cell (p := ⟨w5.heap.size, 1, none⟩) zy_6).trans qy1_6
    have qy2_7 := (hb7.cell (p := ⟨w5.heap.size, 2, none⟩) zy_6).trans qy2_6
    have zy_7 := Nat.lt_of_lt_of_le zy_6 hb7.size
    have G_7 := Lib.hid (G_6.out.keep hb7)
    have V_7 := Lib.hid (V_6.out.keep hb7)
    have O_7 := Lib.hid (O_6.out.keep hb7)
    have X_7 := Lib.hid (X_6.out.keep hb7)
    have Y_7 := Lib.hid (Y_6.out.keep hb7)
    clear qg0_6 qg1_6 zg_6 qv0_6 qv1_6 qv2_6 zv_6 qx0_6 qx1_6 qx2_6 zx_6 G_6 V_6 O_6 X_6 Y_6 qy0_6 qy1_6 qy2_6 zy_6
    go_wp2_with fail
    refine (viewSame 0 0 0 0 [] [] _ _ _ X_7.out.rowI Y_7.out.rowI (by simp) (by simp)).mono ?_
    rintro e w8 ⟨rfl, hb8⟩
    have H8 := bel_trans H7 hb8
    have SZ8 := Lib.hid hb8.size
    have qg0_8 := (hb8.cell (p := ⟨w1.heap.size, 0, none⟩) zg_7).trans qg0_7
    have qg1_8 := (hb8.cell (p := ⟨w1.heap.size, 1, none⟩) zg_7).trans qg1_7
    have zg_8 := Nat.lt_of_lt_of_le zg_7 hb8.size
    have qv0_8 := (hb8.cell (p := ⟨w1.heap.size + 1, 0, none⟩) zv_7).trans qv0_7
    have qv1_8 := (hb8.cell (p := ⟨w1.heap.size + 1, 1, none⟩) zv_7).trans qv1_7
    have qv2_8 := (hb8.cell (p := ⟨w1.heap.size + 1, 2, none⟩) zv_7).trans qv2_7
    have zv_8 := Nat.lt_of_lt_of_le zv_7 hb8.size
    have qx0_8 := (hb8.cell (p := ⟨w3.heap.size, 0, none⟩) zx_7).trans qx0_7
    have qx1_8 := (hb8.cell (p := ⟨w3.heap.size, 1, none⟩) zx_7).trans qx1_7
    have qx2_8 := (hb8.cell (p := ⟨w3.heap.size, 2, none⟩) zx_7).trans qx2_7
    have zx_8 := Nat.lt_of_lt_of_le zx_7 hb8.size
    have qy0_8 := (hb8.cell (p := ⟨w5.heap.size, 0, none⟩) zy_7).trans qy0_7
    have qy1_8 := (hb8.cell (p := ⟨w5.heap.size, 1, none⟩) zy_7).trans qy1_7
    have qy2_8 := (hb8.cell (p := ⟨w5.heap.size, 2, none⟩) zy_7).trans qy2_7
    have zy_8 := Nat.lt_of_lt_of_le zy_7 hb8.size
    have G_8 := Lib.hid (G_7.out.keep hb8)
    have V_8 := Lib.hid (V_7.out.keep hb8)
    have O_8 := Lib.hid (O_7.out.keep hb8)
    have X_8 := Lib.hid (X_7.out.keep hb8)
    have Y_8 := Lib.hid (Y_7.out.keep hb8)
    clear qg0_7 qg1_7 zg_7 qv0_7 qv1_7 qv2_7 zv_7 qx0_7 qx1_7 qx2_7 zx_7 qy0_7 qy1_7 qy2_7 zy_7 G_7 V_7 O_7 X_7 Y_7
    go_wp2
    go_ret
    exact ⟨rfl, H8⟩
  · have hV : vVal n es m src zs = true := by unfold rsB at hB; exact (Bool.and_eq_true_iff.1 hB).1
    have hO : oOk es.length os = true := by unfold rsB at hB; exact (Bool.and_eq_true_iff.1 hB).2
    rw [show rsM n es m src zs os = m by unfold rsM; rw [if_pos hB], show rsA n es m src zs os = src by unfold rsA; rw [if_pos hB], show rsL n es m src zs os = vRun m es zs os by unfold rsL; rw [if_pos hB], hB] at hst hss
    clear hB
    obtain ⟨hgv, hsr, hlen, hmk, hall⟩ := vVal_parts hV
    obtain ⟨hm, hz0, hz12, hz40, hva, hea⟩ := vVal_use hV
    obtain ⟨N, hN⟩ : ∃ N : Nat, n = N := ⟨n.toNat, by omega⟩
    subst hN
    obtain ⟨A, hA⟩ : ∃ A : Nat, src = A := ⟨src.toNat, by omega⟩
    subst hA
    have hNz : zs.length = N := by omega
    have hAN : A < N := by omega
    have hN12 : N ≤ 12 := by omega
    have hea2 : eAll N es := by rw [hNz] at hea; exact hea
    have hoa := oOk_all hO
    obtain ⟨L, hL⟩ : ∃ L, L = vRun m es zs os := ⟨_, rfl⟩
    have hlL : L.length = N := by rw [hL, vRun_length, hNz]
    rw [← hL] at hst hss
    have honz := onOk_of hgv hsr hmk
    obtain ⟨T, hT⟩ : ∃ T, T = vRt m (N : Int) es (A : Int) := ⟨_, rfl⟩
    have heN : eAll (N : Int).toNat es := by simpa using hea2
    have hlT : T.length = N := by rw [hT, vRt_length]; omega
    have hvT : vAll m T := by rw [hT]; exact vRt_all hmk heN _
    have hfT : vRelax m es T = T := by rw [hT]; exact vRt_fix hmk heN (by omega) (by omega)
    have heT : eAll T.length es := by rw [hlT]; exact hea2
    have hfix := fix_of_relax hmk heT hvT hfT
    have hvz := fun s w (h : RowE w s es) => viewOf (N : Int) m (A : Int) es s w h hlE
    rw [show stM (N : Int) es m (A : Int) = m by unfold stM; rw [if_pos honz], show stA (N : Int) es m (A : Int) = (A : Int) by unfold stA; rw [if_pos honz], show voL (N : Int) es m (A : Int) = vRt m (N : Int) es (A : Int) by unfold voL; rw [if_pos honz]; rfl, honz, ← hT] at hvz
    obtain ⟨U, hU⟩ : ∃ U, U = vStart m (N : Int) (A : Int) := ⟨_, rfl⟩
    have hlU : U.length = N := by rw [hU, vStart_length]; omega
    have hvU : vAll m U := by rw [hU]; exact vStart_all hmk
    have heU : eAll U.length es := by rw [hlU]; exact hea2
    have hle9 : ∀ v, v < U.length → mBet m (U.getD v 0) (T.getD v 0) = false := fun v h => by rw [hT]; unfold vRt; rw [← hU]; exact vIter_le hmk hvU heU h _
    obtain ⟨P, hP⟩ : ∃ P, P = vRun m es U os := ⟨_, rfl⟩
    have hlP : P.length = N := by rw [hP, vRun_length, hlU]
    have hb2 : ∀ k : Nat, k < N → bBet m (P.getD k 0) (T.getD k 0) = false := fun k h => bBet_ofN (by rw [hP]; exact vRun_bound hmk hvT hfix os U (by omega) heU hvU hoa hle9 k (by omega))
    have hb1 : ∀ k : Nat, k < N → bBet m (zs.getD k 0) (L.getD k 0) = false := fun k h => bBet_ofN (by rw [hL]; exact (vRun_step hmk os zs hea hva hoa).2 k (by omega))
    have hvx_s3 : vVal (N : Int) es m (A : Int) U = true := vVal_mk hgv hsr hmk (by omega) hvU
    have hbx_s3 : rsB (N : Int) es m (A : Int) U os = true := by unfold rsB; rw [hvx_s3, hO]; rfl
    have hs3 := fun s t u w (h : RowE w s es) (k : Row w t U) (q : Row w u os) => runScheduleU (N : Int) m (A : Int) es U os s t u w h k q hlE (by omega) hlO
    rw [show rsM (N : Int) es m (A : Int) U os = m by unfold rsM; rw [if_pos hbx_s3], show rsA (N : Int) es m (A : Int) U os = (A : Int) by unfold rsA; rw [if_pos hbx_s3], show rsL (N : Int) es m (A : Int) U os = P by unfold rsL; rw [if_pos hbx_s3]; exact hP.symm, hbx_s3] at hs3
    have hsv := fun s w (h : RowE w s es) => startView (N : Int) m (A : Int) es s w h hlE
    rw [show stM (N : Int) es m (A : Int) = m by unfold stM; rw [if_pos honz], show stA (N : Int) es m (A : Int) = (A : Int) by unfold stA; rw [if_pos honz], show stL (N : Int) es m (A : Int) = vStart m (N : Int) (A : Int) by unfold stL; rw [if_pos honz], honz, ← hU] at hsv
    have HST := Lib.hid hst
    have HSS := Lib.hid hss
    have HVO := Lib.hid hvz
    have HSV := Lib.hid hsv
    have HS3 := Lib.hid hs3
    have HLL := Lib.hid hlL
    have HLT := Lib.hid hlT
    have HLU := Lib.hid hlU
    have HLP := Lib.hid hlP
    have HNZ := Lib.hid hNz
    have HB1 := Lib.hid hb1
    have HB2 := Lib.hid hb2
    clear hst hss hvz hsv hs3 hlL hlT hlU hlP hNz hb1 hb2 hV hO hgv hsr hlen hall hva hea hmk hm hea2 hoa hL honz heN hvT hfT heT hfix hvx_s3 hbx_s3 hvU heU hle9 hU hT hP
    obtain ⟨_, _, hva9, hz9⟩ := id V_2.out
    injection hva9 with hv1 hv2 hv3
    subst hv1
    clear hv2 hv3
    rcases hz9 with hz9 | ⟨bv, ov, rfl, hr1, hr2, hr3, hrc⟩
    · have := HNZ.out; omega
    have hcl : ∀ k : Nat, k < N → w2.cell? ⟨bv, ov + k, none⟩ = some (.int .i64 (zs.getD k 0)) := fun k h => (hrc k (by have := HNZ.out; omega)).1
    have HCV := Lib.hid (And.intro hcl (show bv < w2.heap.size by omega))
    clear hcl hrc hr1 hr2 hr3
    go_wp2_with fail
    refine (HST.out _ _ _ _ G_2.out.edges V_2.out.rowI O_2.out.rowI).mono ?_
    rintro e w3 ⟨vx, rfl, howx, hokx, hb3⟩
    have H3 := bel_trans H2 hb3
    have SZ3 := Lib.hid hb3.size
    have qg0_3 := (hb3.cell (p := ⟨w1.heap.size, 0, none⟩) zg_2).trans qg0_2
    have qg1_3 := (hb3.cell (p := ⟨w1.heap.size, 1, none⟩) zg_2).trans qg1_2
    have zg_3 := Nat.lt_of_lt_of_le zg_2 hb3.size
    have qv0_3 := (hb3.cell (p := ⟨w1.heap.size + 1, 0, none⟩) zv_2).trans qv0_2
    have qv1_3 := (hb3.cell (p := ⟨w1.heap.size + 1, 1, none⟩) zv_2).trans qv1_2
    have qv2_3 := (hb3.cell (p := ⟨w1.heap.size + 1, 2, none⟩) zv_2).trans qv2_2
    have zv_3 := Nat.lt_of_lt_of_le zv_2 hb3.size
    have G_3 := Lib.hid (G_2.out.keep hb3)
    have V_3 := Lib.hid (V_2.out.keep hb3)
    have O_3 := Lib.hid (O_2.out.keep hb3)
    obtain ⟨ax, cx, rfl, hz9⟩ := id howx
    clear hz9 hokx
    have X_3 := Lib.hid (show InR true w3 w2.heap.size w3.heap.size _ L.length 1 (cellI L) from howx)
    clear zv_2 qg0_2 qg1_2 qv0_2 qv2_2 O_2 qv1_2 zg_2 G_2 V_2
    clear howx
    go_wp2_with fail
    have hb4 : Below w3.heap.size w3 (w3.alloc (.cells #[.int .i64 m, .int .i64 A, .slice ax L.length cx] 28)) := (Below.refl _ _).alloc (by simp <;> omega) _
    have H4 := bel_trans H3 hb4
    have SZ4 := Lib.hid hb4.size
    have qg0_4 := (hb4.cell (p := ⟨w1.heap.size, 0, none⟩) zg_3).trans qg0_3
    have qg1_4 := (hb4.cell (p := ⟨w1.heap.size, 1, none⟩) zg_3).trans qg1_3
    have zg_4 := Nat.lt_of_lt_of_le zg_3 hb4.size
    have qv0_4 := (hb4.cell (p := ⟨w1.heap.size + 1, 0, none⟩) zv_3).trans qv0_3
    have qv1_4 := (hb4.cell (p := ⟨w1.heap.size + 1, 1, none⟩) zv_3).trans qv1_3
    have qv2_4 := (hb4.cell (p := ⟨w1.heap.size + 1, 2, none⟩) zv_3).trans qv2_3
    have zv_4 := Nat.lt_of_lt_of_le zv_3 hb4.size
    have G_4 := Lib.hid (G_3.out.keep hb4)
    have V_4 := Lib.hid (V_3.out.keep hb4)
    have O_4 := Lib.hid (O_3.out.keep hb4)
    have X_4 := Lib.hid (X_3.out.keep hb4)
    have qx0_4 : (w3.alloc (.cells #[.int .i64 m, .int .i64 A, .slice ax L.length cx] 28)).cell? ⟨w3.heap.size, 0, none⟩ = some (.int .i64 m) := by go_simp
    have qx1_4 : (w3.alloc (.cells #[.int .i64 m, .int .i64 A, .slice ax L.length cx] 28)).cell? ⟨w3.heap.size, 1, none⟩ = some (.int .i64 A) := by go_simp
    have qx2_4 : (w3.alloc (.cells #[.int .i64 m, .int .i64 A, .slice ax L.length cx] 28)).cell? ⟨w3.heap.size, 2, none⟩ = some (.slice ax L.length cx) := by go_simp
    have zx_4 : w3.heap.size < (w3.alloc (.cells #[.int .i64 m, .int .i64 A, .slice ax L.length cx] 28)).heap.size := by simp <;> omega
    generalize (w3.alloc (.cells #[.int .i64 m, .int .i64 A, .slice ax L.length cx] 28)) = w4 at hb4 H4 SZ4 G_4 O_4 V_4 X_4 qg0_4 qg1_4 qv0_4 qv1_4 qv2_4 qx0_4 qx1_4 qx2_4 zg_4 zv_4 zx_4 ⊢
    have ZBx := Lib.hid zx_4
    clear qg0_3 qg1_3 zg_3 qv0_3 qv1_3 qv2_3 zv_3 G_3 V_3 O_3 X_3
    refine (HSS.out _ _ _ _ G_4.out.edges V_4.out.rowI O_4.out.rowI).mono ?_
    rintro e w5 ⟨vy, rfl, howy, hoky, hb5⟩
    have H5 := bel_trans H4 hb5
    have SZ5 := Lib.hid hb5.size
    have qg0_5 := (hb5.cell (p := ⟨w1.heap.size, 0, none⟩) zg_4).trans qg0_4
    have qg1_5 := (hb5.cell (p := ⟨w1.heap.size, 1, none⟩) zg_4).trans qg1_4
    have zg_5 := Nat.lt_of_lt_of_le zg_4 hb5.size
    have qv0_5 := (hb5.cell (p := ⟨w1.heap.size + 1, 0, none⟩) zv_4).trans qv0_4
    have qv1_5 := (hb5.cell (p := ⟨w1.heap.size + 1, 1, none⟩) zv_4).trans qv1_4
    have qv2_5 := (hb5.cell (p := ⟨w1.heap.size + 1, 2, none⟩) zv_4).trans qv2_4
    have zv_5 := Nat.lt_of_lt_of_le zv_4 hb5.size
    have qx0_5 := (hb5.cell (p := ⟨w3.heap.size, 0, none⟩) zx_4).trans qx0_4
    have qx1_5 := (hb5.cell (p := ⟨w3.heap.size, 1, none⟩) zx_4).trans qx1_4
    have qx2_5 := (hb5.cell (p := ⟨w3.heap.size, 2, none⟩) zx_4).trans qx2_4
    have zx_5 := Nat.lt_of_lt_of_le zx_4 hb5.size
    have G_5 := Lib.hid (G_4.out.keep hb5)
    have V_5 := Lib.hid (V_4.out.keep hb5)
    have O_5 := Lib.hid (O_4.out.keep hb5)
    have X_5 := Lib.hid (X_4.out.keep hb5)
    obtain ⟨ay, cy, rfl, hz9⟩ := id howy
    clear hz9 hoky
    have Y_5 := Lib.hid (show InR true w5 w4.heap.size w5.heap.size _ L.length 1 (cellI L) from howy)
    clear qg0_4 qg1_4 zg_4 qv0_4 qv1_4 qv2_4 zv_4 G_4 V_4 O_4 X_4 qx0_4 qx1_4 qx2_4 zx_4
    clear howy
    go_wp2_with fail
    have hb6 : Below w5.heap.size w5 (w5.alloc (.cells #[.int .i64 m, .int .i64 A, .slice ay L.length cy] 28)) := (Below.refl _ _).alloc (by simp <;> omega) _
    have H6 := bel_trans H5 hb6
    have SZ6 := Lib.hid hb6.size
    have qg0_6 := (hb6.cell (p := ⟨w1.heap.size, 0, none⟩) zg_5).trans qg0_5
    have qg1_6 := (hb6.cell (p := ⟨w1.heap.size, 1, none⟩) zg_5).trans qg1_5
    have zg_6 := Nat.lt_of_lt_of_le zg_5 hb6.size
    have qv0_6 := (hb6.cell (p := ⟨w1.heap.size + 1, 0, none⟩) zv_5).trans qv0_5
    have qv1_6 := (hb6.cell (p := ⟨w1.heap.size + 1, 1, none⟩) zv_5).trans qv1_5
    have qv2_6 := (hb6.cell (p := ⟨w1.heap.size + 1, 2, none⟩) zv_5).trans qv2_5
    have zv_6 := Nat.lt_of_lt_of_le zv_5 hb6.size
    have qx0_6 := (hb6.cell (p := ⟨w3.heap.size, 0, none⟩) zx_5).trans qx0_5
    have qx1_6 := (hb6.cell (p := ⟨w3.heap.size, 1, none⟩) zx_5).trans qx1_5
    have qx2_6 := (hb6.cell (p := ⟨w3.heap.size, 2, none⟩) zx_5).trans qx2_5
    have zx_6 := Nat.lt_of_lt_of_le zx_5 hb6.size
    have G_6 := Lib.hid (G_5.out.keep hb6)
    have V_6 := Lib.hid (V_5.out.keep hb6)
    have O_6 := Lib.hid (O_5.out.keep hb6)
    have X_6 := Lib.hid (X_5.out.keep hb6)
    have Y_6 := Lib.hid (Y_5.out.keep hb6)
    have qy0_6 : (w5.alloc (.cells #[.int .i64 m, .int .i64 A, .slice ay L.length cy] 28)).cell? ⟨w5.heap.size, 0, none⟩ = some (.int .i64 m) := by go_simp
    have qy1_6 : (w5.alloc (.cells #[.int .i64 m, .int .i64 A, .slice ay L.length cy] 28)).cell? ⟨w5.heap.size, 1, none⟩ = some (.int .i64 A) := by go_simp
    have qy2_6 : (w5.alloc (.cells #[.int .i64 m, .int .i64 A, .slice ay L.length cy] 28)).cell? ⟨w5.heap.size, 2, none⟩ = some (.slice ay L.length cy) := by go_simp
    have zy_6 : w5.heap.size < (w5.alloc (.cells #[.int .i64 m, .int .i64 A, .slice ay L.length cy] 28)).heap.size := by simp <;> omega
    generalize (w5.alloc (.cells #[.int .i64 m, .int .i64 A, .slice ay L.length cy] 28)) = w6 at hb6 H6 SZ6 G_6 O_6 V_6 X_6 Y_6 qg0_6 qg1_6 qv0_6 qv1_6 qv2_6 qx0_6 qx1_6 qx2_6 qy0_6 qy1_6 qy2_6 zg_6 zv_6 zx_6 zy_6 ⊢
    have ZBy := Lib.hid zy_6
    clear qg0_5 qg1_5 zg_5 qv0_5 qv1_5 qv2_5 zv_5 qx0_5 qx1_5 qx2_5 zx_5 G_5 V_5 O_5 X_5 Y_5
    refine (viewSame m A m A L L _ _ _ X_6.out.rowI Y_6.out.rowI (by have := HLL.out; omega) (by have := HLL.out; omega)).mono ?_
    rintro e w7 ⟨hS, hb7⟩
    have H7 := bel_trans H6 hb7
    have SZ7 := Lib.hid hb7.size
    have qg0_7 := (hb7.cell (p := ⟨w1.heap.size, 0, none⟩) zg_6).trans qg0_6
    have qg1_7 := (hb7.cell (p := ⟨w1.heap.size, 1, none⟩) zg_6).trans qg1_6
    have zg_7 := Nat.lt_of_lt_of_le zg_6 hb7.size
    have qv0_7 := (hb7.cell (p := ⟨w1.heap.size + 1, 0, none⟩) zv_6).trans qv0_6
    have qv1_7 := (hb7.cell (p := ⟨w1.heap.size + 1, 1, none⟩) zv_6).trans qv1_6
    have qv2_7 := (hb7.cell (p := ⟨w1.heap.size + 1, 2, none⟩) zv_6).trans qv2_6
    have zv_7 := Nat.lt_of_lt_of_le zv_6 hb7.size
    have qx0_7 := (hb7.cell (p := ⟨w3.heap.size, 0, none⟩) zx_6).trans qx0_6
    have qx1_7 := (hb7.cell (p := ⟨w3.heap.size, 1, none⟩) zx_6).trans qx1_6
    have qx2_7 := (hb7.cell (p := ⟨w3.heap.size, 2, none⟩) zx_6).trans qx2_6
    have zx_7 := Nat.lt_of_lt_of_le zx_6 hb7.size
    have qy0_7 := (hb7.cell (p := ⟨w5.heap.size, 0, none⟩) zy_6).trans qy0_6
    have qy1_7 := (hb7.cell (p := ⟨w5.heap.size, 1, none⟩) zy_6).trans qy1_6
    have qy2_7 := (hb7.cell (p := ⟨w5.heap.size, 2, none⟩) zy_6).trans qy2_6
    have zy_7 := Nat.lt_of_lt_of_le zy_6 hb7.size
    have G_7 := Lib.hid (G_6.out.keep hb7)
    have V_7 := Lib.hid (V_6.out.keep hb7)
    have O_7 := Lib.hid (O_6.out.keep hb7)
    have X_7 := Lib.hid (X_6.out.keep hb7)
    have Y_7 := Lib.hid (Y_6.out.keep hb7)
    rw [vSame_self] at hS
    subst hS
    clear qg0_6 qg1_6 zg_6 qv0_6 qv1_6 qv2_6 zv_6 qx0_6 qx1_6 qx2_6 zx_6 G_6 V_6 O_6 X_6 Y_6 qy0_6 qy1_6 qy2_6 zy_6
    go_wp2_with fail
    refine (HSV.out _ _ G_7.out.edges).mono ?_
    rintro e w8 ⟨vu, rfl, howu, hoku, hb8⟩
    have H8 := bel_trans H7 hb8
    have SZ8 := Lib.hid hb8.size
    have qg0_8 := (hb8.cell (p := ⟨w1.heap.size, 0, none⟩) zg_7).trans qg0_7
    have qg1_8 := (hb8.cell (p := ⟨w1.heap.size, 1, none⟩) zg_7).trans qg1_7
    have zg_8 := Nat.lt_of_lt_of_le zg_7 hb8.size
    have qv0_8 := (hb8.cell (p := ⟨w1.heap.size + 1, 0, none⟩) zv_7).trans qv0_7
    have qv1_8 := (hb8.cell (p := ⟨w1.heap.size + 1, 1, none⟩) zv_7).trans qv1_7
    have qv2_8 := (hb8.cell (p := ⟨w1.heap.size + 1, 2, none⟩) zv_7).trans qv2_7
    have zv_8 := Nat.lt_of_lt_of_le zv_7 hb8.size
    have qx0_8 := (hb8.cell (p := ⟨w3.heap.size, 0, none⟩) zx_7).trans qx0_7
    have qx1_8 := (hb8.cell (p := ⟨w3.heap.size, 1, none⟩) zx_7).trans qx1_7
    have qx2_8 := (hb8.cell (p := ⟨w3.heap.size, 2, none⟩) zx_7).trans qx2_7
    have zx_8 := Nat.lt_of_lt_of_le zx_7 hb8.size
    have qy0_8 := (hb8.cell (p := ⟨w5.heap.size, 0, none⟩) zy_7).trans qy0_7
    have qy1_8 := (hb8.cell (p := ⟨w5.heap.size, 1, none⟩) zy_7).trans qy1_7
    have qy2_8 := (hb8.cell (p := ⟨w5.heap.size, 2, none⟩) zy_7).trans qy2_7
    have zy_8 := Nat.lt_of_lt_of_le zy_7 hb8.size
    have G_8 := Lib.hid (G_7.out.keep hb8)
    have V_8 := Lib.hid (V_7.out.keep hb8)
    have O_8 := Lib.hid (O_7.out.keep hb8)
    have X_8 := Lib.hid (X_7.out.keep hb8)
    have Y_8 := Lib.hid (Y_7.out.keep hb8)
    obtain ⟨au, cu, rfl, hz9⟩ := id howu
    clear hz9 hoku
    have U_8 := Lib.hid (show InR true w8 w7.heap.size w8.heap.size _ U.length 1 (cellI U) from howu)
    clear qg0_7 qg1_7 zg_7 qv0_7 qv1_7 qv2_7 zv_7 qx0_7 qx1_7 qx2_7 zx_7 qy0_7 qy1_7 qy2_7 zy_7 G_7 V_7 O_7 X_7 Y_7
    clear howu
    go_wp2_with fail
    have hb9 : Below w8.heap.size w8 (w8.alloc (.cells #[.int .i64 m, .int .i64 A, .slice au U.length cu] 28)) := (Below.refl _ _).alloc (by simp <;> omega) _
    have H9 := bel_trans H8 hb9
    have SZ9 := Lib.hid hb9.size
    have qg0_9 := (hb9.cell (p := ⟨w1.heap.size, 0, none⟩) zg_8).trans qg0_8
    have qg1_9 := (hb9.cell (p := ⟨w1.heap.size, 1, none⟩) zg_8).trans qg1_8
    have zg_9 := Nat.lt_of_lt_of_le zg_8 hb9.size
    have qv0_9 := (hb9.cell (p := ⟨w1.heap.size + 1, 0, none⟩) zv_8).trans qv0_8
    have qv1_9 := (hb9.cell (p := ⟨w1.heap.size + 1, 1, none⟩) zv_8).trans qv1_8
    have qv2_9 := (hb9.cell (p := ⟨w1.heap.size + 1, 2, none⟩) zv_8).trans qv2_8
    have zv_9 := Nat.lt_of_lt_of_le zv_8 hb9.size
    have qx0_9 := (hb9.cell (p := ⟨w3.heap.size, 0, none⟩) zx_8).trans qx0_8
    have qx1_9 := (hb9.cell (p := ⟨w3.heap.size, 1, none⟩) zx_8).trans qx1_8
    have qx2_9 := (hb9.cell (p := ⟨w3.heap.size, 2, none⟩) zx_8).trans qx2_8
    have zx_9 := Nat.lt_of_lt_of_le zx_8 hb9.size
    have qy0_9 := (hb9.cell (p := ⟨w5.heap.size, 0, none⟩) zy_8).trans qy0_8
    have qy1_9 := (hb9.cell (p := ⟨w5.heap.size, 1, none⟩) zy_8).trans qy1_8
    have qy2_9 := (hb9.cell (p := ⟨w5.heap.size, 2, none⟩) zy_8).trans qy2_8
    have zy_9 := Nat.lt_of_lt_of_le zy_8 hb9.size
    have G_9 := Lib.hid (G_8.out.keep hb9)
    have V_9 := Lib.hid (V_8.out.keep hb9)
    have O_9 := Lib.hid (O_8.out.keep hb9)
    have X_9 := Lib.hid (X_8.out.keep hb9)
    have Y_9 := Lib.hid (Y_8.out.keep hb9)
    have U_9 := Lib.hid (U_8.out.keep hb9)
    have qu0_9 : (w8.alloc (.cells #[.int .i64 m, .int .i64 A, .slice au U.length cu] 28)).cell? ⟨w8.heap.size, 0, none⟩ = some (.int .i64 m) := by go_simp
    have qu1_9 : (w8.alloc (.cells #[.int .i64 m, .int .i64 A, .slice au U.length cu] 28)).cell? ⟨w8.heap.size, 1, none⟩ = some (.int .i64 A) := by go_simp
    have qu2_9 : (w8.alloc (.cells #[.int .i64 m, .int .i64 A, .slice au U.length cu] 28)).cell? ⟨w8.heap.size, 2, none⟩ = some (.slice au U.length cu) := by go_simp
    have zu_9 : w8.heap.size < (w8.alloc (.cells #[.int .i64 m, .int .i64 A, .slice au U.length cu] 28)).heap.size := by simp <;> omega
    generalize (w8.alloc (.cells #[.int .i64 m, .int .i64 A, .slice au U.length cu] 28)) = w9 at hb9 H9 SZ9 G_9 O_9 U_9 V_9 X_9 Y_9 qg0_9 qg1_9 qu0_9 qu1_9 qu2_9 qv0_9 qv1_9 qv2_9 qx0_9 qx1_9 qx2_9 qy0_9 qy1_9 qy2_9 zg_9 zu_9 zv_9 zx_9 zy_9 ⊢
    have ZBu := Lib.hid zu_9
    clear qg0_8 qg1_8 zg_8 qv0_8 qv1_8 qv2_8 zv_8 qx0_8 qx1_8 qx2_8 zx_8 qy0_8 qy1_8 qy2_8 zy_8 G_8 V_8 O_8 X_8 Y_8 U_8
    refine (HS3.out _ _ _ _ G_9.out.edges U_9.out.rowI O_9.out.rowI).mono ?_
    rintro e w10 ⟨vy2, rfl, howy2, hoky2, hb10⟩
    have H10 := bel_trans H9 hb10
    have SZ10 := Lib.hid hb10.size
    have qg0_10 := (hb10.cell (p := ⟨w1.heap.size, 0, none⟩) zg_9).trans qg0_9
    have qg1_10 := (hb10.cell (p := ⟨w1.heap.size, 1, none⟩) zg_9).trans qg1_9
    have zg_10 := Nat.lt_of_lt_of_le zg_9 hb10.size
    have qv0_10 := (hb10.cell (p := ⟨w1.heap.size + 1, 0, none⟩) zv_9).trans qv0_9
    have qv1_10 := (hb10.cell (p := ⟨w1.heap.size + 1, 1, none⟩) zv_9).trans qv1_9
    have qv2_10 := (hb10.cell (p := ⟨w1.heap.size + 1, 2, none⟩) zv_9).trans qv2_9
    have zv_10 := Nat.lt_of_lt_of_le zv_9 hb10.size
    have qx0_10 := (hb10.cell (p := ⟨w3.heap.size, 0, none⟩) zx_9).trans qx0_9
    have qx1_10 := (hb10.cell (p := ⟨w3.heap.size, 1, none⟩) zx_9).trans qx1_9
    have qx2_10 := (hb10.cell (p := ⟨w3.heap.size, 2, none⟩) zx_9).trans qx2_9
    have zx_10 := Nat.lt_of_lt_of_le zx_9 hb10.size
    have qy0_10 := (hb10.cell (p := ⟨w5.heap.size, 0, none⟩) zy_9).trans qy0_9
    have qy1_10 := (hb10.cell (p := ⟨w5.heap.size, 1, none⟩) zy_9).trans qy1_9
    have qy2_10 := (hb10.cell (p := ⟨w5.heap.size, 2, none⟩) zy_9).trans qy2_9
    have zy_10 := Nat.lt_of_lt_of_le zy_9 hb10.size
    have qu0_10 := (hb10.cell (p := ⟨w8.heap.size, 0, none⟩) zu_9).trans qu0_9
    have qu1_10 := (hb10.cell (p := ⟨w8.heap.size, 1, none⟩) zu_9).trans qu1_9
    have qu2_10 := (hb10.cell (p := ⟨w8.heap.size, 2, none⟩) zu_9).trans qu2_9
    have zu_10 := Nat.lt_of_lt_of_le zu_9 hb10.size
    have G_10 := Lib.hid (G_9.out.keep hb10)
    have V_10 := Lib.hid (V_9.out.keep hb10)
    have O_10 := Lib.hid (O_9.out.keep hb10)
    have X_10 := Lib.hid (X_9.out.keep hb10)
    have Y_10 := Lib.hid (Y_9.out.keep hb10)
    have U_10 := Lib.hid (U_9.out.keep hb10)
    obtain ⟨ay2, cy2, rfl, hz9⟩ := id howy2
    clear hz9 hoky2
    have Y2_10 := Lib.hid (show InR true w10 w9.heap.size w10.heap.size _ P.length 1 (cellI P) from howy2)
    clear qg0_9 qg1_9 zg_9 qv0_9 qv1_9 qv2_9 zv_9 qx0_9 qx1_9 qx2_9 zx_9 qy0_9 qy1_9 qy2_9 zy_9 G_9 V_9 O_9 X_9 Y_9 U_9 qu0_9 qu1_9 qu2_9 zu_9
    clear howy2
    go_wp2_with fail
    have hb11 : Below w10.heap.size w10 (w10.alloc (.cells #[.int .i64 m, .int .i64 A, .slice ay2 P.length cy2] 28)) := (Below.refl _ _).alloc (by simp <;> omega) _
    have H11 := bel_trans H10 hb11
    have SZ11 := Lib.hid hb11.size
    have qg0_11 := (hb11.cell (p := ⟨w1.heap.size, 0, none⟩) zg_10).trans qg0_10
    have qg1_11 := (hb11.cell (p := ⟨w1.heap.size, 1, none⟩) zg_10).trans qg1_10
    have zg_11 := Nat.lt_of_lt_of_le zg_10 hb11.size
    have qv0_11 := (hb11.cell (p := ⟨w1.heap.size + 1, 0, none⟩) zv_10).trans qv0_10
    have qv1_11 := (hb11.cell (p := ⟨w1.heap.size + 1, 1, none⟩) zv_10).trans qv1_10
    have qv2_11 := (hb11.cell (p := ⟨w1.heap.size + 1, 2, none⟩) zv_10).trans qv2_10
    have zv_11 := Nat.lt_of_lt_of_le zv_10 hb11.size
    have qx0_11 := (hb11.cell (p := ⟨w3.heap.size, 0, none⟩) zx_10).trans qx0_10
    have qx1_11 := (hb11.cell (p := ⟨w3.heap.size, 1, none⟩) zx_10).trans qx1_10
    have qx2_11 := (hb11.cell (p := ⟨w3.heap.size, 2, none⟩) zx_10).trans qx2_10
    have zx_11 := Nat.lt_of_lt_of_le zx_10 hb11.size
    have qy0_11 := (hb11.cell (p := ⟨w5.heap.size, 0, none⟩) zy_10).trans qy0_10
    have qy1_11 := (hb11.cell (p := ⟨w5.heap.size, 1, none⟩) zy_10).trans qy1_10
    have qy2_11 := (hb11.cell (p := ⟨w5.heap.size, 2, none⟩) zy_10).trans qy2_10
    have zy_11 := Nat.lt_of_lt_of_le zy_10 hb11.size
    have qu0_11 := (hb11.cell (p := ⟨w8.heap.size, 0, none⟩) zu_10).trans qu0_10
    have qu1_11 := (hb11.cell (p := ⟨w8.heap.size, 1, none⟩) zu_10).trans qu1_10
    have qu2_11 := (hb11.cell (p := ⟨w8.heap.size, 2, none⟩) zu_10).trans qu2_10
    have zu_11 := Nat.lt_of_lt_of_le zu_10 hb11.size
    have G_11 := Lib.hid (G_10.out.keep hb11)
    have V_11 := Lib.hid (V_10.out.keep hb11)
    have O_11 := Lib.hid (O_10.out.keep hb11)
    have X_11 := Lib.hid (X_10.out.keep hb11)
    have Y_11 := Lib.hid (Y_10.out.keep hb11)
    have U_11 := Lib.hid (U_10.out.keep hb11)
    have Y2_11 := Lib.hid (Y2_10.out.keep hb11)
    have qy20_11 : (w10.alloc (.cells #[.int .i64 m, .int .i64 A, .slice ay2 P.length cy2] 28)).cell? ⟨w10.heap.size, 0, none⟩ = some (.int .i64 m) := by go_simp
    have qy21_11 : (w10.alloc (.cells #[.int .i64 m, .int .i64 A, .slice ay2 P.length cy2] 28)).cell? ⟨w10.heap.size, 1, none⟩ = some (.int .i64 A) := by go_simp
    have qy22_11 : (w10.alloc (.cells #[.int .i64 m, .int .i64 A, .slice ay2 P.length cy2] 28)).cell? ⟨w10.heap.size, 2, none⟩ = some (.slice ay2 P.length cy2) := by go_simp
    have zy2_11 : w10.heap.size < (w10.alloc (.cells #[.int .i64 m, .int .i64 A, .slice ay2 P.length cy2] 28)).heap.size := by simp <;> omega
    generalize (w10.alloc (.cells #[.int .i64 m, .int .i64 A, .slice ay2 P.length cy2] 28)) = w11 at hb11 H11 SZ11 G_11 O_11 U_11 V_11 X_11 Y2_11 Y_11 qg0_11 qg1_11 qu0_11 qu1_11 qu2_11 qv0_11 qv1_11 qv2_11 qx0_11 qx1_11 qx2_11 qy0_11 qy1_11 qy20_11 qy21_11 qy22_11 qy2_11 zg_11 zu_11 zv_11 zx_11 zy2_11 zy_11 ⊢
    have ZBy2 := Lib.hid zy2_11
    clear qg0_10 qg1_10 zg_10 qv0_10 qv1_10 qv2_10 zv_10 qx0_10 qx1_10 qx2_10 zx_10 qy0_10 qy1_10 qy2_10 zy_10 qu0_10 qu1_10 qu2_10 zu_10 G_10 V_10 O_10 X_10 Y_10 U_10 Y2_10
    refine (HVO.out _ _ G_11.out.edges).mono ?_
    rintro e w12 ⟨vr, rfl, howr, hokr, hb12⟩
    have H12 := bel_trans H11 hb12
    have SZ12 := Lib.hid hb12.size
    have qg0_12 := (hb12.cell (p := ⟨w1.heap.size, 0, none⟩) zg_11).trans qg0_11
    have qg1_12 := (hb12.cell (p := ⟨w1.heap.size, 1, none⟩) zg_11).trans qg1_11
    have zg_12 := Nat.lt_of_lt_of_le zg_11 hb12.size
    have qv0_12 := (hb12.cell (p := ⟨w1.heap.size + 1, 0, none⟩) zv_11).trans qv0_11
    have qv1_12 := (hb12.cell (p := ⟨w1.heap.size + 1, 1, none⟩) zv_11).trans qv1_11
    have qv2_12 := (hb12.cell (p := ⟨w1.heap.size + 1, 2, none⟩) zv_11).trans qv2_11
    have zv_12 := Nat.lt_of_lt_of_le zv_11 hb12.size
    have qx0_12 := (hb12.cell (p := ⟨w3.heap.size, 0, none⟩) zx_11).trans qx0_11
    have qx1_12 := (hb12.cell (p := ⟨w3.heap.size, 1, none⟩) zx_11).trans qx1_11
    have qx2_12 := (hb12.cell (p := ⟨w3.heap.size, 2, none⟩) zx_11).trans qx2_11
    have zx_12 := Nat.lt_of_lt_of_le zx_11 hb12.size
    have qy0_12 := (hb12.cell (p := ⟨w5.heap.size, 0, none⟩) zy_11).trans qy0_11
    have qy1_12 := (hb12.cell (p := ⟨w5.heap.size, 1, none⟩) zy_11).trans qy1_11
    have qy2_12 := (hb12.cell (p := ⟨w5.heap.size, 2, none⟩) zy_11).trans qy2_11
    have zy_12 := Nat.lt_of_lt_of_le zy_11 hb12.size
    have qu0_12 := (hb12.cell (p := ⟨w8.heap.size, 0, none⟩) zu_11).trans qu0_11
    have qu1_12 := (hb12.cell (p := ⟨w8.heap.size, 1, none⟩) zu_11).trans qu1_11
    have qu2_12 := (hb12.cell (p := ⟨w8.heap.size, 2, none⟩) zu_11).trans qu2_11
    have zu_12 := Nat.lt_of_lt_of_le zu_11 hb12.size
    have qy20_12 := (hb12.cell (p := ⟨w10.heap.size, 0, none⟩) zy2_11).trans qy20_11
    have qy21_12 := (hb12.cell (p := ⟨w10.heap.size, 1, none⟩) zy2_11).trans qy21_11
    have qy22_12 := (hb12.cell (p := ⟨w10.heap.size, 2, none⟩) zy2_11).trans qy22_11
    have zy2_12 := Nat.lt_of_lt_of_le zy2_11 hb12.size
    have G_12 := Lib.hid (G_11.out.keep hb12)
    have V_12 := Lib.hid (V_11.out.keep hb12)
    have O_12 := Lib.hid (O_11.out.keep hb12)
    have X_12 := Lib.hid (X_11.out.keep hb12)
    have Y_12 := Lib.hid (Y_11.out.keep hb12)
    have U_12 := Lib.hid (U_11.out.keep hb12)
    have Y2_12 := Lib.hid (Y2_11.out.keep hb12)
    obtain ⟨ar, cr, rfl, hz9⟩ := id howr
    clear hz9 hokr
    have R_12 := Lib.hid (show InR true w12 w11.heap.size w12.heap.size _ T.length 1 (cellI T) from howr)
    clear qg0_11 qg1_11 zg_11 qv0_11 qv1_11 qv2_11 zv_11 qx0_11 qx1_11 qx2_11 zx_11 qy0_11 qy1_11 qy2_11 zy_11 qu0_11 qu1_11 qu2_11 zu_11 G_11 V_11 O_11 X_11 Y_11 U_11 Y2_11 qy20_11 qy21_11 qy22_11 zy2_11
    clear howr
    go_wp2_with fail
    have hb13 : Below w12.heap.size w12 (w12.alloc (.cells #[.int .i64 m, .int .i64 A, .slice ar T.length cr] 28)) := (Below.refl _ _).alloc (by simp <;> omega) _
    have H13 := bel_trans H12 hb13
    have SZ13 := Lib.hid hb13.size
    have qg0_13 := (hb13.cell (p := ⟨w1.heap.size, 0, none⟩) zg_12).trans qg0_12
    have qg1_13 := (hb13.cell (p := ⟨w1.heap.size, 1, none⟩) zg_12).trans qg1_12
    have zg_13 := Nat.lt_of_lt_of_le zg_12 hb13.size
    have qv0_13 := (hb13.cell (p := ⟨w1.heap.size + 1, 0, none⟩) zv_12).trans qv0_12
    have qv1_13 := (hb13.cell (p := ⟨w1.heap.size + 1, 1, none⟩) zv_12).trans qv1_12
    have qv2_13 := (hb13.cell (p := ⟨w1.heap.size + 1, 2, none⟩) zv_12).trans qv2_12
    have zv_13 := Nat.lt_of_lt_of_le zv_12 hb13.size
    have qx0_13 := (hb13.cell (p := ⟨w3.heap.size, 0, none⟩) zx_12).trans qx0_12
    have qx1_13 := (hb13.cell (p := ⟨w3.heap.size, 1, none⟩) zx_12).trans qx1_12
    have qx2_13 := (hb13.cell (p := ⟨w3.heap.size, 2, none⟩) zx_12).trans qx2_12
    have zx_13 := Nat.lt_of_lt_of_le zx_12 hb13.size
    have qy0_13 := (hb13.cell (p := ⟨w5.heap.size, 0, none⟩) zy_12).trans qy0_12
    have qy1_13 := (hb13.cell (p := ⟨w5.heap.size, 1, none⟩) zy_12).trans qy1_12
    have qy2_13 := (hb13.cell (p := ⟨w5.heap.size, 2, none⟩) zy_12).trans qy2_12
    have zy_13 := Nat.lt_of_lt_of_le zy_12 hb13.size
    have qu0_13 := (hb13.cell (p := ⟨w8.heap.size, 0, none⟩) zu_12).trans qu0_12
    have qu1_13 := (hb13.cell (p := ⟨w8.heap.size, 1, none⟩) zu_12).trans qu1_12
    have qu2_13 := (hb13.cell (p := ⟨w8.heap.size, 2, none⟩) zu_12).trans qu2_12
    have zu_13 := Nat.lt_of_lt_of_le zu_12 hb13.size
    have qy20_13 := (hb13.cell (p := ⟨w10.heap.size, 0, none⟩) zy2_12).trans qy20_12
    have qy21_13 := (hb13.cell (p := ⟨w10.heap.size, 1, none⟩) zy2_12).trans qy21_12
    have qy22_13 := (hb13.cell (p := ⟨w10.heap.size, 2, none⟩) zy2_12).trans qy22_12
    have zy2_13 := Nat.lt_of_lt_of_le zy2_12 hb13.size
    have G_13 := Lib.hid (G_12.out.keep hb13)
    have V_13 := Lib.hid (V_12.out.keep hb13)
    have O_13 := Lib.hid (O_12.out.keep hb13)
    have X_13 := Lib.hid (X_12.out.keep hb13)
    have Y_13 := Lib.hid (Y_12.out.keep hb13)
    have U_13 := Lib.hid (U_12.out.keep hb13)
    have Y2_13 := Lib.hid (Y2_12.out.keep hb13)
    have R_13 := Lib.hid (R_12.out.keep hb13)
    have qr0_13 : (w12.alloc (.cells #[.int .i64 m, .int .i64 A, .slice ar T.length cr] 28)).cell? ⟨w12.heap.size, 0, none⟩ = some (.int .i64 m) := by go_simp
    have qr1_13 : (w12.alloc (.cells #[.int .i64 m, .int .i64 A, .slice ar T.length cr] 28)).cell? ⟨w12.heap.size, 1, none⟩ = some (.int .i64 A) := by go_simp
    have qr2_13 : (w12.alloc (.cells #[.int .i64 m, .int .i64 A, .slice ar T.length cr] 28)).cell? ⟨w12.heap.size, 2, none⟩ = some (.slice ar T.length cr) := by go_simp
    have zr_13 : w12.heap.size < (w12.alloc (.cells #[.int .i64 m, .int .i64 A, .slice ar T.length cr] 28)).heap.size := by simp <;> omega
    generalize (w12.alloc (.cells #[.int .i64 m, .int .i64 A, .slice ar T.length cr] 28)) = w13 at hb13 H13 SZ13 G_13 O_13 R_13 U_13 V_13 X_13 Y2_13 Y_13 qg0_13 qg1_13 qr0_13 qr1_13 qr2_13 qu0_13 qu1_13 qu2_13 qv0_13 qv1_13 qv2_13 qx0_13 qx1_13 qx2_13 qy0_13 qy1_13 qy20_13 qy21_13 qy22_13 qy2_13 zg_13 zr_13 zu_13 zv_13 zx_13 zy2_13 zy_13 ⊢
    have ZBr := Lib.hid zr_13
    clear qg0_12 qg1_12 zg_12 qv0_12 qv1_12 qv2_12 zv_12 qx0_12 qx1_12 qx2_12 zx_12 qy0_12 qy1_12 qy2_12 zy_12 qu0_12 qu1_12 qu2_12 zu_12 qy20_12 qy21_12 qy22_12 zy2_12 G_12 V_12 O_12 X_12 Y_12 U_12 Y2_12 R_12
    obtain ⟨_, _, hva9, hz9⟩ := id X_13.out
    injection hva9 with hv1 hv2 hv3
    subst hv1
    clear hv2 hv3
    rcases hz9 with hz9 | ⟨bx, ox, rfl, hr1, hr2, hr3, hrc⟩
    · have := HLL.out; omega
    have hcl : ∀ k : Nat, k < N → w13.cell? ⟨bx, ox + k, none⟩ = some (.int .i64 (L.getD k 0)) := fun k h => (hrc k (by have := HLL.out; omega)).1
    have HCX := Lib.hid (And.intro hcl (show bx < w13.heap.size by omega))
    clear hcl hrc hr1 hr2 hr3
    obtain ⟨_, _, hva9, hz9⟩ := id Y2_13.out
    injection hva9 with hv1 hv2 hv3
    subst hv1
    clear hv2 hv3
    rcases hz9 with hz9 | ⟨by2, oy2, rfl, hr1, hr2, hr3, hrc⟩
    · have := HLP.out; omega
    have hcl : ∀ k : Nat, k < N → w13.cell? ⟨by2, oy2 + k, none⟩ = some (.int .i64 (P.getD k 0)) := fun k h => (hrc k (by have := HLP.out; omega)).1
    have HCY2 := Lib.hid (And.intro hcl (show by2 < w13.heap.size by omega))
    clear hcl hrc hr1 hr2 hr3
    obtain ⟨_, _, hva9, hz9⟩ := id R_13.out
    injection hva9 with hv1 hv2 hv3
    subst hv1
    clear hv2 hv3
    rcases hz9 with hz9 | ⟨br, or, rfl, hr1, hr2, hr3, hrc⟩
    · have := HLT.out; omega
    have hcl : ∀ k : Nat, k < N → w13.cell? ⟨br, or + k, none⟩ = some (.int .i64 (T.getD k 0)) := fun k h => (hrc k (by have := HLT.out; omega)).1
    have HCR := Lib.hid (And.intro hcl (show br < w13.heap.size by omega))
    clear hcl hrc hr1 hr2 hr3
    have HBV := Lib.hid (show Below w2.heap.size w2 w13 from (bel_trans (bel_trans (bel_trans (bel_trans (bel_trans (bel_trans (bel_trans (bel_trans (bel_trans (bel_trans hb3 hb4) hb5) hb6) hb7) hb8) hb9) hb10) hb11) hb12) hb13))
    go_wp2_with fail
    go_loopw [16] (fun c wr => ∃ k : Nat, k ≤ N ∧ c = .int .i64 k ∧ Hid (Below w13.heap.size w13 wr)) (fun c _ => N - (intOf c).toNat)
    case atStart => exact ⟨0, Nat.zero_le _, rfl, Lib.hid (Below.refl _ _)⟩
    case round =>
      obtain ⟨k, hk, rfl, HBW⟩ := hrel
      have sW := HBW.out.size
      have qg0_r := (HBW.out.cell (p := ⟨w1.heap.size, 0, none⟩) zg_13).trans qg0_13
      have qg1_r := (HBW.out.cell (p := ⟨w1.heap.size, 1, none⟩) zg_13).trans qg1_13
      have zg_r := Nat.lt_of_lt_of_le zg_13 HBW.out.size
      have qv0_r := (HBW.out.cell (p := ⟨w1.heap.size + 1, 0, none⟩) zv_13).trans qv0_13
      have qv1_r := (HBW.out.cell (p := ⟨w1.heap.size + 1, 1, none⟩) zv_13).trans qv1_13
      have qv2_r := (HBW.out.cell (p := ⟨w1.heap.size + 1, 2, none⟩) zv_13).trans qv2_13
      have zv_r := Nat.lt_of_lt_of_le zv_13 HBW.out.size
      have qx0_r := (HBW.out.cell (p := ⟨w3.heap.size, 0, none⟩) zx_13).trans qx0_13
      have qx1_r := (HBW.out.cell (p := ⟨w3.heap.size, 1, none⟩) zx_13).trans qx1_13
      have qx2_r := (HBW.out.cell (p := ⟨w3.heap.size, 2, none⟩) zx_13).trans qx2_13
      have zx_r := Nat.lt_of_lt_of_le zx_13 HBW.out.size
      have qy20_r := (HBW.out.cell (p := ⟨w10.heap.size, 0, none⟩) zy2_13).trans qy20_13
      have qy21_r := (HBW.out.cell (p := ⟨w10.heap.size, 1, none⟩) zy2_13).trans qy21_13
      have qy22_r := (HBW.out.cell (p := ⟨w10.heap.size, 2, none⟩) zy2_13).trans qy22_13
      have zy2_r := Nat.lt_of_lt_of_le zy2_13 HBW.out.size
      have qr0_r := (HBW.out.cell (p := ⟨w12.heap.size, 0, none⟩) zr_13).trans qr0_13
      have qr1_r := (HBW.out.cell (p := ⟨w12.heap.size, 1, none⟩) zr_13).trans qr1_13
      have qr2_r := (HBW.out.cell (p := ⟨w12.heap.size, 2, none⟩) zr_13).trans qr2_13
      have zr_r := Nat.lt_of_lt_of_le zr_13 HBW.out.size
      by_cases hlt : k < N
      · have hlt' : (k : Int) < N := by omega
        have hkz : k < zs.length := by have := HNZ.out; omega
        have hkz' : (k : Int) < zs.length := by omega
        have hkl : k < L.length := by have := HLL.out; omega
        have hkl' : (k : Int) < L.length := by omega
        have hkp : k < P.length := by have := HLP.out; omega
        have hkp' : (k : Int) < P.length := by omega
        have hkt : k < T.length := by have := HLT.out; omega
        have hkt' : (k : Int) < T.length := by omega
        have cvk := ((bel_trans HBV.out HBW.out).cell (p := ⟨bv, ov + k, none⟩) HCV.out.2).trans (HCV.out.1 k hlt)
        have hlv := Nat.lt_of_lt_of_le HCV.out.2 (bel_trans HBV.out HBW.out).size
        have cxk := (HBW.out.cell (p := ⟨bx, ox + k, none⟩) HCX.out.2).trans (HCX.out.1 k hlt)
        have hlx := Nat.lt_of_lt_of_le HCX.out.2 sW
        have cy2k := (HBW.out.cell (p := ⟨by2, oy2 + k, none⟩) HCY2.out.2).trans (HCY2.out.1 k hlt)
        have hly2 := Nat.lt_of_lt_of_le HCY2.out.2 sW
        have crk := (HBW.out.cell (p := ⟨br, or + k, none⟩) HCR.out.2).trans (HCR.out.1 k hlt)
        have hlr := Nat.lt_of_lt_of_le HCR.out.2 sW
        have hib := fun w => iIsBetter m (zs.getD k 0) (L.getD k 0) w
        rw [HB1.out k hlt] at hib
        have hic := fun w => iIsBetter m (P.getD k 0) (T.getD k 0) w
        rw [HB2.out k hlt] at hic
        obtain ⟨y1, hy1⟩ : ∃ y, y = L.getD k 0 := ⟨_, rfl⟩
        rw [← hy1] at cxk hib
        obtain ⟨y2, hy2⟩ : ∃ y, y = zs.getD k 0 := ⟨_, rfl⟩
        rw [← hy2] at cvk hib
        obtain ⟨y3, hy3⟩ : ∃ y, y = P.getD k 0 := ⟨_, rfl⟩
        rw [← hy3] at cy2k hic
        obtain ⟨y4, hy4⟩ : ∃ y, y = T.getD k 0 := ⟨_, rfl⟩
        rw [← hy4] at crk hic
        have hix : ∀ (x y : Int) (w : World), ((x = y2 ∧ y = y1) ∨ (x = y3 ∧ y = y4)) → Calls Try.prog 28 #[.int .i64 m, .int .i64 x, .int .i64 y] w fun e w' => e = .returned (.bool false) ∧ Below w.heap.size w w' := fun x y w h => by rcases h with ⟨rfl, rfl⟩ | ⟨rfl, rfl⟩; exact hib w; exact hic w
        have HIX := Lib.hid hix
        clear hix hib hic hy1 hy2 hy3 hy4
        have hff : ∀ w' : World, Below wr.heap.size wr w' → (w'.cell? ⟨w1.heap.size + 1, 0, none⟩ = some (.int .i64 m) ∧ w'.cell? ⟨w1.heap.size + 1, 2, none⟩ = some (.slice (some ⟨bv, ov, none⟩) zs.length vd) ∧ w'.cell? ⟨w3.heap.size, 2, none⟩ = some (.slice (some ⟨bx, ox, none⟩) L.length cx) ∧ w'.cell? ⟨w10.heap.size, 2, none⟩ = some (.slice (some ⟨by2, oy2, none⟩) P.length cy2) ∧ w'.cell? ⟨w12.heap.size, 2, none⟩ = some (.slice (some ⟨br, or, none⟩) T.length cr) ∧ w'.cell? ⟨bv, ov + k, none⟩ = some (.int .i64 y2) ∧ w'.cell? ⟨bx, ox + k, none⟩ = some (.int .i64 y1) ∧ w'.cell? ⟨by2, oy2 + k, none⟩ = some (.int .i64 y3) ∧ w'.cell? ⟨br, or + k, none⟩ = some (.int .i64 y4)) := fun w' h => ⟨(h.cell (p := ⟨w1.heap.size + 1, 0, none⟩) zv_r).trans qv0_r, (h.cell (p := ⟨w1.heap.size + 1, 2, none⟩) zv_r).trans qv2_r, (h.cell (p := ⟨w3.heap.size, 2, none⟩) zx_r).trans qx2_r, (h.cell (p := ⟨w10.heap.size, 2, none⟩) zy2_r).trans qy22_r, (h.cell (p := ⟨w12.heap.size, 2, none⟩) zr_r).trans qr2_r, (h.cell (p := ⟨bv, ov + k, none⟩) hlv).trans cvk, (h.cell (p := ⟨bx, ox + k, none⟩) hlx).trans cxk, (h.cell (p := ⟨by2, oy2 + k, none⟩) hly2).trans cy2k, (h.cell (p := ⟨br, or + k, none⟩) hlr).trans crk⟩
        have FF := Lib.hid hff
        clear hff
        go_wp2_with fail
        refine wp_region_below (by kernel_rfl) (by kernel_rfl) ?_
        repeat (go_big_quiet_step ((intro hw; first | with_reducible rfl | (obtain ⟨f0, f1, f2, f3, f4, f5, f6, f7, f8⟩ := FF.out _ hw; simp only [f0, f1, f2, f3, f4, f5, f6, f7, f8, Result.andThen]; first | exact ⟨trivial, rfl⟩ | exact ⟨rfl, rfl⟩) | (go_at_call 28; exact quietB (HIX.out _ _ _ (by first | exact .inl ⟨rfl, rfl⟩ | exact .inr ⟨rfl, rfl⟩)) hw))))
        refine wpQuiet_nil ?_
        intro w9 hbw9
        go_wp2
        go_roundw
        case rel => first | exact ⟨k + 1, by omega, by go_num, Lib.hid (bel_trans HBW.out hbw9)⟩ | exact ⟨_, ⟨k + 1, by omega, by go_num, Lib.hid (bel_trans HBW.out hbw9)⟩, rfl⟩
        case measure => simp [intOf]; omega
      · have hke : k = N := by omega
        have hkk : ¬ ((k : Int) < N) := by omega
        clear hlt hke
        go_wp2
        go_ret
        exact ⟨rfl, bel_trans H13 HBW.out⟩

set_option maxRecDepth 100000 in
theorem lifted (os : Os) (started : os.Started) (H : Type) (enc : TypeId × Value → H) :
    ReturnsInHanded {} Try.checked os 9 .any (Rows.fnRunScheduleSpec.pre6 enc Try.prog Try.f9 Rows.fnRunScheduleRow.domain false) (Rows.fnRunScheduleSpec.post enc Try.prog Try.f9 false true false false) := by
  refine returnsInHanded_of_change (C := Try.checked) own started (by kernel_rfl) Try.func9
    (ChangeSpec.witness6 (enc := enc) (C := Try.checked) false ⟨#[], #[.slice none 0 0], []⟩ 8 (by kernel_rfl) (by kernel_rfl) (by kernel_rfl) (by kernel_rfl)) ?_
  intro W base args ds gs before hval0 hW hcnd _
  have hval : ∀ (j : Nat) t v, Try.f9.params[j]? = some t → args[j]? = some v → Value.okWide Try.prog W .any base t v := hval0
  have hW' := hW
  obtain ⟨p, q, hA0, hV, rfl, hfz, hnd⟩ := hW
  have hA : DataW.TrodAll enc Try.prog W 0 (fun _ => true) true Try.f9.params.toList args.toList ds p := hA0
  rw [Try.params9] at hA hval
  obtain ⟨v0, vs0, d0, ds0, p0, q0, hargs, rfl, rfl, h0, r0⟩ := trodAll_cons hA
  obtain ⟨rfl, rfl, rfl⟩ := trodAll_nil r0
  obtain rfl : args = #[v0] := by cases args; simp_all
  obtain ⟨rfl, rfl⟩ := trodVars_none hV
  obtain ⟨a0, len0, cap0, rfl⟩ := okWide_slice Try.underlying22 (hval 0 22 v0 rfl rfl)
  have k0 := h0
  have lt0 : ∀ x ∈ p0, x.block < W.heap.size := by obtain ⟨m, hm⟩ := k0; exact DataW.trod_lt m _ _ _ hm
  obtain ⟨z0, w0⟩ : ∃ zs, IsRow .u8 W a0 len0 cap0 zs := by
    obtain ⟨fuel, hf⟩ := h0
    rcases open_ints Try.underlying22 Try.underlying5 (by kernel_rfl) hf with ⟨hcs, _⟩ | ⟨x, l, c, zs, hcs, _, hl, hm, hz, _, hcell, hwz⟩
    · simp [Value.cells] at hcs
      obtain ⟨rfl, rfl, rfl⟩ := hcs
      exact ⟨[], .inl ⟨rfl, rfl, rfl, rfl⟩⟩
    · simp [Value.cells] at hcs
      obtain ⟨rfl, rfl, rfl⟩ := hcs
      exact ⟨zs, .inr ⟨_, rfl, hl, hm, by simpa using hz, hcell, hwz⟩⟩
  clear hA0 hval0
  refine (walk a0 len0 cap0 z0 W w0).mono fun e W' ⟨he, bel⟩ => ?_
  subst he
  exact ⟨_, rfl, _, _, _, [], _, [], hW', trodAll_mk1 (shut_bool Try.underlying4 _), (trodAll_cons_mk (Below.trod laidOut (by kernel_rfl) (of_decide_eq_true (by kernel_rfl)) k0 bel lt0) trodAll_mk0), rfl, bel.frame _, fun h => by cases h⟩

theorem over : Rows.fnRunScheduleRow.holds Try.pinned (OpenSpec.ofChange Rows.fnRunScheduleSpec) :=
  OpenClaim.holds_of_wide 9 Try.f9 rfl rfl rfl rfl rfl rfl rfl ⟨rfl, rfl, rfl, rfl, rfl⟩ rfl rfl rfl rfl rfl (by kernel_rfl) Try.func9 (by kernel_rfl)
    (of_decide_eq_true (by kernel_rfl)) (by unfold Func.isWrapper; first | (rw [if_pos (by decide +kernel)]; kernel_rfl) | (rw [if_neg (by decide +kernel)]; exact ⟨rfl, rfl⟩))
    (fun os started H enc _ => lifted os started H enc)

theorem proved : Rows.FnRunScheduleSaid := over
end Go.Proofs.Ytbcbknebjbelmaa.fnRunSchedule
