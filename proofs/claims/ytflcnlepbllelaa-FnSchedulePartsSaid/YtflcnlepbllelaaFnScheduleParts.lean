/-
  Proved: an order is made of its parts (the law FnScheduleParts returns true for every input and leaves it as it was), with no further condition.
-/
import Derived.Test.YtflcnlepbllelaaRows
import Derived.Test.YtflcnlepbllelaaDrawsP
import Derived.Test.YtflcnlepbllelaaRunU
import Derived.Test.YtflcnlepbllelaaOneM
import Derived.Test.YtflcnlepbllelaaRight
import Derived.Test.YtflcnlepbllelaaViewT
import Derived.Test.YtflcnlepbllelaaImpl2
import Derived.Test.YtflcnlepbllelaaStartL
import Derived.Test.YtflcnlepbllelaaBestB
import Derived.Test.YtflcnlepbllelaaParts
import Derived.WalkKit
import Derived.ProofKit
import Derived.OpenShut
import Derived.ShutString
import Derived.ChangeOld
import Derived.Below
namespace Go.Proofs.Ytflcnlepbllelaa.fnScheduleParts
open Go.Proofs.Ytflcnlepbllelaa Go.BigFrame
open Go.ChangeShapes Go.WideShapes Go.ChangeAt Go.RowKit
open Go.ChangeMaps (open_string shut_string)
set_option linter.unusedVariables false

theorem own : ownKnob Try.prog.godebug = none := by kernel_rfl
theorem laidOut : laidOutB Try.prog = true := by kernel_rfl

def IsRow (k : IntKind) (w : World) (a : Option Addr) (len cap : Nat) (zs : List Int) : Prop :=
  (a = none ∧ len = 0 ∧ cap = 0 ∧ zs = []) ∨
  ∃ x, a = some x ∧ len ≤ cap ∧ cap ≤ maxLen ∧ zs.length = cap ∧ (∀ i, i < zs.length → w.cell? (x.add i) = some (.int k (zs.getD i 0))) ∧ ∀ n ∈ zs, (Lit.int k n).wf = true

theorem bytes_of {w : World} {a : Option Addr} {len cap : Nat} {zs : List Int} (h : IsRow .u8 w a len cap zs) : Bytes w a len ∧ len ≤ cap ∧ len ≤ 9223372036854775807 := by
  rcases h with ⟨rfl, rfl, rfl, rfl⟩ | ⟨x, rfl, hl, hm, hz, hc, hw⟩
  · exact ⟨.inl rfl, Nat.le_refl _, by omega⟩
  · unfold maxLen at hm
    refine ⟨?_, hl, by omega⟩
    by_cases h0 : len = 0
    · exact .inl h0
    · obtain ⟨b, off, rfl, hc'⟩ := ints_at hc (by omega)
      exact .inr ⟨b, off, rfl, World.block_lt_of_cell? _ _ (hc' 0 (by omega)), fun i hi => ⟨zs[i]?.getD 0, (range_u8 hw i).1, (range_u8 hw i).2, hc' i (by omega)⟩⟩

set_option maxRecDepth 100000 in
set_option maxHeartbeats 4000000 in
theorem walk (a0 : Option Addr) (len0 cap0 : Nat) (z0 : List Int) (w : World) (w0 : IsRow .u8 w a0 len0 cap0 z0) :
    Calls Try.prog 3 #[.slice a0 len0 cap0] w fun e w' => e = .returned (.bool true) ∧ Below w.heap.size w w' := by
  obtain ⟨hby, hcp, hn⟩ := bytes_of w0
  have HB0 := Lib.hid hby
  clear hby w0
  by_cases h0 : 1048576 < len0
  · go_enter Try.func3, Try.ntmps3
    go_wp2
    go_ret
    exact ⟨rfl, Below.refl _ _⟩
  have h0' : len0 ≤ 1048576 := by omega
  clear h0
  obtain ⟨w0, hw0⟩ : ∃ w0, w0 = w := ⟨_, rfl⟩
  subst hw0
  have H0 := Below.refl w0.heap.size w0
  go_enter Try.func3, Try.ntmps3
  go_wp2_with fail
  refine (dDrawRunSchedule a0 len0 cap0 _ HB0.out hcp (by omega)).mono ?_
  rintro e w1 ⟨n, es, gs, m, src, zs, vs, os, us, rfl, hle, hrG, hrV, hrO, hb1⟩
  have H1 := bel_trans H0 hb1
  have SZ1 := Lib.hid hb1.size
  obtain ⟨va, vc, rfl, hz9⟩ := id hrG.1
  obtain ⟨vb, vd, rfl, hz8⟩ := id hrV.1
  obtain ⟨oa, oc, rfl, hz7⟩ := id hrO.1
  clear hz9 hz8 hz7
  have G_1 := Lib.hid (hrG.1)
  have V_1 := Lib.hid hrV.1
  have O_1 := Lib.hid hrO.1
  have hle1 := hle.1
  have hle2 := hle.2.1
  have hle3 := hle.2.2
  have hoc := (hrO.2 _ _ _ rfl).1
  clear hrG hrV hrO hle
  go_wp2_with fail
  have hb2 : Below w1.heap.size w1 ((w1.alloc (.cells #[.int .i64 n, .slice va es.length vc] 25)).alloc (.cells #[.int .i64 m, .int .i64 src, .slice vb zs.length vd] 28)) := ((Below.refl _ _).alloc (by simp <;> omega) _).alloc (by simp <;> omega) _
  have H2 := bel_trans H1 hb2
  have SZ2 := Lib.hid hb2.size
  have G_2 := Lib.hid (G_1.out.keep hb2)
  have V_2 := Lib.hid (V_1.out.keep hb2)
  have O_2 := Lib.hid (O_1.out.keep hb2)
  have qg0_2 : ((w1.alloc (.cells #[.int .i64 n, .slice va es.length vc] 25)).alloc (.cells #[.int .i64 m, .int .i64 src, .slice vb zs.length vd] 28)).cell? ⟨w1.heap.size, 0, none⟩ = some (.int .i64 n) := by go_simp
  have qg1_2 : ((w1.alloc (.cells #[.int .i64 n, .slice va es.length vc] 25)).alloc (.cells #[.int .i64 m, .int .i64 src, .slice vb zs.length vd] 28)).cell? ⟨w1.heap.size, 1, none⟩ = some (.slice va es.length vc) := by go_simp
  have zg_2 : w1.heap.size < ((w1.alloc (.cells #[.int .i64 n, .slice va es.length vc] 25)).alloc (.cells #[.int .i64 m, .int .i64 src, .slice vb zs.length vd] 28)).heap.size := by simp <;> omega
  have qv0_2 : ((w1.alloc (.cells #[.int .i64 n, .slice va es.length vc] 25)).alloc (.cells #[.int .i64 m, .int .i64 src, .slice vb zs.length vd] 28)).cell? ⟨w1.heap.size + 1, 0, none⟩ = some (.int .i64 m) := by go_simp
  have qv1_2 : ((w1.alloc (.cells #[.int .i64 n, .slice va es.length vc] 25)).alloc (.cells #[.int .i64 m, .int .i64 src, .slice vb zs.length vd] 28)).cell? ⟨w1.heap.size + 1, 1, none⟩ = some (.int .i64 src) := by go_simp
  have qv2_2 : ((w1.alloc (.cells #[.int .i64 n, .slice va es.length vc] 25)).alloc (.cells #[.int .i64 m, .int .i64 src, .slice vb zs.length vd] 28)).cell? ⟨w1.heap.size + 1, 2, none⟩ = some (.slice vb zs.length vd) := by go_simp
  have zv_2 : w1.heap.size + 1 < ((w1.alloc (.cells #[.int .i64 n, .slice va es.length vc] 25)).alloc (.cells #[.int .i64 m, .int .i64 src, .slice vb zs.length vd] 28)).heap.size := by simp <;> omega
  generalize ((w1.alloc (.cells #[.int .i64 n, .slice va es.length vc] 25)).alloc (.cells #[.int .i64 m, .int .i64 src, .slice vb zs.length vd] 28)) = w2 at hb2 H2 SZ2 G_2 O_2 V_2 qg0_2 qg1_2 qv0_2 qv1_2 qv2_2 zg_2 zv_2 ⊢
  have ZBg := Lib.hid zg_2
  have ZBv := Lib.hid zv_2
  clear G_1 V_1 O_1
  have hlE : es.length ≤ 281474976710656 := by omega
  have hlZ : zs.length ≤ 281474976710656 := by omega
  have hlO : os.length ≤ 281474976710656 := by omega
  have hst := fun s t u w (h : RowE w s es) (k : Row w t zs) (q : Row w u os) => runScheduleU n m src es zs os s t u w h k q hlE hlZ hlO
  have hss := fun s t u w (h : RowE w s es) (k : Row w t zs) (q : Row w u os) => sRunScheduleU n m src es zs os s t u w h k q hlE hlZ hlO
  cases hB : rsB n es m src zs os
  · rw [show rsM n es m src zs os = 0 by unfold rsM; rw [hB]; rfl, show rsA n es m src zs os = 0 by unfold rsA; rw [hB]; rfl, show rsL n es m src zs os = [] by unfold rsL; rw [hB]; rfl, hB] at hst hss
    have HST := Lib.hid hst
    have HSS := Lib.hid hss
    clear hst hss hB
    go_wp2_with fail
    refine (HST.out _ _ _ _ G_2.out.edges V_2.out.rowI O_2.out.rowI).mono ?_
    rintro e w3 ⟨vx, rfl, howx, hokx, hb3⟩
    have H3 := bel_trans H2 hb3
    have SZ3 := Lib.hid hb3.size
    have qg0_3 := (hb3.cell (p := ⟨w1.heap.size, 0, none⟩) zg_2).trans qg0_2
    have qg1_3 := (hb3.cell (p := ⟨w1.heap.size, 1, none⟩) zg_2).trans qg1_2
    have zg_3 := Nat.lt_of_lt_of_le zg_2 hb3.size
    have qv0_3 := (hb3.cell (p := ⟨w1.heap.size + 1, 0, none⟩) zv_2).trans qv0_2
    have qv1_3 := (hb3.cell (p := ⟨w1.heap.size + 1, 1, none⟩) zv_2).trans qv1_2
    have qv2_3 := (hb3.cell (p := ⟨w1.heap.size + 1, 2, none⟩) zv_2).trans qv2_2
    have zv_3 := Nat.lt_of_lt_of_le zv_2 hb3.size
    have G_3 := Lib.hid (G_2.out.keep hb3)
    have V_3 := Lib.hid (V_2.out.keep hb3)
    have O_3 := Lib.hid (O_2.out.keep hb3)
    obtain ⟨ax, cx, rfl, hz9⟩ := id howx
    clear hz9 hokx
    have X_3 := Lib.hid (show InR true w3 w2.heap.size w3.heap.size _ ([] : List Int).length 1 (cellI ([] : List Int)) from howx)
    clear zg_2 zv_2 qg0_2 qv2_2 qv1_2 qg1_2 G_2 qv0_2 V_2 O_2
    clear howx
    go_wp2_with fail
    have hb4 : Below w3.heap.size w3 (w3.alloc (.cells #[.int .i64 0, .int .i64 0, .slice ax ([] : List Int).length cx] 28)) := (Below.refl _ _).alloc (by simp <;> omega) _
    have H4 := bel_trans H3 hb4
    have SZ4 := Lib.hid hb4.size
    have qg0_4 := (hb4.cell (p := ⟨w1.heap.size, 0, none⟩) zg_3).trans qg0_3
    have qg1_4 := (hb4.cell (p := ⟨w1.heap.size, 1, none⟩) zg_3).trans qg1_3
    have zg_4 := Nat.lt_of_lt_of_le zg_3 hb4.size
    have qv0_4 := (hb4.cell (p := ⟨w1.heap.size + 1, 0, none⟩) zv_3).trans qv0_3
    have qv1_4 := (hb4.cell (p := ⟨w1.heap.size + 1, 1, none⟩) zv_3).trans qv1_3
    have qv2_4 := (hb4.cell (p := ⟨w1.heap.size + 1, 2, none⟩) zv_3).trans qv2_3
    have zv_4 := Nat.lt_of_lt_of_le zv_3 hb4.size
    have G_4 := Lib.hid (G_3.out.keep hb4)
    have V_4 := Lib.hid (V_3.out.keep hb4)
    have O_4 := Lib.hid (O_3.out.keep hb4)
    have X_4 := Lib.hid (X_3.out.keep hb4)
    have qx0_4 : (w3.alloc (.cells #[.int .i64 0, .int .i64 0, .slice ax ([] : List Int).length cx] 28)).cell? ⟨w3.heap.size, 0, none⟩ = some (.int .i64 0) := by go_simp
    have qx1_4 : (w3.alloc (.cells #[.int .i64 0, .int .i64 0, .slice ax ([] : List Int).length cx] 28)).cell? ⟨w3.heap.size, 1, none⟩ = some (.int .i64 0) := by go_simp
    have qx2_4 : (w3.alloc (.cells #[.int .i64 0, .int .i64 0, .slice ax ([] : List Int).length cx] 28)).cell? ⟨w3.heap.size, 2, none⟩ = some (.slice ax ([] : List Int).length cx) := by go_simp
    have zx_4 : w3.heap.size < (w3.alloc (.cells #[.int .i64 0, .int .i64 0, .slice ax ([] : List Int).length cx] 28)).heap.size := by simp <;> omega
    generalize (w3.alloc (.cells #[.int .i64 0, .int .i64 0, .slice ax ([] : List Int).length cx] 28)) = w4 at hb4 H4 SZ4 G_4 O_4 V_4 X_4 qg0_4 qg1_4 qv0_4 qv1_4 qv2_4 qx0_4 qx1_4 qx2_4 zg_4 zv_4 zx_4 ⊢
    have ZBx := Lib.hid zx_4
    clear qg0_3 qg1_3 zg_3 qv0_3 qv1_3 qv2_3 zv_3 G_3 V_3 O_3 X_3
    refine (HSS.out _ _ _ _ G_4.out.edges V_4.out.rowI O_4.out.rowI).mono ?_
    rintro e w5 ⟨vy, rfl, howy, hoky, hb5⟩
    have H5 := bel_trans H4 hb5
    have SZ5 := Lib.hid hb5.size
    have qg0_5 := (hb5.cell (p := ⟨w1.heap.size, 0, none⟩) zg_4).trans qg0_4
    have qg1_5 := (hb5.cell (p := ⟨w1.heap.size, 1, none⟩) zg_4).trans qg1_4
    have zg_5 := Nat.lt_of_lt_of_le zg_4 hb5.size
    have qv0_5 := (hb5.cell (p := ⟨w1.heap.size + 1, 0, none⟩) zv_4).trans qv0_4
    have qv1_5 := (hb5.cell (p := ⟨w1.heap.size + 1, 1, none⟩) zv_4).trans qv1_4
    have qv2_5 := (hb5.cell (p := ⟨w1.heap.size + 1, 2, none⟩) zv_4).trans qv2_4
    have zv_5 := Nat.lt_of_lt_of_le zv_4 hb5.size
    have qx0_5 := (hb5.cell (p := ⟨w3.heap.size, 0, none⟩) zx_4).trans qx0_4
    have qx1_5 := (hb5.cell (p := ⟨w3.heap.size, 1, none⟩) zx_4).trans qx1_4
    have qx2_5 := (hb5.cell (p := ⟨w3.heap.size, 2, none⟩) zx_4).trans qx2_4
    have zx_5 := Nat.lt_of_lt_of_le zx_4 hb5.size
    have G_5 := Lib.hid (G_4.out.keep hb5)
    have V_5 := Lib.hid (V_4.out.keep hb5)
    have O_5 := Lib.hid (O_4.out.keep hb5)
    have X_5 := Lib.hid (X_4.out.keep hb5)
    obtain ⟨ay, cy, rfl, hz9⟩ := id howy
    clear hz9 hoky
    have Y_5 := Lib.hid (show InR true w5 w4.heap.size w5.heap.size _ ([] : List Int).length 1 (cellI ([] : List Int)) from howy)
    clear qg0_4 qg1_4 zg_4 qv0_4 qv1_4 qv2_4 zv_4 G_4 V_4 O_4 X_4 qx0_4 qx1_4 qx2_4 zx_4
    clear howy
    go_wp2_with fail
    have hb6 : Below w5.heap.size w5 (w5.alloc (.cells #[.int .i64 0, .int .i64 0, .slice ay ([] : List Int).length cy] 28)) := (Below.refl _ _).alloc (by simp <;> omega) _
    have H6 := bel_trans H5 hb6
    have SZ6 := Lib.hid hb6.size
    have qg0_6 := (hb6.cell (p := ⟨w1.heap.size, 0, none⟩) zg_5).trans qg0_5
    have qg1_6 := (hb6.cell (p := ⟨w1.heap.size, 1, none⟩) zg_5).trans qg1_5
    have zg_6 := Nat.lt_of_lt_of_le zg_5 hb6.size
    have qv0_6 := (hb6.cell (p := ⟨w1.heap.size + 1, 0, none⟩) zv_5).trans qv0_5
    have qv1_6 := (hb6.cell (p := ⟨w1.heap.size + 1, 1, none⟩) zv_5).trans qv1_5
    have qv2_6 := (hb6.cell (p := ⟨w1.heap.size + 1, 2, none⟩) zv_5).trans qv2_5
    have zv_6 := Nat.lt_of_lt_of_le zv_5 hb6.size
    have qx0_6 := (hb6.cell (p := ⟨w3.heap.size, 0, none⟩) zx_5).trans qx0_5
    have qx1_6 := (hb6.cell (p := ⟨w3.heap.size, 1, none⟩) zx_5).trans qx1_5
    have qx2_6 := (hb6.cell (p := ⟨w3.heap.size, 2, none⟩) zx_5).trans qx2_5
    have zx_6 := Nat.lt_of_lt_of_le zx_5 hb6.size
    have G_6 := Lib.hid (G_5.out.keep hb6)
    have V_6 := Lib.hid (V_5.out.keep hb6)
    have O_6 := Lib.hid (O_5.out.keep hb6)
    have X_6 := Lib.hid (X_5.out.keep hb6)
    have Y_6 := Lib.hid (Y_5.out.keep hb6)
    have qy0_6 : (w5.alloc (.cells #[.int .i64 0, .int .i64 0, .slice ay ([] : List Int).length cy] 28)).cell? ⟨w5.heap.size, 0, none⟩ = some (.int .i64 0) := by go_simp
    have qy1_6 : (w5.alloc (.cells #[.int .i64 0, .int .i64 0, .slice ay ([] : List Int).length cy] 28)).cell? ⟨w5.heap.size, 1, none⟩ = some (.int .i64 0) := by go_simp
    have qy2_6 : (w5.alloc (.cells #[.int .i64 0, .int .i64 0, .slice ay ([] : List Int).length cy] 28)).cell? ⟨w5.heap.size, 2, none⟩ = some (.slice ay ([] : List Int).length cy) := by go_simp
    have zy_6 : w5.heap.size < (w5.alloc (.cells #[.int .i64 0, .int .i64 0, .slice ay ([] : List Int).length cy] 28)).heap.size := by simp <;> omega
    generalize (w5.alloc (.cells #[.int .i64 0, .int .i64 0, .slice ay ([] : List Int).length cy] 28)) = w6 at hb6 H6 SZ6 G_6 O_6 V_6 X_6 Y_6 qg0_6 qg1_6 qv0_6 qv1_6 qv2_6 qx0_6 qx1_6 qx2_6 qy0_6 qy1_6 qy2_6 zg_6 zv_6 zx_6 zy_6 ⊢
    have ZBy := Lib.hid zy_6
    clear qg0_5 qg1_5 zg_5 qv0_5 qv1_5 qv2_5 zv_5 qx0_5 qx1_5 qx2_5 zx_5 G_5 V_5 O_5 X_5 Y_5
    refine (viewSame 0 0 0 0 [] [] _ _ _ X_6.out.rowI Y_6.out.rowI (by simp) (by simp)).mono ?_
    rintro e w7 ⟨rfl, hb7⟩
    have H7 := bel_trans H6 hb7
    have SZ7 := Lib.hid hb7.size
    have qg0_7 := (hb7.cell (p := ⟨w1.heap.size, 0, none⟩) zg_6).trans qg0_6
    have qg1_7 := (hb7.cell (p := ⟨w1.heap.size, 1, none⟩) zg_6).trans qg1_6
    have zg_7 := Nat.lt_of_lt_of_le zg_6 hb7.size
    have qv0_7 := (hb7.cell (p := ⟨w1.heap.size + 1, 0, none⟩) zv_6).trans qv0_6
    have qv1_7 := (hb7.cell (p := ⟨w1.heap.size + 1, 1, none⟩) zv_6).trans qv1_6
    have qv2_7 := (hb7.cell (p := ⟨w1.heap.size + 1, 2, none⟩) zv_6).trans qv2_6
    have zv_7 := Nat.lt_of_lt_of_le zv_6 hb7.size
    have qx0_7 := (hb7.cell (p := ⟨w3.heap.size, 0, none⟩) zx_6).trans qx0_6
    have qx1_7 := (hb7.cell (p := ⟨w3.heap.size, 1, none⟩) zx_6).trans qx1_6
    have qx2_7 := (hb7.cell (p := ⟨w3.heap.size, 2, none⟩) zx_6).trans qx2_6
    have zx_7 := Nat.lt_of_lt_of_le zx_6 hb7.size
    have qy0_7 := (hb7.cell (p := ⟨w5.heap.size, 0, none⟩) zy_6).trans qy0_6
    have qy1_7 := (hb7.cell (p := ⟨w5.heap.size, 1, none⟩) zy_6).trans qy1_6
    have qy2_7 := (hb7.cell (p := ⟨w5.heap.size, 2, none⟩) zy_6).trans qy2_6
    have zy_7 := Nat.lt_of_lt_of_le zy_6 hb7.size
    have G_7 := Lib.hid (G_6.out.keep hb7)
    have V_7 := Lib.hid (V_6.out.keep hb7)
    have O_7 := Lib.hid (O_6.out.keep hb7)
    have X_7 := Lib.hid (X_6.out.keep hb7)
    have Y_7 := Lib.hid (Y_6.out.keep hb7)
    clear qg0_6 qg1_6 zg_6 qv0_6 qv1_6 qv2_6 zv_6 qx0_6 qx1_6 qx2_6 zx_6 G_6 V_6 O_6 X_6 Y_6 qy0_6 qy1_6 qy2_6 zy_6
    go_wp2_with fail
    refine (viewSame 0 0 0 0 [] [] _ _ _ X_7.out.rowI Y_7.out.rowI (by simp) (by simp)).mono ?_
    rintro e w8 ⟨rfl, hb8⟩
    have H8 := bel_trans H7 hb8
    have SZ8 := Lib.hid hb8.size
    have qg0_8 := (hb8.cell (p := ⟨w1.heap.size, 0, none⟩) zg_7).trans qg0_7
    have qg1_8 := (hb8.cell (p := ⟨w1.heap.size, 1, none⟩) zg_7).trans qg1_7
    have zg_8 := Nat.lt_of_lt_of_le zg_7 hb8.size
    have qv0_8 := (hb8.cell (p := ⟨w1.heap.size + 1, 0, none⟩) zv_7).trans qv0_7
    have qv1_8 := (hb8.cell (p := ⟨w1.heap.size + 1, 1, none⟩) zv_7).trans qv1_7
    have qv2_8 := (hb8.cell (p := ⟨w1.heap.size + 1, 2, none⟩) zv_7).trans qv2_7
    have zv_8 := Nat.lt_of_lt_of_le zv_7 hb8.size
    have qx0_8 := (hb8.cell (p := ⟨w3.heap.size, 0, none⟩) zx_7).trans qx0_7
    have qx1_8 := (hb8.cell (p := ⟨w3.heap.size, 1, none⟩) zx_7).trans qx1_7
    have qx2_8 := (hb8.cell (p := ⟨w3.heap.size, 2, none⟩) zx_7).trans qx2_7
    have zx_8 := Nat.lt_of_lt_of_le zx_7 hb8.size
    have qy0_8 := (hb8.cell (p := ⟨w5.heap.size, 0, none⟩) zy_7).trans qy0_7
    have qy1_8 := (hb8.cell (p := ⟨w5.heap.size, 1, none⟩) zy_7).trans qy1_7
    have qy2_8 := (hb8.cell (p := ⟨w5.heap.size, 2, none⟩) zy_7).trans qy2_7
    have zy_8 := Nat.lt_of_lt_of_le zy_7 hb8.size
    have G_8 := Lib.hid (G_7.out.keep hb8)
    have V_8 := Lib.hid (V_7.out.keep hb8)
    have O_8 := Lib.hid (O_7.out.keep hb8)
    have X_8 := Lib.hid (X_7.out.keep hb8)
    have Y_8 := Lib.hid (Y_7.out.keep hb8)
    clear qg0_7 qg1_7 zg_7 qv0_7 qv1_7 qv2_7 zv_7 qx0_7 qx1_7 qx2_7 zx_7 qy0_7 qy1_7 qy2_7 zy_7 G_7 V_7 O_7 X_7 Y_7
    go_wp2
    go_ret
    exact ⟨rfl, H8⟩
  · have hV : vVal n es m src zs = true := by unfold rsB at hB; exact (Bool.and_eq_true_iff.1 hB).1
    have hO : oOk es.length os = true := by unfold rsB at hB; exact (Bool.and_eq_true_iff.1 hB).2
    rw [show rsM n es m src zs os = m by unfold rsM; rw [if_pos hB], show rsA n es m src zs os = src by unfold rsA; rw [if_pos hB], show rsL n es m src zs os = vRun m es zs os by unfold rsL; rw [if_pos hB], hB] at hst hss
    clear hB
    obtain ⟨hgv, hsr, hlen, hmk, hall⟩ := vVal_pts hV
    obtain ⟨hm, hz0, hz12, hz40, hva, hea⟩ := vVal_use hV
    obtain ⟨N, hN⟩ : ∃ N : Nat, n = N := ⟨n.toNat, by omega⟩
    subst hN
    obtain ⟨A, hA⟩ : ∃ A : Nat, src = A := ⟨src.toNat, by omega⟩
    subst hA
    have hNz : zs.length = N := by omega
    have hAN : A < N := by omega
    have hN12 : N ≤ 12 := by omega
    have hea2 : eAll N es := by rw [hNz] at hea; exact hea
    have hoa := oOk_all hO
    obtain ⟨L, hL⟩ : ∃ L, L = vRun m es zs os := ⟨_, rfl⟩
    have hlL : L.length = N := by rw [hL, vRun_length, hNz]
    rw [← hL] at hst hss
    have honz := onOk_of hgv hsr hmk
    obtain ⟨T, hT⟩ : ∃ T, T = vRt m (N : Int) es (A : Int) := ⟨_, rfl⟩
    have heN : eAll (N : Int).toNat es := by simpa using hea2
    have hlT : T.length = N := by rw [hT, vRt_length]; omega
    have hvT : vAll m T := by rw [hT]; exact vRt_all hmk heN _
    have hfT : vRelax m es T = T := by rw [hT]; exact vRt_fix hmk heN (by omega) (by omega)
    have heT : eAll T.length es := by rw [hlT]; exact hea2
    have hfix := fix_of_relax hmk heT hvT hfT
    have hvz := fun s w (h : RowE w s es) => viewOf (N : Int) m (A : Int) es s w h hlE
    rw [show stM (N : Int) es m (A : Int) = m by unfold stM; rw [if_pos honz], show stA (N : Int) es m (A : Int) = (A : Int) by unfold stA; rw [if_pos honz], show voL (N : Int) es m (A : Int) = vRt m (N : Int) es (A : Int) by unfold voL; rw [if_pos honz]; rfl, honz, ← hT] at hvz
    obtain ⟨c, hc⟩ : ∃ c : Nat, c = os.length / 2 := ⟨_, rfl⟩
    have hcl : c ≤ os.length := by omega
    have HC := Lib.hid hc
    obtain ⟨hO1, hO2⟩ := oOk_parts hO c
    obtain ⟨L1, hL1⟩ : ∃ L, L = vRun m es zs (os.take c) := ⟨_, rfl⟩
    have hlL1 : L1.length = N := by rw [hL1, vRun_length, hNz]
    have hL2 : vRun m es L1 (os.drop c) = L := by rw [hL, hL1, ← vRun_append, List.take_append_drop]
    have hvL1 : vAll m L1 := by rw [hL1]; exact (vRun_step hmk (os.take c) zs hea hva (oOk_all hO1)).1
    have hvxA : vVal (N : Int) es m (A : Int) zs = true := hV
    have hbxA : rsB (N : Int) es m (A : Int) zs (os.take c) = true := by unfold rsB; rw [hvxA, hO1]; rfl
    have hrA := fun s t u w (h : RowE w s es) (k : Row w t zs) (q : Row w u (os.take c)) => runScheduleU (N : Int) m (A : Int) es zs (os.take c) s t u w h k q hlE (by omega) (by simp; omega)
    rw [show rsM (N : Int) es m (A : Int) zs (os.take c) = m by unfold rsM; rw [if_pos hbxA], show rsA (N : Int) es m (A : Int) zs (os.take c) = (A : Int) by unfold rsA; rw [if_pos hbxA], show rsL (N : Int) es m (A : Int) zs (os.take c) = L1 by unfold rsL; rw [if_pos hbxA]; exact hL1.symm, hbxA] at hrA
    have hvxB : vVal (N : Int) es m (A : Int) L1 = true := vVal_mk hgv hsr hmk (by omega) hvL1
    have hbxB : rsB (N : Int) es m (A : Int) L1 (os.drop c) = true := by unfold rsB; rw [hvxB, hO2]; rfl
    have hrB := fun s t u w (h : RowE w s es) (k : Row w t L1) (q : Row w u (os.drop c)) => runScheduleU (N : Int) m (A : Int) es L1 (os.drop c) s t u w h k q hlE (by omega) (by simp; omega)
    rw [show rsM (N : Int) es m (A : Int) L1 (os.drop c) = m by unfold rsM; rw [if_pos hbxB], show rsA (N : Int) es m (A : Int) L1 (os.drop c) = (A : Int) by unfold rsA; rw [if_pos hbxB], show rsL (N : Int) es m (A : Int) L1 (os.drop c) = L by unfold rsL; rw [if_pos hbxB]; exact hL2, hbxB] at hrB
    have hcd : ((os.length : Nat) : Int) / 2 = (c : Int) := by omega
    have hct : Int.tdiv ((os.length : Nat) : Int) 2 = (c : Int) := by rw [Int.tdiv_eq_ediv_of_nonneg (by omega)]; exact hcd
    have HST := Lib.hid hst
    have HSS := Lib.hid hss
    have HRA := Lib.hid hrA
    have HRB := Lib.hid hrB
    have HLL := Lib.hid hlL
    have HL1 := Lib.hid hlL1
    have HNZ := Lib.hid hNz
    have HCD := Lib.hid hcd
    have HCT := Lib.hid hct
    clear hst hss hrA hrB hlL hlL1 hNz hcd hct hvz hV hO hgv hsr hlen hall hva hea hmk hm hea2 hoa hL honz hT heN hvT hfT heT hfix hvxA hvxB hbxA hbxB hL1 hL2 hvL1 hO1 hO2 hlT hc
    go_wp2_with fail
    refine (HST.out _ _ _ _ G_2.out.edges V_2.out.rowI O_2.out.rowI).mono ?_
    rintro e w3 ⟨vx, rfl, howx, hokx, hb3⟩
    have H3 := bel_trans H2 hb3
    have SZ3 := Lib.hid hb3.size
    have qg0_3 := (hb3.cell (p := ⟨w1.heap.size, 0, none⟩) zg_2).trans qg0_2
    have qg1_3 := (hb3.cell (p := ⟨w1.heap.size, 1, none⟩) zg_2).trans qg1_2
    have zg_3 := Nat.lt_of_lt_of_le zg_2 hb3.size
    have qv0_3 := (hb3.cell (p := ⟨w1.heap.size + 1, 0, none⟩) zv_2).trans qv0_2
    have qv1_3 := (hb3.cell (p := ⟨w1.heap.size + 1, 1, none⟩) zv_2).trans qv1_2
    have qv2_3 := (hb3.cell (p := ⟨w1.heap.size + 1, 2, none⟩) zv_2).trans qv2_2
    have zv_3 := Nat.lt_of_lt_of_le zv_2 hb3.size
    have G_3 := Lib.hid (G_2.out.keep hb3)
    have V_3 := Lib.hid (V_2.out.keep hb3)
    have O_3 := Lib.hid (O_2.out.keep hb3)
    obtain ⟨ax, cx, rfl, hz9⟩ := id howx
    clear hz9 hokx
    have X_3 := Lib.hid (show InR true w3 w2.heap.size w3.heap.size _ L.length 1 (cellI L) from howx)
    clear zg_2 zv_2 qg0_2 qv2_2 qv1_2 qg1_2 G_2 qv0_2 V_2 O_2
    clear howx
    go_wp2_with fail
    have hb4 : Below w3.heap.size w3 (w3.alloc (.cells #[.int .i64 m, .int .i64 A, .slice ax L.length cx] 28)) := (Below.refl _ _).alloc (by simp <;> omega) _
    have H4 := bel_trans H3 hb4
    have SZ4 := Lib.hid hb4.size
    have qg0_4 := (hb4.cell (p := ⟨w1.heap.size, 0, none⟩) zg_3).trans qg0_3
    have qg1_4 := (hb4.cell (p := ⟨w1.heap.size, 1, none⟩) zg_3).trans qg1_3
    have zg_4 := Nat.lt_of_lt_of_le zg_3 hb4.size
    have qv0_4 := (hb4.cell (p := ⟨w1.heap.size + 1, 0, none⟩) zv_3).trans qv0_3
    have qv1_4 := (hb4.cell (p := ⟨w1.heap.size + 1, 1, none⟩) zv_3).trans qv1_3
    have qv2_4 := (hb4.cell (p := ⟨w1.heap.size + 1, 2, none⟩) zv_3).trans qv2_3
    have zv_4 := Nat.lt_of_lt_of_le zv_3 hb4.size
    have G_4 := Lib.hid (G_3.out.keep hb4)
    have V_4 := Lib.hid (V_3.out.keep hb4)
    have O_4 := Lib.hid (O_3.out.keep hb4)
    have X_4 := Lib.hid (X_3.out.keep hb4)
    have qx0_4 : (w3.alloc (.cells #[.int .i64 m, .int .i64 A, .slice ax L.length cx] 28)).cell? ⟨w3.heap.size, 0, none⟩ = some (.int .i64 m) := by go_simp
    have qx1_4 : (w3.alloc (.cells #[.int .i64 m, .int .i64 A, .slice ax L.length cx] 28)).cell? ⟨w3.heap.size, 1, none⟩ = some (.int .i64 A) := by go_simp
    have qx2_4 : (w3.alloc (.cells #[.int .i64 m, .int .i64 A, .slice ax L.length cx] 28)).cell? ⟨w3.heap.size, 2, none⟩ = some (.slice ax L.length cx) := by go_simp
    have zx_4 : w3.heap.size < (w3.alloc (.cells #[.int .i64 m, .int .i64 A, .slice ax L.length cx] 28)).heap.size := by simp <;> omega
    generalize (w3.alloc (.cells #[.int .i64 m, .int .i64 A, .slice ax L.length cx] 28)) = w4 at hb4 H4 SZ4 G_4 O_4 V_4 X_4 qg0_4 qg1_4 qv0_4 qv1_4 qv2_4 qx0_4 qx1_4 qx2_4 zg_4 zv_4 zx_4 ⊢
    have ZBx := Lib.hid zx_4
    clear qg0_3 qg1_3 zg_3 qv0_3 qv1_3 qv2_3 zv_3 G_3 V_3 O_3 X_3
    refine (HSS.out _ _ _ _ G_4.out.edges V_4.out.rowI O_4.out.rowI).mono ?_
    rintro e w5 ⟨vy, rfl, howy, hoky, hb5⟩
    have H5 := bel_trans H4 hb5
    have SZ5 := Lib.hid hb5.size
    have qg0_5 := (hb5.cell (p := ⟨w1.heap.size, 0, none⟩) zg_4).trans qg0_4
    have qg1_5 := (hb5.cell (p := ⟨w1.heap.size, 1, none⟩) zg_4).trans qg1_4
    have zg_5 := Nat.lt_of_lt_of_le zg_4 hb5.size
    have qv0_5 := (hb5.cell (p := ⟨w1.heap.size + 1, 0, none⟩) zv_4).trans qv0_4
    have qv1_5 := (hb5.cell (p := ⟨w1.heap.size + 1, 1, none⟩) zv_4).trans qv1_4
    have qv2_5 := (hb5.cell (p := ⟨w1.heap.size + 1, 2, none⟩) zv_4).trans qv2_4
    have zv_5 := Nat.lt_of_lt_of_le zv_4 hb5.size
    have qx0_5 := (hb5.cell (p := ⟨w3.heap.size, 0, none⟩) zx_4).trans qx0_4
    have qx1_5 := (hb5.cell (p := ⟨w3.heap.size, 1, none⟩) zx_4).trans qx1_4
    have qx2_5 := (hb5.cell (p := ⟨w3.heap.size, 2, none⟩) zx_4).trans qx2_4
    have zx_5 := Nat.lt_of_lt_of_le zx_4 hb5.size
    have G_5 := Lib.hid (G_4.out.keep hb5)
    have V_5 := Lib.hid (V_4.out.keep hb5)
    have O_5 := Lib.hid (O_4.out.keep hb5)
    have X_5 := Lib.hid (X_4.out.keep hb5)
    obtain ⟨ay, cy, rfl, hz9⟩ := id howy
    clear hz9 hoky
    have Y_5 := Lib.hid (show InR true w5 w4.heap.size w5.heap.size _ L.length 1 (cellI L) from howy)
    clear qg0_4 qg1_4 zg_4 qv0_4 qv1_4 qv2_4 zv_4 G_4 V_4 O_4 X_4 qx0_4 qx1_4 qx2_4 zx_4
    clear howy
    go_wp2_with fail
    have hb6 : Below w5.heap.size w5 (w5.alloc (.cells #[.int .i64 m, .int .i64 A, .slice ay L.length cy] 28)) := (Below.refl _ _).alloc (by simp <;> omega) _
    have H6 := bel_trans H5 hb6
    have SZ6 := Lib.hid hb6.size
    have qg0_6 := (hb6.cell (p := ⟨w1.heap.size, 0, none⟩) zg_5).trans qg0_5
    have qg1_6 := (hb6.cell (p := ⟨w1.heap.size, 1, none⟩) zg_5).trans qg1_5
    have zg_6 := Nat.lt_of_lt_of_le zg_5 hb6.size
    have qv0_6 := (hb6.cell (p := ⟨w1.heap.size + 1, 0, none⟩) zv_5).trans qv0_5
    have qv1_6 := (hb6.cell (p := ⟨w1.heap.size + 1, 1, none⟩) zv_5).trans qv1_5
    have qv2_6 := (hb6.cell (p := ⟨w1.heap.size + 1, 2, none⟩) zv_5).trans qv2_5
    have zv_6 := Nat.lt_of_lt_of_le zv_5 hb6.size
    have qx0_6 := (hb6.cell (p := ⟨w3.heap.size, 0, none⟩) zx_5).trans qx0_5
    have qx1_6 := (hb6.cell (p := ⟨w3.heap.size, 1, none⟩) zx_5).trans qx1_5
    have qx2_6 := (hb6.cell (p := ⟨w3.heap.size, 2, none⟩) zx_5).trans qx2_5
    have zx_6 := Nat.lt_of_lt_of_le zx_5 hb6.size
    have G_6 := Lib.hid (G_5.out.keep hb6)
    have V_6 := Lib.hid (V_5.out.keep hb6)
    have O_6 := Lib.hid (O_5.out.keep hb6)
    have X_6 := Lib.hid (X_5.out.keep hb6)
    have Y_6 := Lib.hid (Y_5.out.keep hb6)
    have qy0_6 : (w5.alloc (.cells #[.int .i64 m, .int .i64 A, .slice ay L.length cy] 28)).cell? ⟨w5.heap.size, 0, none⟩ = some (.int .i64 m) := by go_simp
    have qy1_6 : (w5.alloc (.cells #[.int .i64 m, .int .i64 A, .slice ay L.length cy] 28)).cell? ⟨w5.heap.size, 1, none⟩ = some (.int .i64 A) := by go_simp
    have qy2_6 : (w5.alloc (.cells #[.int .i64 m, .int .i64 A, .slice ay L.length cy] 28)).cell? ⟨w5.heap.size, 2, none⟩ = some (.slice ay L.length cy) := by go_simp
    have zy_6 : w5.heap.size < (w5.alloc (.cells #[.int .i64 m, .int .i64 A, .slice ay L.length cy] 28)).heap.size := by simp <;> omega
    generalize (w5.alloc (.cells #[.int .i64 m, .int .i64 A, .slice ay L.length cy] 28)) = w6 at hb6 H6 SZ6 G_6 O_6 V_6 X_6 Y_6 qg0_6 qg1_6 qv0_6 qv1_6 qv2_6 qx0_6 qx1_6 qx2_6 qy0_6 qy1_6 qy2_6 zg_6 zv_6 zx_6 zy_6 ⊢
    have ZBy := Lib.hid zy_6
    clear qg0_5 qg1_5 zg_5 qv0_5 qv1_5 qv2_5 zv_5 qx0_5 qx1_5 qx2_5 zx_5 G_5 V_5 O_5 X_5 Y_5
    refine (viewSame m A m A L L _ _ _ X_6.out.rowI Y_6.out.rowI (by have := HLL.out; omega) (by have := HLL.out; omega)).mono ?_
    rintro e w7 ⟨hS, hb7⟩
    have H7 := bel_trans H6 hb7
    have SZ7 := Lib.hid hb7.size
    have qg0_7 := (hb7.cell (p := ⟨w1.heap.size, 0, none⟩) zg_6).trans qg0_6
    have qg1_7 := (hb7.cell (p := ⟨w1.heap.size, 1, none⟩) zg_6).trans qg1_6
    have zg_7 := Nat.lt_of_lt_of_le zg_6 hb7.size
    have qv0_7 := (hb7.cell (p := ⟨w1.heap.size + 1, 0, none⟩) zv_6).trans qv0_6
    have qv1_7 := (hb7.cell (p := ⟨w1.heap.size + 1, 1, none⟩) zv_6).trans qv1_6
    have qv2_7 := (hb7.cell (p := ⟨w1.heap.size + 1, 2, none⟩) zv_6).trans qv2_6
    have zv_7 := Nat.lt_of_lt_of_le zv_6 hb7.size
    have qx0_7 := (hb7.cell (p := ⟨w3.heap.size, 0, none⟩) zx_6).trans qx0_6
    have qx1_7 := (hb7.cell (p := ⟨w3.heap.size, 1, none⟩) zx_6).trans qx1_6
    have qx2_7 := (hb7.cell (p := ⟨w3.heap.size, 2, none⟩) zx_6).trans qx2_6
    have zx_7 := Nat.lt_of_lt_of_le zx_6 hb7.size
    have qy0_7 := (hb7.cell (p := ⟨w5.heap.size, 0, none⟩) zy_6).trans qy0_6
    have qy1_7 := (hb7.cell (p := ⟨w5.heap.size, 1, none⟩) zy_6).trans qy1_6
    have qy2_7 := (hb7.cell (p := ⟨w5.heap.size, 2, none⟩) zy_6).trans qy2_6
    have zy_7 := Nat.lt_of_lt_of_le zy_6 hb7.size
    have G_7 := Lib.hid (G_6.out.keep hb7)
    have V_7 := Lib.hid (V_6.out.keep hb7)
    have O_7 := Lib.hid (O_6.out.keep hb7)
    have X_7 := Lib.hid (X_6.out.keep hb7)
    have Y_7 := Lib.hid (Y_6.out.keep hb7)
    rw [vSame_self] at hS
    subst hS
    clear qg0_6 qg1_6 zg_6 qv0_6 qv1_6 qv2_6 zv_6 qx0_6 qx1_6 qx2_6 zx_6 G_6 V_6 O_6 X_6 Y_6 qy0_6 qy1_6 qy2_6 zy_6
    by_cases hz0 : os.length = 0
    · have hn0 : os = [] := List.eq_nil_of_length_eq_zero hz0
      have hc0 : c = 0 := by have := HC.out; omega
      subst hc0
      subst hn0
      have hr0A := fun (x : Option Addr) (y : Nat) s t w h k => HRA.out s t (.slice x 0 y) w h k ⟨x, y, rfl, .inl rfl⟩
      have HR0A := Lib.hid hr0A
      clear hr0A
      have hr0B := fun (x : Option Addr) (y : Nat) s t w h k => HRB.out s t (.slice x 0 y) w h k ⟨x, y, rfl, .inl rfl⟩
      have HR0B := Lib.hid hr0B
      clear hr0B
      clear hz0 hcl HCD HCT HC
      by_cases hcz : oc = 0
      · skip
        subst hcz
        go_upto_region 9 with fail
        go_cut [11, 12] from 15 (fun p c wx => BoxInV w7 wx m A L1 p ∧ c = .bool true)
        · have hold : ∀ w' : World, Below w7.heap.size w7 w' → (w'.cell? ⟨w1.heap.size, 0, none⟩ = some (.int .i64 N) ∧ w'.cell? ⟨w1.heap.size, 1, none⟩ = some (.slice va es.length vc) ∧ w'.cell? ⟨w1.heap.size + 1, 0, none⟩ = some (.int .i64 m) ∧ w'.cell? ⟨w1.heap.size + 1, 1, none⟩ = some (.int .i64 A) ∧ w'.cell? ⟨w1.heap.size + 1, 2, none⟩ = some (.slice vb zs.length vd)) := fun w' h => ⟨(h.cell (p := ⟨w1.heap.size, 0, none⟩) zg_7).trans qg0_7, (h.cell (p := ⟨w1.heap.size, 1, none⟩) zg_7).trans qg1_7, (h.cell (p := ⟨w1.heap.size + 1, 0, none⟩) zv_7).trans qv0_7, (h.cell (p := ⟨w1.heap.size + 1, 1, none⟩) zv_7).trans qv1_7, (h.cell (p := ⟨w1.heap.size + 1, 2, none⟩) zv_7).trans qv2_7⟩
          have HOLD := Lib.hid hold
          clear hold
          go_region_held3 (fun w' : World => w'.cell? ⟨w1.heap.size, 0, none⟩ = some (.int .i64 N) ∧ w'.cell? ⟨w1.heap.size, 1, none⟩ = some (.slice va es.length vc) ∧ w'.cell? ⟨w1.heap.size + 1, 0, none⟩ = some (.int .i64 m) ∧ w'.cell? ⟨w1.heap.size + 1, 1, none⟩ = some (.int .i64 A) ∧ w'.cell? ⟨w1.heap.size + 1, 2, none⟩ = some (.slice vb zs.length vd)) (exact HOLD.out _ (by repeat' (first | with_reducible exact Below.refl _ _ | with_reducible apply b_alloc | with_reducible apply b_drew | with_reducible apply b_set | (refine @bel_trans _ ?_ _ ?_ ?_; rotate_right; with_reducible assumption)))) (first | (go_at_call 12; (with_reducible refine (HR0A.out _ _ _ _ _ (G_7.out.keep (by repeat' (first | with_reducible exact Below.refl _ _ | with_reducible apply b_alloc | with_reducible apply b_drew | with_reducible apply b_set | (refine @bel_trans _ ?_ _ ?_ ?_; rotate_right; with_reducible assumption)))).edges (V_7.out.keep (by repeat' (first | with_reducible exact Below.refl _ _ | with_reducible apply b_alloc | with_reducible apply b_drew | with_reducible apply b_set | (refine @bel_trans _ ?_ _ ?_ ?_; rotate_right; with_reducible assumption)))).rowI).mono ?_); rintro e wC ⟨v, rfl, hown, hokv, hbC⟩; obtain ⟨va, vc, rfl⟩ := hown.slice; (try (refine (fun (zz : w7.heap.size < wC.heap.size) => ?_) (Nat.lt_of_lt_of_le ?_ hbC.size); rotate_right; (first | with_reducible assumption | (simp <;> omega)))); (try (refine (fun (cc : wC.cell? ⟨w7.heap.size, 0, none⟩ = some (.int .i64 0)) => ?_) ((hbC.cell (p := ⟨w7.heap.size, 0, none⟩) ?_).trans ?_); rotate_left; (first | with_reducible assumption | (simp <;> omega)); (first | with_reducible assumption | (focus (go_simp; done))))); (try (refine (fun (ff : wC.frozen? ⟨w7.heap.size, 0, none⟩ = false) => ?_) ((hbC.frozen (p := ⟨w7.heap.size, 0, none⟩) ?_).trans ?_); rotate_left; (first | with_reducible assumption | (simp <;> omega)); (first | with_reducible assumption | (focus (go_simp; done))))); (try (refine (fun (cc : wC.cell? ⟨w7.heap.size, 1, none⟩ = some (.int .i64 0)) => ?_) ((hbC.cell (p := ⟨w7.heap.size, 1, none⟩) ?_).trans ?_); rotate_left; (first | with_reducible assumption | (simp <;> omega)); (first | with_reducible assumption | (focus (go_simp; done))))); (try (refine (fun (ff : wC.frozen? ⟨w7.heap.size, 1, none⟩ = false) => ?_) ((hbC.frozen (p := ⟨w7.heap.size, 1, none⟩) ?_).trans ?_); rotate_left; (first | with_reducible assumption | (simp <;> omega)); (first | with_reducible assumption | (focus (go_simp; done))))); (try (refine (fun (cc : wC.cell? ⟨w7.heap.size, 2, none⟩ = some (.slice none 0 0)) => ?_) ((hbC.cell (p := ⟨w7.heap.size, 2, none⟩) ?_).trans ?_); rotate_left; (first | with_reducible assumption | (simp <;> omega)); (first | with_reducible assumption | (focus (go_simp; done))))); (try (refine (fun (ff : wC.frozen? ⟨w7.heap.size, 2, none⟩ = false) => ?_) ((hbC.frozen (p := ⟨w7.heap.size, 2, none⟩) ?_).trans ?_); rotate_left; (first | with_reducible assumption | (simp <;> omega)); (first | with_reducible assumption | (focus (go_simp; done)))))))
          all_goals
            go_wp2_with fail
            go_meet
            first | (refine ⟨?_, rfl⟩; apply box_endV; (case ho => with_reducible assumption); (case hc => with_reducible assumption); (case hb => repeat' (first | with_reducible exact Below.refl _ _ | with_reducible apply b_alloc | with_reducible apply b_drew | with_reducible apply b_set | (refine @bel_trans _ ?_ _ ?_ ?_; rotate_right; with_reducible assumption))); done) | (refine ⟨?_, rfl⟩; apply box_midV (T := 28) (M0 := 0) (A0 := 0) (v0 := .slice none 0 0); (case ho => with_reducible assumption); (case hc => with_reducible assumption); (case hb => repeat' (first | with_reducible exact Below.refl _ _ | with_reducible apply b_alloc | with_reducible apply b_drew | with_reducible apply b_set | (refine @bel_trans _ ?_ _ ?_ ?_; rotate_right; with_reducible assumption))); (case hx => repeat' (first | with_reducible exact Below.refl _ _ | with_reducible apply b_alloc | with_reducible apply b_drew | with_reducible apply b_set | (refine @bel_trans _ ?_ _ ?_ ?_; rotate_right; with_reducible assumption))); done)
        obtain ⟨w8, hw8⟩ : ∃ w8, w8 = wc := ⟨_, rfl⟩
        subst hw8
        obtain ⟨⟨ga, vaA1, vcA1, loA1, hiA1, rfl, ⟨hq0, hq1, hq2⟩, hrow, ⟨hge, hlt⟩, ⟨hlo, hhi⟩, hdj, hb8⟩, rfl⟩ := hcut
        have H8 := bel_trans H7 hb8
        have SZ8 := Lib.hid hb8.size
        have qg0_8 := (hb8.cell (p := ⟨w1.heap.size, 0, none⟩) zg_7).trans qg0_7
        have qg1_8 := (hb8.cell (p := ⟨w1.heap.size, 1, none⟩) zg_7).trans qg1_7
        have zg_8 := Nat.lt_of_lt_of_le zg_7 hb8.size
        have qv0_8 := (hb8.cell (p := ⟨w1.heap.size + 1, 0, none⟩) zv_7).trans qv0_7
        have qv1_8 := (hb8.cell (p := ⟨w1.heap.size + 1, 1, none⟩) zv_7).trans qv1_7
        have qv2_8 := (hb8.cell (p := ⟨w1.heap.size + 1, 2, none⟩) zv_7).trans qv2_7
        have zv_8 := Nat.lt_of_lt_of_le zv_7 hb8.size
        have qx0_8 := (hb8.cell (p := ⟨w3.heap.size, 0, none⟩) zx_7).trans qx0_7
        have qx1_8 := (hb8.cell (p := ⟨w3.heap.size, 1, none⟩) zx_7).trans qx1_7
        have qx2_8 := (hb8.cell (p := ⟨w3.heap.size, 2, none⟩) zx_7).trans qx2_7
        have zx_8 := Nat.lt_of_lt_of_le zx_7 hb8.size
        have qy0_8 := (hb8.cell (p := ⟨w5.heap.size, 0, none⟩) zy_7).trans qy0_7
        have qy1_8 := (hb8.cell (p := ⟨w5.heap.size, 1, none⟩) zy_7).trans qy1_7
        have qy2_8 := (hb8.cell (p := ⟨w5.heap.size, 2, none⟩) zy_7).trans qy2_7
        have zy_8 := Nat.lt_of_lt_of_le zy_7 hb8.size
        have G_8 := Lib.hid (G_7.out.keep hb8)
        have V_8 := Lib.hid (V_7.out.keep hb8)
        have O_8 := Lib.hid (O_7.out.keep hb8)
        have X_8 := Lib.hid (X_7.out.keep hb8)
        have Y_8 := Lib.hid (Y_7.out.keep hb8)
        have qa0_8 := hq0
        have qa1_8 := hq1
        have qa2_8 := hq2
        have za_8 := hlt
        have A1_8 := Lib.hid hrow
        clear hq0 hq1 hq2 hrow hge hlt hlo hhi hdj
        clear qx2_7 O_7 qy2_7 qx0_7 V_7 zy_7 qv2_7 qv1_7 qx1_7 qv0_7 qy1_7 qg1_7 Y_7 zx_7 zv_7 qy0_7 zg_7 G_7 qg0_7 X_7
        go_upto_region 10 with fail
        go_cut [13, 14] from 15 (fun p c wx => BoxInV w8 wx m A L p ∧ c = .bool true)
        · have hold : ∀ w' : World, Below w8.heap.size w8 w' → (w'.cell? ⟨w1.heap.size, 0, none⟩ = some (.int .i64 N) ∧ w'.cell? ⟨w1.heap.size, 1, none⟩ = some (.slice va es.length vc) ∧ w'.cell? ⟨ga, 0, none⟩ = some (.int .i64 m) ∧ w'.cell? ⟨ga, 1, none⟩ = some (.int .i64 A) ∧ w'.cell? ⟨ga, 2, none⟩ = some (.slice vaA1 L1.length vcA1)) := fun w' h => ⟨(h.cell (p := ⟨w1.heap.size, 0, none⟩) zg_8).trans qg0_8, (h.cell (p := ⟨w1.heap.size, 1, none⟩) zg_8).trans qg1_8, (h.cell (p := ⟨ga, 0, none⟩) za_8).trans qa0_8, (h.cell (p := ⟨ga, 1, none⟩) za_8).trans qa1_8, (h.cell (p := ⟨ga, 2, none⟩) za_8).trans qa2_8⟩
          have HOLD := Lib.hid hold
          clear hold
          go_region_held3 (fun w' : World => w'.cell? ⟨w1.heap.size, 0, none⟩ = some (.int .i64 N) ∧ w'.cell? ⟨w1.heap.size, 1, none⟩ = some (.slice va es.length vc) ∧ w'.cell? ⟨ga, 0, none⟩ = some (.int .i64 m) ∧ w'.cell? ⟨ga, 1, none⟩ = some (.int .i64 A) ∧ w'.cell? ⟨ga, 2, none⟩ = some (.slice vaA1 L1.length vcA1)) (exact HOLD.out _ (by repeat' (first | with_reducible exact Below.refl _ _ | with_reducible apply b_alloc | with_reducible apply b_drew | with_reducible apply b_set | (refine @bel_trans _ ?_ _ ?_ ?_; rotate_right; with_reducible assumption)))) (first | (go_at_call 12; (with_reducible refine (HR0B.out _ _ _ _ _ (G_8.out.keep (by repeat' (first | with_reducible exact Below.refl _ _ | with_reducible apply b_alloc | with_reducible apply b_drew | with_reducible apply b_set | (refine @bel_trans _ ?_ _ ?_ ?_; rotate_right; with_reducible assumption)))).edges (A1_8.out.keep (by repeat' (first | with_reducible exact Below.refl _ _ | with_reducible apply b_alloc | with_reducible apply b_drew | with_reducible apply b_set | (refine @bel_trans _ ?_ _ ?_ ?_; rotate_right; with_reducible assumption)))).rowI).mono ?_); rintro e wC ⟨v, rfl, hown, hokv, hbC⟩; obtain ⟨va, vc, rfl⟩ := hown.slice; (try (refine (fun (zz : w8.heap.size < wC.heap.size) => ?_) (Nat.lt_of_lt_of_le ?_ hbC.size); rotate_right; (first | with_reducible assumption | (simp <;> omega)))); (try (refine (fun (cc : wC.cell? ⟨w8.heap.size, 0, none⟩ = some (.int .i64 0)) => ?_) ((hbC.cell (p := ⟨w8.heap.size, 0, none⟩) ?_).trans ?_); rotate_left; (first | with_reducible assumption | (simp <;> omega)); (first | with_reducible assumption | (focus (go_simp; done))))); (try (refine (fun (ff : wC.frozen? ⟨w8.heap.size, 0, none⟩ = false) => ?_) ((hbC.frozen (p := ⟨w8.heap.size, 0, none⟩) ?_).trans ?_); rotate_left; (first | with_reducible assumption | (simp <;> omega)); (first | with_reducible assumption | (focus (go_simp; done))))); (try (refine (fun (cc : wC.cell? ⟨w8.heap.size, 1, none⟩ = some (.int .i64 0)) => ?_) ((hbC.cell (p := ⟨w8.heap.size, 1, none⟩) ?_).trans ?_); rotate_left; (first | with_reducible assumption | (simp <;> omega)); (first | with_reducible assumption | (focus (go_simp; done))))); (try (refine (fun (ff : wC.frozen? ⟨w8.heap.size, 1, none⟩ = false) => ?_) ((hbC.frozen (p := ⟨w8.heap.size, 1, none⟩) ?_).trans ?_); rotate_left; (first | with_reducible assumption | (simp <;> omega)); (first | with_reducible assumption | (focus (go_simp; done))))); (try (refine (fun (cc : wC.cell? ⟨w8.heap.size, 2, none⟩ = some (.slice none 0 0)) => ?_) ((hbC.cell (p := ⟨w8.heap.size, 2, none⟩) ?_).trans ?_); rotate_left; (first | with_reducible assumption | (simp <;> omega)); (first | with_reducible assumption | (focus (go_simp; done))))); (try (refine (fun (ff : wC.frozen? ⟨w8.heap.size, 2, none⟩ = false) => ?_) ((hbC.frozen (p := ⟨w8.heap.size, 2, none⟩) ?_).trans ?_); rotate_left; (first | with_reducible assumption | (simp <;> omega)); (first | with_reducible assumption | (focus (go_simp; done)))))))
          all_goals
            go_wp2_with fail
            go_meet
            first | (refine ⟨?_, rfl⟩; apply box_endV; (case ho => with_reducible assumption); (case hc => with_reducible assumption); (case hb => repeat' (first | with_reducible exact Below.refl _ _ | with_reducible apply b_alloc | with_reducible apply b_drew | with_reducible apply b_set | (refine @bel_trans _ ?_ _ ?_ ?_; rotate_right; with_reducible assumption))); done) | (refine ⟨?_, rfl⟩; apply box_midV (T := 28) (M0 := 0) (A0 := 0) (v0 := .slice none 0 0); (case ho => with_reducible assumption); (case hc => with_reducible assumption); (case hb => repeat' (first | with_reducible exact Below.refl _ _ | with_reducible apply b_alloc | with_reducible apply b_drew | with_reducible apply b_set | (refine @bel_trans _ ?_ _ ?_ ?_; rotate_right; with_reducible assumption))); (case hx => repeat' (first | with_reducible exact Below.refl _ _ | with_reducible apply b_alloc | with_reducible apply b_drew | with_reducible apply b_set | (refine @bel_trans _ ?_ _ ?_ ?_; rotate_right; with_reducible assumption))); done)
        obtain ⟨w9, hw9⟩ : ∃ w9, w9 = wc := ⟨_, rfl⟩
        subst hw9
        obtain ⟨⟨gb, vaB1, vcB1, loB1, hiB1, rfl, ⟨hq0, hq1, hq2⟩, hrow, ⟨hge, hlt⟩, ⟨hlo, hhi⟩, hdj, hb9⟩, rfl⟩ := hcut
        have H9 := bel_trans H8 hb9
        have SZ9 := Lib.hid hb9.size
        have qg0_9 := (hb9.cell (p := ⟨w1.heap.size, 0, none⟩) zg_8).trans qg0_8
        have qg1_9 := (hb9.cell (p := ⟨w1.heap.size, 1, none⟩) zg_8).trans qg1_8
        have zg_9 := Nat.lt_of_lt_of_le zg_8 hb9.size
        have qv0_9 := (hb9.cell (p := ⟨w1.heap.size + 1, 0, none⟩) zv_8).trans qv0_8
        have qv1_9 := (hb9.cell (p := ⟨w1.heap.size + 1, 1, none⟩) zv_8).trans qv1_8
        have qv2_9 := (hb9.cell (p := ⟨w1.heap.size + 1, 2, none⟩) zv_8).trans qv2_8
        have zv_9 := Nat.lt_of_lt_of_le zv_8 hb9.size
        have qx0_9 := (hb9.cell (p := ⟨w3.heap.size, 0, none⟩) zx_8).trans qx0_8
        have qx1_9 := (hb9.cell (p := ⟨w3.heap.size, 1, none⟩) zx_8).trans qx1_8
        have qx2_9 := (hb9.cell (p := ⟨w3.heap.size, 2, none⟩) zx_8).trans qx2_8
        have zx_9 := Nat.lt_of_lt_of_le zx_8 hb9.size
        have qy0_9 := (hb9.cell (p := ⟨w5.heap.size, 0, none⟩) zy_8).trans qy0_8
        have qy1_9 := (hb9.cell (p := ⟨w5.heap.size, 1, none⟩) zy_8).trans qy1_8
        have qy2_9 := (hb9.cell (p := ⟨w5.heap.size, 2, none⟩) zy_8).trans qy2_8
        have zy_9 := Nat.lt_of_lt_of_le zy_8 hb9.size
        have qa0_9 := (hb9.cell (p := ⟨ga, 0, none⟩) za_8).trans qa0_8
        have qa1_9 := (hb9.cell (p := ⟨ga, 1, none⟩) za_8).trans qa1_8
        have qa2_9 := (hb9.cell (p := ⟨ga, 2, none⟩) za_8).trans qa2_8
        have za_9 := Nat.lt_of_lt_of_le za_8 hb9.size
        have G_9 := Lib.hid (G_8.out.keep hb9)
        have V_9 := Lib.hid (V_8.out.keep hb9)
        have O_9 := Lib.hid (O_8.out.keep hb9)
        have X_9 := Lib.hid (X_8.out.keep hb9)
        have Y_9 := Lib.hid (Y_8.out.keep hb9)
        have A1_9 := Lib.hid (A1_8.out.keep hb9)
        have qb0_9 := hq0
        have qb1_9 := hq1
        have qb2_9 := hq2
        have zb_9 := hlt
        have B1_9 := Lib.hid hrow
        clear hq0 hq1 hq2 hrow hge hlt hlo hhi hdj
        clear qg0_8 qg1_8 zg_8 qv0_8 qv1_8 qv2_8 zv_8 qx0_8 qx1_8 qx2_8 zx_8 qy0_8 qy1_8 qy2_8 zy_8 G_8 V_8 O_8 X_8 Y_8 qa0_8 qa1_8 qa2_8 za_8 A1_8
        go_wp2_with fail
        refine (viewSame m A m A L L _ _ _ B1_9.out.rowI X_9.out.rowI (by have := HLL.out; omega) (by have := HLL.out; omega)).mono ?_
        rintro e w10 ⟨hS, hb10⟩
        have H10 := bel_trans H9 hb10
        have SZ10 := Lib.hid hb10.size
        have qg0_10 := (hb10.cell (p := ⟨w1.heap.size, 0, none⟩) zg_9).trans qg0_9
        have qg1_10 := (hb10.cell (p := ⟨w1.heap.size, 1, none⟩) zg_9).trans qg1_9
        have zg_10 := Nat.lt_of_lt_of_le zg_9 hb10.size
        have qv0_10 := (hb10.cell (p := ⟨w1.heap.size + 1, 0, none⟩) zv_9).trans qv0_9
        have qv1_10 := (hb10.cell (p := ⟨w1.heap.size + 1, 1, none⟩) zv_9).trans qv1_9
        have qv2_10 := (hb10.cell (p := ⟨w1.heap.size + 1, 2, none⟩) zv_9).trans qv2_9
        have zv_10 := Nat.lt_of_lt_of_le zv_9 hb10.size
        have qx0_10 := (hb10.cell (p := ⟨w3.heap.size, 0, none⟩) zx_9).trans qx0_9
        have qx1_10 := (hb10.cell (p := ⟨w3.heap.size, 1, none⟩) zx_9).trans qx1_9
        have qx2_10 := (hb10.cell (p := ⟨w3.heap.size, 2, none⟩) zx_9).trans qx2_9
        have zx_10 := Nat.lt_of_lt_of_le zx_9 hb10.size
        have qy0_10 := (hb10.cell (p := ⟨w5.heap.size, 0, none⟩) zy_9).trans qy0_9
        have qy1_10 := (hb10.cell (p := ⟨w5.heap.size, 1, none⟩) zy_9).trans qy1_9
        have qy2_10 := (hb10.cell (p := ⟨w5.heap.size, 2, none⟩) zy_9).trans qy2_9
        have zy_10 := Nat.lt_of_lt_of_le zy_9 hb10.size
        have qa0_10 := (hb10.cell (p := ⟨ga, 0, none⟩) za_9).trans qa0_9
        have qa1_10 := (hb10.cell (p := ⟨ga, 1, none⟩) za_9).trans qa1_9
        have qa2_10 := (hb10.cell (p := ⟨ga, 2, none⟩) za_9).trans qa2_9
        have za_10 := Nat.lt_of_lt_of_le za_9 hb10.size
        have qb0_10 := (hb10.cell (p := ⟨gb, 0, none⟩) zb_9).trans qb0_9
        have qb1_10 := (hb10.cell (p := ⟨gb, 1, none⟩) zb_9).trans qb1_9
        have qb2_10 := (hb10.cell (p := ⟨gb, 2, none⟩) zb_9).trans qb2_9
        have zb_10 := Nat.lt_of_lt_of_le zb_9 hb10.size
        have G_10 := Lib.hid (G_9.out.keep hb10)
        have V_10 := Lib.hid (V_9.out.keep hb10)
        have O_10 := Lib.hid (O_9.out.keep hb10)
        have X_10 := Lib.hid (X_9.out.keep hb10)
        have Y_10 := Lib.hid (Y_9.out.keep hb10)
        have A1_10 := Lib.hid (A1_9.out.keep hb10)
        have B1_10 := Lib.hid (B1_9.out.keep hb10)
        rw [vSame_self] at hS
        subst hS
        clear qg0_9 qg1_9 zg_9 qv0_9 qv1_9 qv2_9 zv_9 qx0_9 qx1_9 qx2_9 zx_9 qy0_9 qy1_9 qy2_9 zy_9 qa0_9 qa1_9 qa2_9 za_9 G_9 V_9 O_9 X_9 Y_9 A1_9 qb0_9 qb1_9 qb2_9 zb_9 B1_9
        go_wp2
        go_ret
        exact ⟨rfl, H10⟩
      · skip
        go_upto_region 9 with fail
        go_cut [11, 12] from 15 (fun p c wx => BoxInV w7 wx m A L1 p ∧ c = .bool true)
        · have hold : ∀ w' : World, Below w7.heap.size w7 w' → (w'.cell? ⟨w1.heap.size, 0, none⟩ = some (.int .i64 N) ∧ w'.cell? ⟨w1.heap.size, 1, none⟩ = some (.slice va es.length vc) ∧ w'.cell? ⟨w1.heap.size + 1, 0, none⟩ = some (.int .i64 m) ∧ w'.cell? ⟨w1.heap.size + 1, 1, none⟩ = some (.int .i64 A) ∧ w'.cell? ⟨w1.heap.size + 1, 2, none⟩ = some (.slice vb zs.length vd)) := fun w' h => ⟨(h.cell (p := ⟨w1.heap.size, 0, none⟩) zg_7).trans qg0_7, (h.cell (p := ⟨w1.heap.size, 1, none⟩) zg_7).trans qg1_7, (h.cell (p := ⟨w1.heap.size + 1, 0, none⟩) zv_7).trans qv0_7, (h.cell (p := ⟨w1.heap.size + 1, 1, none⟩) zv_7).trans qv1_7, (h.cell (p := ⟨w1.heap.size + 1, 2, none⟩) zv_7).trans qv2_7⟩
          have HOLD := Lib.hid hold
          clear hold
          go_region_held3 (fun w' : World => w'.cell? ⟨w1.heap.size, 0, none⟩ = some (.int .i64 N) ∧ w'.cell? ⟨w1.heap.size, 1, none⟩ = some (.slice va es.length vc) ∧ w'.cell? ⟨w1.heap.size + 1, 0, none⟩ = some (.int .i64 m) ∧ w'.cell? ⟨w1.heap.size + 1, 1, none⟩ = some (.int .i64 A) ∧ w'.cell? ⟨w1.heap.size + 1, 2, none⟩ = some (.slice vb zs.length vd)) (exact HOLD.out _ (by repeat' (first | with_reducible exact Below.refl _ _ | with_reducible apply b_alloc | with_reducible apply b_drew | with_reducible apply b_set | (refine @bel_trans _ ?_ _ ?_ ?_; rotate_right; with_reducible assumption)))) (first | (go_at_call 12; (with_reducible refine (HR0A.out _ _ _ _ _ (G_7.out.keep (by repeat' (first | with_reducible exact Below.refl _ _ | with_reducible apply b_alloc | with_reducible apply b_drew | with_reducible apply b_set | (refine @bel_trans _ ?_ _ ?_ ?_; rotate_right; with_reducible assumption)))).edges (V_7.out.keep (by repeat' (first | with_reducible exact Below.refl _ _ | with_reducible apply b_alloc | with_reducible apply b_drew | with_reducible apply b_set | (refine @bel_trans _ ?_ _ ?_ ?_; rotate_right; with_reducible assumption)))).rowI).mono ?_); rintro e wC ⟨v, rfl, hown, hokv, hbC⟩; obtain ⟨va, vc, rfl⟩ := hown.slice; (try (refine (fun (zz : w7.heap.size < wC.heap.size) => ?_) (Nat.lt_of_lt_of_le ?_ hbC.size); rotate_right; (first | with_reducible assumption | (simp <;> omega)))); (try (refine (fun (cc : wC.cell? ⟨w7.heap.size, 0, none⟩ = some (.int .i64 0)) => ?_) ((hbC.cell (p := ⟨w7.heap.size, 0, none⟩) ?_).trans ?_); rotate_left; (first | with_reducible assumption | (simp <;> omega)); (first | with_reducible assumption | (focus (go_simp; done))))); (try (refine (fun (ff : wC.frozen? ⟨w7.heap.size, 0, none⟩ = false) => ?_) ((hbC.frozen (p := ⟨w7.heap.size, 0, none⟩) ?_).trans ?_); rotate_left; (first | with_reducible assumption | (simp <;> omega)); (first | with_reducible assumption | (focus (go_simp; done))))); (try (refine (fun (cc : wC.cell? ⟨w7.heap.size, 1, none⟩ = some (.int .i64 0)) => ?_) ((hbC.cell (p := ⟨w7.heap.size, 1, none⟩) ?_).trans ?_); rotate_left; (first | with_reducible assumption | (simp <;> omega)); (first | with_reducible assumption | (focus (go_simp; done))))); (try (refine (fun (ff : wC.frozen? ⟨w7.heap.size, 1, none⟩ = false) => ?_) ((hbC.frozen (p := ⟨w7.heap.size, 1, none⟩) ?_).trans ?_); rotate_left; (first | with_reducible assumption | (simp <;> omega)); (first | with_reducible assumption | (focus (go_simp; done))))); (try (refine (fun (cc : wC.cell? ⟨w7.heap.size, 2, none⟩ = some (.slice none 0 0)) => ?_) ((hbC.cell (p := ⟨w7.heap.size, 2, none⟩) ?_).trans ?_); rotate_left; (first | with_reducible assumption | (simp <;> omega)); (first | with_reducible assumption | (focus (go_simp; done))))); (try (refine (fun (ff : wC.frozen? ⟨w7.heap.size, 2, none⟩ = false) => ?_) ((hbC.frozen (p := ⟨w7.heap.size, 2, none⟩) ?_).trans ?_); rotate_left; (first | with_reducible assumption | (simp <;> omega)); (first | with_reducible assumption | (focus (go_simp; done)))))))
          all_goals
            go_wp2_with fail
            go_meet
            first | (refine ⟨?_, rfl⟩; apply box_endV; (case ho => with_reducible assumption); (case hc => with_reducible assumption); (case hb => repeat' (first | with_reducible exact Below.refl _ _ | with_reducible apply b_alloc | with_reducible apply b_drew | with_reducible apply b_set | (refine @bel_trans _ ?_ _ ?_ ?_; rotate_right; with_reducible assumption))); done) | (refine ⟨?_, rfl⟩; apply box_midV (T := 28) (M0 := 0) (A0 := 0) (v0 := .slice none 0 0); (case ho => with_reducible assumption); (case hc => with_reducible assumption); (case hb => repeat' (first | with_reducible exact Below.refl _ _ | with_reducible apply b_alloc | with_reducible apply b_drew | with_reducible apply b_set | (refine @bel_trans _ ?_ _ ?_ ?_; rotate_right; with_reducible assumption))); (case hx => repeat' (first | with_reducible exact Below.refl _ _ | with_reducible apply b_alloc | with_reducible apply b_drew | with_reducible apply b_set | (refine @bel_trans _ ?_ _ ?_ ?_; rotate_right; with_reducible assumption))); done)
        obtain ⟨w8, hw8⟩ : ∃ w8, w8 = wc := ⟨_, rfl⟩
        subst hw8
        obtain ⟨⟨ga, vaA1, vcA1, loA1, hiA1, rfl, ⟨hq0, hq1, hq2⟩, hrow, ⟨hge, hlt⟩, ⟨hlo, hhi⟩, hdj, hb8⟩, rfl⟩ := hcut
        have H8 := bel_trans H7 hb8
        have SZ8 := Lib.hid hb8.size
        have qg0_8 := (hb8.cell (p := ⟨w1.heap.size, 0, none⟩) zg_7).trans qg0_7
        have qg1_8 := (hb8.cell (p := ⟨w1.heap.size, 1, none⟩) zg_7).trans qg1_7
        have zg_8 := Nat.lt_of_lt_of_le zg_7 hb8.size
        have qv0_8 := (hb8.cell (p := ⟨w1.heap.size + 1, 0, none⟩) zv_7).trans qv0_7
        have qv1_8 := (hb8.cell (p := ⟨w1.heap.size + 1, 1, none⟩) zv_7).trans qv1_7
        have qv2_8 := (hb8.cell (p := ⟨w1.heap.size + 1, 2, none⟩) zv_7).trans qv2_7
        have zv_8 := Nat.lt_of_lt_of_le zv_7 hb8.size
        have qx0_8 := (hb8.cell (p := ⟨w3.heap.size, 0, none⟩) zx_7).trans qx0_7
        have qx1_8 := (hb8.cell (p := ⟨w3.heap.size, 1, none⟩) zx_7).trans qx1_7
        have qx2_8 := (hb8.cell (p := ⟨w3.heap.size, 2, none⟩) zx_7).trans qx2_7
        have zx_8 := Nat.lt_of_lt_of_le zx_7 hb8.size
        have qy0_8 := (hb8.cell (p := ⟨w5.heap.size, 0, none⟩) zy_7).trans qy0_7
        have qy1_8 := (hb8.cell (p := ⟨w5.heap.size, 1, none⟩) zy_7).trans qy1_7
        have qy2_8 := (hb8.cell (p := ⟨w5.heap.size, 2, none⟩) zy_7).trans qy2_7
        have zy_8 := Nat.lt_of_lt_of_le zy_7 hb8.size
        have G_8 := Lib.hid (G_7.out.keep hb8)
        have V_8 := Lib.hid (V_7.out.keep hb8)
        have O_8 := Lib.hid (O_7.out.keep hb8)
        have X_8 := Lib.hid (X_7.out.keep hb8)
        have Y_8 := Lib.hid (Y_7.out.keep hb8)
        have qa0_8 := hq0
        have qa1_8 := hq1
        have qa2_8 := hq2
        have za_8 := hlt
        have A1_8 := Lib.hid hrow
        clear hq0 hq1 hq2 hrow hge hlt hlo hhi hdj
        clear qx2_7 O_7 qy2_7 qx0_7 V_7 zy_7 qv2_7 qv1_7 qx1_7 qv0_7 qy1_7 qg1_7 Y_7 zx_7 zv_7 qy0_7 zg_7 G_7 qg0_7 X_7
        go_upto_region 10 with fail
        go_cut [13, 14] from 15 (fun p c wx => BoxInV w8 wx m A L p ∧ c = .bool true)
        · have hold : ∀ w' : World, Below w8.heap.size w8 w' → (w'.cell? ⟨w1.heap.size, 0, none⟩ = some (.int .i64 N) ∧ w'.cell? ⟨w1.heap.size, 1, none⟩ = some (.slice va es.length vc) ∧ w'.cell? ⟨ga, 0, none⟩ = some (.int .i64 m) ∧ w'.cell? ⟨ga, 1, none⟩ = some (.int .i64 A) ∧ w'.cell? ⟨ga, 2, none⟩ = some (.slice vaA1 L1.length vcA1)) := fun w' h => ⟨(h.cell (p := ⟨w1.heap.size, 0, none⟩) zg_8).trans qg0_8, (h.cell (p := ⟨w1.heap.size, 1, none⟩) zg_8).trans qg1_8, (h.cell (p := ⟨ga, 0, none⟩) za_8).trans qa0_8, (h.cell (p := ⟨ga, 1, none⟩) za_8).trans qa1_8, (h.cell (p := ⟨ga, 2, none⟩) za_8).trans qa2_8⟩
          have HOLD := Lib.hid hold
          clear hold
          go_region_held3 (fun w' : World => w'.cell? ⟨w1.heap.size, 0, none⟩ = some (.int .i64 N) ∧ w'.cell? ⟨w1.heap.size, 1, none⟩ = some (.slice va es.length vc) ∧ w'.cell? ⟨ga, 0, none⟩ = some (.int .i64 m) ∧ w'.cell? ⟨ga, 1, none⟩ = some (.int .i64 A) ∧ w'.cell? ⟨ga, 2, none⟩ = some (.slice vaA1 L1.length vcA1)) (exact HOLD.out _ (by repeat' (first | with_reducible exact Below.refl _ _ | with_reducible apply b_alloc | with_reducible apply b_drew | with_reducible apply b_set | (refine @bel_trans _ ?_ _ ?_ ?_; rotate_right; with_reducible assumption)))) (first | (go_at_call 12; (with_reducible refine (HR0B.out _ _ _ _ _ (G_8.out.keep (by repeat' (first | with_reducible exact Below.refl _ _ | with_reducible apply b_alloc | with_reducible apply b_drew | with_reducible apply b_set | (refine @bel_trans _ ?_ _ ?_ ?_; rotate_right; with_reducible assumption)))).edges (A1_8.out.keep (by repeat' (first | with_reducible exact Below.refl _ _ | with_reducible apply b_alloc | with_reducible apply b_drew | with_reducible apply b_set | (refine @bel_trans _ ?_ _ ?_ ?_; rotate_right; with_reducible assumption)))).rowI).mono ?_); rintro e wC ⟨v, rfl, hown, hokv, hbC⟩; obtain ⟨va, vc, rfl⟩ := hown.slice; (try (refine (fun (zz : w8.heap.size < wC.heap.size) => ?_) (Nat.lt_of_lt_of_le ?_ hbC.size); rotate_right; (first | with_reducible assumption | (simp <;> omega)))); (try (refine (fun (cc : wC.cell? ⟨w8.heap.size, 0, none⟩ = some (.int .i64 0)) => ?_) ((hbC.cell (p := ⟨w8.heap.size, 0, none⟩) ?_).trans ?_); rotate_left; (first | with_reducible assumption | (simp <;> omega)); (first | with_reducible assumption | (focus (go_simp; done))))); (try (refine (fun (ff : wC.frozen? ⟨w8.heap.size, 0, none⟩ = false) => ?_) ((hbC.frozen (p := ⟨w8.heap.size, 0, none⟩) ?_).trans ?_); rotate_left; (first | with_reducible assumption | (simp <;> omega)); (first | with_reducible assumption | (focus (go_simp; done))))); (try (refine (fun (cc : wC.cell? ⟨w8.heap.size, 1, none⟩ = some (.int .i64 0)) => ?_) ((hbC.cell (p := ⟨w8.heap.size, 1, none⟩) ?_).trans ?_); rotate_left; (first | with_reducible assumption | (simp <;> omega)); (first | with_reducible assumption | (focus (go_simp; done))))); (try (refine (fun (ff : wC.frozen? ⟨w8.heap.size, 1, none⟩ = false) => ?_) ((hbC.frozen (p := ⟨w8.heap.size, 1, none⟩) ?_).trans ?_); rotate_left; (first | with_reducible assumption | (simp <;> omega)); (first | with_reducible assumption | (focus (go_simp; done))))); (try (refine (fun (cc : wC.cell? ⟨w8.heap.size, 2, none⟩ = some (.slice none 0 0)) => ?_) ((hbC.cell (p := ⟨w8.heap.size, 2, none⟩) ?_).trans ?_); rotate_left; (first | with_reducible assumption | (simp <;> omega)); (first | with_reducible assumption | (focus (go_simp; done))))); (try (refine (fun (ff : wC.frozen? ⟨w8.heap.size, 2, none⟩ = false) => ?_) ((hbC.frozen (p := ⟨w8.heap.size, 2, none⟩) ?_).trans ?_); rotate_left; (first | with_reducible assumption | (simp <;> omega)); (first | with_reducible assumption | (focus (go_simp; done)))))))
          all_goals
            go_wp2_with fail
            go_meet
            first | (refine ⟨?_, rfl⟩; apply box_endV; (case ho => with_reducible assumption); (case hc => with_reducible assumption); (case hb => repeat' (first | with_reducible exact Below.refl _ _ | with_reducible apply b_alloc | with_reducible apply b_drew | with_reducible apply b_set | (refine @bel_trans _ ?_ _ ?_ ?_; rotate_right; with_reducible assumption))); done) | (refine ⟨?_, rfl⟩; apply box_midV (T := 28) (M0 := 0) (A0 := 0) (v0 := .slice none 0 0); (case ho => with_reducible assumption); (case hc => with_reducible assumption); (case hb => repeat' (first | with_reducible exact Below.refl _ _ | with_reducible apply b_alloc | with_reducible apply b_drew | with_reducible apply b_set | (refine @bel_trans _ ?_ _ ?_ ?_; rotate_right; with_reducible assumption))); (case hx => repeat' (first | with_reducible exact Below.refl _ _ | with_reducible apply b_alloc | with_reducible apply b_drew | with_reducible apply b_set | (refine @bel_trans _ ?_ _ ?_ ?_; rotate_right; with_reducible assumption))); done)
        obtain ⟨w9, hw9⟩ : ∃ w9, w9 = wc := ⟨_, rfl⟩
        subst hw9
        obtain ⟨⟨gb, vaB1, vcB1, loB1, hiB1, rfl, ⟨hq0, hq1, hq2⟩, hrow, ⟨hge, hlt⟩, ⟨hlo, hhi⟩, hdj, hb9⟩, rfl⟩ := hcut
        have H9 := bel_trans H8 hb9
        have SZ9 := Lib.hid hb9.size
        have qg0_9 := (hb9.cell (p := ⟨w1.heap.size, 0, none⟩) zg_8).trans qg0_8
        have qg1_9 := (hb9.cell (p := ⟨w1.heap.size, 1, none⟩) zg_8).trans qg1_8
        have zg_9 := Nat.lt_of_lt_of_le zg_8 hb9.size
        have qv0_9 := (hb9.cell (p := ⟨w1.heap.size + 1, 0, none⟩) zv_8).trans qv0_8
        have qv1_9 := (hb9.cell (p := ⟨w1.heap.size + 1, 1, none⟩) zv_8).trans qv1_8
        have qv2_9 := (hb9.cell (p := ⟨w1.heap.size + 1, 2, none⟩) zv_8).trans qv2_8
        have zv_9 := Nat.lt_of_lt_of_le zv_8 hb9.size
        have qx0_9 := (hb9.cell (p := ⟨w3.heap.size, 0, none⟩) zx_8).trans qx0_8
        have qx1_9 := (hb9.cell (p := ⟨w3.heap.size, 1, none⟩) zx_8).trans qx1_8
        have qx2_9 := (hb9.cell (p := ⟨w3.heap.size, 2, none⟩) zx_8).trans qx2_8
        have zx_9 := Nat.lt_of_lt_of_le zx_8 hb9.size
        have qy0_9 := (hb9.cell (p := ⟨w5.heap.size, 0, none⟩) zy_8).trans qy0_8
        have qy1_9 := (hb9.cell (p := ⟨w5.heap.size, 1, none⟩) zy_8).trans qy1_8
        have qy2_9 := (hb9.cell (p := ⟨w5.heap.size, 2, none⟩) zy_8).trans qy2_8
        have zy_9 := Nat.lt_of_lt_of_le zy_8 hb9.size
        have qa0_9 := (hb9.cell (p := ⟨ga, 0, none⟩) za_8).trans qa0_8
        have qa1_9 := (hb9.cell (p := ⟨ga, 1, none⟩) za_8).trans qa1_8
        have qa2_9 := (hb9.cell (p := ⟨ga, 2, none⟩) za_8).trans qa2_8
        have za_9 := Nat.lt_of_lt_of_le za_8 hb9.size
        have G_9 := Lib.hid (G_8.out.keep hb9)
        have V_9 := Lib.hid (V_8.out.keep hb9)
        have O_9 := Lib.hid (O_8.out.keep hb9)
        have X_9 := Lib.hid (X_8.out.keep hb9)
        have Y_9 := Lib.hid (Y_8.out.keep hb9)
        have A1_9 := Lib.hid (A1_8.out.keep hb9)
        have qb0_9 := hq0
        have qb1_9 := hq1
        have qb2_9 := hq2
        have zb_9 := hlt
        have B1_9 := Lib.hid hrow
        clear hq0 hq1 hq2 hrow hge hlt hlo hhi hdj
        clear qg0_8 qg1_8 zg_8 qv0_8 qv1_8 qv2_8 zv_8 qx0_8 qx1_8 qx2_8 zx_8 qy0_8 qy1_8 qy2_8 zy_8 G_8 V_8 O_8 X_8 Y_8 qa0_8 qa1_8 qa2_8 za_8 A1_8
        go_wp2_with fail
        refine (viewSame m A m A L L _ _ _ B1_9.out.rowI X_9.out.rowI (by have := HLL.out; omega) (by have := HLL.out; omega)).mono ?_
        rintro e w10 ⟨hS, hb10⟩
        have H10 := bel_trans H9 hb10
        have SZ10 := Lib.hid hb10.size
        have qg0_10 := (hb10.cell (p := ⟨w1.heap.size, 0, none⟩) zg_9).trans qg0_9
        have qg1_10 := (hb10.cell (p := ⟨w1.heap.size, 1, none⟩) zg_9).trans qg1_9
        have zg_10 := Nat.lt_of_lt_of_le zg_9 hb10.size
        have qv0_10 := (hb10.cell (p := ⟨w1.heap.size + 1, 0, none⟩) zv_9).trans qv0_9
        have qv1_10 := (hb10.cell (p := ⟨w1.heap.size + 1, 1, none⟩) zv_9).trans qv1_9
        have qv2_10 := (hb10.cell (p := ⟨w1.heap.size + 1, 2, none⟩) zv_9).trans qv2_9
        have zv_10 := Nat.lt_of_lt_of_le zv_9 hb10.size
        have qx0_10 := (hb10.cell (p := ⟨w3.heap.size, 0, none⟩) zx_9).trans qx0_9
        have qx1_10 := (hb10.cell (p := ⟨w3.heap.size, 1, none⟩) zx_9).trans qx1_9
        have qx2_10 := (hb10.cell (p := ⟨w3.heap.size, 2, none⟩) zx_9).trans qx2_9
        have zx_10 := Nat.lt_of_lt_of_le zx_9 hb10.size
        have qy0_10 := (hb10.cell (p := ⟨w5.heap.size, 0, none⟩) zy_9).trans qy0_9
        have qy1_10 := (hb10.cell (p := ⟨w5.heap.size, 1, none⟩) zy_9).trans qy1_9
        have qy2_10 := (hb10.cell (p := ⟨w5.heap.size, 2, none⟩) zy_9).trans qy2_9
        have zy_10 := Nat.lt_of_lt_of_le zy_9 hb10.size
        have qa0_10 := (hb10.cell (p := ⟨ga, 0, none⟩) za_9).trans qa0_9
        have qa1_10 := (hb10.cell (p := ⟨ga, 1, none⟩) za_9).trans qa1_9
        have qa2_10 := (hb10.cell (p := ⟨ga, 2, none⟩) za_9).trans qa2_9
        have za_10 := Nat.lt_of_lt_of_le za_9 hb10.size
        have qb0_10 := (hb10.cell (p := ⟨gb, 0, none⟩) zb_9).trans qb0_9
        have qb1_10 := (hb10.cell (p := ⟨gb, 1, none⟩) zb_9).trans qb1_9
        have qb2_10 := (hb10.cell (p := ⟨gb, 2, none⟩) zb_9).trans qb2_9
        have zb_10 := Nat.lt_of_lt_of_le zb_9 hb10.size
        have G_10 := Lib.hid (G_9.out.keep hb10)
        have V_10 := Lib.hid (V_9.out.keep hb10)
        have O_10 := Lib.hid (O_9.out.keep hb10)
        have X_10 := Lib.hid (X_9.out.keep hb10)
        have Y_10 := Lib.hid (Y_9.out.keep hb10)
        have A1_10 := Lib.hid (A1_9.out.keep hb10)
        have B1_10 := Lib.hid (B1_9.out.keep hb10)
        rw [vSame_self] at hS
        subst hS
        clear qg0_9 qg1_9 zg_9 qv0_9 qv1_9 qv2_9 zv_9 qx0_9 qx1_9 qx2_9 zx_9 qy0_9 qy1_9 qy2_9 zy_9 qa0_9 qa1_9 qa2_9 za_9 G_9 V_9 O_9 X_9 Y_9 A1_9 qb0_9 qb1_9 qb2_9 zb_9 B1_9
        go_wp2
        go_ret
        exact ⟨rfl, H10⟩
    obtain ⟨_, _, hva9, hz9⟩ := id O_7.out
    injection hva9 with hv1 hv2 hv3
    subst hv1
    clear hv2 hv3
    rcases hz9 with hz9 | ⟨bo, oo, rfl, hr1, hr2, hr3, hrc⟩
    · exact absurd hz9 hz0
    clear hr1 hr2 hr3 hrc
    have hcc : (c : Int) ≤ oc := by omega
    have hcn : ¬ oc = c := by have := HC.out; omega
    have hcz : ¬ oc = 0 := by omega
    have hcl' : (c : Int) ≤ os.length := by omega
    have hcd := HCD.out
    have hct := HCT.out
    go_upto_region 9 with fail
    go_cut [11, 12] from 15 (fun p c wx => BoxInV w7 wx m A L1 p ∧ c = .bool true)
    · have hold : ∀ w' : World, Below w7.heap.size w7 w' → (w'.cell? ⟨w1.heap.size, 0, none⟩ = some (.int .i64 N) ∧ w'.cell? ⟨w1.heap.size, 1, none⟩ = some (.slice va es.length vc) ∧ w'.cell? ⟨w1.heap.size + 1, 0, none⟩ = some (.int .i64 m) ∧ w'.cell? ⟨w1.heap.size + 1, 1, none⟩ = some (.int .i64 A) ∧ w'.cell? ⟨w1.heap.size + 1, 2, none⟩ = some (.slice vb zs.length vd)) := fun w' h => ⟨(h.cell (p := ⟨w1.heap.size, 0, none⟩) zg_7).trans qg0_7, (h.cell (p := ⟨w1.heap.size, 1, none⟩) zg_7).trans qg1_7, (h.cell (p := ⟨w1.heap.size + 1, 0, none⟩) zv_7).trans qv0_7, (h.cell (p := ⟨w1.heap.size + 1, 1, none⟩) zv_7).trans qv1_7, (h.cell (p := ⟨w1.heap.size + 1, 2, none⟩) zv_7).trans qv2_7⟩
      have HOLD := Lib.hid hold
      clear hold
      go_region_held3 (fun w' : World => w'.cell? ⟨w1.heap.size, 0, none⟩ = some (.int .i64 N) ∧ w'.cell? ⟨w1.heap.size, 1, none⟩ = some (.slice va es.length vc) ∧ w'.cell? ⟨w1.heap.size + 1, 0, none⟩ = some (.int .i64 m) ∧ w'.cell? ⟨w1.heap.size + 1, 1, none⟩ = some (.int .i64 A) ∧ w'.cell? ⟨w1.heap.size + 1, 2, none⟩ = some (.slice vb zs.length vd)) (exact HOLD.out _ (by repeat' (first | with_reducible exact Below.refl _ _ | with_reducible apply b_alloc | with_reducible apply b_drew | with_reducible apply b_set | (refine @bel_trans _ ?_ _ ?_ ?_; rotate_right; with_reducible assumption)))) (first | (go_at_call 12; (with_reducible refine (HRA.out _ _ _ _ (G_7.out.keep (by repeat' (first | with_reducible exact Below.refl _ _ | with_reducible apply b_alloc | with_reducible apply b_drew | with_reducible apply b_set | (refine @bel_trans _ ?_ _ ?_ ?_; rotate_right; with_reducible assumption)))).edges (V_7.out.keep (by repeat' (first | with_reducible exact Below.refl _ _ | with_reducible apply b_alloc | with_reducible apply b_drew | with_reducible apply b_set | (refine @bel_trans _ ?_ _ ?_ ?_; rotate_right; with_reducible assumption)))).rowI (row_preP ((O_7.out.keep (by repeat' (first | with_reducible exact Below.refl _ _ | with_reducible apply b_alloc | with_reducible apply b_drew | with_reducible apply b_set | (refine @bel_trans _ ?_ _ ?_ ?_; rotate_right; with_reducible assumption)))).ints) (by omega))).mono ?_); rintro e wC ⟨v, rfl, hown, hokv, hbC⟩; obtain ⟨va, vc, rfl⟩ := hown.slice; (try (refine (fun (zz : w7.heap.size < wC.heap.size) => ?_) (Nat.lt_of_lt_of_le ?_ hbC.size); rotate_right; (first | with_reducible assumption | (simp <;> omega)))); (try (refine (fun (cc : wC.cell? ⟨w7.heap.size, 0, none⟩ = some (.int .i64 0)) => ?_) ((hbC.cell (p := ⟨w7.heap.size, 0, none⟩) ?_).trans ?_); rotate_left; (first | with_reducible assumption | (simp <;> omega)); (first | with_reducible assumption | (focus (go_simp; done))))); (try (refine (fun (ff : wC.frozen? ⟨w7.heap.size, 0, none⟩ = false) => ?_) ((hbC.frozen (p := ⟨w7.heap.size, 0, none⟩) ?_).trans ?_); rotate_left; (first | with_reducible assumption | (simp <;> omega)); (first | with_reducible assumption | (focus (go_simp; done))))); (try (refine (fun (cc : wC.cell? ⟨w7.heap.size, 1, none⟩ = some (.int .i64 0)) => ?_) ((hbC.cell (p := ⟨w7.heap.size, 1, none⟩) ?_).trans ?_); rotate_left; (first | with_reducible assumption | (simp <;> omega)); (first | with_reducible assumption | (focus (go_simp; done))))); (try (refine (fun (ff : wC.frozen? ⟨w7.heap.size, 1, none⟩ = false) => ?_) ((hbC.frozen (p := ⟨w7.heap.size, 1, none⟩) ?_).trans ?_); rotate_left; (first | with_reducible assumption | (simp <;> omega)); (first | with_reducible assumption | (focus (go_simp; done))))); (try (refine (fun (cc : wC.cell? ⟨w7.heap.size, 2, none⟩ = some (.slice none 0 0)) => ?_) ((hbC.cell (p := ⟨w7.heap.size, 2, none⟩) ?_).trans ?_); rotate_left; (first | with_reducible assumption | (simp <;> omega)); (first | with_reducible assumption | (focus (go_simp; done))))); (try (refine (fun (ff : wC.frozen? ⟨w7.heap.size, 2, none⟩ = false) => ?_) ((hbC.frozen (p := ⟨w7.heap.size, 2, none⟩) ?_).trans ?_); rotate_left; (first | with_reducible assumption | (simp <;> omega)); (first | with_reducible assumption | (focus (go_simp; done)))))))
      all_goals
        go_wp2_with fail
        go_meet
        first | (refine ⟨?_, rfl⟩; apply box_endV; (case ho => with_reducible assumption); (case hc => with_reducible assumption); (case hb => repeat' (first | with_reducible exact Below.refl _ _ | with_reducible apply b_alloc | with_reducible apply b_drew | with_reducible apply b_set | (refine @bel_trans _ ?_ _ ?_ ?_; rotate_right; with_reducible assumption))); done) | (refine ⟨?_, rfl⟩; apply box_midV (T := 28) (M0 := 0) (A0 := 0) (v0 := .slice none 0 0); (case ho => with_reducible assumption); (case hc => with_reducible assumption); (case hb => repeat' (first | with_reducible exact Below.refl _ _ | with_reducible apply b_alloc | with_reducible apply b_drew | with_reducible apply b_set | (refine @bel_trans _ ?_ _ ?_ ?_; rotate_right; with_reducible assumption))); (case hx => repeat' (first | with_reducible exact Below.refl _ _ | with_reducible apply b_alloc | with_reducible apply b_drew | with_reducible apply b_set | (refine @bel_trans _ ?_ _ ?_ ?_; rotate_right; with_reducible assumption))); done)
    obtain ⟨w8, hw8⟩ : ∃ w8, w8 = wc := ⟨_, rfl⟩
    subst hw8
    obtain ⟨⟨ga, vaA1, vcA1, loA1, hiA1, rfl, ⟨hq0, hq1, hq2⟩, hrow, ⟨hge, hlt⟩, ⟨hlo, hhi⟩, hdj, hb8⟩, rfl⟩ := hcut
    have H8 := bel_trans H7 hb8
    have SZ8 := Lib.hid hb8.size
    have qg0_8 := (hb8.cell (p := ⟨w1.heap.size, 0, none⟩) zg_7).trans qg0_7
    have qg1_8 := (hb8.cell (p := ⟨w1.heap.size, 1, none⟩) zg_7).trans qg1_7
    have zg_8 := Nat.lt_of_lt_of_le zg_7 hb8.size
    have qv0_8 := (hb8.cell (p := ⟨w1.heap.size + 1, 0, none⟩) zv_7).trans qv0_7
    have qv1_8 := (hb8.cell (p := ⟨w1.heap.size + 1, 1, none⟩) zv_7).trans qv1_7
    have qv2_8 := (hb8.cell (p := ⟨w1.heap.size + 1, 2, none⟩) zv_7).trans qv2_7
    have zv_8 := Nat.lt_of_lt_of_le zv_7 hb8.size
    have qx0_8 := (hb8.cell (p := ⟨w3.heap.size, 0, none⟩) zx_7).trans qx0_7
    have qx1_8 := (hb8.cell (p := ⟨w3.heap.size, 1, none⟩) zx_7).trans qx1_7
    have qx2_8 := (hb8.cell (p := ⟨w3.heap.size, 2, none⟩) zx_7).trans qx2_7
    have zx_8 := Nat.lt_of_lt_of_le zx_7 hb8.size
    have qy0_8 := (hb8.cell (p := ⟨w5.heap.size, 0, none⟩) zy_7).trans qy0_7
    have qy1_8 := (hb8.cell (p := ⟨w5.heap.size, 1, none⟩) zy_7).trans qy1_7
    have qy2_8 := (hb8.cell (p := ⟨w5.heap.size, 2, none⟩) zy_7).trans qy2_7
    have zy_8 := Nat.lt_of_lt_of_le zy_7 hb8.size
    have G_8 := Lib.hid (G_7.out.keep hb8)
    have V_8 := Lib.hid (V_7.out.keep hb8)
    have O_8 := Lib.hid (O_7.out.keep hb8)
    have X_8 := Lib.hid (X_7.out.keep hb8)
    have Y_8 := Lib.hid (Y_7.out.keep hb8)
    have qa0_8 := hq0
    have qa1_8 := hq1
    have qa2_8 := hq2
    have za_8 := hlt
    have A1_8 := Lib.hid hrow
    clear hq0 hq1 hq2 hrow hge hlt hlo hhi hdj
    clear qx2_7 O_7 qy2_7 qx0_7 V_7 zy_7 qv2_7 qv1_7 qx1_7 qv0_7 qy1_7 qg1_7 Y_7 zx_7 zv_7 qy0_7 zg_7 G_7 qg0_7 X_7
    go_upto_region 10 with fail
    go_cut [13, 14] from 15 (fun p c wx => BoxInV w8 wx m A L p ∧ c = .bool true)
    · have hold : ∀ w' : World, Below w8.heap.size w8 w' → (w'.cell? ⟨w1.heap.size, 0, none⟩ = some (.int .i64 N) ∧ w'.cell? ⟨w1.heap.size, 1, none⟩ = some (.slice va es.length vc) ∧ w'.cell? ⟨ga, 0, none⟩ = some (.int .i64 m) ∧ w'.cell? ⟨ga, 1, none⟩ = some (.int .i64 A) ∧ w'.cell? ⟨ga, 2, none⟩ = some (.slice vaA1 L1.length vcA1)) := fun w' h => ⟨(h.cell (p := ⟨w1.heap.size, 0, none⟩) zg_8).trans qg0_8, (h.cell (p := ⟨w1.heap.size, 1, none⟩) zg_8).trans qg1_8, (h.cell (p := ⟨ga, 0, none⟩) za_8).trans qa0_8, (h.cell (p := ⟨ga, 1, none⟩) za_8).trans qa1_8, (h.cell (p := ⟨ga, 2, none⟩) za_8).trans qa2_8⟩
      have HOLD := Lib.hid hold
      clear hold
      go_region_held3 (fun w' : World => w'.cell? ⟨w1.heap.size, 0, none⟩ = some (.int .i64 N) ∧ w'.cell? ⟨w1.heap.size, 1, none⟩ = some (.slice va es.length vc) ∧ w'.cell? ⟨ga, 0, none⟩ = some (.int .i64 m) ∧ w'.cell? ⟨ga, 1, none⟩ = some (.int .i64 A) ∧ w'.cell? ⟨ga, 2, none⟩ = some (.slice vaA1 L1.length vcA1)) (exact HOLD.out _ (by repeat' (first | with_reducible exact Below.refl _ _ | with_reducible apply b_alloc | with_reducible apply b_drew | with_reducible apply b_set | (refine @bel_trans _ ?_ _ ?_ ?_; rotate_right; with_reducible assumption)))) (first | (go_at_call 12; (with_reducible refine (HRB.out _ _ _ _ (G_8.out.keep (by repeat' (first | with_reducible exact Below.refl _ _ | with_reducible apply b_alloc | with_reducible apply b_drew | with_reducible apply b_set | (refine @bel_trans _ ?_ _ ?_ ?_; rotate_right; with_reducible assumption)))).edges (A1_8.out.keep (by repeat' (first | with_reducible exact Below.refl _ _ | with_reducible apply b_alloc | with_reducible apply b_drew | with_reducible apply b_set | (refine @bel_trans _ ?_ _ ?_ ?_; rotate_right; with_reducible assumption)))).rowI (row_sufP ((O_8.out.keep (by repeat' (first | with_reducible exact Below.refl _ _ | with_reducible apply b_alloc | with_reducible apply b_drew | with_reducible apply b_set | (refine @bel_trans _ ?_ _ ?_ ?_; rotate_right; with_reducible assumption)))).ints) (by omega) (by omega))).mono ?_); rintro e wC ⟨v, rfl, hown, hokv, hbC⟩; obtain ⟨va, vc, rfl⟩ := hown.slice; (try (refine (fun (zz : w8.heap.size < wC.heap.size) => ?_) (Nat.lt_of_lt_of_le ?_ hbC.size); rotate_right; (first | with_reducible assumption | (simp <;> omega)))); (try (refine (fun (cc : wC.cell? ⟨w8.heap.size, 0, none⟩ = some (.int .i64 0)) => ?_) ((hbC.cell (p := ⟨w8.heap.size, 0, none⟩) ?_).trans ?_); rotate_left; (first | with_reducible assumption | (simp <;> omega)); (first | with_reducible assumption | (focus (go_simp; done))))); (try (refine (fun (ff : wC.frozen? ⟨w8.heap.size, 0, none⟩ = false) => ?_) ((hbC.frozen (p := ⟨w8.heap.size, 0, none⟩) ?_).trans ?_); rotate_left; (first | with_reducible assumption | (simp <;> omega)); (first | with_reducible assumption | (focus (go_simp; done))))); (try (refine (fun (cc : wC.cell? ⟨w8.heap.size, 1, none⟩ = some (.int .i64 0)) => ?_) ((hbC.cell (p := ⟨w8.heap.size, 1, none⟩) ?_).trans ?_); rotate_left; (first | with_reducible assumption | (simp <;> omega)); (first | with_reducible assumption | (focus (go_simp; done))))); (try (refine (fun (ff : wC.frozen? ⟨w8.heap.size, 1, none⟩ = false) => ?_) ((hbC.frozen (p := ⟨w8.heap.size, 1, none⟩) ?_).trans ?_); rotate_left; (first | with_reducible assumption | (simp <;> omega)); (first | with_reducible assumption | (focus (go_simp; done))))); (try (refine (fun (cc : wC.cell? ⟨w8.heap.size, 2, none⟩ = some (.slice none 0 0)) => ?_) ((hbC.cell (p := ⟨w8.heap.size, 2, none⟩) ?_).trans ?_); rotate_left; (first | with_reducible assumption | (simp <;> omega)); (first | with_reducible assumption | (focus (go_simp; done))))); (try (refine (fun (ff : wC.frozen? ⟨w8.heap.size, 2, none⟩ = false) => ?_) ((hbC.frozen (p := ⟨w8.heap.size, 2, none⟩) ?_).trans ?_); rotate_left; (first | with_reducible assumption | (simp <;> omega)); (first | with_reducible assumption | (focus (go_simp; done)))))))
      all_goals
        go_wp2_with fail
        go_meet
        first | (refine ⟨?_, rfl⟩; apply box_endV; (case ho => with_reducible assumption); (case hc => with_reducible assumption); (case hb => repeat' (first | with_reducible exact Below.refl _ _ | with_reducible apply b_alloc | with_reducible apply b_drew | with_reducible apply b_set | (refine @bel_trans _ ?_ _ ?_ ?_; rotate_right; with_reducible assumption))); done) | (refine ⟨?_, rfl⟩; apply box_midV (T := 28) (M0 := 0) (A0 := 0) (v0 := .slice none 0 0); (case ho => with_reducible assumption); (case hc => with_reducible assumption); (case hb => repeat' (first | with_reducible exact Below.refl _ _ | with_reducible apply b_alloc | with_reducible apply b_drew | with_reducible apply b_set | (refine @bel_trans _ ?_ _ ?_ ?_; rotate_right; with_reducible assumption))); (case hx => repeat' (first | with_reducible exact Below.refl _ _ | with_reducible apply b_alloc | with_reducible apply b_drew | with_reducible apply b_set | (refine @bel_trans _ ?_ _ ?_ ?_; rotate_right; with_reducible assumption))); done)
    obtain ⟨w9, hw9⟩ : ∃ w9, w9 = wc := ⟨_, rfl⟩
    subst hw9
    obtain ⟨⟨gb, vaB1, vcB1, loB1, hiB1, rfl, ⟨hq0, hq1, hq2⟩, hrow, ⟨hge, hlt⟩, ⟨hlo, hhi⟩, hdj, hb9⟩, rfl⟩ := hcut
    have H9 := bel_trans H8 hb9
    have SZ9 := Lib.hid hb9.size
    have qg0_9 := (hb9.cell (p := ⟨w1.heap.size, 0, none⟩) zg_8).trans qg0_8
    have qg1_9 := (hb9.cell (p := ⟨w1.heap.size, 1, none⟩) zg_8).trans qg1_8
    have zg_9 := Nat.lt_of_lt_of_le zg_8 hb9.size
    have qv0_9 := (hb9.cell (p := ⟨w1.heap.size + 1, 0, none⟩) zv_8).trans qv0_8
    have qv1_9 := (hb9.cell (p := ⟨w1.heap.size + 1, 1, none⟩) zv_8).trans qv1_8
    have qv2_9 := (hb9.cell (p := ⟨w1.heap.size + 1, 2, none⟩) zv_8).trans qv2_8
    have zv_9 := Nat.lt_of_lt_of_le zv_8 hb9.size
    have qx0_9 := (hb9.cell (p := ⟨w3.heap.size, 0, none⟩) zx_8).trans qx0_8
    have qx1_9 := (hb9.cell (p := ⟨w3.heap.size, 1, none⟩) zx_8).trans qx1_8
    have qx2_9 := (hb9.cell (p := ⟨w3.heap.size, 2, none⟩) zx_8).trans qx2_8
    have zx_9 := Nat.lt_of_lt_of_le zx_8 hb9.size
    have qy0_9 := (hb9.cell (p := ⟨w5.heap.size, 0, none⟩) zy_8).trans qy0_8
    have qy1_9 := (hb9.cell (p := ⟨w5.heap.size, 1, none⟩) zy_8).trans qy1_8
    have qy2_9 := (hb9.cell (p := ⟨w5.heap.size, 2, none⟩) zy_8).trans qy2_8
    have zy_9 := Nat.lt_of_lt_of_le zy_8 hb9.size
    have qa0_9 := (hb9.cell (p := ⟨ga, 0, none⟩) za_8).trans qa0_8
    have qa1_9 := (hb9.cell (p := ⟨ga, 1, none⟩) za_8).trans qa1_8
    have qa2_9 := (hb9.cell (p := ⟨ga, 2, none⟩) za_8).trans qa2_8
    have za_9 := Nat.lt_of_lt_of_le za_8 hb9.size
    have G_9 := Lib.hid (G_8.out.keep hb9)
    have V_9 := Lib.hid (V_8.out.keep hb9)
    have O_9 := Lib.hid (O_8.out.keep hb9)
    have X_9 := Lib.hid (X_8.out.keep hb9)
    have Y_9 := Lib.hid (Y_8.out.keep hb9)
    have A1_9 := Lib.hid (A1_8.out.keep hb9)
    have qb0_9 := hq0
    have qb1_9 := hq1
    have qb2_9 := hq2
    have zb_9 := hlt
    have B1_9 := Lib.hid hrow
    clear hq0 hq1 hq2 hrow hge hlt hlo hhi hdj
    clear qg0_8 qg1_8 zg_8 qv0_8 qv1_8 qv2_8 zv_8 qx0_8 qx1_8 qx2_8 zx_8 qy0_8 qy1_8 qy2_8 zy_8 G_8 V_8 O_8 X_8 Y_8 qa0_8 qa1_8 qa2_8 za_8 A1_8
    go_wp2_with fail
    refine (viewSame m A m A L L _ _ _ B1_9.out.rowI X_9.out.rowI (by have := HLL.out; omega) (by have := HLL.out; omega)).mono ?_
    rintro e w10 ⟨hS, hb10⟩
    have H10 := bel_trans H9 hb10
    have SZ10 := Lib.hid hb10.size
    have qg0_10 := (hb10.cell (p := ⟨w1.heap.size, 0, none⟩) zg_9).trans qg0_9
    have qg1_10 := (hb10.cell (p := ⟨w1.heap.size, 1, none⟩) zg_9).trans qg1_9
    have zg_10 := Nat.lt_of_lt_of_le zg_9 hb10.size
    have qv0_10 := (hb10.cell (p := ⟨w1.heap.size + 1, 0, none⟩) zv_9).trans qv0_9
    have qv1_10 := (hb10.cell (p := ⟨w1.heap.size + 1, 1, none⟩) zv_9).trans qv1_9
    have qv2_10 := (hb10.cell (p := ⟨w1.heap.size + 1, 2, none⟩) zv_9).trans qv2_9
    have zv_10 := Nat.lt_of_lt_of_le zv_9 hb10.size
    have qx0_10 := (hb10.cell (p := ⟨w3.heap.size, 0, none⟩) zx_9).trans qx0_9
    have qx1_10 := (hb10.cell (p := ⟨w3.heap.size, 1, none⟩) zx_9).trans qx1_9
    have qx2_10 := (hb10.cell (p := ⟨w3.heap.size, 2, none⟩) zx_9).trans qx2_9
    have zx_10 := Nat.lt_of_lt_of_le zx_9 hb10.size
    have qy0_10 := (hb10.cell (p := ⟨w5.heap.size, 0, none⟩) zy_9).trans qy0_9
    have qy1_10 := (hb10.cell (p := ⟨w5.heap.size, 1, none⟩) zy_9).trans qy1_9
    have qy2_10 := (hb10.cell (p := ⟨w5.heap.size, 2, none⟩) zy_9).trans qy2_9
    have zy_10 := Nat.lt_of_lt_of_le zy_9 hb10.size
    have qa0_10 := (hb10.cell (p := ⟨ga, 0, none⟩) za_9).trans qa0_9
    have qa1_10 := (hb10.cell (p := ⟨ga, 1, none⟩) za_9).trans qa1_9
    have qa2_10 := (hb10.cell (p := ⟨ga, 2, none⟩) za_9).trans qa2_9
    have za_10 := Nat.lt_of_lt_of_le za_9 hb10.size
    have qb0_10 := (hb10.cell (p := ⟨gb, 0, none⟩) zb_9).trans qb0_9
    have qb1_10 := (hb10.cell (p := ⟨gb, 1, none⟩) zb_9).trans qb1_9
    have qb2_10 := (hb10.cell (p := ⟨gb, 2, none⟩) zb_9).trans qb2_9
    have zb_10 := Nat.lt_of_lt_of_le zb_9 hb10.size
    have G_10 := Lib.hid (G_9.out.keep hb10)
    have V_10 := Lib.hid (V_9.out.keep hb10)
    have O_10 := Lib.hid (O_9.out.keep hb10)
    have X_10 := Lib.hid (X_9.out.keep hb10)
    have Y_10 := Lib.hid (Y_9.out.keep hb10)
    have A1_10 := Lib.hid (A1_9.out.keep hb10)
    have B1_10 := Lib.hid (B1_9.out.keep hb10)
    rw [vSame_self] at hS
    subst hS
    clear qg0_9 qg1_9 zg_9 qv0_9 qv1_9 qv2_9 zv_9 qx0_9 qx1_9 qx2_9 zx_9 qy0_9 qy1_9 qy2_9 zy_9 qa0_9 qa1_9 qa2_9 za_9 G_9 V_9 O_9 X_9 Y_9 A1_9 qb0_9 qb1_9 qb2_9 zb_9 B1_9
    go_wp2
    go_ret
    exact ⟨rfl, H10⟩

set_option maxRecDepth 100000 in
theorem lifted (os : Os) (started : os.Started) (H : Type) (enc : TypeId × Value → H) :
    ReturnsInHanded {} Try.checked os 3 .any (Rows.fnSchedulePartsSpec.pre6 enc Try.prog Try.f3 Rows.fnSchedulePartsRow.domain false) (Rows.fnSchedulePartsSpec.post enc Try.prog Try.f3 false true false false) := by
  refine returnsInHanded_of_change (C := Try.checked) own started (by kernel_rfl) Try.func3
    (ChangeSpec.witness6 (enc := enc) (C := Try.checked) false ⟨#[], #[.slice none 0 0], []⟩ 8 (by kernel_rfl) (by kernel_rfl) (by kernel_rfl) (by kernel_rfl)) ?_
  intro W base args ds gs before hval0 hW hcnd _
  have hval : ∀ (j : Nat) t v, Try.f3.params[j]? = some t → args[j]? = some v → Value.okWide Try.prog W .any base t v := hval0
  have hW' := hW
  obtain ⟨p, q, hA0, hV, rfl, hfz, hnd⟩ := hW
  have hA : DataW.TrodAll enc Try.prog W 0 (fun _ => true) true Try.f3.params.toList args.toList ds p := hA0
  rw [Try.params3] at hA hval
  obtain ⟨v0, vs0, d0, ds0, p0, q0, hargs, rfl, rfl, h0, r0⟩ := trodAll_cons hA
  obtain ⟨rfl, rfl, rfl⟩ := trodAll_nil r0
  obtain rfl : args = #[v0] := by cases args; simp_all
  obtain ⟨rfl, rfl⟩ := trodVars_none hV
  obtain ⟨a0, len0, cap0, rfl⟩ := okWide_slice Try.underlying22 (hval 0 22 v0 rfl rfl)
  have k0 := h0
  have lt0 : ∀ x ∈ p0, x.block < W.heap.size := by obtain ⟨m, hm⟩ := k0; exact DataW.trod_lt m _ _ _ hm
  obtain ⟨z0, w0⟩ : ∃ zs, IsRow .u8 W a0 len0 cap0 zs := by
    obtain ⟨fuel, hf⟩ := h0
    rcases open_ints Try.underlying22 Try.underlying5 (by kernel_rfl) hf with ⟨hcs, _⟩ | ⟨x, l, c, zs, hcs, _, hl, hm, hz, _, hcell, hwz⟩
    · simp [Value.cells] at hcs
      obtain ⟨rfl, rfl, rfl⟩ := hcs
      exact ⟨[], .inl ⟨rfl, rfl, rfl, rfl⟩⟩
    · simp [Value.cells] at hcs
      obtain ⟨rfl, rfl, rfl⟩ := hcs
      exact ⟨zs, .inr ⟨_, rfl, hl, hm, by simpa using hz, hcell, hwz⟩⟩
  clear hA0 hval0
  refine (walk a0 len0 cap0 z0 W w0).mono fun e W' ⟨he, bel⟩ => ?_
  subst he
  exact ⟨_, rfl, _, _, _, [], _, [], hW', trodAll_mk1 (shut_bool Try.underlying4 _), (trodAll_cons_mk (Below.trod laidOut (by kernel_rfl) (of_decide_eq_true (by kernel_rfl)) k0 bel lt0) trodAll_mk0), rfl, bel.frame _, fun h => by cases h⟩

theorem over : Rows.fnSchedulePartsRow.holds Try.pinned (OpenSpec.ofChange Rows.fnSchedulePartsSpec) :=
  OpenClaim.holds_of_wide 3 Try.f3 rfl rfl rfl rfl rfl rfl rfl ⟨rfl, rfl, rfl, rfl, rfl⟩ rfl rfl rfl rfl rfl (by kernel_rfl) Try.func3 (by kernel_rfl)
    (of_decide_eq_true (by kernel_rfl)) (by unfold Func.isWrapper; first | (rw [if_pos (by decide +kernel)]; kernel_rfl) | (rw [if_neg (by decide +kernel)]; exact ⟨rfl, rfl⟩))
    (fun os started H enc _ => lifted os started H enc)

theorem proved : Rows.FnSchedulePartsSaid := over
end Go.Proofs.Ytflcnlepbllelaa.fnScheduleParts
