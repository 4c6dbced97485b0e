/-
  Proved: with an edge more no right value is worse (the law FnViewMore returns true for every input and leaves it as it was), with no further condition.
-/
import Derived.Test.YtaoecegnjhbagaaRows
import Derived.Test.YtaoecegnjhbagaaDraws2
import Derived.Test.YtaoecegnjhbagaaDraws3
import Derived.Test.YtaoecegnjhbagaaViewT
import Derived.Test.YtaoecegnjhbagaaImpl2
import Derived.Test.YtaoecegnjhbagaaBestV
import Derived.Test.YtaoecegnjhbagaaEdgeM
import Derived.Test.YtaoecegnjhbagaaPutM
import Derived.Test.YtaoecegnjhbagaaFind3
import Derived.Test.YtaoecegnjhbagaaStartL
import Derived.Test.YtaoecegnjhbagaaMeetV
import Derived.WalkKit
import Derived.ProofKit
import Derived.OpenShut
import Derived.ShutString
import Derived.ChangeOld
import Derived.Below
namespace Go.Proofs.Ytaoecegnjhbagaa.fnViewMore
open Go.Proofs.Ytaoecegnjhbagaa Go.BigFrame
open Go.ChangeShapes Go.WideShapes Go.ChangeAt Go.RowKit
open Go.ChangeMaps (open_string shut_string)
set_option linter.unusedVariables false

theorem own : ownKnob Try.prog.godebug = none := by kernel_rfl
theorem laidOut : laidOutB Try.prog = true := by kernel_rfl

def IsRow (k : IntKind) (w : World) (a : Option Addr) (len cap : Nat) (zs : List Int) : Prop :=
  (a = none ∧ len = 0 ∧ cap = 0 ∧ zs = []) ∨
  ∃ x, a = some x ∧ len ≤ cap ∧ cap ≤ maxLen ∧ zs.length = cap ∧ (∀ i, i < zs.length → w.cell? (x.add i) = some (.int k (zs.getD i 0))) ∧ ∀ n ∈ zs, (Lit.int k n).wf = true

theorem bytes_of {w : World} {a : Option Addr} {len cap : Nat} {zs : List Int} (h : IsRow .u8 w a len cap zs) : Bytes w a len ∧ len ≤ cap ∧ len ≤ 9223372036854775807 := by
  rcases h with ⟨rfl, rfl, rfl, rfl⟩ | ⟨x, rfl, hl, hm, hz, hc, hw⟩
  · exact ⟨.inl rfl, Nat.le_refl _, by omega⟩
  · unfold maxLen at hm
    refine ⟨?_, hl, by omega⟩
    by_cases h0 : len = 0
    · exact .inl h0
    · obtain ⟨b, off, rfl, hc'⟩ := ints_at hc (by omega)
      exact .inr ⟨b, off, rfl, World.block_lt_of_cell? _ _ (hc' 0 (by omega)), fun i hi => ⟨zs[i]?.getD 0, (range_u8 hw i).1, (range_u8 hw i).2, hc' i (by omega)⟩⟩

set_option maxRecDepth 100000 in
set_option maxHeartbeats 4000000 in
theorem walk (a0 : Option Addr) (len0 cap0 : Nat) (z0 : List Int) (a1 : Option Addr) (len1 cap1 : Nat) (z1 : List Int) (w : World) (w0 : IsRow .u8 w a0 len0 cap0 z0) (w1 : IsRow .u8 w a1 len1 cap1 z1) :
    Calls Try.prog 7 #[.slice a0 len0 cap0, .slice a1 len1 cap1] w fun e w' => e = .returned (.bool true) ∧ Below w.heap.size w w' := by
  obtain ⟨hby, hcp, hn⟩ := bytes_of w0
  obtain ⟨hby1, hcp1, hn1⟩ := bytes_of w1
  have HB0 := Lib.hid hby
  have HB1 := Lib.hid hby1
  clear hby hby1 w0 w1
  by_cases h0 : 1048576 < len0
  · go_enter Try.func7, Try.ntmps7
    go_wp2
    go_ret
    exact ⟨rfl, Below.refl _ _⟩
  have h0' : len0 ≤ 1048576 := by omega
  clear h0
  by_cases h1 : 1048576 < len1
  · go_enter Try.func7, Try.ntmps7
    go_wp2
    go_ret
    exact ⟨rfl, Below.refl _ _⟩
  have h1' : len1 ≤ 1048576 := by omega
  clear h1
  obtain ⟨w0, hw0⟩ : ∃ w0, w0 = w := ⟨_, rfl⟩
  subst hw0
  have H0 := Below.refl w0.heap.size w0
  go_enter Try.func7, Try.ntmps7
  go_wp2_with fail
  refine (dDrawViewOf a0 len0 cap0 _ HB0.out hcp (by omega)).mono ?_
  rintro e w1 ⟨n, es, v, m, src, rfl, hle, hrow, hok, hb1⟩
  have H1 := bel_trans H0 hb1
  have SZ1 := Lib.hid hb1.size
  obtain ⟨va, vc, rfl, hz9⟩ := id hrow
  have HOKG := Lib.hid hok
  clear hz9 hok
  have G_1 := Lib.hid (hrow)
  clear hrow
  go_wp2_with fail
  have hb2 : Below w1.heap.size w1 (w1.alloc (.cells #[.int .i64 n, .slice va es.length vc] 25)) := (Below.refl _ _).alloc (by simp <;> omega) _
  have H2 := bel_trans H1 hb2
  have SZ2 := Lib.hid hb2.size
  have G_2 := Lib.hid (G_1.out.keep hb2)
  have qg0_2 : (w1.alloc (.cells #[.int .i64 n, .slice va es.length vc] 25)).cell? ⟨w1.heap.size, 0, none⟩ = some (.int .i64 n) := by go_simp
  have qg1_2 : (w1.alloc (.cells #[.int .i64 n, .slice va es.length vc] 25)).cell? ⟨w1.heap.size, 1, none⟩ = some (.slice va es.length vc) := by go_simp
  have zg_2 : w1.heap.size < (w1.alloc (.cells #[.int .i64 n, .slice va es.length vc] 25)).heap.size := by simp <;> omega
  generalize (w1.alloc (.cells #[.int .i64 n, .slice va es.length vc] 25)) = w2 at hb2 H2 SZ2 G_2 qg0_2 qg1_2 zg_2 ⊢
  have ZBg := Lib.hid zg_2
  clear G_1
  have hle2 : es.length ≤ 1048576 := by omega
  have hle3 : es.length ≤ 281474976710656 := by omega
  have hst := fun s w (h : RowE w s es) => viewOf n m src es s w h hle3
  have hss := fun s w (h : RowE w s es) => sViewOf n m src es s w h hle3
  cases hk : onOk n es m [src]
  · have e1 : stM n es m src = 0 := by unfold stM; rw [hk]; rfl
    have e2 : stA n es m src = 0 := by unfold stA; rw [hk]; rfl
    have e3 : voL n es m src = [] := by unfold voL; rw [hk]; rfl
    rw [e1, e2, e3, hk] at hst hss
    have HST := Lib.hid hst
    have HSS := Lib.hid hss
    clear hst hss e1 e2 e3 hk
    refine (HST.out _ _ G_2.out.edges).mono ?_
    rintro e w3 ⟨vx, rfl, howx, hokx, hb3⟩
    have H3 := bel_trans H2 hb3
    have SZ3 := Lib.hid hb3.size
    have qg0_3 := (hb3.cell (p := ⟨w1.heap.size, 0, none⟩) zg_2).trans qg0_2
    have qg1_3 := (hb3.cell (p := ⟨w1.heap.size, 1, none⟩) zg_2).trans qg1_2
    have zg_3 := Nat.lt_of_lt_of_le zg_2 hb3.size
    have G_3 := Lib.hid (G_2.out.keep hb3)
    obtain ⟨ax, cx, rfl, hz9⟩ := id howx
    clear hz9 hokx
    have X_3 := Lib.hid (show InR true w3 w2.heap.size w3.heap.size _ ([] : List Int).length 1 (cellI ([] : List Int)) from howx)
    clear qg0_2 qg1_2 zg_2 G_2
    clear howx
    go_wp2_with fail
    have hb4 : Below w3.heap.size w3 (w3.alloc (.cells #[.int .i64 0, .int .i64 0, .slice ax ([] : List Int).length cx] 30)) := (Below.refl _ _).alloc (by simp <;> omega) _
    have H4 := bel_trans H3 hb4
    have SZ4 := Lib.hid hb4.size
    have qg0_4 := (hb4.cell (p := ⟨w1.heap.size, 0, none⟩) zg_3).trans qg0_3
    have qg1_4 := (hb4.cell (p := ⟨w1.heap.size, 1, none⟩) zg_3).trans qg1_3
    have zg_4 := Nat.lt_of_lt_of_le zg_3 hb4.size
    have G_4 := Lib.hid (G_3.out.keep hb4)
    have X_4 := Lib.hid (X_3.out.keep hb4)
    have qx0_4 : (w3.alloc (.cells #[.int .i64 0, .int .i64 0, .slice ax ([] : List Int).length cx] 30)).cell? ⟨w3.heap.size, 0, none⟩ = some (.int .i64 0) := by go_simp
    have qx1_4 : (w3.alloc (.cells #[.int .i64 0, .int .i64 0, .slice ax ([] : List Int).length cx] 30)).cell? ⟨w3.heap.size, 1, none⟩ = some (.int .i64 0) := by go_simp
    have qx2_4 : (w3.alloc (.cells #[.int .i64 0, .int .i64 0, .slice ax ([] : List Int).length cx] 30)).cell? ⟨w3.heap.size, 2, none⟩ = some (.slice ax ([] : List Int).length cx) := by go_simp
    have zx_4 : w3.heap.size < (w3.alloc (.cells #[.int .i64 0, .int .i64 0, .slice ax ([] : List Int).length cx] 30)).heap.size := by simp <;> omega
    generalize (w3.alloc (.cells #[.int .i64 0, .int .i64 0, .slice ax ([] : List Int).length cx] 30)) = w4 at hb4 H4 SZ4 G_4 X_4 qg0_4 qg1_4 qx0_4 qx1_4 qx2_4 zg_4 zx_4 ⊢
    have ZBx := Lib.hid zx_4
    clear qg0_3 qg1_3 zg_3 G_3 X_3
    refine (HSS.out _ _ G_4.out.edges).mono ?_
    rintro e w5 ⟨vy, rfl, howy, hoky, hb5⟩
    have H5 := bel_trans H4 hb5
    have SZ5 := Lib.hid hb5.size
    have qg0_5 := (hb5.cell (p := ⟨w1.heap.size, 0, none⟩) zg_4).trans qg0_4
    have qg1_5 := (hb5.cell (p := ⟨w1.heap.size, 1, none⟩) zg_4).trans qg1_4
    have zg_5 := Nat.lt_of_lt_of_le zg_4 hb5.size
    have qx0_5 := (hb5.cell (p := ⟨w3.heap.size, 0, none⟩) zx_4).trans qx0_4
    have qx1_5 := (hb5.cell (p := ⟨w3.heap.size, 1, none⟩) zx_4).trans qx1_4
    have qx2_5 := (hb5.cell (p := ⟨w3.heap.size, 2, none⟩) zx_4).trans qx2_4
    have zx_5 := Nat.lt_of_lt_of_le zx_4 hb5.size
    have G_5 := Lib.hid (G_4.out.keep hb5)
    have X_5 := Lib.hid (X_4.out.keep hb5)
    obtain ⟨ay, cy, rfl, hz9⟩ := id howy
    clear hz9 hoky
    have Y_5 := Lib.hid (show InR true w5 w4.heap.size w5.heap.size _ ([] : List Int).length 1 (cellI ([] : List Int)) from howy)
    clear qg0_4 qg1_4 zg_4 G_4 X_4 qx0_4 qx1_4 qx2_4 zx_4
    clear howy
    go_wp2_with fail
    have hb6 : Below w5.heap.size w5 (w5.alloc (.cells #[.int .i64 0, .int .i64 0, .slice ay ([] : List Int).length cy] 30)) := (Below.refl _ _).alloc (by simp <;> omega) _
    have H6 := bel_trans H5 hb6
    have SZ6 := Lib.hid hb6.size
    have qg0_6 := (hb6.cell (p := ⟨w1.heap.size, 0, none⟩) zg_5).trans qg0_5
    have qg1_6 := (hb6.cell (p := ⟨w1.heap.size, 1, none⟩) zg_5).trans qg1_5
    have zg_6 := Nat.lt_of_lt_of_le zg_5 hb6.size
    have qx0_6 := (hb6.cell (p := ⟨w3.heap.size, 0, none⟩) zx_5).trans qx0_5
    have qx1_6 := (hb6.cell (p := ⟨w3.heap.size, 1, none⟩) zx_5).trans qx1_5
    have qx2_6 := (hb6.cell (p := ⟨w3.heap.size, 2, none⟩) zx_5).trans qx2_5
    have zx_6 := Nat.lt_of_lt_of_le zx_5 hb6.size
    have G_6 := Lib.hid (G_5.out.keep hb6)
    have X_6 := Lib.hid (X_5.out.keep hb6)
    have Y_6 := Lib.hid (Y_5.out.keep hb6)
    have qy0_6 : (w5.alloc (.cells #[.int .i64 0, .int .i64 0, .slice ay ([] : List Int).length cy] 30)).cell? ⟨w5.heap.size, 0, none⟩ = some (.int .i64 0) := by go_simp
    have qy1_6 : (w5.alloc (.cells #[.int .i64 0, .int .i64 0, .slice ay ([] : List Int).length cy] 30)).cell? ⟨w5.heap.size, 1, none⟩ = some (.int .i64 0) := by go_simp
    have qy2_6 : (w5.alloc (.cells #[.int .i64 0, .int .i64 0, .slice ay ([] : List Int).length cy] 30)).cell? ⟨w5.heap.size, 2, none⟩ = some (.slice ay ([] : List Int).length cy) := by go_simp
    have zy_6 : w5.heap.size < (w5.alloc (.cells #[.int .i64 0, .int .i64 0, .slice ay ([] : List Int).length cy] 30)).heap.size := by simp <;> omega
    generalize (w5.alloc (.cells #[.int .i64 0, .int .i64 0, .slice ay ([] : List Int).length cy] 30)) = w6 at hb6 H6 SZ6 G_6 X_6 Y_6 qg0_6 qg1_6 qx0_6 qx1_6 qx2_6 qy0_6 qy1_6 qy2_6 zg_6 zx_6 zy_6 ⊢
    have ZBy := Lib.hid zy_6
    clear qg0_5 qg1_5 zg_5 qx0_5 qx1_5 qx2_5 zx_5 G_5 X_5 Y_5
    go_wp2_with fail
    refine (dDrawPutEdge a1 len1 cap1 _ (HB1.out.keepB H6) hcp1 (by omega)).mono ?_
    rintro e w7 ⟨n2, es2, v2, x, y, z, rfl, hle9, hrow9, hok9, hb7⟩
    have H7 := bel_trans H6 hb7
    have SZ7 := Lib.hid hb7.size
    have qg0_7 := (hb7.cell (p := ⟨w1.heap.size, 0, none⟩) zg_6).trans qg0_6
    have qg1_7 := (hb7.cell (p := ⟨w1.heap.size, 1, none⟩) zg_6).trans qg1_6
    have zg_7 := Nat.lt_of_lt_of_le zg_6 hb7.size
    have qx0_7 := (hb7.cell (p := ⟨w3.heap.size, 0, none⟩) zx_6).trans qx0_6
    have qx1_7 := (hb7.cell (p := ⟨w3.heap.size, 1, none⟩) zx_6).trans qx1_6
    have qx2_7 := (hb7.cell (p := ⟨w3.heap.size, 2, none⟩) zx_6).trans qx2_6
    have zx_7 := Nat.lt_of_lt_of_le zx_6 hb7.size
    have qy0_7 := (hb7.cell (p := ⟨w5.heap.size, 0, none⟩) zy_6).trans qy0_6
    have qy1_7 := (hb7.cell (p := ⟨w5.heap.size, 1, none⟩) zy_6).trans qy1_6
    have qy2_7 := (hb7.cell (p := ⟨w5.heap.size, 2, none⟩) zy_6).trans qy2_6
    have zy_7 := Nat.lt_of_lt_of_le zy_6 hb7.size
    have G_7 := Lib.hid (G_6.out.keep hb7)
    have X_7 := Lib.hid (X_6.out.keep hb7)
    have Y_7 := Lib.hid (Y_6.out.keep hb7)
    obtain ⟨va2, vc2, rfl, hz9⟩ := id hrow9
    clear hz9 hok9 hrow9 hle9
    clear qg0_6 qg1_6 zg_6 qx0_6 qx1_6 qx2_6 zx_6 G_6 X_6 Y_6 qy0_6 qy1_6 qy2_6 zy_6
    go_wp2_with fail
    have hb8 : Below w7.heap.size w7 ((w7.alloc (.cells #[.int .i64 n2, .slice va2 es2.length vc2] 25)).alloc (.cells #[.int .i64 x, .int .i64 y, .int .i64 z] 46)) := ((Below.refl _ _).alloc (by simp <;> omega) _).alloc (by simp <;> omega) _
    have H8 := bel_trans H7 hb8
    have SZ8 := Lib.hid hb8.size
    have qg0_8 := (hb8.cell (p := ⟨w1.heap.size, 0, none⟩) zg_7).trans qg0_7
    have qg1_8 := (hb8.cell (p := ⟨w1.heap.size, 1, none⟩) zg_7).trans qg1_7
    have zg_8 := Nat.lt_of_lt_of_le zg_7 hb8.size
    have qx0_8 := (hb8.cell (p := ⟨w3.heap.size, 0, none⟩) zx_7).trans qx0_7
    have qx1_8 := (hb8.cell (p := ⟨w3.heap.size, 1, none⟩) zx_7).trans qx1_7
    have qx2_8 := (hb8.cell (p := ⟨w3.heap.size, 2, none⟩) zx_7).trans qx2_7
    have zx_8 := Nat.lt_of_lt_of_le zx_7 hb8.size
    have qy0_8 := (hb8.cell (p := ⟨w5.heap.size, 0, none⟩) zy_7).trans qy0_7
    have qy1_8 := (hb8.cell (p := ⟨w5.heap.size, 1, none⟩) zy_7).trans qy1_7
    have qy2_8 := (hb8.cell (p := ⟨w5.heap.size, 2, none⟩) zy_7).trans qy2_7
    have zy_8 := Nat.lt_of_lt_of_le zy_7 hb8.size
    have G_8 := Lib.hid (G_7.out.keep hb8)
    have X_8 := Lib.hid (X_7.out.keep hb8)
    have Y_8 := Lib.hid (Y_7.out.keep hb8)
    have qk0_8 : ((w7.alloc (.cells #[.int .i64 n2, .slice va2 es2.length vc2] 25)).alloc (.cells #[.int .i64 x, .int .i64 y, .int .i64 z] 46)).cell? ⟨w7.heap.size, 0, none⟩ = some (.int .i64 n2) := by go_simp
    have qk1_8 : ((w7.alloc (.cells #[.int .i64 n2, .slice va2 es2.length vc2] 25)).alloc (.cells #[.int .i64 x, .int .i64 y, .int .i64 z] 46)).cell? ⟨w7.heap.size, 1, none⟩ = some (.slice va2 es2.length vc2) := by go_simp
    have zk_8 : w7.heap.size < ((w7.alloc (.cells #[.int .i64 n2, .slice va2 es2.length vc2] 25)).alloc (.cells #[.int .i64 x, .int .i64 y, .int .i64 z] 46)).heap.size := by simp <;> omega
    have qe0_8 : ((w7.alloc (.cells #[.int .i64 n2, .slice va2 es2.length vc2] 25)).alloc (.cells #[.int .i64 x, .int .i64 y, .int .i64 z] 46)).cell? ⟨w7.heap.size + 1, 0, none⟩ = some (.int .i64 x) := by go_simp
    have qe1_8 : ((w7.alloc (.cells #[.int .i64 n2, .slice va2 es2.length vc2] 25)).alloc (.cells #[.int .i64 x, .int .i64 y, .int .i64 z] 46)).cell? ⟨w7.heap.size + 1, 1, none⟩ = some (.int .i64 y) := by go_simp
    have qe2_8 : ((w7.alloc (.cells #[.int .i64 n2, .slice va2 es2.length vc2] 25)).alloc (.cells #[.int .i64 x, .int .i64 y, .int .i64 z] 46)).cell? ⟨w7.heap.size + 1, 2, none⟩ = some (.int .i64 z) := by go_simp
    have ze_8 : w7.heap.size + 1 < ((w7.alloc (.cells #[.int .i64 n2, .slice va2 es2.length vc2] 25)).alloc (.cells #[.int .i64 x, .int .i64 y, .int .i64 z] 46)).heap.size := by simp <;> omega
    generalize ((w7.alloc (.cells #[.int .i64 n2, .slice va2 es2.length vc2] 25)).alloc (.cells #[.int .i64 x, .int .i64 y, .int .i64 z] 46)) = w8 at hb8 H8 SZ8 G_8 X_8 Y_8 qe0_8 qe1_8 qe2_8 qg0_8 qg1_8 qk0_8 qk1_8 qx0_8 qx1_8 qx2_8 qy0_8 qy1_8 qy2_8 ze_8 zg_8 zk_8 zx_8 zy_8 ⊢
    have ZBk := Lib.hid zk_8
    have ZBe := Lib.hid ze_8
    clear qg0_7 qg1_7 zg_7 qx0_7 qx1_7 qx2_7 zx_7 qy0_7 qy1_7 qy2_7 zy_7 G_7 X_7 Y_7
    go_wp2_with fail
    refine (weightOf n es x y _ _ G_8.out.edges hle2).mono ?_
    rintro e w9 ⟨rfl, hb9⟩
    have H9 := bel_trans H8 hb9
    have SZ9 := Lib.hid hb9.size
    have qg0_9 := (hb9.cell (p := ⟨w1.heap.size, 0, none⟩) zg_8).trans qg0_8
    have qg1_9 := (hb9.cell (p := ⟨w1.heap.size, 1, none⟩) zg_8).trans qg1_8
    have zg_9 := Nat.lt_of_lt_of_le zg_8 hb9.size
    have qx0_9 := (hb9.cell (p := ⟨w3.heap.size, 0, none⟩) zx_8).trans qx0_8
    have qx1_9 := (hb9.cell (p := ⟨w3.heap.size, 1, none⟩) zx_8).trans qx1_8
    have qx2_9 := (hb9.cell (p := ⟨w3.heap.size, 2, none⟩) zx_8).trans qx2_8
    have zx_9 := Nat.lt_of_lt_of_le zx_8 hb9.size
    have qy0_9 := (hb9.cell (p := ⟨w5.heap.size, 0, none⟩) zy_8).trans qy0_8
    have qy1_9 := (hb9.cell (p := ⟨w5.heap.size, 1, none⟩) zy_8).trans qy1_8
    have qy2_9 := (hb9.cell (p := ⟨w5.heap.size, 2, none⟩) zy_8).trans qy2_8
    have zy_9 := Nat.lt_of_lt_of_le zy_8 hb9.size
    have qk0_9 := (hb9.cell (p := ⟨w7.heap.size, 0, none⟩) zk_8).trans qk0_8
    have qk1_9 := (hb9.cell (p := ⟨w7.heap.size, 1, none⟩) zk_8).trans qk1_8
    have zk_9 := Nat.lt_of_lt_of_le zk_8 hb9.size
    have qe0_9 := (hb9.cell (p := ⟨w7.heap.size + 1, 0, none⟩) ze_8).trans qe0_8
    have qe1_9 := (hb9.cell (p := ⟨w7.heap.size + 1, 1, none⟩) ze_8).trans qe1_8
    have qe2_9 := (hb9.cell (p := ⟨w7.heap.size + 1, 2, none⟩) ze_8).trans qe2_8
    have ze_9 := Nat.lt_of_lt_of_le ze_8 hb9.size
    have G_9 := Lib.hid (G_8.out.keep hb9)
    have X_9 := Lib.hid (X_8.out.keep hb9)
    have Y_9 := Lib.hid (Y_8.out.keep hb9)
    clear qg0_8 qg1_8 zg_8 qx0_8 qx1_8 qx2_8 zx_8 qy0_8 qy1_8 qy2_8 zy_8 G_8 X_8 Y_8 qk0_8 qk1_8 zk_8 qe0_8 qe1_8 qe2_8 ze_8
    go_wp2_with fail
    refine (putEdge n es x y z _ _ G_9.out.edges HOKG.out hle2).mono ?_
    rintro e w10 ⟨vh, rfl, howh, hokh, hb10⟩
    have H10 := bel_trans H9 hb10
    have SZ10 := Lib.hid hb10.size
    have qg0_10 := (hb10.cell (p := ⟨w1.heap.size, 0, none⟩) zg_9).trans qg0_9
    have qg1_10 := (hb10.cell (p := ⟨w1.heap.size, 1, none⟩) zg_9).trans qg1_9
    have zg_10 := Nat.lt_of_lt_of_le zg_9 hb10.size
    have qx0_10 := (hb10.cell (p := ⟨w3.heap.size, 0, none⟩) zx_9).trans qx0_9
    have qx1_10 := (hb10.cell (p := ⟨w3.heap.size, 1, none⟩) zx_9).trans qx1_9
    have qx2_10 := (hb10.cell (p := ⟨w3.heap.size, 2, none⟩) zx_9).trans qx2_9
    have zx_10 := Nat.lt_of_lt_of_le zx_9 hb10.size
    have qy0_10 := (hb10.cell (p := ⟨w5.heap.size, 0, none⟩) zy_9).trans qy0_9
    have qy1_10 := (hb10.cell (p := ⟨w5.heap.size, 1, none⟩) zy_9).trans qy1_9
    have qy2_10 := (hb10.cell (p := ⟨w5.heap.size, 2, none⟩) zy_9).trans qy2_9
    have zy_10 := Nat.lt_of_lt_of_le zy_9 hb10.size
    have qk0_10 := (hb10.cell (p := ⟨w7.heap.size, 0, none⟩) zk_9).trans qk0_9
    have qk1_10 := (hb10.cell (p := ⟨w7.heap.size, 1, none⟩) zk_9).trans qk1_9
    have zk_10 := Nat.lt_of_lt_of_le zk_9 hb10.size
    have qe0_10 := (hb10.cell (p := ⟨w7.heap.size + 1, 0, none⟩) ze_9).trans qe0_9
    have qe1_10 := (hb10.cell (p := ⟨w7.heap.size + 1, 1, none⟩) ze_9).trans qe1_9
    have qe2_10 := (hb10.cell (p := ⟨w7.heap.size + 1, 2, none⟩) ze_9).trans qe2_9
    have ze_10 := Nat.lt_of_lt_of_le ze_9 hb10.size
    have G_10 := Lib.hid (G_9.out.keep hb10)
    have X_10 := Lib.hid (X_9.out.keep hb10)
    have Y_10 := Lib.hid (Y_9.out.keep hb10)
    obtain ⟨ah, ch, rfl, hz9⟩ := id howh
    have HOKh := Lib.hid hokh
    clear hz9 hokh
    have H_10 := Lib.hid (show InR true w10 w9.heap.size w10.heap.size _ (putL n es (x, y, z)).length 3 (cellE (putL n es (x, y, z))) from howh)
    clear qg0_9 qg1_9 zg_9 qx0_9 qx1_9 qx2_9 zx_9 qy0_9 qy1_9 qy2_9 zy_9 qk0_9 qk1_9 zk_9 qe0_9 qe1_9 qe2_9 ze_9 G_9 X_9 Y_9
    clear howh
    go_wp2_with fail
    have hb11 : Below w10.heap.size w10 (w10.alloc (.cells #[.int .i64 (putN n es (x, y, z)), .slice ah (putL n es (x, y, z)).length ch] 25)) := (Below.refl _ _).alloc (by simp <;> omega) _
    have H11 := bel_trans H10 hb11
    have SZ11 := Lib.hid hb11.size
    have qg0_11 := (hb11.cell (p := ⟨w1.heap.size, 0, none⟩) zg_10).trans qg0_10
    have qg1_11 := (hb11.cell (p := ⟨w1.heap.size, 1, none⟩) zg_10).trans qg1_10
    have zg_11 := Nat.lt_of_lt_of_le zg_10 hb11.size
    have qx0_11 := (hb11.cell (p := ⟨w3.heap.size, 0, none⟩) zx_10).trans qx0_10
    have qx1_11 := (hb11.cell (p := ⟨w3.heap.size, 1, none⟩) zx_10).trans qx1_10
    have qx2_11 := (hb11.cell (p := ⟨w3.heap.size, 2, none⟩) zx_10).trans qx2_10
    have zx_11 := Nat.lt_of_lt_of_le zx_10 hb11.size
    have qy0_11 := (hb11.cell (p := ⟨w5.heap.size, 0, none⟩) zy_10).trans qy0_10
    have qy1_11 := (hb11.cell (p := ⟨w5.heap.size, 1, none⟩) zy_10).trans qy1_10
    have qy2_11 := (hb11.cell (p := ⟨w5.heap.size, 2, none⟩) zy_10).trans qy2_10
    have zy_11 := Nat.lt_of_lt_of_le zy_10 hb11.size
    have qk0_11 := (hb11.cell (p := ⟨w7.heap.size, 0, none⟩) zk_10).trans qk0_10
    have qk1_11 := (hb11.cell (p := ⟨w7.heap.size, 1, none⟩) zk_10).trans qk1_10
    have zk_11 := Nat.lt_of_lt_of_le zk_10 hb11.size
    have qe0_11 := (hb11.cell (p := ⟨w7.heap.size + 1, 0, none⟩) ze_10).trans qe0_10
    have qe1_11 := (hb11.cell (p := ⟨w7.heap.size + 1, 1, none⟩) ze_10).trans qe1_10
    have qe2_11 := (hb11.cell (p := ⟨w7.heap.size + 1, 2, none⟩) ze_10).trans qe2_10
    have ze_11 := Nat.lt_of_lt_of_le ze_10 hb11.size
    have G_11 := Lib.hid (G_10.out.keep hb11)
    have X_11 := Lib.hid (X_10.out.keep hb11)
    have Y_11 := Lib.hid (Y_10.out.keep hb11)
    have H_11 := Lib.hid (H_10.out.keep hb11)
    have qh0_11 : (w10.alloc (.cells #[.int .i64 (putN n es (x, y, z)), .slice ah (putL n es (x, y, z)).length ch] 25)).cell? ⟨w10.heap.size, 0, none⟩ = some (.int .i64 (putN n es (x, y, z))) := by go_simp
    have qh1_11 : (w10.alloc (.cells #[.int .i64 (putN n es (x, y, z)), .slice ah (putL n es (x, y, z)).length ch] 25)).cell? ⟨w10.heap.size, 1, none⟩ = some (.slice ah (putL n es (x, y, z)).length ch) := by go_simp
    have zh_11 : w10.heap.size < (w10.alloc (.cells #[.int .i64 (putN n es (x, y, z)), .slice ah (putL n es (x, y, z)).length ch] 25)).heap.size := by simp <;> omega
    generalize (w10.alloc (.cells #[.int .i64 (putN n es (x, y, z)), .slice ah (putL n es (x, y, z)).length ch] 25)) = w11 at hb11 H11 SZ11 G_11 H_11 X_11 Y_11 qe0_11 qe1_11 qe2_11 qg0_11 qg1_11 qh0_11 qh1_11 qk0_11 qk1_11 qx0_11 qx1_11 qx2_11 qy0_11 qy1_11 qy2_11 ze_11 zg_11 zh_11 zk_11 zx_11 zy_11 ⊢
    have ZBh := Lib.hid zh_11
    clear qg0_10 qg1_10 zg_10 qx0_10 qx1_10 qx2_10 zx_10 qy0_10 qy1_10 qy2_10 zy_10 qk0_10 qk1_10 zk_10 qe0_10 qe1_10 qe2_10 ze_10 G_10 X_10 Y_10 H_10
    go_wp2_with fail
    refine (viewSame 0 0 0 0 [] [] _ _ _ X_11.out.rowI Y_11.out.rowI (by simp) (by simp)).mono ?_
    rintro e w12 ⟨rfl, hb12⟩
    have H12 := bel_trans H11 hb12
    have SZ12 := Lib.hid hb12.size
    have qg0_12 := (hb12.cell (p := ⟨w1.heap.size, 0, none⟩) zg_11).trans qg0_11
    have qg1_12 := (hb12.cell (p := ⟨w1.heap.size, 1, none⟩) zg_11).trans qg1_11
    have zg_12 := Nat.lt_of_lt_of_le zg_11 hb12.size
    have qx0_12 := (hb12.cell (p := ⟨w3.heap.size, 0, none⟩) zx_11).trans qx0_11
    have qx1_12 := (hb12.cell (p := ⟨w3.heap.size, 1, none⟩) zx_11).trans qx1_11
    have qx2_12 := (hb12.cell (p := ⟨w3.heap.size, 2, none⟩) zx_11).trans qx2_11
    have zx_12 := Nat.lt_of_lt_of_le zx_11 hb12.size
    have qy0_12 := (hb12.cell (p := ⟨w5.heap.size, 0, none⟩) zy_11).trans qy0_11
    have qy1_12 := (hb12.cell (p := ⟨w5.heap.size, 1, none⟩) zy_11).trans qy1_11
    have qy2_12 := (hb12.cell (p := ⟨w5.heap.size, 2, none⟩) zy_11).trans qy2_11
    have zy_12 := Nat.lt_of_lt_of_le zy_11 hb12.size
    have qk0_12 := (hb12.cell (p := ⟨w7.heap.size, 0, none⟩) zk_11).trans qk0_11
    have qk1_12 := (hb12.cell (p := ⟨w7.heap.size, 1, none⟩) zk_11).trans qk1_11
    have zk_12 := Nat.lt_of_lt_of_le zk_11 hb12.size
    have qe0_12 := (hb12.cell (p := ⟨w7.heap.size + 1, 0, none⟩) ze_11).trans qe0_11
    have qe1_12 := (hb12.cell (p := ⟨w7.heap.size + 1, 1, none⟩) ze_11).trans qe1_11
    have qe2_12 := (hb12.cell (p := ⟨w7.heap.size + 1, 2, none⟩) ze_11).trans qe2_11
    have ze_12 := Nat.lt_of_lt_of_le ze_11 hb12.size
    have qh0_12 := (hb12.cell (p := ⟨w10.heap.size, 0, none⟩) zh_11).trans qh0_11
    have qh1_12 := (hb12.cell (p := ⟨w10.heap.size, 1, none⟩) zh_11).trans qh1_11
    have zh_12 := Nat.lt_of_lt_of_le zh_11 hb12.size
    have G_12 := Lib.hid (G_11.out.keep hb12)
    have X_12 := Lib.hid (X_11.out.keep hb12)
    have Y_12 := Lib.hid (Y_11.out.keep hb12)
    have H_12 := Lib.hid (H_11.out.keep hb12)
    clear qg0_11 qg1_11 zg_11 qx0_11 qx1_11 qx2_11 zx_11 qy0_11 qy1_11 qy2_11 zy_11 qk0_11 qk1_11 zk_11 qe0_11 qe1_11 qe2_11 ze_11 G_11 X_11 Y_11 H_11 qh0_11 qh1_11 zh_11
    go_wp2_with fail
    refine (viewSame 0 0 0 0 [] [] _ _ _ X_12.out.rowI Y_12.out.rowI (by simp) (by simp)).mono ?_
    rintro e w13 ⟨rfl, hb13⟩
    have H13 := bel_trans H12 hb13
    have SZ13 := Lib.hid hb13.size
    have qg0_13 := (hb13.cell (p := ⟨w1.heap.size, 0, none⟩) zg_12).trans qg0_12
    have qg1_13 := (hb13.cell (p := ⟨w1.heap.size, 1, none⟩) zg_12).trans qg1_12
    have zg_13 := Nat.lt_of_lt_of_le zg_12 hb13.size
    have qx0_13 := (hb13.cell (p := ⟨w3.heap.size, 0, none⟩) zx_12).trans qx0_12
    have qx1_13 := (hb13.cell (p := ⟨w3.heap.size, 1, none⟩) zx_12).trans qx1_12
    have qx2_13 := (hb13.cell (p := ⟨w3.heap.size, 2, none⟩) zx_12).trans qx2_12
    have zx_13 := Nat.lt_of_lt_of_le zx_12 hb13.size
    have qy0_13 := (hb13.cell (p := ⟨w5.heap.size, 0, none⟩) zy_12).trans qy0_12
    have qy1_13 := (hb13.cell (p := ⟨w5.heap.size, 1, none⟩) zy_12).trans qy1_12
    have qy2_13 := (hb13.cell (p := ⟨w5.heap.size, 2, none⟩) zy_12).trans qy2_12
    have zy_13 := Nat.lt_of_lt_of_le zy_12 hb13.size
    have qk0_13 := (hb13.cell (p := ⟨w7.heap.size, 0, none⟩) zk_12).trans qk0_12
    have qk1_13 := (hb13.cell (p := ⟨w7.heap.size, 1, none⟩) zk_12).trans qk1_12
    have zk_13 := Nat.lt_of_lt_of_le zk_12 hb13.size
    have qe0_13 := (hb13.cell (p := ⟨w7.heap.size + 1, 0, none⟩) ze_12).trans qe0_12
    have qe1_13 := (hb13.cell (p := ⟨w7.heap.size + 1, 1, none⟩) ze_12).trans qe1_12
    have qe2_13 := (hb13.cell (p := ⟨w7.heap.size + 1, 2, none⟩) ze_12).trans qe2_12
    have ze_13 := Nat.lt_of_lt_of_le ze_12 hb13.size
    have qh0_13 := (hb13.cell (p := ⟨w10.heap.size, 0, none⟩) zh_12).trans qh0_12
    have qh1_13 := (hb13.cell (p := ⟨w10.heap.size, 1, none⟩) zh_12).trans qh1_12
    have zh_13 := Nat.lt_of_lt_of_le zh_12 hb13.size
    have G_13 := Lib.hid (G_12.out.keep hb13)
    have X_13 := Lib.hid (X_12.out.keep hb13)
    have Y_13 := Lib.hid (Y_12.out.keep hb13)
    have H_13 := Lib.hid (H_12.out.keep hb13)
    clear qg0_12 qg1_12 zg_12 qx0_12 qx1_12 qx2_12 zx_12 qy0_12 qy1_12 qy2_12 zy_12 qk0_12 qk1_12 zk_12 qe0_12 qe1_12 qe2_12 ze_12 qh0_12 qh1_12 zh_12 G_12 X_12 Y_12 H_12
    go_wp2
    go_ret
    exact ⟨rfl, H13⟩
  · have e1 : stM n es m src = m := by unfold stM; rw [if_pos hk]
    have e2 : stA n es m src = src := by unfold stA; rw [if_pos hk]
    have e3 : voL n es m src = vIter m es n.toNat (vStart m n src) := by unfold voL; rw [if_pos hk]
    rw [e1, e2, e3, hk] at hst hss
    have HST := Lib.hid hst
    have HSS := Lib.hid hss
    obtain ⟨hgv, hsr, hmk⟩ := onOk_one3 hk
    have h12 := (gVal_iff.1 hgv).1.2.1
    obtain ⟨N, hN⟩ : ∃ N : Nat, n = N := ⟨n.toNat, by omega⟩
    obtain ⟨L, hL⟩ : ∃ L, L = vIter m es n.toNat (vStart m n src) := ⟨_, rfl⟩
    have hea := eAll_of hgv
    have hL2 : L = vRt m n es src := by rw [hL]; rfl
    have hlL : L.length = N := by rw [hL2, vRt_length]; omega
    rw [← hL] at HST HSS
    have HG := Lib.hid (And.intro hgv (And.intro hsr (And.intro hmk hea)))
    have HL2 := Lib.hid hL2
    have HLL := Lib.hid hlL
    subst hN
    have hs1 := hsr.1
    have hs2 := hsr.2
    clear hlL hst hss e1 e2 e3 hk hgv hL hL2 hmk hsr hea
    refine (HST.out _ _ G_2.out.edges).mono ?_
    rintro e w3 ⟨vx, rfl, howx, hokx, hb3⟩
    have H3 := bel_trans H2 hb3
    have SZ3 := Lib.hid hb3.size
    have qg0_3 := (hb3.cell (p := ⟨w1.heap.size, 0, none⟩) zg_2).trans qg0_2
    have qg1_3 := (hb3.cell (p := ⟨w1.heap.size, 1, none⟩) zg_2).trans qg1_2
    have zg_3 := Nat.lt_of_lt_of_le zg_2 hb3.size
    have G_3 := Lib.hid (G_2.out.keep hb3)
    obtain ⟨ax, cx, rfl, hz9⟩ := id howx
    clear hz9 hokx
    have X_3 := Lib.hid (show InR true w3 w2.heap.size w3.heap.size _ L.length 1 (cellI L) from howx)
    clear qg0_2 qg1_2 zg_2 G_2
    clear howx
    go_wp2_with fail
    have hb4 : Below w3.heap.size w3 (w3.alloc (.cells #[.int .i64 m, .int .i64 src, .slice ax L.length cx] 30)) := (Below.refl _ _).alloc (by simp <;> omega) _
    have H4 := bel_trans H3 hb4
    have SZ4 := Lib.hid hb4.size
    have qg0_4 := (hb4.cell (p := ⟨w1.heap.size, 0, none⟩) zg_3).trans qg0_3
    have qg1_4 := (hb4.cell (p := ⟨w1.heap.size, 1, none⟩) zg_3).trans qg1_3
    have zg_4 := Nat.lt_of_lt_of_le zg_3 hb4.size
    have G_4 := Lib.hid (G_3.out.keep hb4)
    have X_4 := Lib.hid (X_3.out.keep hb4)
    have qx0_4 : (w3.alloc (.cells #[.int .i64 m, .int .i64 src, .slice ax L.length cx] 30)).cell? ⟨w3.heap.size, 0, none⟩ = some (.int .i64 m) := by go_simp
    have qx1_4 : (w3.alloc (.cells #[.int .i64 m, .int .i64 src, .slice ax L.length cx] 30)).cell? ⟨w3.heap.size, 1, none⟩ = some (.int .i64 src) := by go_simp
    have qx2_4 : (w3.alloc (.cells #[.int .i64 m, .int .i64 src, .slice ax L.length cx] 30)).cell? ⟨w3.heap.size, 2, none⟩ = some (.slice ax L.length cx) := by go_simp
    have zx_4 : w3.heap.size < (w3.alloc (.cells #[.int .i64 m, .int .i64 src, .slice ax L.length cx] 30)).heap.size := by simp <;> omega
    generalize (w3.alloc (.cells #[.int .i64 m, .int .i64 src, .slice ax L.length cx] 30)) = w4 at hb4 H4 SZ4 G_4 X_4 qg0_4 qg1_4 qx0_4 qx1_4 qx2_4 zg_4 zx_4 ⊢
    have ZBx := Lib.hid zx_4
    clear qg0_3 qg1_3 zg_3 G_3 X_3
    refine (HSS.out _ _ G_4.out.edges).mono ?_
    rintro e w5 ⟨vy, rfl, howy, hoky, hb5⟩
    have H5 := bel_trans H4 hb5
    have SZ5 := Lib.hid hb5.size
    have qg0_5 := (hb5.cell (p := ⟨w1.heap.size, 0, none⟩) zg_4).trans qg0_4
    have qg1_5 := (hb5.cell (p := ⟨w1.heap.size, 1, none⟩) zg_4).trans qg1_4
    have zg_5 := Nat.lt_of_lt_of_le zg_4 hb5.size
    have qx0_5 := (hb5.cell (p := ⟨w3.heap.size, 0, none⟩) zx_4).trans qx0_4
    have qx1_5 := (hb5.cell (p := ⟨w3.heap.size, 1, none⟩) zx_4).trans qx1_4
    have qx2_5 := (hb5.cell (p := ⟨w3.heap.size, 2, none⟩) zx_4).trans qx2_4
    have zx_5 := Nat.lt_of_lt_of_le zx_4 hb5.size
    have G_5 := Lib.hid (G_4.out.keep hb5)
    have X_5 := Lib.hid (X_4.out.keep hb5)
    obtain ⟨ay, cy, rfl, hz9⟩ := id howy
    clear hz9 hoky
    have Y_5 := Lib.hid (show InR true w5 w4.heap.size w5.heap.size _ L.length 1 (cellI L) from howy)
    clear qg0_4 qg1_4 zg_4 G_4 X_4 qx0_4 qx1_4 qx2_4 zx_4
    clear howy
    go_wp2_with fail
    have hb6 : Below w5.heap.size w5 (w5.alloc (.cells #[.int .i64 m, .int .i64 src, .slice ay L.length cy] 30)) := (Below.refl _ _).alloc (by simp <;> omega) _
    have H6 := bel_trans H5 hb6
    have SZ6 := Lib.hid hb6.size
    have qg0_6 := (hb6.cell (p := ⟨w1.heap.size, 0, none⟩) zg_5).trans qg0_5
    have qg1_6 := (hb6.cell (p := ⟨w1.heap.size, 1, none⟩) zg_5).trans qg1_5
    have zg_6 := Nat.lt_of_lt_of_le zg_5 hb6.size
    have qx0_6 := (hb6.cell (p := ⟨w3.heap.size, 0, none⟩) zx_5).trans qx0_5
    have qx1_6 := (hb6.cell (p := ⟨w3.heap.size, 1, none⟩) zx_5).trans qx1_5
    have qx2_6 := (hb6.cell (p := ⟨w3.heap.size, 2, none⟩) zx_5).trans qx2_5
    have zx_6 := Nat.lt_of_lt_of_le zx_5 hb6.size
    have G_6 := Lib.hid (G_5.out.keep hb6)
    have X_6 := Lib.hid (X_5.out.keep hb6)
    have Y_6 := Lib.hid (Y_5.out.keep hb6)
    have qy0_6 : (w5.alloc (.cells #[.int .i64 m, .int .i64 src, .slice ay L.length cy] 30)).cell? ⟨w5.heap.size, 0, none⟩ = some (.int .i64 m) := by go_simp
    have qy1_6 : (w5.alloc (.cells #[.int .i64 m, .int .i64 src, .slice ay L.length cy] 30)).cell? ⟨w5.heap.size, 1, none⟩ = some (.int .i64 src) := by go_simp
    have qy2_6 : (w5.alloc (.cells #[.int .i64 m, .int .i64 src, .slice ay L.length cy] 30)).cell? ⟨w5.heap.size, 2, none⟩ = some (.slice ay L.length cy) := by go_simp
    have zy_6 : w5.heap.size < (w5.alloc (.cells #[.int .i64 m, .int .i64 src, .slice ay L.length cy] 30)).heap.size := by simp <;> omega
    generalize (w5.alloc (.cells #[.int .i64 m, .int .i64 src, .slice ay L.length cy] 30)) = w6 at hb6 H6 SZ6 G_6 X_6 Y_6 qg0_6 qg1_6 qx0_6 qx1_6 qx2_6 qy0_6 qy1_6 qy2_6 zg_6 zx_6 zy_6 ⊢
    have ZBy := Lib.hid zy_6
    clear qg0_5 qg1_5 zg_5 qx0_5 qx1_5 qx2_5 zx_5 G_5 X_5 Y_5
    go_wp2_with fail
    refine (dDrawPutEdge a1 len1 cap1 _ (HB1.out.keepB H6) hcp1 (by omega)).mono ?_
    rintro e w7 ⟨n2, es2, v2, x, y, z, rfl, hle9, hrow9, hok9, hb7⟩
    have H7 := bel_trans H6 hb7
    have SZ7 := Lib.hid hb7.size
    have qg0_7 := (hb7.cell (p := ⟨w1.heap.size, 0, none⟩) zg_6).trans qg0_6
    have qg1_7 := (hb7.cell (p := ⟨w1.heap.size, 1, none⟩) zg_6).trans qg1_6
    have zg_7 := Nat.lt_of_lt_of_le zg_6 hb7.size
    have qx0_7 := (hb7.cell (p := ⟨w3.heap.size, 0, none⟩) zx_6).trans qx0_6
    have qx1_7 := (hb7.cell (p := ⟨w3.heap.size, 1, none⟩) zx_6).trans qx1_6
    have qx2_7 := (hb7.cell (p := ⟨w3.heap.size, 2, none⟩) zx_6).trans qx2_6
    have zx_7 := Nat.lt_of_lt_of_le zx_6 hb7.size
    have qy0_7 := (hb7.cell (p := ⟨w5.heap.size, 0, none⟩) zy_6).trans qy0_6
    have qy1_7 := (hb7.cell (p := ⟨w5.heap.size, 1, none⟩) zy_6).trans qy1_6
    have qy2_7 := (hb7.cell (p := ⟨w5.heap.size, 2, none⟩) zy_6).trans qy2_6
    have zy_7 := Nat.lt_of_lt_of_le zy_6 hb7.size
    have G_7 := Lib.hid (G_6.out.keep hb7)
    have X_7 := Lib.hid (X_6.out.keep hb7)
    have Y_7 := Lib.hid (Y_6.out.keep hb7)
    obtain ⟨va2, vc2, rfl, hz9⟩ := id hrow9
    clear hz9 hok9 hrow9 hle9
    clear qg0_6 qg1_6 zg_6 qx0_6 qx1_6 qx2_6 zx_6 G_6 X_6 Y_6 qy0_6 qy1_6 qy2_6 zy_6
    go_wp2_with fail
    have hb8 : Below w7.heap.size w7 ((w7.alloc (.cells #[.int .i64 n2, .slice va2 es2.length vc2] 25)).alloc (.cells #[.int .i64 x, .int .i64 y, .int .i64 z] 46)) := ((Below.refl _ _).alloc (by simp <;> omega) _).alloc (by simp <;> omega) _
    have H8 := bel_trans H7 hb8
    have SZ8 := Lib.hid hb8.size
    have qg0_8 := (hb8.cell (p := ⟨w1.heap.size, 0, none⟩) zg_7).trans qg0_7
    have qg1_8 := (hb8.cell (p := ⟨w1.heap.size, 1, none⟩) zg_7).trans qg1_7
    have zg_8 := Nat.lt_of_lt_of_le zg_7 hb8.size
    have qx0_8 := (hb8.cell (p := ⟨w3.heap.size, 0, none⟩) zx_7).trans qx0_7
    have qx1_8 := (hb8.cell (p := ⟨w3.heap.size, 1, none⟩) zx_7).trans qx1_7
    have qx2_8 := (hb8.cell (p := ⟨w3.heap.size, 2, none⟩) zx_7).trans qx2_7
    have zx_8 := Nat.lt_of_lt_of_le zx_7 hb8.size
    have qy0_8 := (hb8.cell (p := ⟨w5.heap.size, 0, none⟩) zy_7).trans qy0_7
    have qy1_8 := (hb8.cell (p := ⟨w5.heap.size, 1, none⟩) zy_7).trans qy1_7
    have qy2_8 := (hb8.cell (p := ⟨w5.heap.size, 2, none⟩) zy_7).trans qy2_7
    have zy_8 := Nat.lt_of_lt_of_le zy_7 hb8.size
    have G_8 := Lib.hid (G_7.out.keep hb8)
    have X_8 := Lib.hid (X_7.out.keep hb8)
    have Y_8 := Lib.hid (Y_7.out.keep hb8)
    have qk0_8 : ((w7.alloc (.cells #[.int .i64 n2, .slice va2 es2.length vc2] 25)).alloc (.cells #[.int .i64 x, .int .i64 y, .int .i64 z] 46)).cell? ⟨w7.heap.size, 0, none⟩ = some (.int .i64 n2) := by go_simp
    have qk1_8 : ((w7.alloc (.cells #[.int .i64 n2, .slice va2 es2.length vc2] 25)).alloc (.cells #[.int .i64 x, .int .i64 y, .int .i64 z] 46)).cell? ⟨w7.heap.size, 1, none⟩ = some (.slice va2 es2.length vc2) := by go_simp
    have zk_8 : w7.heap.size < ((w7.alloc (.cells #[.int .i64 n2, .slice va2 es2.length vc2] 25)).alloc (.cells #[.int .i64 x, .int .i64 y, .int .i64 z] 46)).heap.size := by simp <;> omega
    have qe0_8 : ((w7.alloc (.cells #[.int .i64 n2, .slice va2 es2.length vc2] 25)).alloc (.cells #[.int .i64 x, .int .i64 y, .int .i64 z] 46)).cell? ⟨w7.heap.size + 1, 0, none⟩ = some (.int .i64 x) := by go_simp
    have qe1_8 : ((w7.alloc (.cells #[.int .i64 n2, .slice va2 es2.length vc2] 25)).alloc (.cells #[.int .i64 x, .int .i64 y, .int .i64 z] 46)).cell? ⟨w7.heap.size + 1, 1, none⟩ = some (.int .i64 y) := by go_simp
    have qe2_8 : ((w7.alloc (.cells #[.int .i64 n2, .slice va2 es2.length vc2] 25)).alloc (.cells #[.int .i64 x, .int .i64 y, .int .i64 z] 46)).cell? ⟨w7.heap.size + 1, 2, none⟩ = some (.int .i64 z) := by go_simp
    have ze_8 : w7.heap.size + 1 < ((w7.alloc (.cells #[.int .i64 n2, .slice va2 es2.length vc2] 25)).alloc (.cells #[.int .i64 x, .int .i64 y, .int .i64 z] 46)).heap.size := by simp <;> omega
    generalize ((w7.alloc (.cells #[.int .i64 n2, .slice va2 es2.length vc2] 25)).alloc (.cells #[.int .i64 x, .int .i64 y, .int .i64 z] 46)) = w8 at hb8 H8 SZ8 G_8 X_8 Y_8 qe0_8 qe1_8 qe2_8 qg0_8 qg1_8 qk0_8 qk1_8 qx0_8 qx1_8 qx2_8 qy0_8 qy1_8 qy2_8 ze_8 zg_8 zk_8 zx_8 zy_8 ⊢
    have ZBk := Lib.hid zk_8
    have ZBe := Lib.hid ze_8
    clear qg0_7 qg1_7 zg_7 qx0_7 qx1_7 qx2_7 zx_7 qy0_7 qy1_7 qy2_7 zy_7 G_7 X_7 Y_7
    have hwf : (wOf (N : Int) es x y).2 = false → fdE es x y = false := fun h => by cases hf : fdE es x y with | false => rfl | true => (obtain ⟨t, ht, _⟩ := wOf_yes HG.out.1 hf; rw [ht] at h; cases h)
    obtain ⟨wt, had, hwo⟩ : ∃ a b, wOf (N : Int) es x y = (a, b) := ⟨_, _, rfl⟩
    rw [hwo] at hwf
    have HWF := Lib.hid hwf
    clear hwf
    go_wp2_with fail
    refine (weightOf N es x y _ _ G_8.out.edges hle2).mono ?_
    rintro e w9 ⟨hS, hb9⟩
    have H9 := bel_trans H8 hb9
    have SZ9 := Lib.hid hb9.size
    have qg0_9 := (hb9.cell (p := ⟨w1.heap.size, 0, none⟩) zg_8).trans qg0_8
    have qg1_9 := (hb9.cell (p := ⟨w1.heap.size, 1, none⟩) zg_8).trans qg1_8
    have zg_9 := Nat.lt_of_lt_of_le zg_8 hb9.size
    have qx0_9 := (hb9.cell (p := ⟨w3.heap.size, 0, none⟩) zx_8).trans qx0_8
    have qx1_9 := (hb9.cell (p := ⟨w3.heap.size, 1, none⟩) zx_8).trans qx1_8
    have qx2_9 := (hb9.cell (p := ⟨w3.heap.size, 2, none⟩) zx_8).trans qx2_8
    have zx_9 := Nat.lt_of_lt_of_le zx_8 hb9.size
    have qy0_9 := (hb9.cell (p := ⟨w5.heap.size, 0, none⟩) zy_8).trans qy0_8
    have qy1_9 := (hb9.cell (p := ⟨w5.heap.size, 1, none⟩) zy_8).trans qy1_8
    have qy2_9 := (hb9.cell (p := ⟨w5.heap.size, 2, none⟩) zy_8).trans qy2_8
    have zy_9 := Nat.lt_of_lt_of_le zy_8 hb9.size
    have qk0_9 := (hb9.cell (p := ⟨w7.heap.size, 0, none⟩) zk_8).trans qk0_8
    have qk1_9 := (hb9.cell (p := ⟨w7.heap.size, 1, none⟩) zk_8).trans qk1_8
    have zk_9 := Nat.lt_of_lt_of_le zk_8 hb9.size
    have qe0_9 := (hb9.cell (p := ⟨w7.heap.size + 1, 0, none⟩) ze_8).trans qe0_8
    have qe1_9 := (hb9.cell (p := ⟨w7.heap.size + 1, 1, none⟩) ze_8).trans qe1_8
    have qe2_9 := (hb9.cell (p := ⟨w7.heap.size + 1, 2, none⟩) ze_8).trans qe2_8
    have ze_9 := Nat.lt_of_lt_of_le ze_8 hb9.size
    have G_9 := Lib.hid (G_8.out.keep hb9)
    have X_9 := Lib.hid (X_8.out.keep hb9)
    have Y_9 := Lib.hid (Y_8.out.keep hb9)
    rw [hwo] at hS
    subst hS
    clear hwo
    clear qg0_8 qg1_8 zg_8 qx0_8 qx1_8 qx2_8 zx_8 qy0_8 qy1_8 qy2_8 zy_8 G_8 X_8 Y_8 qk0_8 qk1_8 zk_8 qe0_8 qe1_8 qe2_8 ze_8
    obtain ⟨pb, hpb⟩ : ∃ b, b = putB (N : Int) es (x, y, z) := ⟨_, rfl⟩
    obtain ⟨PN, hPN⟩ : ∃ b, b = putN (N : Int) es (x, y, z) := ⟨_, rfl⟩
    obtain ⟨PL, hPL⟩ : ∃ b, b = putL (N : Int) es (x, y, z) := ⟨_, rfl⟩
    have hcp9 := fun s w (h : RowE w s es) (k : okS s) => putEdge N es x y z s w h k hle2
    rw [← hpb, ← hPN, ← hPL] at hcp9
    have HCP := Lib.hid hcp9
    clear hcp9
    have hfa : pb = true → putB (N : Int) es (x, y, z) = true ∧ PN = N ∧ PL = pL es (x, y, z) := fun h => by rw [hpb] at h; rw [hPN, hPL]; unfold putN putL; rw [if_pos h, if_pos h]; exact ⟨h, rfl, rfl⟩
    have HFA := Lib.hid hfa
    clear hfa hpb hPN hPL
    go_wp2_with fail
    refine (HCP.out _ _ G_9.out.edges HOKG.out).mono ?_
    rintro e w10 ⟨vh, rfl, howh, hokh, hb10⟩
    have H10 := bel_trans H9 hb10
    have SZ10 := Lib.hid hb10.size
    have qg0_10 := (hb10.cell (p := ⟨w1.heap.size, 0, none⟩) zg_9).trans qg0_9
    have qg1_10 := (hb10.cell (p := ⟨w1.heap.size, 1, none⟩) zg_9).trans qg1_9
    have zg_10 := Nat.lt_of_lt_of_le zg_9 hb10.size
    have qx0_10 := (hb10.cell (p := ⟨w3.heap.size, 0, none⟩) zx_9).trans qx0_9
    have qx1_10 := (hb10.cell (p := ⟨w3.heap.size, 1, none⟩) zx_9).trans qx1_9
    have qx2_10 := (hb10.cell (p := ⟨w3.heap.size, 2, none⟩) zx_9).trans qx2_9
    have zx_10 := Nat.lt_of_lt_of_le zx_9 hb10.size
    have qy0_10 := (hb10.cell (p := ⟨w5.heap.size, 0, none⟩) zy_9).trans qy0_9
    have qy1_10 := (hb10.cell (p := ⟨w5.heap.size, 1, none⟩) zy_9).trans qy1_9
    have qy2_10 := (hb10.cell (p := ⟨w5.heap.size, 2, none⟩) zy_9).trans qy2_9
    have zy_10 := Nat.lt_of_lt_of_le zy_9 hb10.size
    have qk0_10 := (hb10.cell (p := ⟨w7.heap.size, 0, none⟩) zk_9).trans qk0_9
    have qk1_10 := (hb10.cell (p := ⟨w7.heap.size, 1, none⟩) zk_9).trans qk1_9
    have zk_10 := Nat.lt_of_lt_of_le zk_9 hb10.size
    have qe0_10 := (hb10.cell (p := ⟨w7.heap.size + 1, 0, none⟩) ze_9).trans qe0_9
    have qe1_10 := (hb10.cell (p := ⟨w7.heap.size + 1, 1, none⟩) ze_9).trans qe1_9
    have qe2_10 := (hb10.cell (p := ⟨w7.heap.size + 1, 2, none⟩) ze_9).trans qe2_9
    have ze_10 := Nat.lt_of_lt_of_le ze_9 hb10.size
    have G_10 := Lib.hid (G_9.out.keep hb10)
    have X_10 := Lib.hid (X_9.out.keep hb10)
    have Y_10 := Lib.hid (Y_9.out.keep hb10)
    obtain ⟨ah, ch, rfl, hz9⟩ := id howh
    have HOKh := Lib.hid hokh
    clear hz9 hokh
    have H_10 := Lib.hid (show InR true w10 w9.heap.size w10.heap.size _ PL.length 3 (cellE PL) from howh)
    clear qg0_9 qg1_9 zg_9 qx0_9 qx1_9 qx2_9 zx_9 qy0_9 qy1_9 qy2_9 zy_9 qk0_9 qk1_9 zk_9 qe0_9 qe1_9 qe2_9 ze_9 G_9 X_9 Y_9
    clear howh
    go_wp2_with fail
    have hb11 : Below w10.heap.size w10 (w10.alloc (.cells #[.int .i64 PN, .slice ah PL.length ch] 25)) := (Below.refl _ _).alloc (by simp <;> omega) _
    have H11 := bel_trans H10 hb11
    have SZ11 := Lib.hid hb11.size
    have qg0_11 := (hb11.cell (p := ⟨w1.heap.size, 0, none⟩) zg_10).trans qg0_10
    have qg1_11 := (hb11.cell (p := ⟨w1.heap.size, 1, none⟩) zg_10).trans qg1_10
    have zg_11 := Nat.lt_of_lt_of_le zg_10 hb11.size
    have qx0_11 := (hb11.cell (p := ⟨w3.heap.size, 0, none⟩) zx_10).trans qx0_10
    have qx1_11 := (hb11.cell (p := ⟨w3.heap.size, 1, none⟩) zx_10).trans qx1_10
    have qx2_11 := (hb11.cell (p := ⟨w3.heap.size, 2, none⟩) zx_10).trans qx2_10
    have zx_11 := Nat.lt_of_lt_of_le zx_10 hb11.size
    have qy0_11 := (hb11.cell (p := ⟨w5.heap.size, 0, none⟩) zy_10).trans qy0_10
    have qy1_11 := (hb11.cell (p := ⟨w5.heap.size, 1, none⟩) zy_10).trans qy1_10
    have qy2_11 := (hb11.cell (p := ⟨w5.heap.size, 2, none⟩) zy_10).trans qy2_10
    have zy_11 := Nat.lt_of_lt_of_le zy_10 hb11.size
    have qk0_11 := (hb11.cell (p := ⟨w7.heap.size, 0, none⟩) zk_10).trans qk0_10
    have qk1_11 := (hb11.cell (p := ⟨w7.heap.size, 1, none⟩) zk_10).trans qk1_10
    have zk_11 := Nat.lt_of_lt_of_le zk_10 hb11.size
    have qe0_11 := (hb11.cell (p := ⟨w7.heap.size + 1, 0, none⟩) ze_10).trans qe0_10
    have qe1_11 := (hb11.cell (p := ⟨w7.heap.size + 1, 1, none⟩) ze_10).trans qe1_10
    have qe2_11 := (hb11.cell (p := ⟨w7.heap.size + 1, 2, none⟩) ze_10).trans qe2_10
    have ze_11 := Nat.lt_of_lt_of_le ze_10 hb11.size
    have G_11 := Lib.hid (G_10.out.keep hb11)
    have X_11 := Lib.hid (X_10.out.keep hb11)
    have Y_11 := Lib.hid (Y_10.out.keep hb11)
    have H_11 := Lib.hid (H_10.out.keep hb11)
    have qh0_11 : (w10.alloc (.cells #[.int .i64 PN, .slice ah PL.length ch] 25)).cell? ⟨w10.heap.size, 0, none⟩ = some (.int .i64 PN) := by go_simp
    have qh1_11 : (w10.alloc (.cells #[.int .i64 PN, .slice ah PL.length ch] 25)).cell? ⟨w10.heap.size, 1, none⟩ = some (.slice ah PL.length ch) := by go_simp
    have zh_11 : w10.heap.size < (w10.alloc (.cells #[.int .i64 PN, .slice ah PL.length ch] 25)).heap.size := by simp <;> omega
    generalize (w10.alloc (.cells #[.int .i64 PN, .slice ah PL.length ch] 25)) = w11 at hb11 H11 SZ11 G_11 H_11 X_11 Y_11 qe0_11 qe1_11 qe2_11 qg0_11 qg1_11 qh0_11 qh1_11 qk0_11 qk1_11 qx0_11 qx1_11 qx2_11 qy0_11 qy1_11 qy2_11 ze_11 zg_11 zh_11 zk_11 zx_11 zy_11 ⊢
    have ZBh := Lib.hid zh_11
    clear qg0_10 qg1_10 zg_10 qx0_10 qx1_10 qx2_10 zx_10 qy0_10 qy1_10 qy2_10 zy_10 qk0_10 qk1_10 zk_10 qe0_10 qe1_10 qe2_10 ze_10 G_10 X_10 Y_10 H_10
    go_wp2_with fail
    refine (viewSame m src m src L L _ _ _ X_11.out.rowI Y_11.out.rowI (by have := HLL.out; omega) (by have := HLL.out; omega)).mono ?_
    rintro e w12 ⟨hS, hb12⟩
    have H12 := bel_trans H11 hb12
    have SZ12 := Lib.hid hb12.size
    have qg0_12 := (hb12.cell (p := ⟨w1.heap.size, 0, none⟩) zg_11).trans qg0_11
    have qg1_12 := (hb12.cell (p := ⟨w1.heap.size, 1, none⟩) zg_11).trans qg1_11
    have zg_12 := Nat.lt_of_lt_of_le zg_11 hb12.size
    have qx0_12 := (hb12.cell (p := ⟨w3.heap.size, 0, none⟩) zx_11).trans qx0_11
    have qx1_12 := (hb12.cell (p := ⟨w3.heap.size, 1, none⟩) zx_11).trans qx1_11
    have qx2_12 := (hb12.cell (p := ⟨w3.heap.size, 2, none⟩) zx_11).trans qx2_11
    have zx_12 := Nat.lt_of_lt_of_le zx_11 hb12.size
    have qy0_12 := (hb12.cell (p := ⟨w5.heap.size, 0, none⟩) zy_11).trans qy0_11
    have qy1_12 := (hb12.cell (p := ⟨w5.heap.size, 1, none⟩) zy_11).trans qy1_11
    have qy2_12 := (hb12.cell (p := ⟨w5.heap.size, 2, none⟩) zy_11).trans qy2_11
    have zy_12 := Nat.lt_of_lt_of_le zy_11 hb12.size
    have qk0_12 := (hb12.cell (p := ⟨w7.heap.size, 0, none⟩) zk_11).trans qk0_11
    have qk1_12 := (hb12.cell (p := ⟨w7.heap.size, 1, none⟩) zk_11).trans qk1_11
    have zk_12 := Nat.lt_of_lt_of_le zk_11 hb12.size
    have qe0_12 := (hb12.cell (p := ⟨w7.heap.size + 1, 0, none⟩) ze_11).trans qe0_11
    have qe1_12 := (hb12.cell (p := ⟨w7.heap.size + 1, 1, none⟩) ze_11).trans qe1_11
    have qe2_12 := (hb12.cell (p := ⟨w7.heap.size + 1, 2, none⟩) ze_11).trans qe2_11
    have ze_12 := Nat.lt_of_lt_of_le ze_11 hb12.size
    have qh0_12 := (hb12.cell (p := ⟨w10.heap.size, 0, none⟩) zh_11).trans qh0_11
    have qh1_12 := (hb12.cell (p := ⟨w10.heap.size, 1, none⟩) zh_11).trans qh1_11
    have zh_12 := Nat.lt_of_lt_of_le zh_11 hb12.size
    have G_12 := Lib.hid (G_11.out.keep hb12)
    have X_12 := Lib.hid (X_11.out.keep hb12)
    have Y_12 := Lib.hid (Y_11.out.keep hb12)
    have H_12 := Lib.hid (H_11.out.keep hb12)
    rw [vSame_self] at hS
    subst hS
    clear qg0_11 qg1_11 zg_11 qx0_11 qx1_11 qx2_11 zx_11 qy0_11 qy1_11 qy2_11 zy_11 qk0_11 qk1_11 zk_11 qe0_11 qe1_11 qe2_11 ze_11 G_11 X_11 Y_11 H_11 qh0_11 qh1_11 zh_11
    cases had
    · cases pb
      · go_wp2_with fail
        refine (viewSame m src m src L L _ _ _ X_12.out.rowI Y_12.out.rowI (by have := HLL.out; omega) (by have := HLL.out; omega)).mono ?_
        rintro e w13 ⟨hS, hb13⟩
        have H13 := bel_trans H12 hb13
        have SZ13 := Lib.hid hb13.size
        have qg0_13 := (hb13.cell (p := ⟨w1.heap.size, 0, none⟩) zg_12).trans qg0_12
        have qg1_13 := (hb13.cell (p := ⟨w1.heap.size, 1, none⟩) zg_12).trans qg1_12
        have zg_13 := Nat.lt_of_lt_of_le zg_12 hb13.size
        have qx0_13 := (hb13.cell (p := ⟨w3.heap.size, 0, none⟩) zx_12).trans qx0_12
        have qx1_13 := (hb13.cell (p := ⟨w3.heap.size, 1, none⟩) zx_12).trans qx1_12
        have qx2_13 := (hb13.cell (p := ⟨w3.heap.size, 2, none⟩) zx_12).trans qx2_12
        have zx_13 := Nat.lt_of_lt_of_le zx_12 hb13.size
        have qy0_13 := (hb13.cell (p := ⟨w5.heap.size, 0, none⟩) zy_12).trans qy0_12
        have qy1_13 := (hb13.cell (p := ⟨w5.heap.size, 1, none⟩) zy_12).trans qy1_12
        have qy2_13 := (hb13.cell (p := ⟨w5.heap.size, 2, none⟩) zy_12).trans qy2_12
        have zy_13 := Nat.lt_of_lt_of_le zy_12 hb13.size
        have qk0_13 := (hb13.cell (p := ⟨w7.heap.size, 0, none⟩) zk_12).trans qk0_12
        have qk1_13 := (hb13.cell (p := ⟨w7.heap.size, 1, none⟩) zk_12).trans qk1_12
        have zk_13 := Nat.lt_of_lt_of_le zk_12 hb13.size
        have qe0_13 := (hb13.cell (p := ⟨w7.heap.size + 1, 0, none⟩) ze_12).trans qe0_12
        have qe1_13 := (hb13.cell (p := ⟨w7.heap.size + 1, 1, none⟩) ze_12).trans qe1_12
        have qe2_13 := (hb13.cell (p := ⟨w7.heap.size + 1, 2, none⟩) ze_12).trans qe2_12
        have ze_13 := Nat.lt_of_lt_of_le ze_12 hb13.size
        have qh0_13 := (hb13.cell (p := ⟨w10.heap.size, 0, none⟩) zh_12).trans qh0_12
        have qh1_13 := (hb13.cell (p := ⟨w10.heap.size, 1, none⟩) zh_12).trans qh1_12
        have zh_13 := Nat.lt_of_lt_of_le zh_12 hb13.size
        have G_13 := Lib.hid (G_12.out.keep hb13)
        have X_13 := Lib.hid (X_12.out.keep hb13)
        have Y_13 := Lib.hid (Y_12.out.keep hb13)
        have H_13 := Lib.hid (H_12.out.keep hb13)
        rw [vSame_self] at hS
        subst hS
        clear Y_12 qg1_12 qk0_12 qh1_12 qx0_12 qe0_12 G_12 qy2_12 qe1_12 zx_12 H_12 zy_12 qh0_12 X_12 zg_12 qe2_12 qk1_12 zh_12 zk_12 qg0_12 qy1_12 qy0_12 qx1_12 ze_12 qx2_12
        go_wp2
        go_ret
        exact ⟨rfl, H13⟩
      · obtain ⟨hpt, rfl, rfl⟩ := HFA.out rfl
        have hfd := HWF.out rfl
        have hpv := putB_val9 hpt
        have hpl40 := (putB_iff.1 hpt).2.2
        have honz := onOk_of hpv HG.out.2.1 HG.out.2.2.1
        obtain ⟨P, hP⟩ : ∃ P, P = pL es (x, y, z) := ⟨_, rfl⟩
        obtain ⟨L2, hL2b⟩ : ∃ L2, L2 = vRt m (N : Int) (pL es (x, y, z)) src := ⟨_, rfl⟩
        have hfi : ∀ k : Nat, k < N → bBet m (L.getD k 0) (L2.getD k 0) = false := fun k hk => by
          rw [HL2.out, hL2b]
          refine bBet_no (vMore HG.out.2.2.1 HG.out.2.2.2 (eAll_of hpv) (fun d hd => (pL_iff HG.out.1 _ _).2 (.inr ⟨hd, fun hc => ?_⟩)) HG.out.2.1.1 (by have := HG.out.2.1; omega) (by omega))
          have := (fdE_iff HG.out.1 x y).2 ⟨d, hd, hc⟩
          rw [hfd] at this
          cases this
        have HFI := Lib.hid hfi
        have hlz : L2.length = N := by rw [hL2b, vRt_length]; omega
        have HLZ := Lib.hid hlz
        have hvz := fun s w (h : RowE w s (pL es (x, y, z))) => viewOf (N : Int) m src (pL es (x, y, z)) s w h (by omega)
        rw [show stM (N : Int) (pL es (x, y, z)) m src = m by unfold stM; rw [if_pos honz], show stA (N : Int) (pL es (x, y, z)) m src = src by unfold stA; rw [if_pos honz], show voL (N : Int) (pL es (x, y, z)) m src = vRt m (N : Int) (pL es (x, y, z)) src by unfold voL; rw [if_pos honz]; rfl, honz] at hvz
        have HVz := Lib.hid hvz
        clear hvz
        rw [← hL2b] at HVz
        rw [← hP] at HVz hpl40
        have HH := H_12
        rw [← hP] at HH ⊢
        have qh1 := qh1_12
        rw [← hP] at qh1
        clear H_12 qh1_12
        have H_12 := HH
        have qh1_12 := qh1
        clear HH qh1
        clear honz hfi hlz hL2b hP hpt hfd hpv
        go_wp2_with fail
        refine (HVz.out _ _ H_12.out.edges).mono ?_
        rintro e w13 ⟨vz, rfl, howz, hokz, hb13⟩
        have H13 := bel_trans H12 hb13
        have SZ13 := Lib.hid hb13.size
        have qg0_13 := (hb13.cell (p := ⟨w1.heap.size, 0, none⟩) zg_12).trans qg0_12
        have qg1_13 := (hb13.cell (p := ⟨w1.heap.size, 1, none⟩) zg_12).trans qg1_12
        have zg_13 := Nat.lt_of_lt_of_le zg_12 hb13.size
        have qx0_13 := (hb13.cell (p := ⟨w3.heap.size, 0, none⟩) zx_12).trans qx0_12
        have qx1_13 := (hb13.cell (p := ⟨w3.heap.size, 1, none⟩) zx_12).trans qx1_12
        have qx2_13 := (hb13.cell (p := ⟨w3.heap.size, 2, none⟩) zx_12).trans qx2_12
        have zx_13 := Nat.lt_of_lt_of_le zx_12 hb13.size
        have qy0_13 := (hb13.cell (p := ⟨w5.heap.size, 0, none⟩) zy_12).trans qy0_12
        have qy1_13 := (hb13.cell (p := ⟨w5.heap.size, 1, none⟩) zy_12).trans qy1_12
        have qy2_13 := (hb13.cell (p := ⟨w5.heap.size, 2, none⟩) zy_12).trans qy2_12
        have zy_13 := Nat.lt_of_lt_of_le zy_12 hb13.size
        have qk0_13 := (hb13.cell (p := ⟨w7.heap.size, 0, none⟩) zk_12).trans qk0_12
        have qk1_13 := (hb13.cell (p := ⟨w7.heap.size, 1, none⟩) zk_12).trans qk1_12
        have zk_13 := Nat.lt_of_lt_of_le zk_12 hb13.size
        have qe0_13 := (hb13.cell (p := ⟨w7.heap.size + 1, 0, none⟩) ze_12).trans qe0_12
        have qe1_13 := (hb13.cell (p := ⟨w7.heap.size + 1, 1, none⟩) ze_12).trans qe1_12
        have qe2_13 := (hb13.cell (p := ⟨w7.heap.size + 1, 2, none⟩) ze_12).trans qe2_12
        have ze_13 := Nat.lt_of_lt_of_le ze_12 hb13.size
        have qh0_13 := (hb13.cell (p := ⟨w10.heap.size, 0, none⟩) zh_12).trans qh0_12
        have qh1_13 := (hb13.cell (p := ⟨w10.heap.size, 1, none⟩) zh_12).trans qh1_12
        have zh_13 := Nat.lt_of_lt_of_le zh_12 hb13.size
        have G_13 := Lib.hid (G_12.out.keep hb13)
        have X_13 := Lib.hid (X_12.out.keep hb13)
        have Y_13 := Lib.hid (Y_12.out.keep hb13)
        have H_13 := Lib.hid (H_12.out.keep hb13)
        obtain ⟨az, cz, rfl, hz9⟩ := id howz
        clear hz9 hokz
        have Z_13 := Lib.hid (show InR true w13 w12.heap.size w13.heap.size _ L2.length 1 (cellI L2) from howz)
        clear Y_12 qg1_12 qk0_12 qx0_12 qe0_12 G_12 qy2_12 qe1_12 zx_12 zy_12 qh0_12 X_12 zg_12 qe2_12 qk1_12 zh_12 zk_12 qg0_12 qy1_12 qy0_12 qx1_12 ze_12 qx2_12 H_12 qh1_12
        clear howz
        go_wp2_with fail
        have hb14 : Below w13.heap.size w13 (w13.alloc (.cells #[.int .i64 m, .int .i64 src, .slice az L2.length cz] 30)) := (Below.refl _ _).alloc (by simp <;> omega) _
        have H14 := bel_trans H13 hb14
        have SZ14 := Lib.hid hb14.size
        have qg0_14 := (hb14.cell (p := ⟨w1.heap.size, 0, none⟩) zg_13).trans qg0_13
        have qg1_14 := (hb14.cell (p := ⟨w1.heap.size, 1, none⟩) zg_13).trans qg1_13
        have zg_14 := Nat.lt_of_lt_of_le zg_13 hb14.size
        have qx0_14 := (hb14.cell (p := ⟨w3.heap.size, 0, none⟩) zx_13).trans qx0_13
        have qx1_14 := (hb14.cell (p := ⟨w3.heap.size, 1, none⟩) zx_13).trans qx1_13
        have qx2_14 := (hb14.cell (p := ⟨w3.heap.size, 2, none⟩) zx_13).trans qx2_13
        have zx_14 := Nat.lt_of_lt_of_le zx_13 hb14.size
        have qy0_14 := (hb14.cell (p := ⟨w5.heap.size, 0, none⟩) zy_13).trans qy0_13
        have qy1_14 := (hb14.cell (p := ⟨w5.heap.size, 1, none⟩) zy_13).trans qy1_13
        have qy2_14 := (hb14.cell (p := ⟨w5.heap.size, 2, none⟩) zy_13).trans qy2_13
        have zy_14 := Nat.lt_of_lt_of_le zy_13 hb14.size
        have qk0_14 := (hb14.cell (p := ⟨w7.heap.size, 0, none⟩) zk_13).trans qk0_13
        have qk1_14 := (hb14.cell (p := ⟨w7.heap.size, 1, none⟩) zk_13).trans qk1_13
        have zk_14 := Nat.lt_of_lt_of_le zk_13 hb14.size
        have qe0_14 := (hb14.cell (p := ⟨w7.heap.size + 1, 0, none⟩) ze_13).trans qe0_13
        have qe1_14 := (hb14.cell (p := ⟨w7.heap.size + 1, 1, none⟩) ze_13).trans qe1_13
        have qe2_14 := (hb14.cell (p := ⟨w7.heap.size + 1, 2, none⟩) ze_13).trans qe2_13
        have ze_14 := Nat.lt_of_lt_of_le ze_13 hb14.size
        have qh0_14 := (hb14.cell (p := ⟨w10.heap.size, 0, none⟩) zh_13).trans qh0_13
        have qh1_14 := (hb14.cell (p := ⟨w10.heap.size, 1, none⟩) zh_13).trans qh1_13
        have zh_14 := Nat.lt_of_lt_of_le zh_13 hb14.size
        have G_14 := Lib.hid (G_13.out.keep hb14)
        have X_14 := Lib.hid (X_13.out.keep hb14)
        have Y_14 := Lib.hid (Y_13.out.keep hb14)
        have H_14 := Lib.hid (H_13.out.keep hb14)
        have Z_14 := Lib.hid (Z_13.out.keep hb14)
        have qz0_14 : (w13.alloc (.cells #[.int .i64 m, .int .i64 src, .slice az L2.length cz] 30)).cell? ⟨w13.heap.size, 0, none⟩ = some (.int .i64 m) := by go_simp
        have qz1_14 : (w13.alloc (.cells #[.int .i64 m, .int .i64 src, .slice az L2.length cz] 30)).cell? ⟨w13.heap.size, 1, none⟩ = some (.int .i64 src) := by go_simp
        have qz2_14 : (w13.alloc (.cells #[.int .i64 m, .int .i64 src, .slice az L2.length cz] 30)).cell? ⟨w13.heap.size, 2, none⟩ = some (.slice az L2.length cz) := by go_simp
        have zz_14 : w13.heap.size < (w13.alloc (.cells #[.int .i64 m, .int .i64 src, .slice az L2.length cz] 30)).heap.size := by simp <;> omega
        generalize (w13.alloc (.cells #[.int .i64 m, .int .i64 src, .slice az L2.length cz] 30)) = w14 at hb14 H14 SZ14 G_14 H_14 X_14 Y_14 Z_14 qe0_14 qe1_14 qe2_14 qg0_14 qg1_14 qh0_14 qh1_14 qk0_14 qk1_14 qx0_14 qx1_14 qx2_14 qy0_14 qy1_14 qy2_14 qz0_14 qz1_14 qz2_14 ze_14 zg_14 zh_14 zk_14 zx_14 zy_14 zz_14 ⊢
        have ZBz := Lib.hid zz_14
        clear qg0_13 qg1_13 zg_13 qx0_13 qx1_13 qx2_13 zx_13 qy0_13 qy1_13 qy2_13 zy_13 qk0_13 qk1_13 zk_13 qe0_13 qe1_13 qe2_13 ze_13 qh0_13 qh1_13 zh_13 G_13 X_13 Y_13 H_13 Z_13
        obtain ⟨_, _, hva, hz9⟩ := id X_14.out
        injection hva with hv1 hv2 hv3
        subst hv1
        clear hv2 hv3
        rcases hz9 with hz9 | ⟨bx, ox, rfl, hr1, hr2, hr3, hrc⟩
        · have := HLL.out; omega
        have hcl : ∀ k : Nat, k < N → w14.cell? ⟨bx, ox + k, none⟩ = some (.int .i64 (L.getD k 0)) := fun k h => (hrc k (by have := HLL.out; omega)).1
        have HCX := Lib.hid (And.intro hcl (show bx < w14.heap.size by omega))
        clear hcl hrc hr1 hr2 hr3
        obtain ⟨_, _, hva, hz9⟩ := id Z_14.out
        injection hva with hv1 hv2 hv3
        subst hv1
        clear hv2 hv3
        rcases hz9 with hz9 | ⟨bz, oz, rfl, hr1, hr2, hr3, hrc⟩
        · have := HLZ.out; omega
        have hcl : ∀ k : Nat, k < N → w14.cell? ⟨bz, oz + k, none⟩ = some (.int .i64 (L2.getD k 0)) := fun k h => (hrc k (by have := HLZ.out; omega)).1
        have HCZ := Lib.hid (And.intro hcl (show bz < w14.heap.size by omega))
        clear hcl hrc hr1 hr2 hr3
        go_wp2_with fail
        go_loopw [20] (fun c wr => ∃ k : Nat, k ≤ N ∧ c = .int .i64 k ∧ Hid (Below w14.heap.size w14 wr)) (fun c _ => N - (intOf c).toNat)
        case atStart => exact ⟨0, Nat.zero_le _, rfl, Lib.hid (Below.refl _ _)⟩
        case round =>
          obtain ⟨k, hk, rfl, HBW⟩ := hrel
          have sW := HBW.out.size
          have qg0_r := (HBW.out.cell (p := ⟨w1.heap.size, 0, none⟩) zg_14).trans qg0_14
          have qg1_r := (HBW.out.cell (p := ⟨w1.heap.size, 1, none⟩) zg_14).trans qg1_14
          have zg_r := Nat.lt_of_lt_of_le zg_14 HBW.out.size
          have qx0_r := (HBW.out.cell (p := ⟨w3.heap.size, 0, none⟩) zx_14).trans qx0_14
          have qx1_r := (HBW.out.cell (p := ⟨w3.heap.size, 1, none⟩) zx_14).trans qx1_14
          have qx2_r := (HBW.out.cell (p := ⟨w3.heap.size, 2, none⟩) zx_14).trans qx2_14
          have zx_r := Nat.lt_of_lt_of_le zx_14 HBW.out.size
          have qz0_r := (HBW.out.cell (p := ⟨w13.heap.size, 0, none⟩) zz_14).trans qz0_14
          have qz1_r := (HBW.out.cell (p := ⟨w13.heap.size, 1, none⟩) zz_14).trans qz1_14
          have qz2_r := (HBW.out.cell (p := ⟨w13.heap.size, 2, none⟩) zz_14).trans qz2_14
          have zz_r := Nat.lt_of_lt_of_le zz_14 HBW.out.size
          by_cases hlt : k < N
          · have hlt' : (k : Int) < N := by omega
            have hkl : k < L.length := by have := HLL.out; omega
            have hkl' : (k : Int) < L.length := by have := HLL.out; omega
            have hkz : k < L2.length := by have := HLZ.out; omega
            have hkz' : (k : Int) < L2.length := by have := HLZ.out; omega
            have dx9 := (HBW.out.cell (p := ⟨bx, ox + k, none⟩) HCX.out.2).trans (HCX.out.1 k hlt)
            have dz9 := (HBW.out.cell (p := ⟨bz, oz + k, none⟩) HCZ.out.2).trans (HCZ.out.1 k hlt)
            have e1 := HFI.out k hlt
            obtain ⟨P9, hP9⟩ : ∃ P9, P9 = L.getD k 0 := ⟨_, rfl⟩
            obtain ⟨Q9, hQ9⟩ : ∃ Q9, Q9 = L2.getD k 0 := ⟨_, rfl⟩
            rw [← hP9] at dx9 e1
            rw [← hQ9] at dz9 e1
            have E1 := Lib.hid e1
            clear hP9 hQ9 e1
            go_wp2_with fail
            have zcx : bx < wr.heap.size := Nat.lt_of_lt_of_le HCX.out.2 HBW.out.size
            have zcz : bz < wr.heap.size := Nat.lt_of_lt_of_le HCZ.out.2 HBW.out.size
            have hold : ∀ w' : World, Below wr.heap.size wr w' → (w'.cell? ⟨w3.heap.size, 2, none⟩ = some (.slice (some ⟨bx, ox, none⟩) L.length cx) ∧ w'.cell? ⟨bx, ox + k, none⟩ = some (.int .i64 P9) ∧ w'.cell? ⟨w13.heap.size, 2, none⟩ = some (.slice (some ⟨bz, oz, none⟩) L2.length cz) ∧ w'.cell? ⟨bz, oz + k, none⟩ = some (.int .i64 Q9)) := fun w' h => ⟨(h.cell (p := ⟨w3.heap.size, 2, none⟩) zx_r).trans qx2_r, (h.cell (p := ⟨bx, ox + k, none⟩) zcx).trans dx9, (h.cell (p := ⟨w13.heap.size, 2, none⟩) zz_r).trans qz2_r, (h.cell (p := ⟨bz, oz + k, none⟩) zcz).trans dz9⟩
            have HOLD := Lib.hid hold
            clear hold
            go_region_held3 (fun w' : World => w'.cell? ⟨w3.heap.size, 2, none⟩ = some (.slice (some ⟨bx, ox, none⟩) L.length cx) ∧ w'.cell? ⟨bx, ox + k, none⟩ = some (.int .i64 P9) ∧ w'.cell? ⟨w13.heap.size, 2, none⟩ = some (.slice (some ⟨bz, oz, none⟩) L2.length cz) ∧ w'.cell? ⟨bz, oz + k, none⟩ = some (.int .i64 Q9)) (first | exact HOLD.out _ ((Below.refl _ _).drew) | exact HOLD.out _ (bel_trans ((Below.refl _ _).drew) hb5)) (first | (go_at_call 19; (with_reducible refine (iIsBetter m _ _ _).mono ?_); rintro e w15 ⟨hS, hb5⟩; rw [E1.out] at hS; subst hS))
            have hq5 : Below wr.heap.size wr w15 := bel_trans ((Below.refl _ _).drew) hb5
            clear hb5
            go_wp2
            go_roundw
            case rel => first | exact ⟨k + 1, by omega, by go_num, Lib.hid (bel_trans HBW.out hq5)⟩ | exact ⟨_, ⟨k + 1, by omega, by go_num, Lib.hid (bel_trans HBW.out hq5)⟩, rfl⟩
            case measure => simp [intOf]; omega
          · have hke : k = N := by omega
            have hkk : ¬ ((k : Int) < N) := by omega
            subst hke
            clear hlt
            go_wp2
            go_ret
            exact ⟨rfl, bel_trans H14 HBW.out⟩
    · go_wp2_with fail
      refine (viewSame m src m src L L _ _ _ X_12.out.rowI Y_12.out.rowI (by have := HLL.out; omega) (by have := HLL.out; omega)).mono ?_
      rintro e w13 ⟨hS, hb13⟩
      have H13 := bel_trans H12 hb13
      have SZ13 := Lib.hid hb13.size
      have qg0_13 := (hb13.cell (p := ⟨w1.heap.size, 0, none⟩) zg_12).trans qg0_12
      have qg1_13 := (hb13.cell (p := ⟨w1.heap.size, 1, none⟩) zg_12).trans qg1_12
      have zg_13 := Nat.lt_of_lt_of_le zg_12 hb13.size
      have qx0_13 := (hb13.cell (p := ⟨w3.heap.size, 0, none⟩) zx_12).trans qx0_12
      have qx1_13 := (hb13.cell (p := ⟨w3.heap.size, 1, none⟩) zx_12).trans qx1_12
      have qx2_13 := (hb13.cell (p := ⟨w3.heap.size, 2, none⟩) zx_12).trans qx2_12
      have zx_13 := Nat.lt_of_lt_of_le zx_12 hb13.size
      have qy0_13 := (hb13.cell (p := ⟨w5.heap.size, 0, none⟩) zy_12).trans qy0_12
      have qy1_13 := (hb13.cell (p := ⟨w5.heap.size, 1, none⟩) zy_12).trans qy1_12
      have qy2_13 := (hb13.cell (p := ⟨w5.heap.size, 2, none⟩) zy_12).trans qy2_12
      have zy_13 := Nat.lt_of_lt_of_le zy_12 hb13.size
      have qk0_13 := (hb13.cell (p := ⟨w7.heap.size, 0, none⟩) zk_12).trans qk0_12
      have qk1_13 := (hb13.cell (p := ⟨w7.heap.size, 1, none⟩) zk_12).trans qk1_12
      have zk_13 := Nat.lt_of_lt_of_le zk_12 hb13.size
      have qe0_13 := (hb13.cell (p := ⟨w7.heap.size + 1, 0, none⟩) ze_12).trans qe0_12
      have qe1_13 := (hb13.cell (p := ⟨w7.heap.size + 1, 1, none⟩) ze_12).trans qe1_12
      have qe2_13 := (hb13.cell (p := ⟨w7.heap.size + 1, 2, none⟩) ze_12).trans qe2_12
      have ze_13 := Nat.lt_of_lt_of_le ze_12 hb13.size
      have qh0_13 := (hb13.cell (p := ⟨w10.heap.size, 0, none⟩) zh_12).trans qh0_12
      have qh1_13 := (hb13.cell (p := ⟨w10.heap.size, 1, none⟩) zh_12).trans qh1_12
      have zh_13 := Nat.lt_of_lt_of_le zh_12 hb13.size
      have G_13 := Lib.hid (G_12.out.keep hb13)
      have X_13 := Lib.hid (X_12.out.keep hb13)
      have Y_13 := Lib.hid (Y_12.out.keep hb13)
      have H_13 := Lib.hid (H_12.out.keep hb13)
      rw [vSame_self] at hS
      subst hS
      clear Y_12 qg1_12 qk0_12 qh1_12 qx0_12 qe0_12 G_12 qy2_12 qe1_12 zx_12 H_12 zy_12 qh0_12 X_12 zg_12 qe2_12 qk1_12 zh_12 zk_12 qg0_12 qy1_12 qy0_12 qx1_12 ze_12 qx2_12
      go_wp2
      go_ret
      exact ⟨rfl, H13⟩

set_option maxRecDepth 100000 in
theorem lifted (os : Os) (started : os.Started) (H : Type) (enc : TypeId × Value → H) :
    ReturnsInHanded {} Try.checked os 7 .any (Rows.fnViewMoreSpec.pre6 enc Try.prog Try.f7 Rows.fnViewMoreRow.domain false) (Rows.fnViewMoreSpec.post enc Try.prog Try.f7 false true false false) := by
  refine returnsInHanded_of_change (C := Try.checked) own started (by kernel_rfl) Try.func7
    (ChangeSpec.witness6 (enc := enc) (C := Try.checked) false ⟨#[], #[.slice none 0 0, .slice none 0 0], []⟩ 8 (by kernel_rfl) (by kernel_rfl) (by kernel_rfl) (by kernel_rfl)) ?_
  intro W base args ds gs before hval0 hW hcnd _
  have hval : ∀ (j : Nat) t v, Try.f7.params[j]? = some t → args[j]? = some v → Value.okWide Try.prog W .any base t v := hval0
  have hW' := hW
  obtain ⟨p, q, hA0, hV, rfl, hfz, hnd⟩ := hW
  have hA : DataW.TrodAll enc Try.prog W 0 (fun _ => true) true Try.f7.params.toList args.toList ds p := hA0
  rw [Try.params7] at hA hval
  obtain ⟨v0, vs0, d0, ds0, p0, q0, hargs, rfl, rfl, h0, r0⟩ := trodAll_cons hA
  obtain ⟨v1, vs1, d1, ds1, p1, q1, rfl, rfl, rfl, h1, r1⟩ := trodAll_cons r0
  obtain ⟨rfl, rfl, rfl⟩ := trodAll_nil r1
  obtain rfl : args = #[v0, v1] := by cases args; simp_all
  obtain ⟨rfl, rfl⟩ := trodVars_none hV
  obtain ⟨a0, len0, cap0, rfl⟩ := okWide_slice Try.underlying22 (hval 0 22 v0 rfl rfl)
  have k0 := h0
  have lt0 : ∀ x ∈ p0, x.block < W.heap.size := by obtain ⟨m, hm⟩ := k0; exact DataW.trod_lt m _ _ _ hm
  obtain ⟨z0, w0⟩ : ∃ zs, IsRow .u8 W a0 len0 cap0 zs := by
    obtain ⟨fuel, hf⟩ := h0
    rcases open_ints Try.underlying22 Try.underlying5 (by kernel_rfl) hf with ⟨hcs, _⟩ | ⟨x, l, c, zs, hcs, _, hl, hm, hz, _, hcell, hwz⟩
    · simp [Value.cells] at hcs
      obtain ⟨rfl, rfl, rfl⟩ := hcs
      exact ⟨[], .inl ⟨rfl, rfl, rfl, rfl⟩⟩
    · simp [Value.cells] at hcs
      obtain ⟨rfl, rfl, rfl⟩ := hcs
      exact ⟨zs, .inr ⟨_, rfl, hl, hm, by simpa using hz, hcell, hwz⟩⟩
  obtain ⟨a1, len1, cap1, rfl⟩ := okWide_slice Try.underlying22 (hval 1 22 v1 rfl rfl)
  have k1 := h1
  have lt1 : ∀ x ∈ p1, x.block < W.heap.size := by obtain ⟨m, hm⟩ := k1; exact DataW.trod_lt m _ _ _ hm
  obtain ⟨z1, w1⟩ : ∃ zs, IsRow .u8 W a1 len1 cap1 zs := by
    obtain ⟨fuel, hf⟩ := h1
    rcases open_ints Try.underlying22 Try.underlying5 (by kernel_rfl) hf with ⟨hcs, _⟩ | ⟨x, l, c, zs, hcs, _, hl, hm, hz, _, hcell, hwz⟩
    · simp [Value.cells] at hcs
      obtain ⟨rfl, rfl, rfl⟩ := hcs
      exact ⟨[], .inl ⟨rfl, rfl, rfl, rfl⟩⟩
    · simp [Value.cells] at hcs
      obtain ⟨rfl, rfl, rfl⟩ := hcs
      exact ⟨zs, .inr ⟨_, rfl, hl, hm, by simpa using hz, hcell, hwz⟩⟩
  clear hA0 hval0
  refine (walk a0 len0 cap0 z0 a1 len1 cap1 z1 W w0 w1).mono fun e W' ⟨he, bel⟩ => ?_
  subst he
  exact ⟨_, rfl, _, _, _, [], _, [], hW', trodAll_mk1 (shut_bool Try.underlying4 _), (trodAll_cons_mk (Below.trod laidOut (by kernel_rfl) (of_decide_eq_true (by kernel_rfl)) k0 bel lt0) (trodAll_cons_mk (Below.trod laidOut (by kernel_rfl) (of_decide_eq_true (by kernel_rfl)) k1 bel lt1) trodAll_mk0)), rfl, bel.frame _, fun h => by cases h⟩

theorem over : Rows.fnViewMoreRow.holds Try.pinned (OpenSpec.ofChange Rows.fnViewMoreSpec) :=
  OpenClaim.holds_of_wide 7 Try.f7 rfl rfl rfl rfl rfl rfl rfl ⟨rfl, rfl, rfl, rfl, rfl⟩ rfl rfl rfl rfl rfl (by kernel_rfl) Try.func7 (by kernel_rfl)
    (of_decide_eq_true (by kernel_rfl)) (by unfold Func.isWrapper; first | (rw [if_pos (by decide +kernel)]; kernel_rfl) | (rw [if_neg (by decide +kernel)]; exact ⟨rfl, rfl⟩))
    (fun os started H enc _ => lifted os started H enc)

theorem proved : Rows.FnViewMoreSaid := over
end Go.Proofs.Ytaoecegnjhbagaa.fnViewMore
