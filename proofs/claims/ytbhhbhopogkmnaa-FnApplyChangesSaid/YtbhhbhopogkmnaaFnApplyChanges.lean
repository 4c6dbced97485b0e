/-
  Proved: changes are made one after the other (the law FnApplyChanges returns true for every input and leaves it as it was), with no further condition.
-/
import Derived.Test.YtbhhbhopogkmnaaRows
import Derived.Test.YtbhhbhopogkmnaaPartsC
import Derived.Test.YtbhhbhopogkmnaaChgQ
import Derived.Test.YtbhhbhopogkmnaaCase9
import Derived.Test.YtbhhbhopogkmnaaEdgeM
import Derived.WalkKit
import Derived.ProofKit
import Derived.OpenShut
import Derived.ShutString
import Derived.ChangeOld
import Derived.Below
namespace Go.Proofs.Ytbhhbhopogkmnaa.fnApplyChanges
open Go.Proofs.Ytbhhbhopogkmnaa Go.BigFrame
open Go.ChangeShapes Go.WideShapes Go.ChangeAt Go.RowKit
open Go.ChangeMaps (open_string shut_string)
set_option linter.unusedVariables false

theorem own : ownKnob Try.prog.godebug = none := by kernel_rfl
theorem laidOut : laidOutB Try.prog = true := by kernel_rfl

def IsRow (k : IntKind) (w : World) (a : Option Addr) (len cap : Nat) (zs : List Int) : Prop :=
  (a = none ∧ len = 0 ∧ cap = 0 ∧ zs = []) ∨
  ∃ x, a = some x ∧ len ≤ cap ∧ cap ≤ maxLen ∧ zs.length = cap ∧ (∀ i, i < zs.length → w.cell? (x.add i) = some (.int k (zs.getD i 0))) ∧ ∀ n ∈ zs, (Lit.int k n).wf = true

theorem bytes_of {w : World} {a : Option Addr} {len cap : Nat} {zs : List Int} (h : IsRow .u8 w a len cap zs) : Bytes w a len ∧ len ≤ cap ∧ len ≤ 9223372036854775807 := by
  rcases h with ⟨rfl, rfl, rfl, rfl⟩ | ⟨x, rfl, hl, hm, hz, hc, hw⟩
  · exact ⟨.inl rfl, Nat.le_refl _, by omega⟩
  · unfold maxLen at hm
    refine ⟨?_, hl, by omega⟩
    by_cases h0 : len = 0
    · exact .inl h0
    · obtain ⟨b, off, rfl, hc'⟩ := ints_at hc (by omega)
      exact .inr ⟨b, off, rfl, World.block_lt_of_cell? _ _ (hc' 0 (by omega)), fun i hi => ⟨zs[i]?.getD 0, (range_u8 hw i).1, (range_u8 hw i).2, hc' i (by omega)⟩⟩

set_option maxRecDepth 100000 in
set_option maxHeartbeats 4000000 in
theorem walk (a0 : Option Addr) (len0 cap0 : Nat) (z0 : List Int) (w : World) (w0 : IsRow .u8 w a0 len0 cap0 z0) :
    Calls Try.prog 4 #[.slice a0 len0 cap0] w fun e w' => e = .returned (.bool true) ∧ Below w.heap.size w w' := by
  obtain ⟨hby, hcp, hn⟩ := bytes_of w0
  have HB0 := Lib.hid hby
  clear hby w0
  by_cases h0 : 1048576 < len0
  · go_enter Try.func4, Try.ntmps4
    go_wp2
    go_ret
    exact ⟨rfl, Below.refl _ _⟩
  have h0' : len0 ≤ 1048576 := by omega
  clear h0
  obtain ⟨w0, hw0⟩ : ∃ w0, w0 = w := ⟨_, rfl⟩
  subst hw0
  have H0 := Below.refl w0.heap.size w0
  go_enter Try.func4, Try.ntmps4
  go_wp2_with fail
  refine (dDrawApplyChanges a0 len0 cap0 _ HB0.out hcp (by omega)).mono ?_
  rintro e w1 ⟨n, es, v, cs, t, rfl, ⟨hl1, hl2⟩, ⟨hrow, hok⟩, ⟨hrowc, hokc⟩, hb1⟩
  have H1 := bel_trans H0 hb1
  have SZ1 := Lib.hid hb1.size
  obtain ⟨va, vc, rfl, hz9⟩ := id hrow
  obtain ⟨ta, tc, rfl, hz8⟩ := id hrowc
  have HOKG := Lib.hid hok
  have HOKC := Lib.hid hokc
  clear hz9 hz8 hok hokc
  have C_1 := Lib.hid (show InR true w1 w0.heap.size w1.heap.size _ cs.length 4 (cellCh cs) from hrowc)
  clear hrowc
  have G_1 := Lib.hid (hrow)
  clear hrow
  go_wp2_with fail
  have hb2 : Below w1.heap.size w1 (w1.alloc (.cells #[.int .i64 n, .slice va es.length vc] 34)) := (Below.refl _ _).alloc (by simp <;> omega) _
  have H2 := bel_trans H1 hb2
  have SZ2 := Lib.hid hb2.size
  have G_2 := Lib.hid (G_1.out.keep hb2)
  have C_2 := Lib.hid (C_1.out.keep hb2)
  have qg0_2 : (w1.alloc (.cells #[.int .i64 n, .slice va es.length vc] 34)).cell? ⟨w1.heap.size, 0, none⟩ = some (.int .i64 n) := by go_simp
  have qg1_2 : (w1.alloc (.cells #[.int .i64 n, .slice va es.length vc] 34)).cell? ⟨w1.heap.size, 1, none⟩ = some (.slice va es.length vc) := by go_simp
  have zg_2 : w1.heap.size < (w1.alloc (.cells #[.int .i64 n, .slice va es.length vc] 34)).heap.size := by simp <;> omega
  generalize (w1.alloc (.cells #[.int .i64 n, .slice va es.length vc] 34)) = w2 at hb2 H2 SZ2 C_2 G_2 qg0_2 qg1_2 zg_2 ⊢
  have ZBg := Lib.hid zg_2
  clear C_1 G_1
  have hle2 : es.length ≤ 1048576 := by omega
  have hle3 : cs.length ≤ 1048576 := by omega
  have hst := fun s t w (h1 : RowE w s es) (h2 : RowCh w t cs) (k : okS s) => applyChanges n es cs s t w h1 h2 k hle2 hle3
  have hss := fun s t w (h1 : RowE w s es) (h2 : RowCh w t cs) (k : okS s) => sApplyChanges n es cs s t w h1 h2 k hle2 hle3
  have hcv := fun s t w (h1 : RowE w s es) (h2 : RowCh w t cs) (k : okS s) => changesValid n es cs s t w h1 h2 k hle2 hle3
  cases hk : apB n es cs
  · rw [show apN n es cs = 0 by unfold apN; rw [hk]; rfl, show apR n es cs = [] by unfold apR; rw [hk]; rfl, hk] at hst hss
    rw [hk] at hcv
    have HST := Lib.hid hst
    have HSS := Lib.hid hss
    have HCV := Lib.hid hcv
    clear hst hss hcv hk
    have hen : ([] : List Ed).length ≤ 1048576 := by simp
    go_wp2_with fail
    refine (HST.out _ _ _ G_2.out.edges C_2.out.changes HOKG.out).mono ?_
    rintro e w3 ⟨vx, rfl, howx, hokx, hb3⟩
    have H3 := bel_trans H2 hb3
    have SZ3 := Lib.hid hb3.size
    have qg0_3 := (hb3.cell (p := ⟨w1.heap.size, 0, none⟩) zg_2).trans qg0_2
    have qg1_3 := (hb3.cell (p := ⟨w1.heap.size, 1, none⟩) zg_2).trans qg1_2
    have zg_3 := Nat.lt_of_lt_of_le zg_2 hb3.size
    have G_3 := Lib.hid (G_2.out.keep hb3)
    have C_3 := Lib.hid (C_2.out.keep hb3)
    obtain ⟨ax, cx, rfl, hz9⟩ := id howx
    have HOKx := Lib.hid hokx
    clear hz9 hokx
    have X_3 := Lib.hid (show InR true w3 w2.heap.size w3.heap.size _ ([] : List Ed).length 3 (cellE ([] : List Ed)) from howx)
    clear qg0_2 G_2 C_2 zg_2 qg1_2
    clear howx
    go_wp2_with fail
    have hb4 : Below w3.heap.size w3 (w3.alloc (.cells #[.int .i64 0, .slice ax ([] : List Ed).length cx] 34)) := (Below.refl _ _).alloc (by simp <;> omega) _
    have H4 := bel_trans H3 hb4
    have SZ4 := Lib.hid hb4.size
    have qg0_4 := (hb4.cell (p := ⟨w1.heap.size, 0, none⟩) zg_3).trans qg0_3
    have qg1_4 := (hb4.cell (p := ⟨w1.heap.size, 1, none⟩) zg_3).trans qg1_3
    have zg_4 := Nat.lt_of_lt_of_le zg_3 hb4.size
    have G_4 := Lib.hid (G_3.out.keep hb4)
    have C_4 := Lib.hid (C_3.out.keep hb4)
    have X_4 := Lib.hid (X_3.out.keep hb4)
    have qx0_4 : (w3.alloc (.cells #[.int .i64 0, .slice ax ([] : List Ed).length cx] 34)).cell? ⟨w3.heap.size, 0, none⟩ = some (.int .i64 0) := by go_simp
    have qx1_4 : (w3.alloc (.cells #[.int .i64 0, .slice ax ([] : List Ed).length cx] 34)).cell? ⟨w3.heap.size, 1, none⟩ = some (.slice ax ([] : List Ed).length cx) := by go_simp
    have zx_4 : w3.heap.size < (w3.alloc (.cells #[.int .i64 0, .slice ax ([] : List Ed).length cx] 34)).heap.size := by simp <;> omega
    generalize (w3.alloc (.cells #[.int .i64 0, .slice ax ([] : List Ed).length cx] 34)) = w4 at hb4 H4 SZ4 C_4 G_4 X_4 qg0_4 qg1_4 qx0_4 qx1_4 zg_4 zx_4 ⊢
    have ZBx := Lib.hid zx_4
    clear qg0_3 qg1_3 zg_3 G_3 C_3 X_3
    go_wp2_with fail
    refine (HSS.out _ _ _ G_4.out.edges C_4.out.changes HOKG.out).mono ?_
    rintro e w5 ⟨vu, rfl, howu, hoku, hb5⟩
    have H5 := bel_trans H4 hb5
    have SZ5 := Lib.hid hb5.size
    have qg0_5 := (hb5.cell (p := ⟨w1.heap.size, 0, none⟩) zg_4).trans qg0_4
    have qg1_5 := (hb5.cell (p := ⟨w1.heap.size, 1, none⟩) zg_4).trans qg1_4
    have zg_5 := Nat.lt_of_lt_of_le zg_4 hb5.size
    have qx0_5 := (hb5.cell (p := ⟨w3.heap.size, 0, none⟩) zx_4).trans qx0_4
    have qx1_5 := (hb5.cell (p := ⟨w3.heap.size, 1, none⟩) zx_4).trans qx1_4
    have zx_5 := Nat.lt_of_lt_of_le zx_4 hb5.size
    have G_5 := Lib.hid (G_4.out.keep hb5)
    have C_5 := Lib.hid (C_4.out.keep hb5)
    have X_5 := Lib.hid (X_4.out.keep hb5)
    obtain ⟨au, cu, rfl, hz9⟩ := id howu
    have HOKu := Lib.hid hoku
    clear hz9 hoku
    have U_5 := Lib.hid (show InR true w5 w4.heap.size w5.heap.size _ ([] : List Ed).length 3 (cellE ([] : List Ed)) from howu)
    clear qg0_4 qg1_4 zg_4 G_4 C_4 X_4 qx0_4 qx1_4 zx_4
    clear howu
    go_wp2_with fail
    have hb6 : Below w5.heap.size w5 (w5.alloc (.cells #[.int .i64 0, .slice au ([] : List Ed).length cu] 34)) := (Below.refl _ _).alloc (by simp <;> omega) _
    have H6 := bel_trans H5 hb6
    have SZ6 := Lib.hid hb6.size
    have qg0_6 := (hb6.cell (p := ⟨w1.heap.size, 0, none⟩) zg_5).trans qg0_5
    have qg1_6 := (hb6.cell (p := ⟨w1.heap.size, 1, none⟩) zg_5).trans qg1_5
    have zg_6 := Nat.lt_of_lt_of_le zg_5 hb6.size
    have qx0_6 := (hb6.cell (p := ⟨w3.heap.size, 0, none⟩) zx_5).trans qx0_5
    have qx1_6 := (hb6.cell (p := ⟨w3.heap.size, 1, none⟩) zx_5).trans qx1_5
    have zx_6 := Nat.lt_of_lt_of_le zx_5 hb6.size
    have G_6 := Lib.hid (G_5.out.keep hb6)
    have C_6 := Lib.hid (C_5.out.keep hb6)
    have X_6 := Lib.hid (X_5.out.keep hb6)
    have U_6 := Lib.hid (U_5.out.keep hb6)
    have qu0_6 : (w5.alloc (.cells #[.int .i64 0, .slice au ([] : List Ed).length cu] 34)).cell? ⟨w5.heap.size, 0, none⟩ = some (.int .i64 0) := by go_simp
    have qu1_6 : (w5.alloc (.cells #[.int .i64 0, .slice au ([] : List Ed).length cu] 34)).cell? ⟨w5.heap.size, 1, none⟩ = some (.slice au ([] : List Ed).length cu) := by go_simp
    have zu_6 : w5.heap.size < (w5.alloc (.cells #[.int .i64 0, .slice au ([] : List Ed).length cu] 34)).heap.size := by simp <;> omega
    generalize (w5.alloc (.cells #[.int .i64 0, .slice au ([] : List Ed).length cu] 34)) = w6 at hb6 H6 SZ6 C_6 G_6 U_6 X_6 qg0_6 qg1_6 qu0_6 qu1_6 qx0_6 qx1_6 zg_6 zu_6 zx_6 ⊢
    have ZBu := Lib.hid zu_6
    clear qg0_5 qg1_5 zg_5 qx0_5 qx1_5 zx_5 G_5 C_5 X_5 U_5
    go_wp2_with fail
    refine (graphSame 0 0 ([] : List Ed) ([] : List Ed) _ _ _ X_6.out.edges U_6.out.edges (by omega) (by omega)).mono ?_
    rintro e w7 ⟨hS, hb7⟩
    have H7 := bel_trans H6 hb7
    have SZ7 := Lib.hid hb7.size
    have qg0_7 := (hb7.cell (p := ⟨w1.heap.size, 0, none⟩) zg_6).trans qg0_6
    have qg1_7 := (hb7.cell (p := ⟨w1.heap.size, 1, none⟩) zg_6).trans qg1_6
    have zg_7 := Nat.lt_of_lt_of_le zg_6 hb7.size
    have qx0_7 := (hb7.cell (p := ⟨w3.heap.size, 0, none⟩) zx_6).trans qx0_6
    have qx1_7 := (hb7.cell (p := ⟨w3.heap.size, 1, none⟩) zx_6).trans qx1_6
    have zx_7 := Nat.lt_of_lt_of_le zx_6 hb7.size
    have qu0_7 := (hb7.cell (p := ⟨w5.heap.size, 0, none⟩) zu_6).trans qu0_6
    have qu1_7 := (hb7.cell (p := ⟨w5.heap.size, 1, none⟩) zu_6).trans qu1_6
    have zu_7 := Nat.lt_of_lt_of_le zu_6 hb7.size
    have G_7 := Lib.hid (G_6.out.keep hb7)
    have C_7 := Lib.hid (C_6.out.keep hb7)
    have X_7 := Lib.hid (X_6.out.keep hb7)
    have U_7 := Lib.hid (U_6.out.keep hb7)
    rw [gSame_self] at hS
    subst hS
    clear qg0_6 qg1_6 zg_6 qx0_6 qx1_6 zx_6 G_6 C_6 X_6 U_6 qu0_6 qu1_6 zu_6
    go_wp2_with fail
    refine (HCV.out _ _ _ G_7.out.edges C_7.out.changes HOKG.out).mono ?_
    rintro e w8 ⟨rfl, hb8⟩
    have H8 := bel_trans H7 hb8
    have SZ8 := Lib.hid hb8.size
    have qg0_8 := (hb8.cell (p := ⟨w1.heap.size, 0, none⟩) zg_7).trans qg0_7
    have qg1_8 := (hb8.cell (p := ⟨w1.heap.size, 1, none⟩) zg_7).trans qg1_7
    have zg_8 := Nat.lt_of_lt_of_le zg_7 hb8.size
    have qx0_8 := (hb8.cell (p := ⟨w3.heap.size, 0, none⟩) zx_7).trans qx0_7
    have qx1_8 := (hb8.cell (p := ⟨w3.heap.size, 1, none⟩) zx_7).trans qx1_7
    have zx_8 := Nat.lt_of_lt_of_le zx_7 hb8.size
    have qu0_8 := (hb8.cell (p := ⟨w5.heap.size, 0, none⟩) zu_7).trans qu0_7
    have qu1_8 := (hb8.cell (p := ⟨w5.heap.size, 1, none⟩) zu_7).trans qu1_7
    have zu_8 := Nat.lt_of_lt_of_le zu_7 hb8.size
    have G_8 := Lib.hid (G_7.out.keep hb8)
    have C_8 := Lib.hid (C_7.out.keep hb8)
    have X_8 := Lib.hid (X_7.out.keep hb8)
    have U_8 := Lib.hid (U_7.out.keep hb8)
    clear qg0_7 qg1_7 zg_7 qx0_7 qx1_7 zx_7 qu0_7 qu1_7 zu_7 G_7 C_7 X_7 U_7
    go_wp2_with fail
    refine (graphSame 0 0 ([] : List Ed) ([] : List Ed) _ _ _ X_8.out.edges U_8.out.edges (by omega) (by omega)).mono ?_
    rintro e w9 ⟨hS, hb9⟩
    have H9 := bel_trans H8 hb9
    have SZ9 := Lib.hid hb9.size
    have qg0_9 := (hb9.cell (p := ⟨w1.heap.size, 0, none⟩) zg_8).trans qg0_8
    have qg1_9 := (hb9.cell (p := ⟨w1.heap.size, 1, none⟩) zg_8).trans qg1_8
    have zg_9 := Nat.lt_of_lt_of_le zg_8 hb9.size
    have qx0_9 := (hb9.cell (p := ⟨w3.heap.size, 0, none⟩) zx_8).trans qx0_8
    have qx1_9 := (hb9.cell (p := ⟨w3.heap.size, 1, none⟩) zx_8).trans qx1_8
    have zx_9 := Nat.lt_of_lt_of_le zx_8 hb9.size
    have qu0_9 := (hb9.cell (p := ⟨w5.heap.size, 0, none⟩) zu_8).trans qu0_8
    have qu1_9 := (hb9.cell (p := ⟨w5.heap.size, 1, none⟩) zu_8).trans qu1_8
    have zu_9 := Nat.lt_of_lt_of_le zu_8 hb9.size
    have G_9 := Lib.hid (G_8.out.keep hb9)
    have C_9 := Lib.hid (C_8.out.keep hb9)
    have X_9 := Lib.hid (X_8.out.keep hb9)
    have U_9 := Lib.hid (U_8.out.keep hb9)
    rw [gSame_self] at hS
    subst hS
    clear qg0_8 qg1_8 zg_8 qx0_8 qx1_8 zx_8 qu0_8 qu1_8 zu_8 G_8 C_8 X_8 U_8
    go_wp2_with fail
    refine (HCV.out _ _ _ G_9.out.edges C_9.out.changes HOKG.out).mono ?_
    rintro e w10 ⟨rfl, hb10⟩
    have H10 := bel_trans H9 hb10
    have SZ10 := Lib.hid hb10.size
    have qg0_10 := (hb10.cell (p := ⟨w1.heap.size, 0, none⟩) zg_9).trans qg0_9
    have qg1_10 := (hb10.cell (p := ⟨w1.heap.size, 1, none⟩) zg_9).trans qg1_9
    have zg_10 := Nat.lt_of_lt_of_le zg_9 hb10.size
    have qx0_10 := (hb10.cell (p := ⟨w3.heap.size, 0, none⟩) zx_9).trans qx0_9
    have qx1_10 := (hb10.cell (p := ⟨w3.heap.size, 1, none⟩) zx_9).trans qx1_9
    have zx_10 := Nat.lt_of_lt_of_le zx_9 hb10.size
    have qu0_10 := (hb10.cell (p := ⟨w5.heap.size, 0, none⟩) zu_9).trans qu0_9
    have qu1_10 := (hb10.cell (p := ⟨w5.heap.size, 1, none⟩) zu_9).trans qu1_9
    have zu_10 := Nat.lt_of_lt_of_le zu_9 hb10.size
    have G_10 := Lib.hid (G_9.out.keep hb10)
    have C_10 := Lib.hid (C_9.out.keep hb10)
    have X_10 := Lib.hid (X_9.out.keep hb10)
    have U_10 := Lib.hid (U_9.out.keep hb10)
    clear qg0_9 qg1_9 zg_9 qx0_9 qx1_9 zx_9 qu0_9 qu1_9 zu_9 G_9 C_9 X_9 U_9
    go_wp2
    go_ret
    exact ⟨rfl, H10⟩
  · rw [show apN n es cs = n by unfold apN; rw [if_pos hk], hk] at hst hss
    rw [hk] at hcv
    obtain ⟨c, hc⟩ : ∃ c : Nat, c = cs.length / 2 := ⟨_, rfl⟩
    have hcl : c ≤ cs.length := by omega
    obtain ⟨p1, p2, p3⟩ := parts_ok hk hcl
    have hrl := apR_len n es cs
    have hrl2 := apR_len n es (cs.take c)
    generalize apR n es cs = R at *
    have hra := fun s t w (h1 : RowE w s es) (h2 : RowCh w t (cs.take c)) (k : okS s) => applyChanges n es (cs.take c) s t w h1 h2 k hle2 (by simp; omega)
    rw [show apN n es (cs.take c) = n by unfold apN; rw [if_pos p1], p1] at hra
    have hrb := fun s t w (h1 : RowE w s (apR n es (cs.take c))) (h2 : RowCh w t (cs.drop c)) (k : okS s) => applyChanges n (apR n es (cs.take c)) (cs.drop c) s t w h1 h2 k (by omega) (by simp; omega)
    rw [show apN n (apR n es (cs.take c)) (cs.drop c) = n by unfold apN; rw [if_pos p2], p2, p3] at hrb
    generalize apR n es (cs.take c) = R1 at hra hrb hrl2
    have hcd : ((cs.length : Nat) : Int) / 2 = (c : Int) := by omega
    have hct : Int.tdiv ((cs.length : Nat) : Int) 2 = (c : Int) := by rw [Int.tdiv_eq_ediv_of_nonneg (by omega)]; exact hcd
    have HST := Lib.hid hst
    have HSS := Lib.hid hss
    have HCV := Lib.hid hcv
    have HRA := Lib.hid hra
    have HRB := Lib.hid hrb
    have HCD := Lib.hid hcd
    have HCT := Lib.hid hct
    have HC := Lib.hid hc
    clear hst hss hcv hra hrb hcd hct hc p1 p2 p3 hk
    go_wp2_with fail
    refine (HST.out _ _ _ G_2.out.edges C_2.out.changes HOKG.out).mono ?_
    rintro e w3 ⟨vx, rfl, howx, hokx, hb3⟩
    have H3 := bel_trans H2 hb3
    have SZ3 := Lib.hid hb3.size
    have qg0_3 := (hb3.cell (p := ⟨w1.heap.size, 0, none⟩) zg_2).trans qg0_2
    have qg1_3 := (hb3.cell (p := ⟨w1.heap.size, 1, none⟩) zg_2).trans qg1_2
    have zg_3 := Nat.lt_of_lt_of_le zg_2 hb3.size
    have G_3 := Lib.hid (G_2.out.keep hb3)
    have C_3 := Lib.hid (C_2.out.keep hb3)
    obtain ⟨ax, cx, rfl, hz9⟩ := id howx
    have HOKx := Lib.hid hokx
    clear hz9 hokx
    have X_3 := Lib.hid (show InR true w3 w2.heap.size w3.heap.size _ R.length 3 (cellE R) from howx)
    clear qg0_2 G_2 C_2 zg_2 qg1_2
    clear howx
    go_wp2_with fail
    have hb4 : Below w3.heap.size w3 (w3.alloc (.cells #[.int .i64 n, .slice ax R.length cx] 34)) := (Below.refl _ _).alloc (by simp <;> omega) _
    have H4 := bel_trans H3 hb4
    have SZ4 := Lib.hid hb4.size
    have qg0_4 := (hb4.cell (p := ⟨w1.heap.size, 0, none⟩) zg_3).trans qg0_3
    have qg1_4 := (hb4.cell (p := ⟨w1.heap.size, 1, none⟩) zg_3).trans qg1_3
    have zg_4 := Nat.lt_of_lt_of_le zg_3 hb4.size
    have G_4 := Lib.hid (G_3.out.keep hb4)
    have C_4 := Lib.hid (C_3.out.keep hb4)
    have X_4 := Lib.hid (X_3.out.keep hb4)
    have qx0_4 : (w3.alloc (.cells #[.int .i64 n, .slice ax R.length cx] 34)).cell? ⟨w3.heap.size, 0, none⟩ = some (.int .i64 n) := by go_simp
    have qx1_4 : (w3.alloc (.cells #[.int .i64 n, .slice ax R.length cx] 34)).cell? ⟨w3.heap.size, 1, none⟩ = some (.slice ax R.length cx) := by go_simp
    have zx_4 : w3.heap.size < (w3.alloc (.cells #[.int .i64 n, .slice ax R.length cx] 34)).heap.size := by simp <;> omega
    generalize (w3.alloc (.cells #[.int .i64 n, .slice ax R.length cx] 34)) = w4 at hb4 H4 SZ4 C_4 G_4 X_4 qg0_4 qg1_4 qx0_4 qx1_4 zg_4 zx_4 ⊢
    have ZBx := Lib.hid zx_4
    clear qg0_3 qg1_3 zg_3 G_3 C_3 X_3
    go_wp2_with fail
    refine (HSS.out _ _ _ G_4.out.edges C_4.out.changes HOKG.out).mono ?_
    rintro e w5 ⟨vu, rfl, howu, hoku, hb5⟩
    have H5 := bel_trans H4 hb5
    have SZ5 := Lib.hid hb5.size
    have qg0_5 := (hb5.cell (p := ⟨w1.heap.size, 0, none⟩) zg_4).trans qg0_4
    have qg1_5 := (hb5.cell (p := ⟨w1.heap.size, 1, none⟩) zg_4).trans qg1_4
    have zg_5 := Nat.lt_of_lt_of_le zg_4 hb5.size
    have qx0_5 := (hb5.cell (p := ⟨w3.heap.size, 0, none⟩) zx_4).trans qx0_4
    have qx1_5 := (hb5.cell (p := ⟨w3.heap.size, 1, none⟩) zx_4).trans qx1_4
    have zx_5 := Nat.lt_of_lt_of_le zx_4 hb5.size
    have G_5 := Lib.hid (G_4.out.keep hb5)
    have C_5 := Lib.hid (C_4.out.keep hb5)
    have X_5 := Lib.hid (X_4.out.keep hb5)
    obtain ⟨au, cu, rfl, hz9⟩ := id howu
    have HOKu := Lib.hid hoku
    clear hz9 hoku
    have U_5 := Lib.hid (show InR true w5 w4.heap.size w5.heap.size _ R.length 3 (cellE R) from howu)
    clear qg0_4 qg1_4 zg_4 G_4 C_4 X_4 qx0_4 qx1_4 zx_4
    clear howu
    go_wp2_with fail
    have hb6 : Below w5.heap.size w5 (w5.alloc (.cells #[.int .i64 n, .slice au R.length cu] 34)) := (Below.refl _ _).alloc (by simp <;> omega) _
    have H6 := bel_trans H5 hb6
    have SZ6 := Lib.hid hb6.size
    have qg0_6 := (hb6.cell (p := ⟨w1.heap.size, 0, none⟩) zg_5).trans qg0_5
    have qg1_6 := (hb6.cell (p := ⟨w1.heap.size, 1, none⟩) zg_5).trans qg1_5
    have zg_6 := Nat.lt_of_lt_of_le zg_5 hb6.size
    have qx0_6 := (hb6.cell (p := ⟨w3.heap.size, 0, none⟩) zx_5).trans qx0_5
    have qx1_6 := (hb6.cell (p := ⟨w3.heap.size, 1, none⟩) zx_5).trans qx1_5
    have zx_6 := Nat.lt_of_lt_of_le zx_5 hb6.size
    have G_6 := Lib.hid (G_5.out.keep hb6)
    have C_6 := Lib.hid (C_5.out.keep hb6)
    have X_6 := Lib.hid (X_5.out.keep hb6)
    have U_6 := Lib.hid (U_5.out.keep hb6)
    have qu0_6 : (w5.alloc (.cells #[.int .i64 n, .slice au R.length cu] 34)).cell? ⟨w5.heap.size, 0, none⟩ = some (.int .i64 n) := by go_simp
    have qu1_6 : (w5.alloc (.cells #[.int .i64 n, .slice au R.length cu] 34)).cell? ⟨w5.heap.size, 1, none⟩ = some (.slice au R.length cu) := by go_simp
    have zu_6 : w5.heap.size < (w5.alloc (.cells #[.int .i64 n, .slice au R.length cu] 34)).heap.size := by simp <;> omega
    generalize (w5.alloc (.cells #[.int .i64 n, .slice au R.length cu] 34)) = w6 at hb6 H6 SZ6 C_6 G_6 U_6 X_6 qg0_6 qg1_6 qu0_6 qu1_6 qx0_6 qx1_6 zg_6 zu_6 zx_6 ⊢
    have ZBu := Lib.hid zu_6
    clear qg0_5 qg1_5 zg_5 qx0_5 qx1_5 zx_5 G_5 C_5 X_5 U_5
    go_wp2_with fail
    refine (graphSame n n R R _ _ _ X_6.out.edges U_6.out.edges (by omega) (by omega)).mono ?_
    rintro e w7 ⟨hS, hb7⟩
    have H7 := bel_trans H6 hb7
    have SZ7 := Lib.hid hb7.size
    have qg0_7 := (hb7.cell (p := ⟨w1.heap.size, 0, none⟩) zg_6).trans qg0_6
    have qg1_7 := (hb7.cell (p := ⟨w1.heap.size, 1, none⟩) zg_6).trans qg1_6
    have zg_7 := Nat.lt_of_lt_of_le zg_6 hb7.size
    have qx0_7 := (hb7.cell (p := ⟨w3.heap.size, 0, none⟩) zx_6).trans qx0_6
    have qx1_7 := (hb7.cell (p := ⟨w3.heap.size, 1, none⟩) zx_6).trans qx1_6
    have zx_7 := Nat.lt_of_lt_of_le zx_6 hb7.size
    have qu0_7 := (hb7.cell (p := ⟨w5.heap.size, 0, none⟩) zu_6).trans qu0_6
    have qu1_7 := (hb7.cell (p := ⟨w5.heap.size, 1, none⟩) zu_6).trans qu1_6
    have zu_7 := Nat.lt_of_lt_of_le zu_6 hb7.size
    have G_7 := Lib.hid (G_6.out.keep hb7)
    have C_7 := Lib.hid (C_6.out.keep hb7)
    have X_7 := Lib.hid (X_6.out.keep hb7)
    have U_7 := Lib.hid (U_6.out.keep hb7)
    rw [gSame_self] at hS
    subst hS
    clear qg0_6 qg1_6 zg_6 qx0_6 qx1_6 zx_6 G_6 C_6 X_6 U_6 qu0_6 qu1_6 zu_6
    go_wp2_with fail
    refine (HCV.out _ _ _ G_7.out.edges C_7.out.changes HOKG.out).mono ?_
    rintro e w8 ⟨rfl, hb8⟩
    have H8 := bel_trans H7 hb8
    have SZ8 := Lib.hid hb8.size
    have qg0_8 := (hb8.cell (p := ⟨w1.heap.size, 0, none⟩) zg_7).trans qg0_7
    have qg1_8 := (hb8.cell (p := ⟨w1.heap.size, 1, none⟩) zg_7).trans qg1_7
    have zg_8 := Nat.lt_of_lt_of_le zg_7 hb8.size
    have qx0_8 := (hb8.cell (p := ⟨w3.heap.size, 0, none⟩) zx_7).trans qx0_7
    have qx1_8 := (hb8.cell (p := ⟨w3.heap.size, 1, none⟩) zx_7).trans qx1_7
    have zx_8 := Nat.lt_of_lt_of_le zx_7 hb8.size
    have qu0_8 := (hb8.cell (p := ⟨w5.heap.size, 0, none⟩) zu_7).trans qu0_7
    have qu1_8 := (hb8.cell (p := ⟨w5.heap.size, 1, none⟩) zu_7).trans qu1_7
    have zu_8 := Nat.lt_of_lt_of_le zu_7 hb8.size
    have G_8 := Lib.hid (G_7.out.keep hb8)
    have C_8 := Lib.hid (C_7.out.keep hb8)
    have X_8 := Lib.hid (X_7.out.keep hb8)
    have U_8 := Lib.hid (U_7.out.keep hb8)
    clear qg0_7 qg1_7 zg_7 qx0_7 qx1_7 zx_7 qu0_7 qu1_7 zu_7 G_7 C_7 X_7 U_7
    by_cases hz0 : cs.length = 0
    · have hz1 : ((cs.length : Int) == 0) = true := by simp [hz0]
      have hn0 : cs = [] := List.eq_nil_of_length_eq_zero hz0
      clear hz1 hz0 hcl
      subst hn0
      go_wp2_with fail
      refine (graphSame n n R R _ _ _ X_8.out.edges U_8.out.edges (by omega) (by omega)).mono ?_
      rintro e w9 ⟨hS, hb9⟩
      have H9 := bel_trans H8 hb9
      have SZ9 := Lib.hid hb9.size
      have qg0_9 := (hb9.cell (p := ⟨w1.heap.size, 0, none⟩) zg_8).trans qg0_8
      have qg1_9 := (hb9.cell (p := ⟨w1.heap.size, 1, none⟩) zg_8).trans qg1_8
      have zg_9 := Nat.lt_of_lt_of_le zg_8 hb9.size
      have qx0_9 := (hb9.cell (p := ⟨w3.heap.size, 0, none⟩) zx_8).trans qx0_8
      have qx1_9 := (hb9.cell (p := ⟨w3.heap.size, 1, none⟩) zx_8).trans qx1_8
      have zx_9 := Nat.lt_of_lt_of_le zx_8 hb9.size
      have qu0_9 := (hb9.cell (p := ⟨w5.heap.size, 0, none⟩) zu_8).trans qu0_8
      have qu1_9 := (hb9.cell (p := ⟨w5.heap.size, 1, none⟩) zu_8).trans qu1_8
      have zu_9 := Nat.lt_of_lt_of_le zu_8 hb9.size
      have G_9 := Lib.hid (G_8.out.keep hb9)
      have C_9 := Lib.hid (C_8.out.keep hb9)
      have X_9 := Lib.hid (X_8.out.keep hb9)
      have U_9 := Lib.hid (U_8.out.keep hb9)
      rw [gSame_self] at hS
      subst hS
      clear C_8 X_8 qu0_8 qg0_8 qx1_8 qx0_8 zu_8 G_8 qg1_8 zg_8 zx_8 qu1_8 U_8
      go_wp2_with fail
      refine (HCV.out _ _ _ G_9.out.edges C_9.out.changes HOKG.out).mono ?_
      rintro e w10 ⟨rfl, hb10⟩
      have H10 := bel_trans H9 hb10
      have SZ10 := Lib.hid hb10.size
      have qg0_10 := (hb10.cell (p := ⟨w1.heap.size, 0, none⟩) zg_9).trans qg0_9
      have qg1_10 := (hb10.cell (p := ⟨w1.heap.size, 1, none⟩) zg_9).trans qg1_9
      have zg_10 := Nat.lt_of_lt_of_le zg_9 hb10.size
      have qx0_10 := (hb10.cell (p := ⟨w3.heap.size, 0, none⟩) zx_9).trans qx0_9
      have qx1_10 := (hb10.cell (p := ⟨w3.heap.size, 1, none⟩) zx_9).trans qx1_9
      have zx_10 := Nat.lt_of_lt_of_le zx_9 hb10.size
      have qu0_10 := (hb10.cell (p := ⟨w5.heap.size, 0, none⟩) zu_9).trans qu0_9
      have qu1_10 := (hb10.cell (p := ⟨w5.heap.size, 1, none⟩) zu_9).trans qu1_9
      have zu_10 := Nat.lt_of_lt_of_le zu_9 hb10.size
      have G_10 := Lib.hid (G_9.out.keep hb10)
      have C_10 := Lib.hid (C_9.out.keep hb10)
      have X_10 := Lib.hid (X_9.out.keep hb10)
      have U_10 := Lib.hid (U_9.out.keep hb10)
      clear qg0_9 qg1_9 zg_9 qx0_9 qx1_9 zx_9 qu0_9 qu1_9 zu_9 G_9 C_9 X_9 U_9
      go_wp2
      go_ret
      exact ⟨rfl, H10⟩
    · have hz1 : ((cs.length : Int) == 0) = false := by simp [hz0]
      have hz2 : ¬ (cs.length : Int) = 0 := by omega
      obtain ⟨_, _, hva9, hz9⟩ := id C_8.out
      injection hva9 with hv1 hv2 hv3
      subst hv1
      clear hv2 hv3
      rcases hz9 with hz9 | ⟨bo, oo, rfl, hr1, hr2, hr3, hrc⟩
      · exact absurd hz9 hz0
      clear hr1 hr2 hr3 hrc
      have htc := (HOKC.out _ _ _ rfl).1
      have hcc : (c : Int) ≤ tc := by omega
      have hcn : ¬ tc = c := by have := HC.out; omega
      have hcz : ¬ tc = 0 := by omega
      have hcl' : (c : Int) ≤ cs.length := by omega
      have hcd := HCD.out
      have hct := HCT.out
      go_upto_region 9 with fail
      go_cut [10, 11] from 77 (fun p c wx => BoxK w8 wx n R1 p ∧ c = .bool true)
      · have hold : ∀ w' : World, Below w8.heap.size w8 w' → (w'.cell? ⟨w1.heap.size, 0, none⟩ = some (.int .i64 n) ∧ w'.cell? ⟨w1.heap.size, 1, none⟩ = some (.slice va es.length vc)) := fun w' h => ⟨(h.cell (p := ⟨w1.heap.size, 0, none⟩) zg_8).trans qg0_8, (h.cell (p := ⟨w1.heap.size, 1, none⟩) zg_8).trans qg1_8⟩
        have HOLD := Lib.hid hold
        clear hold
        go_region_held3 (fun w' : World => w'.cell? ⟨w1.heap.size, 0, none⟩ = some (.int .i64 n) ∧ w'.cell? ⟨w1.heap.size, 1, none⟩ = some (.slice va es.length vc)) (exact HOLD.out _ (by repeat' (first | with_reducible exact Below.refl _ _ | with_reducible apply b_alloc | with_reducible apply b_drew | with_reducible apply b_set | (refine @bel_trans _ ?_ _ ?_ ?_; rotate_right; with_reducible assumption)))) (first | (go_at_call 16; (with_reducible refine (HRA.out _ _ _ (G_8.out.keep (by repeat' (first | with_reducible exact Below.refl _ _ | with_reducible apply b_alloc | with_reducible apply b_drew | with_reducible apply b_set | (refine @bel_trans _ ?_ _ ?_ ?_; rotate_right; with_reducible assumption)))).edges (rowC_pre ((C_8.out.keep (by repeat' (first | with_reducible exact Below.refl _ _ | with_reducible apply b_alloc | with_reducible apply b_drew | with_reducible apply b_set | (refine @bel_trans _ ?_ _ ?_ ?_; rotate_right; with_reducible assumption)))).changes) (by omega)) HOKG.out).mono ?_); rintro e wC ⟨v, rfl, hown, hokv, hbC⟩; obtain ⟨va, vc, rfl⟩ := hown.slice; (try (refine (fun (zz : w8.heap.size < wC.heap.size) => ?_) (Nat.lt_of_lt_of_le ?_ hbC.size); rotate_right; (first | with_reducible assumption | (simp <;> omega)))); (try (refine (fun (cc : wC.cell? ⟨w8.heap.size, 0, none⟩ = some (.int .i64 0)) => ?_) ((hbC.cell (p := ⟨w8.heap.size, 0, none⟩) ?_).trans ?_); rotate_left; (first | with_reducible assumption | (simp <;> omega)); (first | with_reducible assumption | (focus (go_simp; done))))); (try (refine (fun (ff : wC.frozen? ⟨w8.heap.size, 0, none⟩ = false) => ?_) ((hbC.frozen (p := ⟨w8.heap.size, 0, none⟩) ?_).trans ?_); rotate_left; (first | with_reducible assumption | (simp <;> omega)); (first | with_reducible assumption | (focus (go_simp; done))))); (try (refine (fun (cc : wC.cell? ⟨w8.heap.size, 1, none⟩ = some (.slice none 0 0)) => ?_) ((hbC.cell (p := ⟨w8.heap.size, 1, none⟩) ?_).trans ?_); rotate_left; (first | with_reducible assumption | (simp <;> omega)); (first | with_reducible assumption | (focus (go_simp; done))))); (try (refine (fun (ff : wC.frozen? ⟨w8.heap.size, 1, none⟩ = false) => ?_) ((hbC.frozen (p := ⟨w8.heap.size, 1, none⟩) ?_).trans ?_); rotate_left; (first | with_reducible assumption | (simp <;> omega)); (first | with_reducible assumption | (focus (go_simp; done)))))))
        all_goals
          go_wp2_with fail
          go_meet
          first | (refine ⟨?_, rfl⟩; apply box_endK; (case hk => with_reducible assumption); (case ho => with_reducible assumption); (case hc => with_reducible assumption); (case hb => repeat' (first | with_reducible exact Below.refl _ _ | with_reducible apply b_alloc | with_reducible apply b_drew | with_reducible apply b_set | (refine @bel_trans _ ?_ _ ?_ ?_; rotate_right; with_reducible assumption))); done) | (refine ⟨?_, rfl⟩; apply box_midK (T := 34) (N0 := 0) (v0 := .slice none 0 0); (case hk => with_reducible assumption); (case ho => with_reducible assumption); (case hc => with_reducible assumption); (case hb => repeat' (first | with_reducible exact Below.refl _ _ | with_reducible apply b_alloc | with_reducible apply b_drew | with_reducible apply b_set | (refine @bel_trans _ ?_ _ ?_ ?_; rotate_right; with_reducible assumption))); (case hx => repeat' (first | with_reducible exact Below.refl _ _ | with_reducible apply b_alloc | with_reducible apply b_drew | with_reducible apply b_set | (refine @bel_trans _ ?_ _ ?_ ?_; rotate_right; with_reducible assumption))); done)
      obtain ⟨w9, hw9⟩ : ∃ w9, w9 = wc := ⟨_, rfl⟩
      subst hw9
      obtain ⟨⟨ga, vaA1, vcA1, loA1, hiA1, rfl, ⟨hq0, hq1⟩, hrow, ⟨hge, hlt⟩, ⟨hlo, hhi⟩, hoka, hb9⟩, rfl⟩ := hcut
      have H9 := bel_trans H8 hb9
      have SZ9 := Lib.hid hb9.size
      have qg0_9 := (hb9.cell (p := ⟨w1.heap.size, 0, none⟩) zg_8).trans qg0_8
      have qg1_9 := (hb9.cell (p := ⟨w1.heap.size, 1, none⟩) zg_8).trans qg1_8
      have zg_9 := Nat.lt_of_lt_of_le zg_8 hb9.size
      have qx0_9 := (hb9.cell (p := ⟨w3.heap.size, 0, none⟩) zx_8).trans qx0_8
      have qx1_9 := (hb9.cell (p := ⟨w3.heap.size, 1, none⟩) zx_8).trans qx1_8
      have zx_9 := Nat.lt_of_lt_of_le zx_8 hb9.size
      have qu0_9 := (hb9.cell (p := ⟨w5.heap.size, 0, none⟩) zu_8).trans qu0_8
      have qu1_9 := (hb9.cell (p := ⟨w5.heap.size, 1, none⟩) zu_8).trans qu1_8
      have zu_9 := Nat.lt_of_lt_of_le zu_8 hb9.size
      have G_9 := Lib.hid (G_8.out.keep hb9)
      have C_9 := Lib.hid (C_8.out.keep hb9)
      have X_9 := Lib.hid (X_8.out.keep hb9)
      have U_9 := Lib.hid (U_8.out.keep hb9)
      have qa0_9 := hq0
      have qa1_9 := hq1
      have za_9 := hlt
      have A1_9 := Lib.hid hrow
      have HOKa := Lib.hid hoka
      clear hq0 hq1 hrow hge hlt hlo hhi hoka
      clear C_8 X_8 qu0_8 qg0_8 qx1_8 qx0_8 zu_8 G_8 qg1_8 zg_8 zx_8 qu1_8 U_8
      go_upto_region 10 with fail
      go_cut [12, 13] from 77 (fun p c wx => BoxK w9 wx n R p ∧ c = .bool true)
      · have hold : ∀ w' : World, Below w9.heap.size w9 w' → (w'.cell? ⟨ga, 0, none⟩ = some (.int .i64 n) ∧ w'.cell? ⟨ga, 1, none⟩ = some (.slice vaA1 R1.length vcA1)) := fun w' h => ⟨(h.cell (p := ⟨ga, 0, none⟩) za_9).trans qa0_9, (h.cell (p := ⟨ga, 1, none⟩) za_9).trans qa1_9⟩
        have HOLD := Lib.hid hold
        clear hold
        go_region_held3 (fun w' : World => w'.cell? ⟨ga, 0, none⟩ = some (.int .i64 n) ∧ w'.cell? ⟨ga, 1, none⟩ = some (.slice vaA1 R1.length vcA1)) (exact HOLD.out _ (by repeat' (first | with_reducible exact Below.refl _ _ | with_reducible apply b_alloc | with_reducible apply b_drew | with_reducible apply b_set | (refine @bel_trans _ ?_ _ ?_ ?_; rotate_right; with_reducible assumption)))) (first | (go_at_call 16; (with_reducible refine (HRB.out _ _ _ (A1_9.out.keep (by repeat' (first | with_reducible exact Below.refl _ _ | with_reducible apply b_alloc | with_reducible apply b_drew | with_reducible apply b_set | (refine @bel_trans _ ?_ _ ?_ ?_; rotate_right; with_reducible assumption)))).edges (rowC_suf ((C_9.out.keep (by repeat' (first | with_reducible exact Below.refl _ _ | with_reducible apply b_alloc | with_reducible apply b_drew | with_reducible apply b_set | (refine @bel_trans _ ?_ _ ?_ ?_; rotate_right; with_reducible assumption)))).changes) (by omega) (by omega)) HOKa.out).mono ?_); rintro e wC ⟨v, rfl, hown, hokv, hbC⟩; obtain ⟨va, vc, rfl⟩ := hown.slice; (try (refine (fun (zz : w9.heap.size < wC.heap.size) => ?_) (Nat.lt_of_lt_of_le ?_ hbC.size); rotate_right; (first | with_reducible assumption | (simp <;> omega)))); (try (refine (fun (cc : wC.cell? ⟨w9.heap.size, 0, none⟩ = some (.int .i64 0)) => ?_) ((hbC.cell (p := ⟨w9.heap.size, 0, none⟩) ?_).trans ?_); rotate_left; (first | with_reducible assumption | (simp <;> omega)); (first | with_reducible assumption | (focus (go_simp; done))))); (try (refine (fun (ff : wC.frozen? ⟨w9.heap.size, 0, none⟩ = false) => ?_) ((hbC.frozen (p := ⟨w9.heap.size, 0, none⟩) ?_).trans ?_); rotate_left; (first | with_reducible assumption | (simp <;> omega)); (first | with_reducible assumption | (focus (go_simp; done))))); (try (refine (fun (cc : wC.cell? ⟨w9.heap.size, 1, none⟩ = some (.slice none 0 0)) => ?_) ((hbC.cell (p := ⟨w9.heap.size, 1, none⟩) ?_).trans ?_); rotate_left; (first | with_reducible assumption | (simp <;> omega)); (first | with_reducible assumption | (focus (go_simp; done))))); (try (refine (fun (ff : wC.frozen? ⟨w9.heap.size, 1, none⟩ = false) => ?_) ((hbC.frozen (p := ⟨w9.heap.size, 1, none⟩) ?_).trans ?_); rotate_left; (first | with_reducible assumption | (simp <;> omega)); (first | with_reducible assumption | (focus (go_simp; done)))))))
        all_goals
          go_wp2_with fail
          go_meet
          first | (refine ⟨?_, rfl⟩; apply box_endK; (case hk => with_reducible assumption); (case ho => with_reducible assumption); (case hc => with_reducible assumption); (case hb => repeat' (first | with_reducible exact Below.refl _ _ | with_reducible apply b_alloc | with_reducible apply b_drew | with_reducible apply b_set | (refine @bel_trans _ ?_ _ ?_ ?_; rotate_right; with_reducible assumption))); done) | (refine ⟨?_, rfl⟩; apply box_midK (T := 34) (N0 := 0) (v0 := .slice none 0 0); (case hk => with_reducible assumption); (case ho => with_reducible assumption); (case hc => with_reducible assumption); (case hb => repeat' (first | with_reducible exact Below.refl _ _ | with_reducible apply b_alloc | with_reducible apply b_drew | with_reducible apply b_set | (refine @bel_trans _ ?_ _ ?_ ?_; rotate_right; with_reducible assumption))); (case hx => repeat' (first | with_reducible exact Below.refl _ _ | with_reducible apply b_alloc | with_reducible apply b_drew | with_reducible apply b_set | (refine @bel_trans _ ?_ _ ?_ ?_; rotate_right; with_reducible assumption))); done)
      obtain ⟨w10, hw10⟩ : ∃ w10, w10 = wc := ⟨_, rfl⟩
      subst hw10
      obtain ⟨⟨gb, vaB1, vcB1, loB1, hiB1, rfl, ⟨hq0, hq1⟩, hrow, ⟨hge, hlt⟩, ⟨hlo, hhi⟩, hokb, hb10⟩, rfl⟩ := hcut
      have H10 := bel_trans H9 hb10
      have SZ10 := Lib.hid hb10.size
      have qg0_10 := (hb10.cell (p := ⟨w1.heap.size, 0, none⟩) zg_9).trans qg0_9
      have qg1_10 := (hb10.cell (p := ⟨w1.heap.size, 1, none⟩) zg_9).trans qg1_9
      have zg_10 := Nat.lt_of_lt_of_le zg_9 hb10.size
      have qx0_10 := (hb10.cell (p := ⟨w3.heap.size, 0, none⟩) zx_9).trans qx0_9
      have qx1_10 := (hb10.cell (p := ⟨w3.heap.size, 1, none⟩) zx_9).trans qx1_9
      have zx_10 := Nat.lt_of_lt_of_le zx_9 hb10.size
      have qu0_10 := (hb10.cell (p := ⟨w5.heap.size, 0, none⟩) zu_9).trans qu0_9
      have qu1_10 := (hb10.cell (p := ⟨w5.heap.size, 1, none⟩) zu_9).trans qu1_9
      have zu_10 := Nat.lt_of_lt_of_le zu_9 hb10.size
      have qa0_10 := (hb10.cell (p := ⟨ga, 0, none⟩) za_9).trans qa0_9
      have qa1_10 := (hb10.cell (p := ⟨ga, 1, none⟩) za_9).trans qa1_9
      have za_10 := Nat.lt_of_lt_of_le za_9 hb10.size
      have G_10 := Lib.hid (G_9.out.keep hb10)
      have C_10 := Lib.hid (C_9.out.keep hb10)
      have X_10 := Lib.hid (X_9.out.keep hb10)
      have U_10 := Lib.hid (U_9.out.keep hb10)
      have A1_10 := Lib.hid (A1_9.out.keep hb10)
      have qb0_10 := hq0
      have qb1_10 := hq1
      have zb_10 := hlt
      have B1_10 := Lib.hid hrow
      have HOKb := Lib.hid hokb
      clear hq0 hq1 hrow hge hlt hlo hhi hokb
      clear qg0_9 qg1_9 zg_9 qx0_9 qx1_9 zx_9 qu0_9 qu1_9 zu_9 G_9 C_9 X_9 U_9 qa0_9 qa1_9 za_9 A1_9
      go_wp2_with fail
      refine (graphSame n n R R _ _ _ B1_10.out.edges X_10.out.edges (by omega) (by omega)).mono ?_
      rintro e w11 ⟨hS, hb11⟩
      have H11 := bel_trans H10 hb11
      have SZ11 := Lib.hid hb11.size
      have qg0_11 := (hb11.cell (p := ⟨w1.heap.size, 0, none⟩) zg_10).trans qg0_10
      have qg1_11 := (hb11.cell (p := ⟨w1.heap.size, 1, none⟩) zg_10).trans qg1_10
      have zg_11 := Nat.lt_of_lt_of_le zg_10 hb11.size
      have qx0_11 := (hb11.cell (p := ⟨w3.heap.size, 0, none⟩) zx_10).trans qx0_10
      have qx1_11 := (hb11.cell (p := ⟨w3.heap.size, 1, none⟩) zx_10).trans qx1_10
      have zx_11 := Nat.lt_of_lt_of_le zx_10 hb11.size
      have qu0_11 := (hb11.cell (p := ⟨w5.heap.size, 0, none⟩) zu_10).trans qu0_10
      have qu1_11 := (hb11.cell (p := ⟨w5.heap.size, 1, none⟩) zu_10).trans qu1_10
      have zu_11 := Nat.lt_of_lt_of_le zu_10 hb11.size
      have qa0_11 := (hb11.cell (p := ⟨ga, 0, none⟩) za_10).trans qa0_10
      have qa1_11 := (hb11.cell (p := ⟨ga, 1, none⟩) za_10).trans qa1_10
      have za_11 := Nat.lt_of_lt_of_le za_10 hb11.size
      have qb0_11 := (hb11.cell (p := ⟨gb, 0, none⟩) zb_10).trans qb0_10
      have qb1_11 := (hb11.cell (p := ⟨gb, 1, none⟩) zb_10).trans qb1_10
      have zb_11 := Nat.lt_of_lt_of_le zb_10 hb11.size
      have G_11 := Lib.hid (G_10.out.keep hb11)
      have C_11 := Lib.hid (C_10.out.keep hb11)
      have X_11 := Lib.hid (X_10.out.keep hb11)
      have U_11 := Lib.hid (U_10.out.keep hb11)
      have A1_11 := Lib.hid (A1_10.out.keep hb11)
      have B1_11 := Lib.hid (B1_10.out.keep hb11)
      rw [gSame_self] at hS
      subst hS
      clear qg0_10 qg1_10 zg_10 qx0_10 qx1_10 zx_10 qu0_10 qu1_10 zu_10 qa0_10 qa1_10 za_10 G_10 C_10 X_10 U_10 A1_10 qb0_10 qb1_10 zb_10 B1_10
      go_wp2
      go_ret
      exact ⟨rfl, H11⟩

set_option maxRecDepth 100000 in
theorem lifted (os : Os) (started : os.Started) (H : Type) (enc : TypeId × Value → H) :
    ReturnsInHanded {} Try.checked os 4 .any (Rows.fnApplyChangesSpec.pre6 enc Try.prog Try.f4 Rows.fnApplyChangesRow.domain false) (Rows.fnApplyChangesSpec.post enc Try.prog Try.f4 false true false false) := by
  refine returnsInHanded_of_change (C := Try.checked) own started (by kernel_rfl) Try.func4
    (ChangeSpec.witness6 (enc := enc) (C := Try.checked) false ⟨#[], #[.slice none 0 0], []⟩ 8 (by kernel_rfl) (by kernel_rfl) (by kernel_rfl) (by kernel_rfl)) ?_
  intro W base args ds gs before hval0 hW hcnd _
  have hval : ∀ (j : Nat) t v, Try.f4.params[j]? = some t → args[j]? = some v → Value.okWide Try.prog W .any base t v := hval0
  have hW' := hW
  obtain ⟨p, q, hA0, hV, rfl, hfz, hnd⟩ := hW
  have hA : DataW.TrodAll enc Try.prog W 0 (fun _ => true) true Try.f4.params.toList args.toList ds p := hA0
  rw [Try.params4] at hA hval
  obtain ⟨v0, vs0, d0, ds0, p0, q0, hargs, rfl, rfl, h0, r0⟩ := trodAll_cons hA
  obtain ⟨rfl, rfl, rfl⟩ := trodAll_nil r0
  obtain rfl : args = #[v0] := by cases args; simp_all
  obtain ⟨rfl, rfl⟩ := trodVars_none hV
  obtain ⟨a0, len0, cap0, rfl⟩ := okWide_slice Try.underlying22 (hval 0 22 v0 rfl rfl)
  have k0 := h0
  have lt0 : ∀ x ∈ p0, x.block < W.heap.size := by obtain ⟨m, hm⟩ := k0; exact DataW.trod_lt m _ _ _ hm
  obtain ⟨z0, w0⟩ : ∃ zs, IsRow .u8 W a0 len0 cap0 zs := by
    obtain ⟨fuel, hf⟩ := h0
    rcases open_ints Try.underlying22 Try.underlying5 (by kernel_rfl) hf with ⟨hcs, _⟩ | ⟨x, l, c, zs, hcs, _, hl, hm, hz, _, hcell, hwz⟩
    · simp [Value.cells] at hcs
      obtain ⟨rfl, rfl, rfl⟩ := hcs
      exact ⟨[], .inl ⟨rfl, rfl, rfl, rfl⟩⟩
    · simp [Value.cells] at hcs
      obtain ⟨rfl, rfl, rfl⟩ := hcs
      exact ⟨zs, .inr ⟨_, rfl, hl, hm, by simpa using hz, hcell, hwz⟩⟩
  clear hA0 hval0
  refine (walk a0 len0 cap0 z0 W w0).mono fun e W' ⟨he, bel⟩ => ?_
  subst he
  exact ⟨_, rfl, _, _, _, [], _, [], hW', trodAll_mk1 (shut_bool Try.underlying4 _), (trodAll_cons_mk (Below.trod laidOut (by kernel_rfl) (of_decide_eq_true (by kernel_rfl)) k0 bel lt0) trodAll_mk0), rfl, bel.frame _, fun h => by cases h⟩

theorem over : Rows.fnApplyChangesRow.holds Try.pinned (OpenSpec.ofChange Rows.fnApplyChangesSpec) :=
  OpenClaim.holds_of_wide 4 Try.f4 rfl rfl rfl rfl rfl rfl rfl ⟨rfl, rfl, rfl, rfl, rfl⟩ rfl rfl rfl rfl rfl (by kernel_rfl) Try.func4 (by kernel_rfl)
    (of_decide_eq_true (by kernel_rfl)) (by unfold Func.isWrapper; first | (rw [if_pos (by decide +kernel)]; kernel_rfl) | (rw [if_neg (by decide +kernel)]; exact ⟨rfl, rfl⟩))
    (fun os started H enc _ => lifted os started H enc)

theorem proved : Rows.FnApplyChangesSaid := over
end Go.Proofs.Ytbhhbhopogkmnaa.fnApplyChanges
