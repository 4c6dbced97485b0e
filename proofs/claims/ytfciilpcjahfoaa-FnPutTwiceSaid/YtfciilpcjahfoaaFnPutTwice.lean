/-
  Proved: of two weights of an edge the last one counts (the law FnPutTwice returns true for every input and leaves it as it was), with no further condition.
-/
import Derived.Test.YtfciilpcjahfoaaRows
import Derived.Test.YtfciilpcjahfoaaDraws2
import Derived.Test.YtfciilpcjahfoaaPutT
import Derived.Test.YtfciilpcjahfoaaCutS
import Derived.Test.YtfciilpcjahfoaaEdgeM
import Derived.Test.YtfciilpcjahfoaaFind4
import Derived.WalkKit
import Derived.ProofKit
import Derived.OpenShut
import Derived.ShutString
import Derived.ChangeOld
import Derived.Below
namespace Go.Proofs.Ytfciilpcjahfoaa.fnPutTwice
open Go.Proofs.Ytfciilpcjahfoaa Go.BigFrame
open Go.ChangeShapes Go.WideShapes Go.ChangeAt Go.RowKit
open Go.ChangeMaps (open_string shut_string)
set_option linter.unusedVariables false

theorem own : ownKnob Try.prog.godebug = none := by kernel_rfl
theorem laidOut : laidOutB Try.prog = true := by kernel_rfl

def IsRow (k : IntKind) (w : World) (a : Option Addr) (len cap : Nat) (zs : List Int) : Prop :=
  (a = none ∧ len = 0 ∧ cap = 0 ∧ zs = []) ∨
  ∃ x, a = some x ∧ len ≤ cap ∧ cap ≤ maxLen ∧ zs.length = cap ∧ (∀ i, i < zs.length → w.cell? (x.add i) = some (.int k (zs.getD i 0))) ∧ ∀ n ∈ zs, (Lit.int k n).wf = true

theorem bytes_of {w : World} {a : Option Addr} {len cap : Nat} {zs : List Int} (h : IsRow .u8 w a len cap zs) : Bytes w a len ∧ len ≤ cap ∧ len ≤ 9223372036854775807 := by
  rcases h with ⟨rfl, rfl, rfl, rfl⟩ | ⟨x, rfl, hl, hm, hz, hc, hw⟩
  · exact ⟨.inl rfl, Nat.le_refl _, by omega⟩
  · unfold maxLen at hm
    refine ⟨?_, hl, by omega⟩
    by_cases h0 : len = 0
    · exact .inl h0
    · obtain ⟨b, off, rfl, hc'⟩ := ints_at hc (by omega)
      exact .inr ⟨b, off, rfl, World.block_lt_of_cell? _ _ (hc' 0 (by omega)), fun i hi => ⟨zs[i]?.getD 0, (range_u8 hw i).1, (range_u8 hw i).2, hc' i (by omega)⟩⟩

theorem walk (a0 : Option Addr) (len0 cap0 : Nat) (z0 : List Int) (w : World) (w0 : IsRow .u8 w a0 len0 cap0 z0) :
    Calls Try.prog 4 #[.slice a0 len0 cap0] w fun e w' => e = .returned (.bool true) ∧ Below w.heap.size w w' := by
  obtain ⟨hby, hcp, hn⟩ := bytes_of w0
  have HB0 := Lib.hid hby
  clear hby w0
  by_cases h0 : 1048576 < len0
  · go_enter Try.func4, Try.ntmps4
    go_wp2
    go_ret
    exact ⟨rfl, Below.refl _ _⟩
  have h0' : len0 ≤ 1048576 := by omega
  clear h0
  obtain ⟨w0, hw0⟩ : ∃ w0, w0 = w := ⟨_, rfl⟩
  subst hw0
  have H0 := Below.refl w0.heap.size w0
  go_enter Try.func4, Try.ntmps4
  go_wp2_with fail
  refine (dDrawPutEdge a0 len0 cap0 _ HB0.out hcp (by omega)).mono ?_
  rintro e w1 ⟨n, es, v, x, y, z, rfl, hle, hrow, hok, hb1⟩
  have H1 := bel_trans H0 hb1
  have SZ1 := Lib.hid hb1.size
  obtain ⟨va, vc, rfl, hz9⟩ := id hrow
  have HOKG := Lib.hid hok
  clear hz9 hok
  have G_1 := Lib.hid (hrow)
  clear hrow
  go_wp2_with fail
  have hb2 : Below w1.heap.size w1 ((w1.alloc (.cells #[.int .i64 n, .slice va es.length vc] 25)).alloc (.cells #[.int .i64 x, .int .i64 y, .int .i64 z] 35)) := ((Below.refl _ _).alloc (by simp <;> omega) _).alloc (by simp <;> omega) _
  have H2 := bel_trans H1 hb2
  have SZ2 := Lib.hid hb2.size
  have G_2 := Lib.hid (G_1.out.keep hb2)
  have qg0_2 : ((w1.alloc (.cells #[.int .i64 n, .slice va es.length vc] 25)).alloc (.cells #[.int .i64 x, .int .i64 y, .int .i64 z] 35)).cell? ⟨w1.heap.size, 0, none⟩ = some (.int .i64 n) := by go_simp
  have qg1_2 : ((w1.alloc (.cells #[.int .i64 n, .slice va es.length vc] 25)).alloc (.cells #[.int .i64 x, .int .i64 y, .int .i64 z] 35)).cell? ⟨w1.heap.size, 1, none⟩ = some (.slice va es.length vc) := by go_simp
  have zg_2 : w1.heap.size < ((w1.alloc (.cells #[.int .i64 n, .slice va es.length vc] 25)).alloc (.cells #[.int .i64 x, .int .i64 y, .int .i64 z] 35)).heap.size := by simp <;> omega
  have qe0_2 : ((w1.alloc (.cells #[.int .i64 n, .slice va es.length vc] 25)).alloc (.cells #[.int .i64 x, .int .i64 y, .int .i64 z] 35)).cell? ⟨w1.heap.size + 1, 0, none⟩ = some (.int .i64 x) := by go_simp
  have qe1_2 : ((w1.alloc (.cells #[.int .i64 n, .slice va es.length vc] 25)).alloc (.cells #[.int .i64 x, .int .i64 y, .int .i64 z] 35)).cell? ⟨w1.heap.size + 1, 1, none⟩ = some (.int .i64 y) := by go_simp
  have qe2_2 : ((w1.alloc (.cells #[.int .i64 n, .slice va es.length vc] 25)).alloc (.cells #[.int .i64 x, .int .i64 y, .int .i64 z] 35)).cell? ⟨w1.heap.size + 1, 2, none⟩ = some (.int .i64 z) := by go_simp
  have ze_2 : w1.heap.size + 1 < ((w1.alloc (.cells #[.int .i64 n, .slice va es.length vc] 25)).alloc (.cells #[.int .i64 x, .int .i64 y, .int .i64 z] 35)).heap.size := by simp <;> omega
  generalize ((w1.alloc (.cells #[.int .i64 n, .slice va es.length vc] 25)).alloc (.cells #[.int .i64 x, .int .i64 y, .int .i64 z] 35)) = w2 at hb2 H2 SZ2 G_2 qe0_2 qe1_2 qe2_2 qg0_2 qg1_2 ze_2 zg_2 ⊢
  have ZBg := Lib.hid zg_2
  have ZBe := Lib.hid ze_2
  clear G_1
  have hle2 : es.length ≤ 1048576 := by omega
  have hst := fun s w (h : RowE w s es) (k : okS s) => putEdge n es x y z s w h k hle2
  have hss := fun s w (h : RowE w s es) => sPutEdge n es x y z s w h hle2
  cases hk : putB n es (x, y, z)
  · rw [show putN n es (x, y, z) = 0 by unfold putN; rw [hk]; rfl, show putL n es (x, y, z) = [] by unfold putL; rw [hk]; rfl, hk] at hst hss
    have HST := Lib.hid hst
    have HSS := Lib.hid hss
    clear hst hss hk
    have hen : ([] : List Ed).length ≤ 1048576 := by simp
    go_wp2_with fail
    refine (HST.out _ _ G_2.out.edges HOKG.out).mono ?_
    rintro e w3 ⟨vx, rfl, howx, hokx, hb3⟩
    have H3 := bel_trans H2 hb3
    have SZ3 := Lib.hid hb3.size
    have qg0_3 := (hb3.cell (p := ⟨w1.heap.size, 0, none⟩) zg_2).trans qg0_2
    have qg1_3 := (hb3.cell (p := ⟨w1.heap.size, 1, none⟩) zg_2).trans qg1_2
    have zg_3 := Nat.lt_of_lt_of_le zg_2 hb3.size
    have qe0_3 := (hb3.cell (p := ⟨w1.heap.size + 1, 0, none⟩) ze_2).trans qe0_2
    have qe1_3 := (hb3.cell (p := ⟨w1.heap.size + 1, 1, none⟩) ze_2).trans qe1_2
    have qe2_3 := (hb3.cell (p := ⟨w1.heap.size + 1, 2, none⟩) ze_2).trans qe2_2
    have ze_3 := Nat.lt_of_lt_of_le ze_2 hb3.size
    have G_3 := Lib.hid (G_2.out.keep hb3)
    obtain ⟨ax, cx, rfl, hz9⟩ := id howx
    have HOKx := Lib.hid hokx
    clear hz9 hokx
    have X_3 := Lib.hid (show InR true w3 w2.heap.size w3.heap.size _ ([] : List Ed).length 3 (cellE ([] : List Ed)) from howx)
    clear qe0_2 qe1_2 G_2 ze_2 qg0_2 zg_2 qe2_2 qg1_2
    clear howx
    go_wp2_with fail
    have hb4 : Below w3.heap.size w3 (w3.alloc (.cells #[.int .i64 0, .slice ax ([] : List Ed).length cx] 25)) := (Below.refl _ _).alloc (by simp <;> omega) _
    have H4 := bel_trans H3 hb4
    have SZ4 := Lib.hid hb4.size
    have qg0_4 := (hb4.cell (p := ⟨w1.heap.size, 0, none⟩) zg_3).trans qg0_3
    have qg1_4 := (hb4.cell (p := ⟨w1.heap.size, 1, none⟩) zg_3).trans qg1_3
    have zg_4 := Nat.lt_of_lt_of_le zg_3 hb4.size
    have qe0_4 := (hb4.cell (p := ⟨w1.heap.size + 1, 0, none⟩) ze_3).trans qe0_3
    have qe1_4 := (hb4.cell (p := ⟨w1.heap.size + 1, 1, none⟩) ze_3).trans qe1_3
    have qe2_4 := (hb4.cell (p := ⟨w1.heap.size + 1, 2, none⟩) ze_3).trans qe2_3
    have ze_4 := Nat.lt_of_lt_of_le ze_3 hb4.size
    have G_4 := Lib.hid (G_3.out.keep hb4)
    have X_4 := Lib.hid (X_3.out.keep hb4)
    have qx0_4 : (w3.alloc (.cells #[.int .i64 0, .slice ax ([] : List Ed).length cx] 25)).cell? ⟨w3.heap.size, 0, none⟩ = some (.int .i64 0) := by go_simp
    have qx1_4 : (w3.alloc (.cells #[.int .i64 0, .slice ax ([] : List Ed).length cx] 25)).cell? ⟨w3.heap.size, 1, none⟩ = some (.slice ax ([] : List Ed).length cx) := by go_simp
    have zx_4 : w3.heap.size < (w3.alloc (.cells #[.int .i64 0, .slice ax ([] : List Ed).length cx] 25)).heap.size := by simp <;> omega
    generalize (w3.alloc (.cells #[.int .i64 0, .slice ax ([] : List Ed).length cx] 25)) = w4 at hb4 H4 SZ4 G_4 X_4 qe0_4 qe1_4 qe2_4 qg0_4 qg1_4 qx0_4 qx1_4 ze_4 zg_4 zx_4 ⊢
    have ZBx := Lib.hid zx_4
    clear qg0_3 qg1_3 zg_3 qe0_3 qe1_3 qe2_3 ze_3 G_3 X_3
    go_wp2_with fail
    refine (HSS.out _ _ G_4.out.edges).mono ?_
    rintro e w5 ⟨vu, rfl, howu, hoku, hb5⟩
    have H5 := bel_trans H4 hb5
    have SZ5 := Lib.hid hb5.size
    have qg0_5 := (hb5.cell (p := ⟨w1.heap.size, 0, none⟩) zg_4).trans qg0_4
    have qg1_5 := (hb5.cell (p := ⟨w1.heap.size, 1, none⟩) zg_4).trans qg1_4
    have zg_5 := Nat.lt_of_lt_of_le zg_4 hb5.size
    have qe0_5 := (hb5.cell (p := ⟨w1.heap.size + 1, 0, none⟩) ze_4).trans qe0_4
    have qe1_5 := (hb5.cell (p := ⟨w1.heap.size + 1, 1, none⟩) ze_4).trans qe1_4
    have qe2_5 := (hb5.cell (p := ⟨w1.heap.size + 1, 2, none⟩) ze_4).trans qe2_4
    have ze_5 := Nat.lt_of_lt_of_le ze_4 hb5.size
    have qx0_5 := (hb5.cell (p := ⟨w3.heap.size, 0, none⟩) zx_4).trans qx0_4
    have qx1_5 := (hb5.cell (p := ⟨w3.heap.size, 1, none⟩) zx_4).trans qx1_4
    have zx_5 := Nat.lt_of_lt_of_le zx_4 hb5.size
    have G_5 := Lib.hid (G_4.out.keep hb5)
    have X_5 := Lib.hid (X_4.out.keep hb5)
    obtain ⟨au, cu, rfl, hz9⟩ := id howu
    have HOKu := Lib.hid hoku
    clear hz9 hoku
    have U_5 := Lib.hid (show InR true w5 w4.heap.size w5.heap.size _ ([] : List Ed).length 3 (cellE ([] : List Ed)) from howu)
    clear qg0_4 qg1_4 zg_4 qe0_4 qe1_4 qe2_4 ze_4 G_4 X_4 qx0_4 qx1_4 zx_4
    clear howu
    go_wp2_with fail
    have hb6 : Below w5.heap.size w5 (w5.alloc (.cells #[.int .i64 0, .slice au ([] : List Ed).length cu] 25)) := (Below.refl _ _).alloc (by simp <;> omega) _
    have H6 := bel_trans H5 hb6
    have SZ6 := Lib.hid hb6.size
    have qg0_6 := (hb6.cell (p := ⟨w1.heap.size, 0, none⟩) zg_5).trans qg0_5
    have qg1_6 := (hb6.cell (p := ⟨w1.heap.size, 1, none⟩) zg_5).trans qg1_5
    have zg_6 := Nat.lt_of_lt_of_le zg_5 hb6.size
    have qe0_6 := (hb6.cell (p := ⟨w1.heap.size + 1, 0, none⟩) ze_5).trans qe0_5
    have qe1_6 := (hb6.cell (p := ⟨w1.heap.size + 1, 1, none⟩) ze_5).trans qe1_5
    have qe2_6 := (hb6.cell (p := ⟨w1.heap.size + 1, 2, none⟩) ze_5).trans qe2_5
    have ze_6 := Nat.lt_of_lt_of_le ze_5 hb6.size
    have qx0_6 := (hb6.cell (p := ⟨w3.heap.size, 0, none⟩) zx_5).trans qx0_5
    have qx1_6 := (hb6.cell (p := ⟨w3.heap.size, 1, none⟩) zx_5).trans qx1_5
    have zx_6 := Nat.lt_of_lt_of_le zx_5 hb6.size
    have G_6 := Lib.hid (G_5.out.keep hb6)
    have X_6 := Lib.hid (X_5.out.keep hb6)
    have U_6 := Lib.hid (U_5.out.keep hb6)
    have qu0_6 : (w5.alloc (.cells #[.int .i64 0, .slice au ([] : List Ed).length cu] 25)).cell? ⟨w5.heap.size, 0, none⟩ = some (.int .i64 0) := by go_simp
    have qu1_6 : (w5.alloc (.cells #[.int .i64 0, .slice au ([] : List Ed).length cu] 25)).cell? ⟨w5.heap.size, 1, none⟩ = some (.slice au ([] : List Ed).length cu) := by go_simp
    have zu_6 : w5.heap.size < (w5.alloc (.cells #[.int .i64 0, .slice au ([] : List Ed).length cu] 25)).heap.size := by simp <;> omega
    generalize (w5.alloc (.cells #[.int .i64 0, .slice au ([] : List Ed).length cu] 25)) = w6 at hb6 H6 SZ6 G_6 U_6 X_6 qe0_6 qe1_6 qe2_6 qg0_6 qg1_6 qu0_6 qu1_6 qx0_6 qx1_6 ze_6 zg_6 zu_6 zx_6 ⊢
    have ZBu := Lib.hid zu_6
    clear qg0_5 qg1_5 zg_5 qe0_5 qe1_5 qe2_5 ze_5 qx0_5 qx1_5 zx_5 G_5 X_5 U_5
    go_wp2_with fail
    refine (graphSame 0 0 ([] : List Ed) ([] : List Ed) _ _ _ X_6.out.edges U_6.out.edges (by omega) (by omega)).mono ?_
    rintro e w7 ⟨hS, hb7⟩
    have H7 := bel_trans H6 hb7
    have SZ7 := Lib.hid hb7.size
    have qg0_7 := (hb7.cell (p := ⟨w1.heap.size, 0, none⟩) zg_6).trans qg0_6
    have qg1_7 := (hb7.cell (p := ⟨w1.heap.size, 1, none⟩) zg_6).trans qg1_6
    have zg_7 := Nat.lt_of_lt_of_le zg_6 hb7.size
    have qe0_7 := (hb7.cell (p := ⟨w1.heap.size + 1, 0, none⟩) ze_6).trans qe0_6
    have qe1_7 := (hb7.cell (p := ⟨w1.heap.size + 1, 1, none⟩) ze_6).trans qe1_6
    have qe2_7 := (hb7.cell (p := ⟨w1.heap.size + 1, 2, none⟩) ze_6).trans qe2_6
    have ze_7 := Nat.lt_of_lt_of_le ze_6 hb7.size
    have qx0_7 := (hb7.cell (p := ⟨w3.heap.size, 0, none⟩) zx_6).trans qx0_6
    have qx1_7 := (hb7.cell (p := ⟨w3.heap.size, 1, none⟩) zx_6).trans qx1_6
    have zx_7 := Nat.lt_of_lt_of_le zx_6 hb7.size
    have qu0_7 := (hb7.cell (p := ⟨w5.heap.size, 0, none⟩) zu_6).trans qu0_6
    have qu1_7 := (hb7.cell (p := ⟨w5.heap.size, 1, none⟩) zu_6).trans qu1_6
    have zu_7 := Nat.lt_of_lt_of_le zu_6 hb7.size
    have G_7 := Lib.hid (G_6.out.keep hb7)
    have X_7 := Lib.hid (X_6.out.keep hb7)
    have U_7 := Lib.hid (U_6.out.keep hb7)
    rw [gSame_self] at hS
    subst hS
    clear qg0_6 qg1_6 zg_6 qe0_6 qe1_6 qe2_6 ze_6 qx0_6 qx1_6 zx_6 G_6 X_6 U_6 qu0_6 qu1_6 zu_6
    go_wp2_with fail
    refine (graphSame 0 0 ([] : List Ed) ([] : List Ed) _ _ _ X_7.out.edges U_7.out.edges (by omega) (by omega)).mono ?_
    rintro e w8 ⟨hS, hb8⟩
    have H8 := bel_trans H7 hb8
    have SZ8 := Lib.hid hb8.size
    have qg0_8 := (hb8.cell (p := ⟨w1.heap.size, 0, none⟩) zg_7).trans qg0_7
    have qg1_8 := (hb8.cell (p := ⟨w1.heap.size, 1, none⟩) zg_7).trans qg1_7
    have zg_8 := Nat.lt_of_lt_of_le zg_7 hb8.size
    have qe0_8 := (hb8.cell (p := ⟨w1.heap.size + 1, 0, none⟩) ze_7).trans qe0_7
    have qe1_8 := (hb8.cell (p := ⟨w1.heap.size + 1, 1, none⟩) ze_7).trans qe1_7
    have qe2_8 := (hb8.cell (p := ⟨w1.heap.size + 1, 2, none⟩) ze_7).trans qe2_7
    have ze_8 := Nat.lt_of_lt_of_le ze_7 hb8.size
    have qx0_8 := (hb8.cell (p := ⟨w3.heap.size, 0, none⟩) zx_7).trans qx0_7
    have qx1_8 := (hb8.cell (p := ⟨w3.heap.size, 1, none⟩) zx_7).trans qx1_7
    have zx_8 := Nat.lt_of_lt_of_le zx_7 hb8.size
    have qu0_8 := (hb8.cell (p := ⟨w5.heap.size, 0, none⟩) zu_7).trans qu0_7
    have qu1_8 := (hb8.cell (p := ⟨w5.heap.size, 1, none⟩) zu_7).trans qu1_7
    have zu_8 := Nat.lt_of_lt_of_le zu_7 hb8.size
    have G_8 := Lib.hid (G_7.out.keep hb8)
    have X_8 := Lib.hid (X_7.out.keep hb8)
    have U_8 := Lib.hid (U_7.out.keep hb8)
    rw [gSame_self] at hS
    subst hS
    clear qg0_7 qg1_7 zg_7 qe0_7 qe1_7 qe2_7 ze_7 qx0_7 qx1_7 zx_7 qu0_7 qu1_7 zu_7 G_7 X_7 U_7
    go_wp2
    go_ret
    exact ⟨rfl, H8⟩
  · rw [show putN n es (x, y, z) = n by unfold putN; rw [if_pos hk], show putL n es (x, y, z) = pL es (x, y, z) by unfold putL; rw [if_pos hk], hk] at hst hss
    have hfi := (putB_iff.1 hk).2.1
    have hft : eFits n x y 77 = true := by have := hfi; simp [eFits] at this ⊢; omega
    obtain ⟨hp1, hp2, hp3⟩ := put_other (f := (x, y, 77)) hk ⟨rfl, rfl⟩ hft
    obtain ⟨P, hP⟩ : ∃ P, P = pL es (x, y, z) := ⟨_, rfl⟩
    obtain ⟨Q, hQ⟩ : ∃ Q, Q = pL es (x, y, 77) := ⟨_, rfl⟩
    have hlp : P.length ≤ 1048576 := by have := (putB_iff.1 hk).2.2; rw [hP]; omega
    have hlq : Q.length ≤ 1048576 := by have := (putB_iff.1 hp1).2.2; rw [hQ]; omega
    rw [← hP] at hst hss hp2 hp3
    rw [← hQ] at hp3
    have ha := fun s w (h : RowE w s P) (k : okS s) => putEdge n P x y 77 s w h k hlp
    rw [show putN n P (x, y, 77) = n by unfold putN; rw [if_pos hp2], show putL n P (x, y, 77) = Q by unfold putL; rw [if_pos hp2, hp3], hp2] at ha
    have hb := fun s w (h : RowE w s es) (k : okS s) => putEdge n es x y 77 s w h k hle2
    rw [show putN n es (x, y, 77) = n by unfold putN; rw [if_pos hp1], show putL n es (x, y, 77) = Q by unfold putL; rw [if_pos hp1, hQ], hp1] at hb
    have HST := Lib.hid hst
    have HSS := Lib.hid hss
    have HA := Lib.hid ha
    have HB := Lib.hid hb
    clear hst hss ha hb hk hfi hft hp1 hp2 hp3 hP hQ
    go_wp2_with fail
    refine (HST.out _ _ G_2.out.edges HOKG.out).mono ?_
    rintro e w3 ⟨vx, rfl, howx, hokx, hb3⟩
    have H3 := bel_trans H2 hb3
    have SZ3 := Lib.hid hb3.size
    have qg0_3 := (hb3.cell (p := ⟨w1.heap.size, 0, none⟩) zg_2).trans qg0_2
    have qg1_3 := (hb3.cell (p := ⟨w1.heap.size, 1, none⟩) zg_2).trans qg1_2
    have zg_3 := Nat.lt_of_lt_of_le zg_2 hb3.size
    have qe0_3 := (hb3.cell (p := ⟨w1.heap.size + 1, 0, none⟩) ze_2).trans qe0_2
    have qe1_3 := (hb3.cell (p := ⟨w1.heap.size + 1, 1, none⟩) ze_2).trans qe1_2
    have qe2_3 := (hb3.cell (p := ⟨w1.heap.size + 1, 2, none⟩) ze_2).trans qe2_2
    have ze_3 := Nat.lt_of_lt_of_le ze_2 hb3.size
    have G_3 := Lib.hid (G_2.out.keep hb3)
    obtain ⟨ax, cx, rfl, hz9⟩ := id howx
    have HOKx := Lib.hid hokx
    clear hz9 hokx
    have X_3 := Lib.hid (show InR true w3 w2.heap.size w3.heap.size _ P.length 3 (cellE P) from howx)
    clear qe0_2 qe1_2 G_2 ze_2 qg0_2 zg_2 qe2_2 qg1_2
    clear howx
    go_wp2_with fail
    have hb4 : Below w3.heap.size w3 (w3.alloc (.cells #[.int .i64 n, .slice ax P.length cx] 25)) := (Below.refl _ _).alloc (by simp <;> omega) _
    have H4 := bel_trans H3 hb4
    have SZ4 := Lib.hid hb4.size
    have qg0_4 := (hb4.cell (p := ⟨w1.heap.size, 0, none⟩) zg_3).trans qg0_3
    have qg1_4 := (hb4.cell (p := ⟨w1.heap.size, 1, none⟩) zg_3).trans qg1_3
    have zg_4 := Nat.lt_of_lt_of_le zg_3 hb4.size
    have qe0_4 := (hb4.cell (p := ⟨w1.heap.size + 1, 0, none⟩) ze_3).trans qe0_3
    have qe1_4 := (hb4.cell (p := ⟨w1.heap.size + 1, 1, none⟩) ze_3).trans qe1_3
    have qe2_4 := (hb4.cell (p := ⟨w1.heap.size + 1, 2, none⟩) ze_3).trans qe2_3
    have ze_4 := Nat.lt_of_lt_of_le ze_3 hb4.size
    have G_4 := Lib.hid (G_3.out.keep hb4)
    have X_4 := Lib.hid (X_3.out.keep hb4)
    have qx0_4 : (w3.alloc (.cells #[.int .i64 n, .slice ax P.length cx] 25)).cell? ⟨w3.heap.size, 0, none⟩ = some (.int .i64 n) := by go_simp
    have qx1_4 : (w3.alloc (.cells #[.int .i64 n, .slice ax P.length cx] 25)).cell? ⟨w3.heap.size, 1, none⟩ = some (.slice ax P.length cx) := by go_simp
    have zx_4 : w3.heap.size < (w3.alloc (.cells #[.int .i64 n, .slice ax P.length cx] 25)).heap.size := by simp <;> omega
    generalize (w3.alloc (.cells #[.int .i64 n, .slice ax P.length cx] 25)) = w4 at hb4 H4 SZ4 G_4 X_4 qe0_4 qe1_4 qe2_4 qg0_4 qg1_4 qx0_4 qx1_4 ze_4 zg_4 zx_4 ⊢
    have ZBx := Lib.hid zx_4
    clear qg0_3 qg1_3 zg_3 qe0_3 qe1_3 qe2_3 ze_3 G_3 X_3
    go_wp2_with fail
    refine (HSS.out _ _ G_4.out.edges).mono ?_
    rintro e w5 ⟨vu, rfl, howu, hoku, hb5⟩
    have H5 := bel_trans H4 hb5
    have SZ5 := Lib.hid hb5.size
    have qg0_5 := (hb5.cell (p := ⟨w1.heap.size, 0, none⟩) zg_4).trans qg0_4
    have qg1_5 := (hb5.cell (p := ⟨w1.heap.size, 1, none⟩) zg_4).trans qg1_4
    have zg_5 := Nat.lt_of_lt_of_le zg_4 hb5.size
    have qe0_5 := (hb5.cell (p := ⟨w1.heap.size + 1, 0, none⟩) ze_4).trans qe0_4
    have qe1_5 := (hb5.cell (p := ⟨w1.heap.size + 1, 1, none⟩) ze_4).trans qe1_4
    have qe2_5 := (hb5.cell (p := ⟨w1.heap.size + 1, 2, none⟩) ze_4).trans qe2_4
    have ze_5 := Nat.lt_of_lt_of_le ze_4 hb5.size
    have qx0_5 := (hb5.cell (p := ⟨w3.heap.size, 0, none⟩) zx_4).trans qx0_4
    have qx1_5 := (hb5.cell (p := ⟨w3.heap.size, 1, none⟩) zx_4).trans qx1_4
    have zx_5 := Nat.lt_of_lt_of_le zx_4 hb5.size
    have G_5 := Lib.hid (G_4.out.keep hb5)
    have X_5 := Lib.hid (X_4.out.keep hb5)
    obtain ⟨au, cu, rfl, hz9⟩ := id howu
    have HOKu := Lib.hid hoku
    clear hz9 hoku
    have U_5 := Lib.hid (show InR true w5 w4.heap.size w5.heap.size _ P.length 3 (cellE P) from howu)
    clear qg0_4 qg1_4 zg_4 qe0_4 qe1_4 qe2_4 ze_4 G_4 X_4 qx0_4 qx1_4 zx_4
    clear howu
    go_wp2_with fail
    have hb6 : Below w5.heap.size w5 (w5.alloc (.cells #[.int .i64 n, .slice au P.length cu] 25)) := (Below.refl _ _).alloc (by simp <;> omega) _
    have H6 := bel_trans H5 hb6
    have SZ6 := Lib.hid hb6.size
    have qg0_6 := (hb6.cell (p := ⟨w1.heap.size, 0, none⟩) zg_5).trans qg0_5
    have qg1_6 := (hb6.cell (p := ⟨w1.heap.size, 1, none⟩) zg_5).trans qg1_5
    have zg_6 := Nat.lt_of_lt_of_le zg_5 hb6.size
    have qe0_6 := (hb6.cell (p := ⟨w1.heap.size + 1, 0, none⟩) ze_5).trans qe0_5
    have qe1_6 := (hb6.cell (p := ⟨w1.heap.size + 1, 1, none⟩) ze_5).trans qe1_5
    have qe2_6 := (hb6.cell (p := ⟨w1.heap.size + 1, 2, none⟩) ze_5).trans qe2_5
    have ze_6 := Nat.lt_of_lt_of_le ze_5 hb6.size
    have qx0_6 := (hb6.cell (p := ⟨w3.heap.size, 0, none⟩) zx_5).trans qx0_5
    have qx1_6 := (hb6.cell (p := ⟨w3.heap.size, 1, none⟩) zx_5).trans qx1_5
    have zx_6 := Nat.lt_of_lt_of_le zx_5 hb6.size
    have G_6 := Lib.hid (G_5.out.keep hb6)
    have X_6 := Lib.hid (X_5.out.keep hb6)
    have U_6 := Lib.hid (U_5.out.keep hb6)
    have qu0_6 : (w5.alloc (.cells #[.int .i64 n, .slice au P.length cu] 25)).cell? ⟨w5.heap.size, 0, none⟩ = some (.int .i64 n) := by go_simp
    have qu1_6 : (w5.alloc (.cells #[.int .i64 n, .slice au P.length cu] 25)).cell? ⟨w5.heap.size, 1, none⟩ = some (.slice au P.length cu) := by go_simp
    have zu_6 : w5.heap.size < (w5.alloc (.cells #[.int .i64 n, .slice au P.length cu] 25)).heap.size := by simp <;> omega
    generalize (w5.alloc (.cells #[.int .i64 n, .slice au P.length cu] 25)) = w6 at hb6 H6 SZ6 G_6 U_6 X_6 qe0_6 qe1_6 qe2_6 qg0_6 qg1_6 qu0_6 qu1_6 qx0_6 qx1_6 ze_6 zg_6 zu_6 zx_6 ⊢
    have ZBu := Lib.hid zu_6
    clear qg0_5 qg1_5 zg_5 qe0_5 qe1_5 qe2_5 ze_5 qx0_5 qx1_5 zx_5 G_5 X_5 U_5
    go_wp2_with fail
    refine (graphSame n n P P _ _ _ X_6.out.edges U_6.out.edges (by omega) (by omega)).mono ?_
    rintro e w7 ⟨hS, hb7⟩
    have H7 := bel_trans H6 hb7
    have SZ7 := Lib.hid hb7.size
    have qg0_7 := (hb7.cell (p := ⟨w1.heap.size, 0, none⟩) zg_6).trans qg0_6
    have qg1_7 := (hb7.cell (p := ⟨w1.heap.size, 1, none⟩) zg_6).trans qg1_6
    have zg_7 := Nat.lt_of_lt_of_le zg_6 hb7.size
    have qe0_7 := (hb7.cell (p := ⟨w1.heap.size + 1, 0, none⟩) ze_6).trans qe0_6
    have qe1_7 := (hb7.cell (p := ⟨w1.heap.size + 1, 1, none⟩) ze_6).trans qe1_6
    have qe2_7 := (hb7.cell (p := ⟨w1.heap.size + 1, 2, none⟩) ze_6).trans qe2_6
    have ze_7 := Nat.lt_of_lt_of_le ze_6 hb7.size
    have qx0_7 := (hb7.cell (p := ⟨w3.heap.size, 0, none⟩) zx_6).trans qx0_6
    have qx1_7 := (hb7.cell (p := ⟨w3.heap.size, 1, none⟩) zx_6).trans qx1_6
    have zx_7 := Nat.lt_of_lt_of_le zx_6 hb7.size
    have qu0_7 := (hb7.cell (p := ⟨w5.heap.size, 0, none⟩) zu_6).trans qu0_6
    have qu1_7 := (hb7.cell (p := ⟨w5.heap.size, 1, none⟩) zu_6).trans qu1_6
    have zu_7 := Nat.lt_of_lt_of_le zu_6 hb7.size
    have G_7 := Lib.hid (G_6.out.keep hb7)
    have X_7 := Lib.hid (X_6.out.keep hb7)
    have U_7 := Lib.hid (U_6.out.keep hb7)
    rw [gSame_self] at hS
    subst hS
    clear qg0_6 qg1_6 zg_6 qe0_6 qe1_6 qe2_6 ze_6 qx0_6 qx1_6 zx_6 G_6 X_6 U_6 qu0_6 qu1_6 zu_6
    go_wp2_with fail
    have hb8 : Below w7.heap.size w7 (w7.alloc (.cells #[.int .i64 x, .int .i64 y, .int .i64 77] 35)) := (Below.refl _ _).alloc (by simp <;> omega) _
    have H8 := bel_trans H7 hb8
    have SZ8 := Lib.hid hb8.size
    have qg0_8 := (hb8.cell (p := ⟨w1.heap.size, 0, none⟩) zg_7).trans qg0_7
    have qg1_8 := (hb8.cell (p := ⟨w1.heap.size, 1, none⟩) zg_7).trans qg1_7
    have zg_8 := Nat.lt_of_lt_of_le zg_7 hb8.size
    have qe0_8 := (hb8.cell (p := ⟨w1.heap.size + 1, 0, none⟩) ze_7).trans qe0_7
    have qe1_8 := (hb8.cell (p := ⟨w1.heap.size + 1, 1, none⟩) ze_7).trans qe1_7
    have qe2_8 := (hb8.cell (p := ⟨w1.heap.size + 1, 2, none⟩) ze_7).trans qe2_7
    have ze_8 := Nat.lt_of_lt_of_le ze_7 hb8.size
    have qx0_8 := (hb8.cell (p := ⟨w3.heap.size, 0, none⟩) zx_7).trans qx0_7
    have qx1_8 := (hb8.cell (p := ⟨w3.heap.size, 1, none⟩) zx_7).trans qx1_7
    have zx_8 := Nat.lt_of_lt_of_le zx_7 hb8.size
    have qu0_8 := (hb8.cell (p := ⟨w5.heap.size, 0, none⟩) zu_7).trans qu0_7
    have qu1_8 := (hb8.cell (p := ⟨w5.heap.size, 1, none⟩) zu_7).trans qu1_7
    have zu_8 := Nat.lt_of_lt_of_le zu_7 hb8.size
    have G_8 := Lib.hid (G_7.out.keep hb8)
    have X_8 := Lib.hid (X_7.out.keep hb8)
    have U_8 := Lib.hid (U_7.out.keep hb8)
    have qo0_8 : (w7.alloc (.cells #[.int .i64 x, .int .i64 y, .int .i64 77] 35)).cell? ⟨w7.heap.size, 0, none⟩ = some (.int .i64 x) := by go_simp
    have qo1_8 : (w7.alloc (.cells #[.int .i64 x, .int .i64 y, .int .i64 77] 35)).cell? ⟨w7.heap.size, 1, none⟩ = some (.int .i64 y) := by go_simp
    have qo2_8 : (w7.alloc (.cells #[.int .i64 x, .int .i64 y, .int .i64 77] 35)).cell? ⟨w7.heap.size, 2, none⟩ = some (.int .i64 77) := by go_simp
    have zo_8 : w7.heap.size < (w7.alloc (.cells #[.int .i64 x, .int .i64 y, .int .i64 77] 35)).heap.size := by simp <;> omega
    generalize (w7.alloc (.cells #[.int .i64 x, .int .i64 y, .int .i64 77] 35)) = w8 at hb8 H8 SZ8 G_8 U_8 X_8 qe0_8 qe1_8 qe2_8 qg0_8 qg1_8 qo0_8 qo1_8 qo2_8 qu0_8 qu1_8 qx0_8 qx1_8 ze_8 zg_8 zo_8 zu_8 zx_8 ⊢
    have ZBo := Lib.hid zo_8
    clear qg0_7 qg1_7 zg_7 qe0_7 qe1_7 qe2_7 ze_7 qx0_7 qx1_7 zx_7 qu0_7 qu1_7 zu_7 G_7 X_7 U_7
    go_wp2_with fail
    refine (HA.out _ _ X_8.out.edges HOKx.out).mono ?_
    rintro e w9 ⟨vp, rfl, howp, hokp, hb9⟩
    have H9 := bel_trans H8 hb9
    have SZ9 := Lib.hid hb9.size
    have qg0_9 := (hb9.cell (p := ⟨w1.heap.size, 0, none⟩) zg_8).trans qg0_8
    have qg1_9 := (hb9.cell (p := ⟨w1.heap.size, 1, none⟩) zg_8).trans qg1_8
    have zg_9 := Nat.lt_of_lt_of_le zg_8 hb9.size
    have qe0_9 := (hb9.cell (p := ⟨w1.heap.size + 1, 0, none⟩) ze_8).trans qe0_8
    have qe1_9 := (hb9.cell (p := ⟨w1.heap.size + 1, 1, none⟩) ze_8).trans qe1_8
    have qe2_9 := (hb9.cell (p := ⟨w1.heap.size + 1, 2, none⟩) ze_8).trans qe2_8
    have ze_9 := Nat.lt_of_lt_of_le ze_8 hb9.size
    have qx0_9 := (hb9.cell (p := ⟨w3.heap.size, 0, none⟩) zx_8).trans qx0_8
    have qx1_9 := (hb9.cell (p := ⟨w3.heap.size, 1, none⟩) zx_8).trans qx1_8
    have zx_9 := Nat.lt_of_lt_of_le zx_8 hb9.size
    have qu0_9 := (hb9.cell (p := ⟨w5.heap.size, 0, none⟩) zu_8).trans qu0_8
    have qu1_9 := (hb9.cell (p := ⟨w5.heap.size, 1, none⟩) zu_8).trans qu1_8
    have zu_9 := Nat.lt_of_lt_of_le zu_8 hb9.size
    have qo0_9 := (hb9.cell (p := ⟨w7.heap.size, 0, none⟩) zo_8).trans qo0_8
    have qo1_9 := (hb9.cell (p := ⟨w7.heap.size, 1, none⟩) zo_8).trans qo1_8
    have qo2_9 := (hb9.cell (p := ⟨w7.heap.size, 2, none⟩) zo_8).trans qo2_8
    have zo_9 := Nat.lt_of_lt_of_le zo_8 hb9.size
    have G_9 := Lib.hid (G_8.out.keep hb9)
    have X_9 := Lib.hid (X_8.out.keep hb9)
    have U_9 := Lib.hid (U_8.out.keep hb9)
    obtain ⟨ap, cp, rfl, hz9⟩ := id howp
    have HOKp := Lib.hid hokp
    clear hz9 hokp
    have P_9 := Lib.hid (show InR true w9 w8.heap.size w9.heap.size _ Q.length 3 (cellE Q) from howp)
    clear qg0_8 qg1_8 zg_8 qe0_8 qe1_8 qe2_8 ze_8 qx0_8 qx1_8 zx_8 qu0_8 qu1_8 zu_8 G_8 X_8 U_8 qo0_8 qo1_8 qo2_8 zo_8
    clear howp
    go_wp2_with fail
    have hb10 : Below w9.heap.size w9 (w9.alloc (.cells #[.int .i64 n, .slice ap Q.length cp] 25)) := (Below.refl _ _).alloc (by simp <;> omega) _
    have H10 := bel_trans H9 hb10
    have SZ10 := Lib.hid hb10.size
    have qg0_10 := (hb10.cell (p := ⟨w1.heap.size, 0, none⟩) zg_9).trans qg0_9
    have qg1_10 := (hb10.cell (p := ⟨w1.heap.size, 1, none⟩) zg_9).trans qg1_9
    have zg_10 := Nat.lt_of_lt_of_le zg_9 hb10.size
    have qe0_10 := (hb10.cell (p := ⟨w1.heap.size + 1, 0, none⟩) ze_9).trans qe0_9
    have qe1_10 := (hb10.cell (p := ⟨w1.heap.size + 1, 1, none⟩) ze_9).trans qe1_9
    have qe2_10 := (hb10.cell (p := ⟨w1.heap.size + 1, 2, none⟩) ze_9).trans qe2_9
    have ze_10 := Nat.lt_of_lt_of_le ze_9 hb10.size
    have qx0_10 := (hb10.cell (p := ⟨w3.heap.size, 0, none⟩) zx_9).trans qx0_9
    have qx1_10 := (hb10.cell (p := ⟨w3.heap.size, 1, none⟩) zx_9).trans qx1_9
    have zx_10 := Nat.lt_of_lt_of_le zx_9 hb10.size
    have qu0_10 := (hb10.cell (p := ⟨w5.heap.size, 0, none⟩) zu_9).trans qu0_9
    have qu1_10 := (hb10.cell (p := ⟨w5.heap.size, 1, none⟩) zu_9).trans qu1_9
    have zu_10 := Nat.lt_of_lt_of_le zu_9 hb10.size
    have qo0_10 := (hb10.cell (p := ⟨w7.heap.size, 0, none⟩) zo_9).trans qo0_9
    have qo1_10 := (hb10.cell (p := ⟨w7.heap.size, 1, none⟩) zo_9).trans qo1_9
    have qo2_10 := (hb10.cell (p := ⟨w7.heap.size, 2, none⟩) zo_9).trans qo2_9
    have zo_10 := Nat.lt_of_lt_of_le zo_9 hb10.size
    have G_10 := Lib.hid (G_9.out.keep hb10)
    have X_10 := Lib.hid (X_9.out.keep hb10)
    have U_10 := Lib.hid (U_9.out.keep hb10)
    have P_10 := Lib.hid (P_9.out.keep hb10)
    have qp0_10 : (w9.alloc (.cells #[.int .i64 n, .slice ap Q.length cp] 25)).cell? ⟨w9.heap.size, 0, none⟩ = some (.int .i64 n) := by go_simp
    have qp1_10 : (w9.alloc (.cells #[.int .i64 n, .slice ap Q.length cp] 25)).cell? ⟨w9.heap.size, 1, none⟩ = some (.slice ap Q.length cp) := by go_simp
    have zp_10 : w9.heap.size < (w9.alloc (.cells #[.int .i64 n, .slice ap Q.length cp] 25)).heap.size := by simp <;> omega
    generalize (w9.alloc (.cells #[.int .i64 n, .slice ap Q.length cp] 25)) = w10 at hb10 H10 SZ10 G_10 P_10 U_10 X_10 qe0_10 qe1_10 qe2_10 qg0_10 qg1_10 qo0_10 qo1_10 qo2_10 qp0_10 qp1_10 qu0_10 qu1_10 qx0_10 qx1_10 ze_10 zg_10 zo_10 zp_10 zu_10 zx_10 ⊢
    have ZBp := Lib.hid zp_10
    clear qg0_9 qg1_9 zg_9 qe0_9 qe1_9 qe2_9 ze_9 qx0_9 qx1_9 zx_9 qu0_9 qu1_9 zu_9 qo0_9 qo1_9 qo2_9 zo_9 G_9 X_9 U_9 P_9
    go_wp2_with fail
    refine (HB.out _ _ G_10.out.edges HOKG.out).mono ?_
    rintro e w11 ⟨vq, rfl, howq, hokq, hb11⟩
    have H11 := bel_trans H10 hb11
    have SZ11 := Lib.hid hb11.size
    have qg0_11 := (hb11.cell (p := ⟨w1.heap.size, 0, none⟩) zg_10).trans qg0_10
    have qg1_11 := (hb11.cell (p := ⟨w1.heap.size, 1, none⟩) zg_10).trans qg1_10
    have zg_11 := Nat.lt_of_lt_of_le zg_10 hb11.size
    have qe0_11 := (hb11.cell (p := ⟨w1.heap.size + 1, 0, none⟩) ze_10).trans qe0_10
    have qe1_11 := (hb11.cell (p := ⟨w1.heap.size + 1, 1, none⟩) ze_10).trans qe1_10
    have qe2_11 := (hb11.cell (p := ⟨w1.heap.size + 1, 2, none⟩) ze_10).trans qe2_10
    have ze_11 := Nat.lt_of_lt_of_le ze_10 hb11.size
    have qx0_11 := (hb11.cell (p := ⟨w3.heap.size, 0, none⟩) zx_10).trans qx0_10
    have qx1_11 := (hb11.cell (p := ⟨w3.heap.size, 1, none⟩) zx_10).trans qx1_10
    have zx_11 := Nat.lt_of_lt_of_le zx_10 hb11.size
    have qu0_11 := (hb11.cell (p := ⟨w5.heap.size, 0, none⟩) zu_10).trans qu0_10
    have qu1_11 := (hb11.cell (p := ⟨w5.heap.size, 1, none⟩) zu_10).trans qu1_10
    have zu_11 := Nat.lt_of_lt_of_le zu_10 hb11.size
    have qo0_11 := (hb11.cell (p := ⟨w7.heap.size, 0, none⟩) zo_10).trans qo0_10
    have qo1_11 := (hb11.cell (p := ⟨w7.heap.size, 1, none⟩) zo_10).trans qo1_10
    have qo2_11 := (hb11.cell (p := ⟨w7.heap.size, 2, none⟩) zo_10).trans qo2_10
    have zo_11 := Nat.lt_of_lt_of_le zo_10 hb11.size
    have qp0_11 := (hb11.cell (p := ⟨w9.heap.size, 0, none⟩) zp_10).trans qp0_10
    have qp1_11 := (hb11.cell (p := ⟨w9.heap.size, 1, none⟩) zp_10).trans qp1_10
    have zp_11 := Nat.lt_of_lt_of_le zp_10 hb11.size
    have G_11 := Lib.hid (G_10.out.keep hb11)
    have X_11 := Lib.hid (X_10.out.keep hb11)
    have U_11 := Lib.hid (U_10.out.keep hb11)
    have P_11 := Lib.hid (P_10.out.keep hb11)
    obtain ⟨aq, cq, rfl, hz9⟩ := id howq
    have HOKq := Lib.hid hokq
    clear hz9 hokq
    have Q_11 := Lib.hid (show InR true w11 w10.heap.size w11.heap.size _ Q.length 3 (cellE Q) from howq)
    clear qg0_10 qg1_10 zg_10 qe0_10 qe1_10 qe2_10 ze_10 qx0_10 qx1_10 zx_10 qu0_10 qu1_10 zu_10 qo0_10 qo1_10 qo2_10 zo_10 G_10 X_10 U_10 P_10 qp0_10 qp1_10 zp_10
    clear howq
    go_wp2_with fail
    have hb12 : Below w11.heap.size w11 (w11.alloc (.cells #[.int .i64 n, .slice aq Q.length cq] 25)) := (Below.refl _ _).alloc (by simp <;> omega) _
    have H12 := bel_trans H11 hb12
    have SZ12 := Lib.hid hb12.size
    have qg0_12 := (hb12.cell (p := ⟨w1.heap.size, 0, none⟩) zg_11).trans qg0_11
    have qg1_12 := (hb12.cell (p := ⟨w1.heap.size, 1, none⟩) zg_11).trans qg1_11
    have zg_12 := Nat.lt_of_lt_of_le zg_11 hb12.size
    have qe0_12 := (hb12.cell (p := ⟨w1.heap.size + 1, 0, none⟩) ze_11).trans qe0_11
    have qe1_12 := (hb12.cell (p := ⟨w1.heap.size + 1, 1, none⟩) ze_11).trans qe1_11
    have qe2_12 := (hb12.cell (p := ⟨w1.heap.size + 1, 2, none⟩) ze_11).trans qe2_11
    have ze_12 := Nat.lt_of_lt_of_le ze_11 hb12.size
    have qx0_12 := (hb12.cell (p := ⟨w3.heap.size, 0, none⟩) zx_11).trans qx0_11
    have qx1_12 := (hb12.cell (p := ⟨w3.heap.size, 1, none⟩) zx_11).trans qx1_11
    have zx_12 := Nat.lt_of_lt_of_le zx_11 hb12.size
    have qu0_12 := (hb12.cell (p := ⟨w5.heap.size, 0, none⟩) zu_11).trans qu0_11
    have qu1_12 := (hb12.cell (p := ⟨w5.heap.size, 1, none⟩) zu_11).trans qu1_11
    have zu_12 := Nat.lt_of_lt_of_le zu_11 hb12.size
    have qo0_12 := (hb12.cell (p := ⟨w7.heap.size, 0, none⟩) zo_11).trans qo0_11
    have qo1_12 := (hb12.cell (p := ⟨w7.heap.size, 1, none⟩) zo_11).trans qo1_11
    have qo2_12 := (hb12.cell (p := ⟨w7.heap.size, 2, none⟩) zo_11).trans qo2_11
    have zo_12 := Nat.lt_of_lt_of_le zo_11 hb12.size
    have qp0_12 := (hb12.cell (p := ⟨w9.heap.size, 0, none⟩) zp_11).trans qp0_11
    have qp1_12 := (hb12.cell (p := ⟨w9.heap.size, 1, none⟩) zp_11).trans qp1_11
    have zp_12 := Nat.lt_of_lt_of_le zp_11 hb12.size
    have G_12 := Lib.hid (G_11.out.keep hb12)
    have X_12 := Lib.hid (X_11.out.keep hb12)
    have U_12 := Lib.hid (U_11.out.keep hb12)
    have P_12 := Lib.hid (P_11.out.keep hb12)
    have Q_12 := Lib.hid (Q_11.out.keep hb12)
    have qq0_12 : (w11.alloc (.cells #[.int .i64 n, .slice aq Q.length cq] 25)).cell? ⟨w11.heap.size, 0, none⟩ = some (.int .i64 n) := by go_simp
    have qq1_12 : (w11.alloc (.cells #[.int .i64 n, .slice aq Q.length cq] 25)).cell? ⟨w11.heap.size, 1, none⟩ = some (.slice aq Q.length cq) := by go_simp
    have zq_12 : w11.heap.size < (w11.alloc (.cells #[.int .i64 n, .slice aq Q.length cq] 25)).heap.size := by simp <;> omega
    generalize (w11.alloc (.cells #[.int .i64 n, .slice aq Q.length cq] 25)) = w12 at hb12 H12 SZ12 G_12 P_12 Q_12 U_12 X_12 qe0_12 qe1_12 qe2_12 qg0_12 qg1_12 qo0_12 qo1_12 qo2_12 qp0_12 qp1_12 qq0_12 qq1_12 qu0_12 qu1_12 qx0_12 qx1_12 ze_12 zg_12 zo_12 zp_12 zq_12 zu_12 zx_12 ⊢
    have ZBq := Lib.hid zq_12
    clear qg0_11 qg1_11 zg_11 qe0_11 qe1_11 qe2_11 ze_11 qx0_11 qx1_11 zx_11 qu0_11 qu1_11 zu_11 qo0_11 qo1_11 qo2_11 zo_11 qp0_11 qp1_11 zp_11 G_11 X_11 U_11 P_11 Q_11
    go_wp2_with fail
    refine (graphSame n n Q Q _ _ _ P_12.out.edges Q_12.out.edges (by omega) (by omega)).mono ?_
    rintro e w13 ⟨hS, hb13⟩
    have H13 := bel_trans H12 hb13
    have SZ13 := Lib.hid hb13.size
    have qg0_13 := (hb13.cell (p := ⟨w1.heap.size, 0, none⟩) zg_12).trans qg0_12
    have qg1_13 := (hb13.cell (p := ⟨w1.heap.size, 1, none⟩) zg_12).trans qg1_12
    have zg_13 := Nat.lt_of_lt_of_le zg_12 hb13.size
    have qe0_13 := (hb13.cell (p := ⟨w1.heap.size + 1, 0, none⟩) ze_12).trans qe0_12
    have qe1_13 := (hb13.cell (p := ⟨w1.heap.size + 1, 1, none⟩) ze_12).trans qe1_12
    have qe2_13 := (hb13.cell (p := ⟨w1.heap.size + 1, 2, none⟩) ze_12).trans qe2_12
    have ze_13 := Nat.lt_of_lt_of_le ze_12 hb13.size
    have qx0_13 := (hb13.cell (p := ⟨w3.heap.size, 0, none⟩) zx_12).trans qx0_12
    have qx1_13 := (hb13.cell (p := ⟨w3.heap.size, 1, none⟩) zx_12).trans qx1_12
    have zx_13 := Nat.lt_of_lt_of_le zx_12 hb13.size
    have qu0_13 := (hb13.cell (p := ⟨w5.heap.size, 0, none⟩) zu_12).trans qu0_12
    have qu1_13 := (hb13.cell (p := ⟨w5.heap.size, 1, none⟩) zu_12).trans qu1_12
    have zu_13 := Nat.lt_of_lt_of_le zu_12 hb13.size
    have qo0_13 := (hb13.cell (p := ⟨w7.heap.size, 0, none⟩) zo_12).trans qo0_12
    have qo1_13 := (hb13.cell (p := ⟨w7.heap.size, 1, none⟩) zo_12).trans qo1_12
    have qo2_13 := (hb13.cell (p := ⟨w7.heap.size, 2, none⟩) zo_12).trans qo2_12
    have zo_13 := Nat.lt_of_lt_of_le zo_12 hb13.size
    have qp0_13 := (hb13.cell (p := ⟨w9.heap.size, 0, none⟩) zp_12).trans qp0_12
    have qp1_13 := (hb13.cell (p := ⟨w9.heap.size, 1, none⟩) zp_12).trans qp1_12
    have zp_13 := Nat.lt_of_lt_of_le zp_12 hb13.size
    have qq0_13 := (hb13.cell (p := ⟨w11.heap.size, 0, none⟩) zq_12).trans qq0_12
    have qq1_13 := (hb13.cell (p := ⟨w11.heap.size, 1, none⟩) zq_12).trans qq1_12
    have zq_13 := Nat.lt_of_lt_of_le zq_12 hb13.size
    have G_13 := Lib.hid (G_12.out.keep hb13)
    have X_13 := Lib.hid (X_12.out.keep hb13)
    have U_13 := Lib.hid (U_12.out.keep hb13)
    have P_13 := Lib.hid (P_12.out.keep hb13)
    have Q_13 := Lib.hid (Q_12.out.keep hb13)
    rw [gSame_self] at hS
    subst hS
    clear qg0_12 qg1_12 zg_12 qe0_12 qe1_12 qe2_12 ze_12 qx0_12 qx1_12 zx_12 qu0_12 qu1_12 zu_12 qo0_12 qo1_12 qo2_12 zo_12 qp0_12 qp1_12 zp_12 G_12 X_12 U_12 P_12 Q_12 qq0_12 qq1_12 zq_12
    go_wp2
    go_ret
    exact ⟨rfl, H13⟩

set_option maxRecDepth 100000 in
theorem lifted (os : Os) (started : os.Started) (H : Type) (enc : TypeId × Value → H) :
    ReturnsInHanded {} Try.checked os 4 .any (Rows.fnPutTwiceSpec.pre6 enc Try.prog Try.f4 Rows.fnPutTwiceRow.domain false) (Rows.fnPutTwiceSpec.post enc Try.prog Try.f4 false true false false) := by
  refine returnsInHanded_of_change (C := Try.checked) own started (by kernel_rfl) Try.func4
    (ChangeSpec.witness6 (enc := enc) (C := Try.checked) false ⟨#[], #[.slice none 0 0], []⟩ 8 (by kernel_rfl) (by kernel_rfl) (by kernel_rfl) (by kernel_rfl)) ?_
  intro W base args ds gs before hval0 hW hcnd _
  have hval : ∀ (j : Nat) t v, Try.f4.params[j]? = some t → args[j]? = some v → Value.okWide Try.prog W .any base t v := hval0
  have hW' := hW
  obtain ⟨p, q, hA0, hV, rfl, hfz, hnd⟩ := hW
  have hA : DataW.TrodAll enc Try.prog W 0 (fun _ => true) true Try.f4.params.toList args.toList ds p := hA0
  rw [Try.params4] at hA hval
  obtain ⟨v0, vs0, d0, ds0, p0, q0, hargs, rfl, rfl, h0, r0⟩ := trodAll_cons hA
  obtain ⟨rfl, rfl, rfl⟩ := trodAll_nil r0
  obtain rfl : args = #[v0] := by cases args; simp_all
  obtain ⟨rfl, rfl⟩ := trodVars_none hV
  obtain ⟨a0, len0, cap0, rfl⟩ := okWide_slice Try.underlying22 (hval 0 22 v0 rfl rfl)
  have k0 := h0
  have lt0 : ∀ x ∈ p0, x.block < W.heap.size := by obtain ⟨m, hm⟩ := k0; exact DataW.trod_lt m _ _ _ hm
  obtain ⟨z0, w0⟩ : ∃ zs, IsRow .u8 W a0 len0 cap0 zs := by
    obtain ⟨fuel, hf⟩ := h0
    rcases open_ints Try.underlying22 Try.underlying5 (by kernel_rfl) hf with ⟨hcs, _⟩ | ⟨x, l, c, zs, hcs, _, hl, hm, hz, _, hcell, hwz⟩
    · simp [Value.cells] at hcs
      obtain ⟨rfl, rfl, rfl⟩ := hcs
      exact ⟨[], .inl ⟨rfl, rfl, rfl, rfl⟩⟩
    · simp [Value.cells] at hcs
      obtain ⟨rfl, rfl, rfl⟩ := hcs
      exact ⟨zs, .inr ⟨_, rfl, hl, hm, by simpa using hz, hcell, hwz⟩⟩
  clear hA0 hval0
  refine (walk a0 len0 cap0 z0 W w0).mono fun e W' ⟨he, bel⟩ => ?_
  subst he
  exact ⟨_, rfl, _, _, _, [], _, [], hW', trodAll_mk1 (shut_bool Try.underlying4 _), (trodAll_cons_mk (Below.trod laidOut (by kernel_rfl) (of_decide_eq_true (by kernel_rfl)) k0 bel lt0) trodAll_mk0), rfl, bel.frame _, fun h => by cases h⟩

theorem over : Rows.fnPutTwiceRow.holds Try.pinned (OpenSpec.ofChange Rows.fnPutTwiceSpec) :=
  OpenClaim.holds_of_wide 4 Try.f4 rfl rfl rfl rfl rfl rfl rfl ⟨rfl, rfl, rfl, rfl, rfl⟩ rfl rfl rfl rfl rfl (by kernel_rfl) Try.func4 (by kernel_rfl)
    (of_decide_eq_true (by kernel_rfl)) (by unfold Func.isWrapper; first | (rw [if_pos (by decide +kernel)]; kernel_rfl) | (rw [if_neg (by decide +kernel)]; exact ⟨rfl, rfl⟩))
    (fun os started H enc _ => lifted os started H enc)

theorem proved : Rows.FnPutTwiceSaid := over
end Go.Proofs.Ytfciilpcjahfoaa.fnPutTwice
