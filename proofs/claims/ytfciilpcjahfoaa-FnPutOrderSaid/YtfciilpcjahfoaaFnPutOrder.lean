/-
  Proved: edges between other nodes can be put in either order (the law FnPutOrder returns true for every input and leaves it as it was), with no further condition.
-/
import Derived.Test.YtfciilpcjahfoaaRows
import Derived.Test.YtfciilpcjahfoaaDraws2
import Derived.Test.YtfciilpcjahfoaaPutT
import Derived.Test.YtfciilpcjahfoaaCutS
import Derived.Test.YtfciilpcjahfoaaEdgeM
import Derived.Test.YtfciilpcjahfoaaFind4
import Derived.WalkKit
import Derived.ProofKit
import Derived.OpenShut
import Derived.ShutString
import Derived.ChangeOld
import Derived.Below
namespace Go.Proofs.Ytfciilpcjahfoaa.fnPutOrder
open Go.Proofs.Ytfciilpcjahfoaa Go.BigFrame
open Go.ChangeShapes Go.WideShapes Go.ChangeAt Go.RowKit
open Go.ChangeMaps (open_string shut_string)
set_option linter.unusedVariables false

theorem own : ownKnob Try.prog.godebug = none := by kernel_rfl
theorem laidOut : laidOutB Try.prog = true := by kernel_rfl

def IsRow (k : IntKind) (w : World) (a : Option Addr) (len cap : Nat) (zs : List Int) : Prop :=
  (a = none ∧ len = 0 ∧ cap = 0 ∧ zs = []) ∨
  ∃ x, a = some x ∧ len ≤ cap ∧ cap ≤ maxLen ∧ zs.length = cap ∧ (∀ i, i < zs.length → w.cell? (x.add i) = some (.int k (zs.getD i 0))) ∧ ∀ n ∈ zs, (Lit.int k n).wf = true

theorem bytes_of {w : World} {a : Option Addr} {len cap : Nat} {zs : List Int} (h : IsRow .u8 w a len cap zs) : Bytes w a len ∧ len ≤ cap ∧ len ≤ 9223372036854775807 := by
  rcases h with ⟨rfl, rfl, rfl, rfl⟩ | ⟨x, rfl, hl, hm, hz, hc, hw⟩
  · exact ⟨.inl rfl, Nat.le_refl _, by omega⟩
  · unfold maxLen at hm
    refine ⟨?_, hl, by omega⟩
    by_cases h0 : len = 0
    · exact .inl h0
    · obtain ⟨b, off, rfl, hc'⟩ := ints_at hc (by omega)
      exact .inr ⟨b, off, rfl, World.block_lt_of_cell? _ _ (hc' 0 (by omega)), fun i hi => ⟨zs[i]?.getD 0, (range_u8 hw i).1, (range_u8 hw i).2, hc' i (by omega)⟩⟩

set_option maxRecDepth 100000 in
set_option maxHeartbeats 4000000 in
theorem walk (a0 : Option Addr) (len0 cap0 : Nat) (z0 : List Int) (a1 : Option Addr) (len1 cap1 : Nat) (z1 : List Int) (w : World) (w0 : IsRow .u8 w a0 len0 cap0 z0) (w1 : IsRow .u8 w a1 len1 cap1 z1) :
    Calls Try.prog 5 #[.slice a0 len0 cap0, .slice a1 len1 cap1] w fun e w' => e = .returned (.bool true) ∧ Below w.heap.size w w' := by
  obtain ⟨hby, hcp, hn⟩ := bytes_of w0
  obtain ⟨hby1, hcp1, hn1⟩ := bytes_of w1
  have HB0 := Lib.hid hby
  have HB1 := Lib.hid hby1
  clear hby hby1 w0 w1
  by_cases h0 : 1048576 < len0
  · go_enter Try.func5, Try.ntmps5
    go_wp2
    go_ret
    exact ⟨rfl, Below.refl _ _⟩
  have h0' : len0 ≤ 1048576 := by omega
  clear h0
  by_cases h1 : 1048576 < len1
  · go_enter Try.func5, Try.ntmps5
    go_wp2
    go_ret
    exact ⟨rfl, Below.refl _ _⟩
  have h1' : len1 ≤ 1048576 := by omega
  clear h1
  obtain ⟨w0, hw0⟩ : ∃ w0, w0 = w := ⟨_, rfl⟩
  subst hw0
  have H0 := Below.refl w0.heap.size w0
  go_enter Try.func5, Try.ntmps5
  go_wp2_with fail
  refine (dDrawPutEdge a0 len0 cap0 _ HB0.out hcp (by omega)).mono ?_
  rintro e w1 ⟨n, es, v, x, y, z, rfl, hle, hrow, hok, hb1⟩
  have H1 := bel_trans H0 hb1
  have SZ1 := Lib.hid hb1.size
  obtain ⟨va, vc, rfl, hz9⟩ := id hrow
  have HOKG := Lib.hid hok
  clear hz9 hok
  have G_1 := Lib.hid (hrow)
  clear hrow
  go_wp2_with fail
  have hb2 : Below w1.heap.size w1 ((w1.alloc (.cells #[.int .i64 n, .slice va es.length vc] 25)).alloc (.cells #[.int .i64 x, .int .i64 y, .int .i64 z] 35)) := ((Below.refl _ _).alloc (by simp <;> omega) _).alloc (by simp <;> omega) _
  have H2 := bel_trans H1 hb2
  have SZ2 := Lib.hid hb2.size
  have G_2 := Lib.hid (G_1.out.keep hb2)
  have qg0_2 : ((w1.alloc (.cells #[.int .i64 n, .slice va es.length vc] 25)).alloc (.cells #[.int .i64 x, .int .i64 y, .int .i64 z] 35)).cell? ⟨w1.heap.size, 0, none⟩ = some (.int .i64 n) := by go_simp
  have qg1_2 : ((w1.alloc (.cells #[.int .i64 n, .slice va es.length vc] 25)).alloc (.cells #[.int .i64 x, .int .i64 y, .int .i64 z] 35)).cell? ⟨w1.heap.size, 1, none⟩ = some (.slice va es.length vc) := by go_simp
  have zg_2 : w1.heap.size < ((w1.alloc (.cells #[.int .i64 n, .slice va es.length vc] 25)).alloc (.cells #[.int .i64 x, .int .i64 y, .int .i64 z] 35)).heap.size := by simp <;> omega
  have qe0_2 : ((w1.alloc (.cells #[.int .i64 n, .slice va es.length vc] 25)).alloc (.cells #[.int .i64 x, .int .i64 y, .int .i64 z] 35)).cell? ⟨w1.heap.size + 1, 0, none⟩ = some (.int .i64 x) := by go_simp
  have qe1_2 : ((w1.alloc (.cells #[.int .i64 n, .slice va es.length vc] 25)).alloc (.cells #[.int .i64 x, .int .i64 y, .int .i64 z] 35)).cell? ⟨w1.heap.size + 1, 1, none⟩ = some (.int .i64 y) := by go_simp
  have qe2_2 : ((w1.alloc (.cells #[.int .i64 n, .slice va es.length vc] 25)).alloc (.cells #[.int .i64 x, .int .i64 y, .int .i64 z] 35)).cell? ⟨w1.heap.size + 1, 2, none⟩ = some (.int .i64 z) := by go_simp
  have ze_2 : w1.heap.size + 1 < ((w1.alloc (.cells #[.int .i64 n, .slice va es.length vc] 25)).alloc (.cells #[.int .i64 x, .int .i64 y, .int .i64 z] 35)).heap.size := by simp <;> omega
  generalize ((w1.alloc (.cells #[.int .i64 n, .slice va es.length vc] 25)).alloc (.cells #[.int .i64 x, .int .i64 y, .int .i64 z] 35)) = w2 at hb2 H2 SZ2 G_2 qe0_2 qe1_2 qe2_2 qg0_2 qg1_2 ze_2 zg_2 ⊢
  have ZBg := Lib.hid zg_2
  have ZBe := Lib.hid ze_2
  clear G_1
  have hle2 : es.length ≤ 1048576 := by omega
  go_wp2_with fail
  refine (dDrawPutEdge a1 len1 cap1 _ (HB1.out.keepB H2) hcp1 (by omega)).mono ?_
  rintro e w3 ⟨n2, es2, v2, x2, y2, z2, rfl, hle9, hrow9, hok9, hb3⟩
  have H3 := bel_trans H2 hb3
  have SZ3 := Lib.hid hb3.size
  have qg0_3 := (hb3.cell (p := ⟨w1.heap.size, 0, none⟩) zg_2).trans qg0_2
  have qg1_3 := (hb3.cell (p := ⟨w1.heap.size, 1, none⟩) zg_2).trans qg1_2
  have zg_3 := Nat.lt_of_lt_of_le zg_2 hb3.size
  have qe0_3 := (hb3.cell (p := ⟨w1.heap.size + 1, 0, none⟩) ze_2).trans qe0_2
  have qe1_3 := (hb3.cell (p := ⟨w1.heap.size + 1, 1, none⟩) ze_2).trans qe1_2
  have qe2_3 := (hb3.cell (p := ⟨w1.heap.size + 1, 2, none⟩) ze_2).trans qe2_2
  have ze_3 := Nat.lt_of_lt_of_le ze_2 hb3.size
  have G_3 := Lib.hid (G_2.out.keep hb3)
  obtain ⟨va2, vc2, rfl, hz9⟩ := id hrow9
  clear hz9 hok9 hrow9 hle9
  clear G_2 qg0_2 qg1_2 zg_2 qe0_2 qe1_2 qe2_2 ze_2
  go_wp2_with fail
  have hb4 : Below w3.heap.size w3 ((w3.alloc (.cells #[.int .i64 n2, .slice va2 es2.length vc2] 25)).alloc (.cells #[.int .i64 x2, .int .i64 y2, .int .i64 z2] 35)) := ((Below.refl _ _).alloc (by simp <;> omega) _).alloc (by simp <;> omega) _
  have H4 := bel_trans H3 hb4
  have SZ4 := Lib.hid hb4.size
  have qg0_4 := (hb4.cell (p := ⟨w1.heap.size, 0, none⟩) zg_3).trans qg0_3
  have qg1_4 := (hb4.cell (p := ⟨w1.heap.size, 1, none⟩) zg_3).trans qg1_3
  have zg_4 := Nat.lt_of_lt_of_le zg_3 hb4.size
  have qe0_4 := (hb4.cell (p := ⟨w1.heap.size + 1, 0, none⟩) ze_3).trans qe0_3
  have qe1_4 := (hb4.cell (p := ⟨w1.heap.size + 1, 1, none⟩) ze_3).trans qe1_3
  have qe2_4 := (hb4.cell (p := ⟨w1.heap.size + 1, 2, none⟩) ze_3).trans qe2_3
  have ze_4 := Nat.lt_of_lt_of_le ze_3 hb4.size
  have G_4 := Lib.hid (G_3.out.keep hb4)
  have qh0_4 : ((w3.alloc (.cells #[.int .i64 n2, .slice va2 es2.length vc2] 25)).alloc (.cells #[.int .i64 x2, .int .i64 y2, .int .i64 z2] 35)).cell? ⟨w3.heap.size, 0, none⟩ = some (.int .i64 n2) := by go_simp
  have qh1_4 : ((w3.alloc (.cells #[.int .i64 n2, .slice va2 es2.length vc2] 25)).alloc (.cells #[.int .i64 x2, .int .i64 y2, .int .i64 z2] 35)).cell? ⟨w3.heap.size, 1, none⟩ = some (.slice va2 es2.length vc2) := by go_simp
  have zh_4 : w3.heap.size < ((w3.alloc (.cells #[.int .i64 n2, .slice va2 es2.length vc2] 25)).alloc (.cells #[.int .i64 x2, .int .i64 y2, .int .i64 z2] 35)).heap.size := by simp <;> omega
  have qf0_4 : ((w3.alloc (.cells #[.int .i64 n2, .slice va2 es2.length vc2] 25)).alloc (.cells #[.int .i64 x2, .int .i64 y2, .int .i64 z2] 35)).cell? ⟨w3.heap.size + 1, 0, none⟩ = some (.int .i64 x2) := by go_simp
  have qf1_4 : ((w3.alloc (.cells #[.int .i64 n2, .slice va2 es2.length vc2] 25)).alloc (.cells #[.int .i64 x2, .int .i64 y2, .int .i64 z2] 35)).cell? ⟨w3.heap.size + 1, 1, none⟩ = some (.int .i64 y2) := by go_simp
  have qf2_4 : ((w3.alloc (.cells #[.int .i64 n2, .slice va2 es2.length vc2] 25)).alloc (.cells #[.int .i64 x2, .int .i64 y2, .int .i64 z2] 35)).cell? ⟨w3.heap.size + 1, 2, none⟩ = some (.int .i64 z2) := by go_simp
  have zf_4 : w3.heap.size + 1 < ((w3.alloc (.cells #[.int .i64 n2, .slice va2 es2.length vc2] 25)).alloc (.cells #[.int .i64 x2, .int .i64 y2, .int .i64 z2] 35)).heap.size := by simp <;> omega
  generalize ((w3.alloc (.cells #[.int .i64 n2, .slice va2 es2.length vc2] 25)).alloc (.cells #[.int .i64 x2, .int .i64 y2, .int .i64 z2] 35)) = w4 at hb4 H4 SZ4 G_4 qe0_4 qe1_4 qe2_4 qf0_4 qf1_4 qf2_4 qg0_4 qg1_4 qh0_4 qh1_4 ze_4 zf_4 zg_4 zh_4 ⊢
  have ZBh := Lib.hid zh_4
  have ZBf := Lib.hid zf_4
  clear qg0_3 qg1_3 zg_3 qe0_3 qe1_3 qe2_3 ze_3 G_3
  have hst := fun s w (h : RowE w s es) (k : okS s) => putEdge n es x y z s w h k hle2
  have hss := fun s w (h : RowE w s es) => sPutEdge n es x y z s w h hle2
  cases hk : putB n es (x, y, z)
  · rw [show putN n es (x, y, z) = 0 by unfold putN; rw [hk]; rfl, show putL n es (x, y, z) = [] by unfold putL; rw [hk]; rfl, hk] at hst hss
    have HST := Lib.hid hst
    have HSS := Lib.hid hss
    clear hst hss hk
    have hen : ([] : List Ed).length ≤ 1048576 := by simp
    go_wp2_with fail
    refine (HST.out _ _ G_4.out.edges HOKG.out).mono ?_
    rintro e w5 ⟨vx, rfl, howx, hokx, hb5⟩
    have H5 := bel_trans H4 hb5
    have SZ5 := Lib.hid hb5.size
    have qg0_5 := (hb5.cell (p := ⟨w1.heap.size, 0, none⟩) zg_4).trans qg0_4
    have qg1_5 := (hb5.cell (p := ⟨w1.heap.size, 1, none⟩) zg_4).trans qg1_4
    have zg_5 := Nat.lt_of_lt_of_le zg_4 hb5.size
    have qe0_5 := (hb5.cell (p := ⟨w1.heap.size + 1, 0, none⟩) ze_4).trans qe0_4
    have qe1_5 := (hb5.cell (p := ⟨w1.heap.size + 1, 1, none⟩) ze_4).trans qe1_4
    have qe2_5 := (hb5.cell (p := ⟨w1.heap.size + 1, 2, none⟩) ze_4).trans qe2_4
    have ze_5 := Nat.lt_of_lt_of_le ze_4 hb5.size
    have qh0_5 := (hb5.cell (p := ⟨w3.heap.size, 0, none⟩) zh_4).trans qh0_4
    have qh1_5 := (hb5.cell (p := ⟨w3.heap.size, 1, none⟩) zh_4).trans qh1_4
    have zh_5 := Nat.lt_of_lt_of_le zh_4 hb5.size
    have qf0_5 := (hb5.cell (p := ⟨w3.heap.size + 1, 0, none⟩) zf_4).trans qf0_4
    have qf1_5 := (hb5.cell (p := ⟨w3.heap.size + 1, 1, none⟩) zf_4).trans qf1_4
    have qf2_5 := (hb5.cell (p := ⟨w3.heap.size + 1, 2, none⟩) zf_4).trans qf2_4
    have zf_5 := Nat.lt_of_lt_of_le zf_4 hb5.size
    have G_5 := Lib.hid (G_4.out.keep hb5)
    obtain ⟨ax, cx, rfl, hz9⟩ := id howx
    have HOKx := Lib.hid hokx
    clear hz9 hokx
    have X_5 := Lib.hid (show InR true w5 w4.heap.size w5.heap.size _ ([] : List Ed).length 3 (cellE ([] : List Ed)) from howx)
    clear qg1_4 qe1_4 qh0_4 qe0_4 zf_4 qf1_4 qf2_4 zg_4 qf0_4 zh_4 ze_4 qh1_4 qg0_4 qe2_4 G_4
    clear howx
    go_wp2_with fail
    have hb6 : Below w5.heap.size w5 (w5.alloc (.cells #[.int .i64 0, .slice ax ([] : List Ed).length cx] 25)) := (Below.refl _ _).alloc (by simp <;> omega) _
    have H6 := bel_trans H5 hb6
    have SZ6 := Lib.hid hb6.size
    have qg0_6 := (hb6.cell (p := ⟨w1.heap.size, 0, none⟩) zg_5).trans qg0_5
    have qg1_6 := (hb6.cell (p := ⟨w1.heap.size, 1, none⟩) zg_5).trans qg1_5
    have zg_6 := Nat.lt_of_lt_of_le zg_5 hb6.size
    have qe0_6 := (hb6.cell (p := ⟨w1.heap.size + 1, 0, none⟩) ze_5).trans qe0_5
    have qe1_6 := (hb6.cell (p := ⟨w1.heap.size + 1, 1, none⟩) ze_5).trans qe1_5
    have qe2_6 := (hb6.cell (p := ⟨w1.heap.size + 1, 2, none⟩) ze_5).trans qe2_5
    have ze_6 := Nat.lt_of_lt_of_le ze_5 hb6.size
    have qh0_6 := (hb6.cell (p := ⟨w3.heap.size, 0, none⟩) zh_5).trans qh0_5
    have qh1_6 := (hb6.cell (p := ⟨w3.heap.size, 1, none⟩) zh_5).trans qh1_5
    have zh_6 := Nat.lt_of_lt_of_le zh_5 hb6.size
    have qf0_6 := (hb6.cell (p := ⟨w3.heap.size + 1, 0, none⟩) zf_5).trans qf0_5
    have qf1_6 := (hb6.cell (p := ⟨w3.heap.size + 1, 1, none⟩) zf_5).trans qf1_5
    have qf2_6 := (hb6.cell (p := ⟨w3.heap.size + 1, 2, none⟩) zf_5).trans qf2_5
    have zf_6 := Nat.lt_of_lt_of_le zf_5 hb6.size
    have G_6 := Lib.hid (G_5.out.keep hb6)
    have X_6 := Lib.hid (X_5.out.keep hb6)
    have qx0_6 : (w5.alloc (.cells #[.int .i64 0, .slice ax ([] : List Ed).length cx] 25)).cell? ⟨w5.heap.size, 0, none⟩ = some (.int .i64 0) := by go_simp
    have qx1_6 : (w5.alloc (.cells #[.int .i64 0, .slice ax ([] : List Ed).length cx] 25)).cell? ⟨w5.heap.size, 1, none⟩ = some (.slice ax ([] : List Ed).length cx) := by go_simp
    have zx_6 : w5.heap.size < (w5.alloc (.cells #[.int .i64 0, .slice ax ([] : List Ed).length cx] 25)).heap.size := by simp <;> omega
    generalize (w5.alloc (.cells #[.int .i64 0, .slice ax ([] : List Ed).length cx] 25)) = w6 at hb6 H6 SZ6 G_6 X_6 qe0_6 qe1_6 qe2_6 qf0_6 qf1_6 qf2_6 qg0_6 qg1_6 qh0_6 qh1_6 qx0_6 qx1_6 ze_6 zf_6 zg_6 zh_6 zx_6 ⊢
    have ZBx := Lib.hid zx_6
    clear qg0_5 qg1_5 zg_5 qe0_5 qe1_5 qe2_5 ze_5 qh0_5 qh1_5 zh_5 qf0_5 qf1_5 qf2_5 zf_5 G_5 X_5
    go_wp2_with fail
    refine (HSS.out _ _ G_6.out.edges).mono ?_
    rintro e w7 ⟨vu, rfl, howu, hoku, hb7⟩
    have H7 := bel_trans H6 hb7
    have SZ7 := Lib.hid hb7.size
    have qg0_7 := (hb7.cell (p := ⟨w1.heap.size, 0, none⟩) zg_6).trans qg0_6
    have qg1_7 := (hb7.cell (p := ⟨w1.heap.size, 1, none⟩) zg_6).trans qg1_6
    have zg_7 := Nat.lt_of_lt_of_le zg_6 hb7.size
    have qe0_7 := (hb7.cell (p := ⟨w1.heap.size + 1, 0, none⟩) ze_6).trans qe0_6
    have qe1_7 := (hb7.cell (p := ⟨w1.heap.size + 1, 1, none⟩) ze_6).trans qe1_6
    have qe2_7 := (hb7.cell (p := ⟨w1.heap.size + 1, 2, none⟩) ze_6).trans qe2_6
    have ze_7 := Nat.lt_of_lt_of_le ze_6 hb7.size
    have qh0_7 := (hb7.cell (p := ⟨w3.heap.size, 0, none⟩) zh_6).trans qh0_6
    have qh1_7 := (hb7.cell (p := ⟨w3.heap.size, 1, none⟩) zh_6).trans qh1_6
    have zh_7 := Nat.lt_of_lt_of_le zh_6 hb7.size
    have qf0_7 := (hb7.cell (p := ⟨w3.heap.size + 1, 0, none⟩) zf_6).trans qf0_6
    have qf1_7 := (hb7.cell (p := ⟨w3.heap.size + 1, 1, none⟩) zf_6).trans qf1_6
    have qf2_7 := (hb7.cell (p := ⟨w3.heap.size + 1, 2, none⟩) zf_6).trans qf2_6
    have zf_7 := Nat.lt_of_lt_of_le zf_6 hb7.size
    have qx0_7 := (hb7.cell (p := ⟨w5.heap.size, 0, none⟩) zx_6).trans qx0_6
    have qx1_7 := (hb7.cell (p := ⟨w5.heap.size, 1, none⟩) zx_6).trans qx1_6
    have zx_7 := Nat.lt_of_lt_of_le zx_6 hb7.size
    have G_7 := Lib.hid (G_6.out.keep hb7)
    have X_7 := Lib.hid (X_6.out.keep hb7)
    obtain ⟨au, cu, rfl, hz9⟩ := id howu
    have HOKu := Lib.hid hoku
    clear hz9 hoku
    have U_7 := Lib.hid (show InR true w7 w6.heap.size w7.heap.size _ ([] : List Ed).length 3 (cellE ([] : List Ed)) from howu)
    clear qg0_6 qg1_6 zg_6 qe0_6 qe1_6 qe2_6 ze_6 qh0_6 qh1_6 zh_6 qf0_6 qf1_6 qf2_6 zf_6 G_6 X_6 qx0_6 qx1_6 zx_6
    clear howu
    go_wp2_with fail
    have hb8 : Below w7.heap.size w7 (w7.alloc (.cells #[.int .i64 0, .slice au ([] : List Ed).length cu] 25)) := (Below.refl _ _).alloc (by simp <;> omega) _
    have H8 := bel_trans H7 hb8
    have SZ8 := Lib.hid hb8.size
    have qg0_8 := (hb8.cell (p := ⟨w1.heap.size, 0, none⟩) zg_7).trans qg0_7
    have qg1_8 := (hb8.cell (p := ⟨w1.heap.size, 1, none⟩) zg_7).trans qg1_7
    have zg_8 := Nat.lt_of_lt_of_le zg_7 hb8.size
    have qe0_8 := (hb8.cell (p := ⟨w1.heap.size + 1, 0, none⟩) ze_7).trans qe0_7
    have qe1_8 := (hb8.cell (p := ⟨w1.heap.size + 1, 1, none⟩) ze_7).trans qe1_7
    have qe2_8 := (hb8.cell (p := ⟨w1.heap.size + 1, 2, none⟩) ze_7).trans qe2_7
    have ze_8 := Nat.lt_of_lt_of_le ze_7 hb8.size
    have qh0_8 := (hb8.cell (p := ⟨w3.heap.size, 0, none⟩) zh_7).trans qh0_7
    have qh1_8 := (hb8.cell (p := ⟨w3.heap.size, 1, none⟩) zh_7).trans qh1_7
    have zh_8 := Nat.lt_of_lt_of_le zh_7 hb8.size
    have qf0_8 := (hb8.cell (p := ⟨w3.heap.size + 1, 0, none⟩) zf_7).trans qf0_7
    have qf1_8 := (hb8.cell (p := ⟨w3.heap.size + 1, 1, none⟩) zf_7).trans qf1_7
    have qf2_8 := (hb8.cell (p := ⟨w3.heap.size + 1, 2, none⟩) zf_7).trans qf2_7
    have zf_8 := Nat.lt_of_lt_of_le zf_7 hb8.size
    have qx0_8 := (hb8.cell (p := ⟨w5.heap.size, 0, none⟩) zx_7).trans qx0_7
    have qx1_8 := (hb8.cell (p := ⟨w5.heap.size, 1, none⟩) zx_7).trans qx1_7
    have zx_8 := Nat.lt_of_lt_of_le zx_7 hb8.size
    have G_8 := Lib.hid (G_7.out.keep hb8)
    have X_8 := Lib.hid (X_7.out.keep hb8)
    have U_8 := Lib.hid (U_7.out.keep hb8)
    have qu0_8 : (w7.alloc (.cells #[.int .i64 0, .slice au ([] : List Ed).length cu] 25)).cell? ⟨w7.heap.size, 0, none⟩ = some (.int .i64 0) := by go_simp
    have qu1_8 : (w7.alloc (.cells #[.int .i64 0, .slice au ([] : List Ed).length cu] 25)).cell? ⟨w7.heap.size, 1, none⟩ = some (.slice au ([] : List Ed).length cu) := by go_simp
    have zu_8 : w7.heap.size < (w7.alloc (.cells #[.int .i64 0, .slice au ([] : List Ed).length cu] 25)).heap.size := by simp <;> omega
    generalize (w7.alloc (.cells #[.int .i64 0, .slice au ([] : List Ed).length cu] 25)) = w8 at hb8 H8 SZ8 G_8 U_8 X_8 qe0_8 qe1_8 qe2_8 qf0_8 qf1_8 qf2_8 qg0_8 qg1_8 qh0_8 qh1_8 qu0_8 qu1_8 qx0_8 qx1_8 ze_8 zf_8 zg_8 zh_8 zu_8 zx_8 ⊢
    have ZBu := Lib.hid zu_8
    clear qg0_7 qg1_7 zg_7 qe0_7 qe1_7 qe2_7 ze_7 qh0_7 qh1_7 zh_7 qf0_7 qf1_7 qf2_7 zf_7 qx0_7 qx1_7 zx_7 G_7 X_7 U_7
    go_wp2_with fail
    refine (graphSame 0 0 ([] : List Ed) ([] : List Ed) _ _ _ X_8.out.edges U_8.out.edges (by omega) (by omega)).mono ?_
    rintro e w9 ⟨hS, hb9⟩
    have H9 := bel_trans H8 hb9
    have SZ9 := Lib.hid hb9.size
    have qg0_9 := (hb9.cell (p := ⟨w1.heap.size, 0, none⟩) zg_8).trans qg0_8
    have qg1_9 := (hb9.cell (p := ⟨w1.heap.size, 1, none⟩) zg_8).trans qg1_8
    have zg_9 := Nat.lt_of_lt_of_le zg_8 hb9.size
    have qe0_9 := (hb9.cell (p := ⟨w1.heap.size + 1, 0, none⟩) ze_8).trans qe0_8
    have qe1_9 := (hb9.cell (p := ⟨w1.heap.size + 1, 1, none⟩) ze_8).trans qe1_8
    have qe2_9 := (hb9.cell (p := ⟨w1.heap.size + 1, 2, none⟩) ze_8).trans qe2_8
    have ze_9 := Nat.lt_of_lt_of_le ze_8 hb9.size
    have qh0_9 := (hb9.cell (p := ⟨w3.heap.size, 0, none⟩) zh_8).trans qh0_8
    have qh1_9 := (hb9.cell (p := ⟨w3.heap.size, 1, none⟩) zh_8).trans qh1_8
    have zh_9 := Nat.lt_of_lt_of_le zh_8 hb9.size
    have qf0_9 := (hb9.cell (p := ⟨w3.heap.size + 1, 0, none⟩) zf_8).trans qf0_8
    have qf1_9 := (hb9.cell (p := ⟨w3.heap.size + 1, 1, none⟩) zf_8).trans qf1_8
    have qf2_9 := (hb9.cell (p := ⟨w3.heap.size + 1, 2, none⟩) zf_8).trans qf2_8
    have zf_9 := Nat.lt_of_lt_of_le zf_8 hb9.size
    have qx0_9 := (hb9.cell (p := ⟨w5.heap.size, 0, none⟩) zx_8).trans qx0_8
    have qx1_9 := (hb9.cell (p := ⟨w5.heap.size, 1, none⟩) zx_8).trans qx1_8
    have zx_9 := Nat.lt_of_lt_of_le zx_8 hb9.size
    have qu0_9 := (hb9.cell (p := ⟨w7.heap.size, 0, none⟩) zu_8).trans qu0_8
    have qu1_9 := (hb9.cell (p := ⟨w7.heap.size, 1, none⟩) zu_8).trans qu1_8
    have zu_9 := Nat.lt_of_lt_of_le zu_8 hb9.size
    have G_9 := Lib.hid (G_8.out.keep hb9)
    have X_9 := Lib.hid (X_8.out.keep hb9)
    have U_9 := Lib.hid (U_8.out.keep hb9)
    rw [gSame_self] at hS
    subst hS
    clear qg0_8 qg1_8 zg_8 qe0_8 qe1_8 qe2_8 ze_8 qh0_8 qh1_8 zh_8 qf0_8 qf1_8 qf2_8 zf_8 qx0_8 qx1_8 zx_8 G_8 X_8 U_8 qu0_8 qu1_8 zu_8
    go_wp2_with fail
    refine (graphSame 0 0 ([] : List Ed) ([] : List Ed) _ _ _ X_9.out.edges U_9.out.edges (by omega) (by omega)).mono ?_
    rintro e w10 ⟨hS, hb10⟩
    have H10 := bel_trans H9 hb10
    have SZ10 := Lib.hid hb10.size
    have qg0_10 := (hb10.cell (p := ⟨w1.heap.size, 0, none⟩) zg_9).trans qg0_9
    have qg1_10 := (hb10.cell (p := ⟨w1.heap.size, 1, none⟩) zg_9).trans qg1_9
    have zg_10 := Nat.lt_of_lt_of_le zg_9 hb10.size
    have qe0_10 := (hb10.cell (p := ⟨w1.heap.size + 1, 0, none⟩) ze_9).trans qe0_9
    have qe1_10 := (hb10.cell (p := ⟨w1.heap.size + 1, 1, none⟩) ze_9).trans qe1_9
    have qe2_10 := (hb10.cell (p := ⟨w1.heap.size + 1, 2, none⟩) ze_9).trans qe2_9
    have ze_10 := Nat.lt_of_lt_of_le ze_9 hb10.size
    have qh0_10 := (hb10.cell (p := ⟨w3.heap.size, 0, none⟩) zh_9).trans qh0_9
    have qh1_10 := (hb10.cell (p := ⟨w3.heap.size, 1, none⟩) zh_9).trans qh1_9
    have zh_10 := Nat.lt_of_lt_of_le zh_9 hb10.size
    have qf0_10 := (hb10.cell (p := ⟨w3.heap.size + 1, 0, none⟩) zf_9).trans qf0_9
    have qf1_10 := (hb10.cell (p := ⟨w3.heap.size + 1, 1, none⟩) zf_9).trans qf1_9
    have qf2_10 := (hb10.cell (p := ⟨w3.heap.size + 1, 2, none⟩) zf_9).trans qf2_9
    have zf_10 := Nat.lt_of_lt_of_le zf_9 hb10.size
    have qx0_10 := (hb10.cell (p := ⟨w5.heap.size, 0, none⟩) zx_9).trans qx0_9
    have qx1_10 := (hb10.cell (p := ⟨w5.heap.size, 1, none⟩) zx_9).trans qx1_9
    have zx_10 := Nat.lt_of_lt_of_le zx_9 hb10.size
    have qu0_10 := (hb10.cell (p := ⟨w7.heap.size, 0, none⟩) zu_9).trans qu0_9
    have qu1_10 := (hb10.cell (p := ⟨w7.heap.size, 1, none⟩) zu_9).trans qu1_9
    have zu_10 := Nat.lt_of_lt_of_le zu_9 hb10.size
    have G_10 := Lib.hid (G_9.out.keep hb10)
    have X_10 := Lib.hid (X_9.out.keep hb10)
    have U_10 := Lib.hid (U_9.out.keep hb10)
    rw [gSame_self] at hS
    subst hS
    clear qg0_9 qg1_9 zg_9 qe0_9 qe1_9 qe2_9 ze_9 qh0_9 qh1_9 zh_9 qf0_9 qf1_9 qf2_9 zf_9 qx0_9 qx1_9 zx_9 qu0_9 qu1_9 zu_9 G_9 X_9 U_9
    go_wp2
    go_ret
    exact ⟨rfl, H10⟩
  · rw [show putN n es (x, y, z) = n by unfold putN; rw [if_pos hk], show putL n es (x, y, z) = pL es (x, y, z) by unfold putL; rw [if_pos hk], hk] at hst hss
    obtain ⟨P, hP⟩ : ∃ P, P = pL es (x, y, z) := ⟨_, rfl⟩
    have hlp : P.length ≤ 1048576 := by have := (putB_iff.1 hk).2.2; rw [hP]; omega
    rw [← hP] at hst hss
    have HST := Lib.hid hst
    have HSS := Lib.hid hss
    have HP9 := Lib.hid hP
    clear hst hss hP
    go_wp2_with fail
    refine (HST.out _ _ G_4.out.edges HOKG.out).mono ?_
    rintro e w5 ⟨vx, rfl, howx, hokx, hb5⟩
    have H5 := bel_trans H4 hb5
    have SZ5 := Lib.hid hb5.size
    have qg0_5 := (hb5.cell (p := ⟨w1.heap.size, 0, none⟩) zg_4).trans qg0_4
    have qg1_5 := (hb5.cell (p := ⟨w1.heap.size, 1, none⟩) zg_4).trans qg1_4
    have zg_5 := Nat.lt_of_lt_of_le zg_4 hb5.size
    have qe0_5 := (hb5.cell (p := ⟨w1.heap.size + 1, 0, none⟩) ze_4).trans qe0_4
    have qe1_5 := (hb5.cell (p := ⟨w1.heap.size + 1, 1, none⟩) ze_4).trans qe1_4
    have qe2_5 := (hb5.cell (p := ⟨w1.heap.size + 1, 2, none⟩) ze_4).trans qe2_4
    have ze_5 := Nat.lt_of_lt_of_le ze_4 hb5.size
    have qh0_5 := (hb5.cell (p := ⟨w3.heap.size, 0, none⟩) zh_4).trans qh0_4
    have qh1_5 := (hb5.cell (p := ⟨w3.heap.size, 1, none⟩) zh_4).trans qh1_4
    have zh_5 := Nat.lt_of_lt_of_le zh_4 hb5.size
    have qf0_5 := (hb5.cell (p := ⟨w3.heap.size + 1, 0, none⟩) zf_4).trans qf0_4
    have qf1_5 := (hb5.cell (p := ⟨w3.heap.size + 1, 1, none⟩) zf_4).trans qf1_4
    have qf2_5 := (hb5.cell (p := ⟨w3.heap.size + 1, 2, none⟩) zf_4).trans qf2_4
    have zf_5 := Nat.lt_of_lt_of_le zf_4 hb5.size
    have G_5 := Lib.hid (G_4.out.keep hb5)
    obtain ⟨ax, cx, rfl, hz9⟩ := id howx
    have HOKx := Lib.hid hokx
    clear hz9 hokx
    have X_5 := Lib.hid (show InR true w5 w4.heap.size w5.heap.size _ P.length 3 (cellE P) from howx)
    clear qg1_4 qe1_4 qh0_4 qe0_4 zf_4 qf1_4 qf2_4 zg_4 qf0_4 zh_4 ze_4 qh1_4 qg0_4 qe2_4 G_4
    clear howx
    go_wp2_with fail
    have hb6 : Below w5.heap.size w5 (w5.alloc (.cells #[.int .i64 n, .slice ax P.length cx] 25)) := (Below.refl _ _).alloc (by simp <;> omega) _
    have H6 := bel_trans H5 hb6
    have SZ6 := Lib.hid hb6.size
    have qg0_6 := (hb6.cell (p := ⟨w1.heap.size, 0, none⟩) zg_5).trans qg0_5
    have qg1_6 := (hb6.cell (p := ⟨w1.heap.size, 1, none⟩) zg_5).trans qg1_5
    have zg_6 := Nat.lt_of_lt_of_le zg_5 hb6.size
    have qe0_6 := (hb6.cell (p := ⟨w1.heap.size + 1, 0, none⟩) ze_5).trans qe0_5
    have qe1_6 := (hb6.cell (p := ⟨w1.heap.size + 1, 1, none⟩) ze_5).trans qe1_5
    have qe2_6 := (hb6.cell (p := ⟨w1.heap.size + 1, 2, none⟩) ze_5).trans qe2_5
    have ze_6 := Nat.lt_of_lt_of_le ze_5 hb6.size
    have qh0_6 := (hb6.cell (p := ⟨w3.heap.size, 0, none⟩) zh_5).trans qh0_5
    have qh1_6 := (hb6.cell (p := ⟨w3.heap.size, 1, none⟩) zh_5).trans qh1_5
    have zh_6 := Nat.lt_of_lt_of_le zh_5 hb6.size
    have qf0_6 := (hb6.cell (p := ⟨w3.heap.size + 1, 0, none⟩) zf_5).trans qf0_5
    have qf1_6 := (hb6.cell (p := ⟨w3.heap.size + 1, 1, none⟩) zf_5).trans qf1_5
    have qf2_6 := (hb6.cell (p := ⟨w3.heap.size + 1, 2, none⟩) zf_5).trans qf2_5
    have zf_6 := Nat.lt_of_lt_of_le zf_5 hb6.size
    have G_6 := Lib.hid (G_5.out.keep hb6)
    have X_6 := Lib.hid (X_5.out.keep hb6)
    have qx0_6 : (w5.alloc (.cells #[.int .i64 n, .slice ax P.length cx] 25)).cell? ⟨w5.heap.size, 0, none⟩ = some (.int .i64 n) := by go_simp
    have qx1_6 : (w5.alloc (.cells #[.int .i64 n, .slice ax P.length cx] 25)).cell? ⟨w5.heap.size, 1, none⟩ = some (.slice ax P.length cx) := by go_simp
    have zx_6 : w5.heap.size < (w5.alloc (.cells #[.int .i64 n, .slice ax P.length cx] 25)).heap.size := by simp <;> omega
    generalize (w5.alloc (.cells #[.int .i64 n, .slice ax P.length cx] 25)) = w6 at hb6 H6 SZ6 G_6 X_6 qe0_6 qe1_6 qe2_6 qf0_6 qf1_6 qf2_6 qg0_6 qg1_6 qh0_6 qh1_6 qx0_6 qx1_6 ze_6 zf_6 zg_6 zh_6 zx_6 ⊢
    have ZBx := Lib.hid zx_6
    clear qg0_5 qg1_5 zg_5 qe0_5 qe1_5 qe2_5 ze_5 qh0_5 qh1_5 zh_5 qf0_5 qf1_5 qf2_5 zf_5 G_5 X_5
    go_wp2_with fail
    refine (HSS.out _ _ G_6.out.edges).mono ?_
    rintro e w7 ⟨vu, rfl, howu, hoku, hb7⟩
    have H7 := bel_trans H6 hb7
    have SZ7 := Lib.hid hb7.size
    have qg0_7 := (hb7.cell (p := ⟨w1.heap.size, 0, none⟩) zg_6).trans qg0_6
    have qg1_7 := (hb7.cell (p := ⟨w1.heap.size, 1, none⟩) zg_6).trans qg1_6
    have zg_7 := Nat.lt_of_lt_of_le zg_6 hb7.size
    have qe0_7 := (hb7.cell (p := ⟨w1.heap.size + 1, 0, none⟩) ze_6).trans qe0_6
    have qe1_7 := (hb7.cell (p := ⟨w1.heap.size + 1, 1, none⟩) ze_6).trans qe1_6
    have qe2_7 := (hb7.cell (p := ⟨w1.heap.size + 1, 2, none⟩) ze_6).trans qe2_6
    have ze_7 := Nat.lt_of_lt_of_le ze_6 hb7.size
    have qh0_7 := (hb7.cell (p := ⟨w3.heap.size, 0, none⟩) zh_6).trans qh0_6
    have qh1_7 := (hb7.cell (p := ⟨w3.heap.size, 1, none⟩) zh_6).trans qh1_6
    have zh_7 := Nat.lt_of_lt_of_le zh_6 hb7.size
    have qf0_7 := (hb7.cell (p := ⟨w3.heap.size + 1, 0, none⟩) zf_6).trans qf0_6
    have qf1_7 := (hb7.cell (p := ⟨w3.heap.size + 1, 1, none⟩) zf_6).trans qf1_6
    have qf2_7 := (hb7.cell (p := ⟨w3.heap.size + 1, 2, none⟩) zf_6).trans qf2_6
    have zf_7 := Nat.lt_of_lt_of_le zf_6 hb7.size
    have qx0_7 := (hb7.cell (p := ⟨w5.heap.size, 0, none⟩) zx_6).trans qx0_6
    have qx1_7 := (hb7.cell (p := ⟨w5.heap.size, 1, none⟩) zx_6).trans qx1_6
    have zx_7 := Nat.lt_of_lt_of_le zx_6 hb7.size
    have G_7 := Lib.hid (G_6.out.keep hb7)
    have X_7 := Lib.hid (X_6.out.keep hb7)
    obtain ⟨au, cu, rfl, hz9⟩ := id howu
    have HOKu := Lib.hid hoku
    clear hz9 hoku
    have U_7 := Lib.hid (show InR true w7 w6.heap.size w7.heap.size _ P.length 3 (cellE P) from howu)
    clear qg0_6 qg1_6 zg_6 qe0_6 qe1_6 qe2_6 ze_6 qh0_6 qh1_6 zh_6 qf0_6 qf1_6 qf2_6 zf_6 G_6 X_6 qx0_6 qx1_6 zx_6
    clear howu
    go_wp2_with fail
    have hb8 : Below w7.heap.size w7 (w7.alloc (.cells #[.int .i64 n, .slice au P.length cu] 25)) := (Below.refl _ _).alloc (by simp <;> omega) _
    have H8 := bel_trans H7 hb8
    have SZ8 := Lib.hid hb8.size
    have qg0_8 := (hb8.cell (p := ⟨w1.heap.size, 0, none⟩) zg_7).trans qg0_7
    have qg1_8 := (hb8.cell (p := ⟨w1.heap.size, 1, none⟩) zg_7).trans qg1_7
    have zg_8 := Nat.lt_of_lt_of_le zg_7 hb8.size
    have qe0_8 := (hb8.cell (p := ⟨w1.heap.size + 1, 0, none⟩) ze_7).trans qe0_7
    have qe1_8 := (hb8.cell (p := ⟨w1.heap.size + 1, 1, none⟩) ze_7).trans qe1_7
    have qe2_8 := (hb8.cell (p := ⟨w1.heap.size + 1, 2, none⟩) ze_7).trans qe2_7
    have ze_8 := Nat.lt_of_lt_of_le ze_7 hb8.size
    have qh0_8 := (hb8.cell (p := ⟨w3.heap.size, 0, none⟩) zh_7).trans qh0_7
    have qh1_8 := (hb8.cell (p := ⟨w3.heap.size, 1, none⟩) zh_7).trans qh1_7
    have zh_8 := Nat.lt_of_lt_of_le zh_7 hb8.size
    have qf0_8 := (hb8.cell (p := ⟨w3.heap.size + 1, 0, none⟩) zf_7).trans qf0_7
    have qf1_8 := (hb8.cell (p := ⟨w3.heap.size + 1, 1, none⟩) zf_7).trans qf1_7
    have qf2_8 := (hb8.cell (p := ⟨w3.heap.size + 1, 2, none⟩) zf_7).trans qf2_7
    have zf_8 := Nat.lt_of_lt_of_le zf_7 hb8.size
    have qx0_8 := (hb8.cell (p := ⟨w5.heap.size, 0, none⟩) zx_7).trans qx0_7
    have qx1_8 := (hb8.cell (p := ⟨w5.heap.size, 1, none⟩) zx_7).trans qx1_7
    have zx_8 := Nat.lt_of_lt_of_le zx_7 hb8.size
    have G_8 := Lib.hid (G_7.out.keep hb8)
    have X_8 := Lib.hid (X_7.out.keep hb8)
    have U_8 := Lib.hid (U_7.out.keep hb8)
    have qu0_8 : (w7.alloc (.cells #[.int .i64 n, .slice au P.length cu] 25)).cell? ⟨w7.heap.size, 0, none⟩ = some (.int .i64 n) := by go_simp
    have qu1_8 : (w7.alloc (.cells #[.int .i64 n, .slice au P.length cu] 25)).cell? ⟨w7.heap.size, 1, none⟩ = some (.slice au P.length cu) := by go_simp
    have zu_8 : w7.heap.size < (w7.alloc (.cells #[.int .i64 n, .slice au P.length cu] 25)).heap.size := by simp <;> omega
    generalize (w7.alloc (.cells #[.int .i64 n, .slice au P.length cu] 25)) = w8 at hb8 H8 SZ8 G_8 U_8 X_8 qe0_8 qe1_8 qe2_8 qf0_8 qf1_8 qf2_8 qg0_8 qg1_8 qh0_8 qh1_8 qu0_8 qu1_8 qx0_8 qx1_8 ze_8 zf_8 zg_8 zh_8 zu_8 zx_8 ⊢
    have ZBu := Lib.hid zu_8
    clear qg0_7 qg1_7 zg_7 qe0_7 qe1_7 qe2_7 ze_7 qh0_7 qh1_7 zh_7 qf0_7 qf1_7 qf2_7 zf_7 qx0_7 qx1_7 zx_7 G_7 X_7 U_7
    go_wp2_with fail
    refine (graphSame n n P P _ _ _ X_8.out.edges U_8.out.edges (by omega) (by omega)).mono ?_
    rintro e w9 ⟨hS, hb9⟩
    have H9 := bel_trans H8 hb9
    have SZ9 := Lib.hid hb9.size
    have qg0_9 := (hb9.cell (p := ⟨w1.heap.size, 0, none⟩) zg_8).trans qg0_8
    have qg1_9 := (hb9.cell (p := ⟨w1.heap.size, 1, none⟩) zg_8).trans qg1_8
    have zg_9 := Nat.lt_of_lt_of_le zg_8 hb9.size
    have qe0_9 := (hb9.cell (p := ⟨w1.heap.size + 1, 0, none⟩) ze_8).trans qe0_8
    have qe1_9 := (hb9.cell (p := ⟨w1.heap.size + 1, 1, none⟩) ze_8).trans qe1_8
    have qe2_9 := (hb9.cell (p := ⟨w1.heap.size + 1, 2, none⟩) ze_8).trans qe2_8
    have ze_9 := Nat.lt_of_lt_of_le ze_8 hb9.size
    have qh0_9 := (hb9.cell (p := ⟨w3.heap.size, 0, none⟩) zh_8).trans qh0_8
    have qh1_9 := (hb9.cell (p := ⟨w3.heap.size, 1, none⟩) zh_8).trans qh1_8
    have zh_9 := Nat.lt_of_lt_of_le zh_8 hb9.size
    have qf0_9 := (hb9.cell (p := ⟨w3.heap.size + 1, 0, none⟩) zf_8).trans qf0_8
    have qf1_9 := (hb9.cell (p := ⟨w3.heap.size + 1, 1, none⟩) zf_8).trans qf1_8
    have qf2_9 := (hb9.cell (p := ⟨w3.heap.size + 1, 2, none⟩) zf_8).trans qf2_8
    have zf_9 := Nat.lt_of_lt_of_le zf_8 hb9.size
    have qx0_9 := (hb9.cell (p := ⟨w5.heap.size, 0, none⟩) zx_8).trans qx0_8
    have qx1_9 := (hb9.cell (p := ⟨w5.heap.size, 1, none⟩) zx_8).trans qx1_8
    have zx_9 := Nat.lt_of_lt_of_le zx_8 hb9.size
    have qu0_9 := (hb9.cell (p := ⟨w7.heap.size, 0, none⟩) zu_8).trans qu0_8
    have qu1_9 := (hb9.cell (p := ⟨w7.heap.size, 1, none⟩) zu_8).trans qu1_8
    have zu_9 := Nat.lt_of_lt_of_le zu_8 hb9.size
    have G_9 := Lib.hid (G_8.out.keep hb9)
    have X_9 := Lib.hid (X_8.out.keep hb9)
    have U_9 := Lib.hid (U_8.out.keep hb9)
    rw [gSame_self] at hS
    subst hS
    clear qg0_8 qg1_8 zg_8 qe0_8 qe1_8 qe2_8 ze_8 qh0_8 qh1_8 zh_8 qf0_8 qf1_8 qf2_8 zf_8 qx0_8 qx1_8 zx_8 G_8 X_8 U_8 qu0_8 qu1_8 zu_8
    by_cases hen : x = x2 ∧ y = y2
    · obtain ⟨rfl, rfl⟩ := hen
      go_wp2_with fail
      refine (graphSame n n P P _ _ _ X_9.out.edges U_9.out.edges (by omega) (by omega)).mono ?_
      rintro e w10 ⟨hS, hb10⟩
      have H10 := bel_trans H9 hb10
      have SZ10 := Lib.hid hb10.size
      have qg0_10 := (hb10.cell (p := ⟨w1.heap.size, 0, none⟩) zg_9).trans qg0_9
      have qg1_10 := (hb10.cell (p := ⟨w1.heap.size, 1, none⟩) zg_9).trans qg1_9
      have zg_10 := Nat.lt_of_lt_of_le zg_9 hb10.size
      have qe0_10 := (hb10.cell (p := ⟨w1.heap.size + 1, 0, none⟩) ze_9).trans qe0_9
      have qe1_10 := (hb10.cell (p := ⟨w1.heap.size + 1, 1, none⟩) ze_9).trans qe1_9
      have qe2_10 := (hb10.cell (p := ⟨w1.heap.size + 1, 2, none⟩) ze_9).trans qe2_9
      have ze_10 := Nat.lt_of_lt_of_le ze_9 hb10.size
      have qh0_10 := (hb10.cell (p := ⟨w3.heap.size, 0, none⟩) zh_9).trans qh0_9
      have qh1_10 := (hb10.cell (p := ⟨w3.heap.size, 1, none⟩) zh_9).trans qh1_9
      have zh_10 := Nat.lt_of_lt_of_le zh_9 hb10.size
      have qf0_10 := (hb10.cell (p := ⟨w3.heap.size + 1, 0, none⟩) zf_9).trans qf0_9
      have qf1_10 := (hb10.cell (p := ⟨w3.heap.size + 1, 1, none⟩) zf_9).trans qf1_9
      have qf2_10 := (hb10.cell (p := ⟨w3.heap.size + 1, 2, none⟩) zf_9).trans qf2_9
      have zf_10 := Nat.lt_of_lt_of_le zf_9 hb10.size
      have qx0_10 := (hb10.cell (p := ⟨w5.heap.size, 0, none⟩) zx_9).trans qx0_9
      have qx1_10 := (hb10.cell (p := ⟨w5.heap.size, 1, none⟩) zx_9).trans qx1_9
      have zx_10 := Nat.lt_of_lt_of_le zx_9 hb10.size
      have qu0_10 := (hb10.cell (p := ⟨w7.heap.size, 0, none⟩) zu_9).trans qu0_9
      have qu1_10 := (hb10.cell (p := ⟨w7.heap.size, 1, none⟩) zu_9).trans qu1_9
      have zu_10 := Nat.lt_of_lt_of_le zu_9 hb10.size
      have G_10 := Lib.hid (G_9.out.keep hb10)
      have X_10 := Lib.hid (X_9.out.keep hb10)
      have U_10 := Lib.hid (U_9.out.keep hb10)
      rw [gSame_self] at hS
      subst hS
      clear qh0_9 qe0_9 qf2_9 ze_9 qx1_9 qe1_9 qf0_9 zf_9 zh_9 qu0_9 U_9 qx0_9 qh1_9 zg_9 X_9 qg1_9 zu_9 qe2_9 qf1_9 zx_9 qg0_9 G_9 qu1_9
      go_wp2
      go_ret
      exact ⟨rfl, H10⟩
    · have hca := fun s w (h : RowE w s P) (k : okS s) => putEdge n P x2 y2 z2 s w h k hlp
      have hcb := fun s w (h : RowE w s es) (k : okS s) => putEdge n es x2 y2 z2 s w h k hle2
      have hpl : ∀ (n : Int) (es : List Ed) (e : Ed), (putL n es e).length ≤ 1048576 := fun n es e => by
        unfold putL
        split
        · rename_i h; have := (putB_iff.1 h).2.2; omega
        · simp
      obtain ⟨b1, hb1⟩ : ∃ b, b = putB n P (x2, y2, z2) := ⟨_, rfl⟩
      obtain ⟨b2, hb2⟩ : ∃ b, b = putB n es (x2, y2, z2) := ⟨_, rfl⟩
      obtain ⟨N1, hN1⟩ : ∃ b, b = putN n P (x2, y2, z2) := ⟨_, rfl⟩
      obtain ⟨N2, hN2⟩ : ∃ b, b = putN n es (x2, y2, z2) := ⟨_, rfl⟩
      obtain ⟨L1, hL1⟩ : ∃ b, b = putL n P (x2, y2, z2) := ⟨_, rfl⟩
      obtain ⟨L2, hL2⟩ : ∃ b, b = putL n es (x2, y2, z2) := ⟨_, rfl⟩
      have hl1 : L1.length ≤ 1048576 := by rw [hL1]; exact hpl _ _ _
      have hl2 : L2.length ≤ 1048576 := by rw [hL2]; exact hpl _ _ _
      have hcc := fun s w (h : RowE w s L2) (k : okS s) => putEdge N2 L2 x y z s w h k hl2
      obtain ⟨b3, hb3⟩ : ∃ b, b = putB N2 L2 (x, y, z) := ⟨_, rfl⟩
      obtain ⟨N3, hN3⟩ : ∃ b, b = putN N2 L2 (x, y, z) := ⟨_, rfl⟩
      obtain ⟨L3, hL3⟩ : ∃ b, b = putL N2 L2 (x, y, z) := ⟨_, rfl⟩
      have hl3 : L3.length ≤ 1048576 := by rw [hL3]; exact hpl _ _ _
      have hfin : b1 = true → b2 = true → b3 = true ∧ N1 = N3 ∧ L1 = L3 := fun k1 k2 => by
        rw [hb1, HP9.out] at k1
        rw [hb2] at k2
        obtain ⟨q1, q2⟩ := put_both (f := (x2, y2, z2)) hk hen k1 k2
        have e2 : N2 = n := by rw [hN2]; unfold putN; rw [if_pos k2]
        have e3 : L2 = pL es (x2, y2, z2) := by rw [hL2]; unfold putL; rw [if_pos k2]
        rw [e2, e3] at hb3 hN3 hL3
        rw [hb3, hN1, hN3, hL1, hL3, HP9.out]
        unfold putN putL
        rw [if_pos k1, if_pos k1, if_pos q1, if_pos q1, q2]
        exact ⟨q1, rfl, rfl⟩
      rw [← hb1, ← hN1, ← hL1] at hca
      rw [← hb2, ← hN2, ← hL2] at hcb
      rw [← hb3, ← hN3, ← hL3] at hcc
      have HCA := Lib.hid hca
      have HCB := Lib.hid hcb
      have HCC := Lib.hid hcc
      have HFIN := Lib.hid hfin
      have d0 : (x == x2) = true → (y == y2) = false := fun h => by simp at h; simp; exact fun k => hen ⟨h, k⟩
      clear hca hcb hcc hfin hk hb1 hN1 hL1 hb2 hN2 hL2 hb3 hN3 hL3 hen
      have hex : ∃ c1 c2 : Bool, (x == x2) = c1 ∧ (y == y2) = c2 := ⟨_, _, rfl, rfl⟩
      obtain ⟨c1, c2, hc1, hc2⟩ := hex
      cases c1
      · clear d0
        go_wp2_with fail
        refine (HCA.out _ _ X_9.out.edges HOKx.out).mono ?_
        rintro e w10 ⟨vp, rfl, howp, hokp, hb10⟩
        have H10 := bel_trans H9 hb10
        have SZ10 := Lib.hid hb10.size
        have qg0_10 := (hb10.cell (p := ⟨w1.heap.size, 0, none⟩) zg_9).trans qg0_9
        have qg1_10 := (hb10.cell (p := ⟨w1.heap.size, 1, none⟩) zg_9).trans qg1_9
        have zg_10 := Nat.lt_of_lt_of_le zg_9 hb10.size
        have qe0_10 := (hb10.cell (p := ⟨w1.heap.size + 1, 0, none⟩) ze_9).trans qe0_9
        have qe1_10 := (hb10.cell (p := ⟨w1.heap.size + 1, 1, none⟩) ze_9).trans qe1_9
        have qe2_10 := (hb10.cell (p := ⟨w1.heap.size + 1, 2, none⟩) ze_9).trans qe2_9
        have ze_10 := Nat.lt_of_lt_of_le ze_9 hb10.size
        have qh0_10 := (hb10.cell (p := ⟨w3.heap.size, 0, none⟩) zh_9).trans qh0_9
        have qh1_10 := (hb10.cell (p := ⟨w3.heap.size, 1, none⟩) zh_9).trans qh1_9
        have zh_10 := Nat.lt_of_lt_of_le zh_9 hb10.size
        have qf0_10 := (hb10.cell (p := ⟨w3.heap.size + 1, 0, none⟩) zf_9).trans qf0_9
        have qf1_10 := (hb10.cell (p := ⟨w3.heap.size + 1, 1, none⟩) zf_9).trans qf1_9
        have qf2_10 := (hb10.cell (p := ⟨w3.heap.size + 1, 2, none⟩) zf_9).trans qf2_9
        have zf_10 := Nat.lt_of_lt_of_le zf_9 hb10.size
        have qx0_10 := (hb10.cell (p := ⟨w5.heap.size, 0, none⟩) zx_9).trans qx0_9
        have qx1_10 := (hb10.cell (p := ⟨w5.heap.size, 1, none⟩) zx_9).trans qx1_9
        have zx_10 := Nat.lt_of_lt_of_le zx_9 hb10.size
        have qu0_10 := (hb10.cell (p := ⟨w7.heap.size, 0, none⟩) zu_9).trans qu0_9
        have qu1_10 := (hb10.cell (p := ⟨w7.heap.size, 1, none⟩) zu_9).trans qu1_9
        have zu_10 := Nat.lt_of_lt_of_le zu_9 hb10.size
        have G_10 := Lib.hid (G_9.out.keep hb10)
        have X_10 := Lib.hid (X_9.out.keep hb10)
        have U_10 := Lib.hid (U_9.out.keep hb10)
        obtain ⟨ap, cp, rfl, hz9⟩ := id howp
        have HOKp := Lib.hid hokp
        clear hz9 hokp
        have P_10 := Lib.hid (show InR true w10 w9.heap.size w10.heap.size _ L1.length 3 (cellE L1) from howp)
        clear qh0_9 qe0_9 qf2_9 ze_9 qx1_9 qe1_9 qf0_9 zf_9 zh_9 qu0_9 U_9 qx0_9 qh1_9 zg_9 X_9 qg1_9 zu_9 qe2_9 qf1_9 zx_9 qg0_9 G_9 qu1_9
        clear howp
        go_wp2_with fail
        have hb11 : Below w10.heap.size w10 (w10.alloc (.cells #[.int .i64 N1, .slice ap L1.length cp] 25)) := (Below.refl _ _).alloc (by simp <;> omega) _
        have H11 := bel_trans H10 hb11
        have SZ11 := Lib.hid hb11.size
        have qg0_11 := (hb11.cell (p := ⟨w1.heap.size, 0, none⟩) zg_10).trans qg0_10
        have qg1_11 := (hb11.cell (p := ⟨w1.heap.size, 1, none⟩) zg_10).trans qg1_10
        have zg_11 := Nat.lt_of_lt_of_le zg_10 hb11.size
        have qe0_11 := (hb11.cell (p := ⟨w1.heap.size + 1, 0, none⟩) ze_10).trans qe0_10
        have qe1_11 := (hb11.cell (p := ⟨w1.heap.size + 1, 1, none⟩) ze_10).trans qe1_10
        have qe2_11 := (hb11.cell (p := ⟨w1.heap.size + 1, 2, none⟩) ze_10).trans qe2_10
        have ze_11 := Nat.lt_of_lt_of_le ze_10 hb11.size
        have qh0_11 := (hb11.cell (p := ⟨w3.heap.size, 0, none⟩) zh_10).trans qh0_10
        have qh1_11 := (hb11.cell (p := ⟨w3.heap.size, 1, none⟩) zh_10).trans qh1_10
        have zh_11 := Nat.lt_of_lt_of_le zh_10 hb11.size
        have qf0_11 := (hb11.cell (p := ⟨w3.heap.size + 1, 0, none⟩) zf_10).trans qf0_10
        have qf1_11 := (hb11.cell (p := ⟨w3.heap.size + 1, 1, none⟩) zf_10).trans qf1_10
        have qf2_11 := (hb11.cell (p := ⟨w3.heap.size + 1, 2, none⟩) zf_10).trans qf2_10
        have zf_11 := Nat.lt_of_lt_of_le zf_10 hb11.size
        have qx0_11 := (hb11.cell (p := ⟨w5.heap.size, 0, none⟩) zx_10).trans qx0_10
        have qx1_11 := (hb11.cell (p := ⟨w5.heap.size, 1, none⟩) zx_10).trans qx1_10
        have zx_11 := Nat.lt_of_lt_of_le zx_10 hb11.size
        have qu0_11 := (hb11.cell (p := ⟨w7.heap.size, 0, none⟩) zu_10).trans qu0_10
        have qu1_11 := (hb11.cell (p := ⟨w7.heap.size, 1, none⟩) zu_10).trans qu1_10
        have zu_11 := Nat.lt_of_lt_of_le zu_10 hb11.size
        have G_11 := Lib.hid (G_10.out.keep hb11)
        have X_11 := Lib.hid (X_10.out.keep hb11)
        have U_11 := Lib.hid (U_10.out.keep hb11)
        have P_11 := Lib.hid (P_10.out.keep hb11)
        have qp0_11 : (w10.alloc (.cells #[.int .i64 N1, .slice ap L1.length cp] 25)).cell? ⟨w10.heap.size, 0, none⟩ = some (.int .i64 N1) := by go_simp
        have qp1_11 : (w10.alloc (.cells #[.int .i64 N1, .slice ap L1.length cp] 25)).cell? ⟨w10.heap.size, 1, none⟩ = some (.slice ap L1.length cp) := by go_simp
        have zp_11 : w10.heap.size < (w10.alloc (.cells #[.int .i64 N1, .slice ap L1.length cp] 25)).heap.size := by simp <;> omega
        generalize (w10.alloc (.cells #[.int .i64 N1, .slice ap L1.length cp] 25)) = w11 at hb11 H11 SZ11 G_11 P_11 U_11 X_11 qe0_11 qe1_11 qe2_11 qf0_11 qf1_11 qf2_11 qg0_11 qg1_11 qh0_11 qh1_11 qp0_11 qp1_11 qu0_11 qu1_11 qx0_11 qx1_11 ze_11 zf_11 zg_11 zh_11 zp_11 zu_11 zx_11 ⊢
        have ZBp := Lib.hid zp_11
        clear qg0_10 qg1_10 zg_10 qe0_10 qe1_10 qe2_10 ze_10 qh0_10 qh1_10 zh_10 qf0_10 qf1_10 qf2_10 zf_10 qx0_10 qx1_10 zx_10 qu0_10 qu1_10 zu_10 G_10 X_10 U_10 P_10
        go_wp2_with fail
        refine (HCB.out _ _ G_11.out.edges HOKG.out).mono ?_
        rintro e w12 ⟨vq, rfl, howq, hokq, hb12⟩
        have H12 := bel_trans H11 hb12
        have SZ12 := Lib.hid hb12.size
        have qg0_12 := (hb12.cell (p := ⟨w1.heap.size, 0, none⟩) zg_11).trans qg0_11
        have qg1_12 := (hb12.cell (p := ⟨w1.heap.size, 1, none⟩) zg_11).trans qg1_11
        have zg_12 := Nat.lt_of_lt_of_le zg_11 hb12.size
        have qe0_12 := (hb12.cell (p := ⟨w1.heap.size + 1, 0, none⟩) ze_11).trans qe0_11
        have qe1_12 := (hb12.cell (p := ⟨w1.heap.size + 1, 1, none⟩) ze_11).trans qe1_11
        have qe2_12 := (hb12.cell (p := ⟨w1.heap.size + 1, 2, none⟩) ze_11).trans qe2_11
        have ze_12 := Nat.lt_of_lt_of_le ze_11 hb12.size
        have qh0_12 := (hb12.cell (p := ⟨w3.heap.size, 0, none⟩) zh_11).trans qh0_11
        have qh1_12 := (hb12.cell (p := ⟨w3.heap.size, 1, none⟩) zh_11).trans qh1_11
        have zh_12 := Nat.lt_of_lt_of_le zh_11 hb12.size
        have qf0_12 := (hb12.cell (p := ⟨w3.heap.size + 1, 0, none⟩) zf_11).trans qf0_11
        have qf1_12 := (hb12.cell (p := ⟨w3.heap.size + 1, 1, none⟩) zf_11).trans qf1_11
        have qf2_12 := (hb12.cell (p := ⟨w3.heap.size + 1, 2, none⟩) zf_11).trans qf2_11
        have zf_12 := Nat.lt_of_lt_of_le zf_11 hb12.size
        have qx0_12 := (hb12.cell (p := ⟨w5.heap.size, 0, none⟩) zx_11).trans qx0_11
        have qx1_12 := (hb12.cell (p := ⟨w5.heap.size, 1, none⟩) zx_11).trans qx1_11
        have zx_12 := Nat.lt_of_lt_of_le zx_11 hb12.size
        have qu0_12 := (hb12.cell (p := ⟨w7.heap.size, 0, none⟩) zu_11).trans qu0_11
        have qu1_12 := (hb12.cell (p := ⟨w7.heap.size, 1, none⟩) zu_11).trans qu1_11
        have zu_12 := Nat.lt_of_lt_of_le zu_11 hb12.size
        have qp0_12 := (hb12.cell (p := ⟨w10.heap.size, 0, none⟩) zp_11).trans qp0_11
        have qp1_12 := (hb12.cell (p := ⟨w10.heap.size, 1, none⟩) zp_11).trans qp1_11
        have zp_12 := Nat.lt_of_lt_of_le zp_11 hb12.size
        have G_12 := Lib.hid (G_11.out.keep hb12)
        have X_12 := Lib.hid (X_11.out.keep hb12)
        have U_12 := Lib.hid (U_11.out.keep hb12)
        have P_12 := Lib.hid (P_11.out.keep hb12)
        obtain ⟨aq, cq, rfl, hz9⟩ := id howq
        have HOKq := Lib.hid hokq
        clear hz9 hokq
        have Q_12 := Lib.hid (show InR true w12 w11.heap.size w12.heap.size _ L2.length 3 (cellE L2) from howq)
        clear qg0_11 qg1_11 zg_11 qe0_11 qe1_11 qe2_11 ze_11 qh0_11 qh1_11 zh_11 qf0_11 qf1_11 qf2_11 zf_11 qx0_11 qx1_11 zx_11 qu0_11 qu1_11 zu_11 G_11 X_11 U_11 P_11 qp0_11 qp1_11 zp_11
        clear howq
        go_wp2_with fail
        have hb13 : Below w12.heap.size w12 (w12.alloc (.cells #[.int .i64 N2, .slice aq L2.length cq] 25)) := (Below.refl _ _).alloc (by simp <;> omega) _
        have H13 := bel_trans H12 hb13
        have SZ13 := Lib.hid hb13.size
        have qg0_13 := (hb13.cell (p := ⟨w1.heap.size, 0, none⟩) zg_12).trans qg0_12
        have qg1_13 := (hb13.cell (p := ⟨w1.heap.size, 1, none⟩) zg_12).trans qg1_12
        have zg_13 := Nat.lt_of_lt_of_le zg_12 hb13.size
        have qe0_13 := (hb13.cell (p := ⟨w1.heap.size + 1, 0, none⟩) ze_12).trans qe0_12
        have qe1_13 := (hb13.cell (p := ⟨w1.heap.size + 1, 1, none⟩) ze_12).trans qe1_12
        have qe2_13 := (hb13.cell (p := ⟨w1.heap.size + 1, 2, none⟩) ze_12).trans qe2_12
        have ze_13 := Nat.lt_of_lt_of_le ze_12 hb13.size
        have qh0_13 := (hb13.cell (p := ⟨w3.heap.size, 0, none⟩) zh_12).trans qh0_12
        have qh1_13 := (hb13.cell (p := ⟨w3.heap.size, 1, none⟩) zh_12).trans qh1_12
        have zh_13 := Nat.lt_of_lt_of_le zh_12 hb13.size
        have qf0_13 := (hb13.cell (p := ⟨w3.heap.size + 1, 0, none⟩) zf_12).trans qf0_12
        have qf1_13 := (hb13.cell (p := ⟨w3.heap.size + 1, 1, none⟩) zf_12).trans qf1_12
        have qf2_13 := (hb13.cell (p := ⟨w3.heap.size + 1, 2, none⟩) zf_12).trans qf2_12
        have zf_13 := Nat.lt_of_lt_of_le zf_12 hb13.size
        have qx0_13 := (hb13.cell (p := ⟨w5.heap.size, 0, none⟩) zx_12).trans qx0_12
        have qx1_13 := (hb13.cell (p := ⟨w5.heap.size, 1, none⟩) zx_12).trans qx1_12
        have zx_13 := Nat.lt_of_lt_of_le zx_12 hb13.size
        have qu0_13 := (hb13.cell (p := ⟨w7.heap.size, 0, none⟩) zu_12).trans qu0_12
        have qu1_13 := (hb13.cell (p := ⟨w7.heap.size, 1, none⟩) zu_12).trans qu1_12
        have zu_13 := Nat.lt_of_lt_of_le zu_12 hb13.size
        have qp0_13 := (hb13.cell (p := ⟨w10.heap.size, 0, none⟩) zp_12).trans qp0_12
        have qp1_13 := (hb13.cell (p := ⟨w10.heap.size, 1, none⟩) zp_12).trans qp1_12
        have zp_13 := Nat.lt_of_lt_of_le zp_12 hb13.size
        have G_13 := Lib.hid (G_12.out.keep hb13)
        have X_13 := Lib.hid (X_12.out.keep hb13)
        have U_13 := Lib.hid (U_12.out.keep hb13)
        have P_13 := Lib.hid (P_12.out.keep hb13)
        have Q_13 := Lib.hid (Q_12.out.keep hb13)
        have qq0_13 : (w12.alloc (.cells #[.int .i64 N2, .slice aq L2.length cq] 25)).cell? ⟨w12.heap.size, 0, none⟩ = some (.int .i64 N2) := by go_simp
        have qq1_13 : (w12.alloc (.cells #[.int .i64 N2, .slice aq L2.length cq] 25)).cell? ⟨w12.heap.size, 1, none⟩ = some (.slice aq L2.length cq) := by go_simp
        have zq_13 : w12.heap.size < (w12.alloc (.cells #[.int .i64 N2, .slice aq L2.length cq] 25)).heap.size := by simp <;> omega
        generalize (w12.alloc (.cells #[.int .i64 N2, .slice aq L2.length cq] 25)) = w13 at hb13 H13 SZ13 G_13 P_13 Q_13 U_13 X_13 qe0_13 qe1_13 qe2_13 qf0_13 qf1_13 qf2_13 qg0_13 qg1_13 qh0_13 qh1_13 qp0_13 qp1_13 qq0_13 qq1_13 qu0_13 qu1_13 qx0_13 qx1_13 ze_13 zf_13 zg_13 zh_13 zp_13 zq_13 zu_13 zx_13 ⊢
        have ZBq := Lib.hid zq_13
        clear qg0_12 qg1_12 zg_12 qe0_12 qe1_12 qe2_12 ze_12 qh0_12 qh1_12 zh_12 qf0_12 qf1_12 qf2_12 zf_12 qx0_12 qx1_12 zx_12 qu0_12 qu1_12 zu_12 qp0_12 qp1_12 zp_12 G_12 X_12 U_12 P_12 Q_12
        cases b1
        · go_wp2_with fail
          refine (HCC.out _ _ Q_13.out.edges HOKq.out).mono ?_
          rintro e w14 ⟨vr, rfl, howr, hokr, hb14⟩
          have H14 := bel_trans H13 hb14
          have SZ14 := Lib.hid hb14.size
          have qg0_14 := (hb14.cell (p := ⟨w1.heap.size, 0, none⟩) zg_13).trans qg0_13
          have qg1_14 := (hb14.cell (p := ⟨w1.heap.size, 1, none⟩) zg_13).trans qg1_13
          have zg_14 := Nat.lt_of_lt_of_le zg_13 hb14.size
          have qe0_14 := (hb14.cell (p := ⟨w1.heap.size + 1, 0, none⟩) ze_13).trans qe0_13
          have qe1_14 := (hb14.cell (p := ⟨w1.heap.size + 1, 1, none⟩) ze_13).trans qe1_13
          have qe2_14 := (hb14.cell (p := ⟨w1.heap.size + 1, 2, none⟩) ze_13).trans qe2_13
          have ze_14 := Nat.lt_of_lt_of_le ze_13 hb14.size
          have qh0_14 := (hb14.cell (p := ⟨w3.heap.size, 0, none⟩) zh_13).trans qh0_13
          have qh1_14 := (hb14.cell (p := ⟨w3.heap.size, 1, none⟩) zh_13).trans qh1_13
          have zh_14 := Nat.lt_of_lt_of_le zh_13 hb14.size
          have qf0_14 := (hb14.cell (p := ⟨w3.heap.size + 1, 0, none⟩) zf_13).trans qf0_13
          have qf1_14 := (hb14.cell (p := ⟨w3.heap.size + 1, 1, none⟩) zf_13).trans qf1_13
          have qf2_14 := (hb14.cell (p := ⟨w3.heap.size + 1, 2, none⟩) zf_13).trans qf2_13
          have zf_14 := Nat.lt_of_lt_of_le zf_13 hb14.size
          have qx0_14 := (hb14.cell (p := ⟨w5.heap.size, 0, none⟩) zx_13).trans qx0_13
          have qx1_14 := (hb14.cell (p := ⟨w5.heap.size, 1, none⟩) zx_13).trans qx1_13
          have zx_14 := Nat.lt_of_lt_of_le zx_13 hb14.size
          have qu0_14 := (hb14.cell (p := ⟨w7.heap.size, 0, none⟩) zu_13).trans qu0_13
          have qu1_14 := (hb14.cell (p := ⟨w7.heap.size, 1, none⟩) zu_13).trans qu1_13
          have zu_14 := Nat.lt_of_lt_of_le zu_13 hb14.size
          have qp0_14 := (hb14.cell (p := ⟨w10.heap.size, 0, none⟩) zp_13).trans qp0_13
          have qp1_14 := (hb14.cell (p := ⟨w10.heap.size, 1, none⟩) zp_13).trans qp1_13
          have zp_14 := Nat.lt_of_lt_of_le zp_13 hb14.size
          have qq0_14 := (hb14.cell (p := ⟨w12.heap.size, 0, none⟩) zq_13).trans qq0_13
          have qq1_14 := (hb14.cell (p := ⟨w12.heap.size, 1, none⟩) zq_13).trans qq1_13
          have zq_14 := Nat.lt_of_lt_of_le zq_13 hb14.size
          have G_14 := Lib.hid (G_13.out.keep hb14)
          have X_14 := Lib.hid (X_13.out.keep hb14)
          have U_14 := Lib.hid (U_13.out.keep hb14)
          have P_14 := Lib.hid (P_13.out.keep hb14)
          have Q_14 := Lib.hid (Q_13.out.keep hb14)
          obtain ⟨ar, cr, rfl, hz9⟩ := id howr
          clear hz9 hokr howr
          clear zx_13 qp1_13 qe0_13 qf0_13 qf2_13 zh_13 qe2_13 qx1_13 zq_13 ze_13 qu1_13 zg_13 zu_13 zp_13 qq1_13 Q_13 qq0_13 P_13 qx0_13 G_13 X_13 qp0_13 qh0_13 qg1_13 zf_13 qh1_13 qe1_13 qu0_13 qg0_13 U_13 qf1_13
          go_wp2
          go_ret
          exact ⟨rfl, (H14).alloc (H14).size _⟩
        cases b2
        · go_wp2_with fail
          refine (HCC.out _ _ Q_13.out.edges HOKq.out).mono ?_
          rintro e w14 ⟨vr, rfl, howr, hokr, hb14⟩
          have H14 := bel_trans H13 hb14
          have SZ14 := Lib.hid hb14.size
          have qg0_14 := (hb14.cell (p := ⟨w1.heap.size, 0, none⟩) zg_13).trans qg0_13
          have qg1_14 := (hb14.cell (p := ⟨w1.heap.size, 1, none⟩) zg_13).trans qg1_13
          have zg_14 := Nat.lt_of_lt_of_le zg_13 hb14.size
          have qe0_14 := (hb14.cell (p := ⟨w1.heap.size + 1, 0, none⟩) ze_13).trans qe0_13
          have qe1_14 := (hb14.cell (p := ⟨w1.heap.size + 1, 1, none⟩) ze_13).trans qe1_13
          have qe2_14 := (hb14.cell (p := ⟨w1.heap.size + 1, 2, none⟩) ze_13).trans qe2_13
          have ze_14 := Nat.lt_of_lt_of_le ze_13 hb14.size
          have qh0_14 := (hb14.cell (p := ⟨w3.heap.size, 0, none⟩) zh_13).trans qh0_13
          have qh1_14 := (hb14.cell (p := ⟨w3.heap.size, 1, none⟩) zh_13).trans qh1_13
          have zh_14 := Nat.lt_of_lt_of_le zh_13 hb14.size
          have qf0_14 := (hb14.cell (p := ⟨w3.heap.size + 1, 0, none⟩) zf_13).trans qf0_13
          have qf1_14 := (hb14.cell (p := ⟨w3.heap.size + 1, 1, none⟩) zf_13).trans qf1_13
          have qf2_14 := (hb14.cell (p := ⟨w3.heap.size + 1, 2, none⟩) zf_13).trans qf2_13
          have zf_14 := Nat.lt_of_lt_of_le zf_13 hb14.size
          have qx0_14 := (hb14.cell (p := ⟨w5.heap.size, 0, none⟩) zx_13).trans qx0_13
          have qx1_14 := (hb14.cell (p := ⟨w5.heap.size, 1, none⟩) zx_13).trans qx1_13
          have zx_14 := Nat.lt_of_lt_of_le zx_13 hb14.size
          have qu0_14 := (hb14.cell (p := ⟨w7.heap.size, 0, none⟩) zu_13).trans qu0_13
          have qu1_14 := (hb14.cell (p := ⟨w7.heap.size, 1, none⟩) zu_13).trans qu1_13
          have zu_14 := Nat.lt_of_lt_of_le zu_13 hb14.size
          have qp0_14 := (hb14.cell (p := ⟨w10.heap.size, 0, none⟩) zp_13).trans qp0_13
          have qp1_14 := (hb14.cell (p := ⟨w10.heap.size, 1, none⟩) zp_13).trans qp1_13
          have zp_14 := Nat.lt_of_lt_of_le zp_13 hb14.size
          have qq0_14 := (hb14.cell (p := ⟨w12.heap.size, 0, none⟩) zq_13).trans qq0_13
          have qq1_14 := (hb14.cell (p := ⟨w12.heap.size, 1, none⟩) zq_13).trans qq1_13
          have zq_14 := Nat.lt_of_lt_of_le zq_13 hb14.size
          have G_14 := Lib.hid (G_13.out.keep hb14)
          have X_14 := Lib.hid (X_13.out.keep hb14)
          have U_14 := Lib.hid (U_13.out.keep hb14)
          have P_14 := Lib.hid (P_13.out.keep hb14)
          have Q_14 := Lib.hid (Q_13.out.keep hb14)
          obtain ⟨ar, cr, rfl, hz9⟩ := id howr
          clear hz9 hokr howr
          clear zx_13 qp1_13 qe0_13 qf0_13 qf2_13 zh_13 qe2_13 qx1_13 zq_13 ze_13 qu1_13 zg_13 zu_13 zp_13 qq1_13 Q_13 qq0_13 P_13 qx0_13 G_13 X_13 qp0_13 qh0_13 qg1_13 zf_13 qh1_13 qe1_13 qu0_13 qg0_13 U_13 qf1_13
          go_wp2
          go_ret
          exact ⟨rfl, (H14).alloc (H14).size _⟩
        obtain ⟨rfl, rfl, rfl⟩ := HFIN.out rfl rfl
        go_wp2_with fail
        refine (HCC.out _ _ Q_13.out.edges HOKq.out).mono ?_
        rintro e w14 ⟨vr, rfl, howr, hokr, hb14⟩
        have H14 := bel_trans H13 hb14
        have SZ14 := Lib.hid hb14.size
        have qg0_14 := (hb14.cell (p := ⟨w1.heap.size, 0, none⟩) zg_13).trans qg0_13
        have qg1_14 := (hb14.cell (p := ⟨w1.heap.size, 1, none⟩) zg_13).trans qg1_13
        have zg_14 := Nat.lt_of_lt_of_le zg_13 hb14.size
        have qe0_14 := (hb14.cell (p := ⟨w1.heap.size + 1, 0, none⟩) ze_13).trans qe0_13
        have qe1_14 := (hb14.cell (p := ⟨w1.heap.size + 1, 1, none⟩) ze_13).trans qe1_13
        have qe2_14 := (hb14.cell (p := ⟨w1.heap.size + 1, 2, none⟩) ze_13).trans qe2_13
        have ze_14 := Nat.lt_of_lt_of_le ze_13 hb14.size
        have qh0_14 := (hb14.cell (p := ⟨w3.heap.size, 0, none⟩) zh_13).trans qh0_13
        have qh1_14 := (hb14.cell (p := ⟨w3.heap.size, 1, none⟩) zh_13).trans qh1_13
        have zh_14 := Nat.lt_of_lt_of_le zh_13 hb14.size
        have qf0_14 := (hb14.cell (p := ⟨w3.heap.size + 1, 0, none⟩) zf_13).trans qf0_13
        have qf1_14 := (hb14.cell (p := ⟨w3.heap.size + 1, 1, none⟩) zf_13).trans qf1_13
        have qf2_14 := (hb14.cell (p := ⟨w3.heap.size + 1, 2, none⟩) zf_13).trans qf2_13
        have zf_14 := Nat.lt_of_lt_of_le zf_13 hb14.size
        have qx0_14 := (hb14.cell (p := ⟨w5.heap.size, 0, none⟩) zx_13).trans qx0_13
        have qx1_14 := (hb14.cell (p := ⟨w5.heap.size, 1, none⟩) zx_13).trans qx1_13
        have zx_14 := Nat.lt_of_lt_of_le zx_13 hb14.size
        have qu0_14 := (hb14.cell (p := ⟨w7.heap.size, 0, none⟩) zu_13).trans qu0_13
        have qu1_14 := (hb14.cell (p := ⟨w7.heap.size, 1, none⟩) zu_13).trans qu1_13
        have zu_14 := Nat.lt_of_lt_of_le zu_13 hb14.size
        have qp0_14 := (hb14.cell (p := ⟨w10.heap.size, 0, none⟩) zp_13).trans qp0_13
        have qp1_14 := (hb14.cell (p := ⟨w10.heap.size, 1, none⟩) zp_13).trans qp1_13
        have zp_14 := Nat.lt_of_lt_of_le zp_13 hb14.size
        have qq0_14 := (hb14.cell (p := ⟨w12.heap.size, 0, none⟩) zq_13).trans qq0_13
        have qq1_14 := (hb14.cell (p := ⟨w12.heap.size, 1, none⟩) zq_13).trans qq1_13
        have zq_14 := Nat.lt_of_lt_of_le zq_13 hb14.size
        have G_14 := Lib.hid (G_13.out.keep hb14)
        have X_14 := Lib.hid (X_13.out.keep hb14)
        have U_14 := Lib.hid (U_13.out.keep hb14)
        have P_14 := Lib.hid (P_13.out.keep hb14)
        have Q_14 := Lib.hid (Q_13.out.keep hb14)
        obtain ⟨ar, cr, rfl, hz9⟩ := id howr
        have HOKr := Lib.hid hokr
        clear hz9 hokr
        have R_14 := Lib.hid (show InR true w14 w13.heap.size w14.heap.size _ L1.length 3 (cellE L1) from howr)
        clear qg0_13 qg1_13 zg_13 qe0_13 qe1_13 qe2_13 ze_13 qh0_13 qh1_13 zh_13 qf0_13 qf1_13 qf2_13 zf_13 qx0_13 qx1_13 zx_13 qu0_13 qu1_13 zu_13 qp0_13 qp1_13 zp_13 G_13 X_13 U_13 P_13 Q_13 qq0_13 qq1_13 zq_13
        clear howr
        go_wp2_with fail
        have hb15 : Below w14.heap.size w14 (w14.alloc (.cells #[.int .i64 N1, .slice ar L1.length cr] 25)) := (Below.refl _ _).alloc (by simp <;> omega) _
        have H15 := bel_trans H14 hb15
        have SZ15 := Lib.hid hb15.size
        have qg0_15 := (hb15.cell (p := ⟨w1.heap.size, 0, none⟩) zg_14).trans qg0_14
        have qg1_15 := (hb15.cell (p := ⟨w1.heap.size, 1, none⟩) zg_14).trans qg1_14
        have zg_15 := Nat.lt_of_lt_of_le zg_14 hb15.size
        have qe0_15 := (hb15.cell (p := ⟨w1.heap.size + 1, 0, none⟩) ze_14).trans qe0_14
        have qe1_15 := (hb15.cell (p := ⟨w1.heap.size + 1, 1, none⟩) ze_14).trans qe1_14
        have qe2_15 := (hb15.cell (p := ⟨w1.heap.size + 1, 2, none⟩) ze_14).trans qe2_14
        have ze_15 := Nat.lt_of_lt_of_le ze_14 hb15.size
        have qh0_15 := (hb15.cell (p := ⟨w3.heap.size, 0, none⟩) zh_14).trans qh0_14
        have qh1_15 := (hb15.cell (p := ⟨w3.heap.size, 1, none⟩) zh_14).trans qh1_14
        have zh_15 := Nat.lt_of_lt_of_le zh_14 hb15.size
        have qf0_15 := (hb15.cell (p := ⟨w3.heap.size + 1, 0, none⟩) zf_14).trans qf0_14
        have qf1_15 := (hb15.cell (p := ⟨w3.heap.size + 1, 1, none⟩) zf_14).trans qf1_14
        have qf2_15 := (hb15.cell (p := ⟨w3.heap.size + 1, 2, none⟩) zf_14).trans qf2_14
        have zf_15 := Nat.lt_of_lt_of_le zf_14 hb15.size
        have qx0_15 := (hb15.cell (p := ⟨w5.heap.size, 0, none⟩) zx_14).trans qx0_14
        have qx1_15 := (hb15.cell (p := ⟨w5.heap.size, 1, none⟩) zx_14).trans qx1_14
        have zx_15 := Nat.lt_of_lt_of_le zx_14 hb15.size
        have qu0_15 := (hb15.cell (p := ⟨w7.heap.size, 0, none⟩) zu_14).trans qu0_14
        have qu1_15 := (hb15.cell (p := ⟨w7.heap.size, 1, none⟩) zu_14).trans qu1_14
        have zu_15 := Nat.lt_of_lt_of_le zu_14 hb15.size
        have qp0_15 := (hb15.cell (p := ⟨w10.heap.size, 0, none⟩) zp_14).trans qp0_14
        have qp1_15 := (hb15.cell (p := ⟨w10.heap.size, 1, none⟩) zp_14).trans qp1_14
        have zp_15 := Nat.lt_of_lt_of_le zp_14 hb15.size
        have qq0_15 := (hb15.cell (p := ⟨w12.heap.size, 0, none⟩) zq_14).trans qq0_14
        have qq1_15 := (hb15.cell (p := ⟨w12.heap.size, 1, none⟩) zq_14).trans qq1_14
        have zq_15 := Nat.lt_of_lt_of_le zq_14 hb15.size
        have G_15 := Lib.hid (G_14.out.keep hb15)
        have X_15 := Lib.hid (X_14.out.keep hb15)
        have U_15 := Lib.hid (U_14.out.keep hb15)
        have P_15 := Lib.hid (P_14.out.keep hb15)
        have Q_15 := Lib.hid (Q_14.out.keep hb15)
        have R_15 := Lib.hid (R_14.out.keep hb15)
        have qr0_15 : (w14.alloc (.cells #[.int .i64 N1, .slice ar L1.length cr] 25)).cell? ⟨w14.heap.size, 0, none⟩ = some (.int .i64 N1) := by go_simp
        have qr1_15 : (w14.alloc (.cells #[.int .i64 N1, .slice ar L1.length cr] 25)).cell? ⟨w14.heap.size, 1, none⟩ = some (.slice ar L1.length cr) := by go_simp
        have zr_15 : w14.heap.size < (w14.alloc (.cells #[.int .i64 N1, .slice ar L1.length cr] 25)).heap.size := by simp <;> omega
        generalize (w14.alloc (.cells #[.int .i64 N1, .slice ar L1.length cr] 25)) = w15 at hb15 H15 SZ15 G_15 P_15 Q_15 R_15 U_15 X_15 qe0_15 qe1_15 qe2_15 qf0_15 qf1_15 qf2_15 qg0_15 qg1_15 qh0_15 qh1_15 qp0_15 qp1_15 qq0_15 qq1_15 qr0_15 qr1_15 qu0_15 qu1_15 qx0_15 qx1_15 ze_15 zf_15 zg_15 zh_15 zp_15 zq_15 zr_15 zu_15 zx_15 ⊢
        have ZBr := Lib.hid zr_15
        clear qg0_14 qg1_14 zg_14 qe0_14 qe1_14 qe2_14 ze_14 qh0_14 qh1_14 zh_14 qf0_14 qf1_14 qf2_14 zf_14 qx0_14 qx1_14 zx_14 qu0_14 qu1_14 zu_14 qp0_14 qp1_14 zp_14 qq0_14 qq1_14 zq_14 G_14 X_14 U_14 P_14 Q_14 R_14
        go_wp2_with fail
        refine (graphSame N1 N1 L1 L1 _ _ _ P_15.out.edges R_15.out.edges (by omega) (by omega)).mono ?_
        rintro e w16 ⟨hS, hb16⟩
        have H16 := bel_trans H15 hb16
        have SZ16 := Lib.hid hb16.size
        have qg0_16 := (hb16.cell (p := ⟨w1.heap.size, 0, none⟩) zg_15).trans qg0_15
        have qg1_16 := (hb16.cell (p := ⟨w1.heap.size, 1, none⟩) zg_15).trans qg1_15
        have zg_16 := Nat.lt_of_lt_of_le zg_15 hb16.size
        have qe0_16 := (hb16.cell (p := ⟨w1.heap.size + 1, 0, none⟩) ze_15).trans qe0_15
        have qe1_16 := (hb16.cell (p := ⟨w1.heap.size + 1, 1, none⟩) ze_15).trans qe1_15
        have qe2_16 := (hb16.cell (p := ⟨w1.heap.size + 1, 2, none⟩) ze_15).trans qe2_15
        have ze_16 := Nat.lt_of_lt_of_le ze_15 hb16.size
        have qh0_16 := (hb16.cell (p := ⟨w3.heap.size, 0, none⟩) zh_15).trans qh0_15
        have qh1_16 := (hb16.cell (p := ⟨w3.heap.size, 1, none⟩) zh_15).trans qh1_15
        have zh_16 := Nat.lt_of_lt_of_le zh_15 hb16.size
        have qf0_16 := (hb16.cell (p := ⟨w3.heap.size + 1, 0, none⟩) zf_15).trans qf0_15
        have qf1_16 := (hb16.cell (p := ⟨w3.heap.size + 1, 1, none⟩) zf_15).trans qf1_15
        have qf2_16 := (hb16.cell (p := ⟨w3.heap.size + 1, 2, none⟩) zf_15).trans qf2_15
        have zf_16 := Nat.lt_of_lt_of_le zf_15 hb16.size
        have qx0_16 := (hb16.cell (p := ⟨w5.heap.size, 0, none⟩) zx_15).trans qx0_15
        have qx1_16 := (hb16.cell (p := ⟨w5.heap.size, 1, none⟩) zx_15).trans qx1_15
        have zx_16 := Nat.lt_of_lt_of_le zx_15 hb16.size
        have qu0_16 := (hb16.cell (p := ⟨w7.heap.size, 0, none⟩) zu_15).trans qu0_15
        have qu1_16 := (hb16.cell (p := ⟨w7.heap.size, 1, none⟩) zu_15).trans qu1_15
        have zu_16 := Nat.lt_of_lt_of_le zu_15 hb16.size
        have qp0_16 := (hb16.cell (p := ⟨w10.heap.size, 0, none⟩) zp_15).trans qp0_15
        have qp1_16 := (hb16.cell (p := ⟨w10.heap.size, 1, none⟩) zp_15).trans qp1_15
        have zp_16 := Nat.lt_of_lt_of_le zp_15 hb16.size
        have qq0_16 := (hb16.cell (p := ⟨w12.heap.size, 0, none⟩) zq_15).trans qq0_15
        have qq1_16 := (hb16.cell (p := ⟨w12.heap.size, 1, none⟩) zq_15).trans qq1_15
        have zq_16 := Nat.lt_of_lt_of_le zq_15 hb16.size
        have qr0_16 := (hb16.cell (p := ⟨w14.heap.size, 0, none⟩) zr_15).trans qr0_15
        have qr1_16 := (hb16.cell (p := ⟨w14.heap.size, 1, none⟩) zr_15).trans qr1_15
        have zr_16 := Nat.lt_of_lt_of_le zr_15 hb16.size
        have G_16 := Lib.hid (G_15.out.keep hb16)
        have X_16 := Lib.hid (X_15.out.keep hb16)
        have U_16 := Lib.hid (U_15.out.keep hb16)
        have P_16 := Lib.hid (P_15.out.keep hb16)
        have Q_16 := Lib.hid (Q_15.out.keep hb16)
        have R_16 := Lib.hid (R_15.out.keep hb16)
        rw [gSame_self] at hS
        subst hS
        clear qg0_15 qg1_15 zg_15 qe0_15 qe1_15 qe2_15 ze_15 qh0_15 qh1_15 zh_15 qf0_15 qf1_15 qf2_15 zf_15 qx0_15 qx1_15 zx_15 qu0_15 qu1_15 zu_15 qp0_15 qp1_15 zp_15 qq0_15 qq1_15 zq_15 G_15 X_15 U_15 P_15 Q_15 R_15 qr0_15 qr1_15 zr_15
        go_wp2
        go_ret
        exact ⟨rfl, H16⟩
      · have hc3 := d0 hc1
        rw [hc2] at hc3
        subst hc3
        clear d0
        go_wp2_with fail
        refine (HCA.out _ _ X_9.out.edges HOKx.out).mono ?_
        rintro e w10 ⟨vp, rfl, howp, hokp, hb10⟩
        have H10 := bel_trans H9 hb10
        have SZ10 := Lib.hid hb10.size
        have qg0_10 := (hb10.cell (p := ⟨w1.heap.size, 0, none⟩) zg_9).trans qg0_9
        have qg1_10 := (hb10.cell (p := ⟨w1.heap.size, 1, none⟩) zg_9).trans qg1_9
        have zg_10 := Nat.lt_of_lt_of_le zg_9 hb10.size
        have qe0_10 := (hb10.cell (p := ⟨w1.heap.size + 1, 0, none⟩) ze_9).trans qe0_9
        have qe1_10 := (hb10.cell (p := ⟨w1.heap.size + 1, 1, none⟩) ze_9).trans qe1_9
        have qe2_10 := (hb10.cell (p := ⟨w1.heap.size + 1, 2, none⟩) ze_9).trans qe2_9
        have ze_10 := Nat.lt_of_lt_of_le ze_9 hb10.size
        have qh0_10 := (hb10.cell (p := ⟨w3.heap.size, 0, none⟩) zh_9).trans qh0_9
        have qh1_10 := (hb10.cell (p := ⟨w3.heap.size, 1, none⟩) zh_9).trans qh1_9
        have zh_10 := Nat.lt_of_lt_of_le zh_9 hb10.size
        have qf0_10 := (hb10.cell (p := ⟨w3.heap.size + 1, 0, none⟩) zf_9).trans qf0_9
        have qf1_10 := (hb10.cell (p := ⟨w3.heap.size + 1, 1, none⟩) zf_9).trans qf1_9
        have qf2_10 := (hb10.cell (p := ⟨w3.heap.size + 1, 2, none⟩) zf_9).trans qf2_9
        have zf_10 := Nat.lt_of_lt_of_le zf_9 hb10.size
        have qx0_10 := (hb10.cell (p := ⟨w5.heap.size, 0, none⟩) zx_9).trans qx0_9
        have qx1_10 := (hb10.cell (p := ⟨w5.heap.size, 1, none⟩) zx_9).trans qx1_9
        have zx_10 := Nat.lt_of_lt_of_le zx_9 hb10.size
        have qu0_10 := (hb10.cell (p := ⟨w7.heap.size, 0, none⟩) zu_9).trans qu0_9
        have qu1_10 := (hb10.cell (p := ⟨w7.heap.size, 1, none⟩) zu_9).trans qu1_9
        have zu_10 := Nat.lt_of_lt_of_le zu_9 hb10.size
        have G_10 := Lib.hid (G_9.out.keep hb10)
        have X_10 := Lib.hid (X_9.out.keep hb10)
        have U_10 := Lib.hid (U_9.out.keep hb10)
        obtain ⟨ap, cp, rfl, hz9⟩ := id howp
        have HOKp := Lib.hid hokp
        clear hz9 hokp
        have P_10 := Lib.hid (show InR true w10 w9.heap.size w10.heap.size _ L1.length 3 (cellE L1) from howp)
        clear qh0_9 qe0_9 qf2_9 ze_9 qx1_9 qe1_9 qf0_9 zf_9 zh_9 qu0_9 U_9 qx0_9 qh1_9 zg_9 X_9 qg1_9 zu_9 qe2_9 qf1_9 zx_9 qg0_9 G_9 qu1_9
        clear howp
        go_wp2_with fail
        have hb11 : Below w10.heap.size w10 (w10.alloc (.cells #[.int .i64 N1, .slice ap L1.length cp] 25)) := (Below.refl _ _).alloc (by simp <;> omega) _
        have H11 := bel_trans H10 hb11
        have SZ11 := Lib.hid hb11.size
        have qg0_11 := (hb11.cell (p := ⟨w1.heap.size, 0, none⟩) zg_10).trans qg0_10
        have qg1_11 := (hb11.cell (p := ⟨w1.heap.size, 1, none⟩) zg_10).trans qg1_10
        have zg_11 := Nat.lt_of_lt_of_le zg_10 hb11.size
        have qe0_11 := (hb11.cell (p := ⟨w1.heap.size + 1, 0, none⟩) ze_10).trans qe0_10
        have qe1_11 := (hb11.cell (p := ⟨w1.heap.size + 1, 1, none⟩) ze_10).trans qe1_10
        have qe2_11 := (hb11.cell (p := ⟨w1.heap.size + 1, 2, none⟩) ze_10).trans qe2_10
        have ze_11 := Nat.lt_of_lt_of_le ze_10 hb11.size
        have qh0_11 := (hb11.cell (p := ⟨w3.heap.size, 0, none⟩) zh_10).trans qh0_10
        have qh1_11 := (hb11.cell (p := ⟨w3.heap.size, 1, none⟩) zh_10).trans qh1_10
        have zh_11 := Nat.lt_of_lt_of_le zh_10 hb11.size
        have qf0_11 := (hb11.cell (p := ⟨w3.heap.size + 1, 0, none⟩) zf_10).trans qf0_10
        have qf1_11 := (hb11.cell (p := ⟨w3.heap.size + 1, 1, none⟩) zf_10).trans qf1_10
        have qf2_11 := (hb11.cell (p := ⟨w3.heap.size + 1, 2, none⟩) zf_10).trans qf2_10
        have zf_11 := Nat.lt_of_lt_of_le zf_10 hb11.size
        have qx0_11 := (hb11.cell (p := ⟨w5.heap.size, 0, none⟩) zx_10).trans qx0_10
        have qx1_11 := (hb11.cell (p := ⟨w5.heap.size, 1, none⟩) zx_10).trans qx1_10
        have zx_11 := Nat.lt_of_lt_of_le zx_10 hb11.size
        have qu0_11 := (hb11.cell (p := ⟨w7.heap.size, 0, none⟩) zu_10).trans qu0_10
        have qu1_11 := (hb11.cell (p := ⟨w7.heap.size, 1, none⟩) zu_10).trans qu1_10
        have zu_11 := Nat.lt_of_lt_of_le zu_10 hb11.size
        have G_11 := Lib.hid (G_10.out.keep hb11)
        have X_11 := Lib.hid (X_10.out.keep hb11)
        have U_11 := Lib.hid (U_10.out.keep hb11)
        have P_11 := Lib.hid (P_10.out.keep hb11)
        have qp0_11 : (w10.alloc (.cells #[.int .i64 N1, .slice ap L1.length cp] 25)).cell? ⟨w10.heap.size, 0, none⟩ = some (.int .i64 N1) := by go_simp
        have qp1_11 : (w10.alloc (.cells #[.int .i64 N1, .slice ap L1.length cp] 25)).cell? ⟨w10.heap.size, 1, none⟩ = some (.slice ap L1.length cp) := by go_simp
        have zp_11 : w10.heap.size < (w10.alloc (.cells #[.int .i64 N1, .slice ap L1.length cp] 25)).heap.size := by simp <;> omega
        generalize (w10.alloc (.cells #[.int .i64 N1, .slice ap L1.length cp] 25)) = w11 at hb11 H11 SZ11 G_11 P_11 U_11 X_11 qe0_11 qe1_11 qe2_11 qf0_11 qf1_11 qf2_11 qg0_11 qg1_11 qh0_11 qh1_11 qp0_11 qp1_11 qu0_11 qu1_11 qx0_11 qx1_11 ze_11 zf_11 zg_11 zh_11 zp_11 zu_11 zx_11 ⊢
        have ZBp := Lib.hid zp_11
        clear qg0_10 qg1_10 zg_10 qe0_10 qe1_10 qe2_10 ze_10 qh0_10 qh1_10 zh_10 qf0_10 qf1_10 qf2_10 zf_10 qx0_10 qx1_10 zx_10 qu0_10 qu1_10 zu_10 G_10 X_10 U_10 P_10
        go_wp2_with fail
        refine (HCB.out _ _ G_11.out.edges HOKG.out).mono ?_
        rintro e w12 ⟨vq, rfl, howq, hokq, hb12⟩
        have H12 := bel_trans H11 hb12
        have SZ12 := Lib.hid hb12.size
        have qg0_12 := (hb12.cell (p := ⟨w1.heap.size, 0, none⟩) zg_11).trans qg0_11
        have qg1_12 := (hb12.cell (p := ⟨w1.heap.size, 1, none⟩) zg_11).trans qg1_11
        have zg_12 := Nat.lt_of_lt_of_le zg_11 hb12.size
        have qe0_12 := (hb12.cell (p := ⟨w1.heap.size + 1, 0, none⟩) ze_11).trans qe0_11
        have qe1_12 := (hb12.cell (p := ⟨w1.heap.size + 1, 1, none⟩) ze_11).trans qe1_11
        have qe2_12 := (hb12.cell (p := ⟨w1.heap.size + 1, 2, none⟩) ze_11).trans qe2_11
        have ze_12 := Nat.lt_of_lt_of_le ze_11 hb12.size
        have qh0_12 := (hb12.cell (p := ⟨w3.heap.size, 0, none⟩) zh_11).trans qh0_11
        have qh1_12 := (hb12.cell (p := ⟨w3.heap.size, 1, none⟩) zh_11).trans qh1_11
        have zh_12 := Nat.lt_of_lt_of_le zh_11 hb12.size
        have qf0_12 := (hb12.cell (p := ⟨w3.heap.size + 1, 0, none⟩) zf_11).trans qf0_11
        have qf1_12 := (hb12.cell (p := ⟨w3.heap.size + 1, 1, none⟩) zf_11).trans qf1_11
        have qf2_12 := (hb12.cell (p := ⟨w3.heap.size + 1, 2, none⟩) zf_11).trans qf2_11
        have zf_12 := Nat.lt_of_lt_of_le zf_11 hb12.size
        have qx0_12 := (hb12.cell (p := ⟨w5.heap.size, 0, none⟩) zx_11).trans qx0_11
        have qx1_12 := (hb12.cell (p := ⟨w5.heap.size, 1, none⟩) zx_11).trans qx1_11
        have zx_12 := Nat.lt_of_lt_of_le zx_11 hb12.size
        have qu0_12 := (hb12.cell (p := ⟨w7.heap.size, 0, none⟩) zu_11).trans qu0_11
        have qu1_12 := (hb12.cell (p := ⟨w7.heap.size, 1, none⟩) zu_11).trans qu1_11
        have zu_12 := Nat.lt_of_lt_of_le zu_11 hb12.size
        have qp0_12 := (hb12.cell (p := ⟨w10.heap.size, 0, none⟩) zp_11).trans qp0_11
        have qp1_12 := (hb12.cell (p := ⟨w10.heap.size, 1, none⟩) zp_11).trans qp1_11
        have zp_12 := Nat.lt_of_lt_of_le zp_11 hb12.size
        have G_12 := Lib.hid (G_11.out.keep hb12)
        have X_12 := Lib.hid (X_11.out.keep hb12)
        have U_12 := Lib.hid (U_11.out.keep hb12)
        have P_12 := Lib.hid (P_11.out.keep hb12)
        obtain ⟨aq, cq, rfl, hz9⟩ := id howq
        have HOKq := Lib.hid hokq
        clear hz9 hokq
        have Q_12 := Lib.hid (show InR true w12 w11.heap.size w12.heap.size _ L2.length 3 (cellE L2) from howq)
        clear qg0_11 qg1_11 zg_11 qe0_11 qe1_11 qe2_11 ze_11 qh0_11 qh1_11 zh_11 qf0_11 qf1_11 qf2_11 zf_11 qx0_11 qx1_11 zx_11 qu0_11 qu1_11 zu_11 G_11 X_11 U_11 P_11 qp0_11 qp1_11 zp_11
        clear howq
        go_wp2_with fail
        have hb13 : Below w12.heap.size w12 (w12.alloc (.cells #[.int .i64 N2, .slice aq L2.length cq] 25)) := (Below.refl _ _).alloc (by simp <;> omega) _
        have H13 := bel_trans H12 hb13
        have SZ13 := Lib.hid hb13.size
        have qg0_13 := (hb13.cell (p := ⟨w1.heap.size, 0, none⟩) zg_12).trans qg0_12
        have qg1_13 := (hb13.cell (p := ⟨w1.heap.size, 1, none⟩) zg_12).trans qg1_12
        have zg_13 := Nat.lt_of_lt_of_le zg_12 hb13.size
        have qe0_13 := (hb13.cell (p := ⟨w1.heap.size + 1, 0, none⟩) ze_12).trans qe0_12
        have qe1_13 := (hb13.cell (p := ⟨w1.heap.size + 1, 1, none⟩) ze_12).trans qe1_12
        have qe2_13 := (hb13.cell (p := ⟨w1.heap.size + 1, 2, none⟩) ze_12).trans qe2_12
        have ze_13 := Nat.lt_of_lt_of_le ze_12 hb13.size
        have qh0_13 := (hb13.cell (p := ⟨w3.heap.size, 0, none⟩) zh_12).trans qh0_12
        have qh1_13 := (hb13.cell (p := ⟨w3.heap.size, 1, none⟩) zh_12).trans qh1_12
        have zh_13 := Nat.lt_of_lt_of_le zh_12 hb13.size
        have qf0_13 := (hb13.cell (p := ⟨w3.heap.size + 1, 0, none⟩) zf_12).trans qf0_12
        have qf1_13 := (hb13.cell (p := ⟨w3.heap.size + 1, 1, none⟩) zf_12).trans qf1_12
        have qf2_13 := (hb13.cell (p := ⟨w3.heap.size + 1, 2, none⟩) zf_12).trans qf2_12
        have zf_13 := Nat.lt_of_lt_of_le zf_12 hb13.size
        have qx0_13 := (hb13.cell (p := ⟨w5.heap.size, 0, none⟩) zx_12).trans qx0_12
        have qx1_13 := (hb13.cell (p := ⟨w5.heap.size, 1, none⟩) zx_12).trans qx1_12
        have zx_13 := Nat.lt_of_lt_of_le zx_12 hb13.size
        have qu0_13 := (hb13.cell (p := ⟨w7.heap.size, 0, none⟩) zu_12).trans qu0_12
        have qu1_13 := (hb13.cell (p := ⟨w7.heap.size, 1, none⟩) zu_12).trans qu1_12
        have zu_13 := Nat.lt_of_lt_of_le zu_12 hb13.size
        have qp0_13 := (hb13.cell (p := ⟨w10.heap.size, 0, none⟩) zp_12).trans qp0_12
        have qp1_13 := (hb13.cell (p := ⟨w10.heap.size, 1, none⟩) zp_12).trans qp1_12
        have zp_13 := Nat.lt_of_lt_of_le zp_12 hb13.size
        have G_13 := Lib.hid (G_12.out.keep hb13)
        have X_13 := Lib.hid (X_12.out.keep hb13)
        have U_13 := Lib.hid (U_12.out.keep hb13)
        have P_13 := Lib.hid (P_12.out.keep hb13)
        have Q_13 := Lib.hid (Q_12.out.keep hb13)
        have qq0_13 : (w12.alloc (.cells #[.int .i64 N2, .slice aq L2.length cq] 25)).cell? ⟨w12.heap.size, 0, none⟩ = some (.int .i64 N2) := by go_simp
        have qq1_13 : (w12.alloc (.cells #[.int .i64 N2, .slice aq L2.length cq] 25)).cell? ⟨w12.heap.size, 1, none⟩ = some (.slice aq L2.length cq) := by go_simp
        have zq_13 : w12.heap.size < (w12.alloc (.cells #[.int .i64 N2, .slice aq L2.length cq] 25)).heap.size := by simp <;> omega
        generalize (w12.alloc (.cells #[.int .i64 N2, .slice aq L2.length cq] 25)) = w13 at hb13 H13 SZ13 G_13 P_13 Q_13 U_13 X_13 qe0_13 qe1_13 qe2_13 qf0_13 qf1_13 qf2_13 qg0_13 qg1_13 qh0_13 qh1_13 qp0_13 qp1_13 qq0_13 qq1_13 qu0_13 qu1_13 qx0_13 qx1_13 ze_13 zf_13 zg_13 zh_13 zp_13 zq_13 zu_13 zx_13 ⊢
        have ZBq := Lib.hid zq_13
        clear qg0_12 qg1_12 zg_12 qe0_12 qe1_12 qe2_12 ze_12 qh0_12 qh1_12 zh_12 qf0_12 qf1_12 qf2_12 zf_12 qx0_12 qx1_12 zx_12 qu0_12 qu1_12 zu_12 qp0_12 qp1_12 zp_12 G_12 X_12 U_12 P_12 Q_12
        cases b1
        · go_wp2_with fail
          refine (HCC.out _ _ Q_13.out.edges HOKq.out).mono ?_
          rintro e w14 ⟨vr, rfl, howr, hokr, hb14⟩
          have H14 := bel_trans H13 hb14
          have SZ14 := Lib.hid hb14.size
          have qg0_14 := (hb14.cell (p := ⟨w1.heap.size, 0, none⟩) zg_13).trans qg0_13
          have qg1_14 := (hb14.cell (p := ⟨w1.heap.size, 1, none⟩) zg_13).trans qg1_13
          have zg_14 := Nat.lt_of_lt_of_le zg_13 hb14.size
          have qe0_14 := (hb14.cell (p := ⟨w1.heap.size + 1, 0, none⟩) ze_13).trans qe0_13
          have qe1_14 := (hb14.cell (p := ⟨w1.heap.size + 1, 1, none⟩) ze_13).trans qe1_13
          have qe2_14 := (hb14.cell (p := ⟨w1.heap.size + 1, 2, none⟩) ze_13).trans qe2_13
          have ze_14 := Nat.lt_of_lt_of_le ze_13 hb14.size
          have qh0_14 := (hb14.cell (p := ⟨w3.heap.size, 0, none⟩) zh_13).trans qh0_13
          have qh1_14 := (hb14.cell (p := ⟨w3.heap.size, 1, none⟩) zh_13).trans qh1_13
          have zh_14 := Nat.lt_of_lt_of_le zh_13 hb14.size
          have qf0_14 := (hb14.cell (p := ⟨w3.heap.size + 1, 0, none⟩) zf_13).trans qf0_13
          have qf1_14 := (hb14.cell (p := ⟨w3.heap.size + 1, 1, none⟩) zf_13).trans qf1_13
          have qf2_14 := (hb14.cell (p := ⟨w3.heap.size + 1, 2, none⟩) zf_13).trans qf2_13
          have zf_14 := Nat.lt_of_lt_of_le zf_13 hb14.size
          have qx0_14 := (hb14.cell (p := ⟨w5.heap.size, 0, none⟩) zx_13).trans qx0_13
          have qx1_14 := (hb14.cell (p := ⟨w5.heap.size, 1, none⟩) zx_13).trans qx1_13
          have zx_14 := Nat.lt_of_lt_of_le zx_13 hb14.size
          have qu0_14 := (hb14.cell (p := ⟨w7.heap.size, 0, none⟩) zu_13).trans qu0_13
          have qu1_14 := (hb14.cell (p := ⟨w7.heap.size, 1, none⟩) zu_13).trans qu1_13
          have zu_14 := Nat.lt_of_lt_of_le zu_13 hb14.size
          have qp0_14 := (hb14.cell (p := ⟨w10.heap.size, 0, none⟩) zp_13).trans qp0_13
          have qp1_14 := (hb14.cell (p := ⟨w10.heap.size, 1, none⟩) zp_13).trans qp1_13
          have zp_14 := Nat.lt_of_lt_of_le zp_13 hb14.size
          have qq0_14 := (hb14.cell (p := ⟨w12.heap.size, 0, none⟩) zq_13).trans qq0_13
          have qq1_14 := (hb14.cell (p := ⟨w12.heap.size, 1, none⟩) zq_13).trans qq1_13
          have zq_14 := Nat.lt_of_lt_of_le zq_13 hb14.size
          have G_14 := Lib.hid (G_13.out.keep hb14)
          have X_14 := Lib.hid (X_13.out.keep hb14)
          have U_14 := Lib.hid (U_13.out.keep hb14)
          have P_14 := Lib.hid (P_13.out.keep hb14)
          have Q_14 := Lib.hid (Q_13.out.keep hb14)
          obtain ⟨ar, cr, rfl, hz9⟩ := id howr
          clear hz9 hokr howr
          clear zx_13 qp1_13 qe0_13 qf0_13 qf2_13 zh_13 qe2_13 qx1_13 zq_13 ze_13 qu1_13 zg_13 zu_13 zp_13 qq1_13 Q_13 qq0_13 P_13 qx0_13 G_13 X_13 qp0_13 qh0_13 qg1_13 zf_13 qh1_13 qe1_13 qu0_13 qg0_13 U_13 qf1_13
          go_wp2
          go_ret
          exact ⟨rfl, (H14).alloc (H14).size _⟩
        cases b2
        · go_wp2_with fail
          refine (HCC.out _ _ Q_13.out.edges HOKq.out).mono ?_
          rintro e w14 ⟨vr, rfl, howr, hokr, hb14⟩
          have H14 := bel_trans H13 hb14
          have SZ14 := Lib.hid hb14.size
          have qg0_14 := (hb14.cell (p := ⟨w1.heap.size, 0, none⟩) zg_13).trans qg0_13
          have qg1_14 := (hb14.cell (p := ⟨w1.heap.size, 1, none⟩) zg_13).trans qg1_13
          have zg_14 := Nat.lt_of_lt_of_le zg_13 hb14.size
          have qe0_14 := (hb14.cell (p := ⟨w1.heap.size + 1, 0, none⟩) ze_13).trans qe0_13
          have qe1_14 := (hb14.cell (p := ⟨w1.heap.size + 1, 1, none⟩) ze_13).trans qe1_13
          have qe2_14 := (hb14.cell (p := ⟨w1.heap.size + 1, 2, none⟩) ze_13).trans qe2_13
          have ze_14 := Nat.lt_of_lt_of_le ze_13 hb14.size
          have qh0_14 := (hb14.cell (p := ⟨w3.heap.size, 0, none⟩) zh_13).trans qh0_13
          have qh1_14 := (hb14.cell (p := ⟨w3.heap.size, 1, none⟩) zh_13).trans qh1_13
          have zh_14 := Nat.lt_of_lt_of_le zh_13 hb14.size
          have qf0_14 := (hb14.cell (p := ⟨w3.heap.size + 1, 0, none⟩) zf_13).trans qf0_13
          have qf1_14 := (hb14.cell (p := ⟨w3.heap.size + 1, 1, none⟩) zf_13).trans qf1_13
          have qf2_14 := (hb14.cell (p := ⟨w3.heap.size + 1, 2, none⟩) zf_13).trans qf2_13
          have zf_14 := Nat.lt_of_lt_of_le zf_13 hb14.size
          have qx0_14 := (hb14.cell (p := ⟨w5.heap.size, 0, none⟩) zx_13).trans qx0_13
          have qx1_14 := (hb14.cell (p := ⟨w5.heap.size, 1, none⟩) zx_13).trans qx1_13
          have zx_14 := Nat.lt_of_lt_of_le zx_13 hb14.size
          have qu0_14 := (hb14.cell (p := ⟨w7.heap.size, 0, none⟩) zu_13).trans qu0_13
          have qu1_14 := (hb14.cell (p := ⟨w7.heap.size, 1, none⟩) zu_13).trans qu1_13
          have zu_14 := Nat.lt_of_lt_of_le zu_13 hb14.size
          have qp0_14 := (hb14.cell (p := ⟨w10.heap.size, 0, none⟩) zp_13).trans qp0_13
          have qp1_14 := (hb14.cell (p := ⟨w10.heap.size, 1, none⟩) zp_13).trans qp1_13
          have zp_14 := Nat.lt_of_lt_of_le zp_13 hb14.size
          have qq0_14 := (hb14.cell (p := ⟨w12.heap.size, 0, none⟩) zq_13).trans qq0_13
          have qq1_14 := (hb14.cell (p := ⟨w12.heap.size, 1, none⟩) zq_13).trans qq1_13
          have zq_14 := Nat.lt_of_lt_of_le zq_13 hb14.size
          have G_14 := Lib.hid (G_13.out.keep hb14)
          have X_14 := Lib.hid (X_13.out.keep hb14)
          have U_14 := Lib.hid (U_13.out.keep hb14)
          have P_14 := Lib.hid (P_13.out.keep hb14)
          have Q_14 := Lib.hid (Q_13.out.keep hb14)
          obtain ⟨ar, cr, rfl, hz9⟩ := id howr
          clear hz9 hokr howr
          clear zx_13 qp1_13 qe0_13 qf0_13 qf2_13 zh_13 qe2_13 qx1_13 zq_13 ze_13 qu1_13 zg_13 zu_13 zp_13 qq1_13 Q_13 qq0_13 P_13 qx0_13 G_13 X_13 qp0_13 qh0_13 qg1_13 zf_13 qh1_13 qe1_13 qu0_13 qg0_13 U_13 qf1_13
          go_wp2
          go_ret
          exact ⟨rfl, (H14).alloc (H14).size _⟩
        obtain ⟨rfl, rfl, rfl⟩ := HFIN.out rfl rfl
        go_wp2_with fail
        refine (HCC.out _ _ Q_13.out.edges HOKq.out).mono ?_
        rintro e w14 ⟨vr, rfl, howr, hokr, hb14⟩
        have H14 := bel_trans H13 hb14
        have SZ14 := Lib.hid hb14.size
        have qg0_14 := (hb14.cell (p := ⟨w1.heap.size, 0, none⟩) zg_13).trans qg0_13
        have qg1_14 := (hb14.cell (p := ⟨w1.heap.size, 1, none⟩) zg_13).trans qg1_13
        have zg_14 := Nat.lt_of_lt_of_le zg_13 hb14.size
        have qe0_14 := (hb14.cell (p := ⟨w1.heap.size + 1, 0, none⟩) ze_13).trans qe0_13
        have qe1_14 := (hb14.cell (p := ⟨w1.heap.size + 1, 1, none⟩) ze_13).trans qe1_13
        have qe2_14 := (hb14.cell (p := ⟨w1.heap.size + 1, 2, none⟩) ze_13).trans qe2_13
        have ze_14 := Nat.lt_of_lt_of_le ze_13 hb14.size
        have qh0_14 := (hb14.cell (p := ⟨w3.heap.size, 0, none⟩) zh_13).trans qh0_13
        have qh1_14 := (hb14.cell (p := ⟨w3.heap.size, 1, none⟩) zh_13).trans qh1_13
        have zh_14 := Nat.lt_of_lt_of_le zh_13 hb14.size
        have qf0_14 := (hb14.cell (p := ⟨w3.heap.size + 1, 0, none⟩) zf_13).trans qf0_13
        have qf1_14 := (hb14.cell (p := ⟨w3.heap.size + 1, 1, none⟩) zf_13).trans qf1_13
        have qf2_14 := (hb14.cell (p := ⟨w3.heap.size + 1, 2, none⟩) zf_13).trans qf2_13
        have zf_14 := Nat.lt_of_lt_of_le zf_13 hb14.size
        have qx0_14 := (hb14.cell (p := ⟨w5.heap.size, 0, none⟩) zx_13).trans qx0_13
        have qx1_14 := (hb14.cell (p := ⟨w5.heap.size, 1, none⟩) zx_13).trans qx1_13
        have zx_14 := Nat.lt_of_lt_of_le zx_13 hb14.size
        have qu0_14 := (hb14.cell (p := ⟨w7.heap.size, 0, none⟩) zu_13).trans qu0_13
        have qu1_14 := (hb14.cell (p := ⟨w7.heap.size, 1, none⟩) zu_13).trans qu1_13
        have zu_14 := Nat.lt_of_lt_of_le zu_13 hb14.size
        have qp0_14 := (hb14.cell (p := ⟨w10.heap.size, 0, none⟩) zp_13).trans qp0_13
        have qp1_14 := (hb14.cell (p := ⟨w10.heap.size, 1, none⟩) zp_13).trans qp1_13
        have zp_14 := Nat.lt_of_lt_of_le zp_13 hb14.size
        have qq0_14 := (hb14.cell (p := ⟨w12.heap.size, 0, none⟩) zq_13).trans qq0_13
        have qq1_14 := (hb14.cell (p := ⟨w12.heap.size, 1, none⟩) zq_13).trans qq1_13
        have zq_14 := Nat.lt_of_lt_of_le zq_13 hb14.size
        have G_14 := Lib.hid (G_13.out.keep hb14)
        have X_14 := Lib.hid (X_13.out.keep hb14)
        have U_14 := Lib.hid (U_13.out.keep hb14)
        have P_14 := Lib.hid (P_13.out.keep hb14)
        have Q_14 := Lib.hid (Q_13.out.keep hb14)
        obtain ⟨ar, cr, rfl, hz9⟩ := id howr
        have HOKr := Lib.hid hokr
        clear hz9 hokr
        have R_14 := Lib.hid (show InR true w14 w13.heap.size w14.heap.size _ L1.length 3 (cellE L1) from howr)
        clear qg0_13 qg1_13 zg_13 qe0_13 qe1_13 qe2_13 ze_13 qh0_13 qh1_13 zh_13 qf0_13 qf1_13 qf2_13 zf_13 qx0_13 qx1_13 zx_13 qu0_13 qu1_13 zu_13 qp0_13 qp1_13 zp_13 G_13 X_13 U_13 P_13 Q_13 qq0_13 qq1_13 zq_13
        clear howr
        go_wp2_with fail
        have hb15 : Below w14.heap.size w14 (w14.alloc (.cells #[.int .i64 N1, .slice ar L1.length cr] 25)) := (Below.refl _ _).alloc (by simp <;> omega) _
        have H15 := bel_trans H14 hb15
        have SZ15 := Lib.hid hb15.size
        have qg0_15 := (hb15.cell (p := ⟨w1.heap.size, 0, none⟩) zg_14).trans qg0_14
        have qg1_15 := (hb15.cell (p := ⟨w1.heap.size, 1, none⟩) zg_14).trans qg1_14
        have zg_15 := Nat.lt_of_lt_of_le zg_14 hb15.size
        have qe0_15 := (hb15.cell (p := ⟨w1.heap.size + 1, 0, none⟩) ze_14).trans qe0_14
        have qe1_15 := (hb15.cell (p := ⟨w1.heap.size + 1, 1, none⟩) ze_14).trans qe1_14
        have qe2_15 := (hb15.cell (p := ⟨w1.heap.size + 1, 2, none⟩) ze_14).trans qe2_14
        have ze_15 := Nat.lt_of_lt_of_le ze_14 hb15.size
        have qh0_15 := (hb15.cell (p := ⟨w3.heap.size, 0, none⟩) zh_14).trans qh0_14
        have qh1_15 := (hb15.cell (p := ⟨w3.heap.size, 1, none⟩) zh_14).trans qh1_14
        have zh_15 := Nat.lt_of_lt_of_le zh_14 hb15.size
        have qf0_15 := (hb15.cell (p := ⟨w3.heap.size + 1, 0, none⟩) zf_14).trans qf0_14
        have qf1_15 := (hb15.cell (p := ⟨w3.heap.size + 1, 1, none⟩) zf_14).trans qf1_14
        have qf2_15 := (hb15.cell (p := ⟨w3.heap.size + 1, 2, none⟩) zf_14).trans qf2_14
        have zf_15 := Nat.lt_of_lt_of_le zf_14 hb15.size
        have qx0_15 := (hb15.cell (p := ⟨w5.heap.size, 0, none⟩) zx_14).trans qx0_14
        have qx1_15 := (hb15.cell (p := ⟨w5.heap.size, 1, none⟩) zx_14).trans qx1_14
        have zx_15 := Nat.lt_of_lt_of_le zx_14 hb15.size
        have qu0_15 := (hb15.cell (p := ⟨w7.heap.size, 0, none⟩) zu_14).trans qu0_14
        have qu1_15 := (hb15.cell (p := ⟨w7.heap.size, 1, none⟩) zu_14).trans qu1_14
        have zu_15 := Nat.lt_of_lt_of_le zu_14 hb15.size
        have qp0_15 := (hb15.cell (p := ⟨w10.heap.size, 0, none⟩) zp_14).trans qp0_14
        have qp1_15 := (hb15.cell (p := ⟨w10.heap.size, 1, none⟩) zp_14).trans qp1_14
        have zp_15 := Nat.lt_of_lt_of_le zp_14 hb15.size
        have qq0_15 := (hb15.cell (p := ⟨w12.heap.size, 0, none⟩) zq_14).trans qq0_14
        have qq1_15 := (hb15.cell (p := ⟨w12.heap.size, 1, none⟩) zq_14).trans qq1_14
        have zq_15 := Nat.lt_of_lt_of_le zq_14 hb15.size
        have G_15 := Lib.hid (G_14.out.keep hb15)
        have X_15 := Lib.hid (X_14.out.keep hb15)
        have U_15 := Lib.hid (U_14.out.keep hb15)
        have P_15 := Lib.hid (P_14.out.keep hb15)
        have Q_15 := Lib.hid (Q_14.out.keep hb15)
        have R_15 := Lib.hid (R_14.out.keep hb15)
        have qr0_15 : (w14.alloc (.cells #[.int .i64 N1, .slice ar L1.length cr] 25)).cell? ⟨w14.heap.size, 0, none⟩ = some (.int .i64 N1) := by go_simp
        have qr1_15 : (w14.alloc (.cells #[.int .i64 N1, .slice ar L1.length cr] 25)).cell? ⟨w14.heap.size, 1, none⟩ = some (.slice ar L1.length cr) := by go_simp
        have zr_15 : w14.heap.size < (w14.alloc (.cells #[.int .i64 N1, .slice ar L1.length cr] 25)).heap.size := by simp <;> omega
        generalize (w14.alloc (.cells #[.int .i64 N1, .slice ar L1.length cr] 25)) = w15 at hb15 H15 SZ15 G_15 P_15 Q_15 R_15 U_15 X_15 qe0_15 qe1_15 qe2_15 qf0_15 qf1_15 qf2_15 qg0_15 qg1_15 qh0_15 qh1_15 qp0_15 qp1_15 qq0_15 qq1_15 qr0_15 qr1_15 qu0_15 qu1_15 qx0_15 qx1_15 ze_15 zf_15 zg_15 zh_15 zp_15 zq_15 zr_15 zu_15 zx_15 ⊢
        have ZBr := Lib.hid zr_15
        clear qg0_14 qg1_14 zg_14 qe0_14 qe1_14 qe2_14 ze_14 qh0_14 qh1_14 zh_14 qf0_14 qf1_14 qf2_14 zf_14 qx0_14 qx1_14 zx_14 qu0_14 qu1_14 zu_14 qp0_14 qp1_14 zp_14 qq0_14 qq1_14 zq_14 G_14 X_14 U_14 P_14 Q_14 R_14
        go_wp2_with fail
        refine (graphSame N1 N1 L1 L1 _ _ _ P_15.out.edges R_15.out.edges (by omega) (by omega)).mono ?_
        rintro e w16 ⟨hS, hb16⟩
        have H16 := bel_trans H15 hb16
        have SZ16 := Lib.hid hb16.size
        have qg0_16 := (hb16.cell (p := ⟨w1.heap.size, 0, none⟩) zg_15).trans qg0_15
        have qg1_16 := (hb16.cell (p := ⟨w1.heap.size, 1, none⟩) zg_15).trans qg1_15
        have zg_16 := Nat.lt_of_lt_of_le zg_15 hb16.size
        have qe0_16 := (hb16.cell (p := ⟨w1.heap.size + 1, 0, none⟩) ze_15).trans qe0_15
        have qe1_16 := (hb16.cell (p := ⟨w1.heap.size + 1, 1, none⟩) ze_15).trans qe1_15
        have qe2_16 := (hb16.cell (p := ⟨w1.heap.size + 1, 2, none⟩) ze_15).trans qe2_15
        have ze_16 := Nat.lt_of_lt_of_le ze_15 hb16.size
        have qh0_16 := (hb16.cell (p := ⟨w3.heap.size, 0, none⟩) zh_15).trans qh0_15
        have qh1_16 := (hb16.cell (p := ⟨w3.heap.size, 1, none⟩) zh_15).trans qh1_15
        have zh_16 := Nat.lt_of_lt_of_le zh_15 hb16.size
        have qf0_16 := (hb16.cell (p := ⟨w3.heap.size + 1, 0, none⟩) zf_15).trans qf0_15
        have qf1_16 := (hb16.cell (p := ⟨w3.heap.size + 1, 1, none⟩) zf_15).trans qf1_15
        have qf2_16 := (hb16.cell (p := ⟨w3.heap.size + 1, 2, none⟩) zf_15).trans qf2_15
        have zf_16 := Nat.lt_of_lt_of_le zf_15 hb16.size
        have qx0_16 := (hb16.cell (p := ⟨w5.heap.size, 0, none⟩) zx_15).trans qx0_15
        have qx1_16 := (hb16.cell (p := ⟨w5.heap.size, 1, none⟩) zx_15).trans qx1_15
        have zx_16 := Nat.lt_of_lt_of_le zx_15 hb16.size
        have qu0_16 := (hb16.cell (p := ⟨w7.heap.size, 0, none⟩) zu_15).trans qu0_15
        have qu1_16 := (hb16.cell (p := ⟨w7.heap.size, 1, none⟩) zu_15).trans qu1_15
        have zu_16 := Nat.lt_of_lt_of_le zu_15 hb16.size
        have qp0_16 := (hb16.cell (p := ⟨w10.heap.size, 0, none⟩) zp_15).trans qp0_15
        have qp1_16 := (hb16.cell (p := ⟨w10.heap.size, 1, none⟩) zp_15).trans qp1_15
        have zp_16 := Nat.lt_of_lt_of_le zp_15 hb16.size
        have qq0_16 := (hb16.cell (p := ⟨w12.heap.size, 0, none⟩) zq_15).trans qq0_15
        have qq1_16 := (hb16.cell (p := ⟨w12.heap.size, 1, none⟩) zq_15).trans qq1_15
        have zq_16 := Nat.lt_of_lt_of_le zq_15 hb16.size
        have qr0_16 := (hb16.cell (p := ⟨w14.heap.size, 0, none⟩) zr_15).trans qr0_15
        have qr1_16 := (hb16.cell (p := ⟨w14.heap.size, 1, none⟩) zr_15).trans qr1_15
        have zr_16 := Nat.lt_of_lt_of_le zr_15 hb16.size
        have G_16 := Lib.hid (G_15.out.keep hb16)
        have X_16 := Lib.hid (X_15.out.keep hb16)
        have U_16 := Lib.hid (U_15.out.keep hb16)
        have P_16 := Lib.hid (P_15.out.keep hb16)
        have Q_16 := Lib.hid (Q_15.out.keep hb16)
        have R_16 := Lib.hid (R_15.out.keep hb16)
        rw [gSame_self] at hS
        subst hS
        clear qg0_15 qg1_15 zg_15 qe0_15 qe1_15 qe2_15 ze_15 qh0_15 qh1_15 zh_15 qf0_15 qf1_15 qf2_15 zf_15 qx0_15 qx1_15 zx_15 qu0_15 qu1_15 zu_15 qp0_15 qp1_15 zp_15 qq0_15 qq1_15 zq_15 G_15 X_15 U_15 P_15 Q_15 R_15 qr0_15 qr1_15 zr_15
        go_wp2
        go_ret
        exact ⟨rfl, H16⟩

set_option maxRecDepth 100000 in
theorem lifted (os : Os) (started : os.Started) (H : Type) (enc : TypeId × Value → H) :
    ReturnsInHanded {} Try.checked os 5 .any (Rows.fnPutOrderSpec.pre6 enc Try.prog Try.f5 Rows.fnPutOrderRow.domain false) (Rows.fnPutOrderSpec.post enc Try.prog Try.f5 false true false false) := by
  refine returnsInHanded_of_change (C := Try.checked) own started (by kernel_rfl) Try.func5
    (ChangeSpec.witness6 (enc := enc) (C := Try.checked) false ⟨#[], #[.slice none 0 0, .slice none 0 0], []⟩ 8 (by kernel_rfl) (by kernel_rfl) (by kernel_rfl) (by kernel_rfl)) ?_
  intro W base args ds gs before hval0 hW hcnd _
  have hval : ∀ (j : Nat) t v, Try.f5.params[j]? = some t → args[j]? = some v → Value.okWide Try.prog W .any base t v := hval0
  have hW' := hW
  obtain ⟨p, q, hA0, hV, rfl, hfz, hnd⟩ := hW
  have hA : DataW.TrodAll enc Try.prog W 0 (fun _ => true) true Try.f5.params.toList args.toList ds p := hA0
  rw [Try.params5] at hA hval
  obtain ⟨v0, vs0, d0, ds0, p0, q0, hargs, rfl, rfl, h0, r0⟩ := trodAll_cons hA
  obtain ⟨v1, vs1, d1, ds1, p1, q1, rfl, rfl, rfl, h1, r1⟩ := trodAll_cons r0
  obtain ⟨rfl, rfl, rfl⟩ := trodAll_nil r1
  obtain rfl : args = #[v0, v1] := by cases args; simp_all
  obtain ⟨rfl, rfl⟩ := trodVars_none hV
  obtain ⟨a0, len0, cap0, rfl⟩ := okWide_slice Try.underlying22 (hval 0 22 v0 rfl rfl)
  have k0 := h0
  have lt0 : ∀ x ∈ p0, x.block < W.heap.size := by obtain ⟨m, hm⟩ := k0; exact DataW.trod_lt m _ _ _ hm
  obtain ⟨z0, w0⟩ : ∃ zs, IsRow .u8 W a0 len0 cap0 zs := by
    obtain ⟨fuel, hf⟩ := h0
    rcases open_ints Try.underlying22 Try.underlying5 (by kernel_rfl) hf with ⟨hcs, _⟩ | ⟨x, l, c, zs, hcs, _, hl, hm, hz, _, hcell, hwz⟩
    · simp [Value.cells] at hcs
      obtain ⟨rfl, rfl, rfl⟩ := hcs
      exact ⟨[], .inl ⟨rfl, rfl, rfl, rfl⟩⟩
    · simp [Value.cells] at hcs
      obtain ⟨rfl, rfl, rfl⟩ := hcs
      exact ⟨zs, .inr ⟨_, rfl, hl, hm, by simpa using hz, hcell, hwz⟩⟩
  obtain ⟨a1, len1, cap1, rfl⟩ := okWide_slice Try.underlying22 (hval 1 22 v1 rfl rfl)
  have k1 := h1
  have lt1 : ∀ x ∈ p1, x.block < W.heap.size := by obtain ⟨m, hm⟩ := k1; exact DataW.trod_lt m _ _ _ hm
  obtain ⟨z1, w1⟩ : ∃ zs, IsRow .u8 W a1 len1 cap1 zs := by
    obtain ⟨fuel, hf⟩ := h1
    rcases open_ints Try.underlying22 Try.underlying5 (by kernel_rfl) hf with ⟨hcs, _⟩ | ⟨x, l, c, zs, hcs, _, hl, hm, hz, _, hcell, hwz⟩
    · simp [Value.cells] at hcs
      obtain ⟨rfl, rfl, rfl⟩ := hcs
      exact ⟨[], .inl ⟨rfl, rfl, rfl, rfl⟩⟩
    · simp [Value.cells] at hcs
      obtain ⟨rfl, rfl, rfl⟩ := hcs
      exact ⟨zs, .inr ⟨_, rfl, hl, hm, by simpa using hz, hcell, hwz⟩⟩
  clear hA0 hval0
  refine (walk a0 len0 cap0 z0 a1 len1 cap1 z1 W w0 w1).mono fun e W' ⟨he, bel⟩ => ?_
  subst he
  exact ⟨_, rfl, _, _, _, [], _, [], hW', trodAll_mk1 (shut_bool Try.underlying4 _), (trodAll_cons_mk (Below.trod laidOut (by kernel_rfl) (of_decide_eq_true (by kernel_rfl)) k0 bel lt0) (trodAll_cons_mk (Below.trod laidOut (by kernel_rfl) (of_decide_eq_true (by kernel_rfl)) k1 bel lt1) trodAll_mk0)), rfl, bel.frame _, fun h => by cases h⟩

theorem over : Rows.fnPutOrderRow.holds Try.pinned (OpenSpec.ofChange Rows.fnPutOrderSpec) :=
  OpenClaim.holds_of_wide 5 Try.f5 rfl rfl rfl rfl rfl rfl rfl ⟨rfl, rfl, rfl, rfl, rfl⟩ rfl rfl rfl rfl rfl (by kernel_rfl) Try.func5 (by kernel_rfl)
    (of_decide_eq_true (by kernel_rfl)) (by unfold Func.isWrapper; first | (rw [if_pos (by decide +kernel)]; kernel_rfl) | (rw [if_neg (by decide +kernel)]; exact ⟨rfl, rfl⟩))
    (fun os started H enc _ => lifted os started H enc)

theorem proved : Rows.FnPutOrderSaid := over
end Go.Proofs.Ytfciilpcjahfoaa.fnPutOrder
