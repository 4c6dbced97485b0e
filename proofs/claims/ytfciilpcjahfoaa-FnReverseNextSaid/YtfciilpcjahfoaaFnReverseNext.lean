/-
  Proved: what is next along an edge has it next along the turned edge (the law FnReverseNext returns true for every input and leaves it as it was), with no further condition.
-/
import Derived.Test.YtfciilpcjahfoaaRows
import Derived.Test.YtfciilpcjahfoaaNextR
import Derived.Test.YtfciilpcjahfoaaRevS
import Derived.Test.YtfciilpcjahfoaaSame
import Derived.Test.YtfciilpcjahfoaaEdgeM
import Derived.Test.YtfciilpcjahfoaaNext
import Derived.WalkKit
import Derived.ProofKit
import Derived.OpenShut
import Derived.ShutString
import Derived.ChangeOld
import Derived.Below
namespace Go.Proofs.Ytfciilpcjahfoaa.fnReverseNext
open Go.Proofs.Ytfciilpcjahfoaa Go.BigFrame
open Go.ChangeShapes Go.WideShapes Go.ChangeAt Go.RowKit
open Go.ChangeMaps (open_string shut_string)
set_option linter.unusedVariables false

theorem own : ownKnob Try.prog.godebug = none := by kernel_rfl
theorem laidOut : laidOutB Try.prog = true := by kernel_rfl

def IsRow (k : IntKind) (w : World) (a : Option Addr) (len cap : Nat) (zs : List Int) : Prop :=
  (a = none ∧ len = 0 ∧ cap = 0 ∧ zs = []) ∨
  ∃ x, a = some x ∧ len ≤ cap ∧ cap ≤ maxLen ∧ zs.length = cap ∧ (∀ i, i < zs.length → w.cell? (x.add i) = some (.int k (zs.getD i 0))) ∧ ∀ n ∈ zs, (Lit.int k n).wf = true

theorem bytes_of {w : World} {a : Option Addr} {len cap : Nat} {zs : List Int} (h : IsRow .u8 w a len cap zs) : Bytes w a len ∧ len ≤ cap ∧ len ≤ 9223372036854775807 := by
  rcases h with ⟨rfl, rfl, rfl, rfl⟩ | ⟨x, rfl, hl, hm, hz, hc, hw⟩
  · exact ⟨.inl rfl, Nat.le_refl _, by omega⟩
  · unfold maxLen at hm
    refine ⟨?_, hl, by omega⟩
    by_cases h0 : len = 0
    · exact .inl h0
    · obtain ⟨b, off, rfl, hc'⟩ := ints_at hc (by omega)
      exact .inr ⟨b, off, rfl, World.block_lt_of_cell? _ _ (hc' 0 (by omega)), fun i hi => ⟨zs[i]?.getD 0, (range_u8 hw i).1, (range_u8 hw i).2, hc' i (by omega)⟩⟩

set_option maxRecDepth 100000 in
set_option maxHeartbeats 4000000 in
theorem walk (a0 : Option Addr) (len0 cap0 : Nat) (z0 : List Int) (w : World) (w0 : IsRow .u8 w a0 len0 cap0 z0) :
    Calls Try.prog 6 #[.slice a0 len0 cap0] w fun e w' => e = .returned (.bool true) ∧ Below w.heap.size w w' := by
  obtain ⟨hby, hcp, hn⟩ := bytes_of w0
  have HB0 := Lib.hid hby
  clear hby w0
  by_cases h0 : 1048576 < len0
  · go_enter Try.func6, Try.ntmps6
    go_wp2
    go_ret
    exact ⟨rfl, Below.refl _ _⟩
  have h0' : len0 ≤ 1048576 := by omega
  clear h0
  obtain ⟨w0, hw0⟩ : ∃ w0, w0 = w := ⟨_, rfl⟩
  subst hw0
  have H0 := Below.refl w0.heap.size w0
  go_enter Try.func6, Try.ntmps6
  go_wp2_with fail
  refine (dDrawReverseGraph a0 len0 cap0 _ HB0.out hcp (by omega)).mono ?_
  rintro e w1 ⟨n, es, v, rfl, hle, hrow, hok, hb1⟩
  have H1 := bel_trans H0 hb1
  have SZ1 := Lib.hid hb1.size
  obtain ⟨va, vc, rfl, hz9⟩ := id hrow
  have HOKG := Lib.hid hok
  clear hz9 hok
  have G_1 := Lib.hid (hrow)
  clear hrow
  go_wp2_with fail
  have hb2 : Below w1.heap.size w1 (w1.alloc (.cells #[.int .i64 n, .slice va es.length vc] 25)) := (Below.refl _ _).alloc (by simp <;> omega) _
  have H2 := bel_trans H1 hb2
  have SZ2 := Lib.hid hb2.size
  have G_2 := Lib.hid (G_1.out.keep hb2)
  have qg0_2 : (w1.alloc (.cells #[.int .i64 n, .slice va es.length vc] 25)).cell? ⟨w1.heap.size, 0, none⟩ = some (.int .i64 n) := by go_simp
  have qg1_2 : (w1.alloc (.cells #[.int .i64 n, .slice va es.length vc] 25)).cell? ⟨w1.heap.size, 1, none⟩ = some (.slice va es.length vc) := by go_simp
  have zg_2 : w1.heap.size < (w1.alloc (.cells #[.int .i64 n, .slice va es.length vc] 25)).heap.size := by simp <;> omega
  generalize (w1.alloc (.cells #[.int .i64 n, .slice va es.length vc] 25)) = w2 at hb2 H2 SZ2 G_2 qg0_2 qg1_2 zg_2 ⊢
  have ZBg := Lib.hid zg_2
  clear G_1
  have hle2 : es.length ≤ 1048576 := by omega
  have hle3 : es.length ≤ 281474976710656 := by omega
  have hst := fun s w (h : RowE w s es) => reverseGraph n es s w h hle2
  have hss := fun s w (h : RowE w s es) => sReverseGraph n es s w h hle2
  cases hk : gVal n es
  · rw [show rgN n es = 0 by unfold rgN; rw [hk]; rfl, show rgL n es = [] by unfold rgL; rw [hk]; rfl, hk] at hst hss
    have HST := Lib.hid hst
    have HSS := Lib.hid hss
    clear hst hss hk
    have hen : ([] : List Ed).length ≤ 1048576 := by simp
    go_wp2_with fail
    refine (HST.out _ _ G_2.out.edges).mono ?_
    rintro e w3 ⟨vx, rfl, howx, hokx, hb3⟩
    have H3 := bel_trans H2 hb3
    have SZ3 := Lib.hid hb3.size
    have qg0_3 := (hb3.cell (p := ⟨w1.heap.size, 0, none⟩) zg_2).trans qg0_2
    have qg1_3 := (hb3.cell (p := ⟨w1.heap.size, 1, none⟩) zg_2).trans qg1_2
    have zg_3 := Nat.lt_of_lt_of_le zg_2 hb3.size
    have G_3 := Lib.hid (G_2.out.keep hb3)
    obtain ⟨ax, cx, rfl, hz9⟩ := id howx
    have HOKx := Lib.hid hokx
    clear hz9 hokx
    have X_3 := Lib.hid (show InR true w3 w2.heap.size w3.heap.size _ ([] : List Ed).length 3 (cellE ([] : List Ed)) from howx)
    clear G_2 zg_2 qg0_2 qg1_2
    clear howx
    go_wp2_with fail
    have hb4 : Below w3.heap.size w3 (w3.alloc (.cells #[.int .i64 0, .slice ax ([] : List Ed).length cx] 25)) := (Below.refl _ _).alloc (by simp <;> omega) _
    have H4 := bel_trans H3 hb4
    have SZ4 := Lib.hid hb4.size
    have qg0_4 := (hb4.cell (p := ⟨w1.heap.size, 0, none⟩) zg_3).trans qg0_3
    have qg1_4 := (hb4.cell (p := ⟨w1.heap.size, 1, none⟩) zg_3).trans qg1_3
    have zg_4 := Nat.lt_of_lt_of_le zg_3 hb4.size
    have G_4 := Lib.hid (G_3.out.keep hb4)
    have X_4 := Lib.hid (X_3.out.keep hb4)
    have qx0_4 : (w3.alloc (.cells #[.int .i64 0, .slice ax ([] : List Ed).length cx] 25)).cell? ⟨w3.heap.size, 0, none⟩ = some (.int .i64 0) := by go_simp
    have qx1_4 : (w3.alloc (.cells #[.int .i64 0, .slice ax ([] : List Ed).length cx] 25)).cell? ⟨w3.heap.size, 1, none⟩ = some (.slice ax ([] : List Ed).length cx) := by go_simp
    have zx_4 : w3.heap.size < (w3.alloc (.cells #[.int .i64 0, .slice ax ([] : List Ed).length cx] 25)).heap.size := by simp <;> omega
    generalize (w3.alloc (.cells #[.int .i64 0, .slice ax ([] : List Ed).length cx] 25)) = w4 at hb4 H4 SZ4 G_4 X_4 qg0_4 qg1_4 qx0_4 qx1_4 zg_4 zx_4 ⊢
    have ZBx := Lib.hid zx_4
    clear qg0_3 qg1_3 zg_3 G_3 X_3
    go_wp2_with fail
    refine (HSS.out _ _ G_4.out.edges).mono ?_
    rintro e w5 ⟨vu, rfl, howu, hoku, hb5⟩
    have H5 := bel_trans H4 hb5
    have SZ5 := Lib.hid hb5.size
    have qg0_5 := (hb5.cell (p := ⟨w1.heap.size, 0, none⟩) zg_4).trans qg0_4
    have qg1_5 := (hb5.cell (p := ⟨w1.heap.size, 1, none⟩) zg_4).trans qg1_4
    have zg_5 := Nat.lt_of_lt_of_le zg_4 hb5.size
    have qx0_5 := (hb5.cell (p := ⟨w3.heap.size, 0, none⟩) zx_4).trans qx0_4
    have qx1_5 := (hb5.cell (p := ⟨w3.heap.size, 1, none⟩) zx_4).trans qx1_4
    have zx_5 := Nat.lt_of_lt_of_le zx_4 hb5.size
    have G_5 := Lib.hid (G_4.out.keep hb5)
    have X_5 := Lib.hid (X_4.out.keep hb5)
    obtain ⟨au, cu, rfl, hz9⟩ := id howu
    have HOKu := Lib.hid hoku
    clear hz9 hoku
    have U_5 := Lib.hid (show InR true w5 w4.heap.size w5.heap.size _ ([] : List Ed).length 3 (cellE ([] : List Ed)) from howu)
    clear qg0_4 qg1_4 zg_4 G_4 X_4 qx0_4 qx1_4 zx_4
    clear howu
    go_wp2_with fail
    have hb6 : Below w5.heap.size w5 (w5.alloc (.cells #[.int .i64 0, .slice au ([] : List Ed).length cu] 25)) := (Below.refl _ _).alloc (by simp <;> omega) _
    have H6 := bel_trans H5 hb6
    have SZ6 := Lib.hid hb6.size
    have qg0_6 := (hb6.cell (p := ⟨w1.heap.size, 0, none⟩) zg_5).trans qg0_5
    have qg1_6 := (hb6.cell (p := ⟨w1.heap.size, 1, none⟩) zg_5).trans qg1_5
    have zg_6 := Nat.lt_of_lt_of_le zg_5 hb6.size
    have qx0_6 := (hb6.cell (p := ⟨w3.heap.size, 0, none⟩) zx_5).trans qx0_5
    have qx1_6 := (hb6.cell (p := ⟨w3.heap.size, 1, none⟩) zx_5).trans qx1_5
    have zx_6 := Nat.lt_of_lt_of_le zx_5 hb6.size
    have G_6 := Lib.hid (G_5.out.keep hb6)
    have X_6 := Lib.hid (X_5.out.keep hb6)
    have U_6 := Lib.hid (U_5.out.keep hb6)
    have qu0_6 : (w5.alloc (.cells #[.int .i64 0, .slice au ([] : List Ed).length cu] 25)).cell? ⟨w5.heap.size, 0, none⟩ = some (.int .i64 0) := by go_simp
    have qu1_6 : (w5.alloc (.cells #[.int .i64 0, .slice au ([] : List Ed).length cu] 25)).cell? ⟨w5.heap.size, 1, none⟩ = some (.slice au ([] : List Ed).length cu) := by go_simp
    have zu_6 : w5.heap.size < (w5.alloc (.cells #[.int .i64 0, .slice au ([] : List Ed).length cu] 25)).heap.size := by simp <;> omega
    generalize (w5.alloc (.cells #[.int .i64 0, .slice au ([] : List Ed).length cu] 25)) = w6 at hb6 H6 SZ6 G_6 U_6 X_6 qg0_6 qg1_6 qu0_6 qu1_6 qx0_6 qx1_6 zg_6 zu_6 zx_6 ⊢
    have ZBu := Lib.hid zu_6
    clear qg0_5 qg1_5 zg_5 qx0_5 qx1_5 zx_5 G_5 X_5 U_5
    go_wp2_with fail
    refine (graphSame 0 0 ([] : List Ed) ([] : List Ed) _ _ _ X_6.out.edges U_6.out.edges (by omega) (by omega)).mono ?_
    rintro e w7 ⟨hS, hb7⟩
    have H7 := bel_trans H6 hb7
    have SZ7 := Lib.hid hb7.size
    have qg0_7 := (hb7.cell (p := ⟨w1.heap.size, 0, none⟩) zg_6).trans qg0_6
    have qg1_7 := (hb7.cell (p := ⟨w1.heap.size, 1, none⟩) zg_6).trans qg1_6
    have zg_7 := Nat.lt_of_lt_of_le zg_6 hb7.size
    have qx0_7 := (hb7.cell (p := ⟨w3.heap.size, 0, none⟩) zx_6).trans qx0_6
    have qx1_7 := (hb7.cell (p := ⟨w3.heap.size, 1, none⟩) zx_6).trans qx1_6
    have zx_7 := Nat.lt_of_lt_of_le zx_6 hb7.size
    have qu0_7 := (hb7.cell (p := ⟨w5.heap.size, 0, none⟩) zu_6).trans qu0_6
    have qu1_7 := (hb7.cell (p := ⟨w5.heap.size, 1, none⟩) zu_6).trans qu1_6
    have zu_7 := Nat.lt_of_lt_of_le zu_6 hb7.size
    have G_7 := Lib.hid (G_6.out.keep hb7)
    have X_7 := Lib.hid (X_6.out.keep hb7)
    have U_7 := Lib.hid (U_6.out.keep hb7)
    rw [gSame_self] at hS
    subst hS
    clear qg0_6 qg1_6 zg_6 qx0_6 qx1_6 zx_6 G_6 X_6 U_6 qu0_6 qu1_6 zu_6
    go_wp2_with fail
    refine (graphSame 0 0 ([] : List Ed) ([] : List Ed) _ _ _ X_7.out.edges U_7.out.edges (by omega) (by omega)).mono ?_
    rintro e w8 ⟨hS, hb8⟩
    have H8 := bel_trans H7 hb8
    have SZ8 := Lib.hid hb8.size
    have qg0_8 := (hb8.cell (p := ⟨w1.heap.size, 0, none⟩) zg_7).trans qg0_7
    have qg1_8 := (hb8.cell (p := ⟨w1.heap.size, 1, none⟩) zg_7).trans qg1_7
    have zg_8 := Nat.lt_of_lt_of_le zg_7 hb8.size
    have qx0_8 := (hb8.cell (p := ⟨w3.heap.size, 0, none⟩) zx_7).trans qx0_7
    have qx1_8 := (hb8.cell (p := ⟨w3.heap.size, 1, none⟩) zx_7).trans qx1_7
    have zx_8 := Nat.lt_of_lt_of_le zx_7 hb8.size
    have qu0_8 := (hb8.cell (p := ⟨w5.heap.size, 0, none⟩) zu_7).trans qu0_7
    have qu1_8 := (hb8.cell (p := ⟨w5.heap.size, 1, none⟩) zu_7).trans qu1_7
    have zu_8 := Nat.lt_of_lt_of_le zu_7 hb8.size
    have G_8 := Lib.hid (G_7.out.keep hb8)
    have X_8 := Lib.hid (X_7.out.keep hb8)
    have U_8 := Lib.hid (U_7.out.keep hb8)
    rw [gSame_self] at hS
    subst hS
    clear qg0_7 qg1_7 zg_7 qx0_7 qx1_7 zx_7 qu0_7 qu1_7 zu_7 G_7 X_7 U_7
    go_wp2
    go_ret
    exact ⟨rfl, H8⟩
  · rw [show rgN n es = n by unfold rgN; rw [if_pos hk], show rgL n es = rvL es by unfold rgL; rw [if_pos hk], hk] at hst hss
    have h12 := (gVal_iff.1 hk).1.2.1
    have h11 := (gVal_iff.1 hk).1.1
    obtain ⟨N, hN⟩ : ∃ N : Nat, n = N := ⟨n.toNat, by omega⟩
    subst hN
    have hrl := rvL_len hk
    have hrv := rvL_val hk
    obtain ⟨R, hR⟩ : ∃ R, R = rvL es := ⟨_, rfl⟩
    rw [← hR] at hst hss hrl hrv
    have hrl2 : R.length ≤ 1048576 := by omega
    have hnx := fun (k : Nat) s w (h : RowE w s es) => nextNodes N es k s w h hle2
    simp only [show ∀ x : Int, nxtV (N : Int) es x = nxt es x from fun x => by unfold nxtV; rw [if_pos hk]] at hnx
    have hny := fun (t : Int) s w (h : RowE w s R) => nextNodes N R t s w h hrl2
    simp only [show ∀ x : Int, nxtV (N : Int) R x = nxt R x from fun x => by unfold nxtV; rw [if_pos hrv.1]] at hny
    have hin : ∀ (k : Nat) (t : Int), t ∈ nxt es k → (k : Int) ∈ nxt R t := fun k t ht => by
      obtain ⟨d, hd, h1, h2⟩ := mem_nxt.1 ht
      exact mem_nxt.2 ⟨swE d, (hrv.2.1 _).2 (List.mem_map.2 ⟨d, hd, rfl⟩), h2, h1⟩
    have hn2 : ∀ t, (nxt R t).length ≤ 4194304 := fun t => by have := nxt_len R t; omega
    have hn1 : ∀ t, (nxt es t).length ≤ 1048576 := fun t => by have := nxt_len es t; omega
    have HST := Lib.hid hst
    have HSS := Lib.hid hss
    have HNX := Lib.hid hnx
    have HNY := Lib.hid hny
    have HIN := Lib.hid hin
    have HN2 := Lib.hid hn2
    have HN1 := Lib.hid hn1
    have HRL := Lib.hid hrl
    clear hst hss hnx hny hin hn2 hn1 hrv hR hk h11 hrl
    go_wp2_with fail
    refine (HST.out _ _ G_2.out.edges).mono ?_
    rintro e w3 ⟨vx, rfl, howx, hokx, hb3⟩
    have H3 := bel_trans H2 hb3
    have SZ3 := Lib.hid hb3.size
    have qg0_3 := (hb3.cell (p := ⟨w1.heap.size, 0, none⟩) zg_2).trans qg0_2
    have qg1_3 := (hb3.cell (p := ⟨w1.heap.size, 1, none⟩) zg_2).trans qg1_2
    have zg_3 := Nat.lt_of_lt_of_le zg_2 hb3.size
    have G_3 := Lib.hid (G_2.out.keep hb3)
    obtain ⟨ax, cx, rfl, hz9⟩ := id howx
    have HOKx := Lib.hid hokx
    clear hz9 hokx
    have X_3 := Lib.hid (show InR true w3 w2.heap.size w3.heap.size _ R.length 3 (cellE R) from howx)
    clear G_2 zg_2 qg0_2 qg1_2
    clear howx
    go_wp2_with fail
    have hb4 : Below w3.heap.size w3 (w3.alloc (.cells #[.int .i64 (N : Int), .slice ax R.length cx] 25)) := (Below.refl _ _).alloc (by simp <;> omega) _
    have H4 := bel_trans H3 hb4
    have SZ4 := Lib.hid hb4.size
    have qg0_4 := (hb4.cell (p := ⟨w1.heap.size, 0, none⟩) zg_3).trans qg0_3
    have qg1_4 := (hb4.cell (p := ⟨w1.heap.size, 1, none⟩) zg_3).trans qg1_3
    have zg_4 := Nat.lt_of_lt_of_le zg_3 hb4.size
    have G_4 := Lib.hid (G_3.out.keep hb4)
    have X_4 := Lib.hid (X_3.out.keep hb4)
    have qx0_4 : (w3.alloc (.cells #[.int .i64 (N : Int), .slice ax R.length cx] 25)).cell? ⟨w3.heap.size, 0, none⟩ = some (.int .i64 (N : Int)) := by go_simp
    have qx1_4 : (w3.alloc (.cells #[.int .i64 (N : Int), .slice ax R.length cx] 25)).cell? ⟨w3.heap.size, 1, none⟩ = some (.slice ax R.length cx) := by go_simp
    have zx_4 : w3.heap.size < (w3.alloc (.cells #[.int .i64 (N : Int), .slice ax R.length cx] 25)).heap.size := by simp <;> omega
    generalize (w3.alloc (.cells #[.int .i64 (N : Int), .slice ax R.length cx] 25)) = w4 at hb4 H4 SZ4 G_4 X_4 qg0_4 qg1_4 qx0_4 qx1_4 zg_4 zx_4 ⊢
    have ZBx := Lib.hid zx_4
    clear qg0_3 qg1_3 zg_3 G_3 X_3
    go_wp2_with fail
    refine (HSS.out _ _ G_4.out.edges).mono ?_
    rintro e w5 ⟨vu, rfl, howu, hoku, hb5⟩
    have H5 := bel_trans H4 hb5
    have SZ5 := Lib.hid hb5.size
    have qg0_5 := (hb5.cell (p := ⟨w1.heap.size, 0, none⟩) zg_4).trans qg0_4
    have qg1_5 := (hb5.cell (p := ⟨w1.heap.size, 1, none⟩) zg_4).trans qg1_4
    have zg_5 := Nat.lt_of_lt_of_le zg_4 hb5.size
    have qx0_5 := (hb5.cell (p := ⟨w3.heap.size, 0, none⟩) zx_4).trans qx0_4
    have qx1_5 := (hb5.cell (p := ⟨w3.heap.size, 1, none⟩) zx_4).trans qx1_4
    have zx_5 := Nat.lt_of_lt_of_le zx_4 hb5.size
    have G_5 := Lib.hid (G_4.out.keep hb5)
    have X_5 := Lib.hid (X_4.out.keep hb5)
    obtain ⟨au, cu, rfl, hz9⟩ := id howu
    have HOKu := Lib.hid hoku
    clear hz9 hoku
    have U_5 := Lib.hid (show InR true w5 w4.heap.size w5.heap.size _ R.length 3 (cellE R) from howu)
    clear qg0_4 qg1_4 zg_4 G_4 X_4 qx0_4 qx1_4 zx_4
    clear howu
    go_wp2_with fail
    have hb6 : Below w5.heap.size w5 (w5.alloc (.cells #[.int .i64 (N : Int), .slice au R.length cu] 25)) := (Below.refl _ _).alloc (by simp <;> omega) _
    have H6 := bel_trans H5 hb6
    have SZ6 := Lib.hid hb6.size
    have qg0_6 := (hb6.cell (p := ⟨w1.heap.size, 0, none⟩) zg_5).trans qg0_5
    have qg1_6 := (hb6.cell (p := ⟨w1.heap.size, 1, none⟩) zg_5).trans qg1_5
    have zg_6 := Nat.lt_of_lt_of_le zg_5 hb6.size
    have qx0_6 := (hb6.cell (p := ⟨w3.heap.size, 0, none⟩) zx_5).trans qx0_5
    have qx1_6 := (hb6.cell (p := ⟨w3.heap.size, 1, none⟩) zx_5).trans qx1_5
    have zx_6 := Nat.lt_of_lt_of_le zx_5 hb6.size
    have G_6 := Lib.hid (G_5.out.keep hb6)
    have X_6 := Lib.hid (X_5.out.keep hb6)
    have U_6 := Lib.hid (U_5.out.keep hb6)
    have qu0_6 : (w5.alloc (.cells #[.int .i64 (N : Int), .slice au R.length cu] 25)).cell? ⟨w5.heap.size, 0, none⟩ = some (.int .i64 (N : Int)) := by go_simp
    have qu1_6 : (w5.alloc (.cells #[.int .i64 (N : Int), .slice au R.length cu] 25)).cell? ⟨w5.heap.size, 1, none⟩ = some (.slice au R.length cu) := by go_simp
    have zu_6 : w5.heap.size < (w5.alloc (.cells #[.int .i64 (N : Int), .slice au R.length cu] 25)).heap.size := by simp <;> omega
    generalize (w5.alloc (.cells #[.int .i64 (N : Int), .slice au R.length cu] 25)) = w6 at hb6 H6 SZ6 G_6 U_6 X_6 qg0_6 qg1_6 qu0_6 qu1_6 qx0_6 qx1_6 zg_6 zu_6 zx_6 ⊢
    have ZBu := Lib.hid zu_6
    clear qg0_5 qg1_5 zg_5 qx0_5 qx1_5 zx_5 G_5 X_5 U_5
    go_wp2_with fail
    refine (graphSame (N : Int) (N : Int) R R _ _ _ X_6.out.edges U_6.out.edges (by omega) (by omega)).mono ?_
    rintro e w7 ⟨hS, hb7⟩
    have H7 := bel_trans H6 hb7
    have SZ7 := Lib.hid hb7.size
    have qg0_7 := (hb7.cell (p := ⟨w1.heap.size, 0, none⟩) zg_6).trans qg0_6
    have qg1_7 := (hb7.cell (p := ⟨w1.heap.size, 1, none⟩) zg_6).trans qg1_6
    have zg_7 := Nat.lt_of_lt_of_le zg_6 hb7.size
    have qx0_7 := (hb7.cell (p := ⟨w3.heap.size, 0, none⟩) zx_6).trans qx0_6
    have qx1_7 := (hb7.cell (p := ⟨w3.heap.size, 1, none⟩) zx_6).trans qx1_6
    have zx_7 := Nat.lt_of_lt_of_le zx_6 hb7.size
    have qu0_7 := (hb7.cell (p := ⟨w5.heap.size, 0, none⟩) zu_6).trans qu0_6
    have qu1_7 := (hb7.cell (p := ⟨w5.heap.size, 1, none⟩) zu_6).trans qu1_6
    have zu_7 := Nat.lt_of_lt_of_le zu_6 hb7.size
    have G_7 := Lib.hid (G_6.out.keep hb7)
    have X_7 := Lib.hid (X_6.out.keep hb7)
    have U_7 := Lib.hid (U_6.out.keep hb7)
    rw [gSame_self] at hS
    subst hS
    clear qg0_6 qg1_6 zg_6 qx0_6 qx1_6 zx_6 G_6 X_6 U_6 qu0_6 qu1_6 zu_6
    go_wp2_with fail
    go_loopw [8] (fun c wr => ∃ k : Nat, k ≤ N ∧ c = .int .i64 k ∧ Hid (Below w7.heap.size w7 wr)) (fun c _ => N - (intOf c).toNat)
    case atStart => exact ⟨0, Nat.zero_le _, rfl, Lib.hid (Below.refl _ _)⟩
    case round =>
      obtain ⟨k, hk, rfl, HBW⟩ := hrel
      have sW := HBW.out.size
      have qg0_r := (HBW.out.cell (p := ⟨w1.heap.size, 0, none⟩) zg_7).trans qg0_7
      have qg1_r := (HBW.out.cell (p := ⟨w1.heap.size, 1, none⟩) zg_7).trans qg1_7
      have zg_r := Nat.lt_of_lt_of_le zg_7 HBW.out.size
      have qx0_r := (HBW.out.cell (p := ⟨w3.heap.size, 0, none⟩) zx_7).trans qx0_7
      have qx1_r := (HBW.out.cell (p := ⟨w3.heap.size, 1, none⟩) zx_7).trans qx1_7
      have zx_r := Nat.lt_of_lt_of_le zx_7 HBW.out.size
      by_cases hlt : k < N
      · have hlt' : (k : Int) < N := by omega
        go_wp2_with fail
        refine (HNX.out k _ _ (G_7.out.keep HBW.out).edges).mono ?_
        rintro e w5 ⟨v5, rfl, how5, hb5⟩
        have hb55 := bel_trans HBW.out hb5
        have hnl := HN1.out (k : Int)
        obtain ⟨Z, hZ⟩ : ∃ Z, Z = nxt es (k : Int) := ⟨_, rfl⟩
        rw [← hZ] at how5 hnl
        have HZ := Lib.hid hZ
        clear hZ
        obtain ⟨a5, c5, rfl, hz5⟩ := id how5
        have HO5 := Lib.hid how5
        have HB5 := Lib.hid hb55
        have s5 := hb5.size
        have qg0_5 := (HB5.out.cell (p := ⟨w1.heap.size, 0, none⟩) zg_7).trans qg0_7
        have qg1_5 := (HB5.out.cell (p := ⟨w1.heap.size, 1, none⟩) zg_7).trans qg1_7
        have zg_5 := Nat.lt_of_lt_of_le zg_7 HB5.out.size
        have qx0_5 := (HB5.out.cell (p := ⟨w3.heap.size, 0, none⟩) zx_7).trans qx0_7
        have qx1_5 := (HB5.out.cell (p := ⟨w3.heap.size, 1, none⟩) zx_7).trans qx1_7
        have zx_5 := Nat.lt_of_lt_of_le zx_7 HB5.out.size
        clear hz5 how5 hb5 hb55
        go_wp2_with fail
        go_loopw [10] (fun c wr => ∃ j : Nat, j ≤ Z.length ∧ c = .int .i64 j ∧ Hid (Below w5.heap.size w5 wr)) (fun c _ => Z.length - (intOf c).toNat)
        case atStart => exact ⟨0, Nat.zero_le _, rfl, Lib.hid (Below.refl _ _)⟩
        case round =>
          obtain ⟨j, hj, rfl, HBI⟩ := hrel
          have sI := HBI.out.size
          have HBJ := Lib.hid (bel_trans HB5.out HBI.out)
          have qg0_j := (HBJ.out.cell (p := ⟨w1.heap.size, 0, none⟩) zg_7).trans qg0_7
          have qg1_j := (HBJ.out.cell (p := ⟨w1.heap.size, 1, none⟩) zg_7).trans qg1_7
          have zg_j := Nat.lt_of_lt_of_le zg_7 HBJ.out.size
          have qx0_j := (HBJ.out.cell (p := ⟨w3.heap.size, 0, none⟩) zx_7).trans qx0_7
          have qx1_j := (HBJ.out.cell (p := ⟨w3.heap.size, 1, none⟩) zx_7).trans qx1_7
          have zx_j := Nat.lt_of_lt_of_le zx_7 HBJ.out.size
          by_cases hjl : j < Z.length
          · have hjl' : (j : Int) < Z.length := by omega
            obtain ⟨t, ht⟩ : ∃ t, t = Z.getD j 0 := ⟨_, rfl⟩
            have htm : t ∈ Z := by rw [ht]; simp [List.getD, hjl]
            have hkm := HIN.out k t (by rw [← HZ.out]; exact htm)
            obtain ⟨_, _, hva, hz6⟩ := id HO5.out
            injection hva with hv1 hv2 hv3
            subst hv1
            clear hv2 hv3
            rcases hz6 with hz6 | ⟨b5, o5, rfl, hr1, hr2, hr3, hrc⟩
            · omega
            have cj := (HBI.out.cell (p := ⟨b5, o5 + j, none⟩) (show b5 < w5.heap.size by omega)).trans (show w5.cell? ⟨b5, o5 + j, none⟩ = some (.int .i64 t) by rw [ht]; exact (hrc j (by omega)).1)
            have HKM := Lib.hid hkm
            clear hrc hkm htm ht
            have zcj : b5 < wr.heap.size := Nat.lt_of_lt_of_le (show b5 < w5.heap.size by omega) HBI.out.size
            have hold : ∀ w' : World, Below wr.heap.size wr w' → (w'.cell? ⟨w3.heap.size, 0, none⟩ = some (.int .i64 (N : Int)) ∧ w'.cell? ⟨w3.heap.size, 1, none⟩ = some (.slice ax R.length cx) ∧ w'.cell? ⟨b5, o5 + j, none⟩ = some (.int .i64 t)) := fun w' h => ⟨(h.cell (p := ⟨w3.heap.size, 0, none⟩) zx_j).trans qx0_j, (h.cell (p := ⟨w3.heap.size, 1, none⟩) zx_j).trans qx1_j, (h.cell (p := ⟨b5, o5 + j, none⟩) zcj).trans cj⟩
            have HOLD := Lib.hid hold
            clear hold
            go_wp2_with fail
            go_region_held3 (fun w' : World => w'.cell? ⟨w3.heap.size, 0, none⟩ = some (.int .i64 (N : Int)) ∧ w'.cell? ⟨w3.heap.size, 1, none⟩ = some (.slice ax R.length cx) ∧ w'.cell? ⟨b5, o5 + j, none⟩ = some (.int .i64 t)) (first | exact HOLD.out _ ((Below.refl _ _).drew) | exact HOLD.out _ (bel_trans ((Below.refl _ _).drew) hb6) | exact HOLD.out _ (bel_trans (bel_trans ((Below.refl _ _).drew) hb6) hb7)) (first | (go_at_call 24; (with_reducible refine (HNY.out t _ _ (X_7.out.keep (bel_trans HBJ.out ((Below.refl _ _).drew))).edges).mono ?_); rintro e w6 ⟨v6, rfl, how6, hb6⟩; obtain ⟨a6, c6, rfl, hz7⟩ := id how6; clear hz7; have RW6 := Lib.hid (show Row w6 (.slice a6 (nxt R t).length c6) (nxt R t) from InR.ints how6); clear how6) | (go_at_call 25; (with_reducible refine (gvIn2 _ (k : Int) _ _ RW6.out HKM.out (HN2.out t)).mono ?_); rintro e w7 ⟨rfl, hb7⟩))
            have HB7 := Lib.hid (bel_trans HBI.out (bel_trans (bel_trans ((Below.refl _ _).drew) hb6) hb7))
            clear hb6 hb7
            go_wp2
            go_roundw
            case rel => first | exact ⟨j + 1, by omega, by go_num, Lib.hid HB7.out⟩ | exact ⟨_, ⟨j + 1, by omega, by go_num, Lib.hid HB7.out⟩, rfl⟩
            case measure => simp [intOf]; omega
          · have hje : j = Z.length := by omega
            have hjj : ¬ ((j : Int) < Z.length) := by omega
            clear hjl
            go_wp2
            go_roundw
            case rel => first | exact ⟨k + 1, by omega, by go_num, Lib.hid HBJ.out⟩ | exact ⟨_, ⟨k + 1, by omega, by go_num, Lib.hid HBJ.out⟩, rfl⟩
            case measure => simp [intOf]; omega
      · have hke : k = N := by omega
        have hkk : ¬ ((k : Int) < N) := by omega
        have hrr := HRL.out
        have hrq : ((R.length : Int) == es.length) = true := by simp [hrr]
        clear hrr
        subst hke
        clear hlt
        go_wp2
        go_ret
        exact ⟨by simp [HRL.out], bel_trans H7 HBW.out⟩

set_option maxRecDepth 100000 in
theorem lifted (os : Os) (started : os.Started) (H : Type) (enc : TypeId × Value → H) :
    ReturnsInHanded {} Try.checked os 6 .any (Rows.fnReverseNextSpec.pre6 enc Try.prog Try.f6 Rows.fnReverseNextRow.domain false) (Rows.fnReverseNextSpec.post enc Try.prog Try.f6 false true false false) := by
  refine returnsInHanded_of_change (C := Try.checked) own started (by kernel_rfl) Try.func6
    (ChangeSpec.witness6 (enc := enc) (C := Try.checked) false ⟨#[], #[.slice none 0 0], []⟩ 8 (by kernel_rfl) (by kernel_rfl) (by kernel_rfl) (by kernel_rfl)) ?_
  intro W base args ds gs before hval0 hW hcnd _
  have hval : ∀ (j : Nat) t v, Try.f6.params[j]? = some t → args[j]? = some v → Value.okWide Try.prog W .any base t v := hval0
  have hW' := hW
  obtain ⟨p, q, hA0, hV, rfl, hfz, hnd⟩ := hW
  have hA : DataW.TrodAll enc Try.prog W 0 (fun _ => true) true Try.f6.params.toList args.toList ds p := hA0
  rw [Try.params6] at hA hval
  obtain ⟨v0, vs0, d0, ds0, p0, q0, hargs, rfl, rfl, h0, r0⟩ := trodAll_cons hA
  obtain ⟨rfl, rfl, rfl⟩ := trodAll_nil r0
  obtain rfl : args = #[v0] := by cases args; simp_all
  obtain ⟨rfl, rfl⟩ := trodVars_none hV
  obtain ⟨a0, len0, cap0, rfl⟩ := okWide_slice Try.underlying22 (hval 0 22 v0 rfl rfl)
  have k0 := h0
  have lt0 : ∀ x ∈ p0, x.block < W.heap.size := by obtain ⟨m, hm⟩ := k0; exact DataW.trod_lt m _ _ _ hm
  obtain ⟨z0, w0⟩ : ∃ zs, IsRow .u8 W a0 len0 cap0 zs := by
    obtain ⟨fuel, hf⟩ := h0
    rcases open_ints Try.underlying22 Try.underlying5 (by kernel_rfl) hf with ⟨hcs, _⟩ | ⟨x, l, c, zs, hcs, _, hl, hm, hz, _, hcell, hwz⟩
    · simp [Value.cells] at hcs
      obtain ⟨rfl, rfl, rfl⟩ := hcs
      exact ⟨[], .inl ⟨rfl, rfl, rfl, rfl⟩⟩
    · simp [Value.cells] at hcs
      obtain ⟨rfl, rfl, rfl⟩ := hcs
      exact ⟨zs, .inr ⟨_, rfl, hl, hm, by simpa using hz, hcell, hwz⟩⟩
  clear hA0 hval0
  refine (walk a0 len0 cap0 z0 W w0).mono fun e W' ⟨he, bel⟩ => ?_
  subst he
  exact ⟨_, rfl, _, _, _, [], _, [], hW', trodAll_mk1 (shut_bool Try.underlying4 _), (trodAll_cons_mk (Below.trod laidOut (by kernel_rfl) (of_decide_eq_true (by kernel_rfl)) k0 bel lt0) trodAll_mk0), rfl, bel.frame _, fun h => by cases h⟩

theorem over : Rows.fnReverseNextRow.holds Try.pinned (OpenSpec.ofChange Rows.fnReverseNextSpec) :=
  OpenClaim.holds_of_wide 6 Try.f6 rfl rfl rfl rfl rfl rfl rfl ⟨rfl, rfl, rfl, rfl, rfl⟩ rfl rfl rfl rfl rfl (by kernel_rfl) Try.func6 (by kernel_rfl)
    (of_decide_eq_true (by kernel_rfl)) (by unfold Func.isWrapper; first | (rw [if_pos (by decide +kernel)]; kernel_rfl) | (rw [if_neg (by decide +kernel)]; exact ⟨rfl, rfl⟩))
    (fun os started H enc _ => lifted os started H enc)

theorem proved : Rows.FnReverseNextSaid := over
end Go.Proofs.Ytfciilpcjahfoaa.fnReverseNext
