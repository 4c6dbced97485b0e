/-
  Proved: a settled node has a path with its value (the law FnPathTo returns true for every input and leaves it as it was), with no further condition.
-/
import Derived.Test.YtlmhccjppmhdbaaRows
import Derived.Test.YtlmhccjppmhdbaaDraws3
import Derived.Test.YtlmhccjppmhdbaaBestI
import Derived.Test.YtlmhccjppmhdbaaBestT
import Derived.Test.YtlmhccjppmhdbaaStartL
import Derived.Test.YtlmhccjppmhdbaaSetP
import Derived.Test.YtlmhccjppmhdbaaGvSet
import Derived.Test.YtlmhccjppmhdbaaPath2
import Derived.WalkKit
import Derived.ProofKit
import Derived.OpenShut
import Derived.ShutString
import Derived.ChangeOld
import Derived.Below
namespace Go.Proofs.Ytlmhccjppmhdbaa.fnPathTo
open Go.Proofs.Ytlmhccjppmhdbaa Go.BigFrame
open Go.ChangeShapes Go.WideShapes Go.ChangeAt Go.RowKit
open Go.ChangeMaps (open_string shut_string)
set_option linter.unusedVariables false

theorem own : ownKnob Try.prog.godebug = none := by kernel_rfl
theorem laidOut : laidOutB Try.prog = true := by kernel_rfl

def IsRow (k : IntKind) (w : World) (a : Option Addr) (len cap : Nat) (zs : List Int) : Prop :=
  (a = none ∧ len = 0 ∧ cap = 0 ∧ zs = []) ∨
  ∃ x, a = some x ∧ len ≤ cap ∧ cap ≤ maxLen ∧ zs.length = cap ∧ (∀ i, i < zs.length → w.cell? (x.add i) = some (.int k (zs.getD i 0))) ∧ ∀ n ∈ zs, (Lit.int k n).wf = true

theorem bytes_of {w : World} {a : Option Addr} {len cap : Nat} {zs : List Int} (h : IsRow .u8 w a len cap zs) : Bytes w a len ∧ len ≤ cap ∧ len ≤ 9223372036854775807 := by
  rcases h with ⟨rfl, rfl, rfl, rfl⟩ | ⟨x, rfl, hl, hm, hz, hc, hw⟩
  · exact ⟨.inl rfl, Nat.le_refl _, by omega⟩
  · unfold maxLen at hm
    refine ⟨?_, hl, by omega⟩
    by_cases h0 : len = 0
    · exact .inl h0
    · obtain ⟨b, off, rfl, hc'⟩ := ints_at hc (by omega)
      exact .inr ⟨b, off, rfl, World.block_lt_of_cell? _ _ (hc' 0 (by omega)), fun i hi => ⟨zs[i]?.getD 0, (range_u8 hw i).1, (range_u8 hw i).2, hc' i (by omega)⟩⟩

set_option maxRecDepth 100000 in
set_option maxHeartbeats 4000000 in
theorem walk (a0 : Option Addr) (len0 cap0 : Nat) (z0 : List Int) (w : World) (w0 : IsRow .u8 w a0 len0 cap0 z0) :
    Calls Try.prog 10 #[.slice a0 len0 cap0] w fun e w' => e = .returned (.bool true) ∧ Below w.heap.size w w' := by
  obtain ⟨hby, hcp, hn⟩ := bytes_of w0
  have HB0 := Lib.hid hby
  clear hby w0
  by_cases h0 : 1048576 < len0
  · go_enter Try.func10, Try.ntmps10
    go_wp2
    go_ret
    exact ⟨rfl, Below.refl _ _⟩
  have h0' : len0 ≤ 1048576 := by omega
  clear h0
  obtain ⟨w0, hw0⟩ : ∃ w0, w0 = w := ⟨_, rfl⟩
  subst hw0
  have H0 := Below.refl w0.heap.size w0
  go_enter Try.func10, Try.ntmps10
  go_wp2_with fail
  refine (dDrawBestFirst a0 len0 cap0 _ HB0.out hcp (by omega)).mono ?_
  rintro e w1 ⟨n, es, v, m, src, rfl, hle, hrow, hok, hb1⟩
  have H1 := bel_trans H0 hb1
  have SZ1 := Lib.hid hb1.size
  obtain ⟨va, vc, rfl, hz9⟩ := id hrow
  have HOKG := Lib.hid hok
  clear hz9 hok
  have G_1 := Lib.hid (hrow)
  clear hrow
  go_wp2_with fail
  have hb2 : Below w1.heap.size w1 (w1.alloc (.cells #[.int .i64 n, .slice va es.length vc] 33)) := (Below.refl _ _).alloc (by simp <;> omega) _
  have H2 := bel_trans H1 hb2
  have SZ2 := Lib.hid hb2.size
  have G_2 := Lib.hid (G_1.out.keep hb2)
  have qg0_2 : (w1.alloc (.cells #[.int .i64 n, .slice va es.length vc] 33)).cell? ⟨w1.heap.size, 0, none⟩ = some (.int .i64 n) := by go_simp
  have qg1_2 : (w1.alloc (.cells #[.int .i64 n, .slice va es.length vc] 33)).cell? ⟨w1.heap.size, 1, none⟩ = some (.slice va es.length vc) := by go_simp
  have zg_2 : w1.heap.size < (w1.alloc (.cells #[.int .i64 n, .slice va es.length vc] 33)).heap.size := by simp <;> omega
  generalize (w1.alloc (.cells #[.int .i64 n, .slice va es.length vc] 33)) = w2 at hb2 H2 SZ2 G_2 qg0_2 qg1_2 zg_2 ⊢
  have ZBg := Lib.hid zg_2
  clear G_1
  have hle2 : es.length ≤ 1048576 := by omega
  have hle3 : es.length ≤ 281474976710656 := by omega
  have hst := fun s w (h : RowE w s es) => bestFirstO n m src es s w h hle3
  have hss := fun s w (h : RowE w s es) => sBestFirst n m src es s w h hle3
  cases hk : onOk n es m [src]
  · have e1 : bfV false (bfR m (-1) es n.toNat src.toNat) = ⟨[], [], [], 0, []⟩ := by unfold bfV; rw [if_neg (by decide)]
    rw [hk, e1] at hst hss
    simp only at hst hss
    have HST := Lib.hid hst
    have HSS := Lib.hid hss
    clear hst hss e1 hk
    refine (HST.out _ _ G_2.out.edges).mono ?_
    rintro e w3 ⟨px, qx, rx, rfl, ⟨howx, hokx⟩, hb3⟩
    have H3 := bel_trans H2 hb3
    have SZ3 := Lib.hid hb3.size
    have qg0_3 := (hb3.cell (p := ⟨w1.heap.size, 0, none⟩) zg_2).trans qg0_2
    have qg1_3 := (hb3.cell (p := ⟨w1.heap.size, 1, none⟩) zg_2).trans qg1_2
    have zg_3 := Nat.lt_of_lt_of_le zg_2 hb3.size
    have G_3 := Lib.hid (G_2.out.keep hb3)
    obtain ⟨sax, cax, sbx, cbx, scx, ccx, rfl, rfl, rfl⟩ := id howx.slices
    have hcpx := (hokx _ _ _ rfl).1
    clear hokx
    have X_3 := Lib.hid (howx)
    clear qg1_2 G_2 qg0_2 zg_2
    clear howx
    go_wp2_with fail
    have hb4 : Below w3.heap.size w3 (w3.alloc (.cells #[.slice sax ([] : List Int).length cax, .slice sbx ([] : List Int).length cbx, .slice scx ([] : List Int).length ccx, .int .i64 0] 28)) := (Below.refl _ _).alloc (by simp <;> omega) _
    have H4 := bel_trans H3 hb4
    have SZ4 := Lib.hid hb4.size
    have qg0_4 := (hb4.cell (p := ⟨w1.heap.size, 0, none⟩) zg_3).trans qg0_3
    have qg1_4 := (hb4.cell (p := ⟨w1.heap.size, 1, none⟩) zg_3).trans qg1_3
    have zg_4 := Nat.lt_of_lt_of_le zg_3 hb4.size
    have G_4 := Lib.hid (G_3.out.keep hb4)
    have X_4 := Lib.hid (X_3.out.keep hb4)
    have qx0_4 : (w3.alloc (.cells #[.slice sax ([] : List Int).length cax, .slice sbx ([] : List Int).length cbx, .slice scx ([] : List Int).length ccx, .int .i64 0] 28)).cell? ⟨w3.heap.size, 0, none⟩ = some (.slice sax ([] : List Int).length cax) := by go_simp
    have qx1_4 : (w3.alloc (.cells #[.slice sax ([] : List Int).length cax, .slice sbx ([] : List Int).length cbx, .slice scx ([] : List Int).length ccx, .int .i64 0] 28)).cell? ⟨w3.heap.size, 1, none⟩ = some (.slice sbx ([] : List Int).length cbx) := by go_simp
    have qx2_4 : (w3.alloc (.cells #[.slice sax ([] : List Int).length cax, .slice sbx ([] : List Int).length cbx, .slice scx ([] : List Int).length ccx, .int .i64 0] 28)).cell? ⟨w3.heap.size, 2, none⟩ = some (.slice scx ([] : List Int).length ccx) := by go_simp
    have qx3_4 : (w3.alloc (.cells #[.slice sax ([] : List Int).length cax, .slice sbx ([] : List Int).length cbx, .slice scx ([] : List Int).length ccx, .int .i64 0] 28)).cell? ⟨w3.heap.size, 3, none⟩ = some (.int .i64 0) := by go_simp
    have zx_4 : w3.heap.size < (w3.alloc (.cells #[.slice sax ([] : List Int).length cax, .slice sbx ([] : List Int).length cbx, .slice scx ([] : List Int).length ccx, .int .i64 0] 28)).heap.size := by simp <;> omega
    generalize (w3.alloc (.cells #[.slice sax ([] : List Int).length cax, .slice sbx ([] : List Int).length cbx, .slice scx ([] : List Int).length ccx, .int .i64 0] 28)) = w4 at hb4 H4 SZ4 G_4 X_4 qg0_4 qg1_4 qx0_4 qx1_4 qx2_4 qx3_4 zg_4 zx_4 ⊢
    have ZBx := Lib.hid zx_4
    clear qg0_3 qg1_3 zg_3 G_3 X_3
    refine (HSS.out _ _ G_4.out.edges).mono ?_
    rintro e w5 ⟨py, qy, ry, rfl, howy, hb5⟩
    have H5 := bel_trans H4 hb5
    have SZ5 := Lib.hid hb5.size
    have qg0_5 := (hb5.cell (p := ⟨w1.heap.size, 0, none⟩) zg_4).trans qg0_4
    have qg1_5 := (hb5.cell (p := ⟨w1.heap.size, 1, none⟩) zg_4).trans qg1_4
    have zg_5 := Nat.lt_of_lt_of_le zg_4 hb5.size
    have qx0_5 := (hb5.cell (p := ⟨w3.heap.size, 0, none⟩) zx_4).trans qx0_4
    have qx1_5 := (hb5.cell (p := ⟨w3.heap.size, 1, none⟩) zx_4).trans qx1_4
    have qx2_5 := (hb5.cell (p := ⟨w3.heap.size, 2, none⟩) zx_4).trans qx2_4
    have qx3_5 := (hb5.cell (p := ⟨w3.heap.size, 3, none⟩) zx_4).trans qx3_4
    have zx_5 := Nat.lt_of_lt_of_le zx_4 hb5.size
    have G_5 := Lib.hid (G_4.out.keep hb5)
    have X_5 := Lib.hid (X_4.out.keep hb5)
    obtain ⟨say, cay, sby, cby, scy, ccy, rfl, rfl, rfl⟩ := id howy.slices
    have Y_5 := Lib.hid (howy)
    clear qg0_4 qg1_4 zg_4 G_4 X_4 qx0_4 qx1_4 qx2_4 qx3_4 zx_4
    clear howy
    go_wp2_with fail
    have hb6 : Below w5.heap.size w5 (w5.alloc (.cells #[.slice say ([] : List Int).length cay, .slice sby ([] : List Int).length cby, .slice scy ([] : List Int).length ccy, .int .i64 0] 28)) := (Below.refl _ _).alloc (by simp <;> omega) _
    have H6 := bel_trans H5 hb6
    have SZ6 := Lib.hid hb6.size
    have qg0_6 := (hb6.cell (p := ⟨w1.heap.size, 0, none⟩) zg_5).trans qg0_5
    have qg1_6 := (hb6.cell (p := ⟨w1.heap.size, 1, none⟩) zg_5).trans qg1_5
    have zg_6 := Nat.lt_of_lt_of_le zg_5 hb6.size
    have qx0_6 := (hb6.cell (p := ⟨w3.heap.size, 0, none⟩) zx_5).trans qx0_5
    have qx1_6 := (hb6.cell (p := ⟨w3.heap.size, 1, none⟩) zx_5).trans qx1_5
    have qx2_6 := (hb6.cell (p := ⟨w3.heap.size, 2, none⟩) zx_5).trans qx2_5
    have qx3_6 := (hb6.cell (p := ⟨w3.heap.size, 3, none⟩) zx_5).trans qx3_5
    have zx_6 := Nat.lt_of_lt_of_le zx_5 hb6.size
    have G_6 := Lib.hid (G_5.out.keep hb6)
    have X_6 := Lib.hid (X_5.out.keep hb6)
    have Y_6 := Lib.hid (Y_5.out.keep hb6)
    have qy0_6 : (w5.alloc (.cells #[.slice say ([] : List Int).length cay, .slice sby ([] : List Int).length cby, .slice scy ([] : List Int).length ccy, .int .i64 0] 28)).cell? ⟨w5.heap.size, 0, none⟩ = some (.slice say ([] : List Int).length cay) := by go_simp
    have qy1_6 : (w5.alloc (.cells #[.slice say ([] : List Int).length cay, .slice sby ([] : List Int).length cby, .slice scy ([] : List Int).length ccy, .int .i64 0] 28)).cell? ⟨w5.heap.size, 1, none⟩ = some (.slice sby ([] : List Int).length cby) := by go_simp
    have qy2_6 : (w5.alloc (.cells #[.slice say ([] : List Int).length cay, .slice sby ([] : List Int).length cby, .slice scy ([] : List Int).length ccy, .int .i64 0] 28)).cell? ⟨w5.heap.size, 2, none⟩ = some (.slice scy ([] : List Int).length ccy) := by go_simp
    have qy3_6 : (w5.alloc (.cells #[.slice say ([] : List Int).length cay, .slice sby ([] : List Int).length cby, .slice scy ([] : List Int).length ccy, .int .i64 0] 28)).cell? ⟨w5.heap.size, 3, none⟩ = some (.int .i64 0) := by go_simp
    have zy_6 : w5.heap.size < (w5.alloc (.cells #[.slice say ([] : List Int).length cay, .slice sby ([] : List Int).length cby, .slice scy ([] : List Int).length ccy, .int .i64 0] 28)).heap.size := by simp <;> omega
    generalize (w5.alloc (.cells #[.slice say ([] : List Int).length cay, .slice sby ([] : List Int).length cby, .slice scy ([] : List Int).length ccy, .int .i64 0] 28)) = w6 at hb6 H6 SZ6 G_6 X_6 Y_6 qg0_6 qg1_6 qx0_6 qx1_6 qx2_6 qx3_6 qy0_6 qy1_6 qy2_6 qy3_6 zg_6 zx_6 zy_6 ⊢
    have ZBy := Lib.hid zy_6
    clear qg0_5 qg1_5 zg_5 qx0_5 qx1_5 qx2_5 qx3_5 zx_5 G_5 X_5 Y_5
    refine (gvSettled 0 ([] : List Int) ([] : List Int) ([] : List Int) _ _ _ _ _ _ _ X_6.out.rows.1 X_6.out.rows.2.1 X_6.out.rows.2.2 Y_6.out.rows.1 Y_6.out.rows.2.1 Y_6.out.rows.2.2 (by simp) (by simp) (by simp)).mono ?_
    rintro e w7 ⟨rfl, hb7⟩
    have H7 := bel_trans H6 hb7
    have SZ7 := Lib.hid hb7.size
    have qg0_7 := (hb7.cell (p := ⟨w1.heap.size, 0, none⟩) zg_6).trans qg0_6
    have qg1_7 := (hb7.cell (p := ⟨w1.heap.size, 1, none⟩) zg_6).trans qg1_6
    have zg_7 := Nat.lt_of_lt_of_le zg_6 hb7.size
    have qx0_7 := (hb7.cell (p := ⟨w3.heap.size, 0, none⟩) zx_6).trans qx0_6
    have qx1_7 := (hb7.cell (p := ⟨w3.heap.size, 1, none⟩) zx_6).trans qx1_6
    have qx2_7 := (hb7.cell (p := ⟨w3.heap.size, 2, none⟩) zx_6).trans qx2_6
    have qx3_7 := (hb7.cell (p := ⟨w3.heap.size, 3, none⟩) zx_6).trans qx3_6
    have zx_7 := Nat.lt_of_lt_of_le zx_6 hb7.size
    have qy0_7 := (hb7.cell (p := ⟨w5.heap.size, 0, none⟩) zy_6).trans qy0_6
    have qy1_7 := (hb7.cell (p := ⟨w5.heap.size, 1, none⟩) zy_6).trans qy1_6
    have qy2_7 := (hb7.cell (p := ⟨w5.heap.size, 2, none⟩) zy_6).trans qy2_6
    have qy3_7 := (hb7.cell (p := ⟨w5.heap.size, 3, none⟩) zy_6).trans qy3_6
    have zy_7 := Nat.lt_of_lt_of_le zy_6 hb7.size
    have G_7 := Lib.hid (G_6.out.keep hb7)
    have X_7 := Lib.hid (X_6.out.keep hb7)
    have Y_7 := Lib.hid (Y_6.out.keep hb7)
    clear qg0_6 qg1_6 zg_6 qx0_6 qx1_6 qx2_6 qx3_6 zx_6 G_6 X_6 Y_6 qy0_6 qy1_6 qy2_6 qy3_6 zy_6
    go_wp2_with fail
    refine (gvSettled 0 ([] : List Int) ([] : List Int) ([] : List Int) _ _ _ _ _ _ _ X_7.out.rows.1 X_7.out.rows.2.1 X_7.out.rows.2.2 Y_7.out.rows.1 Y_7.out.rows.2.1 Y_7.out.rows.2.2 (by simp) (by simp) (by simp)).mono ?_
    rintro e w8 ⟨rfl, hb8⟩
    have H8 := bel_trans H7 hb8
    have SZ8 := Lib.hid hb8.size
    have qg0_8 := (hb8.cell (p := ⟨w1.heap.size, 0, none⟩) zg_7).trans qg0_7
    have qg1_8 := (hb8.cell (p := ⟨w1.heap.size, 1, none⟩) zg_7).trans qg1_7
    have zg_8 := Nat.lt_of_lt_of_le zg_7 hb8.size
    have qx0_8 := (hb8.cell (p := ⟨w3.heap.size, 0, none⟩) zx_7).trans qx0_7
    have qx1_8 := (hb8.cell (p := ⟨w3.heap.size, 1, none⟩) zx_7).trans qx1_7
    have qx2_8 := (hb8.cell (p := ⟨w3.heap.size, 2, none⟩) zx_7).trans qx2_7
    have qx3_8 := (hb8.cell (p := ⟨w3.heap.size, 3, none⟩) zx_7).trans qx3_7
    have zx_8 := Nat.lt_of_lt_of_le zx_7 hb8.size
    have qy0_8 := (hb8.cell (p := ⟨w5.heap.size, 0, none⟩) zy_7).trans qy0_7
    have qy1_8 := (hb8.cell (p := ⟨w5.heap.size, 1, none⟩) zy_7).trans qy1_7
    have qy2_8 := (hb8.cell (p := ⟨w5.heap.size, 2, none⟩) zy_7).trans qy2_7
    have qy3_8 := (hb8.cell (p := ⟨w5.heap.size, 3, none⟩) zy_7).trans qy3_7
    have zy_8 := Nat.lt_of_lt_of_le zy_7 hb8.size
    have G_8 := Lib.hid (G_7.out.keep hb8)
    have X_8 := Lib.hid (X_7.out.keep hb8)
    have Y_8 := Lib.hid (Y_7.out.keep hb8)
    clear qg0_7 qg1_7 zg_7 qx0_7 qx1_7 qx2_7 qx3_7 zx_7 qy0_7 qy1_7 qy2_7 qy3_7 zy_7 G_7 X_7 Y_7
    go_wp2
    go_ret
    exact ⟨rfl, H8⟩
  · obtain ⟨hgv, hsr, hmk⟩ := onOk_one3 hk
    obtain ⟨h1, h12, h40⟩ := gVal_n hgv
    obtain ⟨N, hN⟩ : ∃ N : Nat, n = N := ⟨n.toNat, by omega⟩
    subst hN
    obtain ⟨A, hA⟩ : ∃ A : Nat, src = A := ⟨src.toNat, by omega⟩
    subst hA
    have hAN : A < N := by omega
    have hN12 : N ≤ 12 := by omega
    have hea : eAll N es := by have := eAll_of hgv; simpa using this
    obtain ⟨xo, xp, xv, xl, xd, hR, hF, hP⟩ := setFP hmk hea hAN
    have HP := Lib.hid hP
    clear hP
    have e1 : bfV true (bfR m (-1) es ((N : Int)).toNat ((A : Int)).toNat) = ⟨xo, xp, xv, xl, xd⟩ := by unfold bfV; rw [if_pos rfl, Int.toNat_natCast, Int.toNat_natCast, hR]
    rw [hk, e1] at hst hss
    simp only at hst hss
    have HST := Lib.hid hst
    have HSS := Lib.hid hss
    have HF := Lib.hid hF
    have HEA := Lib.hid hea
    have HGV := Lib.hid hgv
    have HMK := Lib.hid hmk
    have hs1 := hsr.1
    have hs2 := hsr.2
    have hlo1 := hF.lo.1
    have hlo2 := hF.lo.2
    have hxo : xo.length ≤ 12 := by omega
    have HLP := Lib.hid hF.lp
    have HLV := Lib.hid hF.lv
    clear hst hss e1 hk hgv hsr hmk hR hF hea h40 
    refine (HST.out _ _ G_2.out.edges).mono ?_
    rintro e w3 ⟨px, qx, rx, rfl, ⟨howx, hokx⟩, hb3⟩
    have H3 := bel_trans H2 hb3
    have SZ3 := Lib.hid hb3.size
    have qg0_3 := (hb3.cell (p := ⟨w1.heap.size, 0, none⟩) zg_2).trans qg0_2
    have qg1_3 := (hb3.cell (p := ⟨w1.heap.size, 1, none⟩) zg_2).trans qg1_2
    have zg_3 := Nat.lt_of_lt_of_le zg_2 hb3.size
    have G_3 := Lib.hid (G_2.out.keep hb3)
    obtain ⟨sax, cax, sbx, cbx, scx, ccx, rfl, rfl, rfl⟩ := id howx.slices
    have hcpx := (hokx _ _ _ rfl).1
    clear hokx
    have X_3 := Lib.hid (howx)
    clear qg1_2 G_2 qg0_2 zg_2
    clear howx
    go_wp2_with fail
    have hb4 : Below w3.heap.size w3 (w3.alloc (.cells #[.slice sax xo.length cax, .slice sbx xp.length cbx, .slice scx xv.length ccx, .int .i64 xl] 28)) := (Below.refl _ _).alloc (by simp <;> omega) _
    have H4 := bel_trans H3 hb4
    have SZ4 := Lib.hid hb4.size
    have qg0_4 := (hb4.cell (p := ⟨w1.heap.size, 0, none⟩) zg_3).trans qg0_3
    have qg1_4 := (hb4.cell (p := ⟨w1.heap.size, 1, none⟩) zg_3).trans qg1_3
    have zg_4 := Nat.lt_of_lt_of_le zg_3 hb4.size
    have G_4 := Lib.hid (G_3.out.keep hb4)
    have X_4 := Lib.hid (X_3.out.keep hb4)
    have qx0_4 : (w3.alloc (.cells #[.slice sax xo.length cax, .slice sbx xp.length cbx, .slice scx xv.length ccx, .int .i64 xl] 28)).cell? ⟨w3.heap.size, 0, none⟩ = some (.slice sax xo.length cax) := by go_simp
    have qx1_4 : (w3.alloc (.cells #[.slice sax xo.length cax, .slice sbx xp.length cbx, .slice scx xv.length ccx, .int .i64 xl] 28)).cell? ⟨w3.heap.size, 1, none⟩ = some (.slice sbx xp.length cbx) := by go_simp
    have qx2_4 : (w3.alloc (.cells #[.slice sax xo.length cax, .slice sbx xp.length cbx, .slice scx xv.length ccx, .int .i64 xl] 28)).cell? ⟨w3.heap.size, 2, none⟩ = some (.slice scx xv.length ccx) := by go_simp
    have qx3_4 : (w3.alloc (.cells #[.slice sax xo.length cax, .slice sbx xp.length cbx, .slice scx xv.length ccx, .int .i64 xl] 28)).cell? ⟨w3.heap.size, 3, none⟩ = some (.int .i64 xl) := by go_simp
    have zx_4 : w3.heap.size < (w3.alloc (.cells #[.slice sax xo.length cax, .slice sbx xp.length cbx, .slice scx xv.length ccx, .int .i64 xl] 28)).heap.size := by simp <;> omega
    generalize (w3.alloc (.cells #[.slice sax xo.length cax, .slice sbx xp.length cbx, .slice scx xv.length ccx, .int .i64 xl] 28)) = w4 at hb4 H4 SZ4 G_4 X_4 qg0_4 qg1_4 qx0_4 qx1_4 qx2_4 qx3_4 zg_4 zx_4 ⊢
    have ZBx := Lib.hid zx_4
    clear qg0_3 qg1_3 zg_3 G_3 X_3
    refine (HSS.out _ _ G_4.out.edges).mono ?_
    rintro e w5 ⟨py, qy, ry, rfl, howy, hb5⟩
    have H5 := bel_trans H4 hb5
    have SZ5 := Lib.hid hb5.size
    have qg0_5 := (hb5.cell (p := ⟨w1.heap.size, 0, none⟩) zg_4).trans qg0_4
    have qg1_5 := (hb5.cell (p := ⟨w1.heap.size, 1, none⟩) zg_4).trans qg1_4
    have zg_5 := Nat.lt_of_lt_of_le zg_4 hb5.size
    have qx0_5 := (hb5.cell (p := ⟨w3.heap.size, 0, none⟩) zx_4).trans qx0_4
    have qx1_5 := (hb5.cell (p := ⟨w3.heap.size, 1, none⟩) zx_4).trans qx1_4
    have qx2_5 := (hb5.cell (p := ⟨w3.heap.size, 2, none⟩) zx_4).trans qx2_4
    have qx3_5 := (hb5.cell (p := ⟨w3.heap.size, 3, none⟩) zx_4).trans qx3_4
    have zx_5 := Nat.lt_of_lt_of_le zx_4 hb5.size
    have G_5 := Lib.hid (G_4.out.keep hb5)
    have X_5 := Lib.hid (X_4.out.keep hb5)
    obtain ⟨say, cay, sby, cby, scy, ccy, rfl, rfl, rfl⟩ := id howy.slices
    have Y_5 := Lib.hid (howy)
    clear qg0_4 qg1_4 zg_4 G_4 X_4 qx0_4 qx1_4 qx2_4 qx3_4 zx_4
    clear howy
    go_wp2_with fail
    have hb6 : Below w5.heap.size w5 (w5.alloc (.cells #[.slice say xo.length cay, .slice sby xp.length cby, .slice scy xv.length ccy, .int .i64 xl] 28)) := (Below.refl _ _).alloc (by simp <;> omega) _
    have H6 := bel_trans H5 hb6
    have SZ6 := Lib.hid hb6.size
    have qg0_6 := (hb6.cell (p := ⟨w1.heap.size, 0, none⟩) zg_5).trans qg0_5
    have qg1_6 := (hb6.cell (p := ⟨w1.heap.size, 1, none⟩) zg_5).trans qg1_5
    have zg_6 := Nat.lt_of_lt_of_le zg_5 hb6.size
    have qx0_6 := (hb6.cell (p := ⟨w3.heap.size, 0, none⟩) zx_5).trans qx0_5
    have qx1_6 := (hb6.cell (p := ⟨w3.heap.size, 1, none⟩) zx_5).trans qx1_5
    have qx2_6 := (hb6.cell (p := ⟨w3.heap.size, 2, none⟩) zx_5).trans qx2_5
    have qx3_6 := (hb6.cell (p := ⟨w3.heap.size, 3, none⟩) zx_5).trans qx3_5
    have zx_6 := Nat.lt_of_lt_of_le zx_5 hb6.size
    have G_6 := Lib.hid (G_5.out.keep hb6)
    have X_6 := Lib.hid (X_5.out.keep hb6)
    have Y_6 := Lib.hid (Y_5.out.keep hb6)
    have qy0_6 : (w5.alloc (.cells #[.slice say xo.length cay, .slice sby xp.length cby, .slice scy xv.length ccy, .int .i64 xl] 28)).cell? ⟨w5.heap.size, 0, none⟩ = some (.slice say xo.length cay) := by go_simp
    have qy1_6 : (w5.alloc (.cells #[.slice say xo.length cay, .slice sby xp.length cby, .slice scy xv.length ccy, .int .i64 xl] 28)).cell? ⟨w5.heap.size, 1, none⟩ = some (.slice sby xp.length cby) := by go_simp
    have qy2_6 : (w5.alloc (.cells #[.slice say xo.length cay, .slice sby xp.length cby, .slice scy xv.length ccy, .int .i64 xl] 28)).cell? ⟨w5.heap.size, 2, none⟩ = some (.slice scy xv.length ccy) := by go_simp
    have qy3_6 : (w5.alloc (.cells #[.slice say xo.length cay, .slice sby xp.length cby, .slice scy xv.length ccy, .int .i64 xl] 28)).cell? ⟨w5.heap.size, 3, none⟩ = some (.int .i64 xl) := by go_simp
    have zy_6 : w5.heap.size < (w5.alloc (.cells #[.slice say xo.length cay, .slice sby xp.length cby, .slice scy xv.length ccy, .int .i64 xl] 28)).heap.size := by simp <;> omega
    generalize (w5.alloc (.cells #[.slice say xo.length cay, .slice sby xp.length cby, .slice scy xv.length ccy, .int .i64 xl] 28)) = w6 at hb6 H6 SZ6 G_6 X_6 Y_6 qg0_6 qg1_6 qx0_6 qx1_6 qx2_6 qx3_6 qy0_6 qy1_6 qy2_6 qy3_6 zg_6 zx_6 zy_6 ⊢
    have ZBy := Lib.hid zy_6
    clear qg0_5 qg1_5 zg_5 qx0_5 qx1_5 qx2_5 qx3_5 zx_5 G_5 X_5 Y_5
    refine (gvSettled xl xo xp xv _ _ _ _ _ _ _ X_6.out.rows.1 X_6.out.rows.2.1 X_6.out.rows.2.2 Y_6.out.rows.1 Y_6.out.rows.2.1 Y_6.out.rows.2.2 (by omega) (by have := HLP.out; omega) (by have := HLV.out; omega)).mono ?_
    rintro e w7 ⟨rfl, hb7⟩
    have H7 := bel_trans H6 hb7
    have SZ7 := Lib.hid hb7.size
    have qg0_7 := (hb7.cell (p := ⟨w1.heap.size, 0, none⟩) zg_6).trans qg0_6
    have qg1_7 := (hb7.cell (p := ⟨w1.heap.size, 1, none⟩) zg_6).trans qg1_6
    have zg_7 := Nat.lt_of_lt_of_le zg_6 hb7.size
    have qx0_7 := (hb7.cell (p := ⟨w3.heap.size, 0, none⟩) zx_6).trans qx0_6
    have qx1_7 := (hb7.cell (p := ⟨w3.heap.size, 1, none⟩) zx_6).trans qx1_6
    have qx2_7 := (hb7.cell (p := ⟨w3.heap.size, 2, none⟩) zx_6).trans qx2_6
    have qx3_7 := (hb7.cell (p := ⟨w3.heap.size, 3, none⟩) zx_6).trans qx3_6
    have zx_7 := Nat.lt_of_lt_of_le zx_6 hb7.size
    have qy0_7 := (hb7.cell (p := ⟨w5.heap.size, 0, none⟩) zy_6).trans qy0_6
    have qy1_7 := (hb7.cell (p := ⟨w5.heap.size, 1, none⟩) zy_6).trans qy1_6
    have qy2_7 := (hb7.cell (p := ⟨w5.heap.size, 2, none⟩) zy_6).trans qy2_6
    have qy3_7 := (hb7.cell (p := ⟨w5.heap.size, 3, none⟩) zy_6).trans qy3_6
    have zy_7 := Nat.lt_of_lt_of_le zy_6 hb7.size
    have G_7 := Lib.hid (G_6.out.keep hb7)
    have X_7 := Lib.hid (X_6.out.keep hb7)
    have Y_7 := Lib.hid (Y_6.out.keep hb7)
    clear qg0_6 qg1_6 zg_6 qx0_6 qx1_6 qx2_6 qx3_6 zx_6 G_6 X_6 Y_6 qy0_6 qy1_6 qy2_6 qy3_6 zy_6
    have hrw9 := X_7.out.rows.1
    obtain ⟨_, _, hva9, hz9⟩ := id hrw9
    injection hva9 with hv1 hv2 hv3
    subst hv1
    clear hv2 hv3
    rcases hz9 with hz9 | ⟨bo, oo, rfl, hb9, hc9⟩
    · have h9 : 0 < xo.length := by omega
      rw [hz9] at h9; simp at h9
    have HCo := Lib.hid (And.intro hc9 hb9)
    clear hb9 hc9 hrw9
    have hrw9 := X_7.out.rows.2.2
    obtain ⟨_, _, hva9, hz9⟩ := id hrw9
    injection hva9 with hv1 hv2 hv3
    subst hv1
    clear hv2 hv3
    rcases hz9 with hz9 | ⟨bv, ov, rfl, hb9, hc9⟩
    · have h9 : 0 < xv.length := by (have := HLV.out; omega)
      rw [hz9] at h9; simp at h9
    have HCv := Lib.hid (And.intro hc9 hb9)
    clear hb9 hc9 hrw9
    go_wp2_with fail
    go_loopw [10] (fun c wr => ∃ k : Nat, 0 ≤ k ∧ k ≤ xo.length ∧ c = .int .i64 k ∧ Hid (Below w7.heap.size w7 wr)) (fun c _ => xo.length - (intOf c).toNat)
    case atStart => exact ⟨0, Nat.le_refl _, by omega, rfl, Lib.hid (Below.refl _ _)⟩
    case round =>
      obtain ⟨k, hk1, hk, rfl, HBW⟩ := hrel
      have sW := HBW.out.size
      by_cases hlt : k < xo.length
      · have hlt' : (k : Int) < xo.length := by omega
        obtain ⟨w8, hw8⟩ : ∃ w8, w8 = wr := ⟨_, rfl⟩
        subst hw8
        have hb8 : Below w7.heap.size w7 w8 := HBW.out
        have H8 := bel_trans H7 hb8
        have SZ8 := Lib.hid hb8.size
        have qg0_8 := (hb8.cell (p := ⟨w1.heap.size, 0, none⟩) zg_7).trans qg0_7
        have qg1_8 := (hb8.cell (p := ⟨w1.heap.size, 1, none⟩) zg_7).trans qg1_7
        have zg_8 := Nat.lt_of_lt_of_le zg_7 hb8.size
        have qx0_8 := (hb8.cell (p := ⟨w3.heap.size, 0, none⟩) zx_7).trans qx0_7
        have qx1_8 := (hb8.cell (p := ⟨w3.heap.size, 1, none⟩) zx_7).trans qx1_7
        have qx2_8 := (hb8.cell (p := ⟨w3.heap.size, 2, none⟩) zx_7).trans qx2_7
        have qx3_8 := (hb8.cell (p := ⟨w3.heap.size, 3, none⟩) zx_7).trans qx3_7
        have zx_8 := Nat.lt_of_lt_of_le zx_7 hb8.size
        have qy0_8 := (hb8.cell (p := ⟨w5.heap.size, 0, none⟩) zy_7).trans qy0_7
        have qy1_8 := (hb8.cell (p := ⟨w5.heap.size, 1, none⟩) zy_7).trans qy1_7
        have qy2_8 := (hb8.cell (p := ⟨w5.heap.size, 2, none⟩) zy_7).trans qy2_7
        have qy3_8 := (hb8.cell (p := ⟨w5.heap.size, 3, none⟩) zy_7).trans qy3_7
        have zy_8 := Nat.lt_of_lt_of_le zy_7 hb8.size
        have G_8 := Lib.hid (G_7.out.keep hb8)
        have X_8 := Lib.hid (X_7.out.keep hb8)
        have Y_8 := Lib.hid (Y_7.out.keep hb8)
        clear zg_7 G_7 qx1_7 Y_7 qy0_7 zy_7 X_7 qy2_7 qx0_7 qy1_7 qg0_7 zx_7 qx3_7 qx2_7 qy3_7 qg1_7
        obtain ⟨L, t1, t2, t3, t4, t5, t6, t7⟩ := path_all HMK.out HGV.out HEA.out hAN hN12 HF.out HP.out hlt
        obtain ⟨X, hX⟩ : ∃ X : Nat, xo.getD k 0 = X := ⟨(xo.getD k 0).toNat, by have := (HF.out.rng k hlt).1; omega⟩
        have hXN : X < N := by have := (HF.out.rng k hlt).2; omega
        rw [hX] at t1 t2 t6
        rw [Int.toNat_natCast] at t6
        have hXv : X < xv.length := by have := HLV.out; omega
        have hXv' : (X : Int) < xv.length := by omega
        have hpt := fun w' (h : Below w8.heap.size w8 w') => pathTo xl (A : Int) (X : Int) xo xp xv _ _ _ w' (X_8.out.rows.1.keep h) (X_8.out.rows.2.1.keep h) (X_8.out.rows.2.2.keep h) (by have := HLP.out; omega)
        rw [t1, t2] at hpt
        have hpe := fun s t w' (h : RowE w' s es) (q : Row w' t L) => pathEdges (N : Int) es L s t w' h q hle2 (by omega)
        rw [t4] at hpe
        obtain ⟨V, hV⟩ : ∃ V, V = xv.getD X 0 := ⟨_, rfl⟩
        obtain ⟨Ws, hWs⟩ : ∃ Ws, Ws = peL (N : Int) es L := ⟨_, rfl⟩
        rw [← hWs] at hpe t5 t6 t7
        rw [← hV] at t6
        have hpm := fun t w' (q : Row w' t Ws) => iPathMeasure m Ws t w' q (by omega)
        rw [t5, t6] at hpm
        have cok := (HBW.out.cell (p := ⟨bo, oo + k, none⟩) HCo.out.2).trans (HCo.out.1 k hlt)
        rw [hX] at cok
        have cvx := (HBW.out.cell (p := ⟨bv, ov + X, none⟩) HCv.out.2).trans (HCv.out.1 X hXv)
        rw [← hV] at cvx
        have hlo9 := Nat.lt_of_lt_of_le HCo.out.2 sW
        have hlv9 := Nat.lt_of_lt_of_le HCv.out.2 sW
        have HPT := Lib.hid hpt
        have HPE := Lib.hid hpe
        have HPM := Lib.hid hpm
        have HL12 := Lib.hid t3
        have HW12 := Lib.hid t7
        clear hpt hpe hpm t1 t2 t3 t4 t5 t6 t7 hX hV hWs
        have hold : ∀ w' : World, Below w8.heap.size w8 w' → (w'.cell? ⟨w3.heap.size, 0, none⟩ = some (.slice (some ⟨bo, oo, none⟩) xo.length cax) ∧ w'.cell? ⟨w3.heap.size, 1, none⟩ = some (.slice sbx xp.length cbx) ∧ w'.cell? ⟨w3.heap.size, 2, none⟩ = some (.slice (some ⟨bv, ov, none⟩) xv.length ccx) ∧ w'.cell? ⟨w3.heap.size, 3, none⟩ = some (.int .i64 xl) ∧ w'.cell? ⟨bo, oo + k, none⟩ = some (.int .i64 X)) := fun w' h => ⟨(h.cell (p := ⟨w3.heap.size, 0, none⟩) zx_8).trans qx0_8, (h.cell (p := ⟨w3.heap.size, 1, none⟩) zx_8).trans qx1_8, (h.cell (p := ⟨w3.heap.size, 2, none⟩) zx_8).trans qx2_8, (h.cell (p := ⟨w3.heap.size, 3, none⟩) zx_8).trans qx3_8, (h.cell (p := ⟨bo, oo + k, none⟩) hlo9).trans cok⟩
        have HOLD := Lib.hid hold
        clear hold
        go_wp2_with fail
        go_region_held3 (fun w' : World => w'.cell? ⟨w3.heap.size, 0, none⟩ = some (.slice (some ⟨bo, oo, none⟩) xo.length cax) ∧ w'.cell? ⟨w3.heap.size, 1, none⟩ = some (.slice sbx xp.length cbx) ∧ w'.cell? ⟨w3.heap.size, 2, none⟩ = some (.slice (some ⟨bv, ov, none⟩) xv.length ccx) ∧ w'.cell? ⟨w3.heap.size, 3, none⟩ = some (.int .i64 xl) ∧ w'.cell? ⟨bo, oo + k, none⟩ = some (.int .i64 X)) (first | exact HOLD.out _ ((Below.refl _ _).drew) | exact HOLD.out _ (bel_trans ((Below.refl _ _).drew) hb9)) (first | (go_at_call 39; (with_reducible refine (HPT.out _ ((Below.refl _ _).drew)).mono ?_); rintro e w9 ⟨vP, rfl, hownP, hb9⟩; obtain ⟨aP, cP, hP9, hz9⟩ := id hownP; subst hP9; clear hz9))
        have hq : Below w8.heap.size w8 w9 := (bel_trans ((Below.refl _ _).drew) hb9)
        have HRP := Lib.hid (show InR true w9 _ _ (.slice aP L.length cP) L.length 1 (cellI L) from hownP).ints
        clear hb9 hownP HOLD
        have hb9 := hq
        clear hq
        have H9 := bel_trans H8 hb9
        have SZ9 := Lib.hid hb9.size
        have qg0_9 := (hb9.cell (p := ⟨w1.heap.size, 0, none⟩) zg_8).trans qg0_8
        have qg1_9 := (hb9.cell (p := ⟨w1.heap.size, 1, none⟩) zg_8).trans qg1_8
        have zg_9 := Nat.lt_of_lt_of_le zg_8 hb9.size
        have qx0_9 := (hb9.cell (p := ⟨w3.heap.size, 0, none⟩) zx_8).trans qx0_8
        have qx1_9 := (hb9.cell (p := ⟨w3.heap.size, 1, none⟩) zx_8).trans qx1_8
        have qx2_9 := (hb9.cell (p := ⟨w3.heap.size, 2, none⟩) zx_8).trans qx2_8
        have qx3_9 := (hb9.cell (p := ⟨w3.heap.size, 3, none⟩) zx_8).trans qx3_8
        have zx_9 := Nat.lt_of_lt_of_le zx_8 hb9.size
        have qy0_9 := (hb9.cell (p := ⟨w5.heap.size, 0, none⟩) zy_8).trans qy0_8
        have qy1_9 := (hb9.cell (p := ⟨w5.heap.size, 1, none⟩) zy_8).trans qy1_8
        have qy2_9 := (hb9.cell (p := ⟨w5.heap.size, 2, none⟩) zy_8).trans qy2_8
        have qy3_9 := (hb9.cell (p := ⟨w5.heap.size, 3, none⟩) zy_8).trans qy3_8
        have zy_9 := Nat.lt_of_lt_of_le zy_8 hb9.size
        have G_9 := Lib.hid (G_8.out.keep hb9)
        have X_9 := Lib.hid (X_8.out.keep hb9)
        have Y_9 := Lib.hid (Y_8.out.keep hb9)
        clear qg0_8 qg1_8 zg_8 qx0_8 qx1_8 qx2_8 qx3_8 zx_8 qy0_8 qy1_8 qy2_8 qy3_8 zy_8 G_8 X_8 Y_8
        have cok2 := (hb9.cell (p := ⟨bo, oo + k, none⟩) hlo9).trans cok
        have cvx2 := (hb9.cell (p := ⟨bv, ov + X, none⟩) hlv9).trans cvx
        have hlo8 := Nat.lt_of_lt_of_le hlo9 hb9.size
        have hlv8 := Nat.lt_of_lt_of_le hlv9 hb9.size
        clear cok cvx
        go_wp2_with fail
        refine (HPE.out _ _ _ G_9.out.edges HRP.out).mono ?_
        rintro e w10 ⟨vQ, rfl, hownQ, hb10⟩
        have H10 := bel_trans H9 hb10
        have SZ10 := Lib.hid hb10.size
        have qg0_10 := (hb10.cell (p := ⟨w1.heap.size, 0, none⟩) zg_9).trans qg0_9
        have qg1_10 := (hb10.cell (p := ⟨w1.heap.size, 1, none⟩) zg_9).trans qg1_9
        have zg_10 := Nat.lt_of_lt_of_le zg_9 hb10.size
        have qx0_10 := (hb10.cell (p := ⟨w3.heap.size, 0, none⟩) zx_9).trans qx0_9
        have qx1_10 := (hb10.cell (p := ⟨w3.heap.size, 1, none⟩) zx_9).trans qx1_9
        have qx2_10 := (hb10.cell (p := ⟨w3.heap.size, 2, none⟩) zx_9).trans qx2_9
        have qx3_10 := (hb10.cell (p := ⟨w3.heap.size, 3, none⟩) zx_9).trans qx3_9
        have zx_10 := Nat.lt_of_lt_of_le zx_9 hb10.size
        have qy0_10 := (hb10.cell (p := ⟨w5.heap.size, 0, none⟩) zy_9).trans qy0_9
        have qy1_10 := (hb10.cell (p := ⟨w5.heap.size, 1, none⟩) zy_9).trans qy1_9
        have qy2_10 := (hb10.cell (p := ⟨w5.heap.size, 2, none⟩) zy_9).trans qy2_9
        have qy3_10 := (hb10.cell (p := ⟨w5.heap.size, 3, none⟩) zy_9).trans qy3_9
        have zy_10 := Nat.lt_of_lt_of_le zy_9 hb10.size
        have G_10 := Lib.hid (G_9.out.keep hb10)
        have X_10 := Lib.hid (X_9.out.keep hb10)
        have Y_10 := Lib.hid (Y_9.out.keep hb10)
        obtain ⟨aQ, cQ, rfl, hz9⟩ := id hownQ
        clear hz9
        have Q_10 := Lib.hid (show InR true w10 w9.heap.size w10.heap.size _ Ws.length 1 (cellI Ws) from hownQ)
        clear qg0_9 qg1_9 zg_9 qx0_9 qx1_9 qx2_9 qx3_9 zx_9 qy0_9 qy1_9 qy2_9 qy3_9 zy_9 G_9 X_9 Y_9
        clear hownQ
        go_wp2_with fail
        refine (HPM.out _ _ Q_10.out.ints).mono ?_
        rintro e w11 ⟨rfl, hb11⟩
        have H11 := bel_trans H10 hb11
        have SZ11 := Lib.hid hb11.size
        have qg0_11 := (hb11.cell (p := ⟨w1.heap.size, 0, none⟩) zg_10).trans qg0_10
        have qg1_11 := (hb11.cell (p := ⟨w1.heap.size, 1, none⟩) zg_10).trans qg1_10
        have zg_11 := Nat.lt_of_lt_of_le zg_10 hb11.size
        have qx0_11 := (hb11.cell (p := ⟨w3.heap.size, 0, none⟩) zx_10).trans qx0_10
        have qx1_11 := (hb11.cell (p := ⟨w3.heap.size, 1, none⟩) zx_10).trans qx1_10
        have qx2_11 := (hb11.cell (p := ⟨w3.heap.size, 2, none⟩) zx_10).trans qx2_10
        have qx3_11 := (hb11.cell (p := ⟨w3.heap.size, 3, none⟩) zx_10).trans qx3_10
        have zx_11 := Nat.lt_of_lt_of_le zx_10 hb11.size
        have qy0_11 := (hb11.cell (p := ⟨w5.heap.size, 0, none⟩) zy_10).trans qy0_10
        have qy1_11 := (hb11.cell (p := ⟨w5.heap.size, 1, none⟩) zy_10).trans qy1_10
        have qy2_11 := (hb11.cell (p := ⟨w5.heap.size, 2, none⟩) zy_10).trans qy2_10
        have qy3_11 := (hb11.cell (p := ⟨w5.heap.size, 3, none⟩) zy_10).trans qy3_10
        have zy_11 := Nat.lt_of_lt_of_le zy_10 hb11.size
        have G_11 := Lib.hid (G_10.out.keep hb11)
        have X_11 := Lib.hid (X_10.out.keep hb11)
        have Y_11 := Lib.hid (Y_10.out.keep hb11)
        have Q_11 := Lib.hid (Q_10.out.keep hb11)
        clear qg0_10 qg1_10 zg_10 qx0_10 qx1_10 qx2_10 qx3_10 zx_10 qy0_10 qy1_10 qy2_10 qy3_10 zy_10 G_10 X_10 Y_10 Q_10
        have hb98 := bel_trans hb10 hb11
        have cok3 := (hb98.cell (p := ⟨bo, oo + k, none⟩) hlo8).trans cok2
        have cvx3 := (hb98.cell (p := ⟨bv, ov + X, none⟩) hlv8).trans cvx2
        have hlo7 := Nat.lt_of_lt_of_le hlo8 hb98.size
        have hlv7 := Nat.lt_of_lt_of_le hlv8 hb98.size
        have HBE := Lib.hid (bel_trans (bel_trans HBW.out hb9) hb98)
        clear hb98 cok2 cvx2
        have hff : ∀ w' : World, Below w11.heap.size w11 w' → (w'.cell? ⟨w3.heap.size, 0, none⟩ = some (.slice (some ⟨bo, oo, none⟩) xo.length cax) ∧ w'.cell? ⟨w3.heap.size, 2, none⟩ = some (.slice (some ⟨bv, ov, none⟩) xv.length ccx) ∧ w'.cell? ⟨bo, oo + k, none⟩ = some (.int .i64 X) ∧ w'.cell? ⟨bv, ov + X, none⟩ = some (.int .i64 V)) := fun w' h => ⟨(h.cell (p := ⟨w3.heap.size, 0, none⟩) zx_11).trans qx0_11, (h.cell (p := ⟨w3.heap.size, 2, none⟩) zx_11).trans qx2_11, (h.cell (p := ⟨bo, oo + k, none⟩) hlo7).trans cok3, (h.cell (p := ⟨bv, ov + X, none⟩) hlv7).trans cvx3⟩
        have FF := Lib.hid hff
        clear hff
        go_wp2_with fail
        refine wp_region_below (by kernel_rfl) (by kernel_rfl) ?_
        repeat (go_big_quiet_step ((intro hw; first | with_reducible rfl | (obtain ⟨f0, f1, f2, f3⟩ := FF.out _ hw; simp only [f0, f1, f2, f3, Result.andThen]; first | exact ⟨trivial, rfl⟩ | exact ⟨rfl, rfl⟩))))
        refine wpQuiet_nil ?_
        intro w99 hbw99
        go_wp2
        go_roundw
        case rel => first | exact ⟨k + 1, by omega, by omega, by go_num, Lib.hid (bel_trans HBE.out hbw99)⟩ | exact ⟨_, ⟨k + 1, by omega, by omega, by go_num, Lib.hid (bel_trans HBE.out hbw99)⟩, rfl⟩ | ((repeat apply Exists.intro); exact ⟨⟨k + 1, by omega, by omega, by go_num, Lib.hid (bel_trans HBE.out hbw99)⟩, rfl⟩)
        case measure => simp [intOf]; omega
      · have hke : k = xo.length := by omega
        have qx0_r := (HBW.out.cell (p := ⟨w3.heap.size, 0, none⟩) zx_7).trans qx0_7
        have qx1_r := (HBW.out.cell (p := ⟨w3.heap.size, 1, none⟩) zx_7).trans qx1_7
        have qx2_r := (HBW.out.cell (p := ⟨w3.heap.size, 2, none⟩) zx_7).trans qx2_7
        have qx3_r := (HBW.out.cell (p := ⟨w3.heap.size, 3, none⟩) zx_7).trans qx3_7
        have zx_r := Nat.lt_of_lt_of_le zx_7 HBW.out.size
        have hkk : ¬ ((k : Int) < xo.length) := by omega
        clear hke hlt
        go_wp2
        go_ret
        exact ⟨rfl, bel_trans H7 HBW.out⟩

set_option maxRecDepth 100000 in
theorem lifted (os : Os) (started : os.Started) (H : Type) (enc : TypeId × Value → H) :
    ReturnsInHanded {} Try.checked os 10 .any (Rows.fnPathToSpec.pre6 enc Try.prog Try.f10 Rows.fnPathToRow.domain false) (Rows.fnPathToSpec.post enc Try.prog Try.f10 false true false false) := by
  refine returnsInHanded_of_change (C := Try.checked) own started (by kernel_rfl) Try.func10
    (ChangeSpec.witness6 (enc := enc) (C := Try.checked) false ⟨#[], #[.slice none 0 0], []⟩ 8 (by kernel_rfl) (by kernel_rfl) (by kernel_rfl) (by kernel_rfl)) ?_
  intro W base args ds gs before hval0 hW hcnd _
  have hval : ∀ (j : Nat) t v, Try.f10.params[j]? = some t → args[j]? = some v → Value.okWide Try.prog W .any base t v := hval0
  have hW' := hW
  obtain ⟨p, q, hA0, hV, rfl, hfz, hnd⟩ := hW
  have hA : DataW.TrodAll enc Try.prog W 0 (fun _ => true) true Try.f10.params.toList args.toList ds p := hA0
  rw [Try.params10] at hA hval
  obtain ⟨v0, vs0, d0, ds0, p0, q0, hargs, rfl, rfl, h0, r0⟩ := trodAll_cons hA
  obtain ⟨rfl, rfl, rfl⟩ := trodAll_nil r0
  obtain rfl : args = #[v0] := by cases args; simp_all
  obtain ⟨rfl, rfl⟩ := trodVars_none hV
  obtain ⟨a0, len0, cap0, rfl⟩ := okWide_slice Try.underlying50 (hval 0 50 v0 rfl rfl)
  have k0 := h0
  have lt0 : ∀ x ∈ p0, x.block < W.heap.size := by obtain ⟨m, hm⟩ := k0; exact DataW.trod_lt m _ _ _ hm
  obtain ⟨z0, w0⟩ : ∃ zs, IsRow .u8 W a0 len0 cap0 zs := by
    obtain ⟨fuel, hf⟩ := h0
    rcases open_ints Try.underlying50 Try.underlying5 (by kernel_rfl) hf with ⟨hcs, _⟩ | ⟨x, l, c, zs, hcs, _, hl, hm, hz, _, hcell, hwz⟩
    · simp [Value.cells] at hcs
      obtain ⟨rfl, rfl, rfl⟩ := hcs
      exact ⟨[], .inl ⟨rfl, rfl, rfl, rfl⟩⟩
    · simp [Value.cells] at hcs
      obtain ⟨rfl, rfl, rfl⟩ := hcs
      exact ⟨zs, .inr ⟨_, rfl, hl, hm, by simpa using hz, hcell, hwz⟩⟩
  clear hA0 hval0
  refine (walk a0 len0 cap0 z0 W w0).mono fun e W' ⟨he, bel⟩ => ?_
  subst he
  exact ⟨_, rfl, _, _, _, [], _, [], hW', trodAll_mk1 (shut_bool Try.underlying4 _), (trodAll_cons_mk (Below.trod laidOut (by kernel_rfl) (of_decide_eq_true (by kernel_rfl)) k0 bel lt0) trodAll_mk0), rfl, bel.frame _, fun h => by cases h⟩

theorem over : Rows.fnPathToRow.holds Try.pinned (OpenSpec.ofChange Rows.fnPathToSpec) :=
  OpenClaim.holds_of_wide 10 Try.f10 rfl rfl rfl rfl rfl rfl rfl ⟨rfl, rfl, rfl, rfl, rfl⟩ rfl rfl rfl rfl rfl (by kernel_rfl) Try.func10 (by kernel_rfl)
    (of_decide_eq_true (by kernel_rfl)) (by unfold Func.isWrapper; first | (rw [if_pos (by decide +kernel)]; kernel_rfl) | (rw [if_neg (by decide +kernel)]; exact ⟨rfl, rfl⟩))
    (fun os started H enc _ => lifted os started H enc)

theorem proved : Rows.FnPathToSaid := over
end Go.Proofs.Ytlmhccjppmhdbaa.fnPathTo
