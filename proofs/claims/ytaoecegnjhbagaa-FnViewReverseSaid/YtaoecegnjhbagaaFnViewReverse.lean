/-
  Proved: right values to a node are those from it along the turned edges (the law FnViewReverse returns true for every input and leaves it as it was), with no further condition.
-/
import Derived.Test.YtaoecegnjhbagaaRows
import Derived.Test.YtaoecegnjhbagaaDraws3
import Derived.Test.YtaoecegnjhbagaaViewT
import Derived.Test.YtaoecegnjhbagaaMeetV
import Derived.Test.YtaoecegnjhbagaaStartL
import Derived.WalkKit
import Derived.ProofKit
import Derived.OpenShut
import Derived.ShutString
import Derived.ChangeOld
import Derived.Below
namespace Go.Proofs.Ytaoecegnjhbagaa.fnViewReverse
open Go.Proofs.Ytaoecegnjhbagaa Go.BigFrame
open Go.ChangeShapes Go.WideShapes Go.ChangeAt Go.RowKit
open Go.ChangeMaps (open_string shut_string)
set_option linter.unusedVariables false

theorem own : ownKnob Try.prog.godebug = none := by kernel_rfl
theorem laidOut : laidOutB Try.prog = true := by kernel_rfl

def IsRow (k : IntKind) (w : World) (a : Option Addr) (len cap : Nat) (zs : List Int) : Prop :=
  (a = none ∧ len = 0 ∧ cap = 0 ∧ zs = []) ∨
  ∃ x, a = some x ∧ len ≤ cap ∧ cap ≤ maxLen ∧ zs.length = cap ∧ (∀ i, i < zs.length → w.cell? (x.add i) = some (.int k (zs.getD i 0))) ∧ ∀ n ∈ zs, (Lit.int k n).wf = true

theorem bytes_of {w : World} {a : Option Addr} {len cap : Nat} {zs : List Int} (h : IsRow .u8 w a len cap zs) : Bytes w a len ∧ len ≤ cap ∧ len ≤ 9223372036854775807 := by
  rcases h with ⟨rfl, rfl, rfl, rfl⟩ | ⟨x, rfl, hl, hm, hz, hc, hw⟩
  · exact ⟨.inl rfl, Nat.le_refl _, by omega⟩
  · unfold maxLen at hm
    refine ⟨?_, hl, by omega⟩
    by_cases h0 : len = 0
    · exact .inl h0
    · obtain ⟨b, off, rfl, hc'⟩ := ints_at hc (by omega)
      exact .inr ⟨b, off, rfl, World.block_lt_of_cell? _ _ (hc' 0 (by omega)), fun i hi => ⟨zs[i]?.getD 0, (range_u8 hw i).1, (range_u8 hw i).2, hc' i (by omega)⟩⟩

theorem walk (a0 : Option Addr) (len0 cap0 : Nat) (z0 : List Int) (w : World) (w0 : IsRow .u8 w a0 len0 cap0 z0) :
    Calls Try.prog 8 #[.slice a0 len0 cap0] w fun e w' => e = .returned (.bool true) ∧ Below w.heap.size w w' := by
  obtain ⟨hby, hcp, hn⟩ := bytes_of w0
  have HB0 := Lib.hid hby
  clear hby w0
  by_cases h0 : 1048576 < len0
  · go_enter Try.func8, Try.ntmps8
    go_wp2
    go_ret
    exact ⟨rfl, Below.refl _ _⟩
  have h0' : len0 ≤ 1048576 := by omega
  clear h0
  obtain ⟨w0, hw0⟩ : ∃ w0, w0 = w := ⟨_, rfl⟩
  subst hw0
  have H0 := Below.refl w0.heap.size w0
  go_enter Try.func8, Try.ntmps8
  go_wp2_with fail
  refine (dDrawViewOf a0 len0 cap0 _ HB0.out hcp (by omega)).mono ?_
  rintro e w1 ⟨n, es, v, m, src, rfl, hle, hrow, hok, hb1⟩
  have H1 := bel_trans H0 hb1
  have SZ1 := Lib.hid hb1.size
  obtain ⟨va, vc, rfl, hz9⟩ := id hrow
  have HOKG := Lib.hid hok
  clear hz9 hok
  have G_1 := Lib.hid (hrow)
  clear hrow
  go_wp2_with fail
  have hb2 : Below w1.heap.size w1 (w1.alloc (.cells #[.int .i64 n, .slice va es.length vc] 25)) := (Below.refl _ _).alloc (by simp <;> omega) _
  have H2 := bel_trans H1 hb2
  have SZ2 := Lib.hid hb2.size
  have G_2 := Lib.hid (G_1.out.keep hb2)
  have qg0_2 : (w1.alloc (.cells #[.int .i64 n, .slice va es.length vc] 25)).cell? ⟨w1.heap.size, 0, none⟩ = some (.int .i64 n) := by go_simp
  have qg1_2 : (w1.alloc (.cells #[.int .i64 n, .slice va es.length vc] 25)).cell? ⟨w1.heap.size, 1, none⟩ = some (.slice va es.length vc) := by go_simp
  have zg_2 : w1.heap.size < (w1.alloc (.cells #[.int .i64 n, .slice va es.length vc] 25)).heap.size := by simp <;> omega
  generalize (w1.alloc (.cells #[.int .i64 n, .slice va es.length vc] 25)) = w2 at hb2 H2 SZ2 G_2 qg0_2 qg1_2 zg_2 ⊢
  have ZBg := Lib.hid zg_2
  clear G_1
  have hle2 : es.length ≤ 1048576 := by omega
  have hle3 : es.length ≤ 281474976710656 := by omega
  have hst := fun s w (h : RowE w s es) => viewOf n m src es s w h hle3
  have hss := fun s w (h : RowE w s es) => sViewOf n m src es s w h hle3
  cases hk : onOk n es m [src]
  · have e1 : stM n es m src = 0 := by unfold stM; rw [hk]; rfl
    have e2 : stA n es m src = 0 := by unfold stA; rw [hk]; rfl
    have e3 : voL n es m src = [] := by unfold voL; rw [hk]; rfl
    rw [e1, e2, e3, hk] at hst hss
    have HST := Lib.hid hst
    have HSS := Lib.hid hss
    clear hst hss e1 e2 e3 hk
    refine (HST.out _ _ G_2.out.edges).mono ?_
    rintro e w3 ⟨vx, rfl, howx, hokx, hb3⟩
    have H3 := bel_trans H2 hb3
    have SZ3 := Lib.hid hb3.size
    have qg0_3 := (hb3.cell (p := ⟨w1.heap.size, 0, none⟩) zg_2).trans qg0_2
    have qg1_3 := (hb3.cell (p := ⟨w1.heap.size, 1, none⟩) zg_2).trans qg1_2
    have zg_3 := Nat.lt_of_lt_of_le zg_2 hb3.size
    have G_3 := Lib.hid (G_2.out.keep hb3)
    obtain ⟨ax, cx, rfl, hz9⟩ := id howx
    clear hz9 hokx
    have X_3 := Lib.hid (show InR true w3 w2.heap.size w3.heap.size _ ([] : List Int).length 1 (cellI ([] : List Int)) from howx)
    clear zg_2 qg0_2 qg1_2 G_2
    clear howx
    go_wp2_with fail
    have hb4 : Below w3.heap.size w3 (w3.alloc (.cells #[.int .i64 0, .int .i64 0, .slice ax ([] : List Int).length cx] 30)) := (Below.refl _ _).alloc (by simp <;> omega) _
    have H4 := bel_trans H3 hb4
    have SZ4 := Lib.hid hb4.size
    have qg0_4 := (hb4.cell (p := ⟨w1.heap.size, 0, none⟩) zg_3).trans qg0_3
    have qg1_4 := (hb4.cell (p := ⟨w1.heap.size, 1, none⟩) zg_3).trans qg1_3
    have zg_4 := Nat.lt_of_lt_of_le zg_3 hb4.size
    have G_4 := Lib.hid (G_3.out.keep hb4)
    have X_4 := Lib.hid (X_3.out.keep hb4)
    have qx0_4 : (w3.alloc (.cells #[.int .i64 0, .int .i64 0, .slice ax ([] : List Int).length cx] 30)).cell? ⟨w3.heap.size, 0, none⟩ = some (.int .i64 0) := by go_simp
    have qx1_4 : (w3.alloc (.cells #[.int .i64 0, .int .i64 0, .slice ax ([] : List Int).length cx] 30)).cell? ⟨w3.heap.size, 1, none⟩ = some (.int .i64 0) := by go_simp
    have qx2_4 : (w3.alloc (.cells #[.int .i64 0, .int .i64 0, .slice ax ([] : List Int).length cx] 30)).cell? ⟨w3.heap.size, 2, none⟩ = some (.slice ax ([] : List Int).length cx) := by go_simp
    have zx_4 : w3.heap.size < (w3.alloc (.cells #[.int .i64 0, .int .i64 0, .slice ax ([] : List Int).length cx] 30)).heap.size := by simp <;> omega
    generalize (w3.alloc (.cells #[.int .i64 0, .int .i64 0, .slice ax ([] : List Int).length cx] 30)) = w4 at hb4 H4 SZ4 G_4 X_4 qg0_4 qg1_4 qx0_4 qx1_4 qx2_4 zg_4 zx_4 ⊢
    have ZBx := Lib.hid zx_4
    clear qg0_3 qg1_3 zg_3 G_3 X_3
    refine (HSS.out _ _ G_4.out.edges).mono ?_
    rintro e w5 ⟨vy, rfl, howy, hoky, hb5⟩
    have H5 := bel_trans H4 hb5
    have SZ5 := Lib.hid hb5.size
    have qg0_5 := (hb5.cell (p := ⟨w1.heap.size, 0, none⟩) zg_4).trans qg0_4
    have qg1_5 := (hb5.cell (p := ⟨w1.heap.size, 1, none⟩) zg_4).trans qg1_4
    have zg_5 := Nat.lt_of_lt_of_le zg_4 hb5.size
    have qx0_5 := (hb5.cell (p := ⟨w3.heap.size, 0, none⟩) zx_4).trans qx0_4
    have qx1_5 := (hb5.cell (p := ⟨w3.heap.size, 1, none⟩) zx_4).trans qx1_4
    have qx2_5 := (hb5.cell (p := ⟨w3.heap.size, 2, none⟩) zx_4).trans qx2_4
    have zx_5 := Nat.lt_of_lt_of_le zx_4 hb5.size
    have G_5 := Lib.hid (G_4.out.keep hb5)
    have X_5 := Lib.hid (X_4.out.keep hb5)
    obtain ⟨ay, cy, rfl, hz9⟩ := id howy
    clear hz9 hoky
    have Y_5 := Lib.hid (show InR true w5 w4.heap.size w5.heap.size _ ([] : List Int).length 1 (cellI ([] : List Int)) from howy)
    clear qg0_4 qg1_4 zg_4 G_4 X_4 qx0_4 qx1_4 qx2_4 zx_4
    clear howy
    go_wp2_with fail
    have hb6 : Below w5.heap.size w5 (w5.alloc (.cells #[.int .i64 0, .int .i64 0, .slice ay ([] : List Int).length cy] 30)) := (Below.refl _ _).alloc (by simp <;> omega) _
    have H6 := bel_trans H5 hb6
    have SZ6 := Lib.hid hb6.size
    have qg0_6 := (hb6.cell (p := ⟨w1.heap.size, 0, none⟩) zg_5).trans qg0_5
    have qg1_6 := (hb6.cell (p := ⟨w1.heap.size, 1, none⟩) zg_5).trans qg1_5
    have zg_6 := Nat.lt_of_lt_of_le zg_5 hb6.size
    have qx0_6 := (hb6.cell (p := ⟨w3.heap.size, 0, none⟩) zx_5).trans qx0_5
    have qx1_6 := (hb6.cell (p := ⟨w3.heap.size, 1, none⟩) zx_5).trans qx1_5
    have qx2_6 := (hb6.cell (p := ⟨w3.heap.size, 2, none⟩) zx_5).trans qx2_5
    have zx_6 := Nat.lt_of_lt_of_le zx_5 hb6.size
    have G_6 := Lib.hid (G_5.out.keep hb6)
    have X_6 := Lib.hid (X_5.out.keep hb6)
    have Y_6 := Lib.hid (Y_5.out.keep hb6)
    have qy0_6 : (w5.alloc (.cells #[.int .i64 0, .int .i64 0, .slice ay ([] : List Int).length cy] 30)).cell? ⟨w5.heap.size, 0, none⟩ = some (.int .i64 0) := by go_simp
    have qy1_6 : (w5.alloc (.cells #[.int .i64 0, .int .i64 0, .slice ay ([] : List Int).length cy] 30)).cell? ⟨w5.heap.size, 1, none⟩ = some (.int .i64 0) := by go_simp
    have qy2_6 : (w5.alloc (.cells #[.int .i64 0, .int .i64 0, .slice ay ([] : List Int).length cy] 30)).cell? ⟨w5.heap.size, 2, none⟩ = some (.slice ay ([] : List Int).length cy) := by go_simp
    have zy_6 : w5.heap.size < (w5.alloc (.cells #[.int .i64 0, .int .i64 0, .slice ay ([] : List Int).length cy] 30)).heap.size := by simp <;> omega
    generalize (w5.alloc (.cells #[.int .i64 0, .int .i64 0, .slice ay ([] : List Int).length cy] 30)) = w6 at hb6 H6 SZ6 G_6 X_6 Y_6 qg0_6 qg1_6 qx0_6 qx1_6 qx2_6 qy0_6 qy1_6 qy2_6 zg_6 zx_6 zy_6 ⊢
    have ZBy := Lib.hid zy_6
    clear qg0_5 qg1_5 zg_5 qx0_5 qx1_5 qx2_5 zx_5 G_5 X_5 Y_5
    refine (viewSame 0 0 0 0 [] [] _ _ _ X_6.out.rowI Y_6.out.rowI (by simp) (by simp)).mono ?_
    rintro e w7 ⟨rfl, hb7⟩
    have H7 := bel_trans H6 hb7
    have SZ7 := Lib.hid hb7.size
    have qg0_7 := (hb7.cell (p := ⟨w1.heap.size, 0, none⟩) zg_6).trans qg0_6
    have qg1_7 := (hb7.cell (p := ⟨w1.heap.size, 1, none⟩) zg_6).trans qg1_6
    have zg_7 := Nat.lt_of_lt_of_le zg_6 hb7.size
    have qx0_7 := (hb7.cell (p := ⟨w3.heap.size, 0, none⟩) zx_6).trans qx0_6
    have qx1_7 := (hb7.cell (p := ⟨w3.heap.size, 1, none⟩) zx_6).trans qx1_6
    have qx2_7 := (hb7.cell (p := ⟨w3.heap.size, 2, none⟩) zx_6).trans qx2_6
    have zx_7 := Nat.lt_of_lt_of_le zx_6 hb7.size
    have qy0_7 := (hb7.cell (p := ⟨w5.heap.size, 0, none⟩) zy_6).trans qy0_6
    have qy1_7 := (hb7.cell (p := ⟨w5.heap.size, 1, none⟩) zy_6).trans qy1_6
    have qy2_7 := (hb7.cell (p := ⟨w5.heap.size, 2, none⟩) zy_6).trans qy2_6
    have zy_7 := Nat.lt_of_lt_of_le zy_6 hb7.size
    have G_7 := Lib.hid (G_6.out.keep hb7)
    have X_7 := Lib.hid (X_6.out.keep hb7)
    have Y_7 := Lib.hid (Y_6.out.keep hb7)
    clear qg0_6 qg1_6 zg_6 qx0_6 qx1_6 qx2_6 zx_6 G_6 X_6 Y_6 qy0_6 qy1_6 qy2_6 zy_6
    go_wp2_with fail
    refine (viewSame 0 0 0 0 [] [] _ _ _ X_7.out.rowI Y_7.out.rowI (by simp) (by simp)).mono ?_
    rintro e w8 ⟨rfl, hb8⟩
    have H8 := bel_trans H7 hb8
    have SZ8 := Lib.hid hb8.size
    have qg0_8 := (hb8.cell (p := ⟨w1.heap.size, 0, none⟩) zg_7).trans qg0_7
    have qg1_8 := (hb8.cell (p := ⟨w1.heap.size, 1, none⟩) zg_7).trans qg1_7
    have zg_8 := Nat.lt_of_lt_of_le zg_7 hb8.size
    have qx0_8 := (hb8.cell (p := ⟨w3.heap.size, 0, none⟩) zx_7).trans qx0_7
    have qx1_8 := (hb8.cell (p := ⟨w3.heap.size, 1, none⟩) zx_7).trans qx1_7
    have qx2_8 := (hb8.cell (p := ⟨w3.heap.size, 2, none⟩) zx_7).trans qx2_7
    have zx_8 := Nat.lt_of_lt_of_le zx_7 hb8.size
    have qy0_8 := (hb8.cell (p := ⟨w5.heap.size, 0, none⟩) zy_7).trans qy0_7
    have qy1_8 := (hb8.cell (p := ⟨w5.heap.size, 1, none⟩) zy_7).trans qy1_7
    have qy2_8 := (hb8.cell (p := ⟨w5.heap.size, 2, none⟩) zy_7).trans qy2_7
    have zy_8 := Nat.lt_of_lt_of_le zy_7 hb8.size
    have G_8 := Lib.hid (G_7.out.keep hb8)
    have X_8 := Lib.hid (X_7.out.keep hb8)
    have Y_8 := Lib.hid (Y_7.out.keep hb8)
    clear qg0_7 qg1_7 zg_7 qx0_7 qx1_7 qx2_7 zx_7 qy0_7 qy1_7 qy2_7 zy_7 G_7 X_7 Y_7
    go_wp2
    go_ret
    exact ⟨rfl, H8⟩
  · have e1 : stM n es m src = m := by unfold stM; rw [if_pos hk]
    have e2 : stA n es m src = src := by unfold stA; rw [if_pos hk]
    have e3 : voL n es m src = vIter m es n.toNat (vStart m n src) := by unfold voL; rw [if_pos hk]
    rw [e1, e2, e3, hk] at hst hss
    have HST := Lib.hid hst
    have HSS := Lib.hid hss
    obtain ⟨hgv, hsr, hmk⟩ := onOk_one3 hk
    have h12 := (gVal_iff.1 hgv).1.2.1
    obtain ⟨N, hN⟩ : ∃ N : Nat, n = N := ⟨n.toNat, by omega⟩
    obtain ⟨L, hL⟩ : ∃ L, L = vIter m es n.toNat (vStart m n src) := ⟨_, rfl⟩
    have hea := eAll_of hgv
    have hL2 : L = vRt m n es src := by rw [hL]; rfl
    have hlL : L.length = N := by rw [hL2, vRt_length]; omega
    rw [← hL] at HST HSS
    have HG := Lib.hid (And.intro hgv (And.intro hsr (And.intro hmk hea)))
    have HL2 := Lib.hid hL2
    have HLL := Lib.hid hlL
    subst hN
    have hs1 := hsr.1
    have hs2 := hsr.2
    clear hlL hst hss e1 e2 e3 hk hgv hL hL2 hmk hsr hea
    obtain ⟨A, rfl⟩ : ∃ A : Nat, src = A := ⟨src.toNat, by omega⟩
    have hAN : A < N := by omega
    have hrg := fun s w (h : RowE w s es) => reverseGraph N es s w h hle2
    rw [show rgN (N : Int) es = N by unfold rgN; rw [if_pos HG.out.1], show rgL (N : Int) es = rvL es by unfold rgL; rw [if_pos HG.out.1], HG.out.1] at hrg
    have HRG := Lib.hid hrg
    clear hrg
    have hrl : (rvL es).length ≤ 1048576 := by have := (rvL_val HG.out.1).2.2; omega
    have hrf := rev_facts HG.out.1
    have hvk : ∀ k : Nat, k < N → ∀ s w, RowE w s (rvL es) → Calls Try.prog 12 #[.agg #[.int .i64 N, s], .int .i64 m, .int .i64 k] w fun e w' => ∃ v, e = .returned (.tuple #[.agg #[.int .i64 m, .int .i64 k, v], .bool true]) ∧ OwnV w w' v (vRt m N (rvL es) k) ∧ okS v ∧ Below w.heap.size w w' := fun k hk s w h => by
      have hon : onOk (N : Int) (rvL es) m [(k : Int)] = true := onOk_of hrf.1 ⟨by omega, by omega⟩ HG.out.2.2.1
      have hv := viewOf N m k (rvL es) s w h (by omega)
      rw [show stM (N : Int) (rvL es) m (k : Int) = m by unfold stM; rw [if_pos hon], show stA (N : Int) (rvL es) m (k : Int) = k by unfold stA; rw [if_pos hon], show voL (N : Int) (rvL es) m (k : Int) = vRt m N (rvL es) k by unfold voL; rw [if_pos hon]; rfl, hon] at hv
      exact hv
    have HVK := Lib.hid hvk
    clear hvk
    have hat : ∀ k : Nat, k < N → (vRt m (N : Int) (rvL es) (k : Int)).getD A 0 = L.getD k 0 ∧ (vRt m (N : Int) (rvL es) (k : Int)).length = N := fun k hk => by
      rw [HL2.out]
      have := rt_rev (a := (A : Int)) HG.out.1 HG.out.2.1 HG.out.2.2.1 (i := k) (by omega)
      exact ⟨by simpa using this, by rw [vRt_length]; omega⟩
    have HAT := Lib.hid hat
    clear hat hrf
    obtain ⟨R, hR⟩ : ∃ R, R = rvL es := ⟨_, rfl⟩
    rw [← hR] at HRG HVK HAT hrl
    clear hR
    refine (HST.out _ _ G_2.out.edges).mono ?_
    rintro e w3 ⟨vx, rfl, howx, hokx, hb3⟩
    have H3 := bel_trans H2 hb3
    have SZ3 := Lib.hid hb3.size
    have qg0_3 := (hb3.cell (p := ⟨w1.heap.size, 0, none⟩) zg_2).trans qg0_2
    have qg1_3 := (hb3.cell (p := ⟨w1.heap.size, 1, none⟩) zg_2).trans qg1_2
    have zg_3 := Nat.lt_of_lt_of_le zg_2 hb3.size
    have G_3 := Lib.hid (G_2.out.keep hb3)
    obtain ⟨ax, cx, rfl, hz9⟩ := id howx
    clear hz9 hokx
    have X_3 := Lib.hid (show InR true w3 w2.heap.size w3.heap.size _ L.length 1 (cellI L) from howx)
    clear zg_2 qg0_2 qg1_2 G_2
    clear howx
    go_wp2_with fail
    have hb4 : Below w3.heap.size w3 (w3.alloc (.cells #[.int .i64 m, .int .i64 (A : Int), .slice ax L.length cx] 30)) := (Below.refl _ _).alloc (by simp <;> omega) _
    have H4 := bel_trans H3 hb4
    have SZ4 := Lib.hid hb4.size
    have qg0_4 := (hb4.cell (p := ⟨w1.heap.size, 0, none⟩) zg_3).trans qg0_3
    have qg1_4 := (hb4.cell (p := ⟨w1.heap.size, 1, none⟩) zg_3).trans qg1_3
    have zg_4 := Nat.lt_of_lt_of_le zg_3 hb4.size
    have G_4 := Lib.hid (G_3.out.keep hb4)
    have X_4 := Lib.hid (X_3.out.keep hb4)
    have qx0_4 : (w3.alloc (.cells #[.int .i64 m, .int .i64 (A : Int), .slice ax L.length cx] 30)).cell? ⟨w3.heap.size, 0, none⟩ = some (.int .i64 m) := by go_simp
    have qx1_4 : (w3.alloc (.cells #[.int .i64 m, .int .i64 (A : Int), .slice ax L.length cx] 30)).cell? ⟨w3.heap.size, 1, none⟩ = some (.int .i64 (A : Int)) := by go_simp
    have qx2_4 : (w3.alloc (.cells #[.int .i64 m, .int .i64 (A : Int), .slice ax L.length cx] 30)).cell? ⟨w3.heap.size, 2, none⟩ = some (.slice ax L.length cx) := by go_simp
    have zx_4 : w3.heap.size < (w3.alloc (.cells #[.int .i64 m, .int .i64 (A : Int), .slice ax L.length cx] 30)).heap.size := by simp <;> omega
    generalize (w3.alloc (.cells #[.int .i64 m, .int .i64 (A : Int), .slice ax L.length cx] 30)) = w4 at hb4 H4 SZ4 G_4 X_4 qg0_4 qg1_4 qx0_4 qx1_4 qx2_4 zg_4 zx_4 ⊢
    have ZBx := Lib.hid zx_4
    clear qg0_3 qg1_3 zg_3 G_3 X_3
    refine (HSS.out _ _ G_4.out.edges).mono ?_
    rintro e w5 ⟨vy, rfl, howy, hoky, hb5⟩
    have H5 := bel_trans H4 hb5
    have SZ5 := Lib.hid hb5.size
    have qg0_5 := (hb5.cell (p := ⟨w1.heap.size, 0, none⟩) zg_4).trans qg0_4
    have qg1_5 := (hb5.cell (p := ⟨w1.heap.size, 1, none⟩) zg_4).trans qg1_4
    have zg_5 := Nat.lt_of_lt_of_le zg_4 hb5.size
    have qx0_5 := (hb5.cell (p := ⟨w3.heap.size, 0, none⟩) zx_4).trans qx0_4
    have qx1_5 := (hb5.cell (p := ⟨w3.heap.size, 1, none⟩) zx_4).trans qx1_4
    have qx2_5 := (hb5.cell (p := ⟨w3.heap.size, 2, none⟩) zx_4).trans qx2_4
    have zx_5 := Nat.lt_of_lt_of_le zx_4 hb5.size
    have G_5 := Lib.hid (G_4.out.keep hb5)
    have X_5 := Lib.hid (X_4.out.keep hb5)
    obtain ⟨ay, cy, rfl, hz9⟩ := id howy
    clear hz9 hoky
    have Y_5 := Lib.hid (show InR true w5 w4.heap.size w5.heap.size _ L.length 1 (cellI L) from howy)
    clear qg0_4 qg1_4 zg_4 G_4 X_4 qx0_4 qx1_4 qx2_4 zx_4
    clear howy
    go_wp2_with fail
    have hb6 : Below w5.heap.size w5 (w5.alloc (.cells #[.int .i64 m, .int .i64 (A : Int), .slice ay L.length cy] 30)) := (Below.refl _ _).alloc (by simp <;> omega) _
    have H6 := bel_trans H5 hb6
    have SZ6 := Lib.hid hb6.size
    have qg0_6 := (hb6.cell (p := ⟨w1.heap.size, 0, none⟩) zg_5).trans qg0_5
    have qg1_6 := (hb6.cell (p := ⟨w1.heap.size, 1, none⟩) zg_5).trans qg1_5
    have zg_6 := Nat.lt_of_lt_of_le zg_5 hb6.size
    have qx0_6 := (hb6.cell (p := ⟨w3.heap.size, 0, none⟩) zx_5).trans qx0_5
    have qx1_6 := (hb6.cell (p := ⟨w3.heap.size, 1, none⟩) zx_5).trans qx1_5
    have qx2_6 := (hb6.cell (p := ⟨w3.heap.size, 2, none⟩) zx_5).trans qx2_5
    have zx_6 := Nat.lt_of_lt_of_le zx_5 hb6.size
    have G_6 := Lib.hid (G_5.out.keep hb6)
    have X_6 := Lib.hid (X_5.out.keep hb6)
    have Y_6 := Lib.hid (Y_5.out.keep hb6)
    have qy0_6 : (w5.alloc (.cells #[.int .i64 m, .int .i64 (A : Int), .slice ay L.length cy] 30)).cell? ⟨w5.heap.size, 0, none⟩ = some (.int .i64 m) := by go_simp
    have qy1_6 : (w5.alloc (.cells #[.int .i64 m, .int .i64 (A : Int), .slice ay L.length cy] 30)).cell? ⟨w5.heap.size, 1, none⟩ = some (.int .i64 (A : Int)) := by go_simp
    have qy2_6 : (w5.alloc (.cells #[.int .i64 m, .int .i64 (A : Int), .slice ay L.length cy] 30)).cell? ⟨w5.heap.size, 2, none⟩ = some (.slice ay L.length cy) := by go_simp
    have zy_6 : w5.heap.size < (w5.alloc (.cells #[.int .i64 m, .int .i64 (A : Int), .slice ay L.length cy] 30)).heap.size := by simp <;> omega
    generalize (w5.alloc (.cells #[.int .i64 m, .int .i64 (A : Int), .slice ay L.length cy] 30)) = w6 at hb6 H6 SZ6 G_6 X_6 Y_6 qg0_6 qg1_6 qx0_6 qx1_6 qx2_6 qy0_6 qy1_6 qy2_6 zg_6 zx_6 zy_6 ⊢
    have ZBy := Lib.hid zy_6
    clear qg0_5 qg1_5 zg_5 qx0_5 qx1_5 qx2_5 zx_5 G_5 X_5 Y_5
    refine (viewSame m (A : Int) m (A : Int) L L _ _ _ X_6.out.rowI Y_6.out.rowI (by have := HLL.out; omega) (by have := HLL.out; omega)).mono ?_
    rintro e w7 ⟨hS, hb7⟩
    have H7 := bel_trans H6 hb7
    have SZ7 := Lib.hid hb7.size
    have qg0_7 := (hb7.cell (p := ⟨w1.heap.size, 0, none⟩) zg_6).trans qg0_6
    have qg1_7 := (hb7.cell (p := ⟨w1.heap.size, 1, none⟩) zg_6).trans qg1_6
    have zg_7 := Nat.lt_of_lt_of_le zg_6 hb7.size
    have qx0_7 := (hb7.cell (p := ⟨w3.heap.size, 0, none⟩) zx_6).trans qx0_6
    have qx1_7 := (hb7.cell (p := ⟨w3.heap.size, 1, none⟩) zx_6).trans qx1_6
    have qx2_7 := (hb7.cell (p := ⟨w3.heap.size, 2, none⟩) zx_6).trans qx2_6
    have zx_7 := Nat.lt_of_lt_of_le zx_6 hb7.size
    have qy0_7 := (hb7.cell (p := ⟨w5.heap.size, 0, none⟩) zy_6).trans qy0_6
    have qy1_7 := (hb7.cell (p := ⟨w5.heap.size, 1, none⟩) zy_6).trans qy1_6
    have qy2_7 := (hb7.cell (p := ⟨w5.heap.size, 2, none⟩) zy_6).trans qy2_6
    have zy_7 := Nat.lt_of_lt_of_le zy_6 hb7.size
    have G_7 := Lib.hid (G_6.out.keep hb7)
    have X_7 := Lib.hid (X_6.out.keep hb7)
    have Y_7 := Lib.hid (Y_6.out.keep hb7)
    rw [vSame_self] at hS
    subst hS
    clear qg0_6 qg1_6 zg_6 qx0_6 qx1_6 qx2_6 zx_6 G_6 X_6 Y_6 qy0_6 qy1_6 qy2_6 zy_6
    go_wp2_with fail
    refine (HRG.out _ _ G_7.out.edges).mono ?_
    rintro e w8 ⟨vr, rfl, howr, hokr, hb8⟩
    have H8 := bel_trans H7 hb8
    have SZ8 := Lib.hid hb8.size
    have qg0_8 := (hb8.cell (p := ⟨w1.heap.size, 0, none⟩) zg_7).trans qg0_7
    have qg1_8 := (hb8.cell (p := ⟨w1.heap.size, 1, none⟩) zg_7).trans qg1_7
    have zg_8 := Nat.lt_of_lt_of_le zg_7 hb8.size
    have qx0_8 := (hb8.cell (p := ⟨w3.heap.size, 0, none⟩) zx_7).trans qx0_7
    have qx1_8 := (hb8.cell (p := ⟨w3.heap.size, 1, none⟩) zx_7).trans qx1_7
    have qx2_8 := (hb8.cell (p := ⟨w3.heap.size, 2, none⟩) zx_7).trans qx2_7
    have zx_8 := Nat.lt_of_lt_of_le zx_7 hb8.size
    have qy0_8 := (hb8.cell (p := ⟨w5.heap.size, 0, none⟩) zy_7).trans qy0_7
    have qy1_8 := (hb8.cell (p := ⟨w5.heap.size, 1, none⟩) zy_7).trans qy1_7
    have qy2_8 := (hb8.cell (p := ⟨w5.heap.size, 2, none⟩) zy_7).trans qy2_7
    have zy_8 := Nat.lt_of_lt_of_le zy_7 hb8.size
    have G_8 := Lib.hid (G_7.out.keep hb8)
    have X_8 := Lib.hid (X_7.out.keep hb8)
    have Y_8 := Lib.hid (Y_7.out.keep hb8)
    obtain ⟨ar, cr, rfl, hz9⟩ := id howr
    clear hz9 hokr
    have R_8 := Lib.hid (show InR true w8 w7.heap.size w8.heap.size _ R.length 3 (cellE R) from howr)
    clear qg0_7 qg1_7 zg_7 qx0_7 qx1_7 qx2_7 zx_7 qy0_7 qy1_7 qy2_7 zy_7 G_7 X_7 Y_7
    clear howr
    go_wp2_with fail
    have hb9 : Below w8.heap.size w8 (w8.alloc (.cells #[.int .i64 N, .slice ar R.length cr] 25)) := (Below.refl _ _).alloc (by simp <;> omega) _
    have H9 := bel_trans H8 hb9
    have SZ9 := Lib.hid hb9.size
    have qg0_9 := (hb9.cell (p := ⟨w1.heap.size, 0, none⟩) zg_8).trans qg0_8
    have qg1_9 := (hb9.cell (p := ⟨w1.heap.size, 1, none⟩) zg_8).trans qg1_8
    have zg_9 := Nat.lt_of_lt_of_le zg_8 hb9.size
    have qx0_9 := (hb9.cell (p := ⟨w3.heap.size, 0, none⟩) zx_8).trans qx0_8
    have qx1_9 := (hb9.cell (p := ⟨w3.heap.size, 1, none⟩) zx_8).trans qx1_8
    have qx2_9 := (hb9.cell (p := ⟨w3.heap.size, 2, none⟩) zx_8).trans qx2_8
    have zx_9 := Nat.lt_of_lt_of_le zx_8 hb9.size
    have qy0_9 := (hb9.cell (p := ⟨w5.heap.size, 0, none⟩) zy_8).trans qy0_8
    have qy1_9 := (hb9.cell (p := ⟨w5.heap.size, 1, none⟩) zy_8).trans qy1_8
    have qy2_9 := (hb9.cell (p := ⟨w5.heap.size, 2, none⟩) zy_8).trans qy2_8
    have zy_9 := Nat.lt_of_lt_of_le zy_8 hb9.size
    have G_9 := Lib.hid (G_8.out.keep hb9)
    have X_9 := Lib.hid (X_8.out.keep hb9)
    have Y_9 := Lib.hid (Y_8.out.keep hb9)
    have R_9 := Lib.hid (R_8.out.keep hb9)
    have qr0_9 : (w8.alloc (.cells #[.int .i64 N, .slice ar R.length cr] 25)).cell? ⟨w8.heap.size, 0, none⟩ = some (.int .i64 N) := by go_simp
    have qr1_9 : (w8.alloc (.cells #[.int .i64 N, .slice ar R.length cr] 25)).cell? ⟨w8.heap.size, 1, none⟩ = some (.slice ar R.length cr) := by go_simp
    have zr_9 : w8.heap.size < (w8.alloc (.cells #[.int .i64 N, .slice ar R.length cr] 25)).heap.size := by simp <;> omega
    generalize (w8.alloc (.cells #[.int .i64 N, .slice ar R.length cr] 25)) = w9 at hb9 H9 SZ9 G_9 R_9 X_9 Y_9 qg0_9 qg1_9 qr0_9 qr1_9 qx0_9 qx1_9 qx2_9 qy0_9 qy1_9 qy2_9 zg_9 zr_9 zx_9 zy_9 ⊢
    have ZBr := Lib.hid zr_9
    clear qg0_8 qg1_8 zg_8 qx0_8 qx1_8 qx2_8 zx_8 qy0_8 qy1_8 qy2_8 zy_8 G_8 X_8 Y_8 R_8
    obtain ⟨_, _, hva, hz9⟩ := id X_9.out
    injection hva with hv1 hv2 hv3
    subst hv1
    clear hv2 hv3
    rcases hz9 with hz9 | ⟨bx, ox, rfl, hr1, hr2, hr3, hrc⟩
    · have := HLL.out; omega
    have hcl : ∀ k : Nat, k < N → w9.cell? ⟨bx, ox + k, none⟩ = some (.int .i64 (L.getD k 0)) := fun k h => (hrc k (by have := HLL.out; omega)).1
    have HCX := Lib.hid (And.intro hcl (show bx < w9.heap.size by omega))
    clear hcl hrc hr1 hr2 hr3
    go_wp2_with fail
    go_loopw [12] (fun c wr => ∃ k : Nat, k ≤ N ∧ c = .int .i64 k ∧ Hid (Below w9.heap.size w9 wr)) (fun c _ => N - (intOf c).toNat)
    case atStart => exact ⟨0, Nat.zero_le _, rfl, Lib.hid (Below.refl _ _)⟩
    case round =>
      obtain ⟨k, hk, rfl, HBW⟩ := hrel
      have sW := HBW.out.size
      have qg0_r := (HBW.out.cell (p := ⟨w1.heap.size, 0, none⟩) zg_9).trans qg0_9
      have qg1_r := (HBW.out.cell (p := ⟨w1.heap.size, 1, none⟩) zg_9).trans qg1_9
      have zg_r := Nat.lt_of_lt_of_le zg_9 HBW.out.size
      have qx0_r := (HBW.out.cell (p := ⟨w3.heap.size, 0, none⟩) zx_9).trans qx0_9
      have qx1_r := (HBW.out.cell (p := ⟨w3.heap.size, 1, none⟩) zx_9).trans qx1_9
      have qx2_r := (HBW.out.cell (p := ⟨w3.heap.size, 2, none⟩) zx_9).trans qx2_9
      have zx_r := Nat.lt_of_lt_of_le zx_9 HBW.out.size
      have qr0_r := (HBW.out.cell (p := ⟨w8.heap.size, 0, none⟩) zr_9).trans qr0_9
      have qr1_r := (HBW.out.cell (p := ⟨w8.heap.size, 1, none⟩) zr_9).trans qr1_9
      have zr_r := Nat.lt_of_lt_of_le zr_9 HBW.out.size
      by_cases hlt : k < N
      · have hlt' : (k : Int) < N := by omega
        have hkl : k < L.length := by have := HLL.out; omega
        have hkl' : (k : Int) < L.length := by have := HLL.out; omega
        obtain ⟨hat1, hat2⟩ := HAT.out k hlt
        go_wp2_with fail
        refine (HVK.out k hlt _ _ (R_9.out.keep HBW.out).edges).mono ?_
        rintro e w15 ⟨v5, rfl, how5, hok5, hb5⟩
        obtain ⟨a5, c5, h5a, hz5⟩ := id how5
        rcases hz5 with hz5 | ⟨b5, o5, rfl, hr1, hr2, hr3, hrc⟩
        · omega
        subst h5a
        have c5a : w15.cell? ⟨b5, o5 + A, none⟩ = some (.int .i64 (L.getD k 0)) := by rw [← hat1]; exact (hrc A (by omega)).1
        have hal : A < (vRt m (N : Int) R (k : Int)).length := by omega
        have hal' : (A : Int) < (vRt m (N : Int) R (k : Int)).length := by omega
        have hb55 := bel_trans HBW.out hb5
        have qx0_5 := (hb55.cell (p := ⟨w3.heap.size, 0, none⟩) zx_9).trans qx0_9
        have qx1_5 := (hb55.cell (p := ⟨w3.heap.size, 1, none⟩) zx_9).trans qx1_9
        have qx2_5 := (hb55.cell (p := ⟨w3.heap.size, 2, none⟩) zx_9).trans qx2_9
        have zx_5 := Nat.lt_of_lt_of_le zx_9 hb55.size
        have cx5 := (hb55.cell (p := ⟨bx, ox + k, none⟩) HCX.out.2).trans (HCX.out.1 k hlt)
        have zc5 : bx < w15.heap.size := Nat.lt_of_lt_of_le HCX.out.2 hb55.size
        have s5 := hb55.size
        have HB5 := Lib.hid hb55
        obtain ⟨D, hD⟩ : ∃ D, D = (vRt m (N : Int) R (k : Int)).length := ⟨_, rfl⟩
        rw [← hD] at hal hal' ⊢
        clear hb5 hb55 how5 hok5 hrc hat1 hat2 hD
        go_wp2_with fail
        go_quiet (fail)
        go_wp2
        go_roundw
        case rel => first | exact ⟨k + 1, by omega, by go_num, Lib.hid (below_drewN (HB5.out.alloc s5 _) _)⟩ | exact ⟨_, ⟨k + 1, by omega, by go_num, Lib.hid (below_drewN (HB5.out.alloc s5 _) _)⟩, rfl⟩
        case measure => simp [intOf]; omega
      · have hke : k = N := by omega
        have hkk : ¬ ((k : Int) < N) := by omega
        subst hke
        clear hlt
        go_wp2
        go_ret
        exact ⟨rfl, bel_trans H9 HBW.out⟩

set_option maxRecDepth 100000 in
theorem lifted (os : Os) (started : os.Started) (H : Type) (enc : TypeId × Value → H) :
    ReturnsInHanded {} Try.checked os 8 .any (Rows.fnViewReverseSpec.pre6 enc Try.prog Try.f8 Rows.fnViewReverseRow.domain false) (Rows.fnViewReverseSpec.post enc Try.prog Try.f8 false true false false) := by
  refine returnsInHanded_of_change (C := Try.checked) own started (by kernel_rfl) Try.func8
    (ChangeSpec.witness6 (enc := enc) (C := Try.checked) false ⟨#[], #[.slice none 0 0], []⟩ 8 (by kernel_rfl) (by kernel_rfl) (by kernel_rfl) (by kernel_rfl)) ?_
  intro W base args ds gs before hval0 hW hcnd _
  have hval : ∀ (j : Nat) t v, Try.f8.params[j]? = some t → args[j]? = some v → Value.okWide Try.prog W .any base t v := hval0
  have hW' := hW
  obtain ⟨p, q, hA0, hV, rfl, hfz, hnd⟩ := hW
  have hA : DataW.TrodAll enc Try.prog W 0 (fun _ => true) true Try.f8.params.toList args.toList ds p := hA0
  rw [Try.params8] at hA hval
  obtain ⟨v0, vs0, d0, ds0, p0, q0, hargs, rfl, rfl, h0, r0⟩ := trodAll_cons hA
  obtain ⟨rfl, rfl, rfl⟩ := trodAll_nil r0
  obtain rfl : args = #[v0] := by cases args; simp_all
  obtain ⟨rfl, rfl⟩ := trodVars_none hV
  obtain ⟨a0, len0, cap0, rfl⟩ := okWide_slice Try.underlying22 (hval 0 22 v0 rfl rfl)
  have k0 := h0
  have lt0 : ∀ x ∈ p0, x.block < W.heap.size := by obtain ⟨m, hm⟩ := k0; exact DataW.trod_lt m _ _ _ hm
  obtain ⟨z0, w0⟩ : ∃ zs, IsRow .u8 W a0 len0 cap0 zs := by
    obtain ⟨fuel, hf⟩ := h0
    rcases open_ints Try.underlying22 Try.underlying5 (by kernel_rfl) hf with ⟨hcs, _⟩ | ⟨x, l, c, zs, hcs, _, hl, hm, hz, _, hcell, hwz⟩
    · simp [Value.cells] at hcs
      obtain ⟨rfl, rfl, rfl⟩ := hcs
      exact ⟨[], .inl ⟨rfl, rfl, rfl, rfl⟩⟩
    · simp [Value.cells] at hcs
      obtain ⟨rfl, rfl, rfl⟩ := hcs
      exact ⟨zs, .inr ⟨_, rfl, hl, hm, by simpa using hz, hcell, hwz⟩⟩
  clear hA0 hval0
  refine (walk a0 len0 cap0 z0 W w0).mono fun e W' ⟨he, bel⟩ => ?_
  subst he
  exact ⟨_, rfl, _, _, _, [], _, [], hW', trodAll_mk1 (shut_bool Try.underlying4 _), (trodAll_cons_mk (Below.trod laidOut (by kernel_rfl) (of_decide_eq_true (by kernel_rfl)) k0 bel lt0) trodAll_mk0), rfl, bel.frame _, fun h => by cases h⟩

theorem over : Rows.fnViewReverseRow.holds Try.pinned (OpenSpec.ofChange Rows.fnViewReverseSpec) :=
  OpenClaim.holds_of_wide 8 Try.f8 rfl rfl rfl rfl rfl rfl rfl ⟨rfl, rfl, rfl, rfl, rfl⟩ rfl rfl rfl rfl rfl (by kernel_rfl) Try.func8 (by kernel_rfl)
    (of_decide_eq_true (by kernel_rfl)) (by unfold Func.isWrapper; first | (rw [if_pos (by decide +kernel)]; kernel_rfl) | (rw [if_neg (by decide +kernel)]; exact ⟨rfl, rfl⟩))
    (fun os started H enc _ => lifted os started H enc)

theorem proved : Rows.FnViewReverseSaid := over
end Go.Proofs.Ytaoecegnjhbagaa.fnViewReverse
