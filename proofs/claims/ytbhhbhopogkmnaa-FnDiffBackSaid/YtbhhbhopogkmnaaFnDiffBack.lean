/-
  Proved: the changes back are as many as the changes, and there are none from a graph to itself (the law FnDiffBack returns true for every input and leaves it as it was), with no further condition.
-/
import Derived.Test.YtbhhbhopogkmnaaRows
import Derived.Test.YtbhhbhopogkmnaaCaseD
import Derived.Test.YtbhhbhopogkmnaaChgH
import Derived.Test.YtbhhbhopogkmnaaChgQ
import Derived.Test.YtbhhbhopogkmnaaGvChg
import Derived.Test.YtbhhbhopogkmnaaEdgeM
import Derived.WalkKit
import Derived.ProofKit
import Derived.OpenShut
import Derived.ShutString
import Derived.ChangeOld
import Derived.Below
namespace Go.Proofs.Ytbhhbhopogkmnaa.fnDiffBack
open Go.Proofs.Ytbhhbhopogkmnaa Go.BigFrame
open Go.ChangeShapes Go.WideShapes Go.ChangeAt Go.RowKit
open Go.ChangeMaps (open_string shut_string)
set_option linter.unusedVariables false

theorem own : ownKnob Try.prog.godebug = none := by kernel_rfl
theorem laidOut : laidOutB Try.prog = true := by kernel_rfl

def IsRow (k : IntKind) (w : World) (a : Option Addr) (len cap : Nat) (zs : List Int) : Prop :=
  (a = none ∧ len = 0 ∧ cap = 0 ∧ zs = []) ∨
  ∃ x, a = some x ∧ len ≤ cap ∧ cap ≤ maxLen ∧ zs.length = cap ∧ (∀ i, i < zs.length → w.cell? (x.add i) = some (.int k (zs.getD i 0))) ∧ ∀ n ∈ zs, (Lit.int k n).wf = true

theorem bytes_of {w : World} {a : Option Addr} {len cap : Nat} {zs : List Int} (h : IsRow .u8 w a len cap zs) : Bytes w a len ∧ len ≤ cap ∧ len ≤ 9223372036854775807 := by
  rcases h with ⟨rfl, rfl, rfl, rfl⟩ | ⟨x, rfl, hl, hm, hz, hc, hw⟩
  · exact ⟨.inl rfl, Nat.le_refl _, by omega⟩
  · unfold maxLen at hm
    refine ⟨?_, hl, by omega⟩
    by_cases h0 : len = 0
    · exact .inl h0
    · obtain ⟨b, off, rfl, hc'⟩ := ints_at hc (by omega)
      exact .inr ⟨b, off, rfl, World.block_lt_of_cell? _ _ (hc' 0 (by omega)), fun i hi => ⟨zs[i]?.getD 0, (range_u8 hw i).1, (range_u8 hw i).2, hc' i (by omega)⟩⟩

set_option maxRecDepth 100000 in
set_option maxHeartbeats 4000000 in
theorem walk (a0 : Option Addr) (len0 cap0 : Nat) (z0 : List Int) (w : World) (w0 : IsRow .u8 w a0 len0 cap0 z0) :
    Calls Try.prog 9 #[.slice a0 len0 cap0] w fun e w' => e = .returned (.bool true) ∧ Below w.heap.size w w' := by
  obtain ⟨hby, hcp, hn⟩ := bytes_of w0
  have HB0 := Lib.hid hby
  clear hby w0
  by_cases h0 : 1048576 < len0
  · go_enter Try.func9, Try.ntmps9
    go_wp2
    go_ret
    exact ⟨rfl, Below.refl _ _⟩
  have h0' : len0 ≤ 1048576 := by omega
  clear h0
  obtain ⟨w0, hw0⟩ : ∃ w0, w0 = w := ⟨_, rfl⟩
  subst hw0
  have H0 := Below.refl w0.heap.size w0
  go_enter Try.func9, Try.ntmps9
  go_wp2_with fail
  refine (dDrawDiffGraphs a0 len0 cap0 _ HB0.out hcp (by omega)).mono ?_
  rintro e w1 ⟨n, es, v, m, fs, u, rfl, ⟨hl1, hl2⟩, ⟨hrow, hok⟩, ⟨hrow2, hok2⟩, hb1⟩
  have H1 := bel_trans H0 hb1
  have SZ1 := Lib.hid hb1.size
  obtain ⟨va, vc, rfl, hz9⟩ := id hrow
  obtain ⟨ua, uc, rfl, hz8⟩ := id hrow2
  have HOKG := Lib.hid hok
  have HOKH := Lib.hid hok2
  clear hz9 hz8 hok hok2
  have F_1 := Lib.hid (show InR true w1 w0.heap.size w1.heap.size _ fs.length 3 (cellE fs) from hrow2)
  clear hrow2
  have G_1 := Lib.hid (hrow)
  clear hrow
  go_wp2_with fail
  have hb2 : Below w1.heap.size w1 ((w1.alloc (.cells #[.int .i64 n, .slice va es.length vc] 34)).alloc (.cells #[.int .i64 m, .slice ua fs.length uc] 34)) := ((Below.refl _ _).alloc (by simp <;> omega) _).alloc (by simp <;> omega) _
  have H2 := bel_trans H1 hb2
  have SZ2 := Lib.hid hb2.size
  have G_2 := Lib.hid (G_1.out.keep hb2)
  have F_2 := Lib.hid (F_1.out.keep hb2)
  have qg0_2 : ((w1.alloc (.cells #[.int .i64 n, .slice va es.length vc] 34)).alloc (.cells #[.int .i64 m, .slice ua fs.length uc] 34)).cell? ⟨w1.heap.size, 0, none⟩ = some (.int .i64 n) := by go_simp
  have qg1_2 : ((w1.alloc (.cells #[.int .i64 n, .slice va es.length vc] 34)).alloc (.cells #[.int .i64 m, .slice ua fs.length uc] 34)).cell? ⟨w1.heap.size, 1, none⟩ = some (.slice va es.length vc) := by go_simp
  have zg_2 : w1.heap.size < ((w1.alloc (.cells #[.int .i64 n, .slice va es.length vc] 34)).alloc (.cells #[.int .i64 m, .slice ua fs.length uc] 34)).heap.size := by simp <;> omega
  have qh0_2 : ((w1.alloc (.cells #[.int .i64 n, .slice va es.length vc] 34)).alloc (.cells #[.int .i64 m, .slice ua fs.length uc] 34)).cell? ⟨w1.heap.size + 1, 0, none⟩ = some (.int .i64 m) := by go_simp
  have qh1_2 : ((w1.alloc (.cells #[.int .i64 n, .slice va es.length vc] 34)).alloc (.cells #[.int .i64 m, .slice ua fs.length uc] 34)).cell? ⟨w1.heap.size + 1, 1, none⟩ = some (.slice ua fs.length uc) := by go_simp
  have zh_2 : w1.heap.size + 1 < ((w1.alloc (.cells #[.int .i64 n, .slice va es.length vc] 34)).alloc (.cells #[.int .i64 m, .slice ua fs.length uc] 34)).heap.size := by simp <;> omega
  generalize ((w1.alloc (.cells #[.int .i64 n, .slice va es.length vc] 34)).alloc (.cells #[.int .i64 m, .slice ua fs.length uc] 34)) = w2 at hb2 H2 SZ2 F_2 G_2 qg0_2 qg1_2 qh0_2 qh1_2 zg_2 zh_2 ⊢
  have ZBg := Lib.hid zg_2
  have ZBh := Lib.hid zh_2
  clear F_1 G_1
  have hle2 : es.length ≤ 1048576 := by omega
  have hle3 : fs.length ≤ 1048576 := by omega
  have hst := fun s t w (h1 : RowE w s es) (h2 : RowE w t fs) (k1 : okS s) (k2 : okS t) => diffGraphs n m es fs s t w h1 h2 k1 k2 (by omega) (by omega)
  have hss := fun s t w (h1 : RowE w s es) (h2 : RowE w t fs) (k1 : okS s) (k2 : okS t) => sDiffGraphs n m es fs s t w h1 h2 k1 k2 (by omega) (by omega)
  have hbk := fun s t w (h1 : RowE w s fs) (h2 : RowE w t es) (k1 : okS s) (k2 : okS t) => diffGraphs m n fs es s t w h1 h2 k1 k2 (by omega) (by omega)
  have hsw : dfB m fs n es = dfB n es m fs := by
    unfold dfB
    rw [show decide (m = n) = decide (n = m) from decide_eq_decide.2 eq_comm, Bool.and_comm (gVal m fs)]
  rw [hsw] at hbk
  cases hk : dfB n es m fs
  · rw [show dfR n es m fs = [] by unfold dfR; rw [hk]; rfl, hk] at hst hss
    rw [show dfR m fs n es = [] by unfold dfR; rw [hsw, hk]; rfl, hk] at hbk
    have HST := Lib.hid hst
    have HSS := Lib.hid hss
    have HBK := Lib.hid hbk
    clear hst hss hbk hk hsw
    go_wp2_with fail
    refine (HST.out _ _ _ G_2.out.edges F_2.out.edges HOKG.out HOKH.out).mono ?_
    rintro e w3 ⟨vx, rfl, howx, hokx, hb3⟩
    have H3 := bel_trans H2 hb3
    have SZ3 := Lib.hid hb3.size
    have qg0_3 := (hb3.cell (p := ⟨w1.heap.size, 0, none⟩) zg_2).trans qg0_2
    have qg1_3 := (hb3.cell (p := ⟨w1.heap.size, 1, none⟩) zg_2).trans qg1_2
    have zg_3 := Nat.lt_of_lt_of_le zg_2 hb3.size
    have qh0_3 := (hb3.cell (p := ⟨w1.heap.size + 1, 0, none⟩) zh_2).trans qh0_2
    have qh1_3 := (hb3.cell (p := ⟨w1.heap.size + 1, 1, none⟩) zh_2).trans qh1_2
    have zh_3 := Nat.lt_of_lt_of_le zh_2 hb3.size
    have G_3 := Lib.hid (G_2.out.keep hb3)
    have F_3 := Lib.hid (F_2.out.keep hb3)
    obtain ⟨ax, cx, rfl, hz9⟩ := id howx
    have HOKx := Lib.hid hokx
    clear hz9 hokx
    have X_3 := Lib.hid (show InR true w3 w2.heap.size w3.heap.size _ ([] : List Ch).length 4 (cellCh ([] : List Ch)) from howx)
    clear qh0_2 qh1_2 zg_2 F_2 qg1_2 zh_2 G_2 qg0_2
    clear howx
    go_wp2_with fail
    refine (HSS.out _ _ _ G_3.out.edges F_3.out.edges HOKG.out HOKH.out).mono ?_
    rintro e w4 ⟨vu, rfl, howu, hoku, hb4⟩
    have H4 := bel_trans H3 hb4
    have SZ4 := Lib.hid hb4.size
    have qg0_4 := (hb4.cell (p := ⟨w1.heap.size, 0, none⟩) zg_3).trans qg0_3
    have qg1_4 := (hb4.cell (p := ⟨w1.heap.size, 1, none⟩) zg_3).trans qg1_3
    have zg_4 := Nat.lt_of_lt_of_le zg_3 hb4.size
    have qh0_4 := (hb4.cell (p := ⟨w1.heap.size + 1, 0, none⟩) zh_3).trans qh0_3
    have qh1_4 := (hb4.cell (p := ⟨w1.heap.size + 1, 1, none⟩) zh_3).trans qh1_3
    have zh_4 := Nat.lt_of_lt_of_le zh_3 hb4.size
    have G_4 := Lib.hid (G_3.out.keep hb4)
    have F_4 := Lib.hid (F_3.out.keep hb4)
    have X_4 := Lib.hid (X_3.out.keep hb4)
    obtain ⟨au, cu, rfl, hz9⟩ := id howu
    have HOKu := Lib.hid hoku
    clear hz9 hoku
    have U_4 := Lib.hid (show InR true w4 w3.heap.size w4.heap.size _ ([] : List Ch).length 4 (cellCh ([] : List Ch)) from howu)
    clear qg0_3 qg1_3 zg_3 qh0_3 qh1_3 zh_3 G_3 F_3 X_3
    clear howu
    go_wp2_with fail
    refine (HBK.out _ _ _ F_4.out.edges G_4.out.edges HOKH.out HOKG.out).mono ?_
    rintro e w5 ⟨vy, rfl, howy, hoky, hb5⟩
    have H5 := bel_trans H4 hb5
    have SZ5 := Lib.hid hb5.size
    have qg0_5 := (hb5.cell (p := ⟨w1.heap.size, 0, none⟩) zg_4).trans qg0_4
    have qg1_5 := (hb5.cell (p := ⟨w1.heap.size, 1, none⟩) zg_4).trans qg1_4
    have zg_5 := Nat.lt_of_lt_of_le zg_4 hb5.size
    have qh0_5 := (hb5.cell (p := ⟨w1.heap.size + 1, 0, none⟩) zh_4).trans qh0_4
    have qh1_5 := (hb5.cell (p := ⟨w1.heap.size + 1, 1, none⟩) zh_4).trans qh1_4
    have zh_5 := Nat.lt_of_lt_of_le zh_4 hb5.size
    have G_5 := Lib.hid (G_4.out.keep hb5)
    have F_5 := Lib.hid (F_4.out.keep hb5)
    have X_5 := Lib.hid (X_4.out.keep hb5)
    have U_5 := Lib.hid (U_4.out.keep hb5)
    obtain ⟨ay, cy, rfl, hz9⟩ := id howy
    have HOKy := Lib.hid hoky
    clear hz9 hoky
    have Y_5 := Lib.hid (show InR true w5 w4.heap.size w5.heap.size _ ([] : List Ch).length 4 (cellCh ([] : List Ch)) from howy)
    clear qg0_4 qg1_4 zg_4 qh0_4 qh1_4 zh_4 G_4 F_4 X_4 U_4
    clear howy
    go_wp2_with fail
    refine (gvChanges ([] : List Ch) _ _ _ X_5.out.changes U_5.out.changes (by first | omega | simp)).mono ?_
    rintro e w6 ⟨rfl, hb6⟩
    have H6 := bel_trans H5 hb6
    have SZ6 := Lib.hid hb6.size
    have qg0_6 := (hb6.cell (p := ⟨w1.heap.size, 0, none⟩) zg_5).trans qg0_5
    have qg1_6 := (hb6.cell (p := ⟨w1.heap.size, 1, none⟩) zg_5).trans qg1_5
    have zg_6 := Nat.lt_of_lt_of_le zg_5 hb6.size
    have qh0_6 := (hb6.cell (p := ⟨w1.heap.size + 1, 0, none⟩) zh_5).trans qh0_5
    have qh1_6 := (hb6.cell (p := ⟨w1.heap.size + 1, 1, none⟩) zh_5).trans qh1_5
    have zh_6 := Nat.lt_of_lt_of_le zh_5 hb6.size
    have G_6 := Lib.hid (G_5.out.keep hb6)
    have F_6 := Lib.hid (F_5.out.keep hb6)
    have X_6 := Lib.hid (X_5.out.keep hb6)
    have U_6 := Lib.hid (U_5.out.keep hb6)
    have Y_6 := Lib.hid (Y_5.out.keep hb6)
    clear qg0_5 qg1_5 zg_5 qh0_5 qh1_5 zh_5 G_5 F_5 X_5 U_5 Y_5
    go_wp2_with fail
    refine (gvChanges ([] : List Ch) _ _ _ X_6.out.changes U_6.out.changes (by first | omega | simp)).mono ?_
    rintro e w7 ⟨rfl, hb7⟩
    have H7 := bel_trans H6 hb7
    have SZ7 := Lib.hid hb7.size
    have qg0_7 := (hb7.cell (p := ⟨w1.heap.size, 0, none⟩) zg_6).trans qg0_6
    have qg1_7 := (hb7.cell (p := ⟨w1.heap.size, 1, none⟩) zg_6).trans qg1_6
    have zg_7 := Nat.lt_of_lt_of_le zg_6 hb7.size
    have qh0_7 := (hb7.cell (p := ⟨w1.heap.size + 1, 0, none⟩) zh_6).trans qh0_6
    have qh1_7 := (hb7.cell (p := ⟨w1.heap.size + 1, 1, none⟩) zh_6).trans qh1_6
    have zh_7 := Nat.lt_of_lt_of_le zh_6 hb7.size
    have G_7 := Lib.hid (G_6.out.keep hb7)
    have F_7 := Lib.hid (F_6.out.keep hb7)
    have X_7 := Lib.hid (X_6.out.keep hb7)
    have U_7 := Lib.hid (U_6.out.keep hb7)
    have Y_7 := Lib.hid (Y_6.out.keep hb7)
    clear qg0_6 qg1_6 zg_6 qh0_6 qh1_6 zh_6 G_6 F_6 X_6 U_6 Y_6
    go_wp2
    go_ret
    exact ⟨rfl, H7⟩
  · rw [show dfR n es m fs = dfL es fs by unfold dfR; rw [if_pos hk], hk] at hst hss
    rw [show dfR m fs n es = dfL fs es by unfold dfR; rw [hsw, if_pos hk], hk] at hbk
    have hk2 := hk
    unfold dfB at hk2
    rw [Bool.and_eq_true, Bool.and_eq_true, decide_eq_true_eq] at hk2
    obtain ⟨⟨ha, hb⟩, hnm⟩ := hk2
    subst hnm
    have hsf := fun s t w (h1 : RowE w s es) (h2 : RowE w t es) (k1 : okS s) (k2 : okS t) => diffGraphs n n es es s t w h1 h2 k1 k2 (by omega) (by omega)
    have haa : dfB n es n es = true := by simp [dfB, ha]
    rw [show dfR n es n es = [] by unfold dfR; rw [if_pos haa]; exact diff_self es, haa] at hsf
    have hll := dfL_len ha hb
    have hdb := diff_back ha hb
    obtain ⟨N, hN⟩ : ∃ N, N = dfL es fs := ⟨_, rfl⟩
    obtain ⟨M, hM⟩ : ∃ N, N = dfL fs es := ⟨_, rfl⟩
    rw [← hN] at hst hss hll hdb
    rw [← hM] at hbk hdb
    have hnl : N.length ≤ 1048576 := by omega
    have hdi : ((M.length : Int) == N.length) = true := by simp [hdb]
    have hdj : (M.length : Int) = N.length := by omega
    have HST := Lib.hid hst
    have HSS := Lib.hid hss
    have HBK := Lib.hid hbk
    have HSF := Lib.hid hsf
    clear hst hss hbk hsf hsw hN hM ha hb hk haa hdb
    go_wp2_with fail
    refine (HST.out _ _ _ G_2.out.edges F_2.out.edges HOKG.out HOKH.out).mono ?_
    rintro e w3 ⟨vx, rfl, howx, hokx, hb3⟩
    have H3 := bel_trans H2 hb3
    have SZ3 := Lib.hid hb3.size
    have qg0_3 := (hb3.cell (p := ⟨w1.heap.size, 0, none⟩) zg_2).trans qg0_2
    have qg1_3 := (hb3.cell (p := ⟨w1.heap.size, 1, none⟩) zg_2).trans qg1_2
    have zg_3 := Nat.lt_of_lt_of_le zg_2 hb3.size
    have qh0_3 := (hb3.cell (p := ⟨w1.heap.size + 1, 0, none⟩) zh_2).trans qh0_2
    have qh1_3 := (hb3.cell (p := ⟨w1.heap.size + 1, 1, none⟩) zh_2).trans qh1_2
    have zh_3 := Nat.lt_of_lt_of_le zh_2 hb3.size
    have G_3 := Lib.hid (G_2.out.keep hb3)
    have F_3 := Lib.hid (F_2.out.keep hb3)
    obtain ⟨ax, cx, rfl, hz9⟩ := id howx
    have HOKx := Lib.hid hokx
    clear hz9 hokx
    have X_3 := Lib.hid (show InR true w3 w2.heap.size w3.heap.size _ N.length 4 (cellCh N) from howx)
    clear qh0_2 qh1_2 zg_2 F_2 qg1_2 zh_2 G_2 qg0_2
    clear howx
    go_wp2_with fail
    refine (HSS.out _ _ _ G_3.out.edges F_3.out.edges HOKG.out HOKH.out).mono ?_
    rintro e w4 ⟨vu, rfl, howu, hoku, hb4⟩
    have H4 := bel_trans H3 hb4
    have SZ4 := Lib.hid hb4.size
    have qg0_4 := (hb4.cell (p := ⟨w1.heap.size, 0, none⟩) zg_3).trans qg0_3
    have qg1_4 := (hb4.cell (p := ⟨w1.heap.size, 1, none⟩) zg_3).trans qg1_3
    have zg_4 := Nat.lt_of_lt_of_le zg_3 hb4.size
    have qh0_4 := (hb4.cell (p := ⟨w1.heap.size + 1, 0, none⟩) zh_3).trans qh0_3
    have qh1_4 := (hb4.cell (p := ⟨w1.heap.size + 1, 1, none⟩) zh_3).trans qh1_3
    have zh_4 := Nat.lt_of_lt_of_le zh_3 hb4.size
    have G_4 := Lib.hid (G_3.out.keep hb4)
    have F_4 := Lib.hid (F_3.out.keep hb4)
    have X_4 := Lib.hid (X_3.out.keep hb4)
    obtain ⟨au, cu, rfl, hz9⟩ := id howu
    have HOKu := Lib.hid hoku
    clear hz9 hoku
    have U_4 := Lib.hid (show InR true w4 w3.heap.size w4.heap.size _ N.length 4 (cellCh N) from howu)
    clear qg0_3 qg1_3 zg_3 qh0_3 qh1_3 zh_3 G_3 F_3 X_3
    clear howu
    go_wp2_with fail
    refine (HBK.out _ _ _ F_4.out.edges G_4.out.edges HOKH.out HOKG.out).mono ?_
    rintro e w5 ⟨vy, rfl, howy, hoky, hb5⟩
    have H5 := bel_trans H4 hb5
    have SZ5 := Lib.hid hb5.size
    have qg0_5 := (hb5.cell (p := ⟨w1.heap.size, 0, none⟩) zg_4).trans qg0_4
    have qg1_5 := (hb5.cell (p := ⟨w1.heap.size, 1, none⟩) zg_4).trans qg1_4
    have zg_5 := Nat.lt_of_lt_of_le zg_4 hb5.size
    have qh0_5 := (hb5.cell (p := ⟨w1.heap.size + 1, 0, none⟩) zh_4).trans qh0_4
    have qh1_5 := (hb5.cell (p := ⟨w1.heap.size + 1, 1, none⟩) zh_4).trans qh1_4
    have zh_5 := Nat.lt_of_lt_of_le zh_4 hb5.size
    have G_5 := Lib.hid (G_4.out.keep hb5)
    have F_5 := Lib.hid (F_4.out.keep hb5)
    have X_5 := Lib.hid (X_4.out.keep hb5)
    have U_5 := Lib.hid (U_4.out.keep hb5)
    obtain ⟨ay, cy, rfl, hz9⟩ := id howy
    have HOKy := Lib.hid hoky
    clear hz9 hoky
    have Y_5 := Lib.hid (show InR true w5 w4.heap.size w5.heap.size _ M.length 4 (cellCh M) from howy)
    clear qg0_4 qg1_4 zg_4 qh0_4 qh1_4 zh_4 G_4 F_4 X_4 U_4
    clear howy
    go_wp2_with fail
    refine (gvChanges N _ _ _ X_5.out.changes U_5.out.changes (by first | omega | simp)).mono ?_
    rintro e w6 ⟨rfl, hb6⟩
    have H6 := bel_trans H5 hb6
    have SZ6 := Lib.hid hb6.size
    have qg0_6 := (hb6.cell (p := ⟨w1.heap.size, 0, none⟩) zg_5).trans qg0_5
    have qg1_6 := (hb6.cell (p := ⟨w1.heap.size, 1, none⟩) zg_5).trans qg1_5
    have zg_6 := Nat.lt_of_lt_of_le zg_5 hb6.size
    have qh0_6 := (hb6.cell (p := ⟨w1.heap.size + 1, 0, none⟩) zh_5).trans qh0_5
    have qh1_6 := (hb6.cell (p := ⟨w1.heap.size + 1, 1, none⟩) zh_5).trans qh1_5
    have zh_6 := Nat.lt_of_lt_of_le zh_5 hb6.size
    have G_6 := Lib.hid (G_5.out.keep hb6)
    have F_6 := Lib.hid (F_5.out.keep hb6)
    have X_6 := Lib.hid (X_5.out.keep hb6)
    have U_6 := Lib.hid (U_5.out.keep hb6)
    have Y_6 := Lib.hid (Y_5.out.keep hb6)
    clear qg0_5 qg1_5 zg_5 qh0_5 qh1_5 zh_5 G_5 F_5 X_5 U_5 Y_5
    go_wp2_with fail
    refine (HSF.out _ _ _ G_6.out.edges G_6.out.edges HOKG.out HOKG.out).mono ?_
    rintro e w7 ⟨vz, rfl, howz, hokz, hb7⟩
    have H7 := bel_trans H6 hb7
    have SZ7 := Lib.hid hb7.size
    have qg0_7 := (hb7.cell (p := ⟨w1.heap.size, 0, none⟩) zg_6).trans qg0_6
    have qg1_7 := (hb7.cell (p := ⟨w1.heap.size, 1, none⟩) zg_6).trans qg1_6
    have zg_7 := Nat.lt_of_lt_of_le zg_6 hb7.size
    have qh0_7 := (hb7.cell (p := ⟨w1.heap.size + 1, 0, none⟩) zh_6).trans qh0_6
    have qh1_7 := (hb7.cell (p := ⟨w1.heap.size + 1, 1, none⟩) zh_6).trans qh1_6
    have zh_7 := Nat.lt_of_lt_of_le zh_6 hb7.size
    have G_7 := Lib.hid (G_6.out.keep hb7)
    have F_7 := Lib.hid (F_6.out.keep hb7)
    have X_7 := Lib.hid (X_6.out.keep hb7)
    have U_7 := Lib.hid (U_6.out.keep hb7)
    have Y_7 := Lib.hid (Y_6.out.keep hb7)
    obtain ⟨az, cz, rfl, hz9⟩ := id howz
    have HOKz := Lib.hid hokz
    clear hz9 hokz
    have Z_7 := Lib.hid (show InR true w7 w6.heap.size w7.heap.size _ ([] : List Ch).length 4 (cellCh ([] : List Ch)) from howz)
    clear qg0_6 qg1_6 zg_6 qh0_6 qh1_6 zh_6 G_6 F_6 X_6 U_6 Y_6
    clear howz
    go_wp2
    go_ret
    exact ⟨by first | rfl | simp, H7⟩

set_option maxRecDepth 100000 in
theorem lifted (os : Os) (started : os.Started) (H : Type) (enc : TypeId × Value → H) :
    ReturnsInHanded {} Try.checked os 9 .any (Rows.fnDiffBackSpec.pre6 enc Try.prog Try.f9 Rows.fnDiffBackRow.domain false) (Rows.fnDiffBackSpec.post enc Try.prog Try.f9 false true false false) := by
  refine returnsInHanded_of_change (C := Try.checked) own started (by kernel_rfl) Try.func9
    (ChangeSpec.witness6 (enc := enc) (C := Try.checked) false ⟨#[], #[.slice none 0 0], []⟩ 8 (by kernel_rfl) (by kernel_rfl) (by kernel_rfl) (by kernel_rfl)) ?_
  intro W base args ds gs before hval0 hW hcnd _
  have hval : ∀ (j : Nat) t v, Try.f9.params[j]? = some t → args[j]? = some v → Value.okWide Try.prog W .any base t v := hval0
  have hW' := hW
  obtain ⟨p, q, hA0, hV, rfl, hfz, hnd⟩ := hW
  have hA : DataW.TrodAll enc Try.prog W 0 (fun _ => true) true Try.f9.params.toList args.toList ds p := hA0
  rw [Try.params9] at hA hval
  obtain ⟨v0, vs0, d0, ds0, p0, q0, hargs, rfl, rfl, h0, r0⟩ := trodAll_cons hA
  obtain ⟨rfl, rfl, rfl⟩ := trodAll_nil r0
  obtain rfl : args = #[v0] := by cases args; simp_all
  obtain ⟨rfl, rfl⟩ := trodVars_none hV
  obtain ⟨a0, len0, cap0, rfl⟩ := okWide_slice Try.underlying22 (hval 0 22 v0 rfl rfl)
  have k0 := h0
  have lt0 : ∀ x ∈ p0, x.block < W.heap.size := by obtain ⟨m, hm⟩ := k0; exact DataW.trod_lt m _ _ _ hm
  obtain ⟨z0, w0⟩ : ∃ zs, IsRow .u8 W a0 len0 cap0 zs := by
    obtain ⟨fuel, hf⟩ := h0
    rcases open_ints Try.underlying22 Try.underlying5 (by kernel_rfl) hf with ⟨hcs, _⟩ | ⟨x, l, c, zs, hcs, _, hl, hm, hz, _, hcell, hwz⟩
    · simp [Value.cells] at hcs
      obtain ⟨rfl, rfl, rfl⟩ := hcs
      exact ⟨[], .inl ⟨rfl, rfl, rfl, rfl⟩⟩
    · simp [Value.cells] at hcs
      obtain ⟨rfl, rfl, rfl⟩ := hcs
      exact ⟨zs, .inr ⟨_, rfl, hl, hm, by simpa using hz, hcell, hwz⟩⟩
  clear hA0 hval0
  refine (walk a0 len0 cap0 z0 W w0).mono fun e W' ⟨he, bel⟩ => ?_
  subst he
  exact ⟨_, rfl, _, _, _, [], _, [], hW', trodAll_mk1 (shut_bool Try.underlying4 _), (trodAll_cons_mk (Below.trod laidOut (by kernel_rfl) (of_decide_eq_true (by kernel_rfl)) k0 bel lt0) trodAll_mk0), rfl, bel.frame _, fun h => by cases h⟩

theorem over : Rows.fnDiffBackRow.holds Try.pinned (OpenSpec.ofChange Rows.fnDiffBackSpec) :=
  OpenClaim.holds_of_wide 9 Try.f9 rfl rfl rfl rfl rfl rfl rfl ⟨rfl, rfl, rfl, rfl, rfl⟩ rfl rfl rfl rfl rfl (by kernel_rfl) Try.func9 (by kernel_rfl)
    (of_decide_eq_true (by kernel_rfl)) (by unfold Func.isWrapper; first | (rw [if_pos (by decide +kernel)]; kernel_rfl) | (rw [if_neg (by decide +kernel)]; exact ⟨rfl, rfl⟩))
    (fun os started H enc _ => lifted os started H enc)

theorem proved : Rows.FnDiffBackSaid := over
end Go.Proofs.Ytbhhbhopogkmnaa.fnDiffBack
