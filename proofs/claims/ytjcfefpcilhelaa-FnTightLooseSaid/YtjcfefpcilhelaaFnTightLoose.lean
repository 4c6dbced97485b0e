/-
  Proved: no tight edge is loose, and tight and loose edges are together not more than the edges (the law FnTightLoose returns true for every input and leaves it as it was), with no further condition.
-/
import Derived.Test.YtjcfefpcilhelaaRows
import Derived.Test.YtjcfefpcilhelaaDrawV7
import Derived.Test.YtjcfefpcilhelaaTight
import Derived.Test.YtjcfefpcilhelaaStartL
import Derived.WalkKit
import Derived.ProofKit
import Derived.OpenShut
import Derived.ShutString
import Derived.ChangeOld
import Derived.Below
namespace Go.Proofs.Ytjcfefpcilhelaa.fnTightLoose
open Go.Proofs.Ytjcfefpcilhelaa Go.BigFrame
open Go.ChangeShapes Go.WideShapes Go.ChangeAt Go.RowKit
open Go.ChangeMaps (open_string shut_string)
set_option linter.unusedVariables false

theorem own : ownKnob Try.prog.godebug = none := by kernel_rfl
theorem laidOut : laidOutB Try.prog = true := by kernel_rfl

def IsRow (k : IntKind) (w : World) (a : Option Addr) (len cap : Nat) (zs : List Int) : Prop :=
  (a = none ∧ len = 0 ∧ cap = 0 ∧ zs = []) ∨
  ∃ x, a = some x ∧ len ≤ cap ∧ cap ≤ maxLen ∧ zs.length = cap ∧ (∀ i, i < zs.length → w.cell? (x.add i) = some (.int k (zs.getD i 0))) ∧ ∀ n ∈ zs, (Lit.int k n).wf = true

theorem bytes_of {w : World} {a : Option Addr} {len cap : Nat} {zs : List Int} (h : IsRow .u8 w a len cap zs) : Bytes w a len ∧ len ≤ cap ∧ len ≤ 9223372036854775807 := by
  rcases h with ⟨rfl, rfl, rfl, rfl⟩ | ⟨x, rfl, hl, hm, hz, hc, hw⟩
  · exact ⟨.inl rfl, Nat.le_refl _, by omega⟩
  · unfold maxLen at hm
    refine ⟨?_, hl, by omega⟩
    by_cases h0 : len = 0
    · exact .inl h0
    · obtain ⟨b, off, rfl, hc'⟩ := ints_at hc (by omega)
      exact .inr ⟨b, off, rfl, World.block_lt_of_cell? _ _ (hc' 0 (by omega)), fun i hi => ⟨zs[i]?.getD 0, (range_u8 hw i).1, (range_u8 hw i).2, hc' i (by omega)⟩⟩

theorem walk (a0 : Option Addr) (len0 cap0 : Nat) (z0 : List Int) (w : World) (w0 : IsRow .u8 w a0 len0 cap0 z0) :
    Calls Try.prog 4 #[.slice a0 len0 cap0] w fun e w' => e = .returned (.bool true) ∧ Below w.heap.size w w' := by
  obtain ⟨hby, hcp, hn⟩ := bytes_of w0
  have HB0 := Lib.hid hby
  clear hby w0
  by_cases h0 : 1048576 < len0
  · go_enter Try.func4, Try.ntmps4
    go_wp2
    go_ret
    exact ⟨rfl, Below.refl _ _⟩
  have h0' : len0 ≤ 1048576 := by omega
  clear h0
  obtain ⟨w0, hw0⟩ : ∃ w0, w0 = w := ⟨_, rfl⟩
  subst hw0
  have H0 := Below.refl w0.heap.size w0
  go_enter Try.func4, Try.ntmps4
  go_wp2_with fail
  refine (dDrawTightEdges a0 len0 cap0 _ HB0.out hcp (by omega)).mono ?_
  rintro e w1 ⟨n, es, gs, m, src, zs, vs, rfl, hle, hrG, hrV, hb1⟩
  have H1 := bel_trans H0 hb1
  have SZ1 := Lib.hid hb1.size
  obtain ⟨va, vc, rfl, hz9⟩ := id hrG.1
  obtain ⟨vb, vd, rfl, hz8⟩ := id hrV.1
  clear hz9 hz8
  have G_1 := Lib.hid (hrG.1)
  have V_1 := Lib.hid hrV.1
  have hle1 := hle.1
  have hle2 := hle.2
  clear hrG hrV hle
  go_wp2_with fail
  have hb2 : Below w1.heap.size w1 ((w1.alloc (.cells #[.int .i64 n, .slice va es.length vc] 25)).alloc (.cells #[.int .i64 m, .int .i64 src, .slice vb zs.length vd] 30)) := ((Below.refl _ _).alloc (by simp <;> omega) _).alloc (by simp <;> omega) _
  have H2 := bel_trans H1 hb2
  have SZ2 := Lib.hid hb2.size
  have G_2 := Lib.hid (G_1.out.keep hb2)
  have V_2 := Lib.hid (V_1.out.keep hb2)
  have qg0_2 : ((w1.alloc (.cells #[.int .i64 n, .slice va es.length vc] 25)).alloc (.cells #[.int .i64 m, .int .i64 src, .slice vb zs.length vd] 30)).cell? ⟨w1.heap.size, 0, none⟩ = some (.int .i64 n) := by go_simp
  have qg1_2 : ((w1.alloc (.cells #[.int .i64 n, .slice va es.length vc] 25)).alloc (.cells #[.int .i64 m, .int .i64 src, .slice vb zs.length vd] 30)).cell? ⟨w1.heap.size, 1, none⟩ = some (.slice va es.length vc) := by go_simp
  have zg_2 : w1.heap.size < ((w1.alloc (.cells #[.int .i64 n, .slice va es.length vc] 25)).alloc (.cells #[.int .i64 m, .int .i64 src, .slice vb zs.length vd] 30)).heap.size := by simp <;> omega
  have qv0_2 : ((w1.alloc (.cells #[.int .i64 n, .slice va es.length vc] 25)).alloc (.cells #[.int .i64 m, .int .i64 src, .slice vb zs.length vd] 30)).cell? ⟨w1.heap.size + 1, 0, none⟩ = some (.int .i64 m) := by go_simp
  have qv1_2 : ((w1.alloc (.cells #[.int .i64 n, .slice va es.length vc] 25)).alloc (.cells #[.int .i64 m, .int .i64 src, .slice vb zs.length vd] 30)).cell? ⟨w1.heap.size + 1, 1, none⟩ = some (.int .i64 src) := by go_simp
  have qv2_2 : ((w1.alloc (.cells #[.int .i64 n, .slice va es.length vc] 25)).alloc (.cells #[.int .i64 m, .int .i64 src, .slice vb zs.length vd] 30)).cell? ⟨w1.heap.size + 1, 2, none⟩ = some (.slice vb zs.length vd) := by go_simp
  have zv_2 : w1.heap.size + 1 < ((w1.alloc (.cells #[.int .i64 n, .slice va es.length vc] 25)).alloc (.cells #[.int .i64 m, .int .i64 src, .slice vb zs.length vd] 30)).heap.size := by simp <;> omega
  generalize ((w1.alloc (.cells #[.int .i64 n, .slice va es.length vc] 25)).alloc (.cells #[.int .i64 m, .int .i64 src, .slice vb zs.length vd] 30)) = w2 at hb2 H2 SZ2 G_2 V_2 qg0_2 qg1_2 qv0_2 qv1_2 qv2_2 zg_2 zv_2 ⊢
  have ZBg := Lib.hid zg_2
  have ZBv := Lib.hid zv_2
  clear G_1 V_1
  have hlE : es.length ≤ 281474976710656 := by omega
  have hlZ : zs.length ≤ 281474976710656 := by omega
  have hst := fun s t w (h : RowE w s es) (k : Row w t zs) => tightEdges n m src es zs s t w h k hlE (by omega)
  have hss := fun s t w (h : RowE w s es) (k : Row w t zs) => sTightEdges n m src es zs s t w h k hlE (by omega)
  have hvv := fun s t w (h : RowE w s es) (k : Row w t zs) => viewValid n m src es zs s t w h k hlE hlZ
  have hlo := fun s t w (h : RowE w s es) (k : Row w t zs) => looseEdges n m src es zs s t w h k hlE (by omega)
  cases hV : vVal n es m src zs
  · rw [show tiV n es m src zs = [] by unfold tiV; rw [hV]; rfl] at hst hss
    rw [hV] at hvv
    have HST := Lib.hid hst
    have HSS := Lib.hid hss
    have HVV := Lib.hid hvv
    clear hst hss hvv hV hlo
    go_wp2_with fail
    refine (HST.out _ _ _ G_2.out.edges V_2.out.rowI).mono ?_
    rintro e w3 ⟨vp, rfl, howp, hb3⟩
    have H3 := bel_trans H2 hb3
    have SZ3 := Lib.hid hb3.size
    have qg0_3 := (hb3.cell (p := ⟨w1.heap.size, 0, none⟩) zg_2).trans qg0_2
    have qg1_3 := (hb3.cell (p := ⟨w1.heap.size, 1, none⟩) zg_2).trans qg1_2
    have zg_3 := Nat.lt_of_lt_of_le zg_2 hb3.size
    have qv0_3 := (hb3.cell (p := ⟨w1.heap.size + 1, 0, none⟩) zv_2).trans qv0_2
    have qv1_3 := (hb3.cell (p := ⟨w1.heap.size + 1, 1, none⟩) zv_2).trans qv1_2
    have qv2_3 := (hb3.cell (p := ⟨w1.heap.size + 1, 2, none⟩) zv_2).trans qv2_2
    have zv_3 := Nat.lt_of_lt_of_le zv_2 hb3.size
    have G_3 := Lib.hid (G_2.out.keep hb3)
    have V_3 := Lib.hid (V_2.out.keep hb3)
    obtain ⟨ap, cp, rfl, hz9⟩ := id howp
    clear hz9
    have P_3 := Lib.hid (howp)
    clear V_2 qg1_2 qg0_2 qv1_2 qv2_2 zg_2 zv_2 G_2 qv0_2
    clear howp
    go_wp2_with fail
    refine (HSS.out _ _ _ G_3.out.edges V_3.out.rowI).mono ?_
    rintro e w4 ⟨vq, rfl, howq, hb4⟩
    have H4 := bel_trans H3 hb4
    have SZ4 := Lib.hid hb4.size
    have qg0_4 := (hb4.cell (p := ⟨w1.heap.size, 0, none⟩) zg_3).trans qg0_3
    have qg1_4 := (hb4.cell (p := ⟨w1.heap.size, 1, none⟩) zg_3).trans qg1_3
    have zg_4 := Nat.lt_of_lt_of_le zg_3 hb4.size
    have qv0_4 := (hb4.cell (p := ⟨w1.heap.size + 1, 0, none⟩) zv_3).trans qv0_3
    have qv1_4 := (hb4.cell (p := ⟨w1.heap.size + 1, 1, none⟩) zv_3).trans qv1_3
    have qv2_4 := (hb4.cell (p := ⟨w1.heap.size + 1, 2, none⟩) zv_3).trans qv2_3
    have zv_4 := Nat.lt_of_lt_of_le zv_3 hb4.size
    have G_4 := Lib.hid (G_3.out.keep hb4)
    have V_4 := Lib.hid (V_3.out.keep hb4)
    have P_4 := Lib.hid (P_3.out.keep hb4)
    obtain ⟨aq, cq, rfl, hz9⟩ := id howq
    clear hz9
    have Q_4 := Lib.hid (howq)
    clear qg0_3 qg1_3 zg_3 qv0_3 qv1_3 qv2_3 zv_3 G_3 V_3 P_3
    clear howq
    go_wp2_with fail
    refine (gvInts [] _ _ _ P_4.out.ints Q_4.out.ints (by simp)).mono ?_
    rintro e w5 ⟨rfl, hb5⟩
    have H5 := bel_trans H4 hb5
    have SZ5 := Lib.hid hb5.size
    have qg0_5 := (hb5.cell (p := ⟨w1.heap.size, 0, none⟩) zg_4).trans qg0_4
    have qg1_5 := (hb5.cell (p := ⟨w1.heap.size, 1, none⟩) zg_4).trans qg1_4
    have zg_5 := Nat.lt_of_lt_of_le zg_4 hb5.size
    have qv0_5 := (hb5.cell (p := ⟨w1.heap.size + 1, 0, none⟩) zv_4).trans qv0_4
    have qv1_5 := (hb5.cell (p := ⟨w1.heap.size + 1, 1, none⟩) zv_4).trans qv1_4
    have qv2_5 := (hb5.cell (p := ⟨w1.heap.size + 1, 2, none⟩) zv_4).trans qv2_4
    have zv_5 := Nat.lt_of_lt_of_le zv_4 hb5.size
    have G_5 := Lib.hid (G_4.out.keep hb5)
    have V_5 := Lib.hid (V_4.out.keep hb5)
    have P_5 := Lib.hid (P_4.out.keep hb5)
    have Q_5 := Lib.hid (Q_4.out.keep hb5)
    clear qg0_4 qg1_4 zg_4 qv0_4 qv1_4 qv2_4 zv_4 G_4 V_4 P_4 Q_4
    go_wp2_with fail
    refine (HVV.out _ _ _ G_5.out.edges V_5.out.rowI).mono ?_
    rintro e w6 ⟨rfl, hb6⟩
    have H6 := bel_trans H5 hb6
    have SZ6 := Lib.hid hb6.size
    have qg0_6 := (hb6.cell (p := ⟨w1.heap.size, 0, none⟩) zg_5).trans qg0_5
    have qg1_6 := (hb6.cell (p := ⟨w1.heap.size, 1, none⟩) zg_5).trans qg1_5
    have zg_6 := Nat.lt_of_lt_of_le zg_5 hb6.size
    have qv0_6 := (hb6.cell (p := ⟨w1.heap.size + 1, 0, none⟩) zv_5).trans qv0_5
    have qv1_6 := (hb6.cell (p := ⟨w1.heap.size + 1, 1, none⟩) zv_5).trans qv1_5
    have qv2_6 := (hb6.cell (p := ⟨w1.heap.size + 1, 2, none⟩) zv_5).trans qv2_5
    have zv_6 := Nat.lt_of_lt_of_le zv_5 hb6.size
    have G_6 := Lib.hid (G_5.out.keep hb6)
    have V_6 := Lib.hid (V_5.out.keep hb6)
    have P_6 := Lib.hid (P_5.out.keep hb6)
    have Q_6 := Lib.hid (Q_5.out.keep hb6)
    clear qg0_5 qg1_5 zg_5 qv0_5 qv1_5 qv2_5 zv_5 G_5 V_5 P_5 Q_5
    go_wp2_with fail
    refine (HSS.out _ _ _ G_6.out.edges V_6.out.rowI).mono ?_
    rintro e w7 ⟨vy, rfl, howy, hb7⟩
    have H7 := bel_trans H6 hb7
    have SZ7 := Lib.hid hb7.size
    have qg0_7 := (hb7.cell (p := ⟨w1.heap.size, 0, none⟩) zg_6).trans qg0_6
    have qg1_7 := (hb7.cell (p := ⟨w1.heap.size, 1, none⟩) zg_6).trans qg1_6
    have zg_7 := Nat.lt_of_lt_of_le zg_6 hb7.size
    have qv0_7 := (hb7.cell (p := ⟨w1.heap.size + 1, 0, none⟩) zv_6).trans qv0_6
    have qv1_7 := (hb7.cell (p := ⟨w1.heap.size + 1, 1, none⟩) zv_6).trans qv1_6
    have qv2_7 := (hb7.cell (p := ⟨w1.heap.size + 1, 2, none⟩) zv_6).trans qv2_6
    have zv_7 := Nat.lt_of_lt_of_le zv_6 hb7.size
    have G_7 := Lib.hid (G_6.out.keep hb7)
    have V_7 := Lib.hid (V_6.out.keep hb7)
    have P_7 := Lib.hid (P_6.out.keep hb7)
    have Q_7 := Lib.hid (Q_6.out.keep hb7)
    obtain ⟨ay, cy, rfl, hz9⟩ := id howy
    clear hz9
    have Y_7 := Lib.hid (howy)
    clear qg0_6 qg1_6 zg_6 qv0_6 qv1_6 qv2_6 zv_6 G_6 V_6 P_6 Q_6
    clear howy
    go_wp2_with fail
    refine (gvInts [] _ _ _ P_7.out.ints Y_7.out.ints (by simp)).mono ?_
    rintro e w8 ⟨rfl, hb8⟩
    have H8 := bel_trans H7 hb8
    have SZ8 := Lib.hid hb8.size
    have qg0_8 := (hb8.cell (p := ⟨w1.heap.size, 0, none⟩) zg_7).trans qg0_7
    have qg1_8 := (hb8.cell (p := ⟨w1.heap.size, 1, none⟩) zg_7).trans qg1_7
    have zg_8 := Nat.lt_of_lt_of_le zg_7 hb8.size
    have qv0_8 := (hb8.cell (p := ⟨w1.heap.size + 1, 0, none⟩) zv_7).trans qv0_7
    have qv1_8 := (hb8.cell (p := ⟨w1.heap.size + 1, 1, none⟩) zv_7).trans qv1_7
    have qv2_8 := (hb8.cell (p := ⟨w1.heap.size + 1, 2, none⟩) zv_7).trans qv2_7
    have zv_8 := Nat.lt_of_lt_of_le zv_7 hb8.size
    have G_8 := Lib.hid (G_7.out.keep hb8)
    have V_8 := Lib.hid (V_7.out.keep hb8)
    have P_8 := Lib.hid (P_7.out.keep hb8)
    have Q_8 := Lib.hid (Q_7.out.keep hb8)
    have Y_8 := Lib.hid (Y_7.out.keep hb8)
    clear qg0_7 qg1_7 zg_7 qv0_7 qv1_7 qv2_7 zv_7 G_7 V_7 P_7 Q_7 Y_7
    go_wp2
    go_ret
    exact ⟨rfl, H8⟩
  · rw [show tiV n es m src zs = ti m es zs by unfold tiV; rw [if_pos hV]] at hst hss
    rw [show lsV n es m src zs = ls m es zs by unfold lsV; rw [if_pos hV]] at hlo
    rw [hV] at hvv
    obtain ⟨hgv, hsr, hlen, hmk, hall⟩ := vVal_pts hV
    obtain ⟨hm, hz0, hz12, hz40, hva, hea⟩ := vVal_use hV
    obtain ⟨N, hN⟩ : ∃ N : Nat, n = N := ⟨n.toNat, by omega⟩
    subst hN
    obtain ⟨A, hA⟩ : ∃ A : Nat, src = A := ⟨src.toNat, by omega⟩
    subst hA
    have hNz : zs.length = N := by omega
    have hAN : A < N := by omega
    have hN12 : N ≤ 12 := by omega
    have hgv40 := (gVal_n hgv).2.2
    have hin := fun k (h : k < (ti m es zs).length) => ti_loose (m := m) (es := es) (zs := zs) h
    have hln := ti_ls_len m es zs
    have hl1 := tiK_len m es zs es.length
    have hl2 := lsK_len m es zs es.length
    obtain ⟨P1, hP1⟩ : ∃ P, P = ti m es zs := ⟨_, rfl⟩
    obtain ⟨P2, hP2⟩ : ∃ P, P = ls m es zs := ⟨_, rfl⟩
    rw [show tiK m es zs es.length = P1 from hP1.symm] at hl1
    rw [show lsK m es zs es.length = P2 from hP2.symm] at hl2
    rw [← hP1] at hst hss hin hln
    rw [← hP2] at hlo hin hln
    have hp1 : P1.length ≤ 40 := by omega
    have hp2 : P2.length ≤ 40 := by omega
    have HST := Lib.hid hst
    have HSS := Lib.hid hss
    have HVV := Lib.hid hvv
    have HLO := Lib.hid hlo
    have HIN := Lib.hid hin
    have HLN := Lib.hid hln
    have HPA := Lib.hid hp1
    have HPB := Lib.hid hp2
    clear hst hss hvv hlo hin hln hP1 hP2 hl1 hl2 hva hea hgv hsr hlen hall hmk hm hV hNz hp1 hp2
    go_wp2_with fail
    refine (HST.out _ _ _ G_2.out.edges V_2.out.rowI).mono ?_
    rintro e w3 ⟨vp, rfl, howp, hb3⟩
    have H3 := bel_trans H2 hb3
    have SZ3 := Lib.hid hb3.size
    have qg0_3 := (hb3.cell (p := ⟨w1.heap.size, 0, none⟩) zg_2).trans qg0_2
    have qg1_3 := (hb3.cell (p := ⟨w1.heap.size, 1, none⟩) zg_2).trans qg1_2
    have zg_3 := Nat.lt_of_lt_of_le zg_2 hb3.size
    have qv0_3 := (hb3.cell (p := ⟨w1.heap.size + 1, 0, none⟩) zv_2).trans qv0_2
    have qv1_3 := (hb3.cell (p := ⟨w1.heap.size + 1, 1, none⟩) zv_2).trans qv1_2
    have qv2_3 := (hb3.cell (p := ⟨w1.heap.size + 1, 2, none⟩) zv_2).trans qv2_2
    have zv_3 := Nat.lt_of_lt_of_le zv_2 hb3.size
    have G_3 := Lib.hid (G_2.out.keep hb3)
    have V_3 := Lib.hid (V_2.out.keep hb3)
    obtain ⟨ap, cp, rfl, hz9⟩ := id howp
    clear hz9
    have P_3 := Lib.hid (howp)
    clear V_2 qg1_2 qg0_2 qv1_2 qv2_2 zg_2 zv_2 G_2 qv0_2
    clear howp
    go_wp2_with fail
    refine (HSS.out _ _ _ G_3.out.edges V_3.out.rowI).mono ?_
    rintro e w4 ⟨vq, rfl, howq, hb4⟩
    have H4 := bel_trans H3 hb4
    have SZ4 := Lib.hid hb4.size
    have qg0_4 := (hb4.cell (p := ⟨w1.heap.size, 0, none⟩) zg_3).trans qg0_3
    have qg1_4 := (hb4.cell (p := ⟨w1.heap.size, 1, none⟩) zg_3).trans qg1_3
    have zg_4 := Nat.lt_of_lt_of_le zg_3 hb4.size
    have qv0_4 := (hb4.cell (p := ⟨w1.heap.size + 1, 0, none⟩) zv_3).trans qv0_3
    have qv1_4 := (hb4.cell (p := ⟨w1.heap.size + 1, 1, none⟩) zv_3).trans qv1_3
    have qv2_4 := (hb4.cell (p := ⟨w1.heap.size + 1, 2, none⟩) zv_3).trans qv2_3
    have zv_4 := Nat.lt_of_lt_of_le zv_3 hb4.size
    have G_4 := Lib.hid (G_3.out.keep hb4)
    have V_4 := Lib.hid (V_3.out.keep hb4)
    have P_4 := Lib.hid (P_3.out.keep hb4)
    obtain ⟨aq, cq, rfl, hz9⟩ := id howq
    clear hz9
    have Q_4 := Lib.hid (howq)
    clear qg0_3 qg1_3 zg_3 qv0_3 qv1_3 qv2_3 zv_3 G_3 V_3 P_3
    clear howq
    go_wp2_with fail
    refine (gvInts P1 _ _ _ P_4.out.ints Q_4.out.ints (by have := HPA.out; omega)).mono ?_
    rintro e w5 ⟨rfl, hb5⟩
    have H5 := bel_trans H4 hb5
    have SZ5 := Lib.hid hb5.size
    have qg0_5 := (hb5.cell (p := ⟨w1.heap.size, 0, none⟩) zg_4).trans qg0_4
    have qg1_5 := (hb5.cell (p := ⟨w1.heap.size, 1, none⟩) zg_4).trans qg1_4
    have zg_5 := Nat.lt_of_lt_of_le zg_4 hb5.size
    have qv0_5 := (hb5.cell (p := ⟨w1.heap.size + 1, 0, none⟩) zv_4).trans qv0_4
    have qv1_5 := (hb5.cell (p := ⟨w1.heap.size + 1, 1, none⟩) zv_4).trans qv1_4
    have qv2_5 := (hb5.cell (p := ⟨w1.heap.size + 1, 2, none⟩) zv_4).trans qv2_4
    have zv_5 := Nat.lt_of_lt_of_le zv_4 hb5.size
    have G_5 := Lib.hid (G_4.out.keep hb5)
    have V_5 := Lib.hid (V_4.out.keep hb5)
    have P_5 := Lib.hid (P_4.out.keep hb5)
    have Q_5 := Lib.hid (Q_4.out.keep hb5)
    clear qg0_4 qg1_4 zg_4 qv0_4 qv1_4 qv2_4 zv_4 G_4 V_4 P_4 Q_4
    go_wp2_with fail
    refine (HVV.out _ _ _ G_5.out.edges V_5.out.rowI).mono ?_
    rintro e w6 ⟨rfl, hb6⟩
    have H6 := bel_trans H5 hb6
    have SZ6 := Lib.hid hb6.size
    have qg0_6 := (hb6.cell (p := ⟨w1.heap.size, 0, none⟩) zg_5).trans qg0_5
    have qg1_6 := (hb6.cell (p := ⟨w1.heap.size, 1, none⟩) zg_5).trans qg1_5
    have zg_6 := Nat.lt_of_lt_of_le zg_5 hb6.size
    have qv0_6 := (hb6.cell (p := ⟨w1.heap.size + 1, 0, none⟩) zv_5).trans qv0_5
    have qv1_6 := (hb6.cell (p := ⟨w1.heap.size + 1, 1, none⟩) zv_5).trans qv1_5
    have qv2_6 := (hb6.cell (p := ⟨w1.heap.size + 1, 2, none⟩) zv_5).trans qv2_5
    have zv_6 := Nat.lt_of_lt_of_le zv_5 hb6.size
    have G_6 := Lib.hid (G_5.out.keep hb6)
    have V_6 := Lib.hid (V_5.out.keep hb6)
    have P_6 := Lib.hid (P_5.out.keep hb6)
    have Q_6 := Lib.hid (Q_5.out.keep hb6)
    clear qg0_5 qg1_5 zg_5 qv0_5 qv1_5 qv2_5 zv_5 G_5 V_5 P_5 Q_5
    go_wp2_with fail
    refine (HLO.out _ _ _ G_6.out.edges V_6.out.rowI).mono ?_
    rintro e w7 ⟨vy, rfl, howy, hb7⟩
    have H7 := bel_trans H6 hb7
    have SZ7 := Lib.hid hb7.size
    have qg0_7 := (hb7.cell (p := ⟨w1.heap.size, 0, none⟩) zg_6).trans qg0_6
    have qg1_7 := (hb7.cell (p := ⟨w1.heap.size, 1, none⟩) zg_6).trans qg1_6
    have zg_7 := Nat.lt_of_lt_of_le zg_6 hb7.size
    have qv0_7 := (hb7.cell (p := ⟨w1.heap.size + 1, 0, none⟩) zv_6).trans qv0_6
    have qv1_7 := (hb7.cell (p := ⟨w1.heap.size + 1, 1, none⟩) zv_6).trans qv1_6
    have qv2_7 := (hb7.cell (p := ⟨w1.heap.size + 1, 2, none⟩) zv_6).trans qv2_6
    have zv_7 := Nat.lt_of_lt_of_le zv_6 hb7.size
    have G_7 := Lib.hid (G_6.out.keep hb7)
    have V_7 := Lib.hid (V_6.out.keep hb7)
    have P_7 := Lib.hid (P_6.out.keep hb7)
    have Q_7 := Lib.hid (Q_6.out.keep hb7)
    obtain ⟨ay, cy, rfl, hz9⟩ := id howy
    clear hz9
    have Y_7 := Lib.hid (howy)
    clear qg0_6 qg1_6 zg_6 qv0_6 qv1_6 qv2_6 zv_6 G_6 V_6 P_6 Q_6
    clear howy
    have hpz : P1.length = 0 ∨ ∃ b off, ap = some ⟨b, off, none⟩ ∧ b < w7.heap.size ∧ ∀ k, k < P1.length → w7.cell? ⟨b, off + k, none⟩ = some (.int .i64 (P1.getD k 0)) := by
      obtain ⟨_, _, he9, hz9⟩ := id P_7.out
      injection he9 with e1 e2 e3
      subst e1
      rcases hz9 with hz9 | ⟨b9, o9, h9, k1, k2, k3, kc⟩
      · exact .inl hz9
      · exact .inr ⟨b9, o9, h9, by omega, fun k h => (kc k (by omega)).1⟩
    have HPZ := Lib.hid hpz
    clear hpz
    go_wp2_with fail
    go_loopw [7] (fun c wr => ∃ k : Nat, k ≤ P1.length ∧ c = .int .i64 k ∧ Hid (Below w7.heap.size w7 wr)) (fun c _ => P1.length - (intOf c).toNat)
    case atStart => exact ⟨0, Nat.zero_le _, rfl, Lib.hid (Below.refl _ _)⟩
    case round =>
      obtain ⟨k, hk, rfl, HBW⟩ := hrel
      have sW := HBW.out.size
      have qg0_r := (HBW.out.cell (p := ⟨w1.heap.size, 0, none⟩) zg_7).trans qg0_7
      have qg1_r := (HBW.out.cell (p := ⟨w1.heap.size, 1, none⟩) zg_7).trans qg1_7
      have zg_r := Nat.lt_of_lt_of_le zg_7 HBW.out.size
      by_cases hlt : k < P1.length
      · have hlt' : (k : Int) < P1.length := by omega
        rcases HPZ.out with h00 | ⟨b9, o9, rfl, hb9, hc9⟩
        · omega
        have cpk := (HBW.out.cell (p := ⟨b9, o9 + k, none⟩) hb9).trans (hc9 k hlt)
        have hgi := gvIn P2 (P1.getD k 0) _ wr (Y_7.out.keep HBW.out).ints (by have := HPB.out; omega)
        rw [HIN.out k hlt] at hgi
        obtain ⟨y1, hy1⟩ : ∃ y, y = P1.getD k 0 := ⟨_, rfl⟩
        rw [← hy1] at cpk hgi
        have HGI := Lib.hid hgi
        clear hgi hy1 hc9
        have hp1v := HPA.out
        go_wp2_with fail
        refine (HGI.out).mono ?_
        rintro e w90 ⟨rfl, hb90⟩
        go_wp2
        go_roundw
        case rel => first | exact ⟨k + 1, by omega, by go_num, Lib.hid (bel_trans HBW.out hb90)⟩ | ((repeat apply Exists.intro); exact ⟨⟨k + 1, by omega, by go_num, Lib.hid (bel_trans HBW.out hb90)⟩, rfl⟩) | exact ⟨_, ⟨k + 1, by omega, by go_num, Lib.hid (bel_trans HBW.out hb90)⟩, rfl⟩
        case measure => simp [intOf]; omega
      · have hkk : ¬ ((k : Int) < P1.length) := by omega
        have hwr : IntKind.i64.wrap ((P1.length : Int) + (P2.length : Int)) = (P1.length : Int) + (P2.length : Int) := wrap_small (by omega) (by have := HPA.out; have := HPB.out; omega)
        have hge : (P1.length : Int) + (P2.length : Int) ≤ es.length := by have := HLN.out; omega
        have hge' : decide ((P1.length : Int) + (P2.length : Int) ≤ es.length) = true := by simpa using hge
        go_wp2
        go_ret
        exact ⟨by first | rfl | simp, bel_trans H7 HBW.out⟩

set_option maxRecDepth 100000 in
theorem lifted (os : Os) (started : os.Started) (H : Type) (enc : TypeId × Value → H) :
    ReturnsInHanded {} Try.checked os 4 .any (Rows.fnTightLooseSpec.pre6 enc Try.prog Try.f4 Rows.fnTightLooseRow.domain false) (Rows.fnTightLooseSpec.post enc Try.prog Try.f4 false true false false) := by
  refine returnsInHanded_of_change (C := Try.checked) own started (by kernel_rfl) Try.func4
    (ChangeSpec.witness6 (enc := enc) (C := Try.checked) false ⟨#[], #[.slice none 0 0], []⟩ 8 (by kernel_rfl) (by kernel_rfl) (by kernel_rfl) (by kernel_rfl)) ?_
  intro W base args ds gs before hval0 hW hcnd _
  have hval : ∀ (j : Nat) t v, Try.f4.params[j]? = some t → args[j]? = some v → Value.okWide Try.prog W .any base t v := hval0
  have hW' := hW
  obtain ⟨p, q, hA0, hV, rfl, hfz, hnd⟩ := hW
  have hA : DataW.TrodAll enc Try.prog W 0 (fun _ => true) true Try.f4.params.toList args.toList ds p := hA0
  rw [Try.params4] at hA hval
  obtain ⟨v0, vs0, d0, ds0, p0, q0, hargs, rfl, rfl, h0, r0⟩ := trodAll_cons hA
  obtain ⟨rfl, rfl, rfl⟩ := trodAll_nil r0
  obtain rfl : args = #[v0] := by cases args; simp_all
  obtain ⟨rfl, rfl⟩ := trodVars_none hV
  obtain ⟨a0, len0, cap0, rfl⟩ := okWide_slice Try.underlying22 (hval 0 22 v0 rfl rfl)
  have k0 := h0
  have lt0 : ∀ x ∈ p0, x.block < W.heap.size := by obtain ⟨m, hm⟩ := k0; exact DataW.trod_lt m _ _ _ hm
  obtain ⟨z0, w0⟩ : ∃ zs, IsRow .u8 W a0 len0 cap0 zs := by
    obtain ⟨fuel, hf⟩ := h0
    rcases open_ints Try.underlying22 Try.underlying5 (by kernel_rfl) hf with ⟨hcs, _⟩ | ⟨x, l, c, zs, hcs, _, hl, hm, hz, _, hcell, hwz⟩
    · simp [Value.cells] at hcs
      obtain ⟨rfl, rfl, rfl⟩ := hcs
      exact ⟨[], .inl ⟨rfl, rfl, rfl, rfl⟩⟩
    · simp [Value.cells] at hcs
      obtain ⟨rfl, rfl, rfl⟩ := hcs
      exact ⟨zs, .inr ⟨_, rfl, hl, hm, by simpa using hz, hcell, hwz⟩⟩
  clear hA0 hval0
  refine (walk a0 len0 cap0 z0 W w0).mono fun e W' ⟨he, bel⟩ => ?_
  subst he
  exact ⟨_, rfl, _, _, _, [], _, [], hW', trodAll_mk1 (shut_bool Try.underlying4 _), (trodAll_cons_mk (Below.trod laidOut (by kernel_rfl) (of_decide_eq_true (by kernel_rfl)) k0 bel lt0) trodAll_mk0), rfl, bel.frame _, fun h => by cases h⟩

theorem over : Rows.fnTightLooseRow.holds Try.pinned (OpenSpec.ofChange Rows.fnTightLooseSpec) :=
  OpenClaim.holds_of_wide 4 Try.f4 rfl rfl rfl rfl rfl rfl rfl ⟨rfl, rfl, rfl, rfl, rfl⟩ rfl rfl rfl rfl rfl (by kernel_rfl) Try.func4 (by kernel_rfl)
    (of_decide_eq_true (by kernel_rfl)) (by unfold Func.isWrapper; first | (rw [if_pos (by decide +kernel)]; kernel_rfl) | (rw [if_neg (by decide +kernel)]; exact ⟨rfl, rfl⟩))
    (fun os started H enc _ => lifted os started H enc)

theorem proved : Rows.FnTightLooseSaid := over
end Go.Proofs.Ytjcfefpcilhelaa.fnTightLoose
