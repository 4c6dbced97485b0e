/-
  Proved: the loose edges are those whose relaxing changes a view, and there are none exactly if it is stable (the law FnLooseEdges returns true for every input and leaves it as it was), with no further condition.
-/
import Derived.Test.YtflcnlepbllelaaRows
import Derived.Test.YtflcnlepbllelaaDrawsP
import Derived.Test.YtflcnlepbllelaaRunU
import Derived.Test.YtflcnlepbllelaaStable
import Derived.Test.YtflcnlepbllelaaStartL
import Derived.Test.YtflcnlepbllelaaLooseM
import Derived.WalkKit
import Derived.ProofKit
import Derived.OpenShut
import Derived.ShutString
import Derived.ChangeOld
import Derived.Below
namespace Go.Proofs.Ytflcnlepbllelaa.fnLooseEdges
open Go.Proofs.Ytflcnlepbllelaa Go.BigFrame
open Go.ChangeShapes Go.WideShapes Go.ChangeAt Go.RowKit
open Go.ChangeMaps (open_string shut_string)
set_option linter.unusedVariables false

theorem own : ownKnob Try.prog.godebug = none := by kernel_rfl
theorem laidOut : laidOutB Try.prog = true := by kernel_rfl

def IsRow (k : IntKind) (w : World) (a : Option Addr) (len cap : Nat) (zs : List Int) : Prop :=
  (a = none ∧ len = 0 ∧ cap = 0 ∧ zs = []) ∨
  ∃ x, a = some x ∧ len ≤ cap ∧ cap ≤ maxLen ∧ zs.length = cap ∧ (∀ i, i < zs.length → w.cell? (x.add i) = some (.int k (zs.getD i 0))) ∧ ∀ n ∈ zs, (Lit.int k n).wf = true

theorem bytes_of {w : World} {a : Option Addr} {len cap : Nat} {zs : List Int} (h : IsRow .u8 w a len cap zs) : Bytes w a len ∧ len ≤ cap ∧ len ≤ 9223372036854775807 := by
  rcases h with ⟨rfl, rfl, rfl, rfl⟩ | ⟨x, rfl, hl, hm, hz, hc, hw⟩
  · exact ⟨.inl rfl, Nat.le_refl _, by omega⟩
  · unfold maxLen at hm
    refine ⟨?_, hl, by omega⟩
    by_cases h0 : len = 0
    · exact .inl h0
    · obtain ⟨b, off, rfl, hc'⟩ := ints_at hc (by omega)
      exact .inr ⟨b, off, rfl, World.block_lt_of_cell? _ _ (hc' 0 (by omega)), fun i hi => ⟨zs[i]?.getD 0, (range_u8 hw i).1, (range_u8 hw i).2, hc' i (by omega)⟩⟩

set_option maxRecDepth 100000 in
set_option maxHeartbeats 4000000 in
theorem walk (a0 : Option Addr) (len0 cap0 : Nat) (z0 : List Int) (w : World) (w0 : IsRow .u8 w a0 len0 cap0 z0) :
    Calls Try.prog 4 #[.slice a0 len0 cap0] w fun e w' => e = .returned (.bool true) ∧ Below w.heap.size w w' := by
  obtain ⟨hby, hcp, hn⟩ := bytes_of w0
  have HB0 := Lib.hid hby
  clear hby w0
  by_cases h0 : 1048576 < len0
  · go_enter Try.func4, Try.ntmps4
    go_wp2
    go_ret
    exact ⟨rfl, Below.refl _ _⟩
  have h0' : len0 ≤ 1048576 := by omega
  clear h0
  obtain ⟨w0, hw0⟩ : ∃ w0, w0 = w := ⟨_, rfl⟩
  subst hw0
  have H0 := Below.refl w0.heap.size w0
  go_enter Try.func4, Try.ntmps4
  go_wp2_with fail
  refine (dDrawLooseEdges a0 len0 cap0 _ HB0.out hcp (by omega)).mono ?_
  rintro e w1 ⟨n, es, gs, m, src, zs, vs, rfl, hle, hrG, hrV, hb1⟩
  have H1 := bel_trans H0 hb1
  have SZ1 := Lib.hid hb1.size
  obtain ⟨va, vc, rfl, hz9⟩ := id hrG.1
  obtain ⟨vb, vd, rfl, hz8⟩ := id hrV.1
  clear hz9 hz8
  have G_1 := Lib.hid (hrG.1)
  have V_1 := Lib.hid hrV.1
  have hle1 := hle.1
  have hle2 := hle.2
  clear hrG hrV hle
  go_wp2_with fail
  have hb2 : Below w1.heap.size w1 ((w1.alloc (.cells #[.int .i64 n, .slice va es.length vc] 25)).alloc (.cells #[.int .i64 m, .int .i64 src, .slice vb zs.length vd] 28)) := ((Below.refl _ _).alloc (by simp <;> omega) _).alloc (by simp <;> omega) _
  have H2 := bel_trans H1 hb2
  have SZ2 := Lib.hid hb2.size
  have G_2 := Lib.hid (G_1.out.keep hb2)
  have V_2 := Lib.hid (V_1.out.keep hb2)
  have qg0_2 : ((w1.alloc (.cells #[.int .i64 n, .slice va es.length vc] 25)).alloc (.cells #[.int .i64 m, .int .i64 src, .slice vb zs.length vd] 28)).cell? ⟨w1.heap.size, 0, none⟩ = some (.int .i64 n) := by go_simp
  have qg1_2 : ((w1.alloc (.cells #[.int .i64 n, .slice va es.length vc] 25)).alloc (.cells #[.int .i64 m, .int .i64 src, .slice vb zs.length vd] 28)).cell? ⟨w1.heap.size, 1, none⟩ = some (.slice va es.length vc) := by go_simp
  have zg_2 : w1.heap.size < ((w1.alloc (.cells #[.int .i64 n, .slice va es.length vc] 25)).alloc (.cells #[.int .i64 m, .int .i64 src, .slice vb zs.length vd] 28)).heap.size := by simp <;> omega
  have qv0_2 : ((w1.alloc (.cells #[.int .i64 n, .slice va es.length vc] 25)).alloc (.cells #[.int .i64 m, .int .i64 src, .slice vb zs.length vd] 28)).cell? ⟨w1.heap.size + 1, 0, none⟩ = some (.int .i64 m) := by go_simp
  have qv1_2 : ((w1.alloc (.cells #[.int .i64 n, .slice va es.length vc] 25)).alloc (.cells #[.int .i64 m, .int .i64 src, .slice vb zs.length vd] 28)).cell? ⟨w1.heap.size + 1, 1, none⟩ = some (.int .i64 src) := by go_simp
  have qv2_2 : ((w1.alloc (.cells #[.int .i64 n, .slice va es.length vc] 25)).alloc (.cells #[.int .i64 m, .int .i64 src, .slice vb zs.length vd] 28)).cell? ⟨w1.heap.size + 1, 2, none⟩ = some (.slice vb zs.length vd) := by go_simp
  have zv_2 : w1.heap.size + 1 < ((w1.alloc (.cells #[.int .i64 n, .slice va es.length vc] 25)).alloc (.cells #[.int .i64 m, .int .i64 src, .slice vb zs.length vd] 28)).heap.size := by simp <;> omega
  generalize ((w1.alloc (.cells #[.int .i64 n, .slice va es.length vc] 25)).alloc (.cells #[.int .i64 m, .int .i64 src, .slice vb zs.length vd] 28)) = w2 at hb2 H2 SZ2 G_2 V_2 qg0_2 qg1_2 qv0_2 qv1_2 qv2_2 zg_2 zv_2 ⊢
  have ZBg := Lib.hid zg_2
  have ZBv := Lib.hid zv_2
  clear G_1 V_1
  have hlE : es.length ≤ 281474976710656 := by omega
  have hlZ : zs.length ≤ 281474976710656 := by omega
  have hst := fun s t w (h : RowE w s es) (k : Row w t zs) => looseEdges n m src es zs s t w h k hlE (by omega)
  have hss := fun s t w (h : RowE w s es) (k : Row w t zs) => sLooseEdges n m src es zs s t w h k hlE (by omega)
  have hvv := fun s t w (h : RowE w s es) (k : Row w t zs) => viewValid n m src es zs s t w h k hlE hlZ
  cases hV : vVal n es m src zs
  · rw [show lsV n es m src zs = [] by unfold lsV; rw [hV]; rfl] at hst hss
    rw [hV] at hvv
    have HST := Lib.hid hst
    have HSS := Lib.hid hss
    have HVV := Lib.hid hvv
    clear hst hss hvv hV
    go_wp2_with fail
    refine (HST.out _ _ _ G_2.out.edges V_2.out.rowI).mono ?_
    rintro e w3 ⟨vp, rfl, howp, hb3⟩
    have H3 := bel_trans H2 hb3
    have SZ3 := Lib.hid hb3.size
    have qg0_3 := (hb3.cell (p := ⟨w1.heap.size, 0, none⟩) zg_2).trans qg0_2
    have qg1_3 := (hb3.cell (p := ⟨w1.heap.size, 1, none⟩) zg_2).trans qg1_2
    have zg_3 := Nat.lt_of_lt_of_le zg_2 hb3.size
    have qv0_3 := (hb3.cell (p := ⟨w1.heap.size + 1, 0, none⟩) zv_2).trans qv0_2
    have qv1_3 := (hb3.cell (p := ⟨w1.heap.size + 1, 1, none⟩) zv_2).trans qv1_2
    have qv2_3 := (hb3.cell (p := ⟨w1.heap.size + 1, 2, none⟩) zv_2).trans qv2_2
    have zv_3 := Nat.lt_of_lt_of_le zv_2 hb3.size
    have G_3 := Lib.hid (G_2.out.keep hb3)
    have V_3 := Lib.hid (V_2.out.keep hb3)
    obtain ⟨ap, cp, rfl, hz9⟩ := id howp
    clear hz9
    have P_3 := Lib.hid (howp)
    clear qv1_2 qg1_2 G_2 qv2_2 V_2 zg_2 zv_2 qv0_2 qg0_2
    clear howp
    go_wp2_with fail
    refine (HSS.out _ _ _ G_3.out.edges V_3.out.rowI).mono ?_
    rintro e w4 ⟨vq, rfl, howq, hb4⟩
    have H4 := bel_trans H3 hb4
    have SZ4 := Lib.hid hb4.size
    have qg0_4 := (hb4.cell (p := ⟨w1.heap.size, 0, none⟩) zg_3).trans qg0_3
    have qg1_4 := (hb4.cell (p := ⟨w1.heap.size, 1, none⟩) zg_3).trans qg1_3
    have zg_4 := Nat.lt_of_lt_of_le zg_3 hb4.size
    have qv0_4 := (hb4.cell (p := ⟨w1.heap.size + 1, 0, none⟩) zv_3).trans qv0_3
    have qv1_4 := (hb4.cell (p := ⟨w1.heap.size + 1, 1, none⟩) zv_3).trans qv1_3
    have qv2_4 := (hb4.cell (p := ⟨w1.heap.size + 1, 2, none⟩) zv_3).trans qv2_3
    have zv_4 := Nat.lt_of_lt_of_le zv_3 hb4.size
    have G_4 := Lib.hid (G_3.out.keep hb4)
    have V_4 := Lib.hid (V_3.out.keep hb4)
    have P_4 := Lib.hid (P_3.out.keep hb4)
    obtain ⟨aq, cq, rfl, hz9⟩ := id howq
    clear hz9
    have Q_4 := Lib.hid (howq)
    clear qg0_3 qg1_3 zg_3 qv0_3 qv1_3 qv2_3 zv_3 G_3 V_3 P_3
    clear howq
    go_wp2_with fail
    refine (gvInts [] _ _ _ P_4.out.ints Q_4.out.ints (by simp)).mono ?_
    rintro e w5 ⟨rfl, hb5⟩
    have H5 := bel_trans H4 hb5
    have SZ5 := Lib.hid hb5.size
    have qg0_5 := (hb5.cell (p := ⟨w1.heap.size, 0, none⟩) zg_4).trans qg0_4
    have qg1_5 := (hb5.cell (p := ⟨w1.heap.size, 1, none⟩) zg_4).trans qg1_4
    have zg_5 := Nat.lt_of_lt_of_le zg_4 hb5.size
    have qv0_5 := (hb5.cell (p := ⟨w1.heap.size + 1, 0, none⟩) zv_4).trans qv0_4
    have qv1_5 := (hb5.cell (p := ⟨w1.heap.size + 1, 1, none⟩) zv_4).trans qv1_4
    have qv2_5 := (hb5.cell (p := ⟨w1.heap.size + 1, 2, none⟩) zv_4).trans qv2_4
    have zv_5 := Nat.lt_of_lt_of_le zv_4 hb5.size
    have G_5 := Lib.hid (G_4.out.keep hb5)
    have V_5 := Lib.hid (V_4.out.keep hb5)
    have P_5 := Lib.hid (P_4.out.keep hb5)
    have Q_5 := Lib.hid (Q_4.out.keep hb5)
    clear qg0_4 qg1_4 zg_4 qv0_4 qv1_4 qv2_4 zv_4 G_4 V_4 P_4 Q_4
    go_wp2_with fail
    refine (HVV.out _ _ _ G_5.out.edges V_5.out.rowI).mono ?_
    rintro e w6 ⟨rfl, hb6⟩
    have H6 := bel_trans H5 hb6
    have SZ6 := Lib.hid hb6.size
    have qg0_6 := (hb6.cell (p := ⟨w1.heap.size, 0, none⟩) zg_5).trans qg0_5
    have qg1_6 := (hb6.cell (p := ⟨w1.heap.size, 1, none⟩) zg_5).trans qg1_5
    have zg_6 := Nat.lt_of_lt_of_le zg_5 hb6.size
    have qv0_6 := (hb6.cell (p := ⟨w1.heap.size + 1, 0, none⟩) zv_5).trans qv0_5
    have qv1_6 := (hb6.cell (p := ⟨w1.heap.size + 1, 1, none⟩) zv_5).trans qv1_5
    have qv2_6 := (hb6.cell (p := ⟨w1.heap.size + 1, 2, none⟩) zv_5).trans qv2_5
    have zv_6 := Nat.lt_of_lt_of_le zv_5 hb6.size
    have G_6 := Lib.hid (G_5.out.keep hb6)
    have V_6 := Lib.hid (V_5.out.keep hb6)
    have P_6 := Lib.hid (P_5.out.keep hb6)
    have Q_6 := Lib.hid (Q_5.out.keep hb6)
    clear qg0_5 qg1_5 zg_5 qv0_5 qv1_5 qv2_5 zv_5 G_5 V_5 P_5 Q_5
    go_wp2_with fail
    refine (HSS.out _ _ _ G_6.out.edges V_6.out.rowI).mono ?_
    rintro e w7 ⟨vy, rfl, howy, hb7⟩
    have H7 := bel_trans H6 hb7
    have SZ7 := Lib.hid hb7.size
    have qg0_7 := (hb7.cell (p := ⟨w1.heap.size, 0, none⟩) zg_6).trans qg0_6
    have qg1_7 := (hb7.cell (p := ⟨w1.heap.size, 1, none⟩) zg_6).trans qg1_6
    have zg_7 := Nat.lt_of_lt_of_le zg_6 hb7.size
    have qv0_7 := (hb7.cell (p := ⟨w1.heap.size + 1, 0, none⟩) zv_6).trans qv0_6
    have qv1_7 := (hb7.cell (p := ⟨w1.heap.size + 1, 1, none⟩) zv_6).trans qv1_6
    have qv2_7 := (hb7.cell (p := ⟨w1.heap.size + 1, 2, none⟩) zv_6).trans qv2_6
    have zv_7 := Nat.lt_of_lt_of_le zv_6 hb7.size
    have G_7 := Lib.hid (G_6.out.keep hb7)
    have V_7 := Lib.hid (V_6.out.keep hb7)
    have P_7 := Lib.hid (P_6.out.keep hb7)
    have Q_7 := Lib.hid (Q_6.out.keep hb7)
    obtain ⟨ay, cy, rfl, hz9⟩ := id howy
    clear hz9
    have Y_7 := Lib.hid (howy)
    clear qg0_6 qg1_6 zg_6 qv0_6 qv1_6 qv2_6 zv_6 G_6 V_6 P_6 Q_6
    clear howy
    go_wp2_with fail
    refine (gvInts [] _ _ _ P_7.out.ints Y_7.out.ints (by simp)).mono ?_
    rintro e w8 ⟨rfl, hb8⟩
    have H8 := bel_trans H7 hb8
    have SZ8 := Lib.hid hb8.size
    have qg0_8 := (hb8.cell (p := ⟨w1.heap.size, 0, none⟩) zg_7).trans qg0_7
    have qg1_8 := (hb8.cell (p := ⟨w1.heap.size, 1, none⟩) zg_7).trans qg1_7
    have zg_8 := Nat.lt_of_lt_of_le zg_7 hb8.size
    have qv0_8 := (hb8.cell (p := ⟨w1.heap.size + 1, 0, none⟩) zv_7).trans qv0_7
    have qv1_8 := (hb8.cell (p := ⟨w1.heap.size + 1, 1, none⟩) zv_7).trans qv1_7
    have qv2_8 := (hb8.cell (p := ⟨w1.heap.size + 1, 2, none⟩) zv_7).trans qv2_7
    have zv_8 := Nat.lt_of_lt_of_le zv_7 hb8.size
    have G_8 := Lib.hid (G_7.out.keep hb8)
    have V_8 := Lib.hid (V_7.out.keep hb8)
    have P_8 := Lib.hid (P_7.out.keep hb8)
    have Q_8 := Lib.hid (Q_7.out.keep hb8)
    have Y_8 := Lib.hid (Y_7.out.keep hb8)
    clear qg0_7 qg1_7 zg_7 qv0_7 qv1_7 qv2_7 zv_7 G_7 V_7 P_7 Q_7 Y_7
    go_wp2
    go_ret
    exact ⟨rfl, H8⟩
  · rw [show lsV n es m src zs = ls m es zs by unfold lsV; rw [if_pos hV]] at hst hss
    rw [hV] at hvv
    have hre := fun (i : Int) s t w (h : RowE w s es) (k : Row w t zs) => relaxEdgeU n m src i es zs s t w h k hlE hlZ
    have hib := fun s t w (h : RowE w s es) (k : Row w t zs) => isStable n m src es zs s t w h k hlE hlZ
    obtain ⟨hgv, hsr, hlen, hmk, hall⟩ := vVal_pts hV
    obtain ⟨hm, hz0, hz12, hz40, hva, hea⟩ := vVal_use hV
    obtain ⟨N, hN⟩ : ∃ N : Nat, n = N := ⟨n.toNat, by omega⟩
    subst hN
    obtain ⟨A, hA⟩ : ∃ A : Nat, src = A := ⟨src.toNat, by omega⟩
    subst hA
    have hNz : zs.length = N := by omega
    have hAN : A < N := by omega
    have hN12 : N ≤ 12 := by omega
    have hgv40 := (gVal_n hgv).2.2
    rw [ls_stable hmk hea hva hV] at hib
    have hre2 : ∀ (i : Nat), i < es.length → ∀ s t w (h : RowE w s es) (k : Row w t zs), Calls Try.prog 20 #[.agg #[.int .i64 N, s], .agg #[.int .i64 m, .int .i64 A, t], .int .i64 i] w fun e w' => ∃ v, e = .returned (.tuple #[.agg #[.int .i64 m, .int .i64 A, v], .bool true]) ∧ OwnV w w' v (vOne m zs (es.getD i (0, 0, 0))) ∧ okS v ∧ Below w.heap.size w w' := by
      intro i hi s t w h k
      have h9 := hre i s t w h k
      have hb9 : rsB (N : Int) es m A zs [(i : Int)] = true := by
        unfold rsB oOk oIn
        rw [hV]
        simp
        omega
      rw [show rsM (N : Int) es m A zs [(i : Int)] = m by unfold rsM; rw [if_pos hb9], show rsA (N : Int) es m A zs [(i : Int)] = A by unfold rsA; rw [if_pos hb9], show rsL (N : Int) es m A zs [(i : Int)] = vOne m zs (es.getD i (0, 0, 0)) by unfold rsL; rw [if_pos hb9]; rfl, hb9] at h9
      exact h9
    have hmm := fun (i : Nat) (hi : i < es.length) => ls_mem (m := m) (zs := zs) hi
    have hto := fun (i : Nat) (hi : i < es.length) => (hea (es.getD i (0, 0, 0)) (by simp [List.getD, hi])).2.1.2
    obtain ⟨P1, hP1⟩ : ∃ P, P = ls m es zs := ⟨_, rfl⟩
    have hpl : P1.length ≤ 40 := by rw [hP1]; exact Nat.le_trans (lsK_len m es zs es.length) hgv40
    rw [← hP1] at hst hss hib
    simp only [← hP1] at hmm
    have HST := Lib.hid hst
    have HSS := Lib.hid hss
    have HVV := Lib.hid hvv
    have HRE := Lib.hid hre2
    have HIB := Lib.hid hib
    have HMM := Lib.hid hmm
    have HTO := Lib.hid hto
    have HPL := Lib.hid hpl
    have HNZ := Lib.hid hNz
    clear hst hss hvv hre hre2 hib hmm hto hP1 hpl hNz hva hea hgv hsr hlen hall hmk hm hV hgv40
    go_wp2_with fail
    refine (HST.out _ _ _ G_2.out.edges V_2.out.rowI).mono ?_
    rintro e w3 ⟨vp, rfl, howp, hb3⟩
    have H3 := bel_trans H2 hb3
    have SZ3 := Lib.hid hb3.size
    have qg0_3 := (hb3.cell (p := ⟨w1.heap.size, 0, none⟩) zg_2).trans qg0_2
    have qg1_3 := (hb3.cell (p := ⟨w1.heap.size, 1, none⟩) zg_2).trans qg1_2
    have zg_3 := Nat.lt_of_lt_of_le zg_2 hb3.size
    have qv0_3 := (hb3.cell (p := ⟨w1.heap.size + 1, 0, none⟩) zv_2).trans qv0_2
    have qv1_3 := (hb3.cell (p := ⟨w1.heap.size + 1, 1, none⟩) zv_2).trans qv1_2
    have qv2_3 := (hb3.cell (p := ⟨w1.heap.size + 1, 2, none⟩) zv_2).trans qv2_2
    have zv_3 := Nat.lt_of_lt_of_le zv_2 hb3.size
    have G_3 := Lib.hid (G_2.out.keep hb3)
    have V_3 := Lib.hid (V_2.out.keep hb3)
    obtain ⟨ap, cp, rfl, hz9⟩ := id howp
    clear hz9
    have P_3 := Lib.hid (howp)
    clear qv1_2 qg1_2 G_2 qv2_2 V_2 zg_2 zv_2 qv0_2 qg0_2
    clear howp
    go_wp2_with fail
    refine (HSS.out _ _ _ G_3.out.edges V_3.out.rowI).mono ?_
    rintro e w4 ⟨vq, rfl, howq, hb4⟩
    have H4 := bel_trans H3 hb4
    have SZ4 := Lib.hid hb4.size
    have qg0_4 := (hb4.cell (p := ⟨w1.heap.size, 0, none⟩) zg_3).trans qg0_3
    have qg1_4 := (hb4.cell (p := ⟨w1.heap.size, 1, none⟩) zg_3).trans qg1_3
    have zg_4 := Nat.lt_of_lt_of_le zg_3 hb4.size
    have qv0_4 := (hb4.cell (p := ⟨w1.heap.size + 1, 0, none⟩) zv_3).trans qv0_3
    have qv1_4 := (hb4.cell (p := ⟨w1.heap.size + 1, 1, none⟩) zv_3).trans qv1_3
    have qv2_4 := (hb4.cell (p := ⟨w1.heap.size + 1, 2, none⟩) zv_3).trans qv2_3
    have zv_4 := Nat.lt_of_lt_of_le zv_3 hb4.size
    have G_4 := Lib.hid (G_3.out.keep hb4)
    have V_4 := Lib.hid (V_3.out.keep hb4)
    have P_4 := Lib.hid (P_3.out.keep hb4)
    obtain ⟨aq, cq, rfl, hz9⟩ := id howq
    clear hz9
    have Q_4 := Lib.hid (howq)
    clear qg0_3 qg1_3 zg_3 qv0_3 qv1_3 qv2_3 zv_3 G_3 V_3 P_3
    clear howq
    go_wp2_with fail
    refine (gvInts P1 _ _ _ P_4.out.ints Q_4.out.ints (by have := HPL.out; omega)).mono ?_
    rintro e w5 ⟨rfl, hb5⟩
    have H5 := bel_trans H4 hb5
    have SZ5 := Lib.hid hb5.size
    have qg0_5 := (hb5.cell (p := ⟨w1.heap.size, 0, none⟩) zg_4).trans qg0_4
    have qg1_5 := (hb5.cell (p := ⟨w1.heap.size, 1, none⟩) zg_4).trans qg1_4
    have zg_5 := Nat.lt_of_lt_of_le zg_4 hb5.size
    have qv0_5 := (hb5.cell (p := ⟨w1.heap.size + 1, 0, none⟩) zv_4).trans qv0_4
    have qv1_5 := (hb5.cell (p := ⟨w1.heap.size + 1, 1, none⟩) zv_4).trans qv1_4
    have qv2_5 := (hb5.cell (p := ⟨w1.heap.size + 1, 2, none⟩) zv_4).trans qv2_4
    have zv_5 := Nat.lt_of_lt_of_le zv_4 hb5.size
    have G_5 := Lib.hid (G_4.out.keep hb5)
    have V_5 := Lib.hid (V_4.out.keep hb5)
    have P_5 := Lib.hid (P_4.out.keep hb5)
    have Q_5 := Lib.hid (Q_4.out.keep hb5)
    clear qg0_4 qg1_4 zg_4 qv0_4 qv1_4 qv2_4 zv_4 G_4 V_4 P_4 Q_4
    go_wp2_with fail
    refine (HVV.out _ _ _ G_5.out.edges V_5.out.rowI).mono ?_
    rintro e w6 ⟨rfl, hb6⟩
    have H6 := bel_trans H5 hb6
    have SZ6 := Lib.hid hb6.size
    have qg0_6 := (hb6.cell (p := ⟨w1.heap.size, 0, none⟩) zg_5).trans qg0_5
    have qg1_6 := (hb6.cell (p := ⟨w1.heap.size, 1, none⟩) zg_5).trans qg1_5
    have zg_6 := Nat.lt_of_lt_of_le zg_5 hb6.size
    have qv0_6 := (hb6.cell (p := ⟨w1.heap.size + 1, 0, none⟩) zv_5).trans qv0_5
    have qv1_6 := (hb6.cell (p := ⟨w1.heap.size + 1, 1, none⟩) zv_5).trans qv1_5
    have qv2_6 := (hb6.cell (p := ⟨w1.heap.size + 1, 2, none⟩) zv_5).trans qv2_5
    have zv_6 := Nat.lt_of_lt_of_le zv_5 hb6.size
    have G_6 := Lib.hid (G_5.out.keep hb6)
    have V_6 := Lib.hid (V_5.out.keep hb6)
    have P_6 := Lib.hid (P_5.out.keep hb6)
    have Q_6 := Lib.hid (Q_5.out.keep hb6)
    clear qg0_5 qg1_5 zg_5 qv0_5 qv1_5 qv2_5 zv_5 G_5 V_5 P_5 Q_5
    go_wp2_with fail
    go_loopw [6] (fun c wr => ∃ k : Nat, k ≤ es.length ∧ c = .int .i64 k ∧ Hid (Below w6.heap.size w6 wr)) (fun c _ => es.length - (intOf c).toNat)
    case atStart => exact ⟨0, Nat.zero_le _, rfl, Lib.hid (Below.refl _ _)⟩
    case round =>
      obtain ⟨k, hk, rfl, HBW⟩ := hrel
      have sW := HBW.out.size
      have qg0_r := (HBW.out.cell (p := ⟨w1.heap.size, 0, none⟩) zg_6).trans qg0_6
      have qg1_r := (HBW.out.cell (p := ⟨w1.heap.size, 1, none⟩) zg_6).trans qg1_6
      have zg_r := Nat.lt_of_lt_of_le zg_6 HBW.out.size
      have qv0_r := (HBW.out.cell (p := ⟨w1.heap.size + 1, 0, none⟩) zv_6).trans qv0_6
      have qv1_r := (HBW.out.cell (p := ⟨w1.heap.size + 1, 1, none⟩) zv_6).trans qv1_6
      have qv2_r := (HBW.out.cell (p := ⟨w1.heap.size + 1, 2, none⟩) zv_6).trans qv2_6
      have zv_r := Nat.lt_of_lt_of_le zv_6 HBW.out.size
      by_cases hlt : k < es.length
      · have hlt' : (k : Int) < es.length := by omega
        obtain ⟨w7, hw7⟩ : ∃ w7, w7 = wr := ⟨_, rfl⟩
        subst hw7
        have hb7 : Below w6.heap.size w6 w7 := HBW.out
        have H7 := bel_trans H6 hb7
        have SZ7 := Lib.hid hb7.size
        have qg0_7 := (hb7.cell (p := ⟨w1.heap.size, 0, none⟩) zg_6).trans qg0_6
        have qg1_7 := (hb7.cell (p := ⟨w1.heap.size, 1, none⟩) zg_6).trans qg1_6
        have zg_7 := Nat.lt_of_lt_of_le zg_6 hb7.size
        have qv0_7 := (hb7.cell (p := ⟨w1.heap.size + 1, 0, none⟩) zv_6).trans qv0_6
        have qv1_7 := (hb7.cell (p := ⟨w1.heap.size + 1, 1, none⟩) zv_6).trans qv1_6
        have qv2_7 := (hb7.cell (p := ⟨w1.heap.size + 1, 2, none⟩) zv_6).trans qv2_6
        have zv_7 := Nat.lt_of_lt_of_le zv_6 hb7.size
        have G_7 := Lib.hid (G_6.out.keep hb7)
        have V_7 := Lib.hid (V_6.out.keep hb7)
        have P_7 := Lib.hid (P_6.out.keep hb7)
        have Q_7 := Lib.hid (Q_6.out.keep hb7)
        clear V_6 qv2_6 P_6 zg_6 Q_6 qv0_6 qg0_6 zv_6 G_6 qv1_6 qg1_6
        clear qg0_r qg1_r qv0_r qv1_r qv2_r zg_r zv_r
        have hRE := HRE.out k hlt
        have hmm := HMM.out k hlt
        have hto := HTO.out k hlt
        obtain ⟨L, hL⟩ : ∃ L, L = vOne m zs (es.getD k (0, 0, 0)) := ⟨_, rfl⟩
        have hLl : L.length = zs.length := by rw [hL, vOne_length]
        rw [← hL] at hRE
        have hsm : vSame m A L m A zs = !(inL P1 (k : Int)) := by
          rw [hmm]
          unfold vSame iSame
          cases hlo : vLo m zs (es.getD k (0, 0, 0))
          · rw [hL, vOne_still hlo hto]; simp
          · rw [hL, decide_eq_false (vOne_ne hlo hto)]; simp
        obtain ⟨bI, hbI⟩ : ∃ b, b = inL P1 (k : Int) := ⟨_, rfl⟩
        rw [← hbI] at hsm
        have hvs := fun s t w (h : Row w s L) (q : Row w t zs) => viewSame m A m A L zs s t w h q (by omega) (by omega)
        rw [hsm] at hvs
        have hgi := fun s w (h : Row w s P1) => gvIn P1 (k : Int) s w h (by have := HPL.out; omega)
        rw [← hbI] at hgi
        have HRK := Lib.hid hRE
        have HVS := Lib.hid hvs
        have HGI := Lib.hid hgi
        clear hRE hvs hgi hmm hto hL hLl hsm hbI
        go_wp2_with fail
        refine (HRK.out _ _ _ G_7.out.edges V_7.out.rowI).mono ?_
        rintro e w8 ⟨vx, rfl, howx, hokx, hb8⟩
        have H8 := bel_trans H7 hb8
        have SZ8 := Lib.hid hb8.size
        have qg0_8 := (hb8.cell (p := ⟨w1.heap.size, 0, none⟩) zg_7).trans qg0_7
        have qg1_8 := (hb8.cell (p := ⟨w1.heap.size, 1, none⟩) zg_7).trans qg1_7
        have zg_8 := Nat.lt_of_lt_of_le zg_7 hb8.size
        have qv0_8 := (hb8.cell (p := ⟨w1.heap.size + 1, 0, none⟩) zv_7).trans qv0_7
        have qv1_8 := (hb8.cell (p := ⟨w1.heap.size + 1, 1, none⟩) zv_7).trans qv1_7
        have qv2_8 := (hb8.cell (p := ⟨w1.heap.size + 1, 2, none⟩) zv_7).trans qv2_7
        have zv_8 := Nat.lt_of_lt_of_le zv_7 hb8.size
        have G_8 := Lib.hid (G_7.out.keep hb8)
        have V_8 := Lib.hid (V_7.out.keep hb8)
        have P_8 := Lib.hid (P_7.out.keep hb8)
        have Q_8 := Lib.hid (Q_7.out.keep hb8)
        obtain ⟨ax, cx, rfl, hz9⟩ := id howx
        clear hz9 hokx
        have X_8 := Lib.hid (show InR true w8 w7.heap.size w8.heap.size _ L.length 1 (cellI L) from howx)
        clear qg0_7 qg1_7 zg_7 qv0_7 qv1_7 qv2_7 zv_7 G_7 V_7 P_7 Q_7
        clear howx
        go_wp2_with fail
        have hb9 : Below w8.heap.size w8 (w8.alloc (.cells #[.int .i64 m, .int .i64 A, .slice ax L.length cx] 28)) := (Below.refl _ _).alloc (by simp <;> omega) _
        have H9 := bel_trans H8 hb9
        have SZ9 := Lib.hid hb9.size
        have qg0_9 := (hb9.cell (p := ⟨w1.heap.size, 0, none⟩) zg_8).trans qg0_8
        have qg1_9 := (hb9.cell (p := ⟨w1.heap.size, 1, none⟩) zg_8).trans qg1_8
        have zg_9 := Nat.lt_of_lt_of_le zg_8 hb9.size
        have qv0_9 := (hb9.cell (p := ⟨w1.heap.size + 1, 0, none⟩) zv_8).trans qv0_8
        have qv1_9 := (hb9.cell (p := ⟨w1.heap.size + 1, 1, none⟩) zv_8).trans qv1_8
        have qv2_9 := (hb9.cell (p := ⟨w1.heap.size + 1, 2, none⟩) zv_8).trans qv2_8
        have zv_9 := Nat.lt_of_lt_of_le zv_8 hb9.size
        have G_9 := Lib.hid (G_8.out.keep hb9)
        have V_9 := Lib.hid (V_8.out.keep hb9)
        have P_9 := Lib.hid (P_8.out.keep hb9)
        have Q_9 := Lib.hid (Q_8.out.keep hb9)
        have X_9 := Lib.hid (X_8.out.keep hb9)
        have qx0_9 : (w8.alloc (.cells #[.int .i64 m, .int .i64 A, .slice ax L.length cx] 28)).cell? ⟨w8.heap.size, 0, none⟩ = some (.int .i64 m) := by go_simp
        have qx1_9 : (w8.alloc (.cells #[.int .i64 m, .int .i64 A, .slice ax L.length cx] 28)).cell? ⟨w8.heap.size, 1, none⟩ = some (.int .i64 A) := by go_simp
        have qx2_9 : (w8.alloc (.cells #[.int .i64 m, .int .i64 A, .slice ax L.length cx] 28)).cell? ⟨w8.heap.size, 2, none⟩ = some (.slice ax L.length cx) := by go_simp
        have zx_9 : w8.heap.size < (w8.alloc (.cells #[.int .i64 m, .int .i64 A, .slice ax L.length cx] 28)).heap.size := by simp <;> omega
        generalize (w8.alloc (.cells #[.int .i64 m, .int .i64 A, .slice ax L.length cx] 28)) = w9 at hb9 H9 SZ9 G_9 P_9 Q_9 V_9 X_9 qg0_9 qg1_9 qv0_9 qv1_9 qv2_9 qx0_9 qx1_9 qx2_9 zg_9 zv_9 zx_9 ⊢
        have ZBx := Lib.hid zx_9
        clear qg0_8 qg1_8 zg_8 qv0_8 qv1_8 qv2_8 zv_8 G_8 V_8 P_8 Q_8 X_8
        cases bI
        · refine (HVS.out _ _ _ X_9.out.rowI V_9.out.rowI).mono ?_
          rintro e w10 ⟨rfl, hb10⟩
          have H10 := bel_trans H9 hb10
          have SZ10 := Lib.hid hb10.size
          have qg0_10 := (hb10.cell (p := ⟨w1.heap.size, 0, none⟩) zg_9).trans qg0_9
          have qg1_10 := (hb10.cell (p := ⟨w1.heap.size, 1, none⟩) zg_9).trans qg1_9
          have zg_10 := Nat.lt_of_lt_of_le zg_9 hb10.size
          have qv0_10 := (hb10.cell (p := ⟨w1.heap.size + 1, 0, none⟩) zv_9).trans qv0_9
          have qv1_10 := (hb10.cell (p := ⟨w1.heap.size + 1, 1, none⟩) zv_9).trans qv1_9
          have qv2_10 := (hb10.cell (p := ⟨w1.heap.size + 1, 2, none⟩) zv_9).trans qv2_9
          have zv_10 := Nat.lt_of_lt_of_le zv_9 hb10.size
          have qx0_10 := (hb10.cell (p := ⟨w8.heap.size, 0, none⟩) zx_9).trans qx0_9
          have qx1_10 := (hb10.cell (p := ⟨w8.heap.size, 1, none⟩) zx_9).trans qx1_9
          have qx2_10 := (hb10.cell (p := ⟨w8.heap.size, 2, none⟩) zx_9).trans qx2_9
          have zx_10 := Nat.lt_of_lt_of_le zx_9 hb10.size
          have G_10 := Lib.hid (G_9.out.keep hb10)
          have V_10 := Lib.hid (V_9.out.keep hb10)
          have P_10 := Lib.hid (P_9.out.keep hb10)
          have Q_10 := Lib.hid (Q_9.out.keep hb10)
          have X_10 := Lib.hid (X_9.out.keep hb10)
          clear Q_9 qg1_9 zx_9 qg0_9 qv2_9 V_9 qx2_9 qx0_9 zg_9 X_9 zv_9 qv0_9 P_9 G_9 qx1_9 qv1_9
          go_wp2_with fail
          refine (HGI.out _ _ P_10.out.ints).mono ?_
          rintro e w11 ⟨rfl, hb11⟩
          have H11 := bel_trans H10 hb11
          have SZ11 := Lib.hid hb11.size
          have qg0_11 := (hb11.cell (p := ⟨w1.heap.size, 0, none⟩) zg_10).trans qg0_10
          have qg1_11 := (hb11.cell (p := ⟨w1.heap.size, 1, none⟩) zg_10).trans qg1_10
          have zg_11 := Nat.lt_of_lt_of_le zg_10 hb11.size
          have qv0_11 := (hb11.cell (p := ⟨w1.heap.size + 1, 0, none⟩) zv_10).trans qv0_10
          have qv1_11 := (hb11.cell (p := ⟨w1.heap.size + 1, 1, none⟩) zv_10).trans qv1_10
          have qv2_11 := (hb11.cell (p := ⟨w1.heap.size + 1, 2, none⟩) zv_10).trans qv2_10
          have zv_11 := Nat.lt_of_lt_of_le zv_10 hb11.size
          have qx0_11 := (hb11.cell (p := ⟨w8.heap.size, 0, none⟩) zx_10).trans qx0_10
          have qx1_11 := (hb11.cell (p := ⟨w8.heap.size, 1, none⟩) zx_10).trans qx1_10
          have qx2_11 := (hb11.cell (p := ⟨w8.heap.size, 2, none⟩) zx_10).trans qx2_10
          have zx_11 := Nat.lt_of_lt_of_le zx_10 hb11.size
          have G_11 := Lib.hid (G_10.out.keep hb11)
          have V_11 := Lib.hid (V_10.out.keep hb11)
          have P_11 := Lib.hid (P_10.out.keep hb11)
          have Q_11 := Lib.hid (Q_10.out.keep hb11)
          have X_11 := Lib.hid (X_10.out.keep hb11)
          clear qg0_10 qg1_10 zg_10 qv0_10 qv1_10 qv2_10 zv_10 qx0_10 qx1_10 qx2_10 zx_10 G_10 V_10 P_10 Q_10 X_10
          go_wp2
          go_roundw
          case rel => first | exact ⟨k + 1, by omega, by go_num, Lib.hid (bel_trans (bel_trans (bel_trans (bel_trans (HBW.out) hb8) hb9) hb10) hb11)⟩ | exact ⟨_, ⟨k + 1, by omega, by go_num, Lib.hid (bel_trans (bel_trans (bel_trans (bel_trans (HBW.out) hb8) hb9) hb10) hb11)⟩, rfl⟩ | ((repeat apply Exists.intro); exact ⟨⟨k + 1, by omega, by go_num, Lib.hid (bel_trans (bel_trans (bel_trans (bel_trans (HBW.out) hb8) hb9) hb10) hb11)⟩, rfl⟩)
          case measure => simp [intOf]; omega
        · refine (HVS.out _ _ _ X_9.out.rowI V_9.out.rowI).mono ?_
          rintro e w10 ⟨rfl, hb10⟩
          have H10 := bel_trans H9 hb10
          have SZ10 := Lib.hid hb10.size
          have qg0_10 := (hb10.cell (p := ⟨w1.heap.size, 0, none⟩) zg_9).trans qg0_9
          have qg1_10 := (hb10.cell (p := ⟨w1.heap.size, 1, none⟩) zg_9).trans qg1_9
          have zg_10 := Nat.lt_of_lt_of_le zg_9 hb10.size
          have qv0_10 := (hb10.cell (p := ⟨w1.heap.size + 1, 0, none⟩) zv_9).trans qv0_9
          have qv1_10 := (hb10.cell (p := ⟨w1.heap.size + 1, 1, none⟩) zv_9).trans qv1_9
          have qv2_10 := (hb10.cell (p := ⟨w1.heap.size + 1, 2, none⟩) zv_9).trans qv2_9
          have zv_10 := Nat.lt_of_lt_of_le zv_9 hb10.size
          have qx0_10 := (hb10.cell (p := ⟨w8.heap.size, 0, none⟩) zx_9).trans qx0_9
          have qx1_10 := (hb10.cell (p := ⟨w8.heap.size, 1, none⟩) zx_9).trans qx1_9
          have qx2_10 := (hb10.cell (p := ⟨w8.heap.size, 2, none⟩) zx_9).trans qx2_9
          have zx_10 := Nat.lt_of_lt_of_le zx_9 hb10.size
          have G_10 := Lib.hid (G_9.out.keep hb10)
          have V_10 := Lib.hid (V_9.out.keep hb10)
          have P_10 := Lib.hid (P_9.out.keep hb10)
          have Q_10 := Lib.hid (Q_9.out.keep hb10)
          have X_10 := Lib.hid (X_9.out.keep hb10)
          clear Q_9 qg1_9 zx_9 qg0_9 qv2_9 V_9 qx2_9 qx0_9 zg_9 X_9 zv_9 qv0_9 P_9 G_9 qx1_9 qv1_9
          go_wp2_with fail
          refine (HGI.out _ _ P_10.out.ints).mono ?_
          rintro e w11 ⟨rfl, hb11⟩
          have H11 := bel_trans H10 hb11
          have SZ11 := Lib.hid hb11.size
          have qg0_11 := (hb11.cell (p := ⟨w1.heap.size, 0, none⟩) zg_10).trans qg0_10
          have qg1_11 := (hb11.cell (p := ⟨w1.heap.size, 1, none⟩) zg_10).trans qg1_10
          have zg_11 := Nat.lt_of_lt_of_le zg_10 hb11.size
          have qv0_11 := (hb11.cell (p := ⟨w1.heap.size + 1, 0, none⟩) zv_10).trans qv0_10
          have qv1_11 := (hb11.cell (p := ⟨w1.heap.size + 1, 1, none⟩) zv_10).trans qv1_10
          have qv2_11 := (hb11.cell (p := ⟨w1.heap.size + 1, 2, none⟩) zv_10).trans qv2_10
          have zv_11 := Nat.lt_of_lt_of_le zv_10 hb11.size
          have qx0_11 := (hb11.cell (p := ⟨w8.heap.size, 0, none⟩) zx_10).trans qx0_10
          have qx1_11 := (hb11.cell (p := ⟨w8.heap.size, 1, none⟩) zx_10).trans qx1_10
          have qx2_11 := (hb11.cell (p := ⟨w8.heap.size, 2, none⟩) zx_10).trans qx2_10
          have zx_11 := Nat.lt_of_lt_of_le zx_10 hb11.size
          have G_11 := Lib.hid (G_10.out.keep hb11)
          have V_11 := Lib.hid (V_10.out.keep hb11)
          have P_11 := Lib.hid (P_10.out.keep hb11)
          have Q_11 := Lib.hid (Q_10.out.keep hb11)
          have X_11 := Lib.hid (X_10.out.keep hb11)
          clear qg0_10 qg1_10 zg_10 qv0_10 qv1_10 qv2_10 zv_10 qx0_10 qx1_10 qx2_10 zx_10 G_10 V_10 P_10 Q_10 X_10
          go_wp2
          go_roundw
          case rel => first | exact ⟨k + 1, by omega, by go_num, Lib.hid (bel_trans (bel_trans (bel_trans (bel_trans (HBW.out) hb8) hb9) hb10) hb11)⟩ | exact ⟨_, ⟨k + 1, by omega, by go_num, Lib.hid (bel_trans (bel_trans (bel_trans (bel_trans (HBW.out) hb8) hb9) hb10) hb11)⟩, rfl⟩ | ((repeat apply Exists.intro); exact ⟨⟨k + 1, by omega, by go_num, Lib.hid (bel_trans (bel_trans (bel_trans (bel_trans (HBW.out) hb8) hb9) hb10) hb11)⟩, rfl⟩)
          case measure => simp [intOf]; omega
      · have hke : k = es.length := by omega
        have hkk : ¬ ((k : Int) < es.length) := by omega
        clear hlt hke
        obtain ⟨bZ, hbZ⟩ : ∃ b, b = decide (P1.length = 0) := ⟨_, rfl⟩
        have hbz2 : (((P1.length : Nat) : Int) == 0) = bZ := by rw [hbZ]; by_cases h9 : P1.length = 0; (rw [h9]; rfl); (rw [decide_eq_false h9]; exact beq_eq_false_iff_ne.2 (by omega))
        have hib := HIB.out _ _ wr (G_6.out.edges.keep HBW.out) (V_6.out.rowI.keep HBW.out)
        rw [← hbZ] at hib
        have HIZ := Lib.hid hib
        clear hib hbZ
        cases bZ
        · go_wp2_with fail
          refine (HIZ.out).mono ?_
          rintro e w90 ⟨rfl, hb90⟩
          go_wp2
          go_ret
          exact ⟨by simp, bel_trans (bel_trans H6 HBW.out) hb90⟩
        · go_wp2_with fail
          refine (HIZ.out).mono ?_
          rintro e w90 ⟨rfl, hb90⟩
          go_wp2
          go_ret
          exact ⟨by simp, bel_trans (bel_trans H6 HBW.out) hb90⟩

set_option maxRecDepth 100000 in
theorem lifted (os : Os) (started : os.Started) (H : Type) (enc : TypeId × Value → H) :
    ReturnsInHanded {} Try.checked os 4 .any (Rows.fnLooseEdgesSpec.pre6 enc Try.prog Try.f4 Rows.fnLooseEdgesRow.domain false) (Rows.fnLooseEdgesSpec.post enc Try.prog Try.f4 false true false false) := by
  refine returnsInHanded_of_change (C := Try.checked) own started (by kernel_rfl) Try.func4
    (ChangeSpec.witness6 (enc := enc) (C := Try.checked) false ⟨#[], #[.slice none 0 0], []⟩ 8 (by kernel_rfl) (by kernel_rfl) (by kernel_rfl) (by kernel_rfl)) ?_
  intro W base args ds gs before hval0 hW hcnd _
  have hval : ∀ (j : Nat) t v, Try.f4.params[j]? = some t → args[j]? = some v → Value.okWide Try.prog W .any base t v := hval0
  have hW' := hW
  obtain ⟨p, q, hA0, hV, rfl, hfz, hnd⟩ := hW
  have hA : DataW.TrodAll enc Try.prog W 0 (fun _ => true) true Try.f4.params.toList args.toList ds p := hA0
  rw [Try.params4] at hA hval
  obtain ⟨v0, vs0, d0, ds0, p0, q0, hargs, rfl, rfl, h0, r0⟩ := trodAll_cons hA
  obtain ⟨rfl, rfl, rfl⟩ := trodAll_nil r0
  obtain rfl : args = #[v0] := by cases args; simp_all
  obtain ⟨rfl, rfl⟩ := trodVars_none hV
  obtain ⟨a0, len0, cap0, rfl⟩ := okWide_slice Try.underlying22 (hval 0 22 v0 rfl rfl)
  have k0 := h0
  have lt0 : ∀ x ∈ p0, x.block < W.heap.size := by obtain ⟨m, hm⟩ := k0; exact DataW.trod_lt m _ _ _ hm
  obtain ⟨z0, w0⟩ : ∃ zs, IsRow .u8 W a0 len0 cap0 zs := by
    obtain ⟨fuel, hf⟩ := h0
    rcases open_ints Try.underlying22 Try.underlying5 (by kernel_rfl) hf with ⟨hcs, _⟩ | ⟨x, l, c, zs, hcs, _, hl, hm, hz, _, hcell, hwz⟩
    · simp [Value.cells] at hcs
      obtain ⟨rfl, rfl, rfl⟩ := hcs
      exact ⟨[], .inl ⟨rfl, rfl, rfl, rfl⟩⟩
    · simp [Value.cells] at hcs
      obtain ⟨rfl, rfl, rfl⟩ := hcs
      exact ⟨zs, .inr ⟨_, rfl, hl, hm, by simpa using hz, hcell, hwz⟩⟩
  clear hA0 hval0
  refine (walk a0 len0 cap0 z0 W w0).mono fun e W' ⟨he, bel⟩ => ?_
  subst he
  exact ⟨_, rfl, _, _, _, [], _, [], hW', trodAll_mk1 (shut_bool Try.underlying4 _), (trodAll_cons_mk (Below.trod laidOut (by kernel_rfl) (of_decide_eq_true (by kernel_rfl)) k0 bel lt0) trodAll_mk0), rfl, bel.frame _, fun h => by cases h⟩

theorem over : Rows.fnLooseEdgesRow.holds Try.pinned (OpenSpec.ofChange Rows.fnLooseEdgesSpec) :=
  OpenClaim.holds_of_wide 4 Try.f4 rfl rfl rfl rfl rfl rfl rfl ⟨rfl, rfl, rfl, rfl, rfl⟩ rfl rfl rfl rfl rfl (by kernel_rfl) Try.func4 (by kernel_rfl)
    (of_decide_eq_true (by kernel_rfl)) (by unfold Func.isWrapper; first | (rw [if_pos (by decide +kernel)]; kernel_rfl) | (rw [if_neg (by decide +kernel)]; exact ⟨rfl, rfl⟩))
    (fun os started H enc _ => lifted os started H enc)

theorem proved : Rows.FnLooseEdgesSaid := over
end Go.Proofs.Ytflcnlepbllelaa.fnLooseEdges
