/-
  Proved: the nodes that a right view reaches are those that the reach has from its source, whatever the measure (the law FnReachedNodes returns true for every input and leaves it as it was), with no further condition.
-/
import Derived.Test.YtlmhccjppmhdbaaRows
import Derived.Test.YtlmhccjppmhdbaaDraws3
import Derived.Test.YtlmhccjppmhdbaaViewT
import Derived.Test.YtlmhccjppmhdbaaReachedS
import Derived.Test.YtlmhccjppmhdbaaStartL
import Derived.Test.YtlmhccjppmhdbaaReachR
import Derived.WalkKit
import Derived.ProofKit
import Derived.OpenShut
import Derived.ShutString
import Derived.ChangeOld
import Derived.Below
namespace Go.Proofs.Ytlmhccjppmhdbaa.fnReachedNodes
open Go.Proofs.Ytlmhccjppmhdbaa Go.BigFrame
open Go.ChangeShapes Go.WideShapes Go.ChangeAt Go.RowKit
open Go.ChangeMaps (open_string shut_string)
set_option linter.unusedVariables false

theorem own : ownKnob Try.prog.godebug = none := by kernel_rfl
theorem laidOut : laidOutB Try.prog = true := by kernel_rfl

def IsRow (k : IntKind) (w : World) (a : Option Addr) (len cap : Nat) (zs : List Int) : Prop :=
  (a = none ∧ len = 0 ∧ cap = 0 ∧ zs = []) ∨
  ∃ x, a = some x ∧ len ≤ cap ∧ cap ≤ maxLen ∧ zs.length = cap ∧ (∀ i, i < zs.length → w.cell? (x.add i) = some (.int k (zs.getD i 0))) ∧ ∀ n ∈ zs, (Lit.int k n).wf = true

theorem bytes_of {w : World} {a : Option Addr} {len cap : Nat} {zs : List Int} (h : IsRow .u8 w a len cap zs) : Bytes w a len ∧ len ≤ cap ∧ len ≤ 9223372036854775807 := by
  rcases h with ⟨rfl, rfl, rfl, rfl⟩ | ⟨x, rfl, hl, hm, hz, hc, hw⟩
  · exact ⟨.inl rfl, Nat.le_refl _, by omega⟩
  · unfold maxLen at hm
    refine ⟨?_, hl, by omega⟩
    by_cases h0 : len = 0
    · exact .inl h0
    · obtain ⟨b, off, rfl, hc'⟩ := ints_at hc (by omega)
      exact .inr ⟨b, off, rfl, World.block_lt_of_cell? _ _ (hc' 0 (by omega)), fun i hi => ⟨zs[i]?.getD 0, (range_u8 hw i).1, (range_u8 hw i).2, hc' i (by omega)⟩⟩

set_option maxRecDepth 100000 in
set_option maxHeartbeats 4000000 in
theorem walk (a0 : Option Addr) (len0 cap0 : Nat) (z0 : List Int) (w : World) (w0 : IsRow .u8 w a0 len0 cap0 z0) :
    Calls Try.prog 13 #[.slice a0 len0 cap0] w fun e w' => e = .returned (.bool true) ∧ Below w.heap.size w w' := by
  obtain ⟨hby, hcp, hn⟩ := bytes_of w0
  have HB0 := Lib.hid hby
  clear hby w0
  by_cases h0 : 1048576 < len0
  · go_enter Try.func13, Try.ntmps13
    go_wp2
    go_ret
    exact ⟨rfl, Below.refl _ _⟩
  have h0' : len0 ≤ 1048576 := by omega
  clear h0
  obtain ⟨w0, hw0⟩ : ∃ w0, w0 = w := ⟨_, rfl⟩
  subst hw0
  have H0 := Below.refl w0.heap.size w0
  go_enter Try.func13, Try.ntmps13
  go_wp2_with fail
  refine (dDrawBestFirst a0 len0 cap0 _ HB0.out hcp (by omega)).mono ?_
  rintro e w1 ⟨n, es, v, m, src, rfl, hle, hrow, hok, hb1⟩
  have H1 := bel_trans H0 hb1
  have SZ1 := Lib.hid hb1.size
  obtain ⟨va, vc, rfl, hz9⟩ := id hrow
  have HOKG := Lib.hid hok
  clear hz9 hok
  have G_1 := Lib.hid (hrow)
  clear hrow
  go_wp2_with fail
  have hb2 : Below w1.heap.size w1 (w1.alloc (.cells #[.int .i64 n, .slice va es.length vc] 33)) := (Below.refl _ _).alloc (by simp <;> omega) _
  have H2 := bel_trans H1 hb2
  have SZ2 := Lib.hid hb2.size
  have G_2 := Lib.hid (G_1.out.keep hb2)
  have qg0_2 : (w1.alloc (.cells #[.int .i64 n, .slice va es.length vc] 33)).cell? ⟨w1.heap.size, 0, none⟩ = some (.int .i64 n) := by go_simp
  have qg1_2 : (w1.alloc (.cells #[.int .i64 n, .slice va es.length vc] 33)).cell? ⟨w1.heap.size, 1, none⟩ = some (.slice va es.length vc) := by go_simp
  have zg_2 : w1.heap.size < (w1.alloc (.cells #[.int .i64 n, .slice va es.length vc] 33)).heap.size := by simp <;> omega
  generalize (w1.alloc (.cells #[.int .i64 n, .slice va es.length vc] 33)) = w2 at hb2 H2 SZ2 G_2 qg0_2 qg1_2 zg_2 ⊢
  have ZBg := Lib.hid zg_2
  clear G_1
  have hle2 : es.length ≤ 1048576 := by omega
  have hle3 : es.length ≤ 281474976710656 := by omega
  have hst := fun m s w (h : RowE w s es) => viewOf n m src es s w h hle3
  have hss := fun s w (h : RowE w s es) => sViewOf n m src es s w h hle3
  cases hk : onOk n es m [src]
  · have hs1 := hst m
    rw [show stM n es m src = 0 by unfold stM; rw [hk]; rfl, show stA n es m src = 0 by unfold stA; rw [hk]; rfl, show voL n es m src = [] by unfold voL; rw [hk]; rfl, hk] at hs1 hss
    have HST := Lib.hid hs1
    have HSS := Lib.hid hss
    have hrn := fun s t w (h : RowE w s es) (k : Row w t []) => reachedNodes n 0 0 es [] s t w h k hle3 (by simp)
    have hrs := fun s t w (h : RowE w s es) (k : Row w t []) => sReachedNodes n 0 0 es [] s t w h k hle3 (by simp)
    rw [show rchV n es 0 0 [] = [] by unfold rchV; split <;> rfl] at hrn hrs
    have HRN := Lib.hid hrn
    have HRS := Lib.hid hrs
    clear hst hs1 hss hrn hrs hk
    refine (HST.out _ _ G_2.out.edges).mono ?_
    rintro e w3 ⟨vu, rfl, howu, hoku, hb3⟩
    have H3 := bel_trans H2 hb3
    have SZ3 := Lib.hid hb3.size
    have qg0_3 := (hb3.cell (p := ⟨w1.heap.size, 0, none⟩) zg_2).trans qg0_2
    have qg1_3 := (hb3.cell (p := ⟨w1.heap.size, 1, none⟩) zg_2).trans qg1_2
    have zg_3 := Nat.lt_of_lt_of_le zg_2 hb3.size
    have G_3 := Lib.hid (G_2.out.keep hb3)
    obtain ⟨au, cu, rfl, hz9⟩ := id howu
    clear hz9 hoku
    have U_3 := Lib.hid (show InR true w3 w2.heap.size w3.heap.size _ ([] : List Int).length 1 (cellI ([] : List Int)) from howu)
    clear qg1_2 G_2 qg0_2 zg_2
    clear howu
    go_wp2_with fail
    have hb4 : Below w3.heap.size w3 (w3.alloc (.cells #[.int .i64 0, .int .i64 0, .slice au ([] : List Int).length cu] 43)) := (Below.refl _ _).alloc (by simp <;> omega) _
    have H4 := bel_trans H3 hb4
    have SZ4 := Lib.hid hb4.size
    have qg0_4 := (hb4.cell (p := ⟨w1.heap.size, 0, none⟩) zg_3).trans qg0_3
    have qg1_4 := (hb4.cell (p := ⟨w1.heap.size, 1, none⟩) zg_3).trans qg1_3
    have zg_4 := Nat.lt_of_lt_of_le zg_3 hb4.size
    have G_4 := Lib.hid (G_3.out.keep hb4)
    have U_4 := Lib.hid (U_3.out.keep hb4)
    have qu0_4 : (w3.alloc (.cells #[.int .i64 0, .int .i64 0, .slice au ([] : List Int).length cu] 43)).cell? ⟨w3.heap.size, 0, none⟩ = some (.int .i64 0) := by go_simp
    have qu1_4 : (w3.alloc (.cells #[.int .i64 0, .int .i64 0, .slice au ([] : List Int).length cu] 43)).cell? ⟨w3.heap.size, 1, none⟩ = some (.int .i64 0) := by go_simp
    have qu2_4 : (w3.alloc (.cells #[.int .i64 0, .int .i64 0, .slice au ([] : List Int).length cu] 43)).cell? ⟨w3.heap.size, 2, none⟩ = some (.slice au ([] : List Int).length cu) := by go_simp
    have zu_4 : w3.heap.size < (w3.alloc (.cells #[.int .i64 0, .int .i64 0, .slice au ([] : List Int).length cu] 43)).heap.size := by simp <;> omega
    generalize (w3.alloc (.cells #[.int .i64 0, .int .i64 0, .slice au ([] : List Int).length cu] 43)) = w4 at hb4 H4 SZ4 G_4 U_4 qg0_4 qg1_4 qu0_4 qu1_4 qu2_4 zg_4 zu_4 ⊢
    have ZBu := Lib.hid zu_4
    clear qg0_3 qg1_3 zg_3 G_3 U_3
    refine (HSS.out _ _ G_4.out.edges).mono ?_
    rintro e w5 ⟨vd, rfl, howd, hokd, hb5⟩
    have H5 := bel_trans H4 hb5
    have SZ5 := Lib.hid hb5.size
    have qg0_5 := (hb5.cell (p := ⟨w1.heap.size, 0, none⟩) zg_4).trans qg0_4
    have qg1_5 := (hb5.cell (p := ⟨w1.heap.size, 1, none⟩) zg_4).trans qg1_4
    have zg_5 := Nat.lt_of_lt_of_le zg_4 hb5.size
    have qu0_5 := (hb5.cell (p := ⟨w3.heap.size, 0, none⟩) zu_4).trans qu0_4
    have qu1_5 := (hb5.cell (p := ⟨w3.heap.size, 1, none⟩) zu_4).trans qu1_4
    have qu2_5 := (hb5.cell (p := ⟨w3.heap.size, 2, none⟩) zu_4).trans qu2_4
    have zu_5 := Nat.lt_of_lt_of_le zu_4 hb5.size
    have G_5 := Lib.hid (G_4.out.keep hb5)
    have U_5 := Lib.hid (U_4.out.keep hb5)
    obtain ⟨ad, cd, rfl, hz9⟩ := id howd
    clear hz9 hokd
    have D_5 := Lib.hid (show InR true w5 w4.heap.size w5.heap.size _ ([] : List Int).length 1 (cellI ([] : List Int)) from howd)
    clear qg0_4 qg1_4 zg_4 G_4 U_4 qu0_4 qu1_4 qu2_4 zu_4
    clear howd
    go_wp2_with fail
    have hb6 : Below w5.heap.size w5 (w5.alloc (.cells #[.int .i64 0, .int .i64 0, .slice ad ([] : List Int).length cd] 43)) := (Below.refl _ _).alloc (by simp <;> omega) _
    have H6 := bel_trans H5 hb6
    have SZ6 := Lib.hid hb6.size
    have qg0_6 := (hb6.cell (p := ⟨w1.heap.size, 0, none⟩) zg_5).trans qg0_5
    have qg1_6 := (hb6.cell (p := ⟨w1.heap.size, 1, none⟩) zg_5).trans qg1_5
    have zg_6 := Nat.lt_of_lt_of_le zg_5 hb6.size
    have qu0_6 := (hb6.cell (p := ⟨w3.heap.size, 0, none⟩) zu_5).trans qu0_5
    have qu1_6 := (hb6.cell (p := ⟨w3.heap.size, 1, none⟩) zu_5).trans qu1_5
    have qu2_6 := (hb6.cell (p := ⟨w3.heap.size, 2, none⟩) zu_5).trans qu2_5
    have zu_6 := Nat.lt_of_lt_of_le zu_5 hb6.size
    have G_6 := Lib.hid (G_5.out.keep hb6)
    have U_6 := Lib.hid (U_5.out.keep hb6)
    have D_6 := Lib.hid (D_5.out.keep hb6)
    have qd0_6 : (w5.alloc (.cells #[.int .i64 0, .int .i64 0, .slice ad ([] : List Int).length cd] 43)).cell? ⟨w5.heap.size, 0, none⟩ = some (.int .i64 0) := by go_simp
    have qd1_6 : (w5.alloc (.cells #[.int .i64 0, .int .i64 0, .slice ad ([] : List Int).length cd] 43)).cell? ⟨w5.heap.size, 1, none⟩ = some (.int .i64 0) := by go_simp
    have qd2_6 : (w5.alloc (.cells #[.int .i64 0, .int .i64 0, .slice ad ([] : List Int).length cd] 43)).cell? ⟨w5.heap.size, 2, none⟩ = some (.slice ad ([] : List Int).length cd) := by go_simp
    have zd_6 : w5.heap.size < (w5.alloc (.cells #[.int .i64 0, .int .i64 0, .slice ad ([] : List Int).length cd] 43)).heap.size := by simp <;> omega
    generalize (w5.alloc (.cells #[.int .i64 0, .int .i64 0, .slice ad ([] : List Int).length cd] 43)) = w6 at hb6 H6 SZ6 D_6 G_6 U_6 qd0_6 qd1_6 qd2_6 qg0_6 qg1_6 qu0_6 qu1_6 qu2_6 zd_6 zg_6 zu_6 ⊢
    have ZBd := Lib.hid zd_6
    clear qg0_5 qg1_5 zg_5 qu0_5 qu1_5 qu2_5 zu_5 G_5 U_5 D_5
    refine (HRN.out _ _ _ G_6.out.edges U_6.out.rowI).mono ?_
    rintro e w7 ⟨vp, rfl, howp, hb7⟩
    have H7 := bel_trans H6 hb7
    have SZ7 := Lib.hid hb7.size
    have qg0_7 := (hb7.cell (p := ⟨w1.heap.size, 0, none⟩) zg_6).trans qg0_6
    have qg1_7 := (hb7.cell (p := ⟨w1.heap.size, 1, none⟩) zg_6).trans qg1_6
    have zg_7 := Nat.lt_of_lt_of_le zg_6 hb7.size
    have qu0_7 := (hb7.cell (p := ⟨w3.heap.size, 0, none⟩) zu_6).trans qu0_6
    have qu1_7 := (hb7.cell (p := ⟨w3.heap.size, 1, none⟩) zu_6).trans qu1_6
    have qu2_7 := (hb7.cell (p := ⟨w3.heap.size, 2, none⟩) zu_6).trans qu2_6
    have zu_7 := Nat.lt_of_lt_of_le zu_6 hb7.size
    have qd0_7 := (hb7.cell (p := ⟨w5.heap.size, 0, none⟩) zd_6).trans qd0_6
    have qd1_7 := (hb7.cell (p := ⟨w5.heap.size, 1, none⟩) zd_6).trans qd1_6
    have qd2_7 := (hb7.cell (p := ⟨w5.heap.size, 2, none⟩) zd_6).trans qd2_6
    have zd_7 := Nat.lt_of_lt_of_le zd_6 hb7.size
    have G_7 := Lib.hid (G_6.out.keep hb7)
    have U_7 := Lib.hid (U_6.out.keep hb7)
    have D_7 := Lib.hid (D_6.out.keep hb7)
    obtain ⟨ap, cp, rfl, hz9⟩ := id howp
    clear hz9
    have P_7 := Lib.hid (show InR true w7 w6.heap.size w7.heap.size _ ([] : List Int).length 1 (cellI ([] : List Int)) from howp)
    clear qg0_6 qg1_6 zg_6 qu0_6 qu1_6 qu2_6 zu_6 G_6 U_6 D_6 qd0_6 qd1_6 qd2_6 zd_6
    clear howp
    go_wp2_with fail
    refine (HRS.out _ _ _ G_7.out.edges U_7.out.rowI).mono ?_
    rintro e w8 ⟨vq, rfl, howq, hb8⟩
    have H8 := bel_trans H7 hb8
    have SZ8 := Lib.hid hb8.size
    have qg0_8 := (hb8.cell (p := ⟨w1.heap.size, 0, none⟩) zg_7).trans qg0_7
    have qg1_8 := (hb8.cell (p := ⟨w1.heap.size, 1, none⟩) zg_7).trans qg1_7
    have zg_8 := Nat.lt_of_lt_of_le zg_7 hb8.size
    have qu0_8 := (hb8.cell (p := ⟨w3.heap.size, 0, none⟩) zu_7).trans qu0_7
    have qu1_8 := (hb8.cell (p := ⟨w3.heap.size, 1, none⟩) zu_7).trans qu1_7
    have qu2_8 := (hb8.cell (p := ⟨w3.heap.size, 2, none⟩) zu_7).trans qu2_7
    have zu_8 := Nat.lt_of_lt_of_le zu_7 hb8.size
    have qd0_8 := (hb8.cell (p := ⟨w5.heap.size, 0, none⟩) zd_7).trans qd0_7
    have qd1_8 := (hb8.cell (p := ⟨w5.heap.size, 1, none⟩) zd_7).trans qd1_7
    have qd2_8 := (hb8.cell (p := ⟨w5.heap.size, 2, none⟩) zd_7).trans qd2_7
    have zd_8 := Nat.lt_of_lt_of_le zd_7 hb8.size
    have G_8 := Lib.hid (G_7.out.keep hb8)
    have U_8 := Lib.hid (U_7.out.keep hb8)
    have D_8 := Lib.hid (D_7.out.keep hb8)
    have P_8 := Lib.hid (P_7.out.keep hb8)
    obtain ⟨aq, cq, rfl, hz9⟩ := id howq
    clear hz9
    have Q_8 := Lib.hid (show InR true w8 w7.heap.size w8.heap.size _ ([] : List Int).length 1 (cellI ([] : List Int)) from howq)
    clear qg0_7 qg1_7 zg_7 qu0_7 qu1_7 qu2_7 zu_7 qd0_7 qd1_7 qd2_7 zd_7 G_7 U_7 D_7 P_7
    clear howq
    go_wp2_with fail
    refine (gvInts [] _ _ _ P_8.out.ints Q_8.out.ints (by simp)).mono ?_
    rintro e w9 ⟨rfl, hb9⟩
    have H9 := bel_trans H8 hb9
    have SZ9 := Lib.hid hb9.size
    have qg0_9 := (hb9.cell (p := ⟨w1.heap.size, 0, none⟩) zg_8).trans qg0_8
    have qg1_9 := (hb9.cell (p := ⟨w1.heap.size, 1, none⟩) zg_8).trans qg1_8
    have zg_9 := Nat.lt_of_lt_of_le zg_8 hb9.size
    have qu0_9 := (hb9.cell (p := ⟨w3.heap.size, 0, none⟩) zu_8).trans qu0_8
    have qu1_9 := (hb9.cell (p := ⟨w3.heap.size, 1, none⟩) zu_8).trans qu1_8
    have qu2_9 := (hb9.cell (p := ⟨w3.heap.size, 2, none⟩) zu_8).trans qu2_8
    have zu_9 := Nat.lt_of_lt_of_le zu_8 hb9.size
    have qd0_9 := (hb9.cell (p := ⟨w5.heap.size, 0, none⟩) zd_8).trans qd0_8
    have qd1_9 := (hb9.cell (p := ⟨w5.heap.size, 1, none⟩) zd_8).trans qd1_8
    have qd2_9 := (hb9.cell (p := ⟨w5.heap.size, 2, none⟩) zd_8).trans qd2_8
    have zd_9 := Nat.lt_of_lt_of_le zd_8 hb9.size
    have G_9 := Lib.hid (G_8.out.keep hb9)
    have U_9 := Lib.hid (U_8.out.keep hb9)
    have D_9 := Lib.hid (D_8.out.keep hb9)
    have P_9 := Lib.hid (P_8.out.keep hb9)
    have Q_9 := Lib.hid (Q_8.out.keep hb9)
    clear qg0_8 qg1_8 zg_8 qu0_8 qu1_8 qu2_8 zu_8 qd0_8 qd1_8 qd2_8 zd_8 G_8 U_8 D_8 P_8 Q_8
    go_wp2_with fail
    refine (HRS.out _ _ _ G_9.out.edges U_9.out.rowI).mono ?_
    rintro e w10 ⟨vy, rfl, howy, hb10⟩
    have H10 := bel_trans H9 hb10
    have SZ10 := Lib.hid hb10.size
    have qg0_10 := (hb10.cell (p := ⟨w1.heap.size, 0, none⟩) zg_9).trans qg0_9
    have qg1_10 := (hb10.cell (p := ⟨w1.heap.size, 1, none⟩) zg_9).trans qg1_9
    have zg_10 := Nat.lt_of_lt_of_le zg_9 hb10.size
    have qu0_10 := (hb10.cell (p := ⟨w3.heap.size, 0, none⟩) zu_9).trans qu0_9
    have qu1_10 := (hb10.cell (p := ⟨w3.heap.size, 1, none⟩) zu_9).trans qu1_9
    have qu2_10 := (hb10.cell (p := ⟨w3.heap.size, 2, none⟩) zu_9).trans qu2_9
    have zu_10 := Nat.lt_of_lt_of_le zu_9 hb10.size
    have qd0_10 := (hb10.cell (p := ⟨w5.heap.size, 0, none⟩) zd_9).trans qd0_9
    have qd1_10 := (hb10.cell (p := ⟨w5.heap.size, 1, none⟩) zd_9).trans qd1_9
    have qd2_10 := (hb10.cell (p := ⟨w5.heap.size, 2, none⟩) zd_9).trans qd2_9
    have zd_10 := Nat.lt_of_lt_of_le zd_9 hb10.size
    have G_10 := Lib.hid (G_9.out.keep hb10)
    have U_10 := Lib.hid (U_9.out.keep hb10)
    have D_10 := Lib.hid (D_9.out.keep hb10)
    have P_10 := Lib.hid (P_9.out.keep hb10)
    have Q_10 := Lib.hid (Q_9.out.keep hb10)
    obtain ⟨ay, cy, rfl, hz9⟩ := id howy
    clear hz9
    have Y_10 := Lib.hid (show InR true w10 w9.heap.size w10.heap.size _ ([] : List Int).length 1 (cellI ([] : List Int)) from howy)
    clear qg0_9 qg1_9 zg_9 qu0_9 qu1_9 qu2_9 zu_9 qd0_9 qd1_9 qd2_9 zd_9 G_9 U_9 D_9 P_9 Q_9
    clear howy
    go_wp2_with fail
    refine (gvInts [] _ _ _ P_10.out.ints Y_10.out.ints (by simp)).mono ?_
    rintro e w11 ⟨rfl, hb11⟩
    have H11 := bel_trans H10 hb11
    have SZ11 := Lib.hid hb11.size
    have qg0_11 := (hb11.cell (p := ⟨w1.heap.size, 0, none⟩) zg_10).trans qg0_10
    have qg1_11 := (hb11.cell (p := ⟨w1.heap.size, 1, none⟩) zg_10).trans qg1_10
    have zg_11 := Nat.lt_of_lt_of_le zg_10 hb11.size
    have qu0_11 := (hb11.cell (p := ⟨w3.heap.size, 0, none⟩) zu_10).trans qu0_10
    have qu1_11 := (hb11.cell (p := ⟨w3.heap.size, 1, none⟩) zu_10).trans qu1_10
    have qu2_11 := (hb11.cell (p := ⟨w3.heap.size, 2, none⟩) zu_10).trans qu2_10
    have zu_11 := Nat.lt_of_lt_of_le zu_10 hb11.size
    have qd0_11 := (hb11.cell (p := ⟨w5.heap.size, 0, none⟩) zd_10).trans qd0_10
    have qd1_11 := (hb11.cell (p := ⟨w5.heap.size, 1, none⟩) zd_10).trans qd1_10
    have qd2_11 := (hb11.cell (p := ⟨w5.heap.size, 2, none⟩) zd_10).trans qd2_10
    have zd_11 := Nat.lt_of_lt_of_le zd_10 hb11.size
    have G_11 := Lib.hid (G_10.out.keep hb11)
    have U_11 := Lib.hid (U_10.out.keep hb11)
    have D_11 := Lib.hid (D_10.out.keep hb11)
    have P_11 := Lib.hid (P_10.out.keep hb11)
    have Q_11 := Lib.hid (Q_10.out.keep hb11)
    have Y_11 := Lib.hid (Y_10.out.keep hb11)
    clear qg0_10 qg1_10 zg_10 qu0_10 qu1_10 qu2_10 zu_10 qd0_10 qd1_10 qd2_10 zd_10 G_10 U_10 D_10 P_10 Q_10 Y_10
    go_wp2
    go_ret
    exact ⟨rfl, H11⟩
  · obtain ⟨hgv, hsr, hmk⟩ := onOk_one3 hk
    obtain ⟨h1, h12, h40⟩ := gVal_n hgv
    obtain ⟨N, hN⟩ : ∃ N : Nat, n = N := ⟨n.toNat, by omega⟩
    subst hN
    obtain ⟨A, hA⟩ : ∃ A : Nat, src = A := ⟨src.toNat, by omega⟩
    subst hA
    have hAN : A < N := by omega
    have hN12 : N ≤ 12 := by omega
    have hea : eAll N es := by have := eAll_of hgv; simpa using this
    have hon4 : onOk (N : Int) es 4 [(A : Int)] = true := onOk_of hgv hsr (by decide)
    have hs1 := hst m
    have hs4 := hst 4
    rw [show stM (N : Int) es m A = m by unfold stM; rw [if_pos hk], show stA (N : Int) es m A = A by unfold stA; rw [if_pos hk], show voL (N : Int) es m A = vRt m N es A by unfold voL; rw [if_pos hk]; rfl, hk] at hs1 hss
    rw [show stM (N : Int) es 4 A = 4 by unfold stM; rw [if_pos hon4], show stA (N : Int) es 4 A = A by unfold stA; rw [if_pos hon4], show voL (N : Int) es 4 A = vRt 4 N es A by unfold voL; rw [if_pos hon4]; rfl, hon4] at hs4
    have hrs := fun i (hi : i < N) => rSame hmk hea hAN hN12 hi
    have hall : vAll m (vRt m N es A) := vRt_all hmk (by rw [Int.toNat_natCast]; exact hea) _
    obtain ⟨xv, hxv⟩ : ∃ x, x = vRt m N es A := ⟨_, rfl⟩
    obtain ⟨yv, hyv⟩ : ∃ y, y = vRt 4 N es A := ⟨_, rfl⟩
    have hlx : xv.length = N := by rw [hxv, vRt_length, Int.toNat_natCast]
    have hly : yv.length = N := by rw [hyv, vRt_length, Int.toNat_natCast]
    rw [← hxv] at hs1 hss hall
    rw [← hyv] at hs4
    simp only [← hxv, ← hyv] at hrs
    have hvx : vVal (N : Int) es m (A : Int) xv = true := vVal_mkV hgv hsr hmk (by omega) hall
    have hrn := fun s t w (h : RowE w s es) (k : Row w t xv) => reachedNodes (N : Int) m (A : Int) es xv s t w h k hle3 (by omega)
    have hrq := fun s t w (h : RowE w s es) (k : Row w t xv) => sReachedNodes (N : Int) m (A : Int) es xv s t w h k hle3 (by omega)
    rw [show rchV (N : Int) es m (A : Int) xv = rch m xv by unfold rchV; rw [if_pos hvx]] at hrn hrq
    have hsum := fun k (hk : k ≤ N) => rSum (m := m) (zs := xv) (ys := yv) (N := N) hrs k hk
    have hmem : ∀ i, i < N → yv.getD i 0 = 1 → inL (rch m xv) (i : Int) = true := fun i hi h => by rw [hrs i hi] at h; split at h; (rename_i q; exact rch_inV (by omega) q); (exact absurd h (by decide))
    have h01 : ∀ i, i < N → yv.getD i 0 = 0 ∨ yv.getD i 0 = 1 := fun i hi => by rw [hrs i hi]; split; (exact .inr rfl); (exact .inl rfl)
    have hfin : sumK yv N = ((rch m xv).length : Nat) := by rw [hsum N (Nat.le_refl _)]; unfold rch; rw [hlx]
    have hbd : ∀ k, k ≤ N → 0 ≤ sumK yv k ∧ sumK yv k ≤ 12 := fun k hk => by have h9 := hsum k hk; have h8 := rchK_len m xv k; omega
    have hp12 : (rch m xv).length ≤ 12 := by have h9 := rchK_len m xv xv.length; unfold rch; omega
    obtain ⟨P1, hP1⟩ : ∃ P, P = rch m xv := ⟨_, rfl⟩
    rw [← hP1] at hrn hrq hfin hp12
    simp only [← hP1] at hmem
    have HST := Lib.hid hs1
    have HSS := Lib.hid hss
    have HS4 := Lib.hid hs4
    have HRN := Lib.hid hrn
    have HRQ := Lib.hid hrq
    have HMEM := Lib.hid hmem
    have H01 := Lib.hid h01
    have HFIN := Lib.hid hfin
    have HBD := Lib.hid hbd
    have HLX := Lib.hid hlx
    have HLY := Lib.hid hly
    have hs1 := hsr.1
    have hs2 := hsr.2
    clear hst hss hs4 hrn hrq hmem h01 hfin hbd hlx hly hrs hall hxv hyv hvx hsum hP1 hon4 hk hgv hsr hmk hea h40
    refine (HST.out _ _ G_2.out.edges).mono ?_
    rintro e w3 ⟨vu, rfl, howu, hoku, hb3⟩
    have H3 := bel_trans H2 hb3
    have SZ3 := Lib.hid hb3.size
    have qg0_3 := (hb3.cell (p := ⟨w1.heap.size, 0, none⟩) zg_2).trans qg0_2
    have qg1_3 := (hb3.cell (p := ⟨w1.heap.size, 1, none⟩) zg_2).trans qg1_2
    have zg_3 := Nat.lt_of_lt_of_le zg_2 hb3.size
    have G_3 := Lib.hid (G_2.out.keep hb3)
    obtain ⟨au, cu, rfl, hz9⟩ := id howu
    clear hz9 hoku
    have U_3 := Lib.hid (show InR true w3 w2.heap.size w3.heap.size _ xv.length 1 (cellI xv) from howu)
    clear qg1_2 G_2 qg0_2 zg_2
    clear howu
    go_wp2_with fail
    have hb4 : Below w3.heap.size w3 (w3.alloc (.cells #[.int .i64 m, .int .i64 A, .slice au xv.length cu] 43)) := (Below.refl _ _).alloc (by simp <;> omega) _
    have H4 := bel_trans H3 hb4
    have SZ4 := Lib.hid hb4.size
    have qg0_4 := (hb4.cell (p := ⟨w1.heap.size, 0, none⟩) zg_3).trans qg0_3
    have qg1_4 := (hb4.cell (p := ⟨w1.heap.size, 1, none⟩) zg_3).trans qg1_3
    have zg_4 := Nat.lt_of_lt_of_le zg_3 hb4.size
    have G_4 := Lib.hid (G_3.out.keep hb4)
    have U_4 := Lib.hid (U_3.out.keep hb4)
    have qu0_4 : (w3.alloc (.cells #[.int .i64 m, .int .i64 A, .slice au xv.length cu] 43)).cell? ⟨w3.heap.size, 0, none⟩ = some (.int .i64 m) := by go_simp
    have qu1_4 : (w3.alloc (.cells #[.int .i64 m, .int .i64 A, .slice au xv.length cu] 43)).cell? ⟨w3.heap.size, 1, none⟩ = some (.int .i64 A) := by go_simp
    have qu2_4 : (w3.alloc (.cells #[.int .i64 m, .int .i64 A, .slice au xv.length cu] 43)).cell? ⟨w3.heap.size, 2, none⟩ = some (.slice au xv.length cu) := by go_simp
    have zu_4 : w3.heap.size < (w3.alloc (.cells #[.int .i64 m, .int .i64 A, .slice au xv.length cu] 43)).heap.size := by simp <;> omega
    generalize (w3.alloc (.cells #[.int .i64 m, .int .i64 A, .slice au xv.length cu] 43)) = w4 at hb4 H4 SZ4 G_4 U_4 qg0_4 qg1_4 qu0_4 qu1_4 qu2_4 zg_4 zu_4 ⊢
    have ZBu := Lib.hid zu_4
    clear qg0_3 qg1_3 zg_3 G_3 U_3
    refine (HSS.out _ _ G_4.out.edges).mono ?_
    rintro e w5 ⟨vd, rfl, howd, hokd, hb5⟩
    have H5 := bel_trans H4 hb5
    have SZ5 := Lib.hid hb5.size
    have qg0_5 := (hb5.cell (p := ⟨w1.heap.size, 0, none⟩) zg_4).trans qg0_4
    have qg1_5 := (hb5.cell (p := ⟨w1.heap.size, 1, none⟩) zg_4).trans qg1_4
    have zg_5 := Nat.lt_of_lt_of_le zg_4 hb5.size
    have qu0_5 := (hb5.cell (p := ⟨w3.heap.size, 0, none⟩) zu_4).trans qu0_4
    have qu1_5 := (hb5.cell (p := ⟨w3.heap.size, 1, none⟩) zu_4).trans qu1_4
    have qu2_5 := (hb5.cell (p := ⟨w3.heap.size, 2, none⟩) zu_4).trans qu2_4
    have zu_5 := Nat.lt_of_lt_of_le zu_4 hb5.size
    have G_5 := Lib.hid (G_4.out.keep hb5)
    have U_5 := Lib.hid (U_4.out.keep hb5)
    obtain ⟨ad, cd, rfl, hz9⟩ := id howd
    clear hz9 hokd
    have D_5 := Lib.hid (show InR true w5 w4.heap.size w5.heap.size _ xv.length 1 (cellI xv) from howd)
    clear qg0_4 qg1_4 zg_4 G_4 U_4 qu0_4 qu1_4 qu2_4 zu_4
    clear howd
    go_wp2_with fail
    have hb6 : Below w5.heap.size w5 (w5.alloc (.cells #[.int .i64 m, .int .i64 A, .slice ad xv.length cd] 43)) := (Below.refl _ _).alloc (by simp <;> omega) _
    have H6 := bel_trans H5 hb6
    have SZ6 := Lib.hid hb6.size
    have qg0_6 := (hb6.cell (p := ⟨w1.heap.size, 0, none⟩) zg_5).trans qg0_5
    have qg1_6 := (hb6.cell (p := ⟨w1.heap.size, 1, none⟩) zg_5).trans qg1_5
    have zg_6 := Nat.lt_of_lt_of_le zg_5 hb6.size
    have qu0_6 := (hb6.cell (p := ⟨w3.heap.size, 0, none⟩) zu_5).trans qu0_5
    have qu1_6 := (hb6.cell (p := ⟨w3.heap.size, 1, none⟩) zu_5).trans qu1_5
    have qu2_6 := (hb6.cell (p := ⟨w3.heap.size, 2, none⟩) zu_5).trans qu2_5
    have zu_6 := Nat.lt_of_lt_of_le zu_5 hb6.size
    have G_6 := Lib.hid (G_5.out.keep hb6)
    have U_6 := Lib.hid (U_5.out.keep hb6)
    have D_6 := Lib.hid (D_5.out.keep hb6)
    have qd0_6 : (w5.alloc (.cells #[.int .i64 m, .int .i64 A, .slice ad xv.length cd] 43)).cell? ⟨w5.heap.size, 0, none⟩ = some (.int .i64 m) := by go_simp
    have qd1_6 : (w5.alloc (.cells #[.int .i64 m, .int .i64 A, .slice ad xv.length cd] 43)).cell? ⟨w5.heap.size, 1, none⟩ = some (.int .i64 A) := by go_simp
    have qd2_6 : (w5.alloc (.cells #[.int .i64 m, .int .i64 A, .slice ad xv.length cd] 43)).cell? ⟨w5.heap.size, 2, none⟩ = some (.slice ad xv.length cd) := by go_simp
    have zd_6 : w5.heap.size < (w5.alloc (.cells #[.int .i64 m, .int .i64 A, .slice ad xv.length cd] 43)).heap.size := by simp <;> omega
    generalize (w5.alloc (.cells #[.int .i64 m, .int .i64 A, .slice ad xv.length cd] 43)) = w6 at hb6 H6 SZ6 D_6 G_6 U_6 qd0_6 qd1_6 qd2_6 qg0_6 qg1_6 qu0_6 qu1_6 qu2_6 zd_6 zg_6 zu_6 ⊢
    have ZBd := Lib.hid zd_6
    clear qg0_5 qg1_5 zg_5 qu0_5 qu1_5 qu2_5 zu_5 G_5 U_5 D_5
    refine (HRN.out _ _ _ G_6.out.edges U_6.out.rowI).mono ?_
    rintro e w7 ⟨vp, rfl, howp, hb7⟩
    have H7 := bel_trans H6 hb7
    have SZ7 := Lib.hid hb7.size
    have qg0_7 := (hb7.cell (p := ⟨w1.heap.size, 0, none⟩) zg_6).trans qg0_6
    have qg1_7 := (hb7.cell (p := ⟨w1.heap.size, 1, none⟩) zg_6).trans qg1_6
    have zg_7 := Nat.lt_of_lt_of_le zg_6 hb7.size
    have qu0_7 := (hb7.cell (p := ⟨w3.heap.size, 0, none⟩) zu_6).trans qu0_6
    have qu1_7 := (hb7.cell (p := ⟨w3.heap.size, 1, none⟩) zu_6).trans qu1_6
    have qu2_7 := (hb7.cell (p := ⟨w3.heap.size, 2, none⟩) zu_6).trans qu2_6
    have zu_7 := Nat.lt_of_lt_of_le zu_6 hb7.size
    have qd0_7 := (hb7.cell (p := ⟨w5.heap.size, 0, none⟩) zd_6).trans qd0_6
    have qd1_7 := (hb7.cell (p := ⟨w5.heap.size, 1, none⟩) zd_6).trans qd1_6
    have qd2_7 := (hb7.cell (p := ⟨w5.heap.size, 2, none⟩) zd_6).trans qd2_6
    have zd_7 := Nat.lt_of_lt_of_le zd_6 hb7.size
    have G_7 := Lib.hid (G_6.out.keep hb7)
    have U_7 := Lib.hid (U_6.out.keep hb7)
    have D_7 := Lib.hid (D_6.out.keep hb7)
    obtain ⟨ap, cp, rfl, hz9⟩ := id howp
    clear hz9
    have P_7 := Lib.hid (show InR true w7 w6.heap.size w7.heap.size _ P1.length 1 (cellI P1) from howp)
    clear qg0_6 qg1_6 zg_6 qu0_6 qu1_6 qu2_6 zu_6 G_6 U_6 D_6 qd0_6 qd1_6 qd2_6 zd_6
    clear howp
    go_wp2_with fail
    refine (HRQ.out _ _ _ G_7.out.edges U_7.out.rowI).mono ?_
    rintro e w8 ⟨vq, rfl, howq, hb8⟩
    have H8 := bel_trans H7 hb8
    have SZ8 := Lib.hid hb8.size
    have qg0_8 := (hb8.cell (p := ⟨w1.heap.size, 0, none⟩) zg_7).trans qg0_7
    have qg1_8 := (hb8.cell (p := ⟨w1.heap.size, 1, none⟩) zg_7).trans qg1_7
    have zg_8 := Nat.lt_of_lt_of_le zg_7 hb8.size
    have qu0_8 := (hb8.cell (p := ⟨w3.heap.size, 0, none⟩) zu_7).trans qu0_7
    have qu1_8 := (hb8.cell (p := ⟨w3.heap.size, 1, none⟩) zu_7).trans qu1_7
    have qu2_8 := (hb8.cell (p := ⟨w3.heap.size, 2, none⟩) zu_7).trans qu2_7
    have zu_8 := Nat.lt_of_lt_of_le zu_7 hb8.size
    have qd0_8 := (hb8.cell (p := ⟨w5.heap.size, 0, none⟩) zd_7).trans qd0_7
    have qd1_8 := (hb8.cell (p := ⟨w5.heap.size, 1, none⟩) zd_7).trans qd1_7
    have qd2_8 := (hb8.cell (p := ⟨w5.heap.size, 2, none⟩) zd_7).trans qd2_7
    have zd_8 := Nat.lt_of_lt_of_le zd_7 hb8.size
    have G_8 := Lib.hid (G_7.out.keep hb8)
    have U_8 := Lib.hid (U_7.out.keep hb8)
    have D_8 := Lib.hid (D_7.out.keep hb8)
    have P_8 := Lib.hid (P_7.out.keep hb8)
    obtain ⟨aq, cq, rfl, hz9⟩ := id howq
    clear hz9
    have Q_8 := Lib.hid (show InR true w8 w7.heap.size w8.heap.size _ P1.length 1 (cellI P1) from howq)
    clear qg0_7 qg1_7 zg_7 qu0_7 qu1_7 qu2_7 zu_7 qd0_7 qd1_7 qd2_7 zd_7 G_7 U_7 D_7 P_7
    clear howq
    go_wp2_with fail
    refine (gvInts P1 _ _ _ P_8.out.ints Q_8.out.ints (by omega)).mono ?_
    rintro e w9 ⟨rfl, hb9⟩
    have H9 := bel_trans H8 hb9
    have SZ9 := Lib.hid hb9.size
    have qg0_9 := (hb9.cell (p := ⟨w1.heap.size, 0, none⟩) zg_8).trans qg0_8
    have qg1_9 := (hb9.cell (p := ⟨w1.heap.size, 1, none⟩) zg_8).trans qg1_8
    have zg_9 := Nat.lt_of_lt_of_le zg_8 hb9.size
    have qu0_9 := (hb9.cell (p := ⟨w3.heap.size, 0, none⟩) zu_8).trans qu0_8
    have qu1_9 := (hb9.cell (p := ⟨w3.heap.size, 1, none⟩) zu_8).trans qu1_8
    have qu2_9 := (hb9.cell (p := ⟨w3.heap.size, 2, none⟩) zu_8).trans qu2_8
    have zu_9 := Nat.lt_of_lt_of_le zu_8 hb9.size
    have qd0_9 := (hb9.cell (p := ⟨w5.heap.size, 0, none⟩) zd_8).trans qd0_8
    have qd1_9 := (hb9.cell (p := ⟨w5.heap.size, 1, none⟩) zd_8).trans qd1_8
    have qd2_9 := (hb9.cell (p := ⟨w5.heap.size, 2, none⟩) zd_8).trans qd2_8
    have zd_9 := Nat.lt_of_lt_of_le zd_8 hb9.size
    have G_9 := Lib.hid (G_8.out.keep hb9)
    have U_9 := Lib.hid (U_8.out.keep hb9)
    have D_9 := Lib.hid (D_8.out.keep hb9)
    have P_9 := Lib.hid (P_8.out.keep hb9)
    have Q_9 := Lib.hid (Q_8.out.keep hb9)
    clear qg0_8 qg1_8 zg_8 qu0_8 qu1_8 qu2_8 zu_8 qd0_8 qd1_8 qd2_8 zd_8 G_8 U_8 D_8 P_8 Q_8
    go_wp2_with fail
    refine (HS4.out _ _ G_9.out.edges).mono ?_
    rintro e w10 ⟨vz, rfl, howz, hokz, hb10⟩
    have H10 := bel_trans H9 hb10
    have SZ10 := Lib.hid hb10.size
    have qg0_10 := (hb10.cell (p := ⟨w1.heap.size, 0, none⟩) zg_9).trans qg0_9
    have qg1_10 := (hb10.cell (p := ⟨w1.heap.size, 1, none⟩) zg_9).trans qg1_9
    have zg_10 := Nat.lt_of_lt_of_le zg_9 hb10.size
    have qu0_10 := (hb10.cell (p := ⟨w3.heap.size, 0, none⟩) zu_9).trans qu0_9
    have qu1_10 := (hb10.cell (p := ⟨w3.heap.size, 1, none⟩) zu_9).trans qu1_9
    have qu2_10 := (hb10.cell (p := ⟨w3.heap.size, 2, none⟩) zu_9).trans qu2_9
    have zu_10 := Nat.lt_of_lt_of_le zu_9 hb10.size
    have qd0_10 := (hb10.cell (p := ⟨w5.heap.size, 0, none⟩) zd_9).trans qd0_9
    have qd1_10 := (hb10.cell (p := ⟨w5.heap.size, 1, none⟩) zd_9).trans qd1_9
    have qd2_10 := (hb10.cell (p := ⟨w5.heap.size, 2, none⟩) zd_9).trans qd2_9
    have zd_10 := Nat.lt_of_lt_of_le zd_9 hb10.size
    have G_10 := Lib.hid (G_9.out.keep hb10)
    have U_10 := Lib.hid (U_9.out.keep hb10)
    have D_10 := Lib.hid (D_9.out.keep hb10)
    have P_10 := Lib.hid (P_9.out.keep hb10)
    have Q_10 := Lib.hid (Q_9.out.keep hb10)
    obtain ⟨az, cz, rfl, hz9⟩ := id howz
    clear hz9 hokz
    have Z_10 := Lib.hid (show InR true w10 w9.heap.size w10.heap.size _ yv.length 1 (cellI yv) from howz)
    clear qg0_9 qg1_9 zg_9 qu0_9 qu1_9 qu2_9 zu_9 qd0_9 qd1_9 qd2_9 zd_9 G_9 U_9 D_9 P_9 Q_9
    clear howz
    go_wp2_with fail
    have hb11 : Below w10.heap.size w10 (w10.alloc (.cells #[.int .i64 4, .int .i64 A, .slice az yv.length cz] 43)) := (Below.refl _ _).alloc (by simp <;> omega) _
    have H11 := bel_trans H10 hb11
    have SZ11 := Lib.hid hb11.size
    have qg0_11 := (hb11.cell (p := ⟨w1.heap.size, 0, none⟩) zg_10).trans qg0_10
    have qg1_11 := (hb11.cell (p := ⟨w1.heap.size, 1, none⟩) zg_10).trans qg1_10
    have zg_11 := Nat.lt_of_lt_of_le zg_10 hb11.size
    have qu0_11 := (hb11.cell (p := ⟨w3.heap.size, 0, none⟩) zu_10).trans qu0_10
    have qu1_11 := (hb11.cell (p := ⟨w3.heap.size, 1, none⟩) zu_10).trans qu1_10
    have qu2_11 := (hb11.cell (p := ⟨w3.heap.size, 2, none⟩) zu_10).trans qu2_10
    have zu_11 := Nat.lt_of_lt_of_le zu_10 hb11.size
    have qd0_11 := (hb11.cell (p := ⟨w5.heap.size, 0, none⟩) zd_10).trans qd0_10
    have qd1_11 := (hb11.cell (p := ⟨w5.heap.size, 1, none⟩) zd_10).trans qd1_10
    have qd2_11 := (hb11.cell (p := ⟨w5.heap.size, 2, none⟩) zd_10).trans qd2_10
    have zd_11 := Nat.lt_of_lt_of_le zd_10 hb11.size
    have G_11 := Lib.hid (G_10.out.keep hb11)
    have U_11 := Lib.hid (U_10.out.keep hb11)
    have D_11 := Lib.hid (D_10.out.keep hb11)
    have P_11 := Lib.hid (P_10.out.keep hb11)
    have Q_11 := Lib.hid (Q_10.out.keep hb11)
    have Z_11 := Lib.hid (Z_10.out.keep hb11)
    have qz0_11 : (w10.alloc (.cells #[.int .i64 4, .int .i64 A, .slice az yv.length cz] 43)).cell? ⟨w10.heap.size, 0, none⟩ = some (.int .i64 4) := by go_simp
    have qz1_11 : (w10.alloc (.cells #[.int .i64 4, .int .i64 A, .slice az yv.length cz] 43)).cell? ⟨w10.heap.size, 1, none⟩ = some (.int .i64 A) := by go_simp
    have qz2_11 : (w10.alloc (.cells #[.int .i64 4, .int .i64 A, .slice az yv.length cz] 43)).cell? ⟨w10.heap.size, 2, none⟩ = some (.slice az yv.length cz) := by go_simp
    have zz_11 : w10.heap.size < (w10.alloc (.cells #[.int .i64 4, .int .i64 A, .slice az yv.length cz] 43)).heap.size := by simp <;> omega
    generalize (w10.alloc (.cells #[.int .i64 4, .int .i64 A, .slice az yv.length cz] 43)) = w11 at hb11 H11 SZ11 D_11 G_11 P_11 Q_11 U_11 Z_11 qd0_11 qd1_11 qd2_11 qg0_11 qg1_11 qu0_11 qu1_11 qu2_11 qz0_11 qz1_11 qz2_11 zd_11 zg_11 zu_11 zz_11 ⊢
    have ZBz := Lib.hid zz_11
    clear qg0_10 qg1_10 zg_10 qu0_10 qu1_10 qu2_10 zu_10 qd0_10 qd1_10 qd2_10 zd_10 G_10 U_10 D_10 P_10 Q_10 Z_10
    have hrw9 := Z_11.out.ints
    obtain ⟨_, _, hva9, hz9⟩ := id hrw9
    injection hva9 with hv1 hv2 hv3
    subst hv1
    clear hv2 hv3
    rcases hz9 with hz9 | ⟨bj, oj, rfl, hb9, hc9⟩
    · have h9 : 0 < yv.length := by (have := HLY.out; omega)
      rw [hz9] at h9; simp at h9
    have HCj := Lib.hid (And.intro hc9 hb9)
    clear hb9 hc9 hrw9
    go_wp2_with fail
    go_loopw [13, 14] (fun c d wr => ∃ k : Nat, k ≤ N ∧ c = .int .i64 (sumK yv k) ∧ d = .int .i64 k ∧ Hid (Below w11.heap.size w11 wr)) (fun _ d _ => N - (intOf d).toNat)
    case atStart => exact ⟨0, Nat.zero_le _, rfl, rfl, Lib.hid (Below.refl _ _)⟩
    case round =>
      obtain ⟨k, hk, rfl, rfl, HBW⟩ := hrel
      have sW := HBW.out.size
      obtain ⟨sk, hsk⟩ : ∃ s, s = sumK yv k := ⟨_, rfl⟩
      obtain ⟨hb1, hb2⟩ := HBD.out k hk
      rw [← hsk] at hb1 hb2
      rw [← hsk]
      have qg0_r := (HBW.out.cell (p := ⟨w1.heap.size, 0, none⟩) zg_11).trans qg0_11
      have qg1_r := (HBW.out.cell (p := ⟨w1.heap.size, 1, none⟩) zg_11).trans qg1_11
      have zg_r := Nat.lt_of_lt_of_le zg_11 HBW.out.size
      have qz0_r := (HBW.out.cell (p := ⟨w10.heap.size, 0, none⟩) zz_11).trans qz0_11
      have qz1_r := (HBW.out.cell (p := ⟨w10.heap.size, 1, none⟩) zz_11).trans qz1_11
      have qz2_r := (HBW.out.cell (p := ⟨w10.heap.size, 2, none⟩) zz_11).trans qz2_11
      have zz_r := Nat.lt_of_lt_of_le zz_11 HBW.out.size
      by_cases hlt : k < N
      · have hlt' : (k : Int) < N := by omega
        have hyl : k < yv.length := by have := HLY.out; omega
        have hyl' : (k : Int) < yv.length := by omega
        have cyk := (HBW.out.cell (p := ⟨bj, oj + k, none⟩) HCj.out.2).trans (HCj.out.1 k hyl)
        obtain ⟨Y, hY⟩ : ∃ Y, Y = yv.getD k 0 := ⟨_, rfl⟩
        rw [← hY] at cyk
        have hnx : sumK yv (k + 1) = sk + Y := by rw [sumK, ← hsk, ← hY]
        have h01k := H01.out k hlt
        rw [← hY] at h01k
        have hmk9 := HMEM.out k hlt
        rw [← hY] at hmk9
        rcases h01k with rfl | rfl
        · clear hY hmk9
          have HNX := Lib.hid hnx
          clear hnx hsk
          go_wp2
          go_roundw
          case rel => first | exact ⟨k + 1, by omega, by (first | (rw [HNX.out]; done) | (rw [HNX.out]; go_num)), by go_num, Lib.hid (HBW.out)⟩ | ((repeat apply Exists.intro); exact ⟨⟨k + 1, by omega, by (first | (rw [HNX.out]; done) | (rw [HNX.out]; go_num)), by go_num, Lib.hid (HBW.out)⟩, rfl⟩)
          case measure => simp [intOf]; omega
        · have hgi := gvIn P1 k _ wr (P_11.out.keep HBW.out).ints (by omega)
          rw [hmk9 rfl] at hgi
          have HGI := Lib.hid hgi
          clear hgi hY hmk9
          have HNX := Lib.hid hnx
          clear hnx hsk
          go_wp2_with fail
          refine (HGI.out).mono ?_
          rintro e w90 ⟨rfl, hb90⟩
          go_wp2
          go_roundw
          case rel => first | exact ⟨k + 1, by omega, by (first | (rw [HNX.out]; done) | (rw [HNX.out]; go_num)), by go_num, Lib.hid (bel_trans HBW.out hb90)⟩ | ((repeat apply Exists.intro); exact ⟨⟨k + 1, by omega, by (first | (rw [HNX.out]; done) | (rw [HNX.out]; go_num)), by go_num, Lib.hid (bel_trans HBW.out hb90)⟩, rfl⟩)
          case measure => simp [intOf]; omega
      · have hke : k = N := by omega
        have hkk : ¬ ((k : Int) < N) := by omega
        have hf9 := HFIN.out
        rw [← hke, ← hsk] at hf9
        have hf8 : (sk == ((P1.length : Nat) : Int)) = true := by rw [hf9]; simp
        clear hf9 hsk hke hlt
        go_wp2
        go_ret
        exact ⟨by simp, bel_trans H11 HBW.out⟩

set_option maxRecDepth 100000 in
theorem lifted (os : Os) (started : os.Started) (H : Type) (enc : TypeId × Value → H) :
    ReturnsInHanded {} Try.checked os 13 .any (Rows.fnReachedNodesSpec.pre6 enc Try.prog Try.f13 Rows.fnReachedNodesRow.domain false) (Rows.fnReachedNodesSpec.post enc Try.prog Try.f13 false true false false) := by
  refine returnsInHanded_of_change (C := Try.checked) own started (by kernel_rfl) Try.func13
    (ChangeSpec.witness6 (enc := enc) (C := Try.checked) false ⟨#[], #[.slice none 0 0], []⟩ 8 (by kernel_rfl) (by kernel_rfl) (by kernel_rfl) (by kernel_rfl)) ?_
  intro W base args ds gs before hval0 hW hcnd _
  have hval : ∀ (j : Nat) t v, Try.f13.params[j]? = some t → args[j]? = some v → Value.okWide Try.prog W .any base t v := hval0
  have hW' := hW
  obtain ⟨p, q, hA0, hV, rfl, hfz, hnd⟩ := hW
  have hA : DataW.TrodAll enc Try.prog W 0 (fun _ => true) true Try.f13.params.toList args.toList ds p := hA0
  rw [Try.params13] at hA hval
  obtain ⟨v0, vs0, d0, ds0, p0, q0, hargs, rfl, rfl, h0, r0⟩ := trodAll_cons hA
  obtain ⟨rfl, rfl, rfl⟩ := trodAll_nil r0
  obtain rfl : args = #[v0] := by cases args; simp_all
  obtain ⟨rfl, rfl⟩ := trodVars_none hV
  obtain ⟨a0, len0, cap0, rfl⟩ := okWide_slice Try.underlying50 (hval 0 50 v0 rfl rfl)
  have k0 := h0
  have lt0 : ∀ x ∈ p0, x.block < W.heap.size := by obtain ⟨m, hm⟩ := k0; exact DataW.trod_lt m _ _ _ hm
  obtain ⟨z0, w0⟩ : ∃ zs, IsRow .u8 W a0 len0 cap0 zs := by
    obtain ⟨fuel, hf⟩ := h0
    rcases open_ints Try.underlying50 Try.underlying5 (by kernel_rfl) hf with ⟨hcs, _⟩ | ⟨x, l, c, zs, hcs, _, hl, hm, hz, _, hcell, hwz⟩
    · simp [Value.cells] at hcs
      obtain ⟨rfl, rfl, rfl⟩ := hcs
      exact ⟨[], .inl ⟨rfl, rfl, rfl, rfl⟩⟩
    · simp [Value.cells] at hcs
      obtain ⟨rfl, rfl, rfl⟩ := hcs
      exact ⟨zs, .inr ⟨_, rfl, hl, hm, by simpa using hz, hcell, hwz⟩⟩
  clear hA0 hval0
  refine (walk a0 len0 cap0 z0 W w0).mono fun e W' ⟨he, bel⟩ => ?_
  subst he
  exact ⟨_, rfl, _, _, _, [], _, [], hW', trodAll_mk1 (shut_bool Try.underlying4 _), (trodAll_cons_mk (Below.trod laidOut (by kernel_rfl) (of_decide_eq_true (by kernel_rfl)) k0 bel lt0) trodAll_mk0), rfl, bel.frame _, fun h => by cases h⟩

theorem over : Rows.fnReachedNodesRow.holds Try.pinned (OpenSpec.ofChange Rows.fnReachedNodesSpec) :=
  OpenClaim.holds_of_wide 13 Try.f13 rfl rfl rfl rfl rfl rfl rfl ⟨rfl, rfl, rfl, rfl, rfl⟩ rfl rfl rfl rfl rfl (by kernel_rfl) Try.func13 (by kernel_rfl)
    (of_decide_eq_true (by kernel_rfl)) (by unfold Func.isWrapper; first | (rw [if_pos (by decide +kernel)]; kernel_rfl) | (rw [if_neg (by decide +kernel)]; exact ⟨rfl, rfl⟩))
    (fun os started H enc _ => lifted os started H enc)

theorem proved : Rows.FnReachedNodesSaid := over
end Go.Proofs.Ytlmhccjppmhdbaa.fnReachedNodes
