/-
  Proved: views have no changed nodes exactly if their values are equal (the law FnChangedNodes returns true for every input and leaves it as it was), with no further condition.
-/
import Derived.Test.YtbhhbhopogkmnaaRows
import Derived.Test.YtbhhbhopogkmnaaCaseC
import Derived.Test.YtbhhbhopogkmnaaGvIntD
import Derived.WalkKit
import Derived.ProofKit
import Derived.OpenShut
import Derived.ShutString
import Derived.ChangeOld
import Derived.Below
namespace Go.Proofs.Ytbhhbhopogkmnaa.fnChangedNodes
open Go.Proofs.Ytbhhbhopogkmnaa Go.BigFrame
open Go.ChangeShapes Go.WideShapes Go.ChangeAt Go.RowKit
open Go.ChangeMaps (open_string shut_string)
set_option linter.unusedVariables false

theorem own : ownKnob Try.prog.godebug = none := by kernel_rfl
theorem laidOut : laidOutB Try.prog = true := by kernel_rfl

def IsRow (k : IntKind) (w : World) (a : Option Addr) (len cap : Nat) (zs : List Int) : Prop :=
  (a = none ∧ len = 0 ∧ cap = 0 ∧ zs = []) ∨
  ∃ x, a = some x ∧ len ≤ cap ∧ cap ≤ maxLen ∧ zs.length = cap ∧ (∀ i, i < zs.length → w.cell? (x.add i) = some (.int k (zs.getD i 0))) ∧ ∀ n ∈ zs, (Lit.int k n).wf = true

theorem bytes_of {w : World} {a : Option Addr} {len cap : Nat} {zs : List Int} (h : IsRow .u8 w a len cap zs) : Bytes w a len ∧ len ≤ cap ∧ len ≤ 9223372036854775807 := by
  rcases h with ⟨rfl, rfl, rfl, rfl⟩ | ⟨x, rfl, hl, hm, hz, hc, hw⟩
  · exact ⟨.inl rfl, Nat.le_refl _, by omega⟩
  · unfold maxLen at hm
    refine ⟨?_, hl, by omega⟩
    by_cases h0 : len = 0
    · exact .inl h0
    · obtain ⟨b, off, rfl, hc'⟩ := ints_at hc (by omega)
      exact .inr ⟨b, off, rfl, World.block_lt_of_cell? _ _ (hc' 0 (by omega)), fun i hi => ⟨zs[i]?.getD 0, (range_u8 hw i).1, (range_u8 hw i).2, hc' i (by omega)⟩⟩

set_option maxRecDepth 100000 in
set_option maxHeartbeats 4000000 in
theorem walk (a0 : Option Addr) (len0 cap0 : Nat) (z0 : List Int) (w : World) (w0 : IsRow .u8 w a0 len0 cap0 z0) :
    Calls Try.prog 3 #[.slice a0 len0 cap0] w fun e w' => e = .returned (.bool true) ∧ Below w.heap.size w w' := by
  obtain ⟨hby, hcp, hn⟩ := bytes_of w0
  have HB0 := Lib.hid hby
  clear hby w0
  by_cases h0 : 1048576 < len0
  · go_enter Try.func3, Try.ntmps3
    go_wp2
    go_ret
    exact ⟨rfl, Below.refl _ _⟩
  have h0' : len0 ≤ 1048576 := by omega
  clear h0
  obtain ⟨w0, hw0⟩ : ∃ w0, w0 = w := ⟨_, rfl⟩
  subst hw0
  have H0 := Below.refl w0.heap.size w0
  go_enter Try.func3, Try.ntmps3
  go_wp2_with fail
  refine (dDrawChangedNodes a0 len0 cap0 _ HB0.out hcp (by omega)).mono ?_
  rintro e w1 ⟨m, a1, zs, s1, m2, a2, ys, s2, rfl, ⟨hl1, hl2⟩, hrow, hrow2, hb1⟩
  have H1 := bel_trans H0 hb1
  have SZ1 := Lib.hid hb1.size
  obtain ⟨va, vc, rfl, hz9⟩ := id hrow
  obtain ⟨ua, uc, rfl, hz8⟩ := id hrow2
  clear hz9 hz8
  have F_1 := Lib.hid hrow2
  clear hrow2
  have G_1 := Lib.hid (hrow)
  clear hrow
  go_wp2_with fail
  have hb2 : Below w1.heap.size w1 ((w1.alloc (.cells #[.int .i64 m, .int .i64 a1, .slice va zs.length vc] 25)).alloc (.cells #[.int .i64 m2, .int .i64 a2, .slice ua ys.length uc] 25)) := ((Below.refl _ _).alloc (by simp <;> omega) _).alloc (by simp <;> omega) _
  have H2 := bel_trans H1 hb2
  have SZ2 := Lib.hid hb2.size
  have G_2 := Lib.hid (G_1.out.keep hb2)
  have F_2 := Lib.hid (F_1.out.keep hb2)
  have qv0_2 : ((w1.alloc (.cells #[.int .i64 m, .int .i64 a1, .slice va zs.length vc] 25)).alloc (.cells #[.int .i64 m2, .int .i64 a2, .slice ua ys.length uc] 25)).cell? ⟨w1.heap.size, 0, none⟩ = some (.int .i64 m) := by go_simp
  have qv1_2 : ((w1.alloc (.cells #[.int .i64 m, .int .i64 a1, .slice va zs.length vc] 25)).alloc (.cells #[.int .i64 m2, .int .i64 a2, .slice ua ys.length uc] 25)).cell? ⟨w1.heap.size, 1, none⟩ = some (.int .i64 a1) := by go_simp
  have qv2_2 : ((w1.alloc (.cells #[.int .i64 m, .int .i64 a1, .slice va zs.length vc] 25)).alloc (.cells #[.int .i64 m2, .int .i64 a2, .slice ua ys.length uc] 25)).cell? ⟨w1.heap.size, 2, none⟩ = some (.slice va zs.length vc) := by go_simp
  have zv_2 : w1.heap.size < ((w1.alloc (.cells #[.int .i64 m, .int .i64 a1, .slice va zs.length vc] 25)).alloc (.cells #[.int .i64 m2, .int .i64 a2, .slice ua ys.length uc] 25)).heap.size := by simp <;> omega
  have qu0_2 : ((w1.alloc (.cells #[.int .i64 m, .int .i64 a1, .slice va zs.length vc] 25)).alloc (.cells #[.int .i64 m2, .int .i64 a2, .slice ua ys.length uc] 25)).cell? ⟨w1.heap.size + 1, 0, none⟩ = some (.int .i64 m2) := by go_simp
  have qu1_2 : ((w1.alloc (.cells #[.int .i64 m, .int .i64 a1, .slice va zs.length vc] 25)).alloc (.cells #[.int .i64 m2, .int .i64 a2, .slice ua ys.length uc] 25)).cell? ⟨w1.heap.size + 1, 1, none⟩ = some (.int .i64 a2) := by go_simp
  have qu2_2 : ((w1.alloc (.cells #[.int .i64 m, .int .i64 a1, .slice va zs.length vc] 25)).alloc (.cells #[.int .i64 m2, .int .i64 a2, .slice ua ys.length uc] 25)).cell? ⟨w1.heap.size + 1, 2, none⟩ = some (.slice ua ys.length uc) := by go_simp
  have zu_2 : w1.heap.size + 1 < ((w1.alloc (.cells #[.int .i64 m, .int .i64 a1, .slice va zs.length vc] 25)).alloc (.cells #[.int .i64 m2, .int .i64 a2, .slice ua ys.length uc] 25)).heap.size := by simp <;> omega
  generalize ((w1.alloc (.cells #[.int .i64 m, .int .i64 a1, .slice va zs.length vc] 25)).alloc (.cells #[.int .i64 m2, .int .i64 a2, .slice ua ys.length uc] 25)) = w2 at hb2 H2 SZ2 F_2 G_2 qu0_2 qu1_2 qu2_2 qv0_2 qv1_2 qv2_2 zu_2 zv_2 ⊢
  have ZBv := Lib.hid zv_2
  have ZBu := Lib.hid zu_2
  clear F_1 G_1
  have hst := fun s t w (h1 : Row w s zs) (h2 : Row w t ys) => changedNodes m a1 m2 a2 zs ys s t w h1 h2 (by omega) (by omega)
  have hss := fun s t w (h1 : Row w s zs) (h2 : Row w t ys) => sChangedNodes m a1 m2 a2 zs ys s t w h1 h2 (by omega) (by omega)
  have hbk := fun s t w (h1 : Row w s ys) (h2 : Row w t zs) => changedNodes m2 a2 m a1 ys zs s t w h1 h2 (by omega) (by omega)
  have hsw : cnB m2 m ys zs = cnB m m2 zs ys := by
    unfold cnB
    rw [show decide (m2 = m) = decide (m = m2) from decide_eq_decide.2 eq_comm, show decide (ys.length = zs.length) = decide (zs.length = ys.length) from decide_eq_decide.2 eq_comm]
  rw [hsw] at hbk
  cases hk : cnB m m2 zs ys
  · rw [show cnL m m2 zs ys = [] by unfold cnL; rw [hk]; rfl, hk] at hst hss
    rw [show cnL m2 m ys zs = [] by unfold cnL; rw [hsw, hk]; rfl, hk] at hbk
    have HST := Lib.hid hst
    have HSS := Lib.hid hss
    have HBK := Lib.hid hbk
    clear hst hss hbk hk hsw
    go_wp2_with fail
    refine (HST.out _ _ _ G_2.out.rowI F_2.out.rowI).mono ?_
    rintro e w3 ⟨vx, rfl, howx, hb3⟩
    have H3 := bel_trans H2 hb3
    have SZ3 := Lib.hid hb3.size
    have qv0_3 := (hb3.cell (p := ⟨w1.heap.size, 0, none⟩) zv_2).trans qv0_2
    have qv1_3 := (hb3.cell (p := ⟨w1.heap.size, 1, none⟩) zv_2).trans qv1_2
    have qv2_3 := (hb3.cell (p := ⟨w1.heap.size, 2, none⟩) zv_2).trans qv2_2
    have zv_3 := Nat.lt_of_lt_of_le zv_2 hb3.size
    have qu0_3 := (hb3.cell (p := ⟨w1.heap.size + 1, 0, none⟩) zu_2).trans qu0_2
    have qu1_3 := (hb3.cell (p := ⟨w1.heap.size + 1, 1, none⟩) zu_2).trans qu1_2
    have qu2_3 := (hb3.cell (p := ⟨w1.heap.size + 1, 2, none⟩) zu_2).trans qu2_2
    have zu_3 := Nat.lt_of_lt_of_le zu_2 hb3.size
    have G_3 := Lib.hid (G_2.out.keep hb3)
    have F_3 := Lib.hid (F_2.out.keep hb3)
    obtain ⟨ax, cx, rfl, hz9⟩ := id howx
    clear hz9
    have X_3 := Lib.hid (show InR true w3 w2.heap.size w3.heap.size _ ([] : List Int).length 1 (cellI ([] : List Int)) from howx)
    clear qu1_2 qv2_2 qu0_2 qv1_2 qu2_2 zv_2 zu_2 G_2 qv0_2 F_2
    clear howx
    go_wp2_with fail
    refine (HSS.out _ _ _ G_3.out.rowI F_3.out.rowI).mono ?_
    rintro e w4 ⟨vk, rfl, howk, hb4⟩
    have H4 := bel_trans H3 hb4
    have SZ4 := Lib.hid hb4.size
    have qv0_4 := (hb4.cell (p := ⟨w1.heap.size, 0, none⟩) zv_3).trans qv0_3
    have qv1_4 := (hb4.cell (p := ⟨w1.heap.size, 1, none⟩) zv_3).trans qv1_3
    have qv2_4 := (hb4.cell (p := ⟨w1.heap.size, 2, none⟩) zv_3).trans qv2_3
    have zv_4 := Nat.lt_of_lt_of_le zv_3 hb4.size
    have qu0_4 := (hb4.cell (p := ⟨w1.heap.size + 1, 0, none⟩) zu_3).trans qu0_3
    have qu1_4 := (hb4.cell (p := ⟨w1.heap.size + 1, 1, none⟩) zu_3).trans qu1_3
    have qu2_4 := (hb4.cell (p := ⟨w1.heap.size + 1, 2, none⟩) zu_3).trans qu2_3
    have zu_4 := Nat.lt_of_lt_of_le zu_3 hb4.size
    have G_4 := Lib.hid (G_3.out.keep hb4)
    have F_4 := Lib.hid (F_3.out.keep hb4)
    have X_4 := Lib.hid (X_3.out.keep hb4)
    obtain ⟨ak, ck, rfl, hz9⟩ := id howk
    clear hz9
    have K_4 := Lib.hid (show InR true w4 w3.heap.size w4.heap.size _ ([] : List Int).length 1 (cellI ([] : List Int)) from howk)
    clear qv0_3 qv1_3 qv2_3 zv_3 qu0_3 qu1_3 qu2_3 zu_3 G_3 F_3 X_3
    clear howk
    go_wp2_with fail
    refine (HBK.out _ _ _ F_4.out.rowI G_4.out.rowI).mono ?_
    rintro e w5 ⟨vy, rfl, howy, hb5⟩
    have H5 := bel_trans H4 hb5
    have SZ5 := Lib.hid hb5.size
    have qv0_5 := (hb5.cell (p := ⟨w1.heap.size, 0, none⟩) zv_4).trans qv0_4
    have qv1_5 := (hb5.cell (p := ⟨w1.heap.size, 1, none⟩) zv_4).trans qv1_4
    have qv2_5 := (hb5.cell (p := ⟨w1.heap.size, 2, none⟩) zv_4).trans qv2_4
    have zv_5 := Nat.lt_of_lt_of_le zv_4 hb5.size
    have qu0_5 := (hb5.cell (p := ⟨w1.heap.size + 1, 0, none⟩) zu_4).trans qu0_4
    have qu1_5 := (hb5.cell (p := ⟨w1.heap.size + 1, 1, none⟩) zu_4).trans qu1_4
    have qu2_5 := (hb5.cell (p := ⟨w1.heap.size + 1, 2, none⟩) zu_4).trans qu2_4
    have zu_5 := Nat.lt_of_lt_of_le zu_4 hb5.size
    have G_5 := Lib.hid (G_4.out.keep hb5)
    have F_5 := Lib.hid (F_4.out.keep hb5)
    have X_5 := Lib.hid (X_4.out.keep hb5)
    have K_5 := Lib.hid (K_4.out.keep hb5)
    obtain ⟨ay, cy, rfl, hz9⟩ := id howy
    clear hz9
    have Y_5 := Lib.hid (show InR true w5 w4.heap.size w5.heap.size _ ([] : List Int).length 1 (cellI ([] : List Int)) from howy)
    clear qv0_4 qv1_4 qv2_4 zv_4 qu0_4 qu1_4 qu2_4 zu_4 G_4 F_4 X_4 K_4
    clear howy
    go_wp2_with fail
    refine (gvInts ([] : List Int) _ _ _ X_5.out.rowI K_5.out.rowI (by first | omega | simp)).mono ?_
    rintro e w6 ⟨rfl, hb6⟩
    have H6 := bel_trans H5 hb6
    have SZ6 := Lib.hid hb6.size
    have qv0_6 := (hb6.cell (p := ⟨w1.heap.size, 0, none⟩) zv_5).trans qv0_5
    have qv1_6 := (hb6.cell (p := ⟨w1.heap.size, 1, none⟩) zv_5).trans qv1_5
    have qv2_6 := (hb6.cell (p := ⟨w1.heap.size, 2, none⟩) zv_5).trans qv2_5
    have zv_6 := Nat.lt_of_lt_of_le zv_5 hb6.size
    have qu0_6 := (hb6.cell (p := ⟨w1.heap.size + 1, 0, none⟩) zu_5).trans qu0_5
    have qu1_6 := (hb6.cell (p := ⟨w1.heap.size + 1, 1, none⟩) zu_5).trans qu1_5
    have qu2_6 := (hb6.cell (p := ⟨w1.heap.size + 1, 2, none⟩) zu_5).trans qu2_5
    have zu_6 := Nat.lt_of_lt_of_le zu_5 hb6.size
    have G_6 := Lib.hid (G_5.out.keep hb6)
    have F_6 := Lib.hid (F_5.out.keep hb6)
    have X_6 := Lib.hid (X_5.out.keep hb6)
    have K_6 := Lib.hid (K_5.out.keep hb6)
    have Y_6 := Lib.hid (Y_5.out.keep hb6)
    clear qv0_5 qv1_5 qv2_5 zv_5 qu0_5 qu1_5 qu2_5 zu_5 G_5 F_5 X_5 K_5 Y_5
    go_wp2_with fail
    refine (gvInts ([] : List Int) _ _ _ Y_6.out.rowI X_6.out.rowI (by first | omega | simp)).mono ?_
    rintro e w7 ⟨rfl, hb7⟩
    have H7 := bel_trans H6 hb7
    have SZ7 := Lib.hid hb7.size
    have qv0_7 := (hb7.cell (p := ⟨w1.heap.size, 0, none⟩) zv_6).trans qv0_6
    have qv1_7 := (hb7.cell (p := ⟨w1.heap.size, 1, none⟩) zv_6).trans qv1_6
    have qv2_7 := (hb7.cell (p := ⟨w1.heap.size, 2, none⟩) zv_6).trans qv2_6
    have zv_7 := Nat.lt_of_lt_of_le zv_6 hb7.size
    have qu0_7 := (hb7.cell (p := ⟨w1.heap.size + 1, 0, none⟩) zu_6).trans qu0_6
    have qu1_7 := (hb7.cell (p := ⟨w1.heap.size + 1, 1, none⟩) zu_6).trans qu1_6
    have qu2_7 := (hb7.cell (p := ⟨w1.heap.size + 1, 2, none⟩) zu_6).trans qu2_6
    have zu_7 := Nat.lt_of_lt_of_le zu_6 hb7.size
    have G_7 := Lib.hid (G_6.out.keep hb7)
    have F_7 := Lib.hid (F_6.out.keep hb7)
    have X_7 := Lib.hid (X_6.out.keep hb7)
    have K_7 := Lib.hid (K_6.out.keep hb7)
    have Y_7 := Lib.hid (Y_6.out.keep hb7)
    clear qv0_6 qv1_6 qv2_6 zv_6 qu0_6 qu1_6 qu2_6 zu_6 G_6 F_6 X_6 K_6 Y_6
    go_wp2_with fail
    refine (gvInts ([] : List Int) _ _ _ X_7.out.rowI K_7.out.rowI (by first | omega | simp)).mono ?_
    rintro e w8 ⟨rfl, hb8⟩
    have H8 := bel_trans H7 hb8
    have SZ8 := Lib.hid hb8.size
    have qv0_8 := (hb8.cell (p := ⟨w1.heap.size, 0, none⟩) zv_7).trans qv0_7
    have qv1_8 := (hb8.cell (p := ⟨w1.heap.size, 1, none⟩) zv_7).trans qv1_7
    have qv2_8 := (hb8.cell (p := ⟨w1.heap.size, 2, none⟩) zv_7).trans qv2_7
    have zv_8 := Nat.lt_of_lt_of_le zv_7 hb8.size
    have qu0_8 := (hb8.cell (p := ⟨w1.heap.size + 1, 0, none⟩) zu_7).trans qu0_7
    have qu1_8 := (hb8.cell (p := ⟨w1.heap.size + 1, 1, none⟩) zu_7).trans qu1_7
    have qu2_8 := (hb8.cell (p := ⟨w1.heap.size + 1, 2, none⟩) zu_7).trans qu2_7
    have zu_8 := Nat.lt_of_lt_of_le zu_7 hb8.size
    have G_8 := Lib.hid (G_7.out.keep hb8)
    have F_8 := Lib.hid (F_7.out.keep hb8)
    have X_8 := Lib.hid (X_7.out.keep hb8)
    have K_8 := Lib.hid (K_7.out.keep hb8)
    have Y_8 := Lib.hid (Y_7.out.keep hb8)
    clear qv0_7 qv1_7 qv2_7 zv_7 qu0_7 qu1_7 qu2_7 zu_7 G_7 F_7 X_7 K_7 Y_7
    go_wp2
    go_ret
    exact ⟨rfl, H8⟩
  · have hle := hk
    unfold cnB at hle
    rw [Bool.and_eq_true, decide_eq_true_eq, decide_eq_true_eq] at hle
    obtain ⟨-, hle⟩ := hle
    rw [show cnL m m2 zs ys = cnK zs ys zs.length by unfold cnL; rw [if_pos hk], hk] at hst hss
    rw [show cnL m2 m ys zs = cnK zs ys zs.length by unfold cnL; rw [hsw, if_pos hk, ← hle]; exact cnK_symm zs ys _, hk] at hbk
    have hnl := cnK_nil hle
    have hln := cnK_len zs ys zs.length
    generalize cnK zs ys zs.length = L at hst hss hbk hnl hln
    have hcd : decide (zs = ys) = decide (L.length = 0) := decide_eq_decide.2 hnl.symm
    have hgd := fun s t w (h1 : Row w s zs) (h2 : Row w t ys) => gvIntsD zs ys s t w h1 h2 (by omega) (by omega)
    rw [hcd] at hgd
    have HST := Lib.hid hst
    have HSS := Lib.hid hss
    have HBK := Lib.hid hbk
    have HGD := Lib.hid hgd
    have hlL : L.length ≤ 12 := by omega
    clear hst hss hbk hgd hk hsw hnl hcd hln hle
    go_wp2_with fail
    refine (HST.out _ _ _ G_2.out.rowI F_2.out.rowI).mono ?_
    rintro e w3 ⟨vx, rfl, howx, hb3⟩
    have H3 := bel_trans H2 hb3
    have SZ3 := Lib.hid hb3.size
    have qv0_3 := (hb3.cell (p := ⟨w1.heap.size, 0, none⟩) zv_2).trans qv0_2
    have qv1_3 := (hb3.cell (p := ⟨w1.heap.size, 1, none⟩) zv_2).trans qv1_2
    have qv2_3 := (hb3.cell (p := ⟨w1.heap.size, 2, none⟩) zv_2).trans qv2_2
    have zv_3 := Nat.lt_of_lt_of_le zv_2 hb3.size
    have qu0_3 := (hb3.cell (p := ⟨w1.heap.size + 1, 0, none⟩) zu_2).trans qu0_2
    have qu1_3 := (hb3.cell (p := ⟨w1.heap.size + 1, 1, none⟩) zu_2).trans qu1_2
    have qu2_3 := (hb3.cell (p := ⟨w1.heap.size + 1, 2, none⟩) zu_2).trans qu2_2
    have zu_3 := Nat.lt_of_lt_of_le zu_2 hb3.size
    have G_3 := Lib.hid (G_2.out.keep hb3)
    have F_3 := Lib.hid (F_2.out.keep hb3)
    obtain ⟨ax, cx, rfl, hz9⟩ := id howx
    clear hz9
    have X_3 := Lib.hid (show InR true w3 w2.heap.size w3.heap.size _ L.length 1 (cellI L) from howx)
    clear qu1_2 qv2_2 qu0_2 qv1_2 qu2_2 zv_2 zu_2 G_2 qv0_2 F_2
    clear howx
    go_wp2_with fail
    refine (HSS.out _ _ _ G_3.out.rowI F_3.out.rowI).mono ?_
    rintro e w4 ⟨vk, rfl, howk, hb4⟩
    have H4 := bel_trans H3 hb4
    have SZ4 := Lib.hid hb4.size
    have qv0_4 := (hb4.cell (p := ⟨w1.heap.size, 0, none⟩) zv_3).trans qv0_3
    have qv1_4 := (hb4.cell (p := ⟨w1.heap.size, 1, none⟩) zv_3).trans qv1_3
    have qv2_4 := (hb4.cell (p := ⟨w1.heap.size, 2, none⟩) zv_3).trans qv2_3
    have zv_4 := Nat.lt_of_lt_of_le zv_3 hb4.size
    have qu0_4 := (hb4.cell (p := ⟨w1.heap.size + 1, 0, none⟩) zu_3).trans qu0_3
    have qu1_4 := (hb4.cell (p := ⟨w1.heap.size + 1, 1, none⟩) zu_3).trans qu1_3
    have qu2_4 := (hb4.cell (p := ⟨w1.heap.size + 1, 2, none⟩) zu_3).trans qu2_3
    have zu_4 := Nat.lt_of_lt_of_le zu_3 hb4.size
    have G_4 := Lib.hid (G_3.out.keep hb4)
    have F_4 := Lib.hid (F_3.out.keep hb4)
    have X_4 := Lib.hid (X_3.out.keep hb4)
    obtain ⟨ak, ck, rfl, hz9⟩ := id howk
    clear hz9
    have K_4 := Lib.hid (show InR true w4 w3.heap.size w4.heap.size _ L.length 1 (cellI L) from howk)
    clear qv0_3 qv1_3 qv2_3 zv_3 qu0_3 qu1_3 qu2_3 zu_3 G_3 F_3 X_3
    clear howk
    go_wp2_with fail
    refine (HBK.out _ _ _ F_4.out.rowI G_4.out.rowI).mono ?_
    rintro e w5 ⟨vy, rfl, howy, hb5⟩
    have H5 := bel_trans H4 hb5
    have SZ5 := Lib.hid hb5.size
    have qv0_5 := (hb5.cell (p := ⟨w1.heap.size, 0, none⟩) zv_4).trans qv0_4
    have qv1_5 := (hb5.cell (p := ⟨w1.heap.size, 1, none⟩) zv_4).trans qv1_4
    have qv2_5 := (hb5.cell (p := ⟨w1.heap.size, 2, none⟩) zv_4).trans qv2_4
    have zv_5 := Nat.lt_of_lt_of_le zv_4 hb5.size
    have qu0_5 := (hb5.cell (p := ⟨w1.heap.size + 1, 0, none⟩) zu_4).trans qu0_4
    have qu1_5 := (hb5.cell (p := ⟨w1.heap.size + 1, 1, none⟩) zu_4).trans qu1_4
    have qu2_5 := (hb5.cell (p := ⟨w1.heap.size + 1, 2, none⟩) zu_4).trans qu2_4
    have zu_5 := Nat.lt_of_lt_of_le zu_4 hb5.size
    have G_5 := Lib.hid (G_4.out.keep hb5)
    have F_5 := Lib.hid (F_4.out.keep hb5)
    have X_5 := Lib.hid (X_4.out.keep hb5)
    have K_5 := Lib.hid (K_4.out.keep hb5)
    obtain ⟨ay, cy, rfl, hz9⟩ := id howy
    clear hz9
    have Y_5 := Lib.hid (show InR true w5 w4.heap.size w5.heap.size _ L.length 1 (cellI L) from howy)
    clear qv0_4 qv1_4 qv2_4 zv_4 qu0_4 qu1_4 qu2_4 zu_4 G_4 F_4 X_4 K_4
    clear howy
    go_wp2_with fail
    refine (gvInts L _ _ _ X_5.out.rowI K_5.out.rowI (by first | omega | simp)).mono ?_
    rintro e w6 ⟨rfl, hb6⟩
    have H6 := bel_trans H5 hb6
    have SZ6 := Lib.hid hb6.size
    have qv0_6 := (hb6.cell (p := ⟨w1.heap.size, 0, none⟩) zv_5).trans qv0_5
    have qv1_6 := (hb6.cell (p := ⟨w1.heap.size, 1, none⟩) zv_5).trans qv1_5
    have qv2_6 := (hb6.cell (p := ⟨w1.heap.size, 2, none⟩) zv_5).trans qv2_5
    have zv_6 := Nat.lt_of_lt_of_le zv_5 hb6.size
    have qu0_6 := (hb6.cell (p := ⟨w1.heap.size + 1, 0, none⟩) zu_5).trans qu0_5
    have qu1_6 := (hb6.cell (p := ⟨w1.heap.size + 1, 1, none⟩) zu_5).trans qu1_5
    have qu2_6 := (hb6.cell (p := ⟨w1.heap.size + 1, 2, none⟩) zu_5).trans qu2_5
    have zu_6 := Nat.lt_of_lt_of_le zu_5 hb6.size
    have G_6 := Lib.hid (G_5.out.keep hb6)
    have F_6 := Lib.hid (F_5.out.keep hb6)
    have X_6 := Lib.hid (X_5.out.keep hb6)
    have K_6 := Lib.hid (K_5.out.keep hb6)
    have Y_6 := Lib.hid (Y_5.out.keep hb6)
    clear qv0_5 qv1_5 qv2_5 zv_5 qu0_5 qu1_5 qu2_5 zu_5 G_5 F_5 X_5 K_5 Y_5
    go_wp2_with fail
    refine (gvInts L _ _ _ Y_6.out.rowI X_6.out.rowI (by first | omega | simp)).mono ?_
    rintro e w7 ⟨rfl, hb7⟩
    have H7 := bel_trans H6 hb7
    have SZ7 := Lib.hid hb7.size
    have qv0_7 := (hb7.cell (p := ⟨w1.heap.size, 0, none⟩) zv_6).trans qv0_6
    have qv1_7 := (hb7.cell (p := ⟨w1.heap.size, 1, none⟩) zv_6).trans qv1_6
    have qv2_7 := (hb7.cell (p := ⟨w1.heap.size, 2, none⟩) zv_6).trans qv2_6
    have zv_7 := Nat.lt_of_lt_of_le zv_6 hb7.size
    have qu0_7 := (hb7.cell (p := ⟨w1.heap.size + 1, 0, none⟩) zu_6).trans qu0_6
    have qu1_7 := (hb7.cell (p := ⟨w1.heap.size + 1, 1, none⟩) zu_6).trans qu1_6
    have qu2_7 := (hb7.cell (p := ⟨w1.heap.size + 1, 2, none⟩) zu_6).trans qu2_6
    have zu_7 := Nat.lt_of_lt_of_le zu_6 hb7.size
    have G_7 := Lib.hid (G_6.out.keep hb7)
    have F_7 := Lib.hid (F_6.out.keep hb7)
    have X_7 := Lib.hid (X_6.out.keep hb7)
    have K_7 := Lib.hid (K_6.out.keep hb7)
    have Y_7 := Lib.hid (Y_6.out.keep hb7)
    clear qv0_6 qv1_6 qv2_6 zv_6 qu0_6 qu1_6 qu2_6 zu_6 G_6 F_6 X_6 K_6 Y_6
    have hgd := HGD.out
    by_cases h0 : L.length = 0
    · rw [show decide (L.length = 0) = true from decide_eq_true h0] at hgd
      have hL0 : L = [] := List.eq_nil_of_length_eq_zero h0
      clear h0
      subst hL0
      have HGE := Lib.hid hgd
      clear hgd
      go_wp2_with fail
      refine (HGE.out _ _ _ G_7.out.rowI F_7.out.rowI).mono ?_
      rintro e w8 ⟨rfl, hb8⟩
      have H8 := bel_trans H7 hb8
      have SZ8 := Lib.hid hb8.size
      have qv0_8 := (hb8.cell (p := ⟨w1.heap.size, 0, none⟩) zv_7).trans qv0_7
      have qv1_8 := (hb8.cell (p := ⟨w1.heap.size, 1, none⟩) zv_7).trans qv1_7
      have qv2_8 := (hb8.cell (p := ⟨w1.heap.size, 2, none⟩) zv_7).trans qv2_7
      have zv_8 := Nat.lt_of_lt_of_le zv_7 hb8.size
      have qu0_8 := (hb8.cell (p := ⟨w1.heap.size + 1, 0, none⟩) zu_7).trans qu0_7
      have qu1_8 := (hb8.cell (p := ⟨w1.heap.size + 1, 1, none⟩) zu_7).trans qu1_7
      have qu2_8 := (hb8.cell (p := ⟨w1.heap.size + 1, 2, none⟩) zu_7).trans qu2_7
      have zu_8 := Nat.lt_of_lt_of_le zu_7 hb8.size
      have G_8 := Lib.hid (G_7.out.keep hb8)
      have F_8 := Lib.hid (F_7.out.keep hb8)
      have X_8 := Lib.hid (X_7.out.keep hb8)
      have K_8 := Lib.hid (K_7.out.keep hb8)
      have Y_8 := Lib.hid (Y_7.out.keep hb8)
      clear qv1_7 K_7 qu0_7 Y_7 qu1_7 G_7 zv_7 qu2_7 X_7 zu_7 qv0_7 qv2_7 F_7
      go_wp2
      go_ret
      exact ⟨by first | rfl | simp, H8⟩
    · rw [show decide (L.length = 0) = false from decide_eq_false h0] at hgd
      have h1 : ((L.length : Int) == 0) = false := by simpa using h0
      have h2 : ¬ (L.length : Int) = 0 := by omega
      have HGE := Lib.hid hgd
      clear hgd
      go_wp2_with fail
      refine (HGE.out _ _ _ G_7.out.rowI F_7.out.rowI).mono ?_
      rintro e w8 ⟨rfl, hb8⟩
      have H8 := bel_trans H7 hb8
      have SZ8 := Lib.hid hb8.size
      have qv0_8 := (hb8.cell (p := ⟨w1.heap.size, 0, none⟩) zv_7).trans qv0_7
      have qv1_8 := (hb8.cell (p := ⟨w1.heap.size, 1, none⟩) zv_7).trans qv1_7
      have qv2_8 := (hb8.cell (p := ⟨w1.heap.size, 2, none⟩) zv_7).trans qv2_7
      have zv_8 := Nat.lt_of_lt_of_le zv_7 hb8.size
      have qu0_8 := (hb8.cell (p := ⟨w1.heap.size + 1, 0, none⟩) zu_7).trans qu0_7
      have qu1_8 := (hb8.cell (p := ⟨w1.heap.size + 1, 1, none⟩) zu_7).trans qu1_7
      have qu2_8 := (hb8.cell (p := ⟨w1.heap.size + 1, 2, none⟩) zu_7).trans qu2_7
      have zu_8 := Nat.lt_of_lt_of_le zu_7 hb8.size
      have G_8 := Lib.hid (G_7.out.keep hb8)
      have F_8 := Lib.hid (F_7.out.keep hb8)
      have X_8 := Lib.hid (X_7.out.keep hb8)
      have K_8 := Lib.hid (K_7.out.keep hb8)
      have Y_8 := Lib.hid (Y_7.out.keep hb8)
      clear qv1_7 K_7 qu0_7 Y_7 G_7 qu1_7 zv_7 qu2_7 X_7 zu_7 qv0_7 qv2_7 F_7
      go_wp2
      go_ret
      exact ⟨by first | rfl | simp, H8⟩

set_option maxRecDepth 100000 in
theorem lifted (os : Os) (started : os.Started) (H : Type) (enc : TypeId × Value → H) :
    ReturnsInHanded {} Try.checked os 3 .any (Rows.fnChangedNodesSpec.pre6 enc Try.prog Try.f3 Rows.fnChangedNodesRow.domain false) (Rows.fnChangedNodesSpec.post enc Try.prog Try.f3 false true false false) := by
  refine returnsInHanded_of_change (C := Try.checked) own started (by kernel_rfl) Try.func3
    (ChangeSpec.witness6 (enc := enc) (C := Try.checked) false ⟨#[], #[.slice none 0 0], []⟩ 8 (by kernel_rfl) (by kernel_rfl) (by kernel_rfl) (by kernel_rfl)) ?_
  intro W base args ds gs before hval0 hW hcnd _
  have hval : ∀ (j : Nat) t v, Try.f3.params[j]? = some t → args[j]? = some v → Value.okWide Try.prog W .any base t v := hval0
  have hW' := hW
  obtain ⟨p, q, hA0, hV, rfl, hfz, hnd⟩ := hW
  have hA : DataW.TrodAll enc Try.prog W 0 (fun _ => true) true Try.f3.params.toList args.toList ds p := hA0
  rw [Try.params3] at hA hval
  obtain ⟨v0, vs0, d0, ds0, p0, q0, hargs, rfl, rfl, h0, r0⟩ := trodAll_cons hA
  obtain ⟨rfl, rfl, rfl⟩ := trodAll_nil r0
  obtain rfl : args = #[v0] := by cases args; simp_all
  obtain ⟨rfl, rfl⟩ := trodVars_none hV
  obtain ⟨a0, len0, cap0, rfl⟩ := okWide_slice Try.underlying22 (hval 0 22 v0 rfl rfl)
  have k0 := h0
  have lt0 : ∀ x ∈ p0, x.block < W.heap.size := by obtain ⟨m, hm⟩ := k0; exact DataW.trod_lt m _ _ _ hm
  obtain ⟨z0, w0⟩ : ∃ zs, IsRow .u8 W a0 len0 cap0 zs := by
    obtain ⟨fuel, hf⟩ := h0
    rcases open_ints Try.underlying22 Try.underlying5 (by kernel_rfl) hf with ⟨hcs, _⟩ | ⟨x, l, c, zs, hcs, _, hl, hm, hz, _, hcell, hwz⟩
    · simp [Value.cells] at hcs
      obtain ⟨rfl, rfl, rfl⟩ := hcs
      exact ⟨[], .inl ⟨rfl, rfl, rfl, rfl⟩⟩
    · simp [Value.cells] at hcs
      obtain ⟨rfl, rfl, rfl⟩ := hcs
      exact ⟨zs, .inr ⟨_, rfl, hl, hm, by simpa using hz, hcell, hwz⟩⟩
  clear hA0 hval0
  refine (walk a0 len0 cap0 z0 W w0).mono fun e W' ⟨he, bel⟩ => ?_
  subst he
  exact ⟨_, rfl, _, _, _, [], _, [], hW', trodAll_mk1 (shut_bool Try.underlying4 _), (trodAll_cons_mk (Below.trod laidOut (by kernel_rfl) (of_decide_eq_true (by kernel_rfl)) k0 bel lt0) trodAll_mk0), rfl, bel.frame _, fun h => by cases h⟩

theorem over : Rows.fnChangedNodesRow.holds Try.pinned (OpenSpec.ofChange Rows.fnChangedNodesSpec) :=
  OpenClaim.holds_of_wide 3 Try.f3 rfl rfl rfl rfl rfl rfl rfl ⟨rfl, rfl, rfl, rfl, rfl⟩ rfl rfl rfl rfl rfl (by kernel_rfl) Try.func3 (by kernel_rfl)
    (of_decide_eq_true (by kernel_rfl)) (by unfold Func.isWrapper; first | (rw [if_pos (by decide +kernel)]; kernel_rfl) | (rw [if_neg (by decide +kernel)]; exact ⟨rfl, rfl⟩))
    (fun os started H enc _ => lifted os started H enc)

theorem proved : Rows.FnChangedNodesSaid := over
end Go.Proofs.Ytbhhbhopogkmnaa.fnChangedNodes
