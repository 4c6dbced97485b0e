/-
  Proved: no source gives a better value, the owner gives the value, and none has no owner (the law FnNearestOf returns true for every input and leaves it as it was), with no further condition.
-/
import Derived.Test.YtbinpaaihdcnlaaRows
import Derived.Test.YtbinpaaihdcnlaaDrawN
import Derived.Test.YtbinpaaihdcnlaaNearM
import Derived.Test.YtbinpaaihdcnlaaViewT
import Derived.Test.YtbinpaaihdcnlaaGvInts
import Derived.Test.YtbinpaaihdcnlaaImpl2
import Derived.Test.YtbinpaaihdcnlaaStartL
import Derived.Test.YtbinpaaihdcnlaaRight
import Derived.WalkKit
import Derived.ProofKit
import Derived.OpenShut
import Derived.ShutString
import Derived.ChangeOld
import Derived.Below
namespace Go.Proofs.Ytbinpaaihdcnlaa.fnNearestOf
open Go.Proofs.Ytbinpaaihdcnlaa Go.BigFrame
open Go.ChangeShapes Go.WideShapes Go.ChangeAt Go.RowKit
open Go.ChangeMaps (open_string shut_string)
set_option linter.unusedVariables false

theorem own : ownKnob Try.prog.godebug = none := by kernel_rfl
theorem laidOut : laidOutB Try.prog = true := by kernel_rfl

def IsRow (k : IntKind) (w : World) (a : Option Addr) (len cap : Nat) (zs : List Int) : Prop :=
  (a = none ∧ len = 0 ∧ cap = 0 ∧ zs = []) ∨
  ∃ x, a = some x ∧ len ≤ cap ∧ cap ≤ maxLen ∧ zs.length = cap ∧ (∀ i, i < zs.length → w.cell? (x.add i) = some (.int k (zs.getD i 0))) ∧ ∀ n ∈ zs, (Lit.int k n).wf = true

theorem bytes_of {w : World} {a : Option Addr} {len cap : Nat} {zs : List Int} (h : IsRow .u8 w a len cap zs) : Bytes w a len ∧ len ≤ cap ∧ len ≤ 9223372036854775807 := by
  rcases h with ⟨rfl, rfl, rfl, rfl⟩ | ⟨x, rfl, hl, hm, hz, hc, hw⟩
  · exact ⟨.inl rfl, Nat.le_refl _, by omega⟩
  · unfold maxLen at hm
    refine ⟨?_, hl, by omega⟩
    by_cases h0 : len = 0
    · exact .inl h0
    · obtain ⟨b, off, rfl, hc'⟩ := ints_at hc (by omega)
      exact .inr ⟨b, off, rfl, World.block_lt_of_cell? _ _ (hc' 0 (by omega)), fun i hi => ⟨zs[i]?.getD 0, (range_u8 hw i).1, (range_u8 hw i).2, hc' i (by omega)⟩⟩

set_option maxRecDepth 100000 in
set_option maxHeartbeats 4000000 in
theorem walk (a0 : Option Addr) (len0 cap0 : Nat) (z0 : List Int) (w : World) (w0 : IsRow .u8 w a0 len0 cap0 z0) :
    Calls Try.prog 6 #[.slice a0 len0 cap0] w fun e w' => e = .returned (.bool true) ∧ Below w.heap.size w w' := by
  obtain ⟨hby, hcp, hn⟩ := bytes_of w0
  have HB0 := Lib.hid hby
  clear hby w0
  by_cases h0 : 1048576 < len0
  · go_enter Try.func6, Try.ntmps6
    go_wp2
    go_ret
    exact ⟨rfl, Below.refl _ _⟩
  have h0' : len0 ≤ 1048576 := by omega
  clear h0
  obtain ⟨w0, hw0⟩ : ∃ w0, w0 = w := ⟨_, rfl⟩
  subst hw0
  have H0 := Below.refl w0.heap.size w0
  go_enter Try.func6, Try.ntmps6
  go_wp2_with fail
  refine (dDrawNearestOf a0 len0 cap0 _ HB0.out hcp (by omega)).mono ?_
  rintro e w1 ⟨n, es, v, m, os, u, SS, rfl, hle, hrG, hrU, hb1⟩
  have H1 := bel_trans H0 hb1
  have SZ1 := Lib.hid hb1.size
  obtain ⟨va, vc, rfl, hz9⟩ := id hrG.1
  obtain ⟨ua, uc, rfl⟩ := own_slice hrU.2.2
  have HOKU := Lib.hid (own_ok hrU.2.2)
  clear hz9
  have G_1 := Lib.hid (hrG.1.wider (Nat.le_refl _) hrU.2.1 (Nat.le_refl _))
  have U_1 := Lib.hid (show InR true w1 w0.heap.size w1.heap.size _ os.length 1 (cellI os) from OwnV.of hrU.2.2 (by have := hrU.1; omega))
  have hle1 := hle.1
  have hle2 := hle.2
  clear hrG hrU hle
  go_wp2_with fail
  have hb2 : Below w1.heap.size w1 (w1.alloc (.cells #[.int .i64 n, .slice va es.length vc] 25)) := (Below.refl _ _).alloc (by simp <;> omega) _
  have H2 := bel_trans H1 hb2
  have SZ2 := Lib.hid hb2.size
  have G_2 := Lib.hid (G_1.out.keep hb2)
  have U_2 := Lib.hid (U_1.out.keep hb2)
  have qg0_2 : (w1.alloc (.cells #[.int .i64 n, .slice va es.length vc] 25)).cell? ⟨w1.heap.size, 0, none⟩ = some (.int .i64 n) := by go_simp
  have qg1_2 : (w1.alloc (.cells #[.int .i64 n, .slice va es.length vc] 25)).cell? ⟨w1.heap.size, 1, none⟩ = some (.slice va es.length vc) := by go_simp
  have zg_2 : w1.heap.size < (w1.alloc (.cells #[.int .i64 n, .slice va es.length vc] 25)).heap.size := by simp <;> omega
  generalize (w1.alloc (.cells #[.int .i64 n, .slice va es.length vc] 25)) = w2 at hb2 H2 SZ2 G_2 U_2 qg0_2 qg1_2 zg_2 ⊢
  have ZBg := Lib.hid zg_2
  clear G_1 U_1
  have hle3 : es.length ≤ 281474976710656 := by omega
  have hlo : os.length ≤ 281474976710656 := by omega
  have hst := fun s t w (h : RowE w s es) (k : Row w t os) => nearestOf n m es os s t w h k hle3 hlo
  have hss := fun s t w (h : RowE w s es) (k : Row w t os) (q : okS t) => sNearestOf n m es os s t w h k q hle3 hlo
  cases hk : nfB n es m os
  · rw [show nfV n es m os = [] by unfold nfV; rw [hk]; rfl, show nfO n es m os = [] by unfold nfO; rw [hk]; rfl, hk] at hst hss
    have HST := Lib.hid hst
    have HSS := Lib.hid hss
    clear hst hss hk
    go_wp2_with fail
    refine (HST.out _ _ _ G_2.out.edges U_2.out.rowI).mono ?_
    rintro e w3 ⟨vx, vp, mid, rfl, hv, hu, hmid, hb3⟩
    have H3 := bel_trans H2 hb3
    have SZ3 := Lib.hid hb3.size
    have qg0_3 := (hb3.cell (p := ⟨w1.heap.size, 0, none⟩) zg_2).trans qg0_2
    have qg1_3 := (hb3.cell (p := ⟨w1.heap.size, 1, none⟩) zg_2).trans qg1_2
    have zg_3 := Nat.lt_of_lt_of_le zg_2 hb3.size
    have G_3 := Lib.hid (G_2.out.keep hb3)
    have U_3 := Lib.hid (U_2.out.keep hb3)
    obtain ⟨ax, cx, rfl, hz9⟩ := id hv
    obtain ⟨ap, cp, rfl, hz8⟩ := id hu
    clear hz9 hz8
    have X_3 := Lib.hid (show InR true w3 w2.heap.size w3.heap.size _ ([] : List Int).length 1 (cellI ([] : List Int)) from hv.wider (Nat.le_refl _) hmid.2 (Nat.le_refl _))
    clear zg_2 qg0_2 G_2 U_2 qg1_2
    have P_3 := Lib.hid (show InR true w3 w2.heap.size w3.heap.size _ ([] : List Int).length 1 (cellI ([] : List Int)) from hu.wider hmid.1 (Nat.le_refl _) (Nat.le_refl _))
    clear hv hu hmid
    go_wp2_with fail
    refine (HSS.out _ _ _ G_3.out.edges U_3.out.rowI HOKU.out).mono ?_
    rintro e w4 ⟨vy, vq, rfl, hv, hu, hb4⟩
    have H4 := bel_trans H3 hb4
    have SZ4 := Lib.hid hb4.size
    have qg0_4 := (hb4.cell (p := ⟨w1.heap.size, 0, none⟩) zg_3).trans qg0_3
    have qg1_4 := (hb4.cell (p := ⟨w1.heap.size, 1, none⟩) zg_3).trans qg1_3
    have zg_4 := Nat.lt_of_lt_of_le zg_3 hb4.size
    have G_4 := Lib.hid (G_3.out.keep hb4)
    have U_4 := Lib.hid (U_3.out.keep hb4)
    have X_4 := Lib.hid (X_3.out.keep hb4)
    have P_4 := Lib.hid (P_3.out.keep hb4)
    obtain ⟨ay, cy, rfl, hz9⟩ := id hv
    obtain ⟨aq, cq, rfl, hz8⟩ := id hu
    clear hz9 hz8
    have Y_4 := Lib.hid (show InR true w4 w3.heap.size w4.heap.size _ ([] : List Int).length 1 (cellI ([] : List Int)) from hv)
    clear qg0_3 qg1_3 zg_3 G_3 U_3 X_3 P_3
    have Q_4 := Lib.hid (show InR true w4 w3.heap.size w4.heap.size _ ([] : List Int).length 1 (cellI ([] : List Int)) from hu)
    clear hv hu
    go_wp2_with fail
    refine (gvInts ([] : List Int) _ _ _ X_4.out.ints Y_4.out.ints (by simp)).mono ?_
    rintro e w5 ⟨rfl, hb5⟩
    have H5 := bel_trans H4 hb5
    have SZ5 := Lib.hid hb5.size
    have qg0_5 := (hb5.cell (p := ⟨w1.heap.size, 0, none⟩) zg_4).trans qg0_4
    have qg1_5 := (hb5.cell (p := ⟨w1.heap.size, 1, none⟩) zg_4).trans qg1_4
    have zg_5 := Nat.lt_of_lt_of_le zg_4 hb5.size
    have G_5 := Lib.hid (G_4.out.keep hb5)
    have U_5 := Lib.hid (U_4.out.keep hb5)
    have X_5 := Lib.hid (X_4.out.keep hb5)
    have P_5 := Lib.hid (P_4.out.keep hb5)
    have Y_5 := Lib.hid (Y_4.out.keep hb5)
    have Q_5 := Lib.hid (Q_4.out.keep hb5)
    clear qg0_4 qg1_4 zg_4 G_4 U_4 X_4 P_4 Y_4 Q_4
    go_wp2_with fail
    refine (gvInts ([] : List Int) _ _ _ P_5.out.ints Q_5.out.ints (by simp)).mono ?_
    rintro e w6 ⟨rfl, hb6⟩
    have H6 := bel_trans H5 hb6
    have SZ6 := Lib.hid hb6.size
    have qg0_6 := (hb6.cell (p := ⟨w1.heap.size, 0, none⟩) zg_5).trans qg0_5
    have qg1_6 := (hb6.cell (p := ⟨w1.heap.size, 1, none⟩) zg_5).trans qg1_5
    have zg_6 := Nat.lt_of_lt_of_le zg_5 hb6.size
    have G_6 := Lib.hid (G_5.out.keep hb6)
    have U_6 := Lib.hid (U_5.out.keep hb6)
    have X_6 := Lib.hid (X_5.out.keep hb6)
    have P_6 := Lib.hid (P_5.out.keep hb6)
    have Y_6 := Lib.hid (Y_5.out.keep hb6)
    have Q_6 := Lib.hid (Q_5.out.keep hb6)
    clear qg0_5 qg1_5 zg_5 G_5 U_5 X_5 P_5 Y_5 Q_5
    go_wp2_with fail
    refine (gvInts ([] : List Int) _ _ _ X_6.out.ints Y_6.out.ints (by simp)).mono ?_
    rintro e w7 ⟨rfl, hb7⟩
    have H7 := bel_trans H6 hb7
    have SZ7 := Lib.hid hb7.size
    have qg0_7 := (hb7.cell (p := ⟨w1.heap.size, 0, none⟩) zg_6).trans qg0_6
    have qg1_7 := (hb7.cell (p := ⟨w1.heap.size, 1, none⟩) zg_6).trans qg1_6
    have zg_7 := Nat.lt_of_lt_of_le zg_6 hb7.size
    have G_7 := Lib.hid (G_6.out.keep hb7)
    have U_7 := Lib.hid (U_6.out.keep hb7)
    have X_7 := Lib.hid (X_6.out.keep hb7)
    have P_7 := Lib.hid (P_6.out.keep hb7)
    have Y_7 := Lib.hid (Y_6.out.keep hb7)
    have Q_7 := Lib.hid (Q_6.out.keep hb7)
    clear qg0_6 qg1_6 zg_6 G_6 U_6 X_6 P_6 Y_6 Q_6
    go_wp2_with fail
    refine (gvInts ([] : List Int) _ _ _ P_7.out.ints Q_7.out.ints (by simp)).mono ?_
    rintro e w8 ⟨rfl, hb8⟩
    have H8 := bel_trans H7 hb8
    have SZ8 := Lib.hid hb8.size
    have qg0_8 := (hb8.cell (p := ⟨w1.heap.size, 0, none⟩) zg_7).trans qg0_7
    have qg1_8 := (hb8.cell (p := ⟨w1.heap.size, 1, none⟩) zg_7).trans qg1_7
    have zg_8 := Nat.lt_of_lt_of_le zg_7 hb8.size
    have G_8 := Lib.hid (G_7.out.keep hb8)
    have U_8 := Lib.hid (U_7.out.keep hb8)
    have X_8 := Lib.hid (X_7.out.keep hb8)
    have P_8 := Lib.hid (P_7.out.keep hb8)
    have Y_8 := Lib.hid (Y_7.out.keep hb8)
    have Q_8 := Lib.hid (Q_7.out.keep hb8)
    clear qg0_7 qg1_7 zg_7 G_7 U_7 X_7 P_7 Y_7 Q_7
    go_wp2
    go_ret
    exact ⟨by first | rfl | simp, H8⟩
  · have hk2 := hk
    simp only [nfB, Bool.and_eq_true] at hk2
    have hp := onOk_parts hk2.1
    have hgv := hp.1
    have hnn := gVal_n hgv
    have h40 := (gVal_parts hgv).2.2.1
    have hmk := hp.2.2
    have hnd := ndB_iff.1 hk2.2.2
    obtain ⟨N, hN⟩ : ∃ N : Nat, n = N := ⟨n.toNat, by omega⟩
    subst hN
    have hN12 : N ≤ 12 := by omega
    have he := eAll_of hgv
    rw [Int.toNat_natCast] at he
    have hxm : ∀ k, k < os.length → os.getD k 0 ∈ os := fun k h => by simp [List.getD, h]
    have hxr : ∀ x, x ∈ os → 0 ≤ x ∧ x < (N : Int) := fun x h => inN_iff.1 (hnd.1 x h)
    have hvl : ∀ x : Int, (vIter m es N (vStart m N x)).length = N := fun x => by rw [vIter_length, vStart_length, Int.toNat_natCast]
    have hvv : ∀ (i : Nat) (x : Int), i < N → mIn m ((vwS m es N x).getD i 0) = true := fun i x h => vIter_all hmk (vStart_all hmk) (by rw [vStart_length, Int.toNat_natCast]; exact he) N i (by rw [hvl]; exact h)
    have hvo : ∀ x ∈ os, ∀ s w, RowE w s es → Calls Try.prog 25 #[.agg #[.int .i64 N, s], .int .i64 m, .int .i64 x] w fun e w' => ∃ v, e = .returned (.tuple #[.agg #[.int .i64 m, .int .i64 x, v], .bool true]) ∧ OwnV w w' v (vwS m es N x) ∧ okS v ∧ Below w.heap.size w w' := fun x hx s w h => by
      have hon1 := onOk_of hgv (hxr x hx) hmk
      have h9 := viewOf (N : Int) m x es s w h hle3
      rwa [show stM (N : Int) es m x = m by unfold stM; rw [if_pos hon1], show stA (N : Int) es m x = x by unfold stA; rw [if_pos hon1], show voL (N : Int) es m x = vwS m es N x by unfold voL vwS; rw [if_pos hon1, Int.toNat_natCast], hon1] at h9
    rw [show nfV (N : Int) es m os = nrV m es N os by unfold nfV; rw [if_pos hk, Int.toNat_natCast], show nfO (N : Int) es m os = nrO m es N os by unfold nfO; rw [if_pos hk, Int.toNat_natCast], hk] at hst hss
    have hpt : ∀ i, i < N → nrOk m es N i os ((nrV m es N os).getD i 0, (nrO m es N os).getD i 0) := fun i h => by rw [← nrV_at m es N os i h, ← nrO_at m es N os i h]; exact nrAt_ok hmk (fun x _ => hvv i x h)
    have hbb : ∀ k i, k < os.length → i < N → bBet m ((vwS m es N (os.getD k 0)).getD i 0) ((nrV m es N os).getD i 0) = false := fun k i hk9 h => by
      have h9 := nr_best m es N i os (mNone m, -1) _ (hxm k hk9)
      rw [show (os.foldl (nrS m es N i) (mNone m, -1)).1 = (nrV m es N os).getD i 0 from nrV_at m es N os i h] at h9
      unfold bBet
      rw [h9]
      simp
    have heq : ∀ k i, k < os.length → i < N → (nrO m es N os).getD i 0 = os.getD k 0 → (vwS m es N (os.getD k 0)).getD i 0 = (nrV m es N os).getD i 0 := fun k i hk9 h q => by
      rcases (hpt i h).2 with h9 | h9
      · have := hxr _ (hxm k hk9); have h8 := h9.1; simp only at h8; omega
      · rw [← q]; exact h9.2.1.symm
    have hon : ∀ i, i < N → ((nrO m es N os).getD i 0 = -1 ∧ (nrV m es N os).getD i 0 = mNone m) ∨ (0 ≤ (nrO m es N os).getD i 0 ∧ inL os ((nrO m es N os).getD i 0) = true ∧ (nrV m es N os).getD i 0 ≠ mNone m) := fun i h => by
      rcases (hpt i h).2 with h9 | h9
      · exact .inl h9
      · exact .inr ⟨(hxr _ h9.1).1, by unfold inL; simpa using h9.1, h9.2.2⟩
    have hnp := fun w => iNoPath m w
    rw [show rNo m = mNone m by unfold rNo; rw [if_pos hmk], hmk] at hnp
    have hlL := nrV_len m es N os
    have hlO := nrO_len m es N os
    have hvl2 : ∀ x : Int, (vwS m es N x).length = N := hvl
    clear hpt hvv hvl
    generalize nrV m es N os = L at hst hss hbb heq hon hlL
    generalize nrO m es N os = O at hst hss heq hon hlO
    generalize mNone m = NO at hon hnp
    have HST := Lib.hid hst
    have HSS := Lib.hid hss
    have HVO := Lib.hid hvo
    have HBB := Lib.hid hbb
    have HEQ := Lib.hid heq
    have HON := Lib.hid hon
    have HNP := Lib.hid hnp
    have HLL := Lib.hid hlL
    have HLO := Lib.hid hlO
    have HVL := Lib.hid hvl2
    have HXM := Lib.hid hxm
    have HNN := Lib.hid hnn
    clear hst hss hvo hbb heq hon hnp hlL hlO hvl2 hxm hxr hk hk2 hp hgv hmk hnd he hN12
    go_wp2_with fail
    refine (HST.out _ _ _ G_2.out.edges U_2.out.rowI).mono ?_
    rintro e w3 ⟨vx, vp, mid, rfl, hv, hu, hmid, hb3⟩
    have H3 := bel_trans H2 hb3
    have SZ3 := Lib.hid hb3.size
    have qg0_3 := (hb3.cell (p := ⟨w1.heap.size, 0, none⟩) zg_2).trans qg0_2
    have qg1_3 := (hb3.cell (p := ⟨w1.heap.size, 1, none⟩) zg_2).trans qg1_2
    have zg_3 := Nat.lt_of_lt_of_le zg_2 hb3.size
    have G_3 := Lib.hid (G_2.out.keep hb3)
    have U_3 := Lib.hid (U_2.out.keep hb3)
    obtain ⟨ax, cx, rfl, hz9⟩ := id hv
    obtain ⟨ap, cp, rfl, hz8⟩ := id hu
    clear hz9 hz8
    have X_3 := Lib.hid (show InR true w3 w2.heap.size w3.heap.size _ L.length 1 (cellI L) from hv.wider (Nat.le_refl _) hmid.2 (Nat.le_refl _))
    clear zg_2 qg0_2 G_2 U_2 qg1_2
    have P_3 := Lib.hid (show InR true w3 w2.heap.size w3.heap.size _ O.length 1 (cellI O) from hu.wider hmid.1 (Nat.le_refl _) (Nat.le_refl _))
    clear hv hu hmid
    go_wp2_with fail
    refine (HSS.out _ _ _ G_3.out.edges U_3.out.rowI HOKU.out).mono ?_
    rintro e w4 ⟨vy, vq, rfl, hv, hu, hb4⟩
    have H4 := bel_trans H3 hb4
    have SZ4 := Lib.hid hb4.size
    have qg0_4 := (hb4.cell (p := ⟨w1.heap.size, 0, none⟩) zg_3).trans qg0_3
    have qg1_4 := (hb4.cell (p := ⟨w1.heap.size, 1, none⟩) zg_3).trans qg1_3
    have zg_4 := Nat.lt_of_lt_of_le zg_3 hb4.size
    have G_4 := Lib.hid (G_3.out.keep hb4)
    have U_4 := Lib.hid (U_3.out.keep hb4)
    have X_4 := Lib.hid (X_3.out.keep hb4)
    have P_4 := Lib.hid (P_3.out.keep hb4)
    obtain ⟨ay, cy, rfl, hz9⟩ := id hv
    obtain ⟨aq, cq, rfl, hz8⟩ := id hu
    clear hz9 hz8
    have Y_4 := Lib.hid (show InR true w4 w3.heap.size w4.heap.size _ L.length 1 (cellI L) from hv)
    clear qg0_3 qg1_3 zg_3 G_3 U_3 X_3 P_3
    have Q_4 := Lib.hid (show InR true w4 w3.heap.size w4.heap.size _ O.length 1 (cellI O) from hu)
    clear hv hu
    go_wp2_with fail
    refine (gvInts L _ _ _ X_4.out.ints Y_4.out.ints (by have := HLL.out; have := HLO.out; omega)).mono ?_
    rintro e w5 ⟨rfl, hb5⟩
    have H5 := bel_trans H4 hb5
    have SZ5 := Lib.hid hb5.size
    have qg0_5 := (hb5.cell (p := ⟨w1.heap.size, 0, none⟩) zg_4).trans qg0_4
    have qg1_5 := (hb5.cell (p := ⟨w1.heap.size, 1, none⟩) zg_4).trans qg1_4
    have zg_5 := Nat.lt_of_lt_of_le zg_4 hb5.size
    have G_5 := Lib.hid (G_4.out.keep hb5)
    have U_5 := Lib.hid (U_4.out.keep hb5)
    have X_5 := Lib.hid (X_4.out.keep hb5)
    have P_5 := Lib.hid (P_4.out.keep hb5)
    have Y_5 := Lib.hid (Y_4.out.keep hb5)
    have Q_5 := Lib.hid (Q_4.out.keep hb5)
    clear qg0_4 qg1_4 zg_4 G_4 U_4 X_4 P_4 Y_4 Q_4
    go_wp2_with fail
    refine (gvInts O _ _ _ P_5.out.ints Q_5.out.ints (by have := HLL.out; have := HLO.out; omega)).mono ?_
    rintro e w6 ⟨rfl, hb6⟩
    have H6 := bel_trans H5 hb6
    have SZ6 := Lib.hid hb6.size
    have qg0_6 := (hb6.cell (p := ⟨w1.heap.size, 0, none⟩) zg_5).trans qg0_5
    have qg1_6 := (hb6.cell (p := ⟨w1.heap.size, 1, none⟩) zg_5).trans qg1_5
    have zg_6 := Nat.lt_of_lt_of_le zg_5 hb6.size
    have G_6 := Lib.hid (G_5.out.keep hb6)
    have U_6 := Lib.hid (U_5.out.keep hb6)
    have X_6 := Lib.hid (X_5.out.keep hb6)
    have P_6 := Lib.hid (P_5.out.keep hb6)
    have Y_6 := Lib.hid (Y_5.out.keep hb6)
    have Q_6 := Lib.hid (Q_5.out.keep hb6)
    clear qg0_5 qg1_5 zg_5 G_5 U_5 X_5 P_5 Y_5 Q_5
    go_wp2_with fail
    refine (HNP.out _).mono ?_
    rintro e w7 ⟨rfl, hb7⟩
    have H7 := bel_trans H6 hb7
    have SZ7 := Lib.hid hb7.size
    have qg0_7 := (hb7.cell (p := ⟨w1.heap.size, 0, none⟩) zg_6).trans qg0_6
    have qg1_7 := (hb7.cell (p := ⟨w1.heap.size, 1, none⟩) zg_6).trans qg1_6
    have zg_7 := Nat.lt_of_lt_of_le zg_6 hb7.size
    have G_7 := Lib.hid (G_6.out.keep hb7)
    have U_7 := Lib.hid (U_6.out.keep hb7)
    have X_7 := Lib.hid (X_6.out.keep hb7)
    have P_7 := Lib.hid (P_6.out.keep hb7)
    have Y_7 := Lib.hid (Y_6.out.keep hb7)
    have Q_7 := Lib.hid (Q_6.out.keep hb7)
    clear qg0_6 qg1_6 zg_6 G_6 U_6 X_6 P_6 Y_6 Q_6
    have hN0 : 0 < N := by have := HNN.out; omega
    obtain ⟨_, _, hva9, hz9⟩ := id X_7.out
    injection hva9 with hv1 hv2 hv3
    subst hv1
    clear hv2 hv3
    rcases hz9 with hz9 | ⟨bx, ox, rfl, hr1, hr2, hr3, hrc⟩
    · have := HLL.out; omega
    have hcl : ∀ k : Nat, k < N → w7.cell? ⟨bx, ox + k, none⟩ = some (.int .i64 (L.getD k 0)) := fun k h => (hrc k (by have := HLL.out; omega)).1
    have HCX := Lib.hid (And.intro hcl (show bx < w7.heap.size by omega))
    clear hcl hrc hr1 hr2 hr3
    obtain ⟨_, _, hva9, hz9⟩ := id P_7.out
    injection hva9 with hv1 hv2 hv3
    subst hv1
    clear hv2 hv3
    rcases hz9 with hz9 | ⟨bp, op, rfl, hr1, hr2, hr3, hrc⟩
    · have := HLO.out; omega
    have hcl : ∀ k : Nat, k < N → w7.cell? ⟨bp, op + k, none⟩ = some (.int .i64 (O.getD k 0)) := fun k h => (hrc k (by have := HLO.out; omega)).1
    have HCP := Lib.hid (And.intro hcl (show bp < w7.heap.size by omega))
    clear hcl hrc hr1 hr2 hr3
    have HUR := Lib.hid U_7.out.rowI
    go_wp2_with fail
    go_loopw [14] (fun c wr => ∃ k : Nat, k ≤ N ∧ c = .int .i64 k ∧ Hid (Below w7.heap.size w7 wr)) (fun c _ => N - (intOf c).toNat)
    case atStart => exact ⟨0, Nat.zero_le _, rfl, Lib.hid (Below.refl _ _)⟩
    case round =>
      obtain ⟨k, hk, rfl, HBW⟩ := hrel
      have sW := HBW.out.size
      have qg0_r := (HBW.out.cell (p := ⟨w1.heap.size, 0, none⟩) zg_7).trans qg0_7
      have qg1_r := (HBW.out.cell (p := ⟨w1.heap.size, 1, none⟩) zg_7).trans qg1_7
      have zg_r := Nat.lt_of_lt_of_le zg_7 HBW.out.size
      by_cases hlt : k < N
      · have hlt' : (k : Int) < N := by omega
        have hkL : (k : Int) < L.length := by have := HLL.out; omega
        have hkO : (k : Int) < O.length := by have := HLO.out; omega
        obtain ⟨z, hz⟩ : ∃ z, z = L.getD k 0 := ⟨_, rfl⟩
        obtain ⟨y, hy⟩ : ∃ y, y = O.getD k 0 := ⟨_, rfl⟩
        have hcv := (HBW.out.cell (p := ⟨bx, ox + k, none⟩) HCX.out.2).trans (HCX.out.1 k hlt)
        have hco := (HBW.out.cell (p := ⟨bp, op + k, none⟩) HCP.out.2).trans (HCP.out.1 k hlt)
        rw [← hz] at hcv
        rw [← hy] at hco
        have hon := HON.out k hlt
        rw [← hz, ← hy] at hon
        have HON2 := Lib.hid hon
        have HZ := Lib.hid hz
        have HY := Lib.hid hy
        have HXY := Lib.hid (And.intro hcv (And.intro hco (And.intro (Nat.lt_of_lt_of_le HCX.out.2 sW) (Nat.lt_of_lt_of_le HCP.out.2 sW))))
        have HGB := Lib.hid (And.intro qg0_r (And.intro qg1_r zg_r))
        obtain ⟨w50, hw50⟩ : ∃ w50, w50 = wr := ⟨_, rfl⟩
        subst hw50
        clear hcv hco hon hz hy
        go_wp2_with fail
        go_loopw [15] (fun c wr => ∃ j : Nat, j ≤ os.length ∧ c = .int .i64 j ∧ Hid (Below w50.heap.size w50 wr)) (fun c _ => os.length - (intOf c).toNat)
        case atStart => exact ⟨0, Nat.zero_le _, rfl, Lib.hid (Below.refl _ _)⟩
        case round =>
          obtain ⟨j, hj, rfl, HBJ⟩ := hrel
          by_cases hjl : j < os.length
          · have hjl' : (j : Int) < os.length := by omega
            have hur := HUR.out.keep (bel_trans HBW.out HBJ.out)
            obtain ⟨bu, ou, cu, hue, hbu, hcu⟩ := hur.at hjl
            injection hue with hu1 hu2 hu3
            clear hu2
            subst hu1
            subst hu3
            obtain ⟨x, hx⟩ : ∃ x, x = os.getD j 0 := ⟨_, rfl⟩
            have hcx := hcu j hjl
            rw [← hx] at hcx
            have hvq := HVO.out x (by rw [hx]; exact HXM.out j hjl)
            have hbb := HBB.out j k hjl hlt
            have heq := HEQ.out j k hjl hlt
            have hvl := HVL.out x
            rw [← hx, ← HZ.out] at hbb
            rw [← hx, ← HZ.out, ← HY.out] at heq
            generalize vwS m es N x = R at hvq hbb heq hvl
            have HVQ := Lib.hid hvq
            have HRL := Lib.hid hvl
            have hold : ∀ w' : World, Below wr.heap.size wr w' → (w'.cell? ⟨w1.heap.size, 0, none⟩ = some (.int .i64 N) ∧ w'.cell? ⟨w1.heap.size, 1, none⟩ = some (.slice va es.length vc) ∧ w'.cell? ⟨bu, ou + j, none⟩ = some (.int .i64 x)) := fun w' h => ⟨((bel_trans HBJ.out h).cell (p := ⟨w1.heap.size, 0, none⟩) HGB.out.2.2).trans HGB.out.1, ((bel_trans HBJ.out h).cell (p := ⟨w1.heap.size, 1, none⟩) HGB.out.2.2).trans HGB.out.2.1, (h.cell (p := ⟨bu, ou + j, none⟩) hbu).trans hcx⟩
            have HOLD := Lib.hid hold
            have HGR := Lib.hid (RowE.keep G_7.out.edges (bel_trans HBW.out HBJ.out))
            clear hold hvq hvl hcx hcu hbu hur hx qg0_r qg1_r
            obtain ⟨j0, j1, j2⟩ := HOLD.out _ (Below.refl _ _)
            go_upto_region 15 with fail
            go_cut [16, 17] from 86 to 135 (fun p c wx => BoxInV wr wx m x R p ∧ c = .bool true)
            · go_region_held3 (fun w' : World => w'.cell? ⟨w1.heap.size, 0, none⟩ = some (.int .i64 N) ∧ w'.cell? ⟨w1.heap.size, 1, none⟩ = some (.slice va es.length vc) ∧ w'.cell? ⟨bu, ou + j, none⟩ = some (.int .i64 x)) (exact HOLD.out _ (by repeat' (first | with_reducible exact Below.refl _ _ | with_reducible apply b_alloc | with_reducible apply b_drew | with_reducible apply b_set | (refine @bel_trans _ ?_ _ ?_ ?_; rotate_right; with_reducible assumption)))) (first | (go_at_call 25; (with_reducible refine (HVQ.out _ _ (HGR.out.keep (by repeat' (first | with_reducible exact Below.refl _ _ | with_reducible apply b_alloc | with_reducible apply b_drew | with_reducible apply b_set | (refine @bel_trans _ ?_ _ ?_ ?_; rotate_right; with_reducible assumption))))).mono ?_); rintro e wC ⟨v, rfl, hown, hokv, hbC⟩; obtain ⟨va2, vc2, rfl⟩ := hown.slice; (try (refine (fun (zz : wr.heap.size < wC.heap.size) => ?_) (Nat.lt_of_lt_of_le ?_ hbC.size); rotate_right; (first | with_reducible assumption | (simp <;> omega)))); (try (refine (fun (cc : wC.cell? ⟨wr.heap.size, 0, none⟩ = some (.int .i64 0)) => ?_) ((hbC.cell (p := ⟨wr.heap.size, 0, none⟩) ?_).trans ?_); rotate_left; (first | with_reducible assumption | (simp <;> omega)); (first | with_reducible assumption | (focus (go_simp; done))))); (try (refine (fun (cc : wC.frozen? ⟨wr.heap.size, 0, none⟩ = false) => ?_) ((hbC.frozen (p := ⟨wr.heap.size, 0, none⟩) ?_).trans ?_); rotate_left; (first | with_reducible assumption | (simp <;> omega)); (first | with_reducible assumption | (focus (go_simp; done))))); (try (refine (fun (cc : wC.cell? ⟨wr.heap.size, 1, none⟩ = some (.int .i64 0)) => ?_) ((hbC.cell (p := ⟨wr.heap.size, 1, none⟩) ?_).trans ?_); rotate_left; (first | with_reducible assumption | (simp <;> omega)); (first | with_reducible assumption | (focus (go_simp; done))))); (try (refine (fun (cc : wC.frozen? ⟨wr.heap.size, 1, none⟩ = false) => ?_) ((hbC.frozen (p := ⟨wr.heap.size, 1, none⟩) ?_).trans ?_); rotate_left; (first | with_reducible assumption | (simp <;> omega)); (first | with_reducible assumption | (focus (go_simp; done))))); (try (refine (fun (cc : wC.cell? ⟨wr.heap.size, 2, none⟩ = some (.slice none 0 0)) => ?_) ((hbC.cell (p := ⟨wr.heap.size, 2, none⟩) ?_).trans ?_); rotate_left; (first | with_reducible assumption | (simp <;> omega)); (first | with_reducible assumption | (focus (go_simp; done))))); (try (refine (fun (cc : wC.frozen? ⟨wr.heap.size, 2, none⟩ = false) => ?_) ((hbC.frozen (p := ⟨wr.heap.size, 2, none⟩) ?_).trans ?_); rotate_left; (first | with_reducible assumption | (simp <;> omega)); (first | with_reducible assumption | (focus (go_simp; done)))))))
              all_goals
                go_wp2_with fail
                go_meet
                first | (refine ⟨?_, rfl⟩; apply box_endV; (case ho => with_reducible assumption); (case hc => with_reducible assumption); (case hb => repeat' (first | with_reducible exact Below.refl _ _ | with_reducible apply b_alloc | with_reducible apply b_drew | with_reducible apply b_set | (refine @bel_trans _ ?_ _ ?_ ?_; rotate_right; with_reducible assumption))); done) | (refine ⟨?_, rfl⟩; apply box_midV (T := 28) (M0 := 0) (A0 := 0) (v0 := .slice none 0 0); (case ho => with_reducible assumption); (case hc => with_reducible assumption); (case hb => repeat' (first | with_reducible exact Below.refl _ _ | with_reducible apply b_alloc | with_reducible apply b_drew | with_reducible apply b_set | (refine @bel_trans _ ?_ _ ?_ ?_; rotate_right; with_reducible assumption))); (case hx => repeat' (first | with_reducible exact Below.refl _ _ | with_reducible apply b_alloc | with_reducible apply b_drew | with_reducible apply b_set | (refine @bel_trans _ ?_ _ ?_ ?_; rotate_right; with_reducible assumption))); done)
            obtain ⟨w70, hw70⟩ : ∃ w70, w70 = wc := ⟨_, rfl⟩
            subst hw70
            obtain ⟨⟨g9, va9, vc9, lo9, hi9, rfl, ⟨y0, y1, y2⟩, hrow9, ⟨hge9, hlt9⟩, ⟨hlo9, hhi9⟩, hdj9, hb70⟩, rfl⟩ := hcut
            have hkR : k < R.length := by have := HRL.out; omega
            have hkR' : (k : Int) < R.length := by omega
            obtain ⟨br, orr, cr, hre, hbr, hcr⟩ := (InR.rowI hrow9).at hkR
            injection hre with hr1 hr2 hr3
            clear hr2
            subst hr1
            subst hr3
            have hck := hcr k hkR
            obtain ⟨q, hq⟩ : ∃ q, q = R.getD k 0 := ⟨_, rfl⟩
            rw [← hq] at hck hbb heq
            have hff : ∀ w' : World, Below w70.heap.size w70 w' → w'.cell? ⟨g9, 2, none⟩ = some (.slice (some ⟨br, orr, none⟩) R.length vc9) ∧ w'.cell? ⟨br, orr + k, none⟩ = some (.int .i64 q) ∧ w'.cell? ⟨bx, ox + k, none⟩ = some (.int .i64 z) ∧ w'.cell? ⟨bp, op + k, none⟩ = some (.int .i64 y) ∧ w'.cell? ⟨bu, ou + j, none⟩ = some (.int .i64 x) := fun w' h => ⟨(h.cell (p := ⟨g9, 2, none⟩) hlt9).trans y2, (h.cell (p := ⟨br, _, none⟩) hbr).trans hck, ((bel_trans (bel_trans HBJ.out hb70) h).cell (p := ⟨bx, _, none⟩) HXY.out.2.2.1).trans HXY.out.1, ((bel_trans (bel_trans HBJ.out hb70) h).cell (p := ⟨bp, _, none⟩) HXY.out.2.2.2).trans HXY.out.2.1, (HOLD.out _ (bel_trans hb70 h)).2.2⟩
            have hib := fun w => iIsBetter m q z w
            rw [hbb] at hib
            have FF := Lib.hid hff
            have HIB := Lib.hid hib
            have HB70 := Lib.hid hb70
            clear hff hib hbb hck hcr hbr hrow9 y0 y1 y2 hq hge9 hlt9 hlo9 hhi9 hdj9 hb70 j0 j1 j2 hkR
            by_cases hyx : y = x
            · have d1 : (y == x) = true := by simpa using hyx
              have d2 : (q != z) = false := by simpa using heq hyx
              clear hyx heq
              go_wp2_with fail
              refine wp_region_below (by kernel_rfl) (by kernel_rfl) ?_
              repeat (go_big_quiet_step ((intro hw; first | with_reducible rfl | (obtain ⟨f0, f1, f2, f3, f4⟩ := FF.out _ hw; simp only [f0, f1, f2, f3, f4, Result.andThen]; first | exact ⟨trivial, rfl⟩ | exact ⟨rfl, rfl⟩) | (go_at_call 19; with_reducible exact quietB (HIB.out _) hw))))
              refine wpQuiet_nil ?_
              intro w81 hb81
              have HB81 := Lib.hid (bel_trans HBJ.out (bel_trans HB70.out hb81))
              clear hb81
              go_wp2
              go_roundw
              case rel => first | exact ⟨j + 1, by omega, by go_num, HB81⟩ | exact ⟨_, ⟨j + 1, by omega, by go_num, HB81⟩, rfl⟩ | ((repeat apply Exists.intro); exact ⟨⟨j + 1, by omega, by go_num, HB81⟩, rfl⟩)
              case measure => simp [intOf]; omega
            · have d1 : (y == x) = false := by simpa using hyx
              clear hyx heq
              go_wp2_with fail
              refine wp_region_below (by kernel_rfl) (by kernel_rfl) ?_
              repeat (go_big_quiet_step ((intro hw; first | with_reducible rfl | (obtain ⟨f0, f1, f2, f3, f4⟩ := FF.out _ hw; simp only [f0, f1, f2, f3, f4, Result.andThen]; first | exact ⟨trivial, rfl⟩ | exact ⟨rfl, rfl⟩) | (go_at_call 19; with_reducible exact quietB (HIB.out _) hw))))
              refine wpQuiet_nil ?_
              intro w81 hb81
              have HB81 := Lib.hid (bel_trans HBJ.out (bel_trans HB70.out hb81))
              clear hb81
              go_wp2
              go_roundw
              case rel => first | exact ⟨j + 1, by omega, by go_num, HB81⟩ | exact ⟨_, ⟨j + 1, by omega, by go_num, HB81⟩, rfl⟩ | ((repeat apply Exists.intro); exact ⟨⟨j + 1, by omega, by go_num, HB81⟩, rfl⟩)
              case measure => simp [intOf]; omega
          · have hjj : ¬ ((j : Int) < os.length) := by omega
            have hff : ∀ w' : World, Below wr.heap.size wr w' → w'.cell? ⟨bx, ox + k, none⟩ = some (.int .i64 z) ∧ w'.cell? ⟨bp, op + k, none⟩ = some (.int .i64 y) := fun w' h => ⟨((bel_trans HBJ.out h).cell (p := ⟨bx, _, none⟩) HXY.out.2.2.1).trans HXY.out.1, ((bel_trans HBJ.out h).cell (p := ⟨bp, _, none⟩) HXY.out.2.2.2).trans HXY.out.2.1⟩
            have FF := Lib.hid hff
            have hgi := fun w' (h : Below wr.heap.size wr w') => gvIn os y _ w' (HUR.out.keep (bel_trans (bel_trans HBW.out HBJ.out) h)) (by omega)
            clear hff
            rcases HON2.out with h9 | h9
            · have d1 : (y == -1) = true := by simpa using h9.1
              have d2 : (z == NO) = true := by simpa using h9.2
              have d3 : decide (0 ≤ y) = false := by have := h9.1; simp; omega
              have HGI := Lib.hid hgi
              clear h9 hgi
              go_wp2_with fail
              refine wp_region_below (by kernel_rfl) (by kernel_rfl) ?_
              repeat (go_big_quiet_step ((intro hw; first | with_reducible rfl | (obtain ⟨f0, f1⟩ := FF.out _ hw; simp only [f0, f1, Result.andThen]; first | exact ⟨trivial, rfl⟩ | exact ⟨rfl, rfl⟩) | (go_at_call 18; with_reducible exact quietB (HGI.out _ hw) hw))))
              refine wpQuiet_nil ?_
              intro w81 hb81
              have HB81 := Lib.hid (bel_trans HBJ.out hb81)
              clear hb81
              go_wp2
              go_roundw
              case rel => first | exact ⟨k + 1, by omega, by go_num, Lib.hid (bel_trans HBW.out HB81.out)⟩ | exact ⟨_, ⟨k + 1, by omega, by go_num, Lib.hid (bel_trans HBW.out HB81.out)⟩, rfl⟩
              case measure => simp [intOf]; omega
            · have d1 : (y == -1) = false := by have := h9.1; simp; omega
              have d2 : (z == NO) = false := by simpa using h9.2.2
              have d3 : decide (0 ≤ y) = true := by simpa using h9.1
              rw [h9.2.1] at hgi
              have HGI := Lib.hid hgi
              clear h9 hgi
              go_wp2_with fail
              refine wp_region_below (by kernel_rfl) (by kernel_rfl) ?_
              repeat (go_big_quiet_step ((intro hw; first | with_reducible rfl | (obtain ⟨f0, f1⟩ := FF.out _ hw; simp only [f0, f1, Result.andThen]; first | exact ⟨trivial, rfl⟩ | exact ⟨rfl, rfl⟩) | (go_at_call 18; with_reducible exact quietB (HGI.out _ hw) hw))))
              refine wpQuiet_nil ?_
              intro w81 hb81
              have HB81 := Lib.hid (bel_trans HBJ.out hb81)
              clear hb81
              go_wp2
              go_roundw
              case rel => first | exact ⟨k + 1, by omega, by go_num, Lib.hid (bel_trans HBW.out HB81.out)⟩ | exact ⟨_, ⟨k + 1, by omega, by go_num, Lib.hid (bel_trans HBW.out HB81.out)⟩, rfl⟩
              case measure => simp [intOf]; omega
      · have hkk : ¬ ((k : Int) < N) := by omega
        go_wp2
        go_ret
        exact ⟨by first | rfl | simp, bel_trans H7 HBW.out⟩

set_option maxRecDepth 100000 in
theorem lifted (os : Os) (started : os.Started) (H : Type) (enc : TypeId × Value → H) :
    ReturnsInHanded {} Try.checked os 6 .any (Rows.fnNearestOfSpec.pre6 enc Try.prog Try.f6 Rows.fnNearestOfRow.domain false) (Rows.fnNearestOfSpec.post enc Try.prog Try.f6 false true false false) := by
  refine returnsInHanded_of_change (C := Try.checked) own started (by kernel_rfl) Try.func6
    (ChangeSpec.witness6 (enc := enc) (C := Try.checked) false ⟨#[], #[.slice none 0 0], []⟩ 8 (by kernel_rfl) (by kernel_rfl) (by kernel_rfl) (by kernel_rfl)) ?_
  intro W base args ds gs before hval0 hW hcnd _
  have hval : ∀ (j : Nat) t v, Try.f6.params[j]? = some t → args[j]? = some v → Value.okWide Try.prog W .any base t v := hval0
  have hW' := hW
  obtain ⟨p, q, hA0, hV, rfl, hfz, hnd⟩ := hW
  have hA : DataW.TrodAll enc Try.prog W 0 (fun _ => true) true Try.f6.params.toList args.toList ds p := hA0
  rw [Try.params6] at hA hval
  obtain ⟨v0, vs0, d0, ds0, p0, q0, hargs, rfl, rfl, h0, r0⟩ := trodAll_cons hA
  obtain ⟨rfl, rfl, rfl⟩ := trodAll_nil r0
  obtain rfl : args = #[v0] := by cases args; simp_all
  obtain ⟨rfl, rfl⟩ := trodVars_none hV
  obtain ⟨a0, len0, cap0, rfl⟩ := okWide_slice Try.underlying22 (hval 0 22 v0 rfl rfl)
  have k0 := h0
  have lt0 : ∀ x ∈ p0, x.block < W.heap.size := by obtain ⟨m, hm⟩ := k0; exact DataW.trod_lt m _ _ _ hm
  obtain ⟨z0, w0⟩ : ∃ zs, IsRow .u8 W a0 len0 cap0 zs := by
    obtain ⟨fuel, hf⟩ := h0
    rcases open_ints Try.underlying22 Try.underlying5 (by kernel_rfl) hf with ⟨hcs, _⟩ | ⟨x, l, c, zs, hcs, _, hl, hm, hz, _, hcell, hwz⟩
    · simp [Value.cells] at hcs
      obtain ⟨rfl, rfl, rfl⟩ := hcs
      exact ⟨[], .inl ⟨rfl, rfl, rfl, rfl⟩⟩
    · simp [Value.cells] at hcs
      obtain ⟨rfl, rfl, rfl⟩ := hcs
      exact ⟨zs, .inr ⟨_, rfl, hl, hm, by simpa using hz, hcell, hwz⟩⟩
  clear hA0 hval0
  refine (walk a0 len0 cap0 z0 W w0).mono fun e W' ⟨he, bel⟩ => ?_
  subst he
  exact ⟨_, rfl, _, _, _, [], _, [], hW', trodAll_mk1 (shut_bool Try.underlying4 _), (trodAll_cons_mk (Below.trod laidOut (by kernel_rfl) (of_decide_eq_true (by kernel_rfl)) k0 bel lt0) trodAll_mk0), rfl, bel.frame _, fun h => by cases h⟩

theorem over : Rows.fnNearestOfRow.holds Try.pinned (OpenSpec.ofChange Rows.fnNearestOfSpec) :=
  OpenClaim.holds_of_wide 6 Try.f6 rfl rfl rfl rfl rfl rfl rfl ⟨rfl, rfl, rfl, rfl, rfl⟩ rfl rfl rfl rfl rfl (by kernel_rfl) Try.func6 (by kernel_rfl)
    (of_decide_eq_true (by kernel_rfl)) (by unfold Func.isWrapper; first | (rw [if_pos (by decide +kernel)]; kernel_rfl) | (rw [if_neg (by decide +kernel)]; exact ⟨rfl, rfl⟩))
    (fun os started H enc _ => lifted os started H enc)

theorem proved : Rows.FnNearestOfSaid := over
end Go.Proofs.Ytbinpaaihdcnlaa.fnNearestOf
