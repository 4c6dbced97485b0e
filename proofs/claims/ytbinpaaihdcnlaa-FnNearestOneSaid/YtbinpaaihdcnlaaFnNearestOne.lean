/-
  Proved: with more sources no value is worse, and with one source the values are those of its view (the law FnNearestOne returns true for every input and leaves it as it was), with no further condition.
-/
import Derived.Test.YtbinpaaihdcnlaaRows
import Derived.Test.YtbinpaaihdcnlaaDrawN
import Derived.Test.YtbinpaaihdcnlaaNearL
import Derived.Test.YtbinpaaihdcnlaaViewT
import Derived.Test.YtbinpaaihdcnlaaGvInts
import Derived.Test.YtbinpaaihdcnlaaImpl2
import Derived.Test.YtbinpaaihdcnlaaStartL
import Derived.Test.YtbinpaaihdcnlaaRight
import Derived.WalkKit
import Derived.ProofKit
import Derived.OpenShut
import Derived.ShutString
import Derived.ChangeOld
import Derived.Below
namespace Go.Proofs.Ytbinpaaihdcnlaa.fnNearestOne
open Go.Proofs.Ytbinpaaihdcnlaa Go.BigFrame
open Go.ChangeShapes Go.WideShapes Go.ChangeAt Go.RowKit
open Go.ChangeMaps (open_string shut_string)
set_option linter.unusedVariables false

theorem own : ownKnob Try.prog.godebug = none := by kernel_rfl
theorem laidOut : laidOutB Try.prog = true := by kernel_rfl

def IsRow (k : IntKind) (w : World) (a : Option Addr) (len cap : Nat) (zs : List Int) : Prop :=
  (a = none ∧ len = 0 ∧ cap = 0 ∧ zs = []) ∨
  ∃ x, a = some x ∧ len ≤ cap ∧ cap ≤ maxLen ∧ zs.length = cap ∧ (∀ i, i < zs.length → w.cell? (x.add i) = some (.int k (zs.getD i 0))) ∧ ∀ n ∈ zs, (Lit.int k n).wf = true

theorem bytes_of {w : World} {a : Option Addr} {len cap : Nat} {zs : List Int} (h : IsRow .u8 w a len cap zs) : Bytes w a len ∧ len ≤ cap ∧ len ≤ 9223372036854775807 := by
  rcases h with ⟨rfl, rfl, rfl, rfl⟩ | ⟨x, rfl, hl, hm, hz, hc, hw⟩
  · exact ⟨.inl rfl, Nat.le_refl _, by omega⟩
  · unfold maxLen at hm
    refine ⟨?_, hl, by omega⟩
    by_cases h0 : len = 0
    · exact .inl h0
    · obtain ⟨b, off, rfl, hc'⟩ := ints_at hc (by omega)
      exact .inr ⟨b, off, rfl, World.block_lt_of_cell? _ _ (hc' 0 (by omega)), fun i hi => ⟨zs[i]?.getD 0, (range_u8 hw i).1, (range_u8 hw i).2, hc' i (by omega)⟩⟩

set_option maxRecDepth 100000 in
set_option maxHeartbeats 4000000 in
theorem walk (a0 : Option Addr) (len0 cap0 : Nat) (z0 : List Int) (w : World) (w0 : IsRow .u8 w a0 len0 cap0 z0) :
    Calls Try.prog 5 #[.slice a0 len0 cap0] w fun e w' => e = .returned (.bool true) ∧ Below w.heap.size w w' := by
  obtain ⟨hby, hcp, hn⟩ := bytes_of w0
  have HB0 := Lib.hid hby
  clear hby w0
  by_cases h0 : 1048576 < len0
  · go_enter Try.func5, Try.ntmps5
    go_wp2
    go_ret
    exact ⟨rfl, Below.refl _ _⟩
  have h0' : len0 ≤ 1048576 := by omega
  clear h0
  obtain ⟨w0, hw0⟩ : ∃ w0, w0 = w := ⟨_, rfl⟩
  subst hw0
  have H0 := Below.refl w0.heap.size w0
  go_enter Try.func5, Try.ntmps5
  go_wp2_with fail
  refine (dDrawNearestOf a0 len0 cap0 _ HB0.out hcp (by omega)).mono ?_
  rintro e w1 ⟨n, es, v, m, os, u, SS, rfl, hle, hrG, hrU, hb1⟩
  have H1 := bel_trans H0 hb1
  have SZ1 := Lib.hid hb1.size
  obtain ⟨va, vc, rfl, hz9⟩ := id hrG.1
  obtain ⟨ua, uc, rfl⟩ := own_slice hrU.2.2
  have HOKU := Lib.hid (own_ok hrU.2.2)
  clear hz9
  have G_1 := Lib.hid (hrG.1.wider (Nat.le_refl _) hrU.2.1 (Nat.le_refl _))
  have U_1 := Lib.hid (show InR true w1 w0.heap.size w1.heap.size _ os.length 1 (cellI os) from OwnV.of hrU.2.2 (by have := hrU.1; omega))
  have hle1 := hle.1
  have hle2 := hle.2
  clear hrG hrU hle
  go_wp2_with fail
  have hb2 : Below w1.heap.size w1 (w1.alloc (.cells #[.int .i64 n, .slice va es.length vc] 25)) := (Below.refl _ _).alloc (by simp <;> omega) _
  have H2 := bel_trans H1 hb2
  have SZ2 := Lib.hid hb2.size
  have G_2 := Lib.hid (G_1.out.keep hb2)
  have U_2 := Lib.hid (U_1.out.keep hb2)
  have qg0_2 : (w1.alloc (.cells #[.int .i64 n, .slice va es.length vc] 25)).cell? ⟨w1.heap.size, 0, none⟩ = some (.int .i64 n) := by go_simp
  have qg1_2 : (w1.alloc (.cells #[.int .i64 n, .slice va es.length vc] 25)).cell? ⟨w1.heap.size, 1, none⟩ = some (.slice va es.length vc) := by go_simp
  have zg_2 : w1.heap.size < (w1.alloc (.cells #[.int .i64 n, .slice va es.length vc] 25)).heap.size := by simp <;> omega
  generalize (w1.alloc (.cells #[.int .i64 n, .slice va es.length vc] 25)) = w2 at hb2 H2 SZ2 G_2 U_2 qg0_2 qg1_2 zg_2 ⊢
  have ZBg := Lib.hid zg_2
  clear G_1 U_1
  have hle3 : es.length ≤ 281474976710656 := by omega
  have hlo : os.length ≤ 281474976710656 := by omega
  have hst := fun s t w (h : RowE w s es) (k : Row w t os) => nearestOf n m es os s t w h k hle3 hlo
  have hss := fun s t w (h : RowE w s es) (k : Row w t os) (q : okS t) => sNearestOf n m es os s t w h k q hle3 hlo
  cases hk : nfB n es m os
  · rw [show nfV n es m os = [] by unfold nfV; rw [hk]; rfl, show nfO n es m os = [] by unfold nfO; rw [hk]; rfl, hk] at hst hss
    have HST := Lib.hid hst
    have HSS := Lib.hid hss
    clear hst hss hk
    go_wp2_with fail
    refine (HST.out _ _ _ G_2.out.edges U_2.out.rowI).mono ?_
    rintro e w3 ⟨vx, vp, mid, rfl, hv, hu, hmid, hb3⟩
    have H3 := bel_trans H2 hb3
    have SZ3 := Lib.hid hb3.size
    have qg0_3 := (hb3.cell (p := ⟨w1.heap.size, 0, none⟩) zg_2).trans qg0_2
    have qg1_3 := (hb3.cell (p := ⟨w1.heap.size, 1, none⟩) zg_2).trans qg1_2
    have zg_3 := Nat.lt_of_lt_of_le zg_2 hb3.size
    have G_3 := Lib.hid (G_2.out.keep hb3)
    have U_3 := Lib.hid (U_2.out.keep hb3)
    obtain ⟨ax, cx, rfl, hz9⟩ := id hv
    obtain ⟨ap, cp, rfl, hz8⟩ := id hu
    clear hz9 hz8
    have X_3 := Lib.hid (show InR true w3 w2.heap.size w3.heap.size _ ([] : List Int).length 1 (cellI ([] : List Int)) from hv.wider (Nat.le_refl _) hmid.2 (Nat.le_refl _))
    clear qg0_2 zg_2 G_2 qg1_2 U_2
    have P_3 := Lib.hid (show InR true w3 w2.heap.size w3.heap.size _ ([] : List Int).length 1 (cellI ([] : List Int)) from hu.wider hmid.1 (Nat.le_refl _) (Nat.le_refl _))
    clear hv hu hmid
    go_wp2_with fail
    refine (HSS.out _ _ _ G_3.out.edges U_3.out.rowI HOKU.out).mono ?_
    rintro e w4 ⟨vy, vq, rfl, hv, hu, hb4⟩
    have H4 := bel_trans H3 hb4
    have SZ4 := Lib.hid hb4.size
    have qg0_4 := (hb4.cell (p := ⟨w1.heap.size, 0, none⟩) zg_3).trans qg0_3
    have qg1_4 := (hb4.cell (p := ⟨w1.heap.size, 1, none⟩) zg_3).trans qg1_3
    have zg_4 := Nat.lt_of_lt_of_le zg_3 hb4.size
    have G_4 := Lib.hid (G_3.out.keep hb4)
    have U_4 := Lib.hid (U_3.out.keep hb4)
    have X_4 := Lib.hid (X_3.out.keep hb4)
    have P_4 := Lib.hid (P_3.out.keep hb4)
    obtain ⟨ay, cy, rfl, hz9⟩ := id hv
    obtain ⟨aq, cq, rfl, hz8⟩ := id hu
    clear hz9 hz8
    have Y_4 := Lib.hid (show InR true w4 w3.heap.size w4.heap.size _ ([] : List Int).length 1 (cellI ([] : List Int)) from hv)
    clear qg0_3 qg1_3 zg_3 G_3 U_3 X_3 P_3
    have Q_4 := Lib.hid (show InR true w4 w3.heap.size w4.heap.size _ ([] : List Int).length 1 (cellI ([] : List Int)) from hu)
    clear hv hu
    go_wp2_with fail
    refine (gvInts ([] : List Int) _ _ _ X_4.out.ints Y_4.out.ints (by simp)).mono ?_
    rintro e w5 ⟨rfl, hb5⟩
    have H5 := bel_trans H4 hb5
    have SZ5 := Lib.hid hb5.size
    have qg0_5 := (hb5.cell (p := ⟨w1.heap.size, 0, none⟩) zg_4).trans qg0_4
    have qg1_5 := (hb5.cell (p := ⟨w1.heap.size, 1, none⟩) zg_4).trans qg1_4
    have zg_5 := Nat.lt_of_lt_of_le zg_4 hb5.size
    have G_5 := Lib.hid (G_4.out.keep hb5)
    have U_5 := Lib.hid (U_4.out.keep hb5)
    have X_5 := Lib.hid (X_4.out.keep hb5)
    have P_5 := Lib.hid (P_4.out.keep hb5)
    have Y_5 := Lib.hid (Y_4.out.keep hb5)
    have Q_5 := Lib.hid (Q_4.out.keep hb5)
    clear qg0_4 qg1_4 zg_4 G_4 U_4 X_4 P_4 Y_4 Q_4
    go_wp2_with fail
    refine (gvInts ([] : List Int) _ _ _ P_5.out.ints Q_5.out.ints (by simp)).mono ?_
    rintro e w6 ⟨rfl, hb6⟩
    have H6 := bel_trans H5 hb6
    have SZ6 := Lib.hid hb6.size
    have qg0_6 := (hb6.cell (p := ⟨w1.heap.size, 0, none⟩) zg_5).trans qg0_5
    have qg1_6 := (hb6.cell (p := ⟨w1.heap.size, 1, none⟩) zg_5).trans qg1_5
    have zg_6 := Nat.lt_of_lt_of_le zg_5 hb6.size
    have G_6 := Lib.hid (G_5.out.keep hb6)
    have U_6 := Lib.hid (U_5.out.keep hb6)
    have X_6 := Lib.hid (X_5.out.keep hb6)
    have P_6 := Lib.hid (P_5.out.keep hb6)
    have Y_6 := Lib.hid (Y_5.out.keep hb6)
    have Q_6 := Lib.hid (Q_5.out.keep hb6)
    clear qg0_5 qg1_5 zg_5 G_5 U_5 X_5 P_5 Y_5 Q_5
    go_wp2_with fail
    refine (gvInts ([] : List Int) _ _ _ X_6.out.ints Y_6.out.ints (by simp)).mono ?_
    rintro e w7 ⟨rfl, hb7⟩
    have H7 := bel_trans H6 hb7
    have SZ7 := Lib.hid hb7.size
    have qg0_7 := (hb7.cell (p := ⟨w1.heap.size, 0, none⟩) zg_6).trans qg0_6
    have qg1_7 := (hb7.cell (p := ⟨w1.heap.size, 1, none⟩) zg_6).trans qg1_6
    have zg_7 := Nat.lt_of_lt_of_le zg_6 hb7.size
    have G_7 := Lib.hid (G_6.out.keep hb7)
    have U_7 := Lib.hid (U_6.out.keep hb7)
    have X_7 := Lib.hid (X_6.out.keep hb7)
    have P_7 := Lib.hid (P_6.out.keep hb7)
    have Y_7 := Lib.hid (Y_6.out.keep hb7)
    have Q_7 := Lib.hid (Q_6.out.keep hb7)
    clear qg0_6 qg1_6 zg_6 G_6 U_6 X_6 P_6 Y_6 Q_6
    go_wp2_with fail
    refine (gvInts ([] : List Int) _ _ _ P_7.out.ints Q_7.out.ints (by simp)).mono ?_
    rintro e w8 ⟨rfl, hb8⟩
    have H8 := bel_trans H7 hb8
    have SZ8 := Lib.hid hb8.size
    have qg0_8 := (hb8.cell (p := ⟨w1.heap.size, 0, none⟩) zg_7).trans qg0_7
    have qg1_8 := (hb8.cell (p := ⟨w1.heap.size, 1, none⟩) zg_7).trans qg1_7
    have zg_8 := Nat.lt_of_lt_of_le zg_7 hb8.size
    have G_8 := Lib.hid (G_7.out.keep hb8)
    have U_8 := Lib.hid (U_7.out.keep hb8)
    have X_8 := Lib.hid (X_7.out.keep hb8)
    have P_8 := Lib.hid (P_7.out.keep hb8)
    have Y_8 := Lib.hid (Y_7.out.keep hb8)
    have Q_8 := Lib.hid (Q_7.out.keep hb8)
    clear qg0_7 qg1_7 zg_7 G_7 U_7 X_7 P_7 Y_7 Q_7
    go_wp2
    go_ret
    exact ⟨by first | rfl | simp, H8⟩
  · have hk2 := hk
    simp only [nfB, Bool.and_eq_true] at hk2
    have hp := onOk_parts hk2.1
    have hgv := hp.1
    have hnn := gVal_n hgv
    have h40 := (gVal_parts hgv).2.2.1
    have hmk := hp.2.2
    have hnd := ndB_iff.1 hk2.2.2
    have hpos : 0 < os.length := by have := hk2.2.1; simp at this; exact List.length_pos_iff.2 this
    obtain ⟨N, hN⟩ : ∃ N : Nat, n = N := ⟨n.toNat, by omega⟩
    subst hN
    have hN12 : N ≤ 12 := by omega
    obtain ⟨x, hx⟩ : ∃ x, x = os.getD 0 0 := ⟨_, rfl⟩
    obtain ⟨r, hr⟩ : ∃ r, os = x :: r := by rw [hx]; cases os with | nil => simp at hpos | cons y r => exact ⟨r, by simp⟩
    have hxr := inN_iff.1 (hnd.1 x (by rw [hr]; simp))
    have hon1 := onOk_of hgv hxr hmk
    have he := eAll_of hgv
    rw [Int.toNat_natCast] at he
    have hk1 : nfB (N : Int) es m [x] = true := by
      unfold nfB
      rw [hk2.1, ndB_iff.2 ⟨fun y hy => by rw [List.mem_singleton] at hy; subst hy; exact inN_iff.2 hxr, by simp⟩]
      simp
    have hone := fun s t w (h : RowE w s es) (k : Row w t [x]) => nearestOf (N : Int) m es [x] s t w h k hle3 (by simp)
    rw [show nfV (N : Int) es m [x] = vIter m es N (vStart m N x) by unfold nfV; rw [if_pos hk1, Int.toNat_natCast]; exact nrV_one hmk he, show nfO (N : Int) es m [x] = nrO m es N [x] by unfold nfO; rw [if_pos hk1, Int.toNat_natCast], hk1] at hone
    have hvo := fun s w (h : RowE w s es) => viewOf (N : Int) m x es s w h hle3
    rw [show stM (N : Int) es m x = m by unfold stM; rw [if_pos hon1], show stA (N : Int) es m x = x by unfold stA; rw [if_pos hon1], show voL (N : Int) es m x = vIter m es N (vStart m N x) by unfold voL; rw [if_pos hon1, Int.toNat_natCast], hon1] at hvo
    rw [show nfV (N : Int) es m os = nrV m es N os by unfold nfV; rw [if_pos hk, Int.toNat_natCast], show nfO (N : Int) es m os = nrO m es N os by unfold nfO; rw [if_pos hk, Int.toNat_natCast], hk] at hst hss
    have hbb : ∀ k, k < N → bBet m ((vIter m es N (vStart m N x)).getD k 0) ((nrV m es N os).getD k 0) = false := fun k h => by
      have h9 := nrV_le (m := m) (es := es) x r h
      rw [nrV_one hmk he, ← hr] at h9
      unfold bBet
      rw [h9]
      simp
    have hlL := nrV_len m es N os
    have hlO := nrO_len m es N os
    have hlR : (vIter m es N (vStart m N x)).length = N := by rw [vIter_length, vStart_length, Int.toNat_natCast]
    generalize nrV m es N os = L at hst hss hbb hlL
    generalize nrO m es N os = O at hst hss hlO
    generalize vIter m es N (vStart m N x) = R at hone hvo hbb hlR
    generalize nrO m es N [x] = O1 at hone
    obtain ⟨bu, ou, cu, hue, hbu, hcu⟩ := (U_2.out.rowI).at hpos
    injection hue with hu1 hu2 hu3
    clear hu2
    subst hu1
    subst hu3
    have hcx := hcu 0 hpos
    rw [← hx] at hcx
    have hcap := (HOKU.out _ _ _ rfl).1
    have hr1 : ∀ w', Below w2.heap.size w2 w' → Row w' (.slice (some ⟨bu, ou, none⟩) 1 uc) [x] := fun w' h => ⟨_, uc, rfl, .inr ⟨bu, ou, rfl, Nat.lt_of_lt_of_le hbu h.size, fun q hq => by
      have hq0 : q = 0 := by simpa using hq
      subst hq0
      exact (h.cell (p := ⟨bu, ou + 0, none⟩) hbu).trans hcx⟩⟩
    have hcx2 : ∀ w', Below w2.heap.size w2 w' → w'.cell? ⟨bu, ou, none⟩ = some (.int .i64 x) := fun w' h => (h.cell (p := ⟨bu, ou, none⟩) hbu).trans hcx
    have hpos2 : ¬ uc = 0 := by omega
    have hpos3 : 1 ≤ uc := by omega
    have hpos4 : (0 : Int) < os.length := by omega
    have hpos5 : (1 : Int) ≤ uc := by omega
    have HST := Lib.hid hst
    have HSS := Lib.hid hss
    have HONE := Lib.hid hone
    have HVO := Lib.hid hvo
    have HBB := Lib.hid hbb
    have HLL := Lib.hid hlL
    have HLO := Lib.hid hlO
    have HLR := Lib.hid hlR
    have HR1 := Lib.hid hr1
    have HCX2 := Lib.hid hcx2
    have HNN := Lib.hid hnn
    have HS2 := Lib.hid (Below.refl w2.heap.size w2)
    clear hst hss hone hvo hbb hlL hlO hlR hr1 hcx2 hk hk2 hp hgv hmk hnd hx hr hxr hon1 he hk1 hcu hcx hbu hcap
    go_wp2_with fail
    refine (HST.out _ _ _ G_2.out.edges U_2.out.rowI).mono ?_
    rintro e w3 ⟨vx, vp, mid, rfl, hv, hu, hmid, hb3⟩
    have H3 := bel_trans H2 hb3
    have SZ3 := Lib.hid hb3.size
    have qg0_3 := (hb3.cell (p := ⟨w1.heap.size, 0, none⟩) zg_2).trans qg0_2
    have qg1_3 := (hb3.cell (p := ⟨w1.heap.size, 1, none⟩) zg_2).trans qg1_2
    have zg_3 := Nat.lt_of_lt_of_le zg_2 hb3.size
    have G_3 := Lib.hid (G_2.out.keep hb3)
    have U_3 := Lib.hid (U_2.out.keep hb3)
    obtain ⟨ax, cx, rfl, hz9⟩ := id hv
    obtain ⟨ap, cp, rfl, hz8⟩ := id hu
    clear hz9 hz8
    have X_3 := Lib.hid (show InR true w3 w2.heap.size w3.heap.size _ L.length 1 (cellI L) from hv.wider (Nat.le_refl _) hmid.2 (Nat.le_refl _))
    clear qg0_2 zg_2 G_2 qg1_2 U_2
    have P_3 := Lib.hid (show InR true w3 w2.heap.size w3.heap.size _ O.length 1 (cellI O) from hu.wider hmid.1 (Nat.le_refl _) (Nat.le_refl _))
    clear hv hu hmid
    go_wp2_with fail
    refine (HSS.out _ _ _ G_3.out.edges U_3.out.rowI HOKU.out).mono ?_
    rintro e w4 ⟨vy, vq, rfl, hv, hu, hb4⟩
    have H4 := bel_trans H3 hb4
    have SZ4 := Lib.hid hb4.size
    have qg0_4 := (hb4.cell (p := ⟨w1.heap.size, 0, none⟩) zg_3).trans qg0_3
    have qg1_4 := (hb4.cell (p := ⟨w1.heap.size, 1, none⟩) zg_3).trans qg1_3
    have zg_4 := Nat.lt_of_lt_of_le zg_3 hb4.size
    have G_4 := Lib.hid (G_3.out.keep hb4)
    have U_4 := Lib.hid (U_3.out.keep hb4)
    have X_4 := Lib.hid (X_3.out.keep hb4)
    have P_4 := Lib.hid (P_3.out.keep hb4)
    obtain ⟨ay, cy, rfl, hz9⟩ := id hv
    obtain ⟨aq, cq, rfl, hz8⟩ := id hu
    clear hz9 hz8
    have Y_4 := Lib.hid (show InR true w4 w3.heap.size w4.heap.size _ L.length 1 (cellI L) from hv)
    clear qg0_3 qg1_3 zg_3 G_3 U_3 X_3 P_3
    have Q_4 := Lib.hid (show InR true w4 w3.heap.size w4.heap.size _ O.length 1 (cellI O) from hu)
    clear hv hu
    go_wp2_with fail
    refine (gvInts L _ _ _ X_4.out.ints Y_4.out.ints (by have := HLL.out; have := HLO.out; omega)).mono ?_
    rintro e w5 ⟨rfl, hb5⟩
    have H5 := bel_trans H4 hb5
    have SZ5 := Lib.hid hb5.size
    have qg0_5 := (hb5.cell (p := ⟨w1.heap.size, 0, none⟩) zg_4).trans qg0_4
    have qg1_5 := (hb5.cell (p := ⟨w1.heap.size, 1, none⟩) zg_4).trans qg1_4
    have zg_5 := Nat.lt_of_lt_of_le zg_4 hb5.size
    have G_5 := Lib.hid (G_4.out.keep hb5)
    have U_5 := Lib.hid (U_4.out.keep hb5)
    have X_5 := Lib.hid (X_4.out.keep hb5)
    have P_5 := Lib.hid (P_4.out.keep hb5)
    have Y_5 := Lib.hid (Y_4.out.keep hb5)
    have Q_5 := Lib.hid (Q_4.out.keep hb5)
    clear qg0_4 qg1_4 zg_4 G_4 U_4 X_4 P_4 Y_4 Q_4
    go_wp2_with fail
    refine (gvInts O _ _ _ P_5.out.ints Q_5.out.ints (by have := HLL.out; have := HLO.out; omega)).mono ?_
    rintro e w6 ⟨rfl, hb6⟩
    have H6 := bel_trans H5 hb6
    have SZ6 := Lib.hid hb6.size
    have qg0_6 := (hb6.cell (p := ⟨w1.heap.size, 0, none⟩) zg_5).trans qg0_5
    have qg1_6 := (hb6.cell (p := ⟨w1.heap.size, 1, none⟩) zg_5).trans qg1_5
    have zg_6 := Nat.lt_of_lt_of_le zg_5 hb6.size
    have G_6 := Lib.hid (G_5.out.keep hb6)
    have U_6 := Lib.hid (U_5.out.keep hb6)
    have X_6 := Lib.hid (X_5.out.keep hb6)
    have P_6 := Lib.hid (P_5.out.keep hb6)
    have Y_6 := Lib.hid (Y_5.out.keep hb6)
    have Q_6 := Lib.hid (Q_5.out.keep hb6)
    clear qg0_5 qg1_5 zg_5 G_5 U_5 X_5 P_5 Y_5 Q_5
    have HBI : Hid (Below w2.heap.size w2 w6) := Lib.hid ((bel_trans (bel_trans (bel_trans hb3 hb4) hb5) hb6))
    go_wp2_with fail
    have hold : ∀ w' : World, Below w6.heap.size w6 w' → (w'.cell? ⟨w1.heap.size, 0, none⟩ = some (.int .i64 N) ∧ w'.cell? ⟨w1.heap.size, 1, none⟩ = some (.slice va es.length vc)) := fun w' h => ⟨(h.cell (p := ⟨w1.heap.size, 0, none⟩) zg_6).trans qg0_6, (h.cell (p := ⟨w1.heap.size, 1, none⟩) zg_6).trans qg1_6⟩
    have HOLD := Lib.hid hold
    clear hold
    go_region_held3 (fun w' : World => w'.cell? ⟨w1.heap.size, 0, none⟩ = some (.int .i64 N) ∧ w'.cell? ⟨w1.heap.size, 1, none⟩ = some (.slice va es.length vc)) (first | exact HOLD.out _ ((Below.refl _ _).drew) | exact HOLD.out _ (bel_trans ((Below.refl _ _).drew) hb7)) (first | (go_at_call 23; (with_reducible refine (HONE.out _ _ _ (G_6.out.edges.keep ((Below.refl _ _).drew)) (HR1.out _ (bel_trans HBI.out ((Below.refl _ _).drew)))).mono ?_); rintro e w7 ⟨v20, u20, mid20, rfl, hv20, hu20, hmid20, hb7⟩))
    have hq : Below w6.heap.size w6 w7 := (bel_trans ((Below.refl _ _).drew) hb7)
    clear hb7 HOLD 
    have hb7 := hq
    clear hq
    have H7 := bel_trans H6 hb7
    have SZ7 := Lib.hid hb7.size
    have qg0_7 := (hb7.cell (p := ⟨w1.heap.size, 0, none⟩) zg_6).trans qg0_6
    have qg1_7 := (hb7.cell (p := ⟨w1.heap.size, 1, none⟩) zg_6).trans qg1_6
    have zg_7 := Nat.lt_of_lt_of_le zg_6 hb7.size
    have G_7 := Lib.hid (G_6.out.keep hb7)
    have U_7 := Lib.hid (U_6.out.keep hb7)
    have X_7 := Lib.hid (X_6.out.keep hb7)
    have P_7 := Lib.hid (P_6.out.keep hb7)
    have Y_7 := Lib.hid (Y_6.out.keep hb7)
    have Q_7 := Lib.hid (Q_6.out.keep hb7)
    clear qg0_6 qg1_6 zg_6 G_6 U_6 X_6 P_6 Y_6 Q_6
    obtain ⟨az, cz, rfl, hz9⟩ := id hv20
    obtain ⟨az2, cz2, rfl, hz8⟩ := id hu20
    clear hz9 hz8
    have Z_7 := Lib.hid (show InR true w7 w6.heap.size w7.heap.size _ R.length 1 (cellI R) from hv20.wider (Nat.le_refl _) hmid20.2 (Nat.le_refl _))
    clear hv20 hu20 hmid20
    have HBJ : Hid (Below w2.heap.size w2 w7) := Lib.hid (bel_trans HBI.out hb7)
    have hold : ∀ w' : World, Below w7.heap.size w7 w' → (w'.cell? ⟨w1.heap.size, 0, none⟩ = some (.int .i64 N) ∧ w'.cell? ⟨w1.heap.size, 1, none⟩ = some (.slice va es.length vc) ∧ w'.cell? ⟨bu, ou, none⟩ = some (.int .i64 x)) := fun w' h => ⟨(h.cell (p := ⟨w1.heap.size, 0, none⟩) zg_7).trans qg0_7, (h.cell (p := ⟨w1.heap.size, 1, none⟩) zg_7).trans qg1_7, HCX2.out _ (bel_trans HBJ.out h)⟩
    have HOLD := Lib.hid hold
    clear hold
    go_upto_region 9 with fail
    go_cut [15, 16] from 18 (fun p c wx => BoxInV w7 wx m x R p ∧ c = .bool true)
    · go_region_held3 (fun w' : World => w'.cell? ⟨w1.heap.size, 0, none⟩ = some (.int .i64 N) ∧ w'.cell? ⟨w1.heap.size, 1, none⟩ = some (.slice va es.length vc) ∧ w'.cell? ⟨bu, ou, none⟩ = some (.int .i64 x)) (exact HOLD.out _ (by repeat' (first | with_reducible exact Below.refl _ _ | with_reducible apply b_alloc | with_reducible apply b_drew | with_reducible apply b_set | (refine @bel_trans _ ?_ _ ?_ ?_; rotate_right; with_reducible assumption)))) (first | (go_at_call 25; (with_reducible refine (HVO.out _ _ (G_7.out.edges.keep (by repeat' (first | with_reducible exact Below.refl _ _ | with_reducible apply b_alloc | with_reducible apply b_drew | with_reducible apply b_set | (refine @bel_trans _ ?_ _ ?_ ?_; rotate_right; with_reducible assumption))))).mono ?_); rintro e wC ⟨v, rfl, hown, hokv, hbC⟩; obtain ⟨va2, vc2, rfl⟩ := hown.slice; (try (refine (fun (zz : w7.heap.size < wC.heap.size) => ?_) (Nat.lt_of_lt_of_le ?_ hbC.size); rotate_right; (first | with_reducible assumption | (simp <;> omega)))); (try (refine (fun (cc : wC.cell? ⟨w7.heap.size, 0, none⟩ = some (.int .i64 0)) => ?_) ((hbC.cell (p := ⟨w7.heap.size, 0, none⟩) ?_).trans ?_); rotate_left; (first | with_reducible assumption | (simp <;> omega)); (first | with_reducible assumption | (focus (go_simp; done))))); (try (refine (fun (cc : wC.frozen? ⟨w7.heap.size, 0, none⟩ = false) => ?_) ((hbC.frozen (p := ⟨w7.heap.size, 0, none⟩) ?_).trans ?_); rotate_left; (first | with_reducible assumption | (simp <;> omega)); (first | with_reducible assumption | (focus (go_simp; done))))); (try (refine (fun (cc : wC.cell? ⟨w7.heap.size, 1, none⟩ = some (.int .i64 0)) => ?_) ((hbC.cell (p := ⟨w7.heap.size, 1, none⟩) ?_).trans ?_); rotate_left; (first | with_reducible assumption | (simp <;> omega)); (first | with_reducible assumption | (focus (go_simp; done))))); (try (refine (fun (cc : wC.frozen? ⟨w7.heap.size, 1, none⟩ = false) => ?_) ((hbC.frozen (p := ⟨w7.heap.size, 1, none⟩) ?_).trans ?_); rotate_left; (first | with_reducible assumption | (simp <;> omega)); (first | with_reducible assumption | (focus (go_simp; done))))); (try (refine (fun (cc : wC.cell? ⟨w7.heap.size, 2, none⟩ = some (.slice none 0 0)) => ?_) ((hbC.cell (p := ⟨w7.heap.size, 2, none⟩) ?_).trans ?_); rotate_left; (first | with_reducible assumption | (simp <;> omega)); (first | with_reducible assumption | (focus (go_simp; done))))); (try (refine (fun (cc : wC.frozen? ⟨w7.heap.size, 2, none⟩ = false) => ?_) ((hbC.frozen (p := ⟨w7.heap.size, 2, none⟩) ?_).trans ?_); rotate_left; (first | with_reducible assumption | (simp <;> omega)); (first | with_reducible assumption | (focus (go_simp; done)))))))
      all_goals
        go_wp2_with fail
        go_meet
        first | (refine ⟨?_, rfl⟩; apply box_endV; (case ho => with_reducible assumption); (case hc => with_reducible assumption); (case hb => repeat' (first | with_reducible exact Below.refl _ _ | with_reducible apply b_alloc | with_reducible apply b_drew | with_reducible apply b_set | (refine @bel_trans _ ?_ _ ?_ ?_; rotate_right; with_reducible assumption))); done) | (refine ⟨?_, rfl⟩; apply box_midV (T := 28) (M0 := 0) (A0 := 0) (v0 := .slice none 0 0); (case ho => with_reducible assumption); (case hc => with_reducible assumption); (case hb => repeat' (first | with_reducible exact Below.refl _ _ | with_reducible apply b_alloc | with_reducible apply b_drew | with_reducible apply b_set | (refine @bel_trans _ ?_ _ ?_ ?_; rotate_right; with_reducible assumption))); (case hx => repeat' (first | with_reducible exact Below.refl _ _ | with_reducible apply b_alloc | with_reducible apply b_drew | with_reducible apply b_set | (refine @bel_trans _ ?_ _ ?_ ?_; rotate_right; with_reducible assumption))); done)
    obtain ⟨w8, hw8⟩ : ∃ w8, w8 = wc := ⟨_, rfl⟩
    subst hw8
    obtain ⟨⟨g9, va9, vc9, lo9, hi9, rfl, ⟨y0, y1, y2⟩, hrow9, ⟨hge9, hlt9⟩, ⟨hlo9, hhi9⟩, hdj9, hb8⟩, rfl⟩ := hcut
    have H8 := bel_trans H7 hb8
    have SZ8 := Lib.hid hb8.size
    have qg0_8 := (hb8.cell (p := ⟨w1.heap.size, 0, none⟩) zg_7).trans qg0_7
    have qg1_8 := (hb8.cell (p := ⟨w1.heap.size, 1, none⟩) zg_7).trans qg1_7
    have zg_8 := Nat.lt_of_lt_of_le zg_7 hb8.size
    have G_8 := Lib.hid (G_7.out.keep hb8)
    have U_8 := Lib.hid (U_7.out.keep hb8)
    have X_8 := Lib.hid (X_7.out.keep hb8)
    have P_8 := Lib.hid (P_7.out.keep hb8)
    have Y_8 := Lib.hid (Y_7.out.keep hb8)
    have Q_8 := Lib.hid (Q_7.out.keep hb8)
    have Z_8 := Lib.hid (Z_7.out.keep hb8)
    clear qg0_7 qg1_7 zg_7 G_7 U_7 X_7 P_7 Y_7 Q_7 Z_7
    have HV9 := Lib.hid (And.intro hlt9 y2)
    have HVR := Lib.hid (InR.rowI hrow9)
    clear y0 y1 hrow9 hge9 hlo9 hhi9 hdj9 HOLD y2 hlt9
    have hN0 : 0 < N := by have := HNN.out; omega
    have HZR := Lib.hid Z_8.out.ints
    obtain ⟨_, _, hva9, hz9⟩ := id X_8.out
    injection hva9 with hv1 hv2 hv3
    subst hv1
    clear hv2 hv3
    rcases hz9 with hz9 | ⟨bx, ox, rfl, hr1, hr2, hr3, hrc⟩
    · have := HLL.out; omega
    have hcl : ∀ k : Nat, k < N → w8.cell? ⟨bx, ox + k, none⟩ = some (.int .i64 (L.getD k 0)) := fun k h => (hrc k (by have := HLL.out; omega)).1
    have HCX := Lib.hid (And.intro hcl (show bx < w8.heap.size by omega))
    clear hcl hrc hr1 hr2 hr3
    obtain ⟨_, _, hva9, hz9⟩ := id Z_8.out
    injection hva9 with hv1 hv2 hv3
    subst hv1
    clear hv2 hv3
    rcases hz9 with hz9 | ⟨bz, oz, rfl, hr1, hr2, hr3, hrc⟩
    · have := HLR.out; omega
    have hcl : ∀ k : Nat, k < N → w8.cell? ⟨bz, oz + k, none⟩ = some (.int .i64 (R.getD k 0)) := fun k h => (hrc k (by have := HLR.out; omega)).1
    have HCZ := Lib.hid (And.intro hcl (show bz < w8.heap.size by omega))
    clear hcl hrc hr1 hr2 hr3
    go_wp2_with fail
    go_loopw [17] (fun c wr => ∃ k : Nat, k ≤ N ∧ c = .int .i64 k ∧ Hid (Below w8.heap.size w8 wr)) (fun c _ => N - (intOf c).toNat)
    case atStart => exact ⟨0, Nat.zero_le _, rfl, Lib.hid (Below.refl _ _)⟩
    case round =>
      obtain ⟨k, hk, rfl, HBW⟩ := hrel
      have sW := HBW.out.size
      have qg0_r := (HBW.out.cell (p := ⟨w1.heap.size, 0, none⟩) zg_8).trans qg0_8
      have qg1_r := (HBW.out.cell (p := ⟨w1.heap.size, 1, none⟩) zg_8).trans qg1_8
      have zg_r := Nat.lt_of_lt_of_le zg_8 HBW.out.size
      by_cases hlt : k < N
      · have hlt' : (k : Int) < N := by omega
        have hkL : (k : Int) < L.length := by have := HLL.out; omega
        have hkR : (k : Int) < R.length := by have := HLR.out; omega
        have hff : ∀ w' : World, Below wr.heap.size wr w' → w'.cell? ⟨bz, oz + k, none⟩ = some (.int .i64 (R.getD k 0)) ∧ w'.cell? ⟨bx, ox + k, none⟩ = some (.int .i64 (L.getD k 0)) := fun w' h => ⟨((bel_trans HBW.out h).cell (p := ⟨bz, _, none⟩) HCZ.out.2).trans (HCZ.out.1 k hlt), ((bel_trans HBW.out h).cell (p := ⟨bx, _, none⟩) HCX.out.2).trans (HCX.out.1 k hlt)⟩
        have hib := fun w => iIsBetter m (R.getD k 0) (L.getD k 0) w
        rw [HBB.out k hlt] at hib
        generalize R.getD k 0 = y at hff hib
        generalize L.getD k 0 = z at hff hib
        have FF := Lib.hid hff
        have HIB := Lib.hid hib
        clear hff hib
        go_wp2_with fail
        refine wp_region_below (by kernel_rfl) (by kernel_rfl) ?_
        repeat (go_big_quiet_step ((intro hw; first | with_reducible rfl | (obtain ⟨f0, f1⟩ := FF.out _ hw; simp only [f0, f1, Result.andThen]; first | exact ⟨trivial, rfl⟩ | exact ⟨rfl, rfl⟩) | (go_at_call 19; with_reducible exact quietB (HIB.out _) hw))))
        refine wpQuiet_nil ?_
        intro w81 hb81
        have HB81 := Lib.hid hb81
        clear hb81
        go_wp2
        go_roundw
        case rel => first | exact ⟨k + 1, by omega, by go_num, Lib.hid (bel_trans HBW.out HB81.out)⟩ | exact ⟨_, ⟨k + 1, by omega, by go_num, Lib.hid (bel_trans HBW.out HB81.out)⟩, rfl⟩
        case measure => simp [intOf]; omega
      · have hkk : ¬ ((k : Int) < N) := by omega
        have v2 := (HBW.out.cell (p := ⟨g9, 2, none⟩) HV9.out.1).trans HV9.out.2
        go_wp2_with fail
        refine (gvInts R _ _ _ (HZR.out.keep HBW.out) (HVR.out.keep HBW.out) (by have := HLR.out; omega)).mono ?_
        rintro e w92 ⟨rfl, hb92⟩
        go_wp2
        go_ret
        exact ⟨by first | rfl | simp, bel_trans H8 (bel_trans HBW.out hb92)⟩

set_option maxRecDepth 100000 in
theorem lifted (os : Os) (started : os.Started) (H : Type) (enc : TypeId × Value → H) :
    ReturnsInHanded {} Try.checked os 5 .any (Rows.fnNearestOneSpec.pre6 enc Try.prog Try.f5 Rows.fnNearestOneRow.domain false) (Rows.fnNearestOneSpec.post enc Try.prog Try.f5 false true false false) := by
  refine returnsInHanded_of_change (C := Try.checked) own started (by kernel_rfl) Try.func5
    (ChangeSpec.witness6 (enc := enc) (C := Try.checked) false ⟨#[], #[.slice none 0 0], []⟩ 8 (by kernel_rfl) (by kernel_rfl) (by kernel_rfl) (by kernel_rfl)) ?_
  intro W base args ds gs before hval0 hW hcnd _
  have hval : ∀ (j : Nat) t v, Try.f5.params[j]? = some t → args[j]? = some v → Value.okWide Try.prog W .any base t v := hval0
  have hW' := hW
  obtain ⟨p, q, hA0, hV, rfl, hfz, hnd⟩ := hW
  have hA : DataW.TrodAll enc Try.prog W 0 (fun _ => true) true Try.f5.params.toList args.toList ds p := hA0
  rw [Try.params5] at hA hval
  obtain ⟨v0, vs0, d0, ds0, p0, q0, hargs, rfl, rfl, h0, r0⟩ := trodAll_cons hA
  obtain ⟨rfl, rfl, rfl⟩ := trodAll_nil r0
  obtain rfl : args = #[v0] := by cases args; simp_all
  obtain ⟨rfl, rfl⟩ := trodVars_none hV
  obtain ⟨a0, len0, cap0, rfl⟩ := okWide_slice Try.underlying22 (hval 0 22 v0 rfl rfl)
  have k0 := h0
  have lt0 : ∀ x ∈ p0, x.block < W.heap.size := by obtain ⟨m, hm⟩ := k0; exact DataW.trod_lt m _ _ _ hm
  obtain ⟨z0, w0⟩ : ∃ zs, IsRow .u8 W a0 len0 cap0 zs := by
    obtain ⟨fuel, hf⟩ := h0
    rcases open_ints Try.underlying22 Try.underlying5 (by kernel_rfl) hf with ⟨hcs, _⟩ | ⟨x, l, c, zs, hcs, _, hl, hm, hz, _, hcell, hwz⟩
    · simp [Value.cells] at hcs
      obtain ⟨rfl, rfl, rfl⟩ := hcs
      exact ⟨[], .inl ⟨rfl, rfl, rfl, rfl⟩⟩
    · simp [Value.cells] at hcs
      obtain ⟨rfl, rfl, rfl⟩ := hcs
      exact ⟨zs, .inr ⟨_, rfl, hl, hm, by simpa using hz, hcell, hwz⟩⟩
  clear hA0 hval0
  refine (walk a0 len0 cap0 z0 W w0).mono fun e W' ⟨he, bel⟩ => ?_
  subst he
  exact ⟨_, rfl, _, _, _, [], _, [], hW', trodAll_mk1 (shut_bool Try.underlying4 _), (trodAll_cons_mk (Below.trod laidOut (by kernel_rfl) (of_decide_eq_true (by kernel_rfl)) k0 bel lt0) trodAll_mk0), rfl, bel.frame _, fun h => by cases h⟩

theorem over : Rows.fnNearestOneRow.holds Try.pinned (OpenSpec.ofChange Rows.fnNearestOneSpec) :=
  OpenClaim.holds_of_wide 5 Try.f5 rfl rfl rfl rfl rfl rfl rfl ⟨rfl, rfl, rfl, rfl, rfl⟩ rfl rfl rfl rfl rfl (by kernel_rfl) Try.func5 (by kernel_rfl)
    (of_decide_eq_true (by kernel_rfl)) (by unfold Func.isWrapper; first | (rw [if_pos (by decide +kernel)]; kernel_rfl) | (rw [if_neg (by decide +kernel)]; exact ⟨rfl, rfl⟩))
    (fun os started H enc _ => lifted os started H enc)

theorem proved : Rows.FnNearestOneSaid := over
end Go.Proofs.Ytbinpaaihdcnlaa.fnNearestOne
