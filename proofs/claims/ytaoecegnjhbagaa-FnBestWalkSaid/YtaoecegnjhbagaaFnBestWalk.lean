/-
  Proved: the best walk of few edges is not better than the right value, and not better than with one edge more (the law FnBestWalk returns true for every input and leaves it as it was), with no further condition.
-/
import Derived.Test.YtaoecegnjhbagaaRows
import Derived.Test.YtaoecegnjhbagaaTargetB
import Derived.Test.YtaoecegnjhbagaaViewT
import Derived.Test.YtaoecegnjhbagaaBestWalk
import Derived.Test.YtaoecegnjhbagaaWalkV
import Derived.Test.YtaoecegnjhbagaaMeetV
import Derived.Test.YtaoecegnjhbagaaStartL
import Derived.Test.YtaoecegnjhbagaaImpl2
import Derived.WalkKit
import Derived.ProofKit
import Derived.OpenShut
import Derived.ShutString
import Derived.ChangeOld
import Derived.Below
namespace Go.Proofs.Ytaoecegnjhbagaa.fnBestWalk
open Go.Proofs.Ytaoecegnjhbagaa Go.BigFrame
open Go.ChangeShapes Go.WideShapes Go.ChangeAt Go.RowKit
open Go.ChangeMaps (open_string shut_string)
set_option linter.unusedVariables false

theorem own : ownKnob Try.prog.godebug = none := by kernel_rfl
theorem laidOut : laidOutB Try.prog = true := by kernel_rfl

def IsRow (k : IntKind) (w : World) (a : Option Addr) (len cap : Nat) (zs : List Int) : Prop :=
  (a = none ∧ len = 0 ∧ cap = 0 ∧ zs = []) ∨
  ∃ x, a = some x ∧ len ≤ cap ∧ cap ≤ maxLen ∧ zs.length = cap ∧ (∀ i, i < zs.length → w.cell? (x.add i) = some (.int k (zs.getD i 0))) ∧ ∀ n ∈ zs, (Lit.int k n).wf = true

theorem bytes_of {w : World} {a : Option Addr} {len cap : Nat} {zs : List Int} (h : IsRow .u8 w a len cap zs) : Bytes w a len ∧ len ≤ cap ∧ len ≤ 9223372036854775807 := by
  rcases h with ⟨rfl, rfl, rfl, rfl⟩ | ⟨x, rfl, hl, hm, hz, hc, hw⟩
  · exact ⟨.inl rfl, Nat.le_refl _, by omega⟩
  · unfold maxLen at hm
    refine ⟨?_, hl, by omega⟩
    by_cases h0 : len = 0
    · exact .inl h0
    · obtain ⟨b, off, rfl, hc'⟩ := ints_at hc (by omega)
      exact .inr ⟨b, off, rfl, World.block_lt_of_cell? _ _ (hc' 0 (by omega)), fun i hi => ⟨zs[i]?.getD 0, (range_u8 hw i).1, (range_u8 hw i).2, hc' i (by omega)⟩⟩

set_option maxRecDepth 100000 in
set_option maxHeartbeats 4000000 in
theorem walk (a0 : Option Addr) (len0 cap0 : Nat) (z0 : List Int) (w : World) (w0 : IsRow .u8 w a0 len0 cap0 z0) :
    Calls Try.prog 6 #[.slice a0 len0 cap0] w fun e w' => e = .returned (.bool true) ∧ Below w.heap.size w w' := by
  obtain ⟨hby, hcp, hn⟩ := bytes_of w0
  have HB0 := Lib.hid hby
  clear hby w0
  by_cases h0 : 1048576 < len0
  · go_enter Try.func6, Try.ntmps6
    go_wp2
    go_ret
    exact ⟨rfl, Below.refl _ _⟩
  have h0' : len0 ≤ 1048576 := by omega
  clear h0
  obtain ⟨w0, hw0⟩ : ∃ w0, w0 = w := ⟨_, rfl⟩
  subst hw0
  have H0 := Below.refl w0.heap.size w0
  go_enter Try.func6, Try.ntmps6
  go_wp2_with fail
  refine (dDrawBestWalk a0 len0 cap0 _ HB0.out hcp (by omega)).mono ?_
  rintro e w1 ⟨n, es, v, m, src, tgt, ed, rfl, hle, hrow, hok, hb1⟩
  have H1 := bel_trans H0 hb1
  have SZ1 := Lib.hid hb1.size
  obtain ⟨va, vc, rfl, hz9⟩ := id hrow
  have HOKG := Lib.hid hok
  clear hz9 hok
  have G_1 := Lib.hid (hrow)
  clear hrow
  go_wp2_with fail
  have hb2 : Below w1.heap.size w1 (w1.alloc (.cells #[.int .i64 n, .slice va es.length vc] 25)) := (Below.refl _ _).alloc (by simp <;> omega) _
  have H2 := bel_trans H1 hb2
  have SZ2 := Lib.hid hb2.size
  have G_2 := Lib.hid (G_1.out.keep hb2)
  have qg0_2 : (w1.alloc (.cells #[.int .i64 n, .slice va es.length vc] 25)).cell? ⟨w1.heap.size, 0, none⟩ = some (.int .i64 n) := by go_simp
  have qg1_2 : (w1.alloc (.cells #[.int .i64 n, .slice va es.length vc] 25)).cell? ⟨w1.heap.size, 1, none⟩ = some (.slice va es.length vc) := by go_simp
  have zg_2 : w1.heap.size < (w1.alloc (.cells #[.int .i64 n, .slice va es.length vc] 25)).heap.size := by simp <;> omega
  generalize (w1.alloc (.cells #[.int .i64 n, .slice va es.length vc] 25)) = w2 at hb2 H2 SZ2 G_2 qg0_2 qg1_2 zg_2 ⊢
  have ZBg := Lib.hid zg_2
  clear G_1
  have hle2 : es.length ≤ 1048576 := by omega
  have hle3 : es.length ≤ 281474976710656 := by omega
  have hst := fun s w (h : RowE w s es) => bestWalk n m src tgt ed es s w h hle3
  have hss := fun s w (h : RowE w s es) => sBestWalk n m src tgt ed es s w h hle3
  cases hk : bwB n es m src tgt ed
  · rw [bw_no hk, hk] at hst hss
    have HST := Lib.hid hst
    have HSS := Lib.hid hss
    clear hst hss hk
    go_wp2_with fail
    refine (HST.out _ _ G_2.out.edges).mono ?_
    rintro e w3 ⟨rfl, hb3⟩
    have H3 := bel_trans H2 hb3
    have SZ3 := Lib.hid hb3.size
    have qg0_3 := (hb3.cell (p := ⟨w1.heap.size, 0, none⟩) zg_2).trans qg0_2
    have qg1_3 := (hb3.cell (p := ⟨w1.heap.size, 1, none⟩) zg_2).trans qg1_2
    have zg_3 := Nat.lt_of_lt_of_le zg_2 hb3.size
    have G_3 := Lib.hid (G_2.out.keep hb3)
    clear zg_2 qg0_2 qg1_2 G_2
    go_wp2_with fail
    refine (HSS.out _ _ G_3.out.edges).mono ?_
    rintro e w4 ⟨rfl, hb4⟩
    have H4 := bel_trans H3 hb4
    have SZ4 := Lib.hid hb4.size
    have qg0_4 := (hb4.cell (p := ⟨w1.heap.size, 0, none⟩) zg_3).trans qg0_3
    have qg1_4 := (hb4.cell (p := ⟨w1.heap.size, 1, none⟩) zg_3).trans qg1_3
    have zg_4 := Nat.lt_of_lt_of_le zg_3 hb4.size
    have G_4 := Lib.hid (G_3.out.keep hb4)
    clear qg0_3 qg1_3 zg_3 G_3
    go_wp2
    go_ret
    exact ⟨rfl, H4⟩
  · have hk2 := hk
    unfold bwB at hk2
    rw [Bool.and_eq_true, Bool.and_eq_true, decide_eq_true_eq, decide_eq_true_eq] at hk2
    obtain ⟨hon, hk0, hk1⟩ := hk2
    obtain ⟨hgv, hsr, htr, hmk⟩ := onOk_two hon
    have h12 := (gVal_iff.1 hgv).1.2.1
    have hea := eAll_of hgv
    obtain ⟨N, hN⟩ : ∃ N : Nat, n = N := ⟨n.toNat, by omega⟩
    subst hN
    obtain ⟨A, hA⟩ : ∃ A : Nat, src = A := ⟨src.toNat, by omega⟩
    subst hA
    obtain ⟨T, hT⟩ : ∃ T : Nat, tgt = T := ⟨tgt.toNat, by omega⟩
    subst hT
    obtain ⟨K, hK⟩ : ∃ K : Nat, ed = K := ⟨ed.toNat, by omega⟩
    subst hK
    have hAN : A < N := by omega
    have hTN : T < N := by omega
    have hK50 : K ≤ 50 := by omega
    have hea2 : eAll N es := by simpa using hea
    obtain ⟨L, hL⟩ : ∃ L, L = vRt m (N : Int) es (A : Int) := ⟨_, rfl⟩
    have hlL : L.length = N := by rw [hL, vRt_length]; omega
    obtain ⟨B9, hB9⟩ : ∃ b, b = (vIter m es K (vStart m N A)).getD T 0 := ⟨_, rfl⟩
    obtain ⟨C9, hC9⟩ : ∃ b, b = L.getD T 0 := ⟨_, rfl⟩
    obtain ⟨D9, hD9⟩ : ∃ b, b = (vIter m es (1 + K) (vStart m N A)).getD T 0 := ⟨_, rfl⟩
    have e1 : bBet m B9 C9 = false := bBet_no (by rw [hB9, hC9, hL]; exact walk_low hmk hea2 hAN hTN K)
    have e2 : bBet m B9 D9 = false := bBet_no (by rw [hB9, hD9]; exact walk_more hmk hea2 hTN K 1)
    have hr : bwR (N : Int) es m A T K = B9 := by unfold bwR; rw [if_pos hk, hB9]; rfl
    rw [hr, hk] at hst hss
    have ha := fun s w (h : RowE w s es) => bestWalk N m A T N es s w h hle3
    have hak : bwB (N : Int) es m A T N = true := by unfold bwB; rw [hon]; simp; omega
    rw [show bwR (N : Int) es m A T N = C9 by unfold bwR; rw [if_pos hak, hC9, hL]; rfl, hak] at ha
    have hb : ∃ (q : Int) (f : Bool), (f = true → q = D9) ∧ ∀ s w, RowE w s es → Calls Try.prog 23 #[.agg #[.int .i64 N, s], .int .i64 m, .int .i64 A, .int .i64 T, .int .i64 (K + 1)] w fun e w' => e = .returned (.tuple #[.int .i64 q, .bool f]) ∧ Below w.heap.size w w' := by
      refine ⟨_, _, fun hf => ?_, fun s w h => bestWalk N m A T (K + 1) es s w h hle3⟩
      unfold bwR
      rw [if_pos hf, hD9, show ((K : Int) + 1).toNat = 1 + K by omega]
      rfl
    obtain ⟨q9, f9, hq9, hb⟩ := hb
    have honz : onOk (N : Int) es m [(A : Int)] = true := onOk_of hgv hsr hmk
    have hvz := fun s w (h : RowE w s es) => viewOf (N : Int) m (A : Int) es s w h (by omega)
    rw [show stM (N : Int) es m (A : Int) = m by unfold stM; rw [if_pos honz], show stA (N : Int) es m (A : Int) = (A : Int) by unfold stA; rw [if_pos honz], show voL (N : Int) es m (A : Int) = vRt m (N : Int) es (A : Int) by unfold voL; rw [if_pos honz]; rfl, honz] at hvz
    have HVz := Lib.hid hvz
    clear hvz
    clear honz
    rw [← hL] at HVz
    have HST := Lib.hid hst
    have HSS := Lib.hid hss
    have HA := Lib.hid ha
    have HB := Lib.hid hb
    have HLL := Lib.hid hlL
    have HE1 := Lib.hid e1
    have HE2 := Lib.hid e2
    have HQ9 := Lib.hid hq9
    have HC9 := Lib.hid hC9
    clear hst hss ha hb hlL e1 e2 hq9 hC9 hk hon hk0 hk1 hgv hmk hea hea2 hL hB9 hD9 hr hak
    go_wp2_with fail
    refine (HST.out _ _ G_2.out.edges).mono ?_
    rintro e w3 ⟨rfl, hb3⟩
    have H3 := bel_trans H2 hb3
    have SZ3 := Lib.hid hb3.size
    have qg0_3 := (hb3.cell (p := ⟨w1.heap.size, 0, none⟩) zg_2).trans qg0_2
    have qg1_3 := (hb3.cell (p := ⟨w1.heap.size, 1, none⟩) zg_2).trans qg1_2
    have zg_3 := Nat.lt_of_lt_of_le zg_2 hb3.size
    have G_3 := Lib.hid (G_2.out.keep hb3)
    clear zg_2 qg0_2 qg1_2 G_2
    go_wp2_with fail
    refine (HSS.out _ _ G_3.out.edges).mono ?_
    rintro e w4 ⟨rfl, hb4⟩
    have H4 := bel_trans H3 hb4
    have SZ4 := Lib.hid hb4.size
    have qg0_4 := (hb4.cell (p := ⟨w1.heap.size, 0, none⟩) zg_3).trans qg0_3
    have qg1_4 := (hb4.cell (p := ⟨w1.heap.size, 1, none⟩) zg_3).trans qg1_3
    have zg_4 := Nat.lt_of_lt_of_le zg_3 hb4.size
    have G_4 := Lib.hid (G_3.out.keep hb4)
    clear qg0_3 qg1_3 zg_3 G_3
    go_wp2_with fail
    refine (HVz.out _ _ G_4.out.edges).mono ?_
    rintro e w5 ⟨vz, rfl, howz, hokz, hb5⟩
    have H5 := bel_trans H4 hb5
    have SZ5 := Lib.hid hb5.size
    have qg0_5 := (hb5.cell (p := ⟨w1.heap.size, 0, none⟩) zg_4).trans qg0_4
    have qg1_5 := (hb5.cell (p := ⟨w1.heap.size, 1, none⟩) zg_4).trans qg1_4
    have zg_5 := Nat.lt_of_lt_of_le zg_4 hb5.size
    have G_5 := Lib.hid (G_4.out.keep hb5)
    obtain ⟨az, cz, rfl, hz9⟩ := id howz
    clear hz9 hokz
    have Z_5 := Lib.hid (show InR true w5 w4.heap.size w5.heap.size _ L.length 1 (cellI L) from howz)
    clear qg0_4 qg1_4 zg_4 G_4
    clear howz
    go_wp2_with fail
    have hb6 : Below w5.heap.size w5 (w5.alloc (.cells #[.int .i64 m, .int .i64 A, .slice az L.length cz] 30)) := (Below.refl _ _).alloc (by simp <;> omega) _
    have H6 := bel_trans H5 hb6
    have SZ6 := Lib.hid hb6.size
    have qg0_6 := (hb6.cell (p := ⟨w1.heap.size, 0, none⟩) zg_5).trans qg0_5
    have qg1_6 := (hb6.cell (p := ⟨w1.heap.size, 1, none⟩) zg_5).trans qg1_5
    have zg_6 := Nat.lt_of_lt_of_le zg_5 hb6.size
    have G_6 := Lib.hid (G_5.out.keep hb6)
    have Z_6 := Lib.hid (Z_5.out.keep hb6)
    have qz0_6 : (w5.alloc (.cells #[.int .i64 m, .int .i64 A, .slice az L.length cz] 30)).cell? ⟨w5.heap.size, 0, none⟩ = some (.int .i64 m) := by go_simp
    have qz1_6 : (w5.alloc (.cells #[.int .i64 m, .int .i64 A, .slice az L.length cz] 30)).cell? ⟨w5.heap.size, 1, none⟩ = some (.int .i64 A) := by go_simp
    have qz2_6 : (w5.alloc (.cells #[.int .i64 m, .int .i64 A, .slice az L.length cz] 30)).cell? ⟨w5.heap.size, 2, none⟩ = some (.slice az L.length cz) := by go_simp
    have zz_6 : w5.heap.size < (w5.alloc (.cells #[.int .i64 m, .int .i64 A, .slice az L.length cz] 30)).heap.size := by simp <;> omega
    generalize (w5.alloc (.cells #[.int .i64 m, .int .i64 A, .slice az L.length cz] 30)) = w6 at hb6 H6 SZ6 G_6 Z_6 qg0_6 qg1_6 qz0_6 qz1_6 qz2_6 zg_6 zz_6 ⊢
    have ZBz := Lib.hid zz_6
    clear qg0_5 qg1_5 zg_5 G_5 Z_5
    go_wp2_with fail
    refine (HA.out _ _ G_6.out.edges).mono ?_
    rintro e w7 ⟨rfl, hb7⟩
    have H7 := bel_trans H6 hb7
    have SZ7 := Lib.hid hb7.size
    have qg0_7 := (hb7.cell (p := ⟨w1.heap.size, 0, none⟩) zg_6).trans qg0_6
    have qg1_7 := (hb7.cell (p := ⟨w1.heap.size, 1, none⟩) zg_6).trans qg1_6
    have zg_7 := Nat.lt_of_lt_of_le zg_6 hb7.size
    have qz0_7 := (hb7.cell (p := ⟨w5.heap.size, 0, none⟩) zz_6).trans qz0_6
    have qz1_7 := (hb7.cell (p := ⟨w5.heap.size, 1, none⟩) zz_6).trans qz1_6
    have qz2_7 := (hb7.cell (p := ⟨w5.heap.size, 2, none⟩) zz_6).trans qz2_6
    have zz_7 := Nat.lt_of_lt_of_le zz_6 hb7.size
    have G_7 := Lib.hid (G_6.out.keep hb7)
    have Z_7 := Lib.hid (Z_6.out.keep hb7)
    clear qg0_6 qg1_6 zg_6 G_6 Z_6 qz0_6 qz1_6 qz2_6 zz_6
    go_wp2_with fail
    refine (HB.out _ _ G_7.out.edges).mono ?_
    rintro e w8 ⟨rfl, hb8⟩
    have H8 := bel_trans H7 hb8
    have SZ8 := Lib.hid hb8.size
    have qg0_8 := (hb8.cell (p := ⟨w1.heap.size, 0, none⟩) zg_7).trans qg0_7
    have qg1_8 := (hb8.cell (p := ⟨w1.heap.size, 1, none⟩) zg_7).trans qg1_7
    have zg_8 := Nat.lt_of_lt_of_le zg_7 hb8.size
    have qz0_8 := (hb8.cell (p := ⟨w5.heap.size, 0, none⟩) zz_7).trans qz0_7
    have qz1_8 := (hb8.cell (p := ⟨w5.heap.size, 1, none⟩) zz_7).trans qz1_7
    have qz2_8 := (hb8.cell (p := ⟨w5.heap.size, 2, none⟩) zz_7).trans qz2_7
    have zz_8 := Nat.lt_of_lt_of_le zz_7 hb8.size
    have G_8 := Lib.hid (G_7.out.keep hb8)
    have Z_8 := Lib.hid (Z_7.out.keep hb8)
    clear qg0_7 qg1_7 zg_7 qz0_7 qz1_7 qz2_7 zz_7 G_7 Z_7
    obtain ⟨_, _, hva, hz9⟩ := id Z_8.out
    injection hva with hv1 hv2 hv3
    subst hv1
    clear hv2 hv3
    rcases hz9 with hz9 | ⟨bz, oz, rfl, hr1, hr2, hr3, hrc⟩
    · have := HLL.out; omega
    have hcl : ∀ k : Nat, k < N → w8.cell? ⟨bz, oz + k, none⟩ = some (.int .i64 (L.getD k 0)) := fun k h => (hrc k (by have := HLL.out; omega)).1
    have HCZ := Lib.hid (And.intro hcl (show bz < w8.heap.size by omega))
    clear hcl hrc hr1 hr2 hr3
    have dz9 := HCZ.out.1 T hTN
    rw [← HC9.out] at dz9
    have hTl : T < L.length := by have := HLL.out; omega
    have hTl' : (T : Int) < L.length := by have := HLL.out; omega
    clear HC9
    cases f9
    · go_wp2_with fail
      refine (iIsBetter m _ _ _).mono ?_
      rintro e w9 ⟨hS, hb9⟩
      have H9 := bel_trans H8 hb9
      have SZ9 := Lib.hid hb9.size
      have qg0_9 := (hb9.cell (p := ⟨w1.heap.size, 0, none⟩) zg_8).trans qg0_8
      have qg1_9 := (hb9.cell (p := ⟨w1.heap.size, 1, none⟩) zg_8).trans qg1_8
      have zg_9 := Nat.lt_of_lt_of_le zg_8 hb9.size
      have qz0_9 := (hb9.cell (p := ⟨w5.heap.size, 0, none⟩) zz_8).trans qz0_8
      have qz1_9 := (hb9.cell (p := ⟨w5.heap.size, 1, none⟩) zz_8).trans qz1_8
      have qz2_9 := (hb9.cell (p := ⟨w5.heap.size, 2, none⟩) zz_8).trans qz2_8
      have zz_9 := Nat.lt_of_lt_of_le zz_8 hb9.size
      have G_9 := Lib.hid (G_8.out.keep hb9)
      have Z_9 := Lib.hid (Z_8.out.keep hb9)
      rw [HE1.out] at hS
      subst hS
      clear qz1_8 G_8 qz2_8 Z_8 qg1_8 qg0_8 zg_8 zz_8 qz0_8
      go_wp2
      go_ret
      exact ⟨rfl, H9⟩
    · have hq := HQ9.out rfl
      subst hq
      go_wp2_with fail
      refine (iIsBetter m _ _ _).mono ?_
      rintro e w9 ⟨hS, hb9⟩
      have H9 := bel_trans H8 hb9
      have SZ9 := Lib.hid hb9.size
      have qg0_9 := (hb9.cell (p := ⟨w1.heap.size, 0, none⟩) zg_8).trans qg0_8
      have qg1_9 := (hb9.cell (p := ⟨w1.heap.size, 1, none⟩) zg_8).trans qg1_8
      have zg_9 := Nat.lt_of_lt_of_le zg_8 hb9.size
      have qz0_9 := (hb9.cell (p := ⟨w5.heap.size, 0, none⟩) zz_8).trans qz0_8
      have qz1_9 := (hb9.cell (p := ⟨w5.heap.size, 1, none⟩) zz_8).trans qz1_8
      have qz2_9 := (hb9.cell (p := ⟨w5.heap.size, 2, none⟩) zz_8).trans qz2_8
      have zz_9 := Nat.lt_of_lt_of_le zz_8 hb9.size
      have G_9 := Lib.hid (G_8.out.keep hb9)
      have Z_9 := Lib.hid (Z_8.out.keep hb9)
      rw [HE1.out] at hS
      subst hS
      clear qz1_8 G_8 qz2_8 Z_8 qg1_8 qg0_8 zg_8 zz_8 qz0_8
      go_wp2_with fail
      refine (iIsBetter m _ _ _).mono ?_
      rintro e w10 ⟨hS, hb10⟩
      have H10 := bel_trans H9 hb10
      have SZ10 := Lib.hid hb10.size
      have qg0_10 := (hb10.cell (p := ⟨w1.heap.size, 0, none⟩) zg_9).trans qg0_9
      have qg1_10 := (hb10.cell (p := ⟨w1.heap.size, 1, none⟩) zg_9).trans qg1_9
      have zg_10 := Nat.lt_of_lt_of_le zg_9 hb10.size
      have qz0_10 := (hb10.cell (p := ⟨w5.heap.size, 0, none⟩) zz_9).trans qz0_9
      have qz1_10 := (hb10.cell (p := ⟨w5.heap.size, 1, none⟩) zz_9).trans qz1_9
      have qz2_10 := (hb10.cell (p := ⟨w5.heap.size, 2, none⟩) zz_9).trans qz2_9
      have zz_10 := Nat.lt_of_lt_of_le zz_9 hb10.size
      have G_10 := Lib.hid (G_9.out.keep hb10)
      have Z_10 := Lib.hid (Z_9.out.keep hb10)
      rw [HE2.out] at hS
      subst hS
      clear qg0_9 qg1_9 zg_9 qz0_9 qz1_9 qz2_9 zz_9 G_9 Z_9
      go_wp2
      go_ret
      exact ⟨rfl, H10⟩

set_option maxRecDepth 100000 in
theorem lifted (os : Os) (started : os.Started) (H : Type) (enc : TypeId × Value → H) :
    ReturnsInHanded {} Try.checked os 6 .any (Rows.fnBestWalkSpec.pre6 enc Try.prog Try.f6 Rows.fnBestWalkRow.domain false) (Rows.fnBestWalkSpec.post enc Try.prog Try.f6 false true false false) := by
  refine returnsInHanded_of_change (C := Try.checked) own started (by kernel_rfl) Try.func6
    (ChangeSpec.witness6 (enc := enc) (C := Try.checked) false ⟨#[], #[.slice none 0 0], []⟩ 8 (by kernel_rfl) (by kernel_rfl) (by kernel_rfl) (by kernel_rfl)) ?_
  intro W base args ds gs before hval0 hW hcnd _
  have hval : ∀ (j : Nat) t v, Try.f6.params[j]? = some t → args[j]? = some v → Value.okWide Try.prog W .any base t v := hval0
  have hW' := hW
  obtain ⟨p, q, hA0, hV, rfl, hfz, hnd⟩ := hW
  have hA : DataW.TrodAll enc Try.prog W 0 (fun _ => true) true Try.f6.params.toList args.toList ds p := hA0
  rw [Try.params6] at hA hval
  obtain ⟨v0, vs0, d0, ds0, p0, q0, hargs, rfl, rfl, h0, r0⟩ := trodAll_cons hA
  obtain ⟨rfl, rfl, rfl⟩ := trodAll_nil r0
  obtain rfl : args = #[v0] := by cases args; simp_all
  obtain ⟨rfl, rfl⟩ := trodVars_none hV
  obtain ⟨a0, len0, cap0, rfl⟩ := okWide_slice Try.underlying22 (hval 0 22 v0 rfl rfl)
  have k0 := h0
  have lt0 : ∀ x ∈ p0, x.block < W.heap.size := by obtain ⟨m, hm⟩ := k0; exact DataW.trod_lt m _ _ _ hm
  obtain ⟨z0, w0⟩ : ∃ zs, IsRow .u8 W a0 len0 cap0 zs := by
    obtain ⟨fuel, hf⟩ := h0
    rcases open_ints Try.underlying22 Try.underlying5 (by kernel_rfl) hf with ⟨hcs, _⟩ | ⟨x, l, c, zs, hcs, _, hl, hm, hz, _, hcell, hwz⟩
    · simp [Value.cells] at hcs
      obtain ⟨rfl, rfl, rfl⟩ := hcs
      exact ⟨[], .inl ⟨rfl, rfl, rfl, rfl⟩⟩
    · simp [Value.cells] at hcs
      obtain ⟨rfl, rfl, rfl⟩ := hcs
      exact ⟨zs, .inr ⟨_, rfl, hl, hm, by simpa using hz, hcell, hwz⟩⟩
  clear hA0 hval0
  refine (walk a0 len0 cap0 z0 W w0).mono fun e W' ⟨he, bel⟩ => ?_
  subst he
  exact ⟨_, rfl, _, _, _, [], _, [], hW', trodAll_mk1 (shut_bool Try.underlying4 _), (trodAll_cons_mk (Below.trod laidOut (by kernel_rfl) (of_decide_eq_true (by kernel_rfl)) k0 bel lt0) trodAll_mk0), rfl, bel.frame _, fun h => by cases h⟩

theorem over : Rows.fnBestWalkRow.holds Try.pinned (OpenSpec.ofChange Rows.fnBestWalkSpec) :=
  OpenClaim.holds_of_wide 6 Try.f6 rfl rfl rfl rfl rfl rfl rfl ⟨rfl, rfl, rfl, rfl, rfl⟩ rfl rfl rfl rfl rfl (by kernel_rfl) Try.func6 (by kernel_rfl)
    (of_decide_eq_true (by kernel_rfl)) (by unfold Func.isWrapper; first | (rw [if_pos (by decide +kernel)]; kernel_rfl) | (rw [if_neg (by decide +kernel)]; exact ⟨rfl, rfl⟩))
    (fun os started H enc _ => lifted os started H enc)

theorem proved : Rows.FnBestWalkSaid := over
end Go.Proofs.Ytaoecegnjhbagaa.fnBestWalk
