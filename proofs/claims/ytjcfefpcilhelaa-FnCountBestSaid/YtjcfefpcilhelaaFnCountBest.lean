/-
  Proved: there are ways exactly to the nodes that are reached, and one to the source itself (the law FnCountBest returns true for every input and leaves it as it was), with no further condition.
-/
import Derived.Test.YtjcfefpcilhelaaRows
import Derived.Test.YtjcfefpcilhelaaDrawB7
import Derived.Test.YtjcfefpcilhelaaCountS
import Derived.Test.YtjcfefpcilhelaaCountF
import Derived.Test.YtjcfefpcilhelaaViewT
import Derived.Test.YtjcfefpcilhelaaStartL
import Derived.WalkKit
import Derived.ProofKit
import Derived.OpenShut
import Derived.ShutString
import Derived.ChangeOld
import Derived.Below
namespace Go.Proofs.Ytjcfefpcilhelaa.fnCountBest
open Go.Proofs.Ytjcfefpcilhelaa Go.BigFrame
open Go.ChangeShapes Go.WideShapes Go.ChangeAt Go.RowKit
open Go.ChangeMaps (open_string shut_string)
set_option linter.unusedVariables false

theorem own : ownKnob Try.prog.godebug = none := by kernel_rfl
theorem laidOut : laidOutB Try.prog = true := by kernel_rfl

def IsRow (k : IntKind) (w : World) (a : Option Addr) (len cap : Nat) (zs : List Int) : Prop :=
  (a = none ∧ len = 0 ∧ cap = 0 ∧ zs = []) ∨
  ∃ x, a = some x ∧ len ≤ cap ∧ cap ≤ maxLen ∧ zs.length = cap ∧ (∀ i, i < zs.length → w.cell? (x.add i) = some (.int k (zs.getD i 0))) ∧ ∀ n ∈ zs, (Lit.int k n).wf = true

theorem bytes_of {w : World} {a : Option Addr} {len cap : Nat} {zs : List Int} (h : IsRow .u8 w a len cap zs) : Bytes w a len ∧ len ≤ cap ∧ len ≤ 9223372036854775807 := by
  rcases h with ⟨rfl, rfl, rfl, rfl⟩ | ⟨x, rfl, hl, hm, hz, hc, hw⟩
  · exact ⟨.inl rfl, Nat.le_refl _, by omega⟩
  · unfold maxLen at hm
    refine ⟨?_, hl, by omega⟩
    by_cases h0 : len = 0
    · exact .inl h0
    · obtain ⟨b, off, rfl, hc'⟩ := ints_at hc (by omega)
      exact .inr ⟨b, off, rfl, World.block_lt_of_cell? _ _ (hc' 0 (by omega)), fun i hi => ⟨zs[i]?.getD 0, (range_u8 hw i).1, (range_u8 hw i).2, hc' i (by omega)⟩⟩

set_option maxRecDepth 100000 in
set_option maxHeartbeats 4000000 in
theorem walk (a0 : Option Addr) (len0 cap0 : Nat) (z0 : List Int) (w : World) (w0 : IsRow .u8 w a0 len0 cap0 z0) :
    Calls Try.prog 8 #[.slice a0 len0 cap0] w fun e w' => e = .returned (.bool true) ∧ Below w.heap.size w w' := by
  obtain ⟨hby, hcp, hn⟩ := bytes_of w0
  have HB0 := Lib.hid hby
  clear hby w0
  by_cases h0 : 1048576 < len0
  · go_enter Try.func8, Try.ntmps8
    go_wp2
    go_ret
    exact ⟨rfl, Below.refl _ _⟩
  have h0' : len0 ≤ 1048576 := by omega
  clear h0
  obtain ⟨w0, hw0⟩ : ∃ w0, w0 = w := ⟨_, rfl⟩
  subst hw0
  have H0 := Below.refl w0.heap.size w0
  go_enter Try.func8, Try.ntmps8
  go_wp2_with fail
  refine (dDrawCountBest a0 len0 cap0 _ HB0.out hcp (by omega)).mono ?_
  rintro e w1 ⟨n, es, v, m, src, rfl, hle, hrow, hok, hb1⟩
  have H1 := bel_trans H0 hb1
  have SZ1 := Lib.hid hb1.size
  obtain ⟨va, vc, rfl, hz9⟩ := id hrow
  have HOKG := Lib.hid hok
  clear hz9 hok
  have G_1 := Lib.hid (hrow)
  clear hrow
  go_wp2_with fail
  have hb2 : Below w1.heap.size w1 (w1.alloc (.cells #[.int .i64 n, .slice va es.length vc] 25)) := (Below.refl _ _).alloc (by simp <;> omega) _
  have H2 := bel_trans H1 hb2
  have SZ2 := Lib.hid hb2.size
  have G_2 := Lib.hid (G_1.out.keep hb2)
  have qg0_2 : (w1.alloc (.cells #[.int .i64 n, .slice va es.length vc] 25)).cell? ⟨w1.heap.size, 0, none⟩ = some (.int .i64 n) := by go_simp
  have qg1_2 : (w1.alloc (.cells #[.int .i64 n, .slice va es.length vc] 25)).cell? ⟨w1.heap.size, 1, none⟩ = some (.slice va es.length vc) := by go_simp
  have zg_2 : w1.heap.size < (w1.alloc (.cells #[.int .i64 n, .slice va es.length vc] 25)).heap.size := by simp <;> omega
  generalize (w1.alloc (.cells #[.int .i64 n, .slice va es.length vc] 25)) = w2 at hb2 H2 SZ2 G_2 qg0_2 qg1_2 zg_2 ⊢
  have ZBg := Lib.hid zg_2
  clear G_1
  have hle2 : es.length ≤ 1048576 := by omega
  have hle3 : es.length ≤ 281474976710656 := by omega
  have hst := fun s w (h : RowE w s es) => countBest n m src es s w h hle3
  have hss := fun s w (h : RowE w s es) => sCountBest n m src es s w h hle3
  cases hk : cbB n es m src
  · rw [show cbN n es m src = 0 by unfold cbN; rw [hk]; rfl, hk] at hst hss
    have HST := Lib.hid hst
    have HSS := Lib.hid hss
    clear hst hss hk
    refine (HST.out _ _ G_2.out.edges).mono ?_
    rintro e w3 ⟨rfl, hb3⟩
    have H3 := bel_trans H2 hb3
    have SZ3 := Lib.hid hb3.size
    have qg0_3 := (hb3.cell (p := ⟨w1.heap.size, 0, none⟩) zg_2).trans qg0_2
    have qg1_3 := (hb3.cell (p := ⟨w1.heap.size, 1, none⟩) zg_2).trans qg1_2
    have zg_3 := Nat.lt_of_lt_of_le zg_2 hb3.size
    have G_3 := Lib.hid (G_2.out.keep hb3)
    clear qg0_2 zg_2 G_2 qg1_2
    go_wp2_with fail
    refine (HSS.out _ _ G_3.out.edges).mono ?_
    rintro e w4 ⟨rfl, hb4⟩
    have H4 := bel_trans H3 hb4
    have SZ4 := Lib.hid hb4.size
    have qg0_4 := (hb4.cell (p := ⟨w1.heap.size, 0, none⟩) zg_3).trans qg0_3
    have qg1_4 := (hb4.cell (p := ⟨w1.heap.size, 1, none⟩) zg_3).trans qg1_3
    have zg_4 := Nat.lt_of_lt_of_le zg_3 hb4.size
    have G_4 := Lib.hid (G_3.out.keep hb4)
    clear qg0_3 qg1_3 zg_3 G_3
    go_wp2
    go_ret
    exact ⟨by first | rfl | simp, H4⟩
  · have hcn : cbN n es m src = ciR es src.toNat n.toNat (cStart n.toNat m.toNat) := by unfold cbN; rw [if_pos hk]
    rw [hcn, hk] at hst hss
    obtain ⟨hgv, hsm, hsr⟩ := cbB_parts hk
    have honz := onOk_of (m := 4) hgv hsm (by decide)
    have hvz := fun s w (h : RowE w s es) => viewOf n 4 m es s w h hle3
    rw [show stM n es 4 m = 4 by unfold stM; rw [if_pos honz], show stA n es 4 m = m by unfold stA; rw [if_pos honz], show voL n es 4 m = vRt 4 n es m by unfold voL; rw [if_pos honz]; rfl, honz] at hvz
    clear hcn hk honz
    have h12 := (gVal_iff.1 hgv).1.2.1
    obtain ⟨N, hN⟩ : ∃ N : Nat, n = N := ⟨n.toNat, by omega⟩
    subst hN
    obtain ⟨A, hA⟩ : ∃ A : Nat, m = A := ⟨m.toNat, by omega⟩
    subst hA
    obtain ⟨X, hX⟩ : ∃ X : Nat, src = X := ⟨src.toNat, by omega⟩
    subst hX
    have hAN : A < N := by omega
    have hXN : X < N := by omega
    rw [Int.toNat_natCast, Int.toNat_natCast, Int.toNat_natCast] at hst hss
    have hc := cb_cases hgv hAN hXN
    obtain ⟨L, hL⟩ : ∃ L, L = vRt 4 (N : Int) es (A : Int) := ⟨_, rfl⟩
    have hlL : L.length = N := by rw [hL, vRt_length, Int.toNat_natCast]
    obtain ⟨R, hR⟩ : ∃ R, R = ciR es X N (cStart N A) := ⟨_, rfl⟩
    rw [← hL] at hvz hc
    rw [← hR] at hst hss hc
    obtain ⟨y, hy⟩ : ∃ y, y = L.getD X 0 := ⟨_, rfl⟩
    rw [← hy] at hc
    have HST := Lib.hid hst
    have HSS := Lib.hid hss
    have HVZ := Lib.hid hvz
    have HCC := Lib.hid hc
    have HLL := Lib.hid hlL
    have HYY := Lib.hid hy
    clear hst hss hvz hc hlL hL hR hy hgv hsm hsr h12
    refine (HST.out _ _ G_2.out.edges).mono ?_
    rintro e w3 ⟨rfl, hb3⟩
    have H3 := bel_trans H2 hb3
    have SZ3 := Lib.hid hb3.size
    have qg0_3 := (hb3.cell (p := ⟨w1.heap.size, 0, none⟩) zg_2).trans qg0_2
    have qg1_3 := (hb3.cell (p := ⟨w1.heap.size, 1, none⟩) zg_2).trans qg1_2
    have zg_3 := Nat.lt_of_lt_of_le zg_2 hb3.size
    have G_3 := Lib.hid (G_2.out.keep hb3)
    clear qg0_2 zg_2 G_2 qg1_2
    go_wp2_with fail
    refine (HSS.out _ _ G_3.out.edges).mono ?_
    rintro e w4 ⟨rfl, hb4⟩
    have H4 := bel_trans H3 hb4
    have SZ4 := Lib.hid hb4.size
    have qg0_4 := (hb4.cell (p := ⟨w1.heap.size, 0, none⟩) zg_3).trans qg0_3
    have qg1_4 := (hb4.cell (p := ⟨w1.heap.size, 1, none⟩) zg_3).trans qg1_3
    have zg_4 := Nat.lt_of_lt_of_le zg_3 hb4.size
    have G_4 := Lib.hid (G_3.out.keep hb4)
    clear qg0_3 qg1_3 zg_3 G_3
    rcases HCC.out with ⟨h1, h2, h3⟩ | ⟨h1, h2, h3⟩ | ⟨h1, h2, h3⟩
    · clear HCC
      subst h1
      have HY2 := Lib.hid (HYY.out.symm.trans h2)
      have hne : ¬ ((X : Int) = A) := by omega
      have hne2 : ((X : Int) != A) = true := by simpa using hne
      clear h2
      go_wp2_with fail
      refine (HVZ.out _ _ G_4.out.edges).mono ?_
      rintro e w5 ⟨vz, rfl, howz, hokz, hb5⟩
      have H5 := bel_trans H4 hb5
      have SZ5 := Lib.hid hb5.size
      have qg0_5 := (hb5.cell (p := ⟨w1.heap.size, 0, none⟩) zg_4).trans qg0_4
      have qg1_5 := (hb5.cell (p := ⟨w1.heap.size, 1, none⟩) zg_4).trans qg1_4
      have zg_5 := Nat.lt_of_lt_of_le zg_4 hb5.size
      have G_5 := Lib.hid (G_4.out.keep hb5)
      obtain ⟨az, cz, rfl, hz9⟩ := id howz
      clear hz9 hokz
      have Z_5 := Lib.hid (show InR true w5 w4.heap.size w5.heap.size _ L.length 1 (cellI L) from howz)
      clear qg0_4 zg_4 qg1_4 G_4
      clear howz
      go_wp2_with fail
      have hb6 : Below w5.heap.size w5 (w5.alloc (.cells #[.int .i64 4, .int .i64 A, .slice az L.length cz] 30)) := (Below.refl _ _).alloc (by simp <;> omega) _
      have H6 := bel_trans H5 hb6
      have SZ6 := Lib.hid hb6.size
      have qg0_6 := (hb6.cell (p := ⟨w1.heap.size, 0, none⟩) zg_5).trans qg0_5
      have qg1_6 := (hb6.cell (p := ⟨w1.heap.size, 1, none⟩) zg_5).trans qg1_5
      have zg_6 := Nat.lt_of_lt_of_le zg_5 hb6.size
      have G_6 := Lib.hid (G_5.out.keep hb6)
      have Z_6 := Lib.hid (Z_5.out.keep hb6)
      have qz0_6 : (w5.alloc (.cells #[.int .i64 4, .int .i64 A, .slice az L.length cz] 30)).cell? ⟨w5.heap.size, 0, none⟩ = some (.int .i64 4) := by go_simp
      have qz1_6 : (w5.alloc (.cells #[.int .i64 4, .int .i64 A, .slice az L.length cz] 30)).cell? ⟨w5.heap.size, 1, none⟩ = some (.int .i64 A) := by go_simp
      have qz2_6 : (w5.alloc (.cells #[.int .i64 4, .int .i64 A, .slice az L.length cz] 30)).cell? ⟨w5.heap.size, 2, none⟩ = some (.slice az L.length cz) := by go_simp
      have zz_6 : w5.heap.size < (w5.alloc (.cells #[.int .i64 4, .int .i64 A, .slice az L.length cz] 30)).heap.size := by simp <;> omega
      generalize (w5.alloc (.cells #[.int .i64 4, .int .i64 A, .slice az L.length cz] 30)) = w6 at hb6 H6 SZ6 G_6 Z_6 qg0_6 qg1_6 qz0_6 qz1_6 qz2_6 zg_6 zz_6 ⊢
      have ZBz := Lib.hid zz_6
      clear qg0_5 qg1_5 zg_5 G_5 Z_5
      obtain ⟨_, _, hva9, hz9⟩ := id Z_6.out
      injection hva9 with hv1 hv2 hv3
      subst hv1
      clear hv2 hv3
      rcases hz9 with hz9 | ⟨bz, oz, rfl, hr1, hr2, hr3, hrc⟩
      · have := HLL.out; omega
      have hcl : ∀ k : Nat, k < N → w6.cell? ⟨bz, oz + k, none⟩ = some (.int .i64 (L.getD k 0)) := fun k h => (hrc k (by have := HLL.out; omega)).1
      have HCZ := Lib.hid (And.intro hcl (show bz < w6.heap.size by omega))
      clear hcl hrc hr1 hr2 hr3
      have cz : w6.cell? ⟨bz, oz + X, none⟩ = some (.int .i64 0) := by
        have h9 := HCZ.out.1 X (by omega)
        rw [HY2.out] at h9
        exact h9
      have hXl : (X : Int) < L.length := by have := HLL.out; omega
      have hlz := HCZ.out.2
      go_wp2
      go_simp
      go_wp2
      go_ret
      exact ⟨by first | rfl | simp, H6⟩
    · clear HCC
      have h1' : decide ((0 : Int) < R) = true := by simpa using h1
      have HY2 := Lib.hid (HYY.out.symm.trans h2)
      have hne : ¬ ((X : Int) = A) := by omega
      have hne2 : ((X : Int) != A) = true := by simpa using hne
      clear h2
      go_wp2_with fail
      refine (HVZ.out _ _ G_4.out.edges).mono ?_
      rintro e w5 ⟨vz, rfl, howz, hokz, hb5⟩
      have H5 := bel_trans H4 hb5
      have SZ5 := Lib.hid hb5.size
      have qg0_5 := (hb5.cell (p := ⟨w1.heap.size, 0, none⟩) zg_4).trans qg0_4
      have qg1_5 := (hb5.cell (p := ⟨w1.heap.size, 1, none⟩) zg_4).trans qg1_4
      have zg_5 := Nat.lt_of_lt_of_le zg_4 hb5.size
      have G_5 := Lib.hid (G_4.out.keep hb5)
      obtain ⟨az, cz, rfl, hz9⟩ := id howz
      clear hz9 hokz
      have Z_5 := Lib.hid (show InR true w5 w4.heap.size w5.heap.size _ L.length 1 (cellI L) from howz)
      clear qg0_4 zg_4 qg1_4 G_4
      clear howz
      go_wp2_with fail
      have hb6 : Below w5.heap.size w5 (w5.alloc (.cells #[.int .i64 4, .int .i64 A, .slice az L.length cz] 30)) := (Below.refl _ _).alloc (by simp <;> omega) _
      have H6 := bel_trans H5 hb6
      have SZ6 := Lib.hid hb6.size
      have qg0_6 := (hb6.cell (p := ⟨w1.heap.size, 0, none⟩) zg_5).trans qg0_5
      have qg1_6 := (hb6.cell (p := ⟨w1.heap.size, 1, none⟩) zg_5).trans qg1_5
      have zg_6 := Nat.lt_of_lt_of_le zg_5 hb6.size
      have G_6 := Lib.hid (G_5.out.keep hb6)
      have Z_6 := Lib.hid (Z_5.out.keep hb6)
      have qz0_6 : (w5.alloc (.cells #[.int .i64 4, .int .i64 A, .slice az L.length cz] 30)).cell? ⟨w5.heap.size, 0, none⟩ = some (.int .i64 4) := by go_simp
      have qz1_6 : (w5.alloc (.cells #[.int .i64 4, .int .i64 A, .slice az L.length cz] 30)).cell? ⟨w5.heap.size, 1, none⟩ = some (.int .i64 A) := by go_simp
      have qz2_6 : (w5.alloc (.cells #[.int .i64 4, .int .i64 A, .slice az L.length cz] 30)).cell? ⟨w5.heap.size, 2, none⟩ = some (.slice az L.length cz) := by go_simp
      have zz_6 : w5.heap.size < (w5.alloc (.cells #[.int .i64 4, .int .i64 A, .slice az L.length cz] 30)).heap.size := by simp <;> omega
      generalize (w5.alloc (.cells #[.int .i64 4, .int .i64 A, .slice az L.length cz] 30)) = w6 at hb6 H6 SZ6 G_6 Z_6 qg0_6 qg1_6 qz0_6 qz1_6 qz2_6 zg_6 zz_6 ⊢
      have ZBz := Lib.hid zz_6
      clear qg0_5 qg1_5 zg_5 G_5 Z_5
      obtain ⟨_, _, hva9, hz9⟩ := id Z_6.out
      injection hva9 with hv1 hv2 hv3
      subst hv1
      clear hv2 hv3
      rcases hz9 with hz9 | ⟨bz, oz, rfl, hr1, hr2, hr3, hrc⟩
      · have := HLL.out; omega
      have hcl : ∀ k : Nat, k < N → w6.cell? ⟨bz, oz + k, none⟩ = some (.int .i64 (L.getD k 0)) := fun k h => (hrc k (by have := HLL.out; omega)).1
      have HCZ := Lib.hid (And.intro hcl (show bz < w6.heap.size by omega))
      clear hcl hrc hr1 hr2 hr3
      have cz : w6.cell? ⟨bz, oz + X, none⟩ = some (.int .i64 1) := by
        have h9 := HCZ.out.1 X (by omega)
        rw [HY2.out] at h9
        exact h9
      have hXl : (X : Int) < L.length := by have := HLL.out; omega
      have hlz := HCZ.out.2
      go_wp2
      go_simp
      go_wp2
      go_ret
      exact ⟨by first | rfl | simp, H6⟩
    · clear HCC
      subst h1
      have HY2 := Lib.hid (HYY.out.symm.trans h2)
      subst h3
      clear h2
      go_wp2_with fail
      refine (HVZ.out _ _ G_4.out.edges).mono ?_
      rintro e w5 ⟨vz, rfl, howz, hokz, hb5⟩
      have H5 := bel_trans H4 hb5
      have SZ5 := Lib.hid hb5.size
      have qg0_5 := (hb5.cell (p := ⟨w1.heap.size, 0, none⟩) zg_4).trans qg0_4
      have qg1_5 := (hb5.cell (p := ⟨w1.heap.size, 1, none⟩) zg_4).trans qg1_4
      have zg_5 := Nat.lt_of_lt_of_le zg_4 hb5.size
      have G_5 := Lib.hid (G_4.out.keep hb5)
      obtain ⟨az, cz, rfl, hz9⟩ := id howz
      clear hz9 hokz
      have Z_5 := Lib.hid (show InR true w5 w4.heap.size w5.heap.size _ L.length 1 (cellI L) from howz)
      clear qg0_4 zg_4 qg1_4 G_4
      clear howz
      go_wp2_with fail
      have hb6 : Below w5.heap.size w5 (w5.alloc (.cells #[.int .i64 4, .int .i64 X, .slice az L.length cz] 30)) := (Below.refl _ _).alloc (by simp <;> omega) _
      have H6 := bel_trans H5 hb6
      have SZ6 := Lib.hid hb6.size
      have qg0_6 := (hb6.cell (p := ⟨w1.heap.size, 0, none⟩) zg_5).trans qg0_5
      have qg1_6 := (hb6.cell (p := ⟨w1.heap.size, 1, none⟩) zg_5).trans qg1_5
      have zg_6 := Nat.lt_of_lt_of_le zg_5 hb6.size
      have G_6 := Lib.hid (G_5.out.keep hb6)
      have Z_6 := Lib.hid (Z_5.out.keep hb6)
      have qz0_6 : (w5.alloc (.cells #[.int .i64 4, .int .i64 X, .slice az L.length cz] 30)).cell? ⟨w5.heap.size, 0, none⟩ = some (.int .i64 4) := by go_simp
      have qz1_6 : (w5.alloc (.cells #[.int .i64 4, .int .i64 X, .slice az L.length cz] 30)).cell? ⟨w5.heap.size, 1, none⟩ = some (.int .i64 X) := by go_simp
      have qz2_6 : (w5.alloc (.cells #[.int .i64 4, .int .i64 X, .slice az L.length cz] 30)).cell? ⟨w5.heap.size, 2, none⟩ = some (.slice az L.length cz) := by go_simp
      have zz_6 : w5.heap.size < (w5.alloc (.cells #[.int .i64 4, .int .i64 X, .slice az L.length cz] 30)).heap.size := by simp <;> omega
      generalize (w5.alloc (.cells #[.int .i64 4, .int .i64 X, .slice az L.length cz] 30)) = w6 at hb6 H6 SZ6 G_6 Z_6 qg0_6 qg1_6 qz0_6 qz1_6 qz2_6 zg_6 zz_6 ⊢
      have ZBz := Lib.hid zz_6
      clear qg0_5 qg1_5 zg_5 G_5 Z_5
      obtain ⟨_, _, hva9, hz9⟩ := id Z_6.out
      injection hva9 with hv1 hv2 hv3
      subst hv1
      clear hv2 hv3
      rcases hz9 with hz9 | ⟨bz, oz, rfl, hr1, hr2, hr3, hrc⟩
      · have := HLL.out; omega
      have hcl : ∀ k : Nat, k < N → w6.cell? ⟨bz, oz + k, none⟩ = some (.int .i64 (L.getD k 0)) := fun k h => (hrc k (by have := HLL.out; omega)).1
      have HCZ := Lib.hid (And.intro hcl (show bz < w6.heap.size by omega))
      clear hcl hrc hr1 hr2 hr3
      have cz : w6.cell? ⟨bz, oz + X, none⟩ = some (.int .i64 1) := by
        have h9 := HCZ.out.1 X (by omega)
        rw [HY2.out] at h9
        exact h9
      have hXl : (X : Int) < L.length := by have := HLL.out; omega
      have hlz := HCZ.out.2
      go_wp2
      go_simp
      go_wp2
      go_ret
      exact ⟨by first | rfl | simp, H6⟩

set_option maxRecDepth 100000 in
theorem lifted (os : Os) (started : os.Started) (H : Type) (enc : TypeId × Value → H) :
    ReturnsInHanded {} Try.checked os 8 .any (Rows.fnCountBestSpec.pre6 enc Try.prog Try.f8 Rows.fnCountBestRow.domain false) (Rows.fnCountBestSpec.post enc Try.prog Try.f8 false true false false) := by
  refine returnsInHanded_of_change (C := Try.checked) own started (by kernel_rfl) Try.func8
    (ChangeSpec.witness6 (enc := enc) (C := Try.checked) false ⟨#[], #[.slice none 0 0], []⟩ 8 (by kernel_rfl) (by kernel_rfl) (by kernel_rfl) (by kernel_rfl)) ?_
  intro W base args ds gs before hval0 hW hcnd _
  have hval : ∀ (j : Nat) t v, Try.f8.params[j]? = some t → args[j]? = some v → Value.okWide Try.prog W .any base t v := hval0
  have hW' := hW
  obtain ⟨p, q, hA0, hV, rfl, hfz, hnd⟩ := hW
  have hA : DataW.TrodAll enc Try.prog W 0 (fun _ => true) true Try.f8.params.toList args.toList ds p := hA0
  rw [Try.params8] at hA hval
  obtain ⟨v0, vs0, d0, ds0, p0, q0, hargs, rfl, rfl, h0, r0⟩ := trodAll_cons hA
  obtain ⟨rfl, rfl, rfl⟩ := trodAll_nil r0
  obtain rfl : args = #[v0] := by cases args; simp_all
  obtain ⟨rfl, rfl⟩ := trodVars_none hV
  obtain ⟨a0, len0, cap0, rfl⟩ := okWide_slice Try.underlying22 (hval 0 22 v0 rfl rfl)
  have k0 := h0
  have lt0 : ∀ x ∈ p0, x.block < W.heap.size := by obtain ⟨m, hm⟩ := k0; exact DataW.trod_lt m _ _ _ hm
  obtain ⟨z0, w0⟩ : ∃ zs, IsRow .u8 W a0 len0 cap0 zs := by
    obtain ⟨fuel, hf⟩ := h0
    rcases open_ints Try.underlying22 Try.underlying5 (by kernel_rfl) hf with ⟨hcs, _⟩ | ⟨x, l, c, zs, hcs, _, hl, hm, hz, _, hcell, hwz⟩
    · simp [Value.cells] at hcs
      obtain ⟨rfl, rfl, rfl⟩ := hcs
      exact ⟨[], .inl ⟨rfl, rfl, rfl, rfl⟩⟩
    · simp [Value.cells] at hcs
      obtain ⟨rfl, rfl, rfl⟩ := hcs
      exact ⟨zs, .inr ⟨_, rfl, hl, hm, by simpa using hz, hcell, hwz⟩⟩
  clear hA0 hval0
  refine (walk a0 len0 cap0 z0 W w0).mono fun e W' ⟨he, bel⟩ => ?_
  subst he
  exact ⟨_, rfl, _, _, _, [], _, [], hW', trodAll_mk1 (shut_bool Try.underlying4 _), (trodAll_cons_mk (Below.trod laidOut (by kernel_rfl) (of_decide_eq_true (by kernel_rfl)) k0 bel lt0) trodAll_mk0), rfl, bel.frame _, fun h => by cases h⟩

theorem over : Rows.fnCountBestRow.holds Try.pinned (OpenSpec.ofChange Rows.fnCountBestSpec) :=
  OpenClaim.holds_of_wide 8 Try.f8 rfl rfl rfl rfl rfl rfl rfl ⟨rfl, rfl, rfl, rfl, rfl⟩ rfl rfl rfl rfl rfl (by kernel_rfl) Try.func8 (by kernel_rfl)
    (of_decide_eq_true (by kernel_rfl)) (by unfold Func.isWrapper; first | (rw [if_pos (by decide +kernel)]; kernel_rfl) | (rw [if_neg (by decide +kernel)]; exact ⟨rfl, rfl⟩))
    (fun os started H enc _ => lifted os started H enc)

theorem proved : Rows.FnCountBestSaid := over
end Go.Proofs.Ytjcfefpcilhelaa.fnCountBest
