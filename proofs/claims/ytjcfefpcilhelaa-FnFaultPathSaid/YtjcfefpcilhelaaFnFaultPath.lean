/-
  Proved: at the first fault there is a better path exactly if the right value is better (the law FnFaultPath returns true for every input and leaves it as it was), with no further condition.
-/
import Derived.Test.YtjcfefpcilhelaaRows
import Derived.Test.YtjcfefpcilhelaaDrawV7
import Derived.Test.YtjcfefpcilhelaaFaultL
import Derived.Test.YtjcfefpcilhelaaViewT
import Derived.Test.YtjcfefpcilhelaaStartL
import Derived.Test.YtjcfefpcilhelaaVValS
import Derived.Test.YtjcfefpcilhelaaImpl2
import Derived.WalkKit
import Derived.ProofKit
import Derived.OpenShut
import Derived.ShutString
import Derived.ChangeOld
import Derived.Below
namespace Go.Proofs.Ytjcfefpcilhelaa.fnFaultPath
open Go.Proofs.Ytjcfefpcilhelaa Go.BigFrame
open Go.ChangeShapes Go.WideShapes Go.ChangeAt Go.RowKit
open Go.ChangeMaps (open_string shut_string)
set_option linter.unusedVariables false

theorem own : ownKnob Try.prog.godebug = none := by kernel_rfl
theorem laidOut : laidOutB Try.prog = true := by kernel_rfl

def IsRow (k : IntKind) (w : World) (a : Option Addr) (len cap : Nat) (zs : List Int) : Prop :=
  (a = none ∧ len = 0 ∧ cap = 0 ∧ zs = []) ∨
  ∃ x, a = some x ∧ len ≤ cap ∧ cap ≤ maxLen ∧ zs.length = cap ∧ (∀ i, i < zs.length → w.cell? (x.add i) = some (.int k (zs.getD i 0))) ∧ ∀ n ∈ zs, (Lit.int k n).wf = true

theorem bytes_of {w : World} {a : Option Addr} {len cap : Nat} {zs : List Int} (h : IsRow .u8 w a len cap zs) : Bytes w a len ∧ len ≤ cap ∧ len ≤ 9223372036854775807 := by
  rcases h with ⟨rfl, rfl, rfl, rfl⟩ | ⟨x, rfl, hl, hm, hz, hc, hw⟩
  · exact ⟨.inl rfl, Nat.le_refl _, by omega⟩
  · unfold maxLen at hm
    refine ⟨?_, hl, by omega⟩
    by_cases h0 : len = 0
    · exact .inl h0
    · obtain ⟨b, off, rfl, hc'⟩ := ints_at hc (by omega)
      exact .inr ⟨b, off, rfl, World.block_lt_of_cell? _ _ (hc' 0 (by omega)), fun i hi => ⟨zs[i]?.getD 0, (range_u8 hw i).1, (range_u8 hw i).2, hc' i (by omega)⟩⟩

theorem walk (a0 : Option Addr) (len0 cap0 : Nat) (z0 : List Int) (w : World) (w0 : IsRow .u8 w a0 len0 cap0 z0) :
    Calls Try.prog 6 #[.slice a0 len0 cap0] w fun e w' => e = .returned (.bool true) ∧ Below w.heap.size w w' := by
  obtain ⟨hby, hcp, hn⟩ := bytes_of w0
  have HB0 := Lib.hid hby
  clear hby w0
  by_cases h0 : 1048576 < len0
  · go_enter Try.func6, Try.ntmps6
    go_wp2
    go_ret
    exact ⟨rfl, Below.refl _ _⟩
  have h0' : len0 ≤ 1048576 := by omega
  clear h0
  obtain ⟨w0, hw0⟩ : ∃ w0, w0 = w := ⟨_, rfl⟩
  subst hw0
  have H0 := Below.refl w0.heap.size w0
  go_enter Try.func6, Try.ntmps6
  go_wp2_with fail
  refine (dDrawFirstFault a0 len0 cap0 _ HB0.out hcp (by omega)).mono ?_
  rintro e w1 ⟨n, es, gs, m, src, zs, vs, rfl, hle, hrG, hrV, hb1⟩
  have H1 := bel_trans H0 hb1
  have SZ1 := Lib.hid hb1.size
  obtain ⟨va, vc, rfl, hz9⟩ := id hrG.1
  obtain ⟨vb, vd, rfl, hz8⟩ := id hrV.1
  clear hz9 hz8
  have G_1 := Lib.hid (hrG.1)
  have V_1 := Lib.hid hrV.1
  have hle1 := hle.1
  have hle2 := hle.2
  clear hrG hrV hle
  go_wp2_with fail
  have hb2 : Below w1.heap.size w1 ((w1.alloc (.cells #[.int .i64 n, .slice va es.length vc] 25)).alloc (.cells #[.int .i64 m, .int .i64 src, .slice vb zs.length vd] 30)) := ((Below.refl _ _).alloc (by simp <;> omega) _).alloc (by simp <;> omega) _
  have H2 := bel_trans H1 hb2
  have SZ2 := Lib.hid hb2.size
  have G_2 := Lib.hid (G_1.out.keep hb2)
  have V_2 := Lib.hid (V_1.out.keep hb2)
  have qg0_2 : ((w1.alloc (.cells #[.int .i64 n, .slice va es.length vc] 25)).alloc (.cells #[.int .i64 m, .int .i64 src, .slice vb zs.length vd] 30)).cell? ⟨w1.heap.size, 0, none⟩ = some (.int .i64 n) := by go_simp
  have qg1_2 : ((w1.alloc (.cells #[.int .i64 n, .slice va es.length vc] 25)).alloc (.cells #[.int .i64 m, .int .i64 src, .slice vb zs.length vd] 30)).cell? ⟨w1.heap.size, 1, none⟩ = some (.slice va es.length vc) := by go_simp
  have zg_2 : w1.heap.size < ((w1.alloc (.cells #[.int .i64 n, .slice va es.length vc] 25)).alloc (.cells #[.int .i64 m, .int .i64 src, .slice vb zs.length vd] 30)).heap.size := by simp <;> omega
  have qv0_2 : ((w1.alloc (.cells #[.int .i64 n, .slice va es.length vc] 25)).alloc (.cells #[.int .i64 m, .int .i64 src, .slice vb zs.length vd] 30)).cell? ⟨w1.heap.size + 1, 0, none⟩ = some (.int .i64 m) := by go_simp
  have qv1_2 : ((w1.alloc (.cells #[.int .i64 n, .slice va es.length vc] 25)).alloc (.cells #[.int .i64 m, .int .i64 src, .slice vb zs.length vd] 30)).cell? ⟨w1.heap.size + 1, 1, none⟩ = some (.int .i64 src) := by go_simp
  have qv2_2 : ((w1.alloc (.cells #[.int .i64 n, .slice va es.length vc] 25)).alloc (.cells #[.int .i64 m, .int .i64 src, .slice vb zs.length vd] 30)).cell? ⟨w1.heap.size + 1, 2, none⟩ = some (.slice vb zs.length vd) := by go_simp
  have zv_2 : w1.heap.size + 1 < ((w1.alloc (.cells #[.int .i64 n, .slice va es.length vc] 25)).alloc (.cells #[.int .i64 m, .int .i64 src, .slice vb zs.length vd] 30)).heap.size := by simp <;> omega
  generalize ((w1.alloc (.cells #[.int .i64 n, .slice va es.length vc] 25)).alloc (.cells #[.int .i64 m, .int .i64 src, .slice vb zs.length vd] 30)) = w2 at hb2 H2 SZ2 G_2 V_2 qg0_2 qg1_2 qv0_2 qv1_2 qv2_2 zg_2 zv_2 ⊢
  have ZBg := Lib.hid zg_2
  have ZBv := Lib.hid zv_2
  clear G_1 V_1
  have hlE : es.length ≤ 281474976710656 := by omega
  have hlZ : zs.length ≤ 281474976710656 := by omega
  have hst := fun s t w (h : RowE w s es) (k : Row w t zs) => firstFault n m src es zs s t w h k hlE hlZ
  have hss := fun s t w (h : RowE w s es) (k : Row w t zs) => sFirstFault n m src es zs s t w h k hlE hlZ
  have hbp := fun x s t w (h : RowE w s es) (k : Row w t zs) => betterPath n m src x es zs s t w h k hlE hlZ
  cases hf : ffR n es m src zs with
  | none =>
    rw [hf] at hst hss
    have HST := Lib.hid hst
    have HSS := Lib.hid hss
    clear hst hss hbp hf
    go_wp2_with fail
    refine (HST.out _ _ _ G_2.out.edges V_2.out.rowI).mono ?_
    rintro e w3 ⟨rfl, hb3⟩
    have H3 := bel_trans H2 hb3
    have SZ3 := Lib.hid hb3.size
    have qg0_3 := (hb3.cell (p := ⟨w1.heap.size, 0, none⟩) zg_2).trans qg0_2
    have qg1_3 := (hb3.cell (p := ⟨w1.heap.size, 1, none⟩) zg_2).trans qg1_2
    have zg_3 := Nat.lt_of_lt_of_le zg_2 hb3.size
    have qv0_3 := (hb3.cell (p := ⟨w1.heap.size + 1, 0, none⟩) zv_2).trans qv0_2
    have qv1_3 := (hb3.cell (p := ⟨w1.heap.size + 1, 1, none⟩) zv_2).trans qv1_2
    have qv2_3 := (hb3.cell (p := ⟨w1.heap.size + 1, 2, none⟩) zv_2).trans qv2_2
    have zv_3 := Nat.lt_of_lt_of_le zv_2 hb3.size
    have G_3 := Lib.hid (G_2.out.keep hb3)
    have V_3 := Lib.hid (V_2.out.keep hb3)
    clear qg1_2 G_2 qv0_2 qv1_2 V_2 qg0_2 qv2_2 zg_2 zv_2
    go_wp2_with fail
    refine (HSS.out _ _ _ G_3.out.edges V_3.out.rowI).mono ?_
    rintro e w4 ⟨rfl, hb4⟩
    have H4 := bel_trans H3 hb4
    have SZ4 := Lib.hid hb4.size
    have qg0_4 := (hb4.cell (p := ⟨w1.heap.size, 0, none⟩) zg_3).trans qg0_3
    have qg1_4 := (hb4.cell (p := ⟨w1.heap.size, 1, none⟩) zg_3).trans qg1_3
    have zg_4 := Nat.lt_of_lt_of_le zg_3 hb4.size
    have qv0_4 := (hb4.cell (p := ⟨w1.heap.size + 1, 0, none⟩) zv_3).trans qv0_3
    have qv1_4 := (hb4.cell (p := ⟨w1.heap.size + 1, 1, none⟩) zv_3).trans qv1_3
    have qv2_4 := (hb4.cell (p := ⟨w1.heap.size + 1, 2, none⟩) zv_3).trans qv2_3
    have zv_4 := Nat.lt_of_lt_of_le zv_3 hb4.size
    have G_4 := Lib.hid (G_3.out.keep hb4)
    have V_4 := Lib.hid (V_3.out.keep hb4)
    clear qg0_3 qg1_3 zg_3 qv0_3 qv1_3 qv2_3 zv_3 G_3 V_3
    go_wp2
    go_ret
    exact ⟨by first | rfl | simp, H4⟩
  | some i0 =>
    have hV : vVal n es m src zs = true := by
      unfold ffR at hf
      split at hf
      · assumption
      · cases hf
    rw [hf] at hst hss
    have hff : ffK zs (vIter m es n.toNat (vStart m n src)) = some i0 := by unfold ffR at hf; rw [if_pos hV] at hf; exact hf
    clear hf
    obtain ⟨hgv, hsr, hlen, hmk, hall⟩ := vVal_pts hV
    obtain ⟨hm, hz0, hz12, hz40, hva, hea⟩ := vVal_use hV
    obtain ⟨N, hN⟩ : ∃ N : Nat, n = N := ⟨n.toNat, by omega⟩
    subst hN
    obtain ⟨A, hA⟩ : ∃ A : Nat, src = A := ⟨src.toNat, by omega⟩
    subst hA
    have hNz : zs.length = N := by omega
    have hAN : A < N := by omega
    have hN12 : N ≤ 12 := by omega
    have hi0 : i0 < N := by have := (ffK_some hff).1; omega
    have hea2 : eAll N es := by rw [← hNz]; exact hea
    have honz := onOk_of hgv hsr hmk
    have hbpB := bp_better hmk hV hgv hea2 hva hNz hAN hN12 hi0
    have hfb := fault_better (a := A) hmk hea2 hva hNz hi0
    obtain ⟨L, hL⟩ : ∃ L, L = vRt m (N : Int) es (A : Int) := ⟨_, rfl⟩
    have hvz := fun s w (h : RowE w s es) => viewOf (N : Int) m (A : Int) es s w h hlE
    rw [show stM (N : Int) es m (A : Int) = m by unfold stM; rw [if_pos honz], show stA (N : Int) es m (A : Int) = (A : Int) by unfold stA; rw [if_pos honz], show voL (N : Int) es m (A : Int) = vRt m (N : Int) es (A : Int) by unfold voL; rw [if_pos honz]; rfl, honz, ← hL] at hvz
    rw [← hL] at hbpB hfb
    have hlL : L.length = N := by rw [hL, vRt_length, Int.toNat_natCast]
    have hbp2 := fun s t w (h : RowE w s es) (k : Row w t zs) => hbp (i0 : Int) s t w h k
    rw [hbpB] at hbp2
    have hib := fun w => iIsBetter m (L.getD i0 0) (zs.getD i0 0) w
    rw [hfb] at hib
    obtain ⟨P1, hP1⟩ : ∃ P, P = bpL (N : Int) es m (A : Int) zs (i0 : Int) := ⟨_, rfl⟩
    rw [← hP1] at hbp2
    obtain ⟨y1, hy1⟩ : ∃ y, y = L.getD i0 0 := ⟨_, rfl⟩
    obtain ⟨y2, hy2⟩ : ∃ y, y = zs.getD i0 0 := ⟨_, rfl⟩
    rw [← hy1, ← hy2] at hib hbp2
    obtain ⟨bb, hbb⟩ : ∃ b, b = mBet m y1 y2 := ⟨_, rfl⟩
    rw [← hbb] at hib hbp2
    have e9 : ffO (some i0) = (i0 : Int) := rfl
    rw [e9] at hst hss
    have HST := Lib.hid hst
    have HSS := Lib.hid hss
    have HVZ := Lib.hid hvz
    have HBP := Lib.hid hbp2
    have HIB := Lib.hid hib
    have HLL := Lib.hid hlL
    have HNZ := Lib.hid hNz
    have HYA := Lib.hid hy1
    have HYB := Lib.hid hy2
    clear hst hss hvz hbp hbp2 hib hlL hNz hy1 hy2 hbb hP1 hL honz hbpB hfb hff hea2 hV hgv hsr hlen hall hmk hva hea hm e9
    obtain ⟨_, _, hva9, hz9⟩ := id V_2.out
    injection hva9 with hv1 hv2 hv3
    subst hv1
    clear hv2 hv3
    rcases hz9 with hz9 | ⟨bv, ov, rfl, hr1, hr2, hr3, hrc⟩
    · have := HNZ.out; omega
    have hcl : ∀ k : Nat, k < N → w2.cell? ⟨bv, ov + k, none⟩ = some (.int .i64 (zs.getD k 0)) := fun k h => (hrc k (by have := HNZ.out; omega)).1
    have HCV := Lib.hid (And.intro hcl (show bv < w2.heap.size by omega))
    clear hcl hrc hr1 hr2 hr3
    go_wp2_with fail
    refine (HST.out _ _ _ G_2.out.edges V_2.out.rowI).mono ?_
    rintro e w3 ⟨rfl, hb3⟩
    have H3 := bel_trans H2 hb3
    have SZ3 := Lib.hid hb3.size
    have qg0_3 := (hb3.cell (p := ⟨w1.heap.size, 0, none⟩) zg_2).trans qg0_2
    have qg1_3 := (hb3.cell (p := ⟨w1.heap.size, 1, none⟩) zg_2).trans qg1_2
    have zg_3 := Nat.lt_of_lt_of_le zg_2 hb3.size
    have qv0_3 := (hb3.cell (p := ⟨w1.heap.size + 1, 0, none⟩) zv_2).trans qv0_2
    have qv1_3 := (hb3.cell (p := ⟨w1.heap.size + 1, 1, none⟩) zv_2).trans qv1_2
    have qv2_3 := (hb3.cell (p := ⟨w1.heap.size + 1, 2, none⟩) zv_2).trans qv2_2
    have zv_3 := Nat.lt_of_lt_of_le zv_2 hb3.size
    have G_3 := Lib.hid (G_2.out.keep hb3)
    have V_3 := Lib.hid (V_2.out.keep hb3)
    clear qg1_2 G_2 qv0_2 qv1_2 V_2 qg0_2 qv2_2 zg_2 zv_2
    go_wp2_with fail
    refine (HSS.out _ _ _ G_3.out.edges V_3.out.rowI).mono ?_
    rintro e w4 ⟨rfl, hb4⟩
    have H4 := bel_trans H3 hb4
    have SZ4 := Lib.hid hb4.size
    have qg0_4 := (hb4.cell (p := ⟨w1.heap.size, 0, none⟩) zg_3).trans qg0_3
    have qg1_4 := (hb4.cell (p := ⟨w1.heap.size, 1, none⟩) zg_3).trans qg1_3
    have zg_4 := Nat.lt_of_lt_of_le zg_3 hb4.size
    have qv0_4 := (hb4.cell (p := ⟨w1.heap.size + 1, 0, none⟩) zv_3).trans qv0_3
    have qv1_4 := (hb4.cell (p := ⟨w1.heap.size + 1, 1, none⟩) zv_3).trans qv1_3
    have qv2_4 := (hb4.cell (p := ⟨w1.heap.size + 1, 2, none⟩) zv_3).trans qv2_3
    have zv_4 := Nat.lt_of_lt_of_le zv_3 hb4.size
    have G_4 := Lib.hid (G_3.out.keep hb4)
    have V_4 := Lib.hid (V_3.out.keep hb4)
    clear qg0_3 qg1_3 zg_3 qv0_3 qv1_3 qv2_3 zv_3 G_3 V_3
    go_wp2_with fail
    refine (HBP.out _ _ _ G_4.out.edges V_4.out.rowI).mono ?_
    rintro e w5 ⟨vp, rfl, howp, hb5⟩
    have H5 := bel_trans H4 hb5
    have SZ5 := Lib.hid hb5.size
    have qg0_5 := (hb5.cell (p := ⟨w1.heap.size, 0, none⟩) zg_4).trans qg0_4
    have qg1_5 := (hb5.cell (p := ⟨w1.heap.size, 1, none⟩) zg_4).trans qg1_4
    have zg_5 := Nat.lt_of_lt_of_le zg_4 hb5.size
    have qv0_5 := (hb5.cell (p := ⟨w1.heap.size + 1, 0, none⟩) zv_4).trans qv0_4
    have qv1_5 := (hb5.cell (p := ⟨w1.heap.size + 1, 1, none⟩) zv_4).trans qv1_4
    have qv2_5 := (hb5.cell (p := ⟨w1.heap.size + 1, 2, none⟩) zv_4).trans qv2_4
    have zv_5 := Nat.lt_of_lt_of_le zv_4 hb5.size
    have G_5 := Lib.hid (G_4.out.keep hb5)
    have V_5 := Lib.hid (V_4.out.keep hb5)
    obtain ⟨ap, cp, rfl, hz9⟩ := id howp
    clear hz9
    have P_5 := Lib.hid (howp)
    clear qg0_4 qg1_4 zg_4 qv0_4 qv1_4 qv2_4 zv_4 G_4 V_4
    clear howp
    go_wp2_with fail
    refine (HVZ.out _ _ G_5.out.edges).mono ?_
    rintro e w6 ⟨vz, rfl, howz, hokz, hb6⟩
    have H6 := bel_trans H5 hb6
    have SZ6 := Lib.hid hb6.size
    have qg0_6 := (hb6.cell (p := ⟨w1.heap.size, 0, none⟩) zg_5).trans qg0_5
    have qg1_6 := (hb6.cell (p := ⟨w1.heap.size, 1, none⟩) zg_5).trans qg1_5
    have zg_6 := Nat.lt_of_lt_of_le zg_5 hb6.size
    have qv0_6 := (hb6.cell (p := ⟨w1.heap.size + 1, 0, none⟩) zv_5).trans qv0_5
    have qv1_6 := (hb6.cell (p := ⟨w1.heap.size + 1, 1, none⟩) zv_5).trans qv1_5
    have qv2_6 := (hb6.cell (p := ⟨w1.heap.size + 1, 2, none⟩) zv_5).trans qv2_5
    have zv_6 := Nat.lt_of_lt_of_le zv_5 hb6.size
    have G_6 := Lib.hid (G_5.out.keep hb6)
    have V_6 := Lib.hid (V_5.out.keep hb6)
    have P_6 := Lib.hid (P_5.out.keep hb6)
    obtain ⟨az, cz, rfl, hz9⟩ := id howz
    clear hz9 hokz
    have Z_6 := Lib.hid (show InR true w6 w5.heap.size w6.heap.size _ L.length 1 (cellI L) from howz)
    clear qg0_5 qg1_5 zg_5 qv0_5 qv1_5 qv2_5 zv_5 G_5 V_5 P_5
    clear howz
    go_wp2_with fail
    have hb7 : Below w6.heap.size w6 (w6.alloc (.cells #[.int .i64 m, .int .i64 A, .slice az L.length cz] 30)) := (Below.refl _ _).alloc (by simp <;> omega) _
    have H7 := bel_trans H6 hb7
    have SZ7 := Lib.hid hb7.size
    have qg0_7 := (hb7.cell (p := ⟨w1.heap.size, 0, none⟩) zg_6).trans qg0_6
    have qg1_7 := (hb7.cell (p := ⟨w1.heap.size, 1, none⟩) zg_6).trans qg1_6
    have zg_7 := Nat.lt_of_lt_of_le zg_6 hb7.size
    have qv0_7 := (hb7.cell (p := ⟨w1.heap.size + 1, 0, none⟩) zv_6).trans qv0_6
    have qv1_7 := (hb7.cell (p := ⟨w1.heap.size + 1, 1, none⟩) zv_6).trans qv1_6
    have qv2_7 := (hb7.cell (p := ⟨w1.heap.size + 1, 2, none⟩) zv_6).trans qv2_6
    have zv_7 := Nat.lt_of_lt_of_le zv_6 hb7.size
    have G_7 := Lib.hid (G_6.out.keep hb7)
    have V_7 := Lib.hid (V_6.out.keep hb7)
    have P_7 := Lib.hid (P_6.out.keep hb7)
    have Z_7 := Lib.hid (Z_6.out.keep hb7)
    have qz0_7 : (w6.alloc (.cells #[.int .i64 m, .int .i64 A, .slice az L.length cz] 30)).cell? ⟨w6.heap.size, 0, none⟩ = some (.int .i64 m) := by go_simp
    have qz1_7 : (w6.alloc (.cells #[.int .i64 m, .int .i64 A, .slice az L.length cz] 30)).cell? ⟨w6.heap.size, 1, none⟩ = some (.int .i64 A) := by go_simp
    have qz2_7 : (w6.alloc (.cells #[.int .i64 m, .int .i64 A, .slice az L.length cz] 30)).cell? ⟨w6.heap.size, 2, none⟩ = some (.slice az L.length cz) := by go_simp
    have zz_7 : w6.heap.size < (w6.alloc (.cells #[.int .i64 m, .int .i64 A, .slice az L.length cz] 30)).heap.size := by simp <;> omega
    generalize (w6.alloc (.cells #[.int .i64 m, .int .i64 A, .slice az L.length cz] 30)) = w7 at hb7 H7 SZ7 G_7 P_7 V_7 Z_7 qg0_7 qg1_7 qv0_7 qv1_7 qv2_7 qz0_7 qz1_7 qz2_7 zg_7 zv_7 zz_7 ⊢
    have ZBz := Lib.hid zz_7
    clear qg0_6 qg1_6 zg_6 qv0_6 qv1_6 qv2_6 zv_6 G_6 V_6 P_6 Z_6
    obtain ⟨_, _, hva9, hz9⟩ := id Z_7.out
    injection hva9 with hv1 hv2 hv3
    subst hv1
    clear hv2 hv3
    rcases hz9 with hz9 | ⟨bz, oz, rfl, hr1, hr2, hr3, hrc⟩
    · have := HLL.out; omega
    have hcl : ∀ k : Nat, k < N → w7.cell? ⟨bz, oz + k, none⟩ = some (.int .i64 (L.getD k 0)) := fun k h => (hrc k (by have := HLL.out; omega)).1
    have HCZ := Lib.hid (And.intro hcl (show bz < w7.heap.size by omega))
    clear hcl hrc hr1 hr2 hr3
    have hkv' : (i0 : Int) < zs.length := by have := HNZ.out; omega
    have hkl' : (i0 : Int) < L.length := by have := HLL.out; omega
    have cvk : w7.cell? ⟨bv, ov + i0, none⟩ = some (.int .i64 y2) := by
      have h9 := HCV.out.1 i0 hi0
      rw [← HYB.out] at h9
      exact ((bel_trans (bel_trans (bel_trans (bel_trans hb3 hb4) hb5) hb6) hb7).cell (p := ⟨bv, _, none⟩) HCV.out.2).trans h9
    have czk : w7.cell? ⟨bz, oz + i0, none⟩ = some (.int .i64 y1) := by
      have h9 := HCZ.out.1 i0 hi0
      rw [← HYA.out] at h9
      exact h9
    have hlv : bv < w7.heap.size := Nat.lt_of_lt_of_le HCV.out.2 ((bel_trans (bel_trans (bel_trans (bel_trans hb3 hb4) hb5) hb6) hb7)).size
    have hlz := HCZ.out.2
    have hff : ∀ w' : World, Below w7.heap.size w7 w' → (w'.cell? ⟨w1.heap.size + 1, 0, none⟩ = some (.int .i64 m) ∧ w'.cell? ⟨w1.heap.size + 1, 2, none⟩ = some (.slice (some ⟨bv, ov, none⟩) zs.length vd) ∧ w'.cell? ⟨w6.heap.size, 2, none⟩ = some (.slice (some ⟨bz, oz, none⟩) L.length cz) ∧ w'.cell? ⟨bv, ov + i0, none⟩ = some (.int .i64 y2) ∧ w'.cell? ⟨bz, oz + i0, none⟩ = some (.int .i64 y1)) := fun w' h => ⟨(h.cell (p := ⟨w1.heap.size + 1, 0, none⟩) zv_7).trans qv0_7, (h.cell (p := ⟨w1.heap.size + 1, 2, none⟩) zv_7).trans qv2_7, (h.cell (p := ⟨w6.heap.size, 2, none⟩) zz_7).trans qz2_7, (h.cell (p := ⟨bv, ov + i0, none⟩) hlv).trans cvk, (h.cell (p := ⟨bz, oz + i0, none⟩) hlz).trans czk⟩
    have FF := Lib.hid hff
    clear hff
    go_wp2_with fail
    refine wp_region_below (by kernel_rfl) (by kernel_rfl) ?_
    repeat (go_big_quiet_step ((intro hw; first | with_reducible rfl | (obtain ⟨f0, f1, f2, f3, f4⟩ := FF.out _ hw; simp only [f0, f1, f2, f3, f4, Result.andThen]; first | exact ⟨trivial, rfl⟩ | exact ⟨rfl, rfl⟩) | (go_at_call 30; exact quietB (HIB.out _) hw))))
    refine wpQuiet_nil ?_
    intro w90 hbw90
    go_wp2
    go_ret
    exact ⟨by first | rfl | simp, bel_trans H7 hbw90⟩

set_option maxRecDepth 100000 in
theorem lifted (os : Os) (started : os.Started) (H : Type) (enc : TypeId × Value → H) :
    ReturnsInHanded {} Try.checked os 6 .any (Rows.fnFaultPathSpec.pre6 enc Try.prog Try.f6 Rows.fnFaultPathRow.domain false) (Rows.fnFaultPathSpec.post enc Try.prog Try.f6 false true false false) := by
  refine returnsInHanded_of_change (C := Try.checked) own started (by kernel_rfl) Try.func6
    (ChangeSpec.witness6 (enc := enc) (C := Try.checked) false ⟨#[], #[.slice none 0 0], []⟩ 8 (by kernel_rfl) (by kernel_rfl) (by kernel_rfl) (by kernel_rfl)) ?_
  intro W base args ds gs before hval0 hW hcnd _
  have hval : ∀ (j : Nat) t v, Try.f6.params[j]? = some t → args[j]? = some v → Value.okWide Try.prog W .any base t v := hval0
  have hW' := hW
  obtain ⟨p, q, hA0, hV, rfl, hfz, hnd⟩ := hW
  have hA : DataW.TrodAll enc Try.prog W 0 (fun _ => true) true Try.f6.params.toList args.toList ds p := hA0
  rw [Try.params6] at hA hval
  obtain ⟨v0, vs0, d0, ds0, p0, q0, hargs, rfl, rfl, h0, r0⟩ := trodAll_cons hA
  obtain ⟨rfl, rfl, rfl⟩ := trodAll_nil r0
  obtain rfl : args = #[v0] := by cases args; simp_all
  obtain ⟨rfl, rfl⟩ := trodVars_none hV
  obtain ⟨a0, len0, cap0, rfl⟩ := okWide_slice Try.underlying22 (hval 0 22 v0 rfl rfl)
  have k0 := h0
  have lt0 : ∀ x ∈ p0, x.block < W.heap.size := by obtain ⟨m, hm⟩ := k0; exact DataW.trod_lt m _ _ _ hm
  obtain ⟨z0, w0⟩ : ∃ zs, IsRow .u8 W a0 len0 cap0 zs := by
    obtain ⟨fuel, hf⟩ := h0
    rcases open_ints Try.underlying22 Try.underlying5 (by kernel_rfl) hf with ⟨hcs, _⟩ | ⟨x, l, c, zs, hcs, _, hl, hm, hz, _, hcell, hwz⟩
    · simp [Value.cells] at hcs
      obtain ⟨rfl, rfl, rfl⟩ := hcs
      exact ⟨[], .inl ⟨rfl, rfl, rfl, rfl⟩⟩
    · simp [Value.cells] at hcs
      obtain ⟨rfl, rfl, rfl⟩ := hcs
      exact ⟨zs, .inr ⟨_, rfl, hl, hm, by simpa using hz, hcell, hwz⟩⟩
  clear hA0 hval0
  refine (walk a0 len0 cap0 z0 W w0).mono fun e W' ⟨he, bel⟩ => ?_
  subst he
  exact ⟨_, rfl, _, _, _, [], _, [], hW', trodAll_mk1 (shut_bool Try.underlying4 _), (trodAll_cons_mk (Below.trod laidOut (by kernel_rfl) (of_decide_eq_true (by kernel_rfl)) k0 bel lt0) trodAll_mk0), rfl, bel.frame _, fun h => by cases h⟩

theorem over : Rows.fnFaultPathRow.holds Try.pinned (OpenSpec.ofChange Rows.fnFaultPathSpec) :=
  OpenClaim.holds_of_wide 6 Try.f6 rfl rfl rfl rfl rfl rfl rfl ⟨rfl, rfl, rfl, rfl, rfl⟩ rfl rfl rfl rfl rfl (by kernel_rfl) Try.func6 (by kernel_rfl)
    (of_decide_eq_true (by kernel_rfl)) (by unfold Func.isWrapper; first | (rw [if_pos (by decide +kernel)]; kernel_rfl) | (rw [if_neg (by decide +kernel)]; exact ⟨rfl, rfl⟩))
    (fun os started H enc _ => lifted os started H enc)

theorem proved : Rows.FnFaultPathSaid := over
end Go.Proofs.Ytjcfefpcilhelaa.fnFaultPath
