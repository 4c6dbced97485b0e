/-
  Proved: relaxing keeps a view valid, and as many rounds as there are nodes make it stable (the law FnViewValid returns true for every input and leaves it as it was), with no further condition.
-/
import Derived.Test.YtbcbknebjbelmaaRows
import Derived.Test.YtbcbknebjbelmaaDrawsV
import Derived.Test.YtbcbknebjbelmaaStableS
import Derived.Test.YtbcbknebjbelmaaRelaxN
import Derived.Test.YtbcbknebjbelmaaEndV
import Derived.Test.YtbcbknebjbelmaaStartL
import Derived.Test.YtbcbknebjbelmaaBestB
import Derived.WalkKit
import Derived.ProofKit
import Derived.OpenShut
import Derived.ShutString
import Derived.ChangeOld
import Derived.Below
namespace Go.Proofs.Ytbcbknebjbelmaa.fnViewValid
open Go.Proofs.Ytbcbknebjbelmaa Go.BigFrame
open Go.ChangeShapes Go.WideShapes Go.ChangeAt Go.RowKit
open Go.ChangeMaps (open_string shut_string)
set_option linter.unusedVariables false

theorem own : ownKnob Try.prog.godebug = none := by kernel_rfl
theorem laidOut : laidOutB Try.prog = true := by kernel_rfl

def IsRow (k : IntKind) (w : World) (a : Option Addr) (len cap : Nat) (zs : List Int) : Prop :=
  (a = none ∧ len = 0 ∧ cap = 0 ∧ zs = []) ∨
  ∃ x, a = some x ∧ len ≤ cap ∧ cap ≤ maxLen ∧ zs.length = cap ∧ (∀ i, i < zs.length → w.cell? (x.add i) = some (.int k (zs.getD i 0))) ∧ ∀ n ∈ zs, (Lit.int k n).wf = true

theorem bytes_of {w : World} {a : Option Addr} {len cap : Nat} {zs : List Int} (h : IsRow .u8 w a len cap zs) : Bytes w a len ∧ len ≤ cap ∧ len ≤ 9223372036854775807 := by
  rcases h with ⟨rfl, rfl, rfl, rfl⟩ | ⟨x, rfl, hl, hm, hz, hc, hw⟩
  · exact ⟨.inl rfl, Nat.le_refl _, by omega⟩
  · unfold maxLen at hm
    refine ⟨?_, hl, by omega⟩
    by_cases h0 : len = 0
    · exact .inl h0
    · obtain ⟨b, off, rfl, hc'⟩ := ints_at hc (by omega)
      exact .inr ⟨b, off, rfl, World.block_lt_of_cell? _ _ (hc' 0 (by omega)), fun i hi => ⟨zs[i]?.getD 0, (range_u8 hw i).1, (range_u8 hw i).2, hc' i (by omega)⟩⟩

set_option maxRecDepth 100000 in
set_option maxHeartbeats 4000000 in
theorem walk (a0 : Option Addr) (len0 cap0 : Nat) (z0 : List Int) (w : World) (w0 : IsRow .u8 w a0 len0 cap0 z0) :
    Calls Try.prog 3 #[.slice a0 len0 cap0] w fun e w' => e = .returned (.bool true) ∧ Below w.heap.size w w' := by
  obtain ⟨hby, hcp, hn⟩ := bytes_of w0
  have HB0 := Lib.hid hby
  clear hby w0
  by_cases h0 : 1048576 < len0
  · go_enter Try.func3, Try.ntmps3
    go_wp2
    go_ret
    exact ⟨rfl, Below.refl _ _⟩
  have h0' : len0 ≤ 1048576 := by omega
  clear h0
  obtain ⟨w0, hw0⟩ : ∃ w0, w0 = w := ⟨_, rfl⟩
  subst hw0
  have H0 := Below.refl w0.heap.size w0
  go_enter Try.func3, Try.ntmps3
  go_wp2_with fail
  refine (dDrawViewValid a0 len0 cap0 _ HB0.out hcp (by omega)).mono ?_
  rintro e w1 ⟨n, es, gs, m, src, zs, vs, rfl, hle, hrG, hrV, hb1⟩
  have H1 := bel_trans H0 hb1
  have SZ1 := Lib.hid hb1.size
  obtain ⟨va, vc, rfl, hz9⟩ := id hrG.1
  obtain ⟨vb, vd, rfl, hz8⟩ := id hrV.1
  clear hz9 hz8
  have G_1 := Lib.hid (hrG.1)
  have V_1 := Lib.hid hrV.1
  have hle1 := hle.1
  have hle2 := hle.2
  clear hrG hrV hle
  go_wp2_with fail
  have hb2 : Below w1.heap.size w1 ((w1.alloc (.cells #[.int .i64 n, .slice va es.length vc] 25)).alloc (.cells #[.int .i64 m, .int .i64 src, .slice vb zs.length vd] 28)) := ((Below.refl _ _).alloc (by simp <;> omega) _).alloc (by simp <;> omega) _
  have H2 := bel_trans H1 hb2
  have SZ2 := Lib.hid hb2.size
  have G_2 := Lib.hid (G_1.out.keep hb2)
  have V_2 := Lib.hid (V_1.out.keep hb2)
  have qg0_2 : ((w1.alloc (.cells #[.int .i64 n, .slice va es.length vc] 25)).alloc (.cells #[.int .i64 m, .int .i64 src, .slice vb zs.length vd] 28)).cell? ⟨w1.heap.size, 0, none⟩ = some (.int .i64 n) := by go_simp
  have qg1_2 : ((w1.alloc (.cells #[.int .i64 n, .slice va es.length vc] 25)).alloc (.cells #[.int .i64 m, .int .i64 src, .slice vb zs.length vd] 28)).cell? ⟨w1.heap.size, 1, none⟩ = some (.slice va es.length vc) := by go_simp
  have zg_2 : w1.heap.size < ((w1.alloc (.cells #[.int .i64 n, .slice va es.length vc] 25)).alloc (.cells #[.int .i64 m, .int .i64 src, .slice vb zs.length vd] 28)).heap.size := by simp <;> omega
  have qv0_2 : ((w1.alloc (.cells #[.int .i64 n, .slice va es.length vc] 25)).alloc (.cells #[.int .i64 m, .int .i64 src, .slice vb zs.length vd] 28)).cell? ⟨w1.heap.size + 1, 0, none⟩ = some (.int .i64 m) := by go_simp
  have qv1_2 : ((w1.alloc (.cells #[.int .i64 n, .slice va es.length vc] 25)).alloc (.cells #[.int .i64 m, .int .i64 src, .slice vb zs.length vd] 28)).cell? ⟨w1.heap.size + 1, 1, none⟩ = some (.int .i64 src) := by go_simp
  have qv2_2 : ((w1.alloc (.cells #[.int .i64 n, .slice va es.length vc] 25)).alloc (.cells #[.int .i64 m, .int .i64 src, .slice vb zs.length vd] 28)).cell? ⟨w1.heap.size + 1, 2, none⟩ = some (.slice vb zs.length vd) := by go_simp
  have zv_2 : w1.heap.size + 1 < ((w1.alloc (.cells #[.int .i64 n, .slice va es.length vc] 25)).alloc (.cells #[.int .i64 m, .int .i64 src, .slice vb zs.length vd] 28)).heap.size := by simp <;> omega
  generalize ((w1.alloc (.cells #[.int .i64 n, .slice va es.length vc] 25)).alloc (.cells #[.int .i64 m, .int .i64 src, .slice vb zs.length vd] 28)) = w2 at hb2 H2 SZ2 G_2 V_2 qg0_2 qg1_2 qv0_2 qv1_2 qv2_2 zg_2 zv_2 ⊢
  have ZBg := Lib.hid zg_2
  have ZBv := Lib.hid zv_2
  clear G_1 V_1
  have hlE : es.length ≤ 281474976710656 := by omega
  have hlZ : zs.length ≤ 281474976710656 := by omega
  have hst := fun s t w (h : RowE w s es) (k : Row w t zs) => viewValid n m src es zs s t w h k hlE hlZ
  have hss := fun s t w (h : RowE w s es) (k : Row w t zs) => sViewValid n m src es zs s t w h k hlE hlZ
  cases hV : vVal n es m src zs
  · rw [hV] at hst hss
    have HST := Lib.hid hst
    have HSS := Lib.hid hss
    clear hst hss hV
    go_wp2_with fail
    refine (HST.out _ _ _ G_2.out.edges V_2.out.rowI).mono ?_
    rintro e w3 ⟨rfl, hb3⟩
    have H3 := bel_trans H2 hb3
    have SZ3 := Lib.hid hb3.size
    have qg0_3 := (hb3.cell (p := ⟨w1.heap.size, 0, none⟩) zg_2).trans qg0_2
    have qg1_3 := (hb3.cell (p := ⟨w1.heap.size, 1, none⟩) zg_2).trans qg1_2
    have zg_3 := Nat.lt_of_lt_of_le zg_2 hb3.size
    have qv0_3 := (hb3.cell (p := ⟨w1.heap.size + 1, 0, none⟩) zv_2).trans qv0_2
    have qv1_3 := (hb3.cell (p := ⟨w1.heap.size + 1, 1, none⟩) zv_2).trans qv1_2
    have qv2_3 := (hb3.cell (p := ⟨w1.heap.size + 1, 2, none⟩) zv_2).trans qv2_2
    have zv_3 := Nat.lt_of_lt_of_le zv_2 hb3.size
    have G_3 := Lib.hid (G_2.out.keep hb3)
    have V_3 := Lib.hid (V_2.out.keep hb3)
    clear qv1_2 qv0_2 qg1_2 G_2 V_2 qv2_2 qg0_2 zv_2 zg_2
    go_wp2_with fail
    refine (HSS.out _ _ _ G_3.out.edges V_3.out.rowI).mono ?_
    rintro e w4 ⟨rfl, hb4⟩
    have H4 := bel_trans H3 hb4
    have SZ4 := Lib.hid hb4.size
    have qg0_4 := (hb4.cell (p := ⟨w1.heap.size, 0, none⟩) zg_3).trans qg0_3
    have qg1_4 := (hb4.cell (p := ⟨w1.heap.size, 1, none⟩) zg_3).trans qg1_3
    have zg_4 := Nat.lt_of_lt_of_le zg_3 hb4.size
    have qv0_4 := (hb4.cell (p := ⟨w1.heap.size + 1, 0, none⟩) zv_3).trans qv0_3
    have qv1_4 := (hb4.cell (p := ⟨w1.heap.size + 1, 1, none⟩) zv_3).trans qv1_3
    have qv2_4 := (hb4.cell (p := ⟨w1.heap.size + 1, 2, none⟩) zv_3).trans qv2_3
    have zv_4 := Nat.lt_of_lt_of_le zv_3 hb4.size
    have G_4 := Lib.hid (G_3.out.keep hb4)
    have V_4 := Lib.hid (V_3.out.keep hb4)
    clear qg0_3 qg1_3 zg_3 qv0_3 qv1_3 qv2_3 zv_3 G_3 V_3
    go_wp2_with fail
    refine (HSS.out _ _ _ G_4.out.edges V_4.out.rowI).mono ?_
    rintro e w5 ⟨rfl, hb5⟩
    have H5 := bel_trans H4 hb5
    have SZ5 := Lib.hid hb5.size
    have qg0_5 := (hb5.cell (p := ⟨w1.heap.size, 0, none⟩) zg_4).trans qg0_4
    have qg1_5 := (hb5.cell (p := ⟨w1.heap.size, 1, none⟩) zg_4).trans qg1_4
    have zg_5 := Nat.lt_of_lt_of_le zg_4 hb5.size
    have qv0_5 := (hb5.cell (p := ⟨w1.heap.size + 1, 0, none⟩) zv_4).trans qv0_4
    have qv1_5 := (hb5.cell (p := ⟨w1.heap.size + 1, 1, none⟩) zv_4).trans qv1_4
    have qv2_5 := (hb5.cell (p := ⟨w1.heap.size + 1, 2, none⟩) zv_4).trans qv2_4
    have zv_5 := Nat.lt_of_lt_of_le zv_4 hb5.size
    have G_5 := Lib.hid (G_4.out.keep hb5)
    have V_5 := Lib.hid (V_4.out.keep hb5)
    clear qg0_4 qg1_4 zg_4 qv0_4 qv1_4 qv2_4 zv_4 G_4 V_4
    go_wp2
    go_ret
    exact ⟨rfl, H5⟩
  · rw [hV] at hst hss
    obtain ⟨hgv, hsr, hlen, hmk, hall⟩ := vVal_parts hV
    obtain ⟨hm, hz0, hz12, hz40, hva, hea⟩ := vVal_use hV
    obtain ⟨N, hN⟩ : ∃ N : Nat, n = N := ⟨n.toNat, by omega⟩
    subst hN
    obtain ⟨A, hA⟩ : ∃ A : Nat, src = A := ⟨src.toNat, by omega⟩
    subst hA
    have hNz : zs.length = N := by omega
    have hAN : A < N := by omega
    have hN12 : N ≤ 12 := by omega
    have hlN : zs.length = (N : Int).toNat := by omega
    have hrx := fun (k : Nat) s t w h1 h2 => relaxN hgv hsr hmk hlN hva k s t w h1 h2 hlE
    have hvi := fun k : Nat => vVal_iter hgv hsr hmk hlN hva k
    have hvv := fun (k : Nat) s t w (h : RowE w s es) (h2 : Row w t (vIter m es k zs)) => viewValid (N : Int) m (A : Int) es (vIter m es k zs) s t w h h2 hlE (by rw [vIter_length]; omega)
    have hvv2 : ∀ (k : Nat) s t w (h : RowE w s es) (h2 : Row w t (vIter m es k zs)), Calls Try.prog 16 #[.agg #[.int .i64 (N : Int), s], .agg #[.int .i64 m, .int .i64 (A : Int), t]] w fun e w' => e = .returned (.bool true) ∧ Below w.heap.size w w' := fun k s t w h h2 => by have := hvv k s t w h h2; rw [hvi k] at this; exact this
    have his : isB (N : Int) es m (A : Int) (vIter m es N zs) = true := isB_of (hvi N) (vEndG hmk hva hea (k := N) (by omega))
    have hsb := fun s t w (h : RowE w s es) (h2 : Row w t (vIter m es N zs)) => isStable (N : Int) m (A : Int) es (vIter m es N zs) s t w h h2 hlE (by rw [vIter_length]; omega)
    rw [his] at hsb
    have hil := fun k : Nat => (vIter_length m es zs k).trans hNz
    have HST := Lib.hid hst
    have HSS := Lib.hid hss
    have HRX := Lib.hid hrx
    have HVV := Lib.hid hvv2
    have HSB := Lib.hid hsb
    have HIL := Lib.hid hil
    have HNZ := Lib.hid hNz
    clear hst hss hrx hvv hvv2 hvi his hsb hil hNz hlN hV hgv hsr hlen hall hva hea hmk hm
    go_wp2_with fail
    refine (HST.out _ _ _ G_2.out.edges V_2.out.rowI).mono ?_
    rintro e w3 ⟨rfl, hb3⟩
    have H3 := bel_trans H2 hb3
    have SZ3 := Lib.hid hb3.size
    have qg0_3 := (hb3.cell (p := ⟨w1.heap.size, 0, none⟩) zg_2).trans qg0_2
    have qg1_3 := (hb3.cell (p := ⟨w1.heap.size, 1, none⟩) zg_2).trans qg1_2
    have zg_3 := Nat.lt_of_lt_of_le zg_2 hb3.size
    have qv0_3 := (hb3.cell (p := ⟨w1.heap.size + 1, 0, none⟩) zv_2).trans qv0_2
    have qv1_3 := (hb3.cell (p := ⟨w1.heap.size + 1, 1, none⟩) zv_2).trans qv1_2
    have qv2_3 := (hb3.cell (p := ⟨w1.heap.size + 1, 2, none⟩) zv_2).trans qv2_2
    have zv_3 := Nat.lt_of_lt_of_le zv_2 hb3.size
    have G_3 := Lib.hid (G_2.out.keep hb3)
    have V_3 := Lib.hid (V_2.out.keep hb3)
    clear qv1_2 qv0_2 qg1_2 G_2 V_2 qv2_2 qg0_2 zv_2 zg_2
    go_wp2_with fail
    refine (HSS.out _ _ _ G_3.out.edges V_3.out.rowI).mono ?_
    rintro e w4 ⟨rfl, hb4⟩
    have H4 := bel_trans H3 hb4
    have SZ4 := Lib.hid hb4.size
    have qg0_4 := (hb4.cell (p := ⟨w1.heap.size, 0, none⟩) zg_3).trans qg0_3
    have qg1_4 := (hb4.cell (p := ⟨w1.heap.size, 1, none⟩) zg_3).trans qg1_3
    have zg_4 := Nat.lt_of_lt_of_le zg_3 hb4.size
    have qv0_4 := (hb4.cell (p := ⟨w1.heap.size + 1, 0, none⟩) zv_3).trans qv0_3
    have qv1_4 := (hb4.cell (p := ⟨w1.heap.size + 1, 1, none⟩) zv_3).trans qv1_3
    have qv2_4 := (hb4.cell (p := ⟨w1.heap.size + 1, 2, none⟩) zv_3).trans qv2_3
    have zv_4 := Nat.lt_of_lt_of_le zv_3 hb4.size
    have G_4 := Lib.hid (G_3.out.keep hb4)
    have V_4 := Lib.hid (V_3.out.keep hb4)
    clear qg0_3 qg1_3 zg_3 qv0_3 qv1_3 qv2_3 zv_3 G_3 V_3
    go_wp2_with fail
    have BXx0 := Box.new w4 28 #[.int .i64 m, .int .i64 A, .slice vb zs.length vd]
    have hb5 : Below w4.heap.size w4 (w4.alloc (.cells #[.int .i64 m, .int .i64 A, .slice vb zs.length vd] 28)) := (Below.refl _ _).alloc (by simp <;> omega) _
    have H5 := bel_trans H4 hb5
    have SZ5 := Lib.hid hb5.size
    have qg0_5 := (hb5.cell (p := ⟨w1.heap.size, 0, none⟩) zg_4).trans qg0_4
    have qg1_5 := (hb5.cell (p := ⟨w1.heap.size, 1, none⟩) zg_4).trans qg1_4
    have zg_5 := Nat.lt_of_lt_of_le zg_4 hb5.size
    have qv0_5 := (hb5.cell (p := ⟨w1.heap.size + 1, 0, none⟩) zv_4).trans qv0_4
    have qv1_5 := (hb5.cell (p := ⟨w1.heap.size + 1, 1, none⟩) zv_4).trans qv1_4
    have qv2_5 := (hb5.cell (p := ⟨w1.heap.size + 1, 2, none⟩) zv_4).trans qv2_4
    have zv_5 := Nat.lt_of_lt_of_le zv_4 hb5.size
    have G_5 := Lib.hid (G_4.out.keep hb5)
    have V_5 := Lib.hid (V_4.out.keep hb5)
    have qx0_5 : (w4.alloc (.cells #[.int .i64 m, .int .i64 A, .slice vb zs.length vd] 28)).cell? ⟨w4.heap.size, 0, none⟩ = some (.int .i64 m) := by go_simp
    have qx1_5 : (w4.alloc (.cells #[.int .i64 m, .int .i64 A, .slice vb zs.length vd] 28)).cell? ⟨w4.heap.size, 1, none⟩ = some (.int .i64 A) := by go_simp
    have qx2_5 : (w4.alloc (.cells #[.int .i64 m, .int .i64 A, .slice vb zs.length vd] 28)).cell? ⟨w4.heap.size, 2, none⟩ = some (.slice vb zs.length vd) := by go_simp
    have zx_5 : w4.heap.size < (w4.alloc (.cells #[.int .i64 m, .int .i64 A, .slice vb zs.length vd] 28)).heap.size := by simp <;> omega
    have BXx : Box (w4.alloc (.cells #[.int .i64 m, .int .i64 A, .slice vb zs.length vd] 28)) w4.heap.size 28 #[.int .i64 m, .int .i64 A, .slice vb zs.length vd] := BXx0
    generalize (w4.alloc (.cells #[.int .i64 m, .int .i64 A, .slice vb zs.length vd] 28)) = w5 at BXx hb5 H5 SZ5 G_5 V_5 qg0_5 qg1_5 qv0_5 qv1_5 qv2_5 qx0_5 qx1_5 qx2_5 zg_5 zv_5 zx_5 ⊢
    have ZBx := Lib.hid zx_5
    clear qg0_4 qg1_4 zg_4 qv0_4 qv1_4 qv2_4 zv_4 G_4 V_4
    have s1 := SZ1.out
    have s2 := SZ2.out
    have s3 := SZ3.out
    have s4 := SZ4.out
    have s5 := SZ5.out
    have hzg := ZBg.out
    have hzv := ZBv.out
    have hzx := ZBx.out
    have hV9 := V_5.out
    rw [HNZ.out] at hV9 BXx
    have HV9 := Lib.hid (And.intro BXx hV9)
    clear BXx BXx0 hV9
    go_wp2_with fail
    go_loopw [7] (fun c wr => ∃ k : Nat, k ≤ N ∧ c = .int .i64 k ∧ Hid (Chg (w4.heap.size) (w4.heap.size + 1) w5 wr) ∧ Hid (∃ za zc lo hi, Box wr (w4.heap.size) 28 #[.int .i64 m, .int .i64 A, .slice za N zc] ∧ InR true wr lo hi (.slice za N zc) N 1 (cellI (vIter m es k zs)) ∧ hi ≤ wr.heap.size ∧ (hi ≤ w4.heap.size ∨ w4.heap.size + 1 ≤ lo))) (fun c _ => N - (intOf c).toNat)
    case atStart => exact ⟨0, Nat.zero_le _, rfl, Lib.hid (Chg.refl _ _ _), Lib.hid ⟨vb, vd, _, _, HV9.out.1, HV9.out.2, by omega, .inl (by omega)⟩⟩
    case round =>
      obtain ⟨k, hk, rfl, HCH, HZZ⟩ := hrel
      obtain ⟨za, zc, lo, hi, hbz, hzr, hhi, hdj⟩ := HZZ.out
      have qg0_r := (HCH.out.cell (p := ⟨w1.heap.size, 0, none⟩) zg_5 (.inl (by simp only; omega))).trans qg0_5
      have qg1_r := (HCH.out.cell (p := ⟨w1.heap.size, 1, none⟩) zg_5 (.inl (by simp only; omega))).trans qg1_5
      have sch := HCH.out.size
      have G_r := Lib.hid (G_5.out.chg HCH.out (.inr (by omega)))
      have HBR := Lib.hid (bel_chg H5 HCH.out (by omega))
      have z0 : wr.cell? ⟨w4.heap.size, 0, none⟩ = some (.int .i64 m) := by simpa using hbz.cell 0
      have z1 : wr.cell? ⟨w4.heap.size, 1, none⟩ = some (.int .i64 A) := by simpa using hbz.cell 1
      have z2 : wr.cell? ⟨w4.heap.size, 2, none⟩ = some (.slice za N zc) := by simpa using hbz.cell 2
      have hrw : Row wr (.slice za N zc) (vIter m es k zs) := by have h9 := hzr; rw [← HIL.out k] at h9; have h8 := InR.rowI h9; rw [HIL.out k] at h8; exact h8
      have HBZ := Lib.hid (And.intro hbz hrw)
      have hbzl := hbz.lt
      clear hbz hzr hrw HZZ
      by_cases hlt : k < N
      · have hlt' : (k : Int) < N := by omega
        go_wp2_with fail
        refine (HRX.out k _ _ _ G_r.out.edges HBZ.out.2).mono ?_
        rintro e w50 ⟨v5, rfl, how5, hok5, hb5⟩
        obtain ⟨a5, c5, rfl, hz9⟩ := id how5
        have how6 : InR true w50 wr.heap.size w50.heap.size (.slice a5 (vIter m es (k + 1) zs).length c5) (vIter m es (k + 1) zs).length 1 (cellI (vIter m es (k + 1) zs)) := how5
        rw [HIL.out (k + 1)] at how6
        have hrow5 := OwnV.row how5
        have HO5 := Lib.hid (And.intro how6 hrow5)
        clear hz9 hok5 how5 how6 hrow5
        have HB5 := Lib.hid hb5
        have hs5 := hb5.size
        have hB5 := Lib.hid (HBZ.out.1.keep hb5)
        have zg_5 : w1.heap.size < w50.heap.size := by omega
        have zg_r : w1.heap.size < wr.heap.size := by omega
        have qg0_5 := (hb5.cell (p := ⟨w1.heap.size, 0, none⟩) (by simp only; omega)).trans qg0_r
        have qg1_5 := (hb5.cell (p := ⟨w1.heap.size, 1, none⟩) (by simp only; omega)).trans qg1_r
        rw [HIL.out (k + 1)]
        clear hb5 z0 z1 z2 qg0_r qg1_r
        go_wp2_with fail
        have hbA : Below w50.heap.size w50 (w50.alloc (.cells #[.int .i64 m, .int .i64 A, .slice a5 N c5] 28)) := (Below.refl _ _).alloc (Nat.le_refl _) _
        have hbx9 := Box.new w50 28 #[.int .i64 m, .int .i64 A, .slice a5 N c5]
        generalize (w50.alloc (.cells #[.int .i64 m, .int .i64 A, .slice a5 N c5] 28)) = wa at hbA hbx9 ⊢
        have hr9 := (HO5.out.2).keep hbA
        rw [HIL.out (k + 1)] at hr9
        refine (HVV.out (k + 1) _ _ _ ((G_r.out.keep HB5.out).keep hbA).edges hr9).mono ?_
        rintro e w60 ⟨rfl, hb6⟩
        have HB6 := Lib.hid (bel_trans (bel_trans HB5.out hbA) hb6)
        have hs6 := (bel_trans hbA hb6).size
        have HR6 := Lib.hid (((HO5.out.1).keep hbA).keep hb6)
        have hn6 := hbx9.keep hb6
        have hX6 := HBZ.out.1.keep HB6.out
        have HX6 := Lib.hid hX6
        have hn6l := hbx9.lt
        have hwa := hbA.size
        have n0 : w60.cell? ⟨w50.heap.size, 0, none⟩ = some (.int .i64 m) := by simpa using hn6.cell 0
        have n1 : w60.cell? ⟨w50.heap.size, 1, none⟩ = some (.int .i64 A) := by simpa using hn6.cell 1
        have n2 : w60.cell? ⟨w50.heap.size, 2, none⟩ = some (.slice a5 N c5) := by simpa using hn6.cell 2
        have y0 : w60.cell? ⟨w4.heap.size, 0, none⟩ = some (.int .i64 m) := by simpa using hX6.cell 0
        have y1 : w60.cell? ⟨w4.heap.size, 1, none⟩ = some (.int .i64 A) := by simpa using hX6.cell 1
        have y2 : w60.cell? ⟨w4.heap.size, 2, none⟩ = some (.slice za N zc) := by simpa using hX6.cell 2
        have f0 := hX6.frozen 0
        have f1 := hX6.frozen 1
        have f2 := hX6.frozen 2
        have hne1 : ¬ w50.heap.size = w4.heap.size := by omega
        have hne2 : ¬ w4.heap.size = w50.heap.size := by omega
        clear hbA hbx9 hr9 hb6 hn6 hX6 qg0_5 qg1_5
        go_wp2
        go_roundw
        case rel =>
          have h2 : Chg w4.heap.size (w4.heap.size + 1) w60 (((w60.setCell ⟨w4.heap.size, 0, none⟩ (.int .i64 m)).setCell ⟨w4.heap.size, 1, none⟩ (.int .i64 A)).setCell ⟨w4.heap.size, 2, none⟩ (.slice a5 N c5)) := (((Chg.refl _ _ _).setCell (by simp) (by simp) _).setCell (by simp) (by simp) _).setCell (by simp) (by simp) _
          have h3 := Chg.trans (Chg.trans HCH.out (Chg.of_below (lo := w4.heap.size) (hi := w4.heap.size + 1) HB6.out)) h2
          have h4 : Box (((w60.setCell ⟨w4.heap.size, 0, none⟩ (.int .i64 m)).setCell ⟨w4.heap.size, 1, none⟩ (.int .i64 A)).setCell ⟨w4.heap.size, 2, none⟩ (.slice a5 N c5)) (w4.heap.size) 28 #[.int .i64 m, .int .i64 A, .slice a5 N c5] := by have := ((HX6.out.set 0 (.int .i64 m)).set 1 (.int .i64 A)).set 2 (.slice a5 N c5); unfold Box at this ⊢; simpa using this
          have h5 := HR6.out.chg h2 (.inl (by omega))
          have h6 := h2.size
          first | exact ⟨k + 1, by omega, by go_num, Lib.hid h3, Lib.hid ⟨a5, c5, wr.heap.size, w50.heap.size, h4, h5, by omega, .inr (by omega)⟩⟩ | ((repeat apply Exists.intro); exact ⟨⟨k + 1, by omega, by go_num, Lib.hid h3, Lib.hid ⟨a5, c5, wr.heap.size, w50.heap.size, h4, h5, by omega, .inr (by omega)⟩⟩, rfl⟩)
        case measure => simp [intOf]; omega
      · have hke : k = N := by omega
        have hkk : ¬ ((k : Int) < N) := by omega
        have hrN := HBZ.out.2
        rw [hke] at hrN
        have HRN := Lib.hid hrN
        clear hlt hke hrN
        go_wp2_with fail
        refine (HSB.out _ _ _ G_r.out.edges HRN.out).mono ?_
        rintro e w50 ⟨rfl, hb5⟩
        go_wp2
        go_ret
        exact ⟨rfl, bel_trans HBR.out hb5⟩

set_option maxRecDepth 100000 in
theorem lifted (os : Os) (started : os.Started) (H : Type) (enc : TypeId × Value → H) :
    ReturnsInHanded {} Try.checked os 3 .any (Rows.fnViewValidSpec.pre6 enc Try.prog Try.f3 Rows.fnViewValidRow.domain false) (Rows.fnViewValidSpec.post enc Try.prog Try.f3 false true false false) := by
  refine returnsInHanded_of_change (C := Try.checked) own started (by kernel_rfl) Try.func3
    (ChangeSpec.witness6 (enc := enc) (C := Try.checked) false ⟨#[], #[.slice none 0 0], []⟩ 8 (by kernel_rfl) (by kernel_rfl) (by kernel_rfl) (by kernel_rfl)) ?_
  intro W base args ds gs before hval0 hW hcnd _
  have hval : ∀ (j : Nat) t v, Try.f3.params[j]? = some t → args[j]? = some v → Value.okWide Try.prog W .any base t v := hval0
  have hW' := hW
  obtain ⟨p, q, hA0, hV, rfl, hfz, hnd⟩ := hW
  have hA : DataW.TrodAll enc Try.prog W 0 (fun _ => true) true Try.f3.params.toList args.toList ds p := hA0
  rw [Try.params3] at hA hval
  obtain ⟨v0, vs0, d0, ds0, p0, q0, hargs, rfl, rfl, h0, r0⟩ := trodAll_cons hA
  obtain ⟨rfl, rfl, rfl⟩ := trodAll_nil r0
  obtain rfl : args = #[v0] := by cases args; simp_all
  obtain ⟨rfl, rfl⟩ := trodVars_none hV
  obtain ⟨a0, len0, cap0, rfl⟩ := okWide_slice Try.underlying22 (hval 0 22 v0 rfl rfl)
  have k0 := h0
  have lt0 : ∀ x ∈ p0, x.block < W.heap.size := by obtain ⟨m, hm⟩ := k0; exact DataW.trod_lt m _ _ _ hm
  obtain ⟨z0, w0⟩ : ∃ zs, IsRow .u8 W a0 len0 cap0 zs := by
    obtain ⟨fuel, hf⟩ := h0
    rcases open_ints Try.underlying22 Try.underlying5 (by kernel_rfl) hf with ⟨hcs, _⟩ | ⟨x, l, c, zs, hcs, _, hl, hm, hz, _, hcell, hwz⟩
    · simp [Value.cells] at hcs
      obtain ⟨rfl, rfl, rfl⟩ := hcs
      exact ⟨[], .inl ⟨rfl, rfl, rfl, rfl⟩⟩
    · simp [Value.cells] at hcs
      obtain ⟨rfl, rfl, rfl⟩ := hcs
      exact ⟨zs, .inr ⟨_, rfl, hl, hm, by simpa using hz, hcell, hwz⟩⟩
  clear hA0 hval0
  refine (walk a0 len0 cap0 z0 W w0).mono fun e W' ⟨he, bel⟩ => ?_
  subst he
  exact ⟨_, rfl, _, _, _, [], _, [], hW', trodAll_mk1 (shut_bool Try.underlying4 _), (trodAll_cons_mk (Below.trod laidOut (by kernel_rfl) (of_decide_eq_true (by kernel_rfl)) k0 bel lt0) trodAll_mk0), rfl, bel.frame _, fun h => by cases h⟩

theorem over : Rows.fnViewValidRow.holds Try.pinned (OpenSpec.ofChange Rows.fnViewValidSpec) :=
  OpenClaim.holds_of_wide 3 Try.f3 rfl rfl rfl rfl rfl rfl rfl ⟨rfl, rfl, rfl, rfl, rfl⟩ rfl rfl rfl rfl rfl (by kernel_rfl) Try.func3 (by kernel_rfl)
    (of_decide_eq_true (by kernel_rfl)) (by unfold Func.isWrapper; first | (rw [if_pos (by decide +kernel)]; kernel_rfl) | (rw [if_neg (by decide +kernel)]; exact ⟨rfl, rfl⟩))
    (fun os started H enc _ => lifted os started H enc)

theorem proved : Rows.FnViewValidSaid := over
end Go.Proofs.Ytbcbknebjbelmaa.fnViewValid
