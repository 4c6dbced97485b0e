/-
  Proved: the weights of a path are those of its edges, one fewer than its nodes (the law FnPathEdges returns true for every input and leaves it as it was), with no further condition.
-/
import Derived.Test.YtjcfefpcilhelaaRows
import Derived.Test.YtjcfefpcilhelaaDrawP
import Derived.Test.YtjcfefpcilhelaaPathES
import Derived.Test.YtjcfefpcilhelaaPathE
import Derived.Test.YtjcfefpcilhelaaGvInts
import Derived.Test.YtjcfefpcilhelaaFind3
import Derived.WalkKit
import Derived.ProofKit
import Derived.OpenShut
import Derived.ShutString
import Derived.ChangeOld
import Derived.Below
namespace Go.Proofs.Ytjcfefpcilhelaa.fnPathEdges
open Go.Proofs.Ytjcfefpcilhelaa Go.BigFrame
open Go.ChangeShapes Go.WideShapes Go.ChangeAt Go.RowKit
open Go.ChangeMaps (open_string shut_string)
set_option linter.unusedVariables false

theorem own : ownKnob Try.prog.godebug = none := by kernel_rfl
theorem laidOut : laidOutB Try.prog = true := by kernel_rfl

def IsRow (k : IntKind) (w : World) (a : Option Addr) (len cap : Nat) (zs : List Int) : Prop :=
  (a = none ∧ len = 0 ∧ cap = 0 ∧ zs = []) ∨
  ∃ x, a = some x ∧ len ≤ cap ∧ cap ≤ maxLen ∧ zs.length = cap ∧ (∀ i, i < zs.length → w.cell? (x.add i) = some (.int k (zs.getD i 0))) ∧ ∀ n ∈ zs, (Lit.int k n).wf = true

theorem bytes_of {w : World} {a : Option Addr} {len cap : Nat} {zs : List Int} (h : IsRow .u8 w a len cap zs) : Bytes w a len ∧ len ≤ cap ∧ len ≤ 9223372036854775807 := by
  rcases h with ⟨rfl, rfl, rfl, rfl⟩ | ⟨x, rfl, hl, hm, hz, hc, hw⟩
  · exact ⟨.inl rfl, Nat.le_refl _, by omega⟩
  · unfold maxLen at hm
    refine ⟨?_, hl, by omega⟩
    by_cases h0 : len = 0
    · exact .inl h0
    · obtain ⟨b, off, rfl, hc'⟩ := ints_at hc (by omega)
      exact .inr ⟨b, off, rfl, World.block_lt_of_cell? _ _ (hc' 0 (by omega)), fun i hi => ⟨zs[i]?.getD 0, (range_u8 hw i).1, (range_u8 hw i).2, hc' i (by omega)⟩⟩

theorem walk (a0 : Option Addr) (len0 cap0 : Nat) (z0 : List Int) (w : World) (w0 : IsRow .u8 w a0 len0 cap0 z0) :
    Calls Try.prog 12 #[.slice a0 len0 cap0] w fun e w' => e = .returned (.bool true) ∧ Below w.heap.size w w' := by
  obtain ⟨hby, hcp, hn⟩ := bytes_of w0
  have HB0 := Lib.hid hby
  clear hby w0
  by_cases h0 : 1048576 < len0
  · go_enter Try.func12, Try.ntmps12
    go_wp2
    go_ret
    exact ⟨rfl, Below.refl _ _⟩
  have h0' : len0 ≤ 1048576 := by omega
  clear h0
  obtain ⟨w0, hw0⟩ : ∃ w0, w0 = w := ⟨_, rfl⟩
  subst hw0
  have H0 := Below.refl w0.heap.size w0
  go_enter Try.func12, Try.ntmps12
  go_wp2_with fail
  refine (dDrawPathEdges a0 len0 cap0 _ HB0.out hcp (by omega)).mono ?_
  rintro e w1 ⟨n, es, gs, ps, us, rfl, hle, hrG, hrO, hb1⟩
  have H1 := bel_trans H0 hb1
  have SZ1 := Lib.hid hb1.size
  obtain ⟨va, vc, rfl, hz9⟩ := id hrG
  obtain ⟨oa, oc, rfl, hz8⟩ := id hrO
  clear hz9 hz8
  have G_1 := Lib.hid (hrG)
  have O_1 := Lib.hid hrO
  have hle1 := hle.1
  have hle2 := hle.2
  clear hrG hrO hle
  go_wp2_with fail
  have hb2 : Below w1.heap.size w1 (w1.alloc (.cells #[.int .i64 n, .slice va es.length vc] 25)) := (Below.refl _ _).alloc (by simp <;> omega) _
  have H2 := bel_trans H1 hb2
  have SZ2 := Lib.hid hb2.size
  have G_2 := Lib.hid (G_1.out.keep hb2)
  have O_2 := Lib.hid (O_1.out.keep hb2)
  have qg0_2 : (w1.alloc (.cells #[.int .i64 n, .slice va es.length vc] 25)).cell? ⟨w1.heap.size, 0, none⟩ = some (.int .i64 n) := by go_simp
  have qg1_2 : (w1.alloc (.cells #[.int .i64 n, .slice va es.length vc] 25)).cell? ⟨w1.heap.size, 1, none⟩ = some (.slice va es.length vc) := by go_simp
  have zg_2 : w1.heap.size < (w1.alloc (.cells #[.int .i64 n, .slice va es.length vc] 25)).heap.size := by simp <;> omega
  generalize (w1.alloc (.cells #[.int .i64 n, .slice va es.length vc] 25)) = w2 at hb2 H2 SZ2 G_2 O_2 qg0_2 qg1_2 zg_2 ⊢
  have ZBg := Lib.hid zg_2
  clear G_1 O_1
  have hst := fun s t w (h : RowE w s es) (k : Row w t ps) => pathEdges n es ps s t w h k (by omega) (by omega)
  have hss := fun s t w (h : RowE w s es) (k : Row w t ps) => sPathEdges n es ps s t w h k (by omega) (by omega)
  cases hk : peB n es ps
  · rw [peL_no hk, hk] at hst hss
    have HST := Lib.hid hst
    have HSS := Lib.hid hss
    clear hst hss hk
    go_wp2_with fail
    refine (HST.out _ _ _ G_2.out.edges O_2.out.rowI).mono ?_
    rintro e w3 ⟨vp, rfl, howp, hb3⟩
    have H3 := bel_trans H2 hb3
    have SZ3 := Lib.hid hb3.size
    have qg0_3 := (hb3.cell (p := ⟨w1.heap.size, 0, none⟩) zg_2).trans qg0_2
    have qg1_3 := (hb3.cell (p := ⟨w1.heap.size, 1, none⟩) zg_2).trans qg1_2
    have zg_3 := Nat.lt_of_lt_of_le zg_2 hb3.size
    have G_3 := Lib.hid (G_2.out.keep hb3)
    have O_3 := Lib.hid (O_2.out.keep hb3)
    obtain ⟨ap, cp, rfl, hz9⟩ := id howp
    clear hz9
    have P_3 := Lib.hid (show InR true w3 w2.heap.size w3.heap.size _ ([] : List Int).length 1 (cellI ([] : List Int)) from howp)
    clear qg0_2 zg_2 O_2 qg1_2 G_2
    clear howp
    go_wp2_with fail
    refine (HSS.out _ _ _ G_3.out.edges O_3.out.rowI).mono ?_
    rintro e w4 ⟨vq, rfl, howq, hb4⟩
    have H4 := bel_trans H3 hb4
    have SZ4 := Lib.hid hb4.size
    have qg0_4 := (hb4.cell (p := ⟨w1.heap.size, 0, none⟩) zg_3).trans qg0_3
    have qg1_4 := (hb4.cell (p := ⟨w1.heap.size, 1, none⟩) zg_3).trans qg1_3
    have zg_4 := Nat.lt_of_lt_of_le zg_3 hb4.size
    have G_4 := Lib.hid (G_3.out.keep hb4)
    have O_4 := Lib.hid (O_3.out.keep hb4)
    have P_4 := Lib.hid (P_3.out.keep hb4)
    obtain ⟨aq, cq, rfl, hz9⟩ := id howq
    clear hz9
    have Q_4 := Lib.hid (show InR true w4 w3.heap.size w4.heap.size _ ([] : List Int).length 1 (cellI ([] : List Int)) from howq)
    clear qg0_3 qg1_3 zg_3 G_3 O_3 P_3
    clear howq
    go_wp2_with fail
    refine (gvInts [] _ _ _ P_4.out.rowI Q_4.out.rowI (by simp)).mono ?_
    rintro e w5 ⟨rfl, hb5⟩
    have H5 := bel_trans H4 hb5
    have SZ5 := Lib.hid hb5.size
    have qg0_5 := (hb5.cell (p := ⟨w1.heap.size, 0, none⟩) zg_4).trans qg0_4
    have qg1_5 := (hb5.cell (p := ⟨w1.heap.size, 1, none⟩) zg_4).trans qg1_4
    have zg_5 := Nat.lt_of_lt_of_le zg_4 hb5.size
    have G_5 := Lib.hid (G_4.out.keep hb5)
    have O_5 := Lib.hid (O_4.out.keep hb5)
    have P_5 := Lib.hid (P_4.out.keep hb5)
    have Q_5 := Lib.hid (Q_4.out.keep hb5)
    clear qg0_4 qg1_4 zg_4 G_4 O_4 P_4 Q_4
    go_wp2_with fail
    refine (gvInts [] _ _ _ P_5.out.rowI Q_5.out.rowI (by simp)).mono ?_
    rintro e w6 ⟨rfl, hb6⟩
    have H6 := bel_trans H5 hb6
    have SZ6 := Lib.hid hb6.size
    have qg0_6 := (hb6.cell (p := ⟨w1.heap.size, 0, none⟩) zg_5).trans qg0_5
    have qg1_6 := (hb6.cell (p := ⟨w1.heap.size, 1, none⟩) zg_5).trans qg1_5
    have zg_6 := Nat.lt_of_lt_of_le zg_5 hb6.size
    have G_6 := Lib.hid (G_5.out.keep hb6)
    have O_6 := Lib.hid (O_5.out.keep hb6)
    have P_6 := Lib.hid (P_5.out.keep hb6)
    have Q_6 := Lib.hid (Q_5.out.keep hb6)
    clear qg0_5 qg1_5 zg_5 G_5 O_5 P_5 Q_5
    go_wp2
    go_ret
    exact ⟨by first | rfl | simp, H6⟩
  · obtain ⟨hhd, hall⟩ := Bool.and_eq_true_iff.1 (show (peHead n es ps && (List.range (ps.length - 1)).all (peF es ps)) = true from hk)
    obtain ⟨hg, h9⟩ := Bool.and_eq_true_iff.1 (show (gVal n es && (decide (1 ≤ ps.length) && (decide (ps.length ≤ 51) && inN n (ps.getD 0 0)))) = true from hhd)
    have hp1 : 1 ≤ ps.length := of_decide_eq_true (Bool.and_eq_true_iff.1 h9).1
    obtain ⟨L, hL⟩ : ∃ L, L = peL n es ps := ⟨_, rfl⟩
    have hL2 : L = (List.range (ps.length - 1)).map (peW es ps) := by rw [hL, peL_yes hk]
    have hlL : L.length + 1 = ps.length := by rw [hL2]; simp; omega
    have hat : ∀ k, k < L.length → wOf n es (ps.getD k 0) (ps.getD (k + 1) 0) = (L.getD k 0, true) := fun k h => by
      have h8 : peF es ps k = true := List.all_eq_true.1 hall k (by simp; omega)
      unfold wOf
      rw [if_pos ⟨hg, h8⟩, hL2]
      have h7 : k < ps.length - 1 := by omega
      simp [List.getD, h7, peW]
    have hwt : ∀ k, k < L.length → ∀ s w (h : RowE w s es), Calls Try.prog 51 #[.agg #[.int .i64 n, s], .int .i64 (ps.getD k 0), .int .i64 (ps.getD (k + 1) 0)] w fun e w' => e = .returned (.tuple #[.int .i64 (L.getD k 0), .bool true]) ∧ Below w.heap.size w w' := fun k h s w hr => by
      have h8 := weightOf n es (ps.getD k 0) (ps.getD (k + 1) 0) s w hr (by omega)
      rw [hat k h] at h8
      exact h8
    rw [← hL, hk] at hst hss
    have HST := Lib.hid hst
    have HSS := Lib.hid hss
    have HWT := Lib.hid hwt
    have HLL := Lib.hid hlL
    have HP1 := Lib.hid hp1
    clear hst hss hwt hlL hp1 hat hL2 hL hall hhd hg h9 hk
    have hl14 : L.length ≤ 14 := by have := HLL.out; omega
    go_wp2_with fail
    refine (HST.out _ _ _ G_2.out.edges O_2.out.rowI).mono ?_
    rintro e w3 ⟨vp, rfl, howp, hb3⟩
    have H3 := bel_trans H2 hb3
    have SZ3 := Lib.hid hb3.size
    have qg0_3 := (hb3.cell (p := ⟨w1.heap.size, 0, none⟩) zg_2).trans qg0_2
    have qg1_3 := (hb3.cell (p := ⟨w1.heap.size, 1, none⟩) zg_2).trans qg1_2
    have zg_3 := Nat.lt_of_lt_of_le zg_2 hb3.size
    have G_3 := Lib.hid (G_2.out.keep hb3)
    have O_3 := Lib.hid (O_2.out.keep hb3)
    obtain ⟨ap, cp, rfl, hz9⟩ := id howp
    clear hz9
    have P_3 := Lib.hid (show InR true w3 w2.heap.size w3.heap.size _ L.length 1 (cellI L) from howp)
    clear qg0_2 zg_2 O_2 qg1_2 G_2
    clear howp
    go_wp2_with fail
    refine (HSS.out _ _ _ G_3.out.edges O_3.out.rowI).mono ?_
    rintro e w4 ⟨vq, rfl, howq, hb4⟩
    have H4 := bel_trans H3 hb4
    have SZ4 := Lib.hid hb4.size
    have qg0_4 := (hb4.cell (p := ⟨w1.heap.size, 0, none⟩) zg_3).trans qg0_3
    have qg1_4 := (hb4.cell (p := ⟨w1.heap.size, 1, none⟩) zg_3).trans qg1_3
    have zg_4 := Nat.lt_of_lt_of_le zg_3 hb4.size
    have G_4 := Lib.hid (G_3.out.keep hb4)
    have O_4 := Lib.hid (O_3.out.keep hb4)
    have P_4 := Lib.hid (P_3.out.keep hb4)
    obtain ⟨aq, cq, rfl, hz9⟩ := id howq
    clear hz9
    have Q_4 := Lib.hid (show InR true w4 w3.heap.size w4.heap.size _ L.length 1 (cellI L) from howq)
    clear qg0_3 qg1_3 zg_3 G_3 O_3 P_3
    clear howq
    go_wp2_with fail
    refine (gvInts L _ _ _ P_4.out.rowI Q_4.out.rowI (by omega)).mono ?_
    rintro e w5 ⟨rfl, hb5⟩
    have H5 := bel_trans H4 hb5
    have SZ5 := Lib.hid hb5.size
    have qg0_5 := (hb5.cell (p := ⟨w1.heap.size, 0, none⟩) zg_4).trans qg0_4
    have qg1_5 := (hb5.cell (p := ⟨w1.heap.size, 1, none⟩) zg_4).trans qg1_4
    have zg_5 := Nat.lt_of_lt_of_le zg_4 hb5.size
    have G_5 := Lib.hid (G_4.out.keep hb5)
    have O_5 := Lib.hid (O_4.out.keep hb5)
    have P_5 := Lib.hid (P_4.out.keep hb5)
    have Q_5 := Lib.hid (Q_4.out.keep hb5)
    clear qg0_4 qg1_4 zg_4 G_4 O_4 P_4 Q_4
    have hpz : L.length = 0 ∨ ∃ b off, ap = some ⟨b, off, none⟩ ∧ b < w5.heap.size ∧ ∀ k, k < L.length → w5.cell? ⟨b, off + k, none⟩ = some (.int .i64 (L.getD k 0)) := by
      obtain ⟨_, _, he9, hz9⟩ := id P_5.out
      injection he9 with e1 e2 e3
      subst e1
      rcases hz9 with hz9 | ⟨b9, o9, h9, k1, k2, k3, kc⟩
      · exact .inl hz9
      · exact .inr ⟨b9, o9, h9, by omega, fun k h => (kc k (by omega)).1⟩
    have HPZ := Lib.hid hpz
    clear hpz
    obtain ⟨_, _, hva9, hz9⟩ := id O_5.out
    injection hva9 with hv1 hv2 hv3
    subst hv1
    clear hv2 hv3
    rcases hz9 with hz9 | ⟨bo, oo, rfl, hr1, hr2, hr3, hrc⟩
    · have := HP1.out; omega
    have hcl : ∀ k : Nat, k < ps.length → w5.cell? ⟨bo, oo + k, none⟩ = some (.int .i64 (ps.getD k 0)) := fun k h => (hrc k (by have := HP1.out; omega)).1
    have HCO := Lib.hid (And.intro hcl (show bo < w5.heap.size by omega))
    clear hcl hrc hr1 hr2 hr3
    go_wp2_with fail
    go_loopw [9] (fun c wr => ∃ k : Nat, k ≤ L.length ∧ c = .int .i64 k ∧ Hid (Below w5.heap.size w5 wr)) (fun c _ => L.length - (intOf c).toNat)
    case atStart => exact ⟨0, Nat.zero_le _, rfl, Lib.hid (Below.refl _ _)⟩
    case round =>
      obtain ⟨k, hk, rfl, HBW⟩ := hrel
      have sW := HBW.out.size
      have qg0_r := (HBW.out.cell (p := ⟨w1.heap.size, 0, none⟩) zg_5).trans qg0_5
      have qg1_r := (HBW.out.cell (p := ⟨w1.heap.size, 1, none⟩) zg_5).trans qg1_5
      have zg_r := Nat.lt_of_lt_of_le zg_5 HBW.out.size
      by_cases hlt : k < L.length
      · have hlt' : (k : Int) < L.length := by omega
        rcases HPZ.out with h00 | ⟨b9, o9, rfl, hb9, hc9⟩
        · omega
        have hp0 : k < ps.length := by have := HLL.out; omega
        have hpn : k + 1 < ps.length := by have := HLL.out; omega
        have hp0' : (k : Int) < ps.length := by omega
        have hpn' : (k : Int) + 1 < ps.length := by omega
        have hwk : IntKind.i64.wrap ((k : Int) + 1) = (k : Int) + 1 := wrap_small (by omega) (by omega)
        have cpk := (HBW.out.cell (p := ⟨b9, o9 + k, none⟩) hb9).trans (hc9 k hlt)
        have hlp := Nat.lt_of_lt_of_le hb9 sW
        have ck0 := (HBW.out.cell (p := ⟨bo, oo + k, none⟩) HCO.out.2).trans (HCO.out.1 k hp0)
        have ck1 := (HBW.out.cell (p := ⟨bo, oo + (k + 1), none⟩) HCO.out.2).trans (HCO.out.1 (k + 1) hpn)
        have hlo := Nat.lt_of_lt_of_le HCO.out.2 sW
        have hw9 := fun w9 (h : Below wr.heap.size wr w9) => HWT.out k hlt _ w9 ((G_5.out.keep HBW.out).keep h).edges
        obtain ⟨y0, hy0⟩ : ∃ y, y = ps.getD k 0 := ⟨_, rfl⟩
        obtain ⟨y1, hy1⟩ : ∃ y, y = ps.getD (k + 1) 0 := ⟨_, rfl⟩
        obtain ⟨y2, hy2⟩ : ∃ y, y = L.getD k 0 := ⟨_, rfl⟩
        rw [← hy0] at ck0 hw9
        rw [← hy1] at ck1 hw9
        rw [← hy2] at cpk hw9
        have HW9 := Lib.hid hw9
        clear hw9 hy0 hy1 hy2 hc9
        have hff : ∀ w' : World, Below wr.heap.size wr w' → (w'.cell? ⟨w1.heap.size, 0, none⟩ = some (.int .i64 n) ∧ w'.cell? ⟨w1.heap.size, 1, none⟩ = some (.slice va es.length vc) ∧ w'.cell? ⟨bo, oo + k, none⟩ = some (.int .i64 y0) ∧ w'.cell? ⟨bo, oo + (k + 1), none⟩ = some (.int .i64 y1)) := fun w' h => ⟨(h.cell (p := ⟨w1.heap.size, 0, none⟩) zg_r).trans qg0_r, (h.cell (p := ⟨w1.heap.size, 1, none⟩) zg_r).trans qg1_r, (h.cell (p := ⟨bo, oo + k, none⟩) hlo).trans ck0, (h.cell (p := ⟨bo, oo + (k + 1), none⟩) hlo).trans ck1⟩
        have FF := Lib.hid hff
        clear hff
        go_wp2_with fail
        refine wp_region_below (by kernel_rfl) (by kernel_rfl) ?_
        repeat (go_big_quiet_step ((intro hw; first | with_reducible rfl | (obtain ⟨f0, f1, f2, f3⟩ := FF.out _ hw; simp only [f0, f1, f2, f3, Result.andThen]; first | exact ⟨trivial, rfl⟩ | exact ⟨rfl, rfl⟩) | (go_at_call 51; exact quietB (HW9.out _ hw) hw))))
        refine wpQuiet_nil ?_
        intro w9 hbw9
        have cp9 := (hbw9.cell (p := ⟨b9, o9 + k, none⟩) hlp).trans cpk
        go_wp2
        go_roundw
        case rel => first | exact ⟨k + 1, by omega, by go_num, Lib.hid (bel_trans HBW.out hbw9)⟩ | ((repeat apply Exists.intro); exact ⟨⟨k + 1, by omega, by go_num, Lib.hid (bel_trans HBW.out hbw9)⟩, rfl⟩) | exact ⟨_, ⟨k + 1, by omega, by go_num, Lib.hid (bel_trans HBW.out hbw9)⟩, rfl⟩
        case measure => simp [intOf]; omega
      · have hkk : ¬ ((k : Int) < L.length) := by omega
        have hpe : (ps.length : Int) - 1 = (L.length : Int) := by have := HLL.out; omega
        have hwr : IntKind.i64.wrap ((ps.length : Int) - 1) = (L.length : Int) := by rw [hpe]; exact wrap_small (by omega) (by omega)
        go_wp2
        go_ret
        exact ⟨by first | rfl | simp, bel_trans H5 HBW.out⟩

set_option maxRecDepth 100000 in
theorem lifted (os : Os) (started : os.Started) (H : Type) (enc : TypeId × Value → H) :
    ReturnsInHanded {} Try.checked os 12 .any (Rows.fnPathEdgesSpec.pre6 enc Try.prog Try.f12 Rows.fnPathEdgesRow.domain false) (Rows.fnPathEdgesSpec.post enc Try.prog Try.f12 false true false false) := by
  refine returnsInHanded_of_change (C := Try.checked) own started (by kernel_rfl) Try.func12
    (ChangeSpec.witness6 (enc := enc) (C := Try.checked) false ⟨#[], #[.slice none 0 0], []⟩ 8 (by kernel_rfl) (by kernel_rfl) (by kernel_rfl) (by kernel_rfl)) ?_
  intro W base args ds gs before hval0 hW hcnd _
  have hval : ∀ (j : Nat) t v, Try.f12.params[j]? = some t → args[j]? = some v → Value.okWide Try.prog W .any base t v := hval0
  have hW' := hW
  obtain ⟨p, q, hA0, hV, rfl, hfz, hnd⟩ := hW
  have hA : DataW.TrodAll enc Try.prog W 0 (fun _ => true) true Try.f12.params.toList args.toList ds p := hA0
  rw [Try.params12] at hA hval
  obtain ⟨v0, vs0, d0, ds0, p0, q0, hargs, rfl, rfl, h0, r0⟩ := trodAll_cons hA
  obtain ⟨rfl, rfl, rfl⟩ := trodAll_nil r0
  obtain rfl : args = #[v0] := by cases args; simp_all
  obtain ⟨rfl, rfl⟩ := trodVars_none hV
  obtain ⟨a0, len0, cap0, rfl⟩ := okWide_slice Try.underlying22 (hval 0 22 v0 rfl rfl)
  have k0 := h0
  have lt0 : ∀ x ∈ p0, x.block < W.heap.size := by obtain ⟨m, hm⟩ := k0; exact DataW.trod_lt m _ _ _ hm
  obtain ⟨z0, w0⟩ : ∃ zs, IsRow .u8 W a0 len0 cap0 zs := by
    obtain ⟨fuel, hf⟩ := h0
    rcases open_ints Try.underlying22 Try.underlying5 (by kernel_rfl) hf with ⟨hcs, _⟩ | ⟨x, l, c, zs, hcs, _, hl, hm, hz, _, hcell, hwz⟩
    · simp [Value.cells] at hcs
      obtain ⟨rfl, rfl, rfl⟩ := hcs
      exact ⟨[], .inl ⟨rfl, rfl, rfl, rfl⟩⟩
    · simp [Value.cells] at hcs
      obtain ⟨rfl, rfl, rfl⟩ := hcs
      exact ⟨zs, .inr ⟨_, rfl, hl, hm, by simpa using hz, hcell, hwz⟩⟩
  clear hA0 hval0
  refine (walk a0 len0 cap0 z0 W w0).mono fun e W' ⟨he, bel⟩ => ?_
  subst he
  exact ⟨_, rfl, _, _, _, [], _, [], hW', trodAll_mk1 (shut_bool Try.underlying4 _), (trodAll_cons_mk (Below.trod laidOut (by kernel_rfl) (of_decide_eq_true (by kernel_rfl)) k0 bel lt0) trodAll_mk0), rfl, bel.frame _, fun h => by cases h⟩

theorem over : Rows.fnPathEdgesRow.holds Try.pinned (OpenSpec.ofChange Rows.fnPathEdgesSpec) :=
  OpenClaim.holds_of_wide 12 Try.f12 rfl rfl rfl rfl rfl rfl rfl ⟨rfl, rfl, rfl, rfl, rfl⟩ rfl rfl rfl rfl rfl (by kernel_rfl) Try.func12 (by kernel_rfl)
    (of_decide_eq_true (by kernel_rfl)) (by unfold Func.isWrapper; first | (rw [if_pos (by decide +kernel)]; kernel_rfl) | (rw [if_neg (by decide +kernel)]; exact ⟨rfl, rfl⟩))
    (fun os started H enc _ => lifted os started H enc)

theorem proved : Rows.FnPathEdgesSaid := over
end Go.Proofs.Ytjcfefpcilhelaa.fnPathEdges
