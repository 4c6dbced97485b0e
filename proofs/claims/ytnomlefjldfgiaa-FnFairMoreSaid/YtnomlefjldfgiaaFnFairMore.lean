/-
  Proved: half an order has not more fair rounds than the whole, and the fair rounds use up the order (the law FnFairMore returns true for every input and leaves it as it was), with no further condition.
-/
import Derived.Test.YtnomlefjldfgiaaRows
import Derived.Test.YtnomlefjldfgiaaDrawF
import Derived.Test.YtnomlefjldfgiaaDrawsP
import Derived.Test.YtnomlefjldfgiaaParts
import Derived.WalkKit
import Derived.ProofKit
import Derived.OpenShut
import Derived.ShutString
import Derived.ChangeOld
import Derived.Below
namespace Go.Proofs.Ytnomlefjldfgiaa.fnFairMore
open Go.Proofs.Ytnomlefjldfgiaa Go.BigFrame
open Go.ChangeShapes Go.WideShapes Go.ChangeAt Go.RowKit
open Go.ChangeMaps (open_string shut_string)
set_option linter.unusedVariables false

theorem own : ownKnob Try.prog.godebug = none := by kernel_rfl
theorem laidOut : laidOutB Try.prog = true := by kernel_rfl

def IsRow (k : IntKind) (w : World) (a : Option Addr) (len cap : Nat) (zs : List Int) : Prop :=
  (a = none ∧ len = 0 ∧ cap = 0 ∧ zs = []) ∨
  ∃ x, a = some x ∧ len ≤ cap ∧ cap ≤ maxLen ∧ zs.length = cap ∧ (∀ i, i < zs.length → w.cell? (x.add i) = some (.int k (zs.getD i 0))) ∧ ∀ n ∈ zs, (Lit.int k n).wf = true

theorem bytes_of {w : World} {a : Option Addr} {len cap : Nat} {zs : List Int} (h : IsRow .u8 w a len cap zs) : Bytes w a len ∧ len ≤ cap ∧ len ≤ 9223372036854775807 := by
  rcases h with ⟨rfl, rfl, rfl, rfl⟩ | ⟨x, rfl, hl, hm, hz, hc, hw⟩
  · exact ⟨.inl rfl, Nat.le_refl _, by omega⟩
  · unfold maxLen at hm
    refine ⟨?_, hl, by omega⟩
    by_cases h0 : len = 0
    · exact .inl h0
    · obtain ⟨b, off, rfl, hc'⟩ := ints_at hc (by omega)
      exact .inr ⟨b, off, rfl, World.block_lt_of_cell? _ _ (hc' 0 (by omega)), fun i hi => ⟨zs[i]?.getD 0, (range_u8 hw i).1, (range_u8 hw i).2, hc' i (by omega)⟩⟩

theorem walk (a0 : Option Addr) (len0 cap0 : Nat) (z0 : List Int) (w : World) (w0 : IsRow .u8 w a0 len0 cap0 z0) :
    Calls Try.prog 3 #[.slice a0 len0 cap0] w fun e w' => e = .returned (.bool true) ∧ Below w.heap.size w w' := by
  obtain ⟨hby, hcp, hn⟩ := bytes_of w0
  have HB0 := Lib.hid hby
  clear hby w0
  by_cases h0 : 1048576 < len0
  · go_enter Try.func3, Try.ntmps3
    go_wp2
    go_ret
    exact ⟨rfl, Below.refl _ _⟩
  have h0' : len0 ≤ 1048576 := by omega
  clear h0
  obtain ⟨w0, hw0⟩ : ∃ w0, w0 = w := ⟨_, rfl⟩
  subst hw0
  have H0 := Below.refl w0.heap.size w0
  go_enter Try.func3, Try.ntmps3
  go_wp2_with fail
  refine (dDrawFairRounds a0 len0 cap0 _ HB0.out hcp (by omega)).mono ?_
  rintro e w1 ⟨n, es, gs, os, us, rfl, hle, hrG, hrO, hb1⟩
  have H1 := bel_trans H0 hb1
  have SZ1 := Lib.hid hb1.size
  obtain ⟨va, vc, rfl, hz9⟩ := id hrG.1
  obtain ⟨oa, oc, rfl, hz8⟩ := id hrO.1
  clear hz9 hz8
  have G_1 := Lib.hid (hrG.1)
  have O_1 := Lib.hid hrO.1
  have hle1 := hle.1
  have hle2 := hle.2
  have hoc := (hrO.2 _ _ _ rfl).1
  clear hrG hrO hle
  go_wp2_with fail
  have hb2 : Below w1.heap.size w1 (w1.alloc (.cells #[.int .i64 n, .slice va es.length vc] 25)) := (Below.refl _ _).alloc (by simp <;> omega) _
  have H2 := bel_trans H1 hb2
  have SZ2 := Lib.hid hb2.size
  have G_2 := Lib.hid (G_1.out.keep hb2)
  have O_2 := Lib.hid (O_1.out.keep hb2)
  have qg0_2 : (w1.alloc (.cells #[.int .i64 n, .slice va es.length vc] 25)).cell? ⟨w1.heap.size, 0, none⟩ = some (.int .i64 n) := by go_simp
  have qg1_2 : (w1.alloc (.cells #[.int .i64 n, .slice va es.length vc] 25)).cell? ⟨w1.heap.size, 1, none⟩ = some (.slice va es.length vc) := by go_simp
  have zg_2 : w1.heap.size < (w1.alloc (.cells #[.int .i64 n, .slice va es.length vc] 25)).heap.size := by simp <;> omega
  generalize (w1.alloc (.cells #[.int .i64 n, .slice va es.length vc] 25)) = w2 at hb2 H2 SZ2 G_2 O_2 qg0_2 qg1_2 zg_2 ⊢
  have ZBg := Lib.hid zg_2
  clear G_1 O_1
  have hlE : es.length ≤ 281474976710656 := by omega
  have hlO : os.length ≤ 281474976710656 := by omega
  have hst := fun s t w (h : RowE w s es) (k : Row w t os) => fairRounds n es os s t w h k hlE hlO
  have hss := fun s t w (h : RowE w s es) (k : Row w t os) => sFairRounds n es os s t w h k hlE hlO
  cases hk : frB n es os
  · rw [show frN n es os = 0 by unfold frN; rw [hk]; rfl, hk] at hst hss
    have HST := Lib.hid hst
    have HSS := Lib.hid hss
    clear hst hss hk
    go_wp2_with fail
    refine (HST.out _ _ _ G_2.out.edges O_2.out.rowI).mono ?_
    rintro e w3 ⟨rfl, hb3⟩
    have H3 := bel_trans H2 hb3
    have SZ3 := Lib.hid hb3.size
    have qg0_3 := (hb3.cell (p := ⟨w1.heap.size, 0, none⟩) zg_2).trans qg0_2
    have qg1_3 := (hb3.cell (p := ⟨w1.heap.size, 1, none⟩) zg_2).trans qg1_2
    have zg_3 := Nat.lt_of_lt_of_le zg_2 hb3.size
    have G_3 := Lib.hid (G_2.out.keep hb3)
    have O_3 := Lib.hid (O_2.out.keep hb3)
    clear qg0_2 zg_2 O_2 qg1_2 G_2
    go_wp2_with fail
    refine (HSS.out _ _ _ G_3.out.edges O_3.out.rowI).mono ?_
    rintro e w4 ⟨rfl, hb4⟩
    have H4 := bel_trans H3 hb4
    have SZ4 := Lib.hid hb4.size
    have qg0_4 := (hb4.cell (p := ⟨w1.heap.size, 0, none⟩) zg_3).trans qg0_3
    have qg1_4 := (hb4.cell (p := ⟨w1.heap.size, 1, none⟩) zg_3).trans qg1_3
    have zg_4 := Nat.lt_of_lt_of_le zg_3 hb4.size
    have G_4 := Lib.hid (G_3.out.keep hb4)
    have O_4 := Lib.hid (O_3.out.keep hb4)
    clear qg0_3 qg1_3 zg_3 G_3 O_3
    go_wp2
    go_ret
    exact ⟨by first | rfl | simp, H4⟩
  · have hkn : ∀ xs, frB n es xs = true → frN n es xs = (fr es.length xs).n := fun xs h => by unfold frN; rw [if_pos h]
    obtain ⟨c, hc⟩ : ∃ c : Nat, c = os.length / 2 := ⟨_, rfl⟩
    have hcl : c ≤ os.length := by omega
    have hk2 : frB n es (os.take c) = true := by
      unfold frB at hk ⊢
      rw [Bool.and_eq_true] at hk ⊢
      exact ⟨hk.1, (oOk_parts hk.2 c).1⟩
    have hsh := fun s t w (h : RowE w s es) (k : Row w t (os.take c)) => fairRounds n es (os.take c) s t w h k hlE (by simp; omega)
    rw [hkn _ hk, hk] at hst hss
    rw [hkn _ hk2, hk2] at hsh
    have hm1 := fr_all es.length os
    have hm2 := fr_half es.length os c hcl
    have hn1 := fr_n es.length os os.length (Nat.le_refl _)
    rw [List.take_length] at hn1
    obtain ⟨R, hR⟩ : ∃ R, R = (fr es.length os).n := ⟨_, rfl⟩
    obtain ⟨R2, hR2⟩ : ∃ R, R = (fr es.length (os.take c)).n := ⟨_, rfl⟩
    rw [← hR] at hst hss hm1 hm2 hn1
    rw [← hR2] at hsh hm2
    have hq1 : (R : Int) * (es.length : Int) ≤ os.length := by first | exact_mod_cast hm1 | (rw [← Int.natCast_mul]; exact Int.ofNat_le.2 hm1)
    have hq0 : 0 ≤ (R : Int) * (es.length : Int) := Int.mul_nonneg (by omega) (by omega)
    have hwr : IntKind.i64.wrap ((R : Int) * (es.length : Int)) = (R : Int) * (es.length : Int) := wrap_small (by omega) (by omega)
    have hcd : ((os.length : Nat) : Int) / 2 = (c : Int) := by omega
    have hct : Int.tdiv ((os.length : Nat) : Int) 2 = (c : Int) := by rw [Int.tdiv_eq_ediv_of_nonneg (by omega)]; exact hcd
    have HST := Lib.hid hst
    have HSS := Lib.hid hss
    have HSH := Lib.hid hsh
    have HM1 := Lib.hid hq1
    have HM2 := Lib.hid hm2
    have HWR := Lib.hid hwr
    have HCD := Lib.hid hcd
    have HCT := Lib.hid hct
    have HCC := Lib.hid hc
    clear hst hss hsh hq1 hq0 hm1 hm2 hn1 hR hR2 hwr hcd hct hk hk2 hkn hc
    go_wp2_with fail
    refine (HST.out _ _ _ G_2.out.edges O_2.out.rowI).mono ?_
    rintro e w3 ⟨rfl, hb3⟩
    have H3 := bel_trans H2 hb3
    have SZ3 := Lib.hid hb3.size
    have qg0_3 := (hb3.cell (p := ⟨w1.heap.size, 0, none⟩) zg_2).trans qg0_2
    have qg1_3 := (hb3.cell (p := ⟨w1.heap.size, 1, none⟩) zg_2).trans qg1_2
    have zg_3 := Nat.lt_of_lt_of_le zg_2 hb3.size
    have G_3 := Lib.hid (G_2.out.keep hb3)
    have O_3 := Lib.hid (O_2.out.keep hb3)
    clear qg0_2 zg_2 O_2 qg1_2 G_2
    go_wp2_with fail
    refine (HSS.out _ _ _ G_3.out.edges O_3.out.rowI).mono ?_
    rintro e w4 ⟨rfl, hb4⟩
    have H4 := bel_trans H3 hb4
    have SZ4 := Lib.hid hb4.size
    have qg0_4 := (hb4.cell (p := ⟨w1.heap.size, 0, none⟩) zg_3).trans qg0_3
    have qg1_4 := (hb4.cell (p := ⟨w1.heap.size, 1, none⟩) zg_3).trans qg1_3
    have zg_4 := Nat.lt_of_lt_of_le zg_3 hb4.size
    have G_4 := Lib.hid (G_3.out.keep hb4)
    have O_4 := Lib.hid (O_3.out.keep hb4)
    clear qg0_3 qg1_3 zg_3 G_3 O_3
    by_cases hz0 : os.length = 0
    · have hn0 : os = [] := List.eq_nil_of_length_eq_zero hz0
      have hc0 : c = 0 := by have := HCC.out; omega
      subst hc0
      subst hn0
      have hh := fun w9 (h : Below w4.heap.size w4 w9) (x : Option Addr) (y : Nat) => HSH.out _ (.slice x 0 y) w9 (G_4.out.keep h).edges ⟨x, y, rfl, .inl rfl⟩
      have HH := Lib.hid hh
      clear hh hz0 hcl HCD HCT HCC
      by_cases hcz : oc = 0
      · skip
        subst hcz
        have hff : ∀ w' : World, Below w4.heap.size w4 w' → (w'.cell? ⟨w1.heap.size, 0, none⟩ = some (.int .i64 n) ∧ w'.cell? ⟨w1.heap.size, 1, none⟩ = some (.slice va es.length vc)) := fun w' h => ⟨(h.cell (p := ⟨w1.heap.size, 0, none⟩) zg_4).trans qg0_4, (h.cell (p := ⟨w1.heap.size, 1, none⟩) zg_4).trans qg1_4⟩
        have FF := Lib.hid hff
        clear hff
        go_wp2_with fail
        refine wp_region_below (by kernel_rfl) (by kernel_rfl) ?_
        repeat (go_big_quiet_step ((intro hw; first | with_reducible rfl | (obtain ⟨f0, f1⟩ := FF.out _ hw; simp only [f0, f1, Result.andThen]; first | exact ⟨trivial, rfl⟩ | exact ⟨rfl, rfl⟩) | (go_at_call 6; exact quietB (HH.out _ hw _ _) hw))))
        refine wpQuiet_nil ?_
        intro w9 hbw9
        have hm2 := HM2.out
        have hm2i : (R2 : Int) ≤ (R : Int) := by omega
        have hq1 : (R : Int) * (es.length : Int) ≤ 0 := HM1.out
        have hwr := HWR.out
        have hq1' : decide ((R : Int) * (es.length : Int) ≤ 0) = true := decide_eq_true hq1
        have qg0_9 := (hbw9.cell (p := ⟨w1.heap.size, 0, none⟩) zg_4).trans qg0_4
        have qg1_9 := (hbw9.cell (p := ⟨w1.heap.size, 1, none⟩) zg_4).trans qg1_4
        have zg_9 := Nat.lt_of_lt_of_le zg_4 hbw9.size
        go_wp2
        go_ret
        exact ⟨by first | rfl | simp, bel_trans H4 hbw9⟩
      · skip
        have hff : ∀ w' : World, Below w4.heap.size w4 w' → (w'.cell? ⟨w1.heap.size, 0, none⟩ = some (.int .i64 n) ∧ w'.cell? ⟨w1.heap.size, 1, none⟩ = some (.slice va es.length vc)) := fun w' h => ⟨(h.cell (p := ⟨w1.heap.size, 0, none⟩) zg_4).trans qg0_4, (h.cell (p := ⟨w1.heap.size, 1, none⟩) zg_4).trans qg1_4⟩
        have FF := Lib.hid hff
        clear hff
        go_wp2_with fail
        refine wp_region_below (by kernel_rfl) (by kernel_rfl) ?_
        repeat (go_big_quiet_step ((intro hw; first | with_reducible rfl | (obtain ⟨f0, f1⟩ := FF.out _ hw; simp only [f0, f1, Result.andThen]; first | exact ⟨trivial, rfl⟩ | exact ⟨rfl, rfl⟩) | (go_at_call 6; exact quietB (HH.out _ hw _ _) hw))))
        refine wpQuiet_nil ?_
        intro w9 hbw9
        have hm2 := HM2.out
        have hm2i : (R2 : Int) ≤ (R : Int) := by omega
        have hq1 : (R : Int) * (es.length : Int) ≤ 0 := HM1.out
        have hwr := HWR.out
        have hq1' : decide ((R : Int) * (es.length : Int) ≤ 0) = true := decide_eq_true hq1
        have qg0_9 := (hbw9.cell (p := ⟨w1.heap.size, 0, none⟩) zg_4).trans qg0_4
        have qg1_9 := (hbw9.cell (p := ⟨w1.heap.size, 1, none⟩) zg_4).trans qg1_4
        have zg_9 := Nat.lt_of_lt_of_le zg_4 hbw9.size
        go_wp2
        go_ret
        exact ⟨by first | rfl | simp, bel_trans H4 hbw9⟩
    obtain ⟨_, _, hva9, hz9⟩ := id O_4.out
    injection hva9 with hv1 hv2 hv3
    subst hv1
    clear hv2 hv3
    rcases hz9 with hz9 | ⟨bo, oo, rfl, hr1, hr2, hr3, hrc⟩
    · exact absurd hz9 hz0
    clear hr1 hr2 hr3 hrc
    have hcc : (c : Int) ≤ oc := by omega
    have hcn : ¬ oc = c := by have := HCC.out; omega
    have hcz : ¬ oc = 0 := by omega
    have hcl' : (c : Int) ≤ os.length := by omega
    have hcd := HCD.out
    have hct := HCT.out
    have hh := fun w9 (h : Below w4.heap.size w4 w9) (y : Nat) => HSH.out _ (.slice (some ⟨bo, oo, none⟩) c y) w9 (G_4.out.keep h).edges (row_preP ((O_4.out.keep h).ints) hcl)
    have HH := Lib.hid hh
    clear hh
    have hff : ∀ w' : World, Below w4.heap.size w4 w' → (w'.cell? ⟨w1.heap.size, 0, none⟩ = some (.int .i64 n) ∧ w'.cell? ⟨w1.heap.size, 1, none⟩ = some (.slice va es.length vc)) := fun w' h => ⟨(h.cell (p := ⟨w1.heap.size, 0, none⟩) zg_4).trans qg0_4, (h.cell (p := ⟨w1.heap.size, 1, none⟩) zg_4).trans qg1_4⟩
    have FF := Lib.hid hff
    clear hff
    go_wp2_with fail
    refine wp_region_below (by kernel_rfl) (by kernel_rfl) ?_
    repeat (go_big_quiet_step ((intro hw; first | with_reducible rfl | (obtain ⟨f0, f1⟩ := FF.out _ hw; simp only [f0, f1, Result.andThen]; first | exact ⟨trivial, rfl⟩ | exact ⟨rfl, rfl⟩) | (go_at_call 6; exact quietB (HH.out _ hw _) hw))))
    refine wpQuiet_nil ?_
    intro w9 hbw9
    have hm2 := HM2.out
    have hm2i : (R2 : Int) ≤ (R : Int) := by omega
    have hq1 : (R : Int) * (es.length : Int) ≤ (os.length : Int) := HM1.out
    have hwr := HWR.out
    have hq1' : decide ((R : Int) * (es.length : Int) ≤ (os.length : Int)) = true := decide_eq_true hq1
    have qg0_9 := (hbw9.cell (p := ⟨w1.heap.size, 0, none⟩) zg_4).trans qg0_4
    have qg1_9 := (hbw9.cell (p := ⟨w1.heap.size, 1, none⟩) zg_4).trans qg1_4
    have zg_9 := Nat.lt_of_lt_of_le zg_4 hbw9.size
    go_wp2
    go_ret
    exact ⟨by first | rfl | simp, bel_trans H4 hbw9⟩

set_option maxRecDepth 100000 in
theorem lifted (os : Os) (started : os.Started) (H : Type) (enc : TypeId × Value → H) :
    ReturnsInHanded {} Try.checked os 3 .any (Rows.fnFairMoreSpec.pre6 enc Try.prog Try.f3 Rows.fnFairMoreRow.domain false) (Rows.fnFairMoreSpec.post enc Try.prog Try.f3 false true false false) := by
  refine returnsInHanded_of_change (C := Try.checked) own started (by kernel_rfl) Try.func3
    (ChangeSpec.witness6 (enc := enc) (C := Try.checked) false ⟨#[], #[.slice none 0 0], []⟩ 8 (by kernel_rfl) (by kernel_rfl) (by kernel_rfl) (by kernel_rfl)) ?_
  intro W base args ds gs before hval0 hW hcnd _
  have hval : ∀ (j : Nat) t v, Try.f3.params[j]? = some t → args[j]? = some v → Value.okWide Try.prog W .any base t v := hval0
  have hW' := hW
  obtain ⟨p, q, hA0, hV, rfl, hfz, hnd⟩ := hW
  have hA : DataW.TrodAll enc Try.prog W 0 (fun _ => true) true Try.f3.params.toList args.toList ds p := hA0
  rw [Try.params3] at hA hval
  obtain ⟨v0, vs0, d0, ds0, p0, q0, hargs, rfl, rfl, h0, r0⟩ := trodAll_cons hA
  obtain ⟨rfl, rfl, rfl⟩ := trodAll_nil r0
  obtain rfl : args = #[v0] := by cases args; simp_all
  obtain ⟨rfl, rfl⟩ := trodVars_none hV
  obtain ⟨a0, len0, cap0, rfl⟩ := okWide_slice Try.underlying22 (hval 0 22 v0 rfl rfl)
  have k0 := h0
  have lt0 : ∀ x ∈ p0, x.block < W.heap.size := by obtain ⟨m, hm⟩ := k0; exact DataW.trod_lt m _ _ _ hm
  obtain ⟨z0, w0⟩ : ∃ zs, IsRow .u8 W a0 len0 cap0 zs := by
    obtain ⟨fuel, hf⟩ := h0
    rcases open_ints Try.underlying22 Try.underlying5 (by kernel_rfl) hf with ⟨hcs, _⟩ | ⟨x, l, c, zs, hcs, _, hl, hm, hz, _, hcell, hwz⟩
    · simp [Value.cells] at hcs
      obtain ⟨rfl, rfl, rfl⟩ := hcs
      exact ⟨[], .inl ⟨rfl, rfl, rfl, rfl⟩⟩
    · simp [Value.cells] at hcs
      obtain ⟨rfl, rfl, rfl⟩ := hcs
      exact ⟨zs, .inr ⟨_, rfl, hl, hm, by simpa using hz, hcell, hwz⟩⟩
  clear hA0 hval0
  refine (walk a0 len0 cap0 z0 W w0).mono fun e W' ⟨he, bel⟩ => ?_
  subst he
  exact ⟨_, rfl, _, _, _, [], _, [], hW', trodAll_mk1 (shut_bool Try.underlying4 _), (trodAll_cons_mk (Below.trod laidOut (by kernel_rfl) (of_decide_eq_true (by kernel_rfl)) k0 bel lt0) trodAll_mk0), rfl, bel.frame _, fun h => by cases h⟩

theorem over : Rows.fnFairMoreRow.holds Try.pinned (OpenSpec.ofChange Rows.fnFairMoreSpec) :=
  OpenClaim.holds_of_wide 3 Try.f3 rfl rfl rfl rfl rfl rfl rfl ⟨rfl, rfl, rfl, rfl, rfl⟩ rfl rfl rfl rfl rfl (by kernel_rfl) Try.func3 (by kernel_rfl)
    (of_decide_eq_true (by kernel_rfl)) (by unfold Func.isWrapper; first | (rw [if_pos (by decide +kernel)]; kernel_rfl) | (rw [if_neg (by decide +kernel)]; exact ⟨rfl, rfl⟩))
    (fun os started H enc _ => lifted os started H enc)

theorem proved : Rows.FnFairMoreSaid := over
end Go.Proofs.Ytnomlefjldfgiaa.fnFairMore
