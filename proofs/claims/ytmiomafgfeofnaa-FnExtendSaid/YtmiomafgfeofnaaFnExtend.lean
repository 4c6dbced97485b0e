/-
  Proved: grouping does not matter when paths are put together, and an empty path changes none (the law FnExtend returns true for every input and leaves it as it was), with no further condition.
-/
import Derived.Test.YtmiomafgfeofnaaRows
import Derived.Test.YtmiomafgfeofnaaLaw
import Derived.Test.YtmiomafgfeofnaaDraw2
import Derived.WalkKit
import Derived.ProofKit
import Derived.OpenShut
import Derived.ShutString
import Derived.ChangeOld
import Derived.Below
namespace Go.Proofs.Ytmiomafgfeofnaa.fnExtend
open Go.Proofs.Ytmiomafgfeofnaa Go.BigFrame
open Go.ChangeShapes Go.WideShapes Go.ChangeAt Go.RowKit
open Go.ChangeMaps (open_string shut_string)
set_option linter.unusedVariables false

theorem own : ownKnob Try.prog.godebug = none := by kernel_rfl
theorem laidOut : laidOutB Try.prog = true := by kernel_rfl

def IsRow (k : IntKind) (w : World) (a : Option Addr) (len cap : Nat) (zs : List Int) : Prop :=
  (a = none ∧ len = 0 ∧ cap = 0 ∧ zs = []) ∨
  ∃ x, a = some x ∧ len ≤ cap ∧ cap ≤ maxLen ∧ zs.length = cap ∧ (∀ i, i < zs.length → w.cell? (x.add i) = some (.int k (zs.getD i 0))) ∧ ∀ n ∈ zs, (Lit.int k n).wf = true

theorem bytes_of {w : World} {a : Option Addr} {len cap : Nat} {zs : List Int} (h : IsRow .u8 w a len cap zs) : Bytes w a len ∧ len ≤ cap ∧ len ≤ 9223372036854775807 := by
  rcases h with ⟨rfl, rfl, rfl, rfl⟩ | ⟨x, rfl, hl, hm, hz, hc, hw⟩
  · exact ⟨.inl rfl, Nat.le_refl _, by omega⟩
  · unfold maxLen at hm
    refine ⟨?_, hl, by omega⟩
    by_cases h0 : len = 0
    · exact .inl h0
    · obtain ⟨b, off, rfl, hc'⟩ := ints_at hc (by omega)
      exact .inr ⟨b, off, rfl, World.block_lt_of_cell? _ _ (hc' 0 (by omega)), fun i hi => ⟨zs[i]?.getD 0, (range_u8 hw i).1, (range_u8 hw i).2, by simpa [List.getD] using hc' i (by omega)⟩⟩

theorem walk (a0 : Option Addr) (len0 cap0 : Nat) (z0 : List Int) (a1 : Option Addr) (len1 cap1 : Nat) (z1 : List Int) (w : World) (w0 : IsRow .u8 w a0 len0 cap0 z0) (w1 : IsRow .u8 w a1 len1 cap1 z1) :
    Calls Try.prog 3 #[.slice a0 len0 cap0, .slice a1 len1 cap1] w fun e w' => e = .returned (.bool true) ∧ Below w.heap.size w w' := by
  obtain ⟨hby, hcp, hn⟩ := bytes_of w0
  have HB0 := Lib.hid hby
  obtain ⟨hby1, hcp1, hn1⟩ := bytes_of w1
  have HB1 := Lib.hid hby1
  clear hby w0 hby1 w1
  by_cases h0 : 1048576 < len0
  · go_enter Try.func3, Try.ntmps3
    go_wp2
    go_ret
    exact ⟨rfl, Below.refl _ _⟩
  · have h0' : len0 ≤ 1048576 := by omega
    clear h0
    by_cases h1 : 1048576 < len1
    · go_enter Try.func3, Try.ntmps3
      go_wp2
      go_ret
      exact ⟨rfl, Below.refl _ _⟩
    · have h1' : len1 ≤ 1048576 := by omega
      clear h1
      go_enter Try.func3, Try.ntmps3
      go_wp2_with fail
      refine (dDrawExtend a0 len0 cap0 w HB0.out hcp (by omega)).mono ?_
      rintro e w0 ⟨m, a, b, rfl, hb0⟩
      cases h : bTwo m a b
      · have H := Lib.hid h
        clear h
        go_wp2_with (first | (go_at_call 16; (with_reducible refine (iExtN H _).mono ?_); rintro e w1 ⟨rfl, hb1⟩) | (go_at_call 17; (with_reducible refine (sExtN H _).mono ?_); rintro e w2 ⟨rfl, rfl⟩))
        go_ret
        exact ⟨rfl, bel_trans hb0 hb1⟩
      · have hk := (bTwo_of h).1
        have ha := (bTwo_of h).2.1
        have hb := (bTwo_of h).2.2
        obtain ⟨ab, hab⟩ : ∃ ab, ab = mJoin m a b := ⟨_, rfl⟩
        obtain ⟨one, hone⟩ : ∃ one, one = mOne m := ⟨_, rfl⟩
        have H1 := Lib.hid h
        have E1 := Lib.hid hab.symm
        have HK := Lib.hid hk
        have E2 := Lib.hid hone.symm
        have H3 := Lib.hid (mTwo hk (show mIn m one = true by rw [hone]; exact mOneIn hk) ha)
        have E3 := Lib.hid (show mJoin m one a = a by rw [hone]; exact mJoin_oneL hk ha)
        have H4 := Lib.hid (mTwo hk ha (show mIn m one = true by rw [hone]; exact mOneIn hk))
        have E4 := Lib.hid (show mJoin m a one = a by rw [hone]; exact mJoin_oneR hk ha)
        have HA := Lib.hid ha
        have HB := Lib.hid hb
        have HABI := Lib.hid (show mIn m ab = true by rw [hab]; exact mJoinIn hk ha hb)
        clear h hab hone hk ha hb
        go_wp2_with (first | (go_at_call 16; (with_reducible refine (iExtY H1 E1 _).mono ?_); rintro e w1 ⟨rfl, hb1⟩) | (go_at_call 17; (with_reducible refine (sExtY H1 E1 _).mono ?_); rintro e w2 ⟨rfl, rfl⟩) | (go_at_call 18; (with_reducible refine (iEmptyY HK E2 _).mono ?_); rintro e w3 ⟨rfl, hb3⟩) | (go_at_call 16; (with_reducible refine (iExtY H3 E3 _).mono ?_); rintro e w4 ⟨rfl, hb4⟩) | (go_at_call 16; (with_reducible refine (iExtY H4 E4 _).mono ?_); rintro e w5 ⟨rfl, hb5⟩))
        have HBEL := bel_trans (bel_trans (bel_trans (bel_trans hb0 hb1) hb3) hb4) hb5
        refine (dDrawExtend a1 len1 cap1 _ (Bytes.below HB1.out HBEL) hcp1 (by omega)).mono ?_
        rintro e w9 ⟨m9, c, b9, rfl, hb9⟩
        cases hv : mIs m c
        · have HV := Lib.hid hv
          clear hv
          go_wp2_with (first | (go_at_call 19; (with_reducible refine (iValIs HV _).mono ?_); rintro e w6 ⟨rfl, hb6⟩))
          go_ret
          exact ⟨rfl, bel_trans (bel_trans HBEL hb9) hb6⟩
        · have HV := Lib.hid hv
          have hc := mIs_in hv
          obtain ⟨bc, hbc⟩ : ∃ bc, bc = mJoin m b c := ⟨_, rfl⟩
          obtain ⟨z, hz⟩ : ∃ z, z = mJoin m ab c := ⟨_, rfl⟩
          have H5 := Lib.hid (mTwo HK.out HB.out hc)
          have E5 := Lib.hid hbc.symm
          have H6 := Lib.hid (mTwo HK.out HABI.out hc)
          have E6 := Lib.hid hz.symm
          have H7 := Lib.hid (show bTwo m a bc = true by rw [hbc]; exact mTwo HK.out HA.out (mJoinIn HK.out HB.out hc))
          have E7 := Lib.hid (show mJoin m a bc = z by rw [hbc, hz, ← E1.out]; exact (mJoin_assoc HK.out HA.out HB.out hc).symm)
          clear hv hc hbc hz
          go_wp2_with (first | (go_at_call 19; (with_reducible refine (iValIs HV _).mono ?_); rintro e w6 ⟨rfl, hb6⟩) | (go_at_call 16; (with_reducible refine (iExtY H5 E5 _).mono ?_); rintro e w7 ⟨rfl, hb7⟩) | (go_at_call 16; (with_reducible refine (iExtY H6 E6 _).mono ?_); rintro e w8 ⟨rfl, hb8⟩) | (go_at_call 16; (with_reducible refine (iExtY H7 E7 _).mono ?_); rintro e w10 ⟨rfl, hb10⟩))
          go_ret
          exact ⟨rfl, bel_trans (bel_trans (bel_trans (bel_trans (bel_trans HBEL hb9) hb6) hb7) hb8) hb10⟩

set_option maxRecDepth 100000 in
theorem lifted (os : Os) (started : os.Started) (H : Type) (enc : TypeId × Value → H) :
    ReturnsInHanded {} Try.checked os 3 .any (Rows.fnExtendSpec.pre6 enc Try.prog Try.f3 Rows.fnExtendRow.domain false) (Rows.fnExtendSpec.post enc Try.prog Try.f3 false true false false) := by
  refine returnsInHanded_of_change (C := Try.checked) own started (by kernel_rfl) Try.func3
    (ChangeSpec.witness6 (enc := enc) (C := Try.checked) false ⟨#[], #[.slice none 0 0, .slice none 0 0], []⟩ 8 (by kernel_rfl) (by kernel_rfl) (by kernel_rfl) (by kernel_rfl)) ?_
  intro W base args ds gs before hval0 hW hcnd _
  have hval : ∀ (j : Nat) t v, Try.f3.params[j]? = some t → args[j]? = some v → Value.okWide Try.prog W .any base t v := hval0
  have hW' := hW
  obtain ⟨p, q, hA0, hV, rfl, hfz, hnd⟩ := hW
  have hA : DataW.TrodAll enc Try.prog W 0 (fun _ => true) true Try.f3.params.toList args.toList ds p := hA0
  rw [Try.params3] at hA hval
  obtain ⟨v0, vs0, d0, ds0, p0, q0, hargs, rfl, rfl, h0, r0⟩ := trodAll_cons hA
  obtain ⟨v1, vs1, d1, ds1, p1, q1, rfl, rfl, rfl, h1, r1⟩ := trodAll_cons r0
  obtain ⟨rfl, rfl, rfl⟩ := trodAll_nil r1
  obtain rfl : args = #[v0, v1] := by cases args; simp_all
  obtain ⟨rfl, rfl⟩ := trodVars_none hV
  obtain ⟨a0, len0, cap0, rfl⟩ := okWide_slice Try.underlying22 (hval 0 22 v0 rfl rfl)
  have k0 := h0
  have lt0 : ∀ x ∈ p0, x.block < W.heap.size := by obtain ⟨m, hm⟩ := k0; exact DataW.trod_lt m _ _ _ hm
  obtain ⟨z0, w0⟩ : ∃ zs, IsRow .u8 W a0 len0 cap0 zs := by
    obtain ⟨fuel, hf⟩ := h0
    rcases open_ints Try.underlying22 Try.underlying5 (by kernel_rfl) hf with ⟨hcs, _⟩ | ⟨x, l, c, zs, hcs, _, hl, hm, hz, _, hcell, hwz⟩
    · simp [Value.cells] at hcs
      obtain ⟨rfl, rfl, rfl⟩ := hcs
      exact ⟨[], .inl ⟨rfl, rfl, rfl, rfl⟩⟩
    · simp [Value.cells] at hcs
      obtain ⟨rfl, rfl, rfl⟩ := hcs
      exact ⟨zs, .inr ⟨_, rfl, hl, hm, by simpa using hz, hcell, hwz⟩⟩
  obtain ⟨a1, len1, cap1, rfl⟩ := okWide_slice Try.underlying22 (hval 1 22 v1 rfl rfl)
  have k1 := h1
  have lt1 : ∀ x ∈ p1, x.block < W.heap.size := by obtain ⟨m, hm⟩ := k1; exact DataW.trod_lt m _ _ _ hm
  obtain ⟨z1, w1⟩ : ∃ zs, IsRow .u8 W a1 len1 cap1 zs := by
    obtain ⟨fuel, hf⟩ := h1
    rcases open_ints Try.underlying22 Try.underlying5 (by kernel_rfl) hf with ⟨hcs, _⟩ | ⟨x, l, c, zs, hcs, _, hl, hm, hz, _, hcell, hwz⟩
    · simp [Value.cells] at hcs
      obtain ⟨rfl, rfl, rfl⟩ := hcs
      exact ⟨[], .inl ⟨rfl, rfl, rfl, rfl⟩⟩
    · simp [Value.cells] at hcs
      obtain ⟨rfl, rfl, rfl⟩ := hcs
      exact ⟨zs, .inr ⟨_, rfl, hl, hm, by simpa using hz, hcell, hwz⟩⟩
  clear hA0 hval0
  refine (walk a0 len0 cap0 z0 a1 len1 cap1 z1 W w0 w1).mono fun e W' ⟨he, bel⟩ => ?_
  subst he
  exact ⟨_, rfl, _, _, _, [], _, [], hW', trodAll_mk1 (shut_bool Try.underlying4 _), (trodAll_cons_mk (Below.trod laidOut (by kernel_rfl) (of_decide_eq_true (by kernel_rfl)) k0 bel lt0) (trodAll_cons_mk (Below.trod laidOut (by kernel_rfl) (of_decide_eq_true (by kernel_rfl)) k1 bel lt1) trodAll_mk0)), rfl, bel.frame _, fun h => by cases h⟩

theorem over : Rows.fnExtendRow.holds Try.pinned (OpenSpec.ofChange Rows.fnExtendSpec) :=
  OpenClaim.holds_of_wide 3 Try.f3 rfl rfl rfl rfl rfl rfl rfl ⟨rfl, rfl, rfl, rfl, rfl⟩ rfl rfl rfl rfl rfl (by kernel_rfl) Try.func3 (by kernel_rfl)
    (of_decide_eq_true (by kernel_rfl)) (by unfold Func.isWrapper; first | (rw [if_pos (by decide +kernel)]; kernel_rfl) | (rw [if_neg (by decide +kernel)]; exact ⟨rfl, rfl⟩))
    (fun os started H enc _ => lifted os started H enc)

theorem proved : Rows.FnExtendSaid := over
end Go.Proofs.Ytmiomafgfeofnaa.fnExtend
