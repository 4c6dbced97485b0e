/-
  Proved: no path is worse than any other measure, and stays no path when it is extended (the law FnNoPath returns true for every input and leaves it as it was), with no further condition.
-/
import Derived.Test.YtmiomafgfeofnaaRows
import Derived.Test.YtmiomafgfeofnaaLaw
import Derived.Test.YtmiomafgfeofnaaDraw2
import Derived.WalkKit
import Derived.ProofKit
import Derived.OpenShut
import Derived.ShutString
import Derived.ChangeOld
import Derived.Below
namespace Go.Proofs.Ytmiomafgfeofnaa.fnNoPath
open Go.Proofs.Ytmiomafgfeofnaa Go.BigFrame
open Go.ChangeShapes Go.WideShapes Go.ChangeAt Go.RowKit
open Go.ChangeMaps (open_string shut_string)
set_option linter.unusedVariables false

theorem own : ownKnob Try.prog.godebug = none := by kernel_rfl
theorem laidOut : laidOutB Try.prog = true := by kernel_rfl

def IsRow (k : IntKind) (w : World) (a : Option Addr) (len cap : Nat) (zs : List Int) : Prop :=
  (a = none ∧ len = 0 ∧ cap = 0 ∧ zs = []) ∨
  ∃ x, a = some x ∧ len ≤ cap ∧ cap ≤ maxLen ∧ zs.length = cap ∧ (∀ i, i < zs.length → w.cell? (x.add i) = some (.int k (zs.getD i 0))) ∧ ∀ n ∈ zs, (Lit.int k n).wf = true

theorem bytes_of {w : World} {a : Option Addr} {len cap : Nat} {zs : List Int} (h : IsRow .u8 w a len cap zs) : Bytes w a len ∧ len ≤ cap ∧ len ≤ 9223372036854775807 := by
  rcases h with ⟨rfl, rfl, rfl, rfl⟩ | ⟨x, rfl, hl, hm, hz, hc, hw⟩
  · exact ⟨.inl rfl, Nat.le_refl _, by omega⟩
  · unfold maxLen at hm
    refine ⟨?_, hl, by omega⟩
    by_cases h0 : len = 0
    · exact .inl h0
    · obtain ⟨b, off, rfl, hc'⟩ := ints_at hc (by omega)
      exact .inr ⟨b, off, rfl, World.block_lt_of_cell? _ _ (hc' 0 (by omega)), fun i hi => ⟨zs[i]?.getD 0, (range_u8 hw i).1, (range_u8 hw i).2, by simpa [List.getD] using hc' i (by omega)⟩⟩

theorem walk (a0 : Option Addr) (len0 cap0 : Nat) (z0 : List Int) (w : World) (w0 : IsRow .u8 w a0 len0 cap0 z0) :
    Calls Try.prog 9 #[.slice a0 len0 cap0] w fun e w' => e = .returned (.bool true) ∧ Below w.heap.size w w' := by
  obtain ⟨hby, hcp, hn⟩ := bytes_of w0
  have HB0 := Lib.hid hby
  clear hby w0
  by_cases h0 : 1048576 < len0
  · go_enter Try.func9, Try.ntmps9
    go_wp2
    go_ret
    exact ⟨rfl, Below.refl _ _⟩
  · have h0' : len0 ≤ 1048576 := by omega
    clear h0
    go_enter Try.func9, Try.ntmps9
    go_wp2_with fail
    refine (dDrawValueValid a0 len0 cap0 w HB0.out hcp (by omega)).mono ?_
    rintro e w0 ⟨m, v, rfl, hb0⟩
    cases hv : mIs m v
    · cases hk : mKind m
      · have HV := Lib.hid hv
        have HK := Lib.hid hk
        clear hv hk
        go_wp2_with (first | (go_at_call 19; (with_reducible refine (iValIs HV _).mono ?_); rintro e w1 ⟨rfl, hb1⟩) | (go_at_call 32; (with_reducible refine (sValIs HV _).mono ?_); rintro e w2 ⟨rfl, rfl⟩) | (go_at_call 24; (with_reducible refine (iNoN HK _).mono ?_); rintro e w3 ⟨rfl, hb3⟩) | (go_at_call 31; (with_reducible refine (sNoN HK _).mono ?_); rintro e w4 ⟨rfl, rfl⟩) | (go_at_call 33; (with_reducible refine (iKindIs HK _).mono ?_); rintro e w5 ⟨rfl, rfl⟩))
        go_ret
        exact ⟨rfl, bel_trans (bel_trans (hb0) hb1) hb3⟩
      · have HV := Lib.hid hv
        have HK := Lib.hid hk
        obtain ⟨none, hnone⟩ : ∃ none, none = mNone m := ⟨_, rfl⟩
        have E1 := Lib.hid hnone.symm
        clear hv hk hnone
        go_wp2_with (first | (go_at_call 19; (with_reducible refine (iValIs HV _).mono ?_); rintro e w1 ⟨rfl, hb1⟩) | (go_at_call 32; (with_reducible refine (sValIs HV _).mono ?_); rintro e w2 ⟨rfl, rfl⟩) | (go_at_call 24; (with_reducible refine (iNoY HK E1 _).mono ?_); rintro e w3 ⟨rfl, hb3⟩) | (go_at_call 31; (with_reducible refine (sNoY HK E1 _).mono ?_); rintro e w4 ⟨rfl, rfl⟩) | (go_at_call 33; (with_reducible refine (iKindIs HK _).mono ?_); rintro e w5 ⟨rfl, rfl⟩))
        go_ret
        exact ⟨rfl, bel_trans (bel_trans (hb0) hb1) hb3⟩
    · have hk := mIs_kind hv
      have hi := mIs_in hv
      obtain ⟨none, hnone⟩ : ∃ none, none = mNone m := ⟨_, rfl⟩
      have HV := Lib.hid hv
      have HK := Lib.hid hk
      have E1 := Lib.hid hnone.symm
      have hni : mIn m none = true := by rw [hnone]; exact mNoneIn hk
      have H2 := Lib.hid (mTwo hk hi hni)
      have E2 := Lib.hid (show mJoin m v none = none by rw [hnone]; exact mJoin_noneR hk hi)
      have H3 := Lib.hid (mTwo hk hni hi)
      have E3 := Lib.hid (show mJoin m none v = none by rw [hnone]; exact mJoin_noneL hk hi)
      have B1 := Lib.hid (bBet_of (mTwo hk hni hi) (show mBet m none v = false by rw [hnone]; exact mNone_worst hi))
      by_cases hvn : v = none
      · have g1 : (v == none) = true := by simpa using hvn
        clear hv hk hi hnone hni hvn
        go_wp2_with (first | (go_at_call 19; (with_reducible refine (iValIs HV _).mono ?_); rintro e w1 ⟨rfl, hb1⟩) | (go_at_call 32; (with_reducible refine (sValIs HV _).mono ?_); rintro e w2 ⟨rfl, rfl⟩) | (go_at_call 24; (with_reducible refine (iNoY HK E1 _).mono ?_); rintro e w3 ⟨rfl, hb3⟩) | (go_at_call 31; (with_reducible refine (sNoY HK E1 _).mono ?_); rintro e w4 ⟨rfl, rfl⟩) | (go_at_call 33; (with_reducible refine (iKindIs HK _).mono ?_); rintro e w5 ⟨rfl, rfl⟩) | (go_at_call 16; (with_reducible refine (iExtY H2 E2 _).mono ?_); rintro e w6 ⟨rfl, hb6⟩) | (go_at_call 16; (with_reducible refine (iExtY H3 E3 _).mono ?_); rintro e w7 ⟨rfl, hb7⟩) | (go_at_call 20; (with_reducible refine (iBetIs B1 _).mono ?_); rintro e w8 ⟨rfl, hb8⟩))
        go_ret
        exact ⟨rfl, bel_trans (bel_trans (bel_trans (bel_trans (bel_trans (hb0) hb1) hb3) hb6) hb7) hb8⟩
      · have g1 : (v == none) = false := by simpa using hvn
        have B2 := Lib.hid (bBet_of (mTwo hk hi hni) (show mBet m v none = true by rw [hnone]; exact mNone_strict hk hi (by rw [← hnone]; exact hvn)))
        clear hv hk hi hnone hni hvn
        go_wp2_with (first | (go_at_call 19; (with_reducible refine (iValIs HV _).mono ?_); rintro e w1 ⟨rfl, hb1⟩) | (go_at_call 32; (with_reducible refine (sValIs HV _).mono ?_); rintro e w2 ⟨rfl, rfl⟩) | (go_at_call 24; (with_reducible refine (iNoY HK E1 _).mono ?_); rintro e w3 ⟨rfl, hb3⟩) | (go_at_call 31; (with_reducible refine (sNoY HK E1 _).mono ?_); rintro e w4 ⟨rfl, rfl⟩) | (go_at_call 33; (with_reducible refine (iKindIs HK _).mono ?_); rintro e w5 ⟨rfl, rfl⟩) | (go_at_call 16; (with_reducible refine (iExtY H2 E2 _).mono ?_); rintro e w6 ⟨rfl, hb6⟩) | (go_at_call 16; (with_reducible refine (iExtY H3 E3 _).mono ?_); rintro e w7 ⟨rfl, hb7⟩) | (go_at_call 20; (with_reducible refine (iBetIs B1 _).mono ?_); rintro e w8 ⟨rfl, hb8⟩) | (go_at_call 20; (with_reducible refine (iBetIs B2 _).mono ?_); rintro e w9 ⟨rfl, hb9⟩))
        go_ret
        exact ⟨rfl, bel_trans (bel_trans (bel_trans (bel_trans (bel_trans (bel_trans (hb0) hb1) hb3) hb6) hb7) hb8) hb9⟩

set_option maxRecDepth 100000 in
theorem lifted (os : Os) (started : os.Started) (H : Type) (enc : TypeId × Value → H) :
    ReturnsInHanded {} Try.checked os 9 .any (Rows.fnNoPathSpec.pre6 enc Try.prog Try.f9 Rows.fnNoPathRow.domain false) (Rows.fnNoPathSpec.post enc Try.prog Try.f9 false true false false) := by
  refine returnsInHanded_of_change (C := Try.checked) own started (by kernel_rfl) Try.func9
    (ChangeSpec.witness6 (enc := enc) (C := Try.checked) false ⟨#[], #[.slice none 0 0], []⟩ 8 (by kernel_rfl) (by kernel_rfl) (by kernel_rfl) (by kernel_rfl)) ?_
  intro W base args ds gs before hval0 hW hcnd _
  have hval : ∀ (j : Nat) t v, Try.f9.params[j]? = some t → args[j]? = some v → Value.okWide Try.prog W .any base t v := hval0
  have hW' := hW
  obtain ⟨p, q, hA0, hV, rfl, hfz, hnd⟩ := hW
  have hA : DataW.TrodAll enc Try.prog W 0 (fun _ => true) true Try.f9.params.toList args.toList ds p := hA0
  rw [Try.params9] at hA hval
  obtain ⟨v0, vs0, d0, ds0, p0, q0, hargs, rfl, rfl, h0, r0⟩ := trodAll_cons hA
  obtain ⟨rfl, rfl, rfl⟩ := trodAll_nil r0
  obtain rfl : args = #[v0] := by cases args; simp_all
  obtain ⟨rfl, rfl⟩ := trodVars_none hV
  obtain ⟨a0, len0, cap0, rfl⟩ := okWide_slice Try.underlying22 (hval 0 22 v0 rfl rfl)
  have k0 := h0
  have lt0 : ∀ x ∈ p0, x.block < W.heap.size := by obtain ⟨m, hm⟩ := k0; exact DataW.trod_lt m _ _ _ hm
  obtain ⟨z0, w0⟩ : ∃ zs, IsRow .u8 W a0 len0 cap0 zs := by
    obtain ⟨fuel, hf⟩ := h0
    rcases open_ints Try.underlying22 Try.underlying5 (by kernel_rfl) hf with ⟨hcs, _⟩ | ⟨x, l, c, zs, hcs, _, hl, hm, hz, _, hcell, hwz⟩
    · simp [Value.cells] at hcs
      obtain ⟨rfl, rfl, rfl⟩ := hcs
      exact ⟨[], .inl ⟨rfl, rfl, rfl, rfl⟩⟩
    · simp [Value.cells] at hcs
      obtain ⟨rfl, rfl, rfl⟩ := hcs
      exact ⟨zs, .inr ⟨_, rfl, hl, hm, by simpa using hz, hcell, hwz⟩⟩
  clear hA0 hval0
  refine (walk a0 len0 cap0 z0 W w0).mono fun e W' ⟨he, bel⟩ => ?_
  subst he
  exact ⟨_, rfl, _, _, _, [], _, [], hW', trodAll_mk1 (shut_bool Try.underlying4 _), (trodAll_cons_mk (Below.trod laidOut (by kernel_rfl) (of_decide_eq_true (by kernel_rfl)) k0 bel lt0) trodAll_mk0), rfl, bel.frame _, fun h => by cases h⟩

theorem over : Rows.fnNoPathRow.holds Try.pinned (OpenSpec.ofChange Rows.fnNoPathSpec) :=
  OpenClaim.holds_of_wide 9 Try.f9 rfl rfl rfl rfl rfl rfl rfl ⟨rfl, rfl, rfl, rfl, rfl⟩ rfl rfl rfl rfl rfl (by kernel_rfl) Try.func9 (by kernel_rfl)
    (of_decide_eq_true (by kernel_rfl)) (by unfold Func.isWrapper; first | (rw [if_pos (by decide +kernel)]; kernel_rfl) | (rw [if_neg (by decide +kernel)]; exact ⟨rfl, rfl⟩))
    (fun os started H enc _ => lifted os started H enc)

theorem proved : Rows.FnNoPathSaid := over
end Go.Proofs.Ytmiomafgfeofnaa.fnNoPath
