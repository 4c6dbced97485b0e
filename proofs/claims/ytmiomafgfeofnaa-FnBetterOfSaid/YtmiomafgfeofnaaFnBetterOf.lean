/-
  Proved: the better one of two measures is one of them, and none of them is better than it (the law FnBetterOf returns true for every input and leaves it as it was), with no further condition.
-/
import Derived.Test.YtmiomafgfeofnaaRows
import Derived.Test.YtmiomafgfeofnaaLaw
import Derived.Test.YtmiomafgfeofnaaDraw2
import Derived.WalkKit
import Derived.ProofKit
import Derived.OpenShut
import Derived.ShutString
import Derived.ChangeOld
import Derived.Below
namespace Go.Proofs.Ytmiomafgfeofnaa.fnBetterOf
open Go.Proofs.Ytmiomafgfeofnaa Go.BigFrame
open Go.ChangeShapes Go.WideShapes Go.ChangeAt Go.RowKit
open Go.ChangeMaps (open_string shut_string)
set_option linter.unusedVariables false

theorem own : ownKnob Try.prog.godebug = none := by kernel_rfl
theorem laidOut : laidOutB Try.prog = true := by kernel_rfl

def IsRow (k : IntKind) (w : World) (a : Option Addr) (len cap : Nat) (zs : List Int) : Prop :=
  (a = none ∧ len = 0 ∧ cap = 0 ∧ zs = []) ∨
  ∃ x, a = some x ∧ len ≤ cap ∧ cap ≤ maxLen ∧ zs.length = cap ∧ (∀ i, i < zs.length → w.cell? (x.add i) = some (.int k (zs.getD i 0))) ∧ ∀ n ∈ zs, (Lit.int k n).wf = true

theorem bytes_of {w : World} {a : Option Addr} {len cap : Nat} {zs : List Int} (h : IsRow .u8 w a len cap zs) : Bytes w a len ∧ len ≤ cap ∧ len ≤ 9223372036854775807 := by
  rcases h with ⟨rfl, rfl, rfl, rfl⟩ | ⟨x, rfl, hl, hm, hz, hc, hw⟩
  · exact ⟨.inl rfl, Nat.le_refl _, by omega⟩
  · unfold maxLen at hm
    refine ⟨?_, hl, by omega⟩
    by_cases h0 : len = 0
    · exact .inl h0
    · obtain ⟨b, off, rfl, hc'⟩ := ints_at hc (by omega)
      exact .inr ⟨b, off, rfl, World.block_lt_of_cell? _ _ (hc' 0 (by omega)), fun i hi => ⟨zs[i]?.getD 0, (range_u8 hw i).1, (range_u8 hw i).2, by simpa [List.getD] using hc' i (by omega)⟩⟩

theorem walk (a0 : Option Addr) (len0 cap0 : Nat) (z0 : List Int) (w : World) (w0 : IsRow .u8 w a0 len0 cap0 z0) :
    Calls Try.prog 5 #[.slice a0 len0 cap0] w fun e w' => e = .returned (.bool true) ∧ Below w.heap.size w w' := by
  obtain ⟨hby, hcp, hn⟩ := bytes_of w0
  have HB0 := Lib.hid hby
  clear hby w0
  by_cases h0 : 1048576 < len0
  · go_enter Try.func5, Try.ntmps5
    go_wp2
    go_ret
    exact ⟨rfl, Below.refl _ _⟩
  · have h0' : len0 ≤ 1048576 := by omega
    clear h0
    go_enter Try.func5, Try.ntmps5
    go_wp2_with fail
    refine (dDrawBetterOf a0 len0 cap0 w HB0.out hcp (by omega)).mono ?_
    rintro e w0 ⟨m, a, b, rfl, hb0⟩
    cases h : bTwo m a b
    · have H := Lib.hid h
      have H2 := Lib.hid (bTwo_swap h)
      clear h
      go_wp2_with (first | (go_at_call 22; (with_reducible refine (iBestN H _).mono ?_); rintro e w1 ⟨rfl, hb1⟩) | (go_at_call 23; (with_reducible refine (sBestN H _).mono ?_); rintro e w2 ⟨rfl, rfl⟩) | (go_at_call 22; (with_reducible refine (iBestN H2 _).mono ?_); rintro e w3 ⟨rfl, hb3⟩))
      go_ret
      exact ⟨rfl, bel_trans (bel_trans (hb0) hb1) hb3⟩
    · have hk := (bTwo_of h).1
      have ha := (bTwo_of h).2.1
      have hb := (bTwo_of h).2.2
      by_cases hva : mBest m a b = a
      · have H1 := Lib.hid h
        have E1 := Lib.hid hva
        have H2 := Lib.hid (bTwo_swap h)
        have E2 := Lib.hid ((mBest_comm hk).trans hva)
        have HK := Lib.hid hk
        obtain ⟨none, hnone⟩ : ∃ none, none = mNone m := ⟨_, rfl⟩
        have E3 := Lib.hid hnone.symm
        have H4 := Lib.hid (mTwo hk (show mIn m a = true from ha) (show mIn m none = true by rw [hnone]; exact mNoneIn hk))
        have E4 := Lib.hid (show mBest m a none = a by rw [hnone]; exact mBest_none hk ha)
        have B1 := Lib.hid (bBet_of (mTwo hk ha ha) (mBet_self (m := m) (a := a)))
        have B2 := Lib.hid (bBet_of (mTwo hk hb ha) (show mBet m b a = false by have := mBest_bestR (m := m) (a := a) (b := b) hk; rw [hva] at this; exact this))
        clear h hva hk ha hb hnone
        go_wp2_with (first | (go_at_call 22; (with_reducible refine (iBestY H1 E1 _).mono ?_); rintro e w1 ⟨rfl, hb1⟩) | (go_at_call 23; (with_reducible refine (sBestY H1 E1 _).mono ?_); rintro e w2 ⟨rfl, rfl⟩) | (go_at_call 22; (with_reducible refine (iBestY H2 E2 _).mono ?_); rintro e w3 ⟨rfl, hb3⟩) | (go_at_call 24; (with_reducible refine (iNoY HK E3 _).mono ?_); rintro e w4 ⟨rfl, hb4⟩) | (go_at_call 22; (with_reducible refine (iBestY H4 E4 _).mono ?_); rintro e w5 ⟨rfl, hb5⟩) | (go_at_call 20; (with_reducible refine (iBetIs B1 _).mono ?_); rintro e w6 ⟨rfl, hb6⟩) | (go_at_call 20; (with_reducible refine (iBetIs B2 _).mono ?_); rintro e w7 ⟨rfl, hb7⟩))
        go_ret
        exact ⟨rfl, by first | exact bel_trans (bel_trans (bel_trans (bel_trans (bel_trans (bel_trans (hb0) hb1) hb3) hb4) hb5) hb6) hb7 | assumption⟩
      · have hvb : mBest m a b = b := mBest_or.resolve_left hva
        have hne : (b == a) = false := by
          have : b ≠ a := fun e => hva (by rw [hvb, e])
          simpa using this
        have H1 := Lib.hid h
        have E1 := Lib.hid hvb
        have H2 := Lib.hid (bTwo_swap h)
        have E2 := Lib.hid ((mBest_comm hk).trans hvb)
        have HK := Lib.hid hk
        obtain ⟨none, hnone⟩ : ∃ none, none = mNone m := ⟨_, rfl⟩
        have E3 := Lib.hid hnone.symm
        have H4 := Lib.hid (mTwo hk (show mIn m b = true from hb) (show mIn m none = true by rw [hnone]; exact mNoneIn hk))
        have E4 := Lib.hid (show mBest m b none = b by rw [hnone]; exact mBest_none hk hb)
        have B1 := Lib.hid (bBet_of (mTwo hk ha hb) (show mBet m a b = false by have := mBest_bestL (m := m) (a := a) (b := b) hk; rw [hvb] at this; exact this))
        have B2 := Lib.hid (bBet_of (mTwo hk hb hb) (mBet_self (m := m) (a := b)))
        clear h hva hvb hk ha hb hnone
        go_wp2_with (first | (go_at_call 22; (with_reducible refine (iBestY H1 E1 _).mono ?_); rintro e w1 ⟨rfl, hb1⟩) | (go_at_call 23; (with_reducible refine (sBestY H1 E1 _).mono ?_); rintro e w2 ⟨rfl, rfl⟩) | (go_at_call 22; (with_reducible refine (iBestY H2 E2 _).mono ?_); rintro e w3 ⟨rfl, hb3⟩) | (go_at_call 24; (with_reducible refine (iNoY HK E3 _).mono ?_); rintro e w4 ⟨rfl, hb4⟩) | (go_at_call 22; (with_reducible refine (iBestY H4 E4 _).mono ?_); rintro e w5 ⟨rfl, hb5⟩) | (go_at_call 20; (with_reducible refine (iBetIs B1 _).mono ?_); rintro e w6 ⟨rfl, hb6⟩) | (go_at_call 20; (with_reducible refine (iBetIs B2 _).mono ?_); rintro e w7 ⟨rfl, hb7⟩))
        go_ret
        exact ⟨rfl, bel_trans (bel_trans (bel_trans (bel_trans (bel_trans (bel_trans (hb0) hb1) hb3) hb4) hb5) hb6) hb7⟩

set_option maxRecDepth 100000 in
theorem lifted (os : Os) (started : os.Started) (H : Type) (enc : TypeId × Value → H) :
    ReturnsInHanded {} Try.checked os 5 .any (Rows.fnBetterOfSpec.pre6 enc Try.prog Try.f5 Rows.fnBetterOfRow.domain false) (Rows.fnBetterOfSpec.post enc Try.prog Try.f5 false true false false) := by
  refine returnsInHanded_of_change (C := Try.checked) own started (by kernel_rfl) Try.func5
    (ChangeSpec.witness6 (enc := enc) (C := Try.checked) false ⟨#[], #[.slice none 0 0], []⟩ 8 (by kernel_rfl) (by kernel_rfl) (by kernel_rfl) (by kernel_rfl)) ?_
  intro W base args ds gs before hval0 hW hcnd _
  have hval : ∀ (j : Nat) t v, Try.f5.params[j]? = some t → args[j]? = some v → Value.okWide Try.prog W .any base t v := hval0
  have hW' := hW
  obtain ⟨p, q, hA0, hV, rfl, hfz, hnd⟩ := hW
  have hA : DataW.TrodAll enc Try.prog W 0 (fun _ => true) true Try.f5.params.toList args.toList ds p := hA0
  rw [Try.params5] at hA hval
  obtain ⟨v0, vs0, d0, ds0, p0, q0, hargs, rfl, rfl, h0, r0⟩ := trodAll_cons hA
  obtain ⟨rfl, rfl, rfl⟩ := trodAll_nil r0
  obtain rfl : args = #[v0] := by cases args; simp_all
  obtain ⟨rfl, rfl⟩ := trodVars_none hV
  obtain ⟨a0, len0, cap0, rfl⟩ := okWide_slice Try.underlying22 (hval 0 22 v0 rfl rfl)
  have k0 := h0
  have lt0 : ∀ x ∈ p0, x.block < W.heap.size := by obtain ⟨m, hm⟩ := k0; exact DataW.trod_lt m _ _ _ hm
  obtain ⟨z0, w0⟩ : ∃ zs, IsRow .u8 W a0 len0 cap0 zs := by
    obtain ⟨fuel, hf⟩ := h0
    rcases open_ints Try.underlying22 Try.underlying5 (by kernel_rfl) hf with ⟨hcs, _⟩ | ⟨x, l, c, zs, hcs, _, hl, hm, hz, _, hcell, hwz⟩
    · simp [Value.cells] at hcs
      obtain ⟨rfl, rfl, rfl⟩ := hcs
      exact ⟨[], .inl ⟨rfl, rfl, rfl, rfl⟩⟩
    · simp [Value.cells] at hcs
      obtain ⟨rfl, rfl, rfl⟩ := hcs
      exact ⟨zs, .inr ⟨_, rfl, hl, hm, by simpa using hz, hcell, hwz⟩⟩
  clear hA0 hval0
  refine (walk a0 len0 cap0 z0 W w0).mono fun e W' ⟨he, bel⟩ => ?_
  subst he
  exact ⟨_, rfl, _, _, _, [], _, [], hW', trodAll_mk1 (shut_bool Try.underlying4 _), (trodAll_cons_mk (Below.trod laidOut (by kernel_rfl) (of_decide_eq_true (by kernel_rfl)) k0 bel lt0) trodAll_mk0), rfl, bel.frame _, fun h => by cases h⟩

theorem over : Rows.fnBetterOfRow.holds Try.pinned (OpenSpec.ofChange Rows.fnBetterOfSpec) :=
  OpenClaim.holds_of_wide 5 Try.f5 rfl rfl rfl rfl rfl rfl rfl ⟨rfl, rfl, rfl, rfl, rfl⟩ rfl rfl rfl rfl rfl (by kernel_rfl) Try.func5 (by kernel_rfl)
    (of_decide_eq_true (by kernel_rfl)) (by unfold Func.isWrapper; first | (rw [if_pos (by decide +kernel)]; kernel_rfl) | (rw [if_neg (by decide +kernel)]; exact ⟨rfl, rfl⟩))
    (fun os started H enc _ => lifted os started H enc)

theorem proved : Rows.FnBetterOfSaid := over
end Go.Proofs.Ytmiomafgfeofnaa.fnBetterOf
