/- The order of paths in the model, and its PathBefore. -/
import Derived.Test.YtneapbggnnndhaaPbfC
namespace Go.Proofs.Ytneapbggnnndhaa
open Go.RowKit Go.BigFrame Go.Deep
set_option linter.unusedVariables false
set_option linter.unusedSimpArgs false

set_option maxRecDepth 20000 in
set_option maxHeartbeats 2000000 in
theorem l11Before (m x y : Int) (zs ys : List Int) (s t : Value) (w : World) (hm : mKind m = true) (hs : Row w s zs) (ht : Row w t ys) (hl : zs.length ≤ 281474976710656) (hl2 : ys.length ≤ 281474976710656) :
    Calls Try.prog 52 #[.int .i64 m, .agg #[s, .int .i64 x], .agg #[t, .int .i64 y]] w fun e w' => e = .returned (.bool (bP m zs x ys y)) ∧ Below w.heap.size w w' := by
  obtain ⟨ad, c, rfl, hz0⟩ := id hs
  obtain ⟨ad2, c2, rfl, hz1⟩ := id ht
  clear hz0 hz1
  have hB : ∀ (A B : Obj), Below w.heap.size w ((w.alloc A).alloc B) := fun A B => ((Below.refl _ _).alloc (Nat.le_refl _) _).alloc (by simp) _
  have hlx := fun A B => l11Lex zs ys (.slice ad zs.length c) (.slice ad2 ys.length c2) ((w.alloc A).alloc B) (hs.keep (hB A B)) (ht.keep (hB A B)) hl hl2
  have hbt := fun W => sBet hm x y W
  have HB := Lib.hid hB
  unfold bP
  by_cases h : x = y
  · rw [if_pos h]
    have d1 : (x != y) = false := by simpa using h
    have d2 : (x == y) = true := by simpa using h
    have d3 : decide (x = y) = true := by simpa using h
    by_cases h2 : zs.length = ys.length
    · rw [if_pos h2]
      have e1 : ((zs.length : Int) != ys.length) = false := by simp; omega
      have e2 : ((zs.length : Int) == ys.length) = true := by simp; omega
      have e3 : decide ((zs.length : Int) = ys.length) = true := by simp; omega
      generalize lexB zs ys = L at hlx ⊢
      have HLX := Lib.hid hlx
      clear hlx hbt h h2 hs ht hB
      go_enter Try.func52, Try.ntmps52
      go_wp2_with (go_at_call 72; refine (HLX.out _ _).mono ?_; rintro e w1 ⟨rfl, hb1⟩)
      go_ret
      exact ⟨rfl, bel_trans (HB.out _ _) hb1⟩
    · rw [if_neg h2]
      have e1 : ((zs.length : Int) != ys.length) = true := by simp; omega
      have e2 : ((zs.length : Int) == ys.length) = false := by simp; omega
      have e3 : decide ((zs.length : Int) = ys.length) = false := by simp; omega
      clear hlx hbt h h2 hs ht hB
      go_enter Try.func52, Try.ntmps52
      go_wp2
      go_ret
      exact ⟨rfl, HB.out _ _⟩
  · rw [if_neg h]
    have d1 : (x != y) = true := by simpa using h
    have d2 : (x == y) = false := by simpa using h
    have d3 : decide (x = y) = false := by simpa using h
    generalize mBet m x y = L at hbt ⊢
    have HBT := Lib.hid hbt
    clear hlx hbt h hs ht hB
    go_enter Try.func52, Try.ntmps52
    go_wp2_with (go_at_call 41; refine (HBT.out _).mono ?_; rintro e w1 ⟨rfl, rfl⟩)
    go_ret
    exact ⟨rfl, HB.out _ _⟩

set_option maxRecDepth 20000 in
set_option maxHeartbeats 2000000 in
theorem sPathBefore (m x y : Int) (zs ys : List Int) (s t : Value) (w : World) (hs : Row w s zs) (ht : Row w t ys) (hl : zs.length ≤ 281474976710656) (hl2 : ys.length ≤ 281474976710656) :
    Calls Try.prog 27 #[.int .i64 m, .agg #[s, .int .i64 x], .agg #[t, .int .i64 y]] w fun e w' => e = .returned (.bool (pbB m zs x ys y)) ∧ Below w.heap.size w w' := by
  obtain ⟨ad, c, rfl, hz0⟩ := id hs
  obtain ⟨ad2, c2, rfl, hz1⟩ := id ht
  clear hz0 hz1
  have hB : ∀ (A B : Obj), Below w.heap.size w ((w.alloc A).alloc B) := fun A B => ((Below.refl _ _).alloc (Nat.le_refl _) _).alloc (by simp) _
  have hv1 := fun W => sValueValid m x W
  have hv2 := fun W => sValueValid m y W
  have hbf := fun A B (hm : mKind m = true) => l11Before m x y zs ys (.slice ad zs.length c) (.slice ad2 ys.length c2) ((w.alloc A).alloc B) hm (hs.keep (hB A B)) (ht.keep (hB A B)) hl hl2
  have HB := Lib.hid hB
  unfold pbB bTwo
  cases h1 : mIs m x
  · rw [h1] at hv1
    rw [Bool.false_and, Bool.false_and]
    have HV1 := Lib.hid hv1
    clear hv1 hv2 hbf hs ht hB h1
    go_enter Try.func27, Try.ntmps27
    go_wp2_with (go_at_call 51; refine (HV1.out _).mono ?_; rintro e w1 ⟨rfl, rfl⟩)
    go_ret
    exact ⟨rfl, HB.out _ _⟩
  · rw [h1] at hv1
    rw [Bool.true_and]
    have hm : mKind m = true := by
      unfold mIs at h1
      cases hk : mKind m
      · rw [hk] at h1; cases h1
      · rfl
    cases h2 : mIs m y
    · rw [h2] at hv2
      rw [Bool.false_and]
      have HV1 := Lib.hid hv1
      have HV2 := Lib.hid hv2
      clear hv1 hv2 hbf hs ht hB h1 h2 hm
      go_enter Try.func27, Try.ntmps27
      go_wp2_with fail
      refine (HV1.out _).mono ?_
      rintro e w1 ⟨rfl, rfl⟩
      go_wp2_with fail
      refine (HV2.out _).mono ?_
      rintro e w1 ⟨rfl, rfl⟩
      go_wp2
      go_ret
      exact ⟨rfl, HB.out _ _⟩
    · rw [h2] at hv2
      rw [Bool.true_and]
      have hbf2 := fun A B => hbf A B hm
      generalize bP m zs x ys y = P at hbf2 ⊢
      have HV1 := Lib.hid hv1
      have HV2 := Lib.hid hv2
      have HBF := Lib.hid hbf2
      clear hv1 hv2 hbf hbf2 hs ht hB h1 h2 hm
      go_enter Try.func27, Try.ntmps27
      go_wp2_with fail
      refine (HV1.out _).mono ?_
      rintro e w1 ⟨rfl, rfl⟩
      go_wp2_with fail
      refine (HV2.out _).mono ?_
      rintro e w1 ⟨rfl, rfl⟩
      go_wp2_with fail
      refine (HBF.out _ _).mono ?_
      rintro e w1 ⟨rfl, hb1⟩
      go_wp2
      go_ret
      exact ⟨rfl, bel_trans (HB.out _ _) hb1⟩
end Go.Proofs.Ytneapbggnnndhaa
