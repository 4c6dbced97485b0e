/- The order of paths in the model, and its PathBefore. -/
import Derived.Test.YtneapbggnnndhaaGreatPbfC
namespace Go.Proofs.YtneapbggnnndhaaGreat
open Go.RowKit Go.BigFrame Go.Deep
set_option linter.unusedVariables false
set_option linter.unusedSimpArgs false

set_option maxRecDepth 20000 in
set_option maxHeartbeats 2000000 in
theorem l11Before (m x y : Int) (zs ys : List Int) (s t : Value) (w : World) (hm : mKind m = true) (hs : Row w s zs) (ht : Row w t ys) (hl : zs.length ≤ 281474976710656) (hl2 : ys.length ≤ 281474976710656) :
    Calls Tryz.prog 46 #[.int .i64 m, .agg #[s, .int .i64 x], .agg #[t, .int .i64 y]] w fun e w' => e = .returned (.bool (bP m zs x ys y)) ∧ Below w.heap.size w w' := by
  obtain ⟨ad, c, rfl, hz0⟩ := id hs
  obtain ⟨ad2, c2, rfl, hz1⟩ := id ht
  clear hz0 hz1
  have hB : ∀ (A B : Obj), Below w.heap.size w ((w.alloc A).alloc B) := fun A B => ((Below.refl _ _).alloc (Nat.le_refl _) _).alloc (by simp) _
  have hlx := fun A B => l11Lex zs ys (.slice ad zs.length c) (.slice ad2 ys.length c2) ((w.alloc A).alloc B) (hs.keep (hB A B)) (ht.keep (hB A B)) hl hl2
  have hbt := fun W => sBet hm x y W
  have HB := Lib.hid hB
  unfold bP
  by_cases h : x = y
  · rw [if_pos h]
    have d1 : (x != y) = false := by simpa using h
    have d2 : (x == y) = true := by simpa using h
    have d3 : decide (x = y) = true := by simpa using h
    by_cases h2 : zs.length = ys.length
    · rw [if_pos h2]
      have e1 : ((zs.length : Int) != ys.length) = false := by simp; omega
      have e2 : ((zs.length : Int) == ys.length) = true := by simp; omega
      have e3 : decide ((zs.length : Int) = ys.length) = true := by simp; omega
      generalize lexB zs ys = L at hlx ⊢
      have HLX := Lib.hid hlx
      clear hlx hbt h h2 hs ht hB
      go_enter Tryz.func46, Tryz.ntmps46
      go_wp2_with (go_at_call 59; refine (HLX.out _ _).mono ?_; rintro e w1 ⟨rfl, hb1⟩)
      go_ret
      exact ⟨rfl, bel_trans (HB.out _ _) hb1⟩
    · rw [if_neg h2]
      have e1 : ((zs.length : Int) != ys.length) = true := by simp; omega
      have e2 : ((zs.length : Int) == ys.length) = false := by simp; omega
      have e3 : decide ((zs.length : Int) = ys.length) = false := by simp; omega
      clear hlx hbt h h2 hs ht hB
      go_enter Tryz.func46, Tryz.ntmps46
      go_wp2
      go_ret
      exact ⟨rfl, HB.out _ _⟩
  · rw [if_neg h]
    have d1 : (x != y) = true := by simpa using h
    have d2 : (x == y) = false := by simpa using h
    have d3 : decide (x = y) = false := by simpa using h
    generalize mBet m x y = L at hbt ⊢
    have HBT := Lib.hid hbt
    clear hlx hbt h hs ht hB
    go_enter Tryz.func46, Tryz.ntmps46
    go_wp2_with (go_at_call 58; refine (HBT.out _).mono ?_; rintro e w1 ⟨rfl, rfl⟩)
    go_ret
    exact ⟨rfl, HB.out _ _⟩

end Go.Proofs.YtneapbggnnndhaaGreat
