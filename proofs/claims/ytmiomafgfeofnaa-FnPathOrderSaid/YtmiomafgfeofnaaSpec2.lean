/- What the model's exported functions of measures answer. -/
import Derived.Test.YtmiomafgfeofnaaSpec
namespace Go.Proofs.Ytmiomafgfeofnaa
open Go.RowKit Go.BigFrame
set_option linter.unusedVariables false

theorem sNoPath (m : Int) (w : World) : Calls Try.prog 31 #[.int .i64 m] w fun e w' => e = .returned (.tuple #[.int .i64 (rNo m), .bool (mKind m)]) ∧ w = w' := by
  cases hm : mKind m
  · have e1 : rNo m = 0 := by unfold rNo; rw [hm]; rfl
    rw [e1]
    have HM := Lib.hid hm
    clear hm e1
    go_enter Try.func31, Try.ntmps31
    go_wp2_with (go_at_call 38; refine (sKindIs HM _).mono ?_; rintro e w1 ⟨rfl, rfl⟩)
    go_ret2
    exact ⟨rfl, rfl⟩
  · have e1 : rNo m = mNone m := by unfold rNo; rw [hm]; rfl
    rw [e1]
    have HM := Lib.hid hm
    clear hm e1
    go_enter Try.func31, Try.ntmps31
    go_wp2_with (first | (go_at_call 38; refine (sKindIs HM _).mono ?_; rintro e w1 ⟨rfl, rfl⟩) | (go_at_call 56; refine (sNone HM.out _).mono ?_; rintro e w1 ⟨rfl, rfl⟩))
    go_ret2
    exact ⟨rfl, rfl⟩

theorem sEmptyPath (m : Int) (w : World) : Calls Try.prog 34 #[.int .i64 m] w fun e w' => e = .returned (.tuple #[.int .i64 (rEmpty m), .bool (mKind m)]) ∧ w = w' := by
  cases hm : mKind m
  · have e1 : rEmpty m = 0 := by unfold rEmpty; rw [hm]; rfl
    rw [e1]
    have HM := Lib.hid hm
    clear hm e1
    go_enter Try.func34, Try.ntmps34
    go_wp2_with (go_at_call 38; refine (sKindIs HM _).mono ?_; rintro e w1 ⟨rfl, rfl⟩)
    go_ret2
    exact ⟨rfl, rfl⟩
  · have e1 : rEmpty m = mOne m := by unfold rEmpty; rw [hm]; rfl
    rw [e1]
    have HM := Lib.hid hm
    clear hm e1
    go_enter Try.func34, Try.ntmps34
    go_wp2_with (first | (go_at_call 38; refine (sKindIs HM _).mono ?_; rintro e w1 ⟨rfl, rfl⟩) | (go_at_call 51; refine (sOne HM.out _).mono ?_; rintro e w1 ⟨rfl, rfl⟩))
    go_ret2
    exact ⟨rfl, rfl⟩

theorem sEdgeMeasure (m x : Int) (w : World) : Calls Try.prog 37 #[.int .i64 m, .int .i64 x] w fun e w' => e = .returned (.tuple #[.int .i64 (rEdge m x), .bool (bEdge m x)]) ∧ w = w' := by
  cases hm : mKind m
  · have e0 : bEdge m x = false := by simp [bEdge, hm]
    have e1 : rEdge m x = 0 := by unfold rEdge; rw [e0]; rfl
    rw [e0, e1]
    have HM := Lib.hid hm
    clear hm e0 e1
    go_enter Try.func37, Try.ntmps37
    go_wp2_with (first | (go_at_call 38; refine (sKindIs HM _).mono ?_; rintro e w1 ⟨rfl, rfl⟩))
    go_ret2
    exact ⟨rfl, rfl⟩
  · cases hx : mWeight x
    · have e0 : bEdge m x = false := by simp [bEdge, hx]
      have e1 : rEdge m x = 0 := by unfold rEdge; rw [e0]; rfl
      rw [e0, e1]
      have HM := Lib.hid hm
      have HX := Lib.hid hx
      clear hm hx e0 e1
      go_enter Try.func37, Try.ntmps37
      go_wp2_with (first | (go_at_call 38; refine (sKindIs HM _).mono ?_; rintro e w1 ⟨rfl, rfl⟩) | (go_at_call 52; refine (sWeightIs HX _).mono ?_; rintro e w1 ⟨rfl, rfl⟩))
      go_ret2
      exact ⟨rfl, rfl⟩
    · have e0 : bEdge m x = true := by simp [bEdge, hx, hm]
      have e1 : rEdge m x = mEdge m x := by unfold rEdge; rw [e0]; rfl
      rw [e0, e1]
      have HM := Lib.hid hm
      have HX := Lib.hid hx
      clear hm hx e0 e1
      go_enter Try.func37, Try.ntmps37
      go_wp2_with (first | (go_at_call 38; refine (sKindIs HM _).mono ?_; rintro e w1 ⟨rfl, rfl⟩) | (go_at_call 52; refine (sWeightIs HX _).mono ?_; rintro e w1 ⟨rfl, rfl⟩) | (go_at_call 53; refine (sEdge HM.out _ _).mono ?_; rintro e w1 ⟨rfl, rfl⟩))
      go_ret2
      exact ⟨rfl, rfl⟩

theorem sValueValid (m x : Int) (w : World) : Calls Try.prog 32 #[.int .i64 m, .int .i64 x] w fun e w' => e = .returned (.bool (mIs m x)) ∧ w = w' := by
  cases hm : mKind m
  · have e0 : mIs m x = false := by simp [mIs, hm]
    rw [e0]
    have HM := Lib.hid hm
    clear hm e0
    go_enter Try.func32, Try.ntmps32
    go_wp2_with (first | (go_at_call 38; refine (sKindIs HM _).mono ?_; rintro e w1 ⟨rfl, rfl⟩))
    go_ret
    exact ⟨rfl, rfl⟩
  · have e0 : mIs m x = mIn m x := by simp [mIs, hm]
    rw [e0]
    have HM := Lib.hid hm
    clear hm e0
    go_enter Try.func32, Try.ntmps32
    go_wp2_with (first | (go_at_call 38; refine (sKindIs HM _).mono ?_; rintro e w1 ⟨rfl, rfl⟩) | (go_at_call 57; refine (sIs HM.out _ _).mono ?_; rintro e w1 ⟨rfl, rfl⟩))
    go_ret
    exact ⟨rfl, rfl⟩

theorem sValIs {m x : Int} {b : Bool} (h : Hid (mIs m x = b)) (w : World) : Calls Try.prog 32 #[.int .i64 m, .int .i64 x] w fun e w' => e = .returned (.bool b) ∧ w = w' := by
  have := sValueValid m x w
  rw [h.out] at this
  exact this

theorem sBetterOf (m a b : Int) (w : World) : Calls Try.prog 23 #[.int .i64 m, .int .i64 a, .int .i64 b] w fun e w' => e = .returned (.tuple #[.int .i64 (rBest m a b), .bool (bTwo m a b)]) ∧ w = w' := by
  cases ha : mIs m a
  · have h : bTwo m a b = false := by simp [bTwo, ha]
    have e1 : rBest m a b = 0 := by unfold rBest; rw [h]; rfl
    rw [e1, h]
    have HA := Lib.hid ha
    clear ha h e1
    go_enter Try.func23, Try.ntmps23
    go_wp2_with (first | (go_at_call 32; (with_reducible refine (sValIs HA _).mono ?_); rintro e w1 ⟨rfl, rfl⟩))
    go_ret2
    exact ⟨rfl, rfl⟩
  · cases hb : mIs m b
    · have h : bTwo m a b = false := by simp [bTwo, hb]
      have e1 : rBest m a b = 0 := by unfold rBest; rw [h]; rfl
      rw [e1, h]
      have HA := Lib.hid ha
      have HB := Lib.hid hb
      clear ha hb h e1
      go_enter Try.func23, Try.ntmps23
      go_wp2_with (first | (go_at_call 32; (with_reducible refine (sValIs HA _).mono ?_); rintro e w1 ⟨rfl, rfl⟩) | (go_at_call 32; (with_reducible refine (sValIs HB _).mono ?_); rintro e w1 ⟨rfl, rfl⟩))
      go_ret2
      exact ⟨rfl, rfl⟩
    · have h : bTwo m a b = true := by simp [bTwo, ha, hb]
      have e1 : rBest m a b = mBest m a b := by unfold rBest; rw [h]; rfl
      rw [e1, h]
      have HA := Lib.hid ha
      have HB := Lib.hid hb
      have H := Lib.hid h
      have HK := Lib.hid (bTwo_of h).1
      clear ha hb h e1
      go_enter Try.func23, Try.ntmps23
      go_wp2_with (first | (go_at_call 32; (with_reducible refine (sValIs HA _).mono ?_); rintro e w1 ⟨rfl, rfl⟩) | (go_at_call 32; (with_reducible refine (sValIs HB _).mono ?_); rintro e w1 ⟨rfl, rfl⟩) | (go_at_call 43; refine (sBest HK.out a b _).mono ?_; rintro e w1 ⟨rfl, rfl⟩))
      go_ret2
      exact ⟨rfl, rfl⟩

theorem sExtend (m a b : Int) (w : World) : Calls Try.prog 17 #[.int .i64 m, .int .i64 a, .int .i64 b] w fun e w' => e = .returned (.tuple #[.int .i64 (rExt m a b), .bool (bTwo m a b)]) ∧ w = w' := by
  cases ha : mIs m a
  · have h : bTwo m a b = false := by simp [bTwo, ha]
    have e1 : rExt m a b = 0 := by unfold rExt; rw [h]; rfl
    rw [e1, h]
    have HA := Lib.hid ha
    clear ha h e1
    go_enter Try.func17, Try.ntmps17
    go_wp2_with (first | (go_at_call 32; (with_reducible refine (sValIs HA _).mono ?_); rintro e w1 ⟨rfl, rfl⟩))
    go_ret2
    exact ⟨rfl, rfl⟩
  · cases hb : mIs m b
    · have h : bTwo m a b = false := by simp [bTwo, hb]
      have e1 : rExt m a b = 0 := by unfold rExt; rw [h]; rfl
      rw [e1, h]
      have HA := Lib.hid ha
      have HB := Lib.hid hb
      clear ha hb h e1
      go_enter Try.func17, Try.ntmps17
      go_wp2_with (first | (go_at_call 32; (with_reducible refine (sValIs HA _).mono ?_); rintro e w1 ⟨rfl, rfl⟩) | (go_at_call 32; (with_reducible refine (sValIs HB _).mono ?_); rintro e w1 ⟨rfl, rfl⟩))
      go_ret2
      exact ⟨rfl, rfl⟩
    · have h : bTwo m a b = true := by simp [bTwo, ha, hb]
      have e1 : rExt m a b = mJoin m a b := by unfold rExt; rw [h]; rfl
      rw [e1, h]
      have HA := Lib.hid ha
      have HB := Lib.hid hb
      have H := Lib.hid h
      have HK := Lib.hid (bTwo_of h).1
      clear ha hb h e1
      go_enter Try.func17, Try.ntmps17
      go_wp2_with (first | (go_at_call 32; (with_reducible refine (sValIs HA _).mono ?_); rintro e w1 ⟨rfl, rfl⟩) | (go_at_call 32; (with_reducible refine (sValIs HB _).mono ?_); rintro e w1 ⟨rfl, rfl⟩) | (go_at_call 41; refine (sJoin H.out _).mono ?_; rintro e w1 ⟨rfl, rfl⟩))
      go_ret2
      exact ⟨rfl, rfl⟩

theorem sIsBetter (m a b : Int) (w : World) : Calls Try.prog 29 #[.int .i64 m, .int .i64 a, .int .i64 b] w fun e w' => e = .returned (.bool (bBet m a b)) ∧ w = w' := by
  cases ha : mIs m a
  · have h : bTwo m a b = false := by simp [bTwo, ha]
    have e1 : bBet m a b = false := by unfold bBet; rw [h]; rfl
    rw [e1]
    have HA := Lib.hid ha
    clear ha h e1
    go_enter Try.func29, Try.ntmps29
    go_wp2_with (first | (go_at_call 32; (with_reducible refine (sValIs HA _).mono ?_); rintro e w1 ⟨rfl, rfl⟩))
    go_ret
    exact ⟨rfl, rfl⟩
  · cases hb : mIs m b
    · have h : bTwo m a b = false := by simp [bTwo, hb]
      have e1 : bBet m a b = false := by unfold bBet; rw [h]; rfl
      rw [e1]
      have HA := Lib.hid ha
      have HB := Lib.hid hb
      clear ha hb h e1
      go_enter Try.func29, Try.ntmps29
      go_wp2_with (first | (go_at_call 32; (with_reducible refine (sValIs HA _).mono ?_); rintro e w1 ⟨rfl, rfl⟩) | (go_at_call 32; (with_reducible refine (sValIs HB _).mono ?_); rintro e w1 ⟨rfl, rfl⟩))
      go_ret
      exact ⟨rfl, rfl⟩
    · have h : bTwo m a b = true := by simp [bTwo, ha, hb]
      have e1 : bBet m a b = mBet m a b := by unfold bBet; rw [h]; rfl
      rw [e1]
      have HA := Lib.hid ha
      have HB := Lib.hid hb
      have H := Lib.hid h
      have HK := Lib.hid (bTwo_of h).1
      clear ha hb h e1
      go_enter Try.func29, Try.ntmps29
      go_wp2_with (first | (go_at_call 32; (with_reducible refine (sValIs HA _).mono ?_); rintro e w1 ⟨rfl, rfl⟩) | (go_at_call 32; (with_reducible refine (sValIs HB _).mono ?_); rintro e w1 ⟨rfl, rfl⟩) | (go_at_call 54; refine (sBet HK.out a b _).mono ?_; rintro e w1 ⟨rfl, rfl⟩))
      go_ret
      exact ⟨rfl, rfl⟩

end Go.Proofs.Ytmiomafgfeofnaa
