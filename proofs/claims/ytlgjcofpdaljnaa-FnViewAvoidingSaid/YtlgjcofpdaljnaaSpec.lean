/- What the model's functions of measures answer. -/
import Derived.Test.YtlgjcofpdaljnaaImpl
namespace Go.Proofs.Ytlgjcofpdaljnaa
open Go.RowKit Go.BigFrame
set_option linter.unusedVariables false
set_option linter.unusedSimpArgs false

theorem ret_two {k : IntKind} {a b : Int} {c : Bool} (h : a = b) : Ending.returned (.tuple #[.int k a, .bool c]) = .returned (.tuple #[.int k b, .bool c]) := by rw [h]
theorem ret_bool {a b : Bool} (h : a = b) : Ending.returned (.bool a) = .returned (.bool b) := by rw [h]
theorem sKind (m : Int) (w : World) : Calls Try.prog 86 #[.int .i64 m] w fun e w' => e = .returned (.bool (mKind m)) ∧ w = w' := by
  by_cases h1 : 1 ≤ m
  · by_cases h2 : m ≤ 5
    · have e1 : mKind m = true := by simp [mKind, h1, h2]
      rw [e1]
      clear e1
      go_enter Try.func86, Try.ntmps86
      go_wp2
      go_ret
      exact ⟨rfl, rfl⟩
    · have e1 : mKind m = false := by simp [mKind, h1, h2]
      rw [e1]
      clear e1
      go_enter Try.func86, Try.ntmps86
      go_wp2
      go_ret
      exact ⟨rfl, rfl⟩
  · have e1 : mKind m = false := by simp [mKind, h1]
    rw [e1]
    clear e1
    go_enter Try.func86, Try.ntmps86
    go_wp2
    go_ret
    exact ⟨rfl, rfl⟩
theorem sKindIs {m : Int} {b : Bool} (h : Hid (mKind m = b)) (w : World) : Calls Try.prog 86 #[.int .i64 m] w fun e w' => e = .returned (.bool b) ∧ w = w' := by
  have := sKind m w
  rw [h.out] at this
  exact this
theorem sWeight (x : Int) (w : World) : Calls Try.prog 113 #[.int .i64 x] w fun e w' => e = .returned (.bool (mWeight x)) ∧ w = w' := by
  by_cases h1 : 1 ≤ x
  · by_cases h2 : x ≤ 999
    · have e1 : mWeight x = true := by simp [mWeight, h1, h2]
      rw [e1]
      clear e1
      go_enter Try.func113, Try.ntmps113
      go_wp2
      go_ret
      exact ⟨rfl, rfl⟩
    · have e1 : mWeight x = false := by simp [mWeight, h1, h2]
      rw [e1]
      clear e1
      go_enter Try.func113, Try.ntmps113
      go_wp2
      go_ret
      exact ⟨rfl, rfl⟩
  · have e1 : mWeight x = false := by simp [mWeight, h1]
    rw [e1]
    clear e1
    go_enter Try.func113, Try.ntmps113
    go_wp2
    go_ret
    exact ⟨rfl, rfl⟩
theorem sWeightIs {x : Int} {b : Bool} (h : Hid (mWeight x = b)) (w : World) : Calls Try.prog 113 #[.int .i64 x] w fun e w' => e = .returned (.bool b) ∧ w = w' := by
  have := sWeight x w
  rw [h.out] at this
  exact this
theorem sNone1 (w : World) : Calls Try.prog 106 #[.int .i64 1] w fun e w' => e = .returned (.int .i64 100000) ∧ w = w' := by
  go_enter Try.func106, Try.ntmps106
  go_wp2
  go_ret
  exact ⟨rfl, rfl⟩
theorem sNone2 (w : World) : Calls Try.prog 106 #[.int .i64 2] w fun e w' => e = .returned (.int .i64 0) ∧ w = w' := by
  go_enter Try.func106, Try.ntmps106
  go_wp2
  go_ret
  exact ⟨rfl, rfl⟩
theorem sNone3 (w : World) : Calls Try.prog 106 #[.int .i64 3] w fun e w' => e = .returned (.int .i64 100000) ∧ w = w' := by
  go_enter Try.func106, Try.ntmps106
  go_wp2
  go_ret
  exact ⟨rfl, rfl⟩
theorem sNone4 (w : World) : Calls Try.prog 106 #[.int .i64 4] w fun e w' => e = .returned (.int .i64 0) ∧ w = w' := by
  go_enter Try.func106, Try.ntmps106
  go_wp2
  go_ret
  exact ⟨rfl, rfl⟩
theorem sNone5 (w : World) : Calls Try.prog 106 #[.int .i64 5] w fun e w' => e = .returned (.int .i64 100000) ∧ w = w' := by
  go_enter Try.func106, Try.ntmps106
  go_wp2
  go_ret
  exact ⟨rfl, rfl⟩
theorem sNone {m : Int} (hm : mKind m = true) (w : World) : Calls Try.prog 106 #[.int .i64 m] w fun e w' => e = .returned (.int .i64 (mNone m)) ∧ w = w' := by
  rcases mKind_cases hm with rfl | rfl | rfl | rfl | rfl
  · exact sNone1 w
  · exact sNone2 w
  · exact sNone3 w
  · exact sNone4 w
  · exact sNone5 w
theorem sOne1 (w : World) : Calls Try.prog 105 #[.int .i64 1] w fun e w' => e = .returned (.int .i64 0) ∧ w = w' := by
  go_enter Try.func105, Try.ntmps105
  go_wp2
  go_ret
  exact ⟨rfl, rfl⟩
theorem sOne2 (w : World) : Calls Try.prog 105 #[.int .i64 2] w fun e w' => e = .returned (.int .i64 100000) ∧ w = w' := by
  go_enter Try.func105, Try.ntmps105
  go_wp2
  go_ret
  exact ⟨rfl, rfl⟩
theorem sOne3 (w : World) : Calls Try.prog 105 #[.int .i64 3] w fun e w' => e = .returned (.int .i64 0) ∧ w = w' := by
  go_enter Try.func105, Try.ntmps105
  go_wp2
  go_ret
  exact ⟨rfl, rfl⟩
theorem sOne4 (w : World) : Calls Try.prog 105 #[.int .i64 4] w fun e w' => e = .returned (.int .i64 1) ∧ w = w' := by
  go_enter Try.func105, Try.ntmps105
  go_wp2
  go_ret
  exact ⟨rfl, rfl⟩
theorem sOne5 (w : World) : Calls Try.prog 105 #[.int .i64 5] w fun e w' => e = .returned (.int .i64 0) ∧ w = w' := by
  go_enter Try.func105, Try.ntmps105
  go_wp2
  go_ret
  exact ⟨rfl, rfl⟩
theorem sOne {m : Int} (hm : mKind m = true) (w : World) : Calls Try.prog 105 #[.int .i64 m] w fun e w' => e = .returned (.int .i64 (mOne m)) ∧ w = w' := by
  rcases mKind_cases hm with rfl | rfl | rfl | rfl | rfl
  · exact sOne1 w
  · exact sOne2 w
  · exact sOne3 w
  · exact sOne4 w
  · exact sOne5 w
theorem sEdge1 (x : Int) (w : World) : Calls Try.prog 109 #[.int .i64 1, .int .i64 x] w fun e w' => e = .returned (.int .i64 x) ∧ w = w' := by
  go_enter Try.func109, Try.ntmps109
  go_wp2
  go_ret
  exact ⟨rfl, rfl⟩
theorem sEdge2 (x : Int) (w : World) : Calls Try.prog 109 #[.int .i64 2, .int .i64 x] w fun e w' => e = .returned (.int .i64 x) ∧ w = w' := by
  go_enter Try.func109, Try.ntmps109
  go_wp2
  go_ret
  exact ⟨rfl, rfl⟩
theorem sEdge3 (x : Int) (w : World) : Calls Try.prog 109 #[.int .i64 3, .int .i64 x] w fun e w' => e = .returned (.int .i64 x) ∧ w = w' := by
  go_enter Try.func109, Try.ntmps109
  go_wp2
  go_ret
  exact ⟨rfl, rfl⟩
theorem sEdge4 (x : Int) (w : World) : Calls Try.prog 109 #[.int .i64 4, .int .i64 x] w fun e w' => e = .returned (.int .i64 1) ∧ w = w' := by
  go_enter Try.func109, Try.ntmps109
  go_wp2
  go_ret
  exact ⟨rfl, rfl⟩
theorem sEdge5 (x : Int) (w : World) : Calls Try.prog 109 #[.int .i64 5, .int .i64 x] w fun e w' => e = .returned (.int .i64 1) ∧ w = w' := by
  go_enter Try.func109, Try.ntmps109
  go_wp2
  go_ret
  exact ⟨rfl, rfl⟩
theorem sEdge {m : Int} (hm : mKind m = true) (x : Int) (w : World) : Calls Try.prog 109 #[.int .i64 m, .int .i64 x] w fun e w' => e = .returned (.int .i64 (mEdge m x)) ∧ w = w' := by
  rcases mKind_cases hm with rfl | rfl | rfl | rfl | rfl
  · exact sEdge1 x w
  · exact sEdge2 x w
  · exact sEdge3 x w
  · exact sEdge4 x w
  · exact sEdge5 x w
theorem sIs1 (x : Int) (w : World) : Calls Try.prog 49 #[.int .i64 1, .int .i64 x] w fun e w' => e = .returned (.bool (mIn 1 x)) ∧ w = w' := by
  by_cases h0 : 0 ≤ x
  · by_cases h1 : x ≤ 100000
    · have e1 : mIn 1 x = true := by simp [mIn, mBet, mNone, mOne]; omega
      rw [e1]
      clear e1
      go_enter Try.func49, Try.ntmps49
      go_wp2
      go_ret
      exact ⟨rfl, rfl⟩
    · have e1 : mIn 1 x = false := by simp [mIn, mBet, mNone, mOne]; omega
      rw [e1]
      clear e1
      go_enter Try.func49, Try.ntmps49
      go_wp2
      go_ret
      exact ⟨rfl, rfl⟩
  · have e1 : mIn 1 x = false := by simp [mIn, mBet, mNone, mOne]; omega
    rw [e1]
    clear e1
    go_enter Try.func49, Try.ntmps49
    go_wp2
    go_ret
    exact ⟨rfl, rfl⟩
theorem sIs2 (x : Int) (w : World) : Calls Try.prog 49 #[.int .i64 2, .int .i64 x] w fun e w' => e = .returned (.bool (mIn 2 x)) ∧ w = w' := by
  by_cases h0 : 0 ≤ x
  · by_cases h1 : x ≤ 100000
    · have e1 : mIn 2 x = true := by simp [mIn, mBet, mNone, mOne]; omega
      rw [e1]
      clear e1
      go_enter Try.func49, Try.ntmps49
      go_wp2
      go_ret
      exact ⟨rfl, rfl⟩
    · have e1 : mIn 2 x = false := by simp [mIn, mBet, mNone, mOne]; omega
      rw [e1]
      clear e1
      go_enter Try.func49, Try.ntmps49
      go_wp2
      go_ret
      exact ⟨rfl, rfl⟩
  · have e1 : mIn 2 x = false := by simp [mIn, mBet, mNone, mOne]; omega
    rw [e1]
    clear e1
    go_enter Try.func49, Try.ntmps49
    go_wp2
    go_ret
    exact ⟨rfl, rfl⟩
theorem sIs3 (x : Int) (w : World) : Calls Try.prog 49 #[.int .i64 3, .int .i64 x] w fun e w' => e = .returned (.bool (mIn 3 x)) ∧ w = w' := by
  by_cases h0 : 0 ≤ x
  · by_cases h1 : x ≤ 100000
    · have e1 : mIn 3 x = true := by simp [mIn, mBet, mNone, mOne]; omega
      rw [e1]
      clear e1
      go_enter Try.func49, Try.ntmps49
      go_wp2
      go_ret
      exact ⟨rfl, rfl⟩
    · have e1 : mIn 3 x = false := by simp [mIn, mBet, mNone, mOne]; omega
      rw [e1]
      clear e1
      go_enter Try.func49, Try.ntmps49
      go_wp2
      go_ret
      exact ⟨rfl, rfl⟩
  · have e1 : mIn 3 x = false := by simp [mIn, mBet, mNone, mOne]; omega
    rw [e1]
    clear e1
    go_enter Try.func49, Try.ntmps49
    go_wp2
    go_ret
    exact ⟨rfl, rfl⟩
theorem sIs4 (x : Int) (w : World) : Calls Try.prog 49 #[.int .i64 4, .int .i64 x] w fun e w' => e = .returned (.bool (mIn 4 x)) ∧ w = w' := by
  by_cases h0 : x = 0
  · subst h0
    go_enter Try.func49, Try.ntmps49
    go_wp2
    go_ret
    exact ⟨rfl, rfl⟩
  · by_cases h1 : x = 1
    · subst h1
      go_enter Try.func49, Try.ntmps49
      go_wp2
      go_ret
      exact ⟨rfl, rfl⟩
    · have e1 : mIn 4 x = false := by simp [mIn, mBet, mNone, mOne]; omega
      rw [e1]
      have g0 : (x == 0) = false := by simpa using h0
      have g1 : (x == 1) = false := by simpa using h1
      clear e1 h0 h1
      go_enter Try.func49, Try.ntmps49
      go_wp2
      go_ret
      exact ⟨rfl, rfl⟩
theorem sIs5 (x : Int) (w : World) : Calls Try.prog 49 #[.int .i64 5, .int .i64 x] w fun e w' => e = .returned (.bool (mIn 5 x)) ∧ w = w' := by
  by_cases h0 : 0 ≤ x
  · by_cases h1 : x ≤ 100000
    · have e1 : mIn 5 x = true := by simp [mIn, mBet, mNone, mOne]; omega
      rw [e1]
      clear e1
      go_enter Try.func49, Try.ntmps49
      go_wp2
      go_ret
      exact ⟨rfl, rfl⟩
    · have e1 : mIn 5 x = false := by simp [mIn, mBet, mNone, mOne]; omega
      rw [e1]
      clear e1
      go_enter Try.func49, Try.ntmps49
      go_wp2
      go_ret
      exact ⟨rfl, rfl⟩
  · have e1 : mIn 5 x = false := by simp [mIn, mBet, mNone, mOne]; omega
    rw [e1]
    clear e1
    go_enter Try.func49, Try.ntmps49
    go_wp2
    go_ret
    exact ⟨rfl, rfl⟩
theorem sIs {m : Int} (hm : mKind m = true) (x : Int) (w : World) : Calls Try.prog 49 #[.int .i64 m, .int .i64 x] w fun e w' => e = .returned (.bool (mIn m x)) ∧ w = w' := by
  rcases mKind_cases hm with rfl | rfl | rfl | rfl | rfl
  · exact sIs1 x w
  · exact sIs2 x w
  · exact sIs3 x w
  · exact sIs4 x w
  · exact sIs5 x w
theorem sBet1 (a b : Int) (w : World) : Calls Try.prog 42 #[.int .i64 1, .int .i64 a, .int .i64 b] w fun e w' => e = .returned (.bool (decide (a < b))) ∧ w = w' := by
  go_enter Try.func42, Try.ntmps42
  go_wp2
  go_ret
  exact ⟨rfl, rfl⟩
theorem sBet2 (a b : Int) (w : World) : Calls Try.prog 42 #[.int .i64 2, .int .i64 a, .int .i64 b] w fun e w' => e = .returned (.bool (decide (b < a))) ∧ w = w' := by
  go_enter Try.func42, Try.ntmps42
  go_wp2
  go_ret
  exact ⟨rfl, rfl⟩
theorem sBet3 (a b : Int) (w : World) : Calls Try.prog 42 #[.int .i64 3, .int .i64 a, .int .i64 b] w fun e w' => e = .returned (.bool (decide (a < b))) ∧ w = w' := by
  go_enter Try.func42, Try.ntmps42
  go_wp2
  go_ret
  exact ⟨rfl, rfl⟩
theorem sBet4 (a b : Int) (w : World) : Calls Try.prog 42 #[.int .i64 4, .int .i64 a, .int .i64 b] w fun e w' => e = .returned (.bool (decide (b < a))) ∧ w = w' := by
  go_enter Try.func42, Try.ntmps42
  go_wp2
  go_ret
  exact ⟨rfl, rfl⟩
theorem sBet5 (a b : Int) (w : World) : Calls Try.prog 42 #[.int .i64 5, .int .i64 a, .int .i64 b] w fun e w' => e = .returned (.bool (decide (a < b))) ∧ w = w' := by
  go_enter Try.func42, Try.ntmps42
  go_wp2
  go_ret
  exact ⟨rfl, rfl⟩
theorem sBet {m : Int} (hm : mKind m = true) (a b : Int) (w : World) : Calls Try.prog 42 #[.int .i64 m, .int .i64 a, .int .i64 b] w fun e w' => e = .returned (.bool (mBet m a b)) ∧ w = w' := by
  rcases mKind_cases hm with rfl | rfl | rfl | rfl | rfl
  · exact sBet1 a b w
  · exact sBet2 a b w
  · exact sBet3 a b w
  · exact sBet4 a b w
  · exact sBet5 a b w
theorem sBest {m : Int} (hm : mKind m = true) (a b : Int) (w : World) : Calls Try.prog 110 #[.int .i64 m, .int .i64 a, .int .i64 b] w fun e w' => e = .returned (.int .i64 (mBest m a b)) ∧ w = w' := by
  have hc := sBet hm b a w
  cases hd : mBet m b a
  · have e1 : mBest m a b = a := by unfold mBest; rw [hd]; rfl
    rw [e1]
    rw [hd] at hc
    have HC := Lib.hid hc
    clear e1 hd hc hm
    go_enter Try.func110, Try.ntmps110
    go_wp2_with ((go_at_call 42; refine HC.out.mono ?_; rintro e w2 ⟨rfl, rfl⟩))
    go_ret
    exact ⟨rfl, rfl⟩
  · have e1 : mBest m a b = b := by unfold mBest; rw [hd]; rfl
    rw [e1]
    rw [hd] at hc
    have HC := Lib.hid hc
    clear e1 hd hc hm
    go_enter Try.func110, Try.ntmps110
    go_wp2_with ((go_at_call 42; refine HC.out.mono ?_; rintro e w2 ⟨rfl, rfl⟩))
    go_ret
    exact ⟨rfl, rfl⟩

set_option maxHeartbeats 400000 in
theorem sJoin1 (a b : Int) (ha : 0 ≤ a) (ha1 : a ≤ 100000) (hb : 0 ≤ b) (hb1 : b ≤ 100000) (w : World) : Calls Try.prog 108 #[.int .i64 1, .int .i64 a, .int .i64 b] w fun e w' => e = .returned (.int .i64 (mJoin 1 a b)) ∧ w = w' := by
  have ej : mJoin 1 a b = min (a + b) 100000 := rfl
  have HE := Lib.hid ej
  clear ej
  by_cases h1 : a = 100000
  · subst h1
    go_enter Try.func108, Try.ntmps108
    go_wp2_with (first | (go_at_call 106; refine (sNone1 _).mono ?_; rintro e w2 ⟨rfl, rfl⟩))
    all_goals
      go_ret
      exact ⟨ret_int (by rw [HE.out]; omega), rfl⟩
  · have g1 : (a == 100000) = false := by simpa using h1
    by_cases h2 : b = 100000
    · subst h2
      go_enter Try.func108, Try.ntmps108
      go_wp2_with (first | (go_at_call 106; refine (sNone1 _).mono ?_; rintro e w2 ⟨rfl, rfl⟩))
      all_goals
        go_ret
        exact ⟨ret_int (by rw [HE.out]; omega), rfl⟩
    · have g2 : (b == 100000) = false := by simpa using h2
      by_cases h3 : 100000 < a + b
      all_goals
        go_enter Try.func108, Try.ntmps108
        go_wp2_with (first | (go_at_call 106; refine (sNone1 _).mono ?_; rintro e w2 ⟨rfl, rfl⟩))
        go_ret
        exact ⟨ret_int (by rw [HE.out]; omega), rfl⟩

set_option maxHeartbeats 400000 in
theorem sJoin2 (a b : Int) (ha : 0 ≤ a) (ha1 : a ≤ 100000) (hb : 0 ≤ b) (hb1 : b ≤ 100000) (w : World) : Calls Try.prog 108 #[.int .i64 2, .int .i64 a, .int .i64 b] w fun e w' => e = .returned (.int .i64 (mJoin 2 a b)) ∧ w = w' := by
  have ej : mJoin 2 a b = min a b := rfl
  have HE := Lib.hid ej
  clear ej
  by_cases h1 : a = 0
  · subst h1
    go_enter Try.func108, Try.ntmps108
    go_wp2_with (first | (go_at_call 106; refine (sNone2 _).mono ?_; rintro e w2 ⟨rfl, rfl⟩))
    all_goals
      go_ret
      exact ⟨ret_int (by rw [HE.out]; omega), rfl⟩
  · have g1 : (a == 0) = false := by simpa using h1
    by_cases h2 : b = 0
    · subst h2
      go_enter Try.func108, Try.ntmps108
      go_wp2_with (first | (go_at_call 106; refine (sNone2 _).mono ?_; rintro e w2 ⟨rfl, rfl⟩))
      all_goals
        go_ret
        exact ⟨ret_int (by rw [HE.out]; omega), rfl⟩
    · have g2 : (b == 0) = false := by simpa using h2
      by_cases h3 : a < b
      all_goals
        go_enter Try.func108, Try.ntmps108
        go_wp2_with (first | (go_at_call 106; refine (sNone2 _).mono ?_; rintro e w2 ⟨rfl, rfl⟩))
        go_ret
        exact ⟨ret_int (by rw [HE.out]; omega), rfl⟩

set_option maxHeartbeats 400000 in
theorem sJoin3 (a b : Int) (ha : 0 ≤ a) (ha1 : a ≤ 100000) (hb : 0 ≤ b) (hb1 : b ≤ 100000) (w : World) : Calls Try.prog 108 #[.int .i64 3, .int .i64 a, .int .i64 b] w fun e w' => e = .returned (.int .i64 (mJoin 3 a b)) ∧ w = w' := by
  have ej : mJoin 3 a b = max a b := rfl
  have HE := Lib.hid ej
  clear ej
  by_cases h1 : a = 100000
  · subst h1
    go_enter Try.func108, Try.ntmps108
    go_wp2_with (first | (go_at_call 106; refine (sNone3 _).mono ?_; rintro e w2 ⟨rfl, rfl⟩))
    all_goals
      go_ret
      exact ⟨ret_int (by rw [HE.out]; omega), rfl⟩
  · have g1 : (a == 100000) = false := by simpa using h1
    by_cases h2 : b = 100000
    · subst h2
      go_enter Try.func108, Try.ntmps108
      go_wp2_with (first | (go_at_call 106; refine (sNone3 _).mono ?_; rintro e w2 ⟨rfl, rfl⟩))
      all_goals
        go_ret
        exact ⟨ret_int (by rw [HE.out]; omega), rfl⟩
    · have g2 : (b == 100000) = false := by simpa using h2
      by_cases h3 : b < a
      all_goals
        go_enter Try.func108, Try.ntmps108
        go_wp2_with (first | (go_at_call 106; refine (sNone3 _).mono ?_; rintro e w2 ⟨rfl, rfl⟩))
        go_ret
        exact ⟨ret_int (by rw [HE.out]; omega), rfl⟩

set_option maxHeartbeats 400000 in
theorem sJoin4 (a b : Int) (ha : 0 ≤ a) (ha1 : a ≤ 1) (hb : 0 ≤ b) (hb1 : b ≤ 1) (w : World) : Calls Try.prog 108 #[.int .i64 4, .int .i64 a, .int .i64 b] w fun e w' => e = .returned (.int .i64 (mJoin 4 a b)) ∧ w = w' := by
  have ej : mJoin 4 a b = min a b := rfl
  have HE := Lib.hid ej
  clear ej
  by_cases h1 : a = 0
  · subst h1
    go_enter Try.func108, Try.ntmps108
    go_wp2_with (first | (go_at_call 106; refine (sNone4 _).mono ?_; rintro e w2 ⟨rfl, rfl⟩))
    all_goals
      go_ret
      exact ⟨ret_int (by rw [HE.out]; omega), rfl⟩
  · have g1 : (a == 0) = false := by simpa using h1
    by_cases h2 : b = 0
    · subst h2
      go_enter Try.func108, Try.ntmps108
      go_wp2_with (first | (go_at_call 106; refine (sNone4 _).mono ?_; rintro e w2 ⟨rfl, rfl⟩))
      all_goals
        go_ret
        exact ⟨ret_int (by rw [HE.out]; omega), rfl⟩
    · have g2 : (b == 0) = false := by simpa using h2
      by_cases h3 : a < b
      all_goals
        go_enter Try.func108, Try.ntmps108
        go_wp2_with (first | (go_at_call 106; refine (sNone4 _).mono ?_; rintro e w2 ⟨rfl, rfl⟩))
        go_ret
        exact ⟨ret_int (by rw [HE.out]; omega), rfl⟩

set_option maxHeartbeats 400000 in
theorem sJoin5 (a b : Int) (ha : 0 ≤ a) (ha1 : a ≤ 100000) (hb : 0 ≤ b) (hb1 : b ≤ 100000) (w : World) : Calls Try.prog 108 #[.int .i64 5, .int .i64 a, .int .i64 b] w fun e w' => e = .returned (.int .i64 (mJoin 5 a b)) ∧ w = w' := by
  have ej : mJoin 5 a b = min (a + b) 100000 := rfl
  have HE := Lib.hid ej
  clear ej
  by_cases h1 : a = 100000
  · subst h1
    go_enter Try.func108, Try.ntmps108
    go_wp2_with (first | (go_at_call 106; refine (sNone5 _).mono ?_; rintro e w2 ⟨rfl, rfl⟩))
    all_goals
      go_ret
      exact ⟨ret_int (by rw [HE.out]; omega), rfl⟩
  · have g1 : (a == 100000) = false := by simpa using h1
    by_cases h2 : b = 100000
    · subst h2
      go_enter Try.func108, Try.ntmps108
      go_wp2_with (first | (go_at_call 106; refine (sNone5 _).mono ?_; rintro e w2 ⟨rfl, rfl⟩))
      all_goals
        go_ret
        exact ⟨ret_int (by rw [HE.out]; omega), rfl⟩
    · have g2 : (b == 100000) = false := by simpa using h2
      by_cases h3 : 100000 < a + b
      all_goals
        go_enter Try.func108, Try.ntmps108
        go_wp2_with (first | (go_at_call 106; refine (sNone5 _).mono ?_; rintro e w2 ⟨rfl, rfl⟩))
        go_ret
        exact ⟨ret_int (by rw [HE.out]; omega), rfl⟩
theorem sJoin {m a b : Int} (h : bTwo m a b = true) (w : World) : Calls Try.prog 108 #[.int .i64 m, .int .i64 a, .int .i64 b] w fun e w' => e = .returned (.int .i64 (mJoin m a b)) ∧ w = w' := by
  have hk := bTwo_of h
  have hA := mIn_low hk.1 hk.2.1
  have hB := mIn_low hk.1 hk.2.2
  rcases mKind_cases hk.1 with rfl | rfl | rfl | rfl | rfl
  · exact sJoin1 a b hA.1 hA.2 hB.1 hB.2 w
  · exact sJoin2 a b hA.1 hA.2 hB.1 hB.2 w
  · exact sJoin3 a b hA.1 hA.2 hB.1 hB.2 w
  · have h1 : a ≤ 1 := by have := hk.2.1; simp [mIn, mBet, mOne, mNone] at this; omega
    have h2 : b ≤ 1 := by have := hk.2.2; simp [mIn, mBet, mOne, mNone] at this; omega
    exact sJoin4 a b hA.1 h1 hB.1 h2 w
  · exact sJoin5 a b hA.1 hA.2 hB.1 hB.2 w

end Go.Proofs.Ytlgjcofpdaljnaa
