/- What the exported functions of measures answer. -/
import Derived.Test.YtlgjcofpdaljnaaImpl
namespace Go.Proofs.Ytlgjcofpdaljnaa
open Go.RowKit Go.BigFrame
set_option linter.unusedVariables false
set_option linter.unusedSimpArgs false
theorem iNoPath1 (w : World) : Calls Try.prog 22 #[.int .i64 1] w fun e w' => e = .returned (.tuple #[.int .i64 100000, .bool true]) ∧ Below w.heap.size w w' := by
  have h1 := mn1
  go_enter Try.func22, Try.ntmps22
  go_wp2_with (first | (go_at_call 43; refine (opsY1 [] _ _ (row_nil _) (by simp) rfl).mono ?_; rintro e w1 ⟨rfl, hb1⟩) | (go_at_call 160; refine (less_no _).mono ?_; rintro e w2 ⟨rfl, hb2⟩))
  go_ret2
  exact ⟨rfl, bel_trans hb1 hb2⟩
theorem iNoPath2 (w : World) : Calls Try.prog 22 #[.int .i64 2] w fun e w' => e = .returned (.tuple #[.int .i64 0, .bool true]) ∧ Below w.heap.size w w' := by
  have h1 := mn2
  go_enter Try.func22, Try.ntmps22
  go_wp2_with (first | (go_at_call 43; refine (opsY2 [] _ _ (row_nil _) (by simp) rfl).mono ?_; rintro e w1 ⟨rfl, hb1⟩) | (go_at_call 165; refine (more_no _ _).mono ?_; rintro e w2 ⟨rfl, hb2⟩))
  go_ret2
  exact ⟨rfl, bel_trans hb1 hb2⟩
theorem iNoPath3 (w : World) : Calls Try.prog 22 #[.int .i64 3] w fun e w' => e = .returned (.tuple #[.int .i64 100000, .bool true]) ∧ Below w.heap.size w w' := by
  have h1 := mn3
  go_enter Try.func22, Try.ntmps22
  go_wp2_with (first | (go_at_call 43; refine (opsY3 [] _ _ (row_nil _) (by simp) rfl).mono ?_; rintro e w1 ⟨rfl, hb1⟩) | (go_at_call 160; refine (less_no _).mono ?_; rintro e w2 ⟨rfl, hb2⟩))
  go_ret2
  exact ⟨rfl, bel_trans hb1 hb2⟩
theorem iNoPath4 (w : World) : Calls Try.prog 22 #[.int .i64 4] w fun e w' => e = .returned (.tuple #[.int .i64 0, .bool true]) ∧ Below w.heap.size w w' := by
  have h1 := mn4
  go_enter Try.func22, Try.ntmps22
  go_wp2_with (first | (go_at_call 43; refine (opsY4 [] _ _ (row_nil _) (by simp) rfl).mono ?_; rintro e w1 ⟨rfl, hb1⟩) | (go_at_call 165; refine (more_no _ _).mono ?_; rintro e w2 ⟨rfl, hb2⟩))
  go_ret2
  exact ⟨rfl, bel_trans hb1 hb2⟩
theorem iNoPath5 (w : World) : Calls Try.prog 22 #[.int .i64 5] w fun e w' => e = .returned (.tuple #[.int .i64 100000, .bool true]) ∧ Below w.heap.size w w' := by
  have h1 := mn5
  go_enter Try.func22, Try.ntmps22
  go_wp2_with (first | (go_at_call 43; refine (opsY5 [] _ _ (row_nil _) (by simp) rfl).mono ?_; rintro e w1 ⟨rfl, hb1⟩) | (go_at_call 160; refine (less_no _).mono ?_; rintro e w2 ⟨rfl, hb2⟩))
  go_ret2
  exact ⟨rfl, bel_trans hb1 hb2⟩
theorem iNoPath (m : Int) (w : World) : Calls Try.prog 22 #[.int .i64 m] w fun e w' => e = .returned (.tuple #[.int .i64 (rNo m), .bool (mKind m)]) ∧ Below w.heap.size w w' := by
  cases hm : mKind m
  · have e1 : rNo m = 0 := by unfold rNo; rw [hm]; rfl
    rw [e1]
    have HM := Lib.hid hm
    clear hm e1
    go_enter Try.func22, Try.ntmps22
    go_wp2_with (go_at_call 43; refine (opsFor_no m HM.out _ _).mono ?_; rintro e w1 ⟨rfl, hb1⟩)
    go_ret2
    exact ⟨rfl, hb1⟩
  · rcases mKind_cases hm with rfl | rfl | rfl | rfl | rfl
    · exact iNoPath1 w
    · exact iNoPath2 w
    · exact iNoPath3 w
    · exact iNoPath4 w
    · exact iNoPath5 w
theorem wv (x : Int) (w : World) : Calls Try.prog 115 #[.int .i64 x] w fun e w' => e = .returned (.bool (mWeight x)) ∧ w = w' := by
  by_cases h1 : 1 ≤ x
  · by_cases h2 : x ≤ 999
    · have e1 : mWeight x = true := by simp [mWeight, h1, h2]
      rw [e1]
      clear e1
      go_enter Try.func115, Try.ntmps115
      go_wp2
      go_ret
      exact ⟨rfl, rfl⟩
    · have e1 : mWeight x = false := by simp [mWeight, h1, h2]
      rw [e1]
      clear e1
      go_enter Try.func115, Try.ntmps115
      go_wp2
      go_ret
      exact ⟨rfl, rfl⟩
  · have e1 : mWeight x = false := by simp [mWeight, h1]
    rw [e1]
    clear e1
    go_enter Try.func115, Try.ntmps115
    go_wp2
    go_ret
    exact ⟨rfl, rfl⟩
theorem wv_is {x : Int} {b : Bool} (h : mWeight x = b) (w : World) : Calls Try.prog 115 #[.int .i64 x] w fun e w' => e = .returned (.bool b) ∧ w = w' := by
  have := wv x w
  rw [h] at this
  exact this
theorem iIsBetter1 (a b : Int) (h : bTwo 1 a b = true) (w : World) : Calls Try.prog 13 #[.int .i64 1, .int .i64 a, .int .i64 b] w fun e w' => e = .returned (.bool (decide (a < b))) ∧ Below w.heap.size w w' := by
  have ha := Lib.hid (bTwo_yes h)
  have h1 := mb1
  clear h
  go_enter Try.func13, Try.ntmps13
  go_wp2_with (first | (go_at_call 43; refine (opsY1 [a, b] _ _ (row_two _ a b _) (by simp) ha.out).mono ?_; rintro e w1 ⟨rfl, hb1⟩) | (go_at_call 158; refine (less_better _ _ _).mono ?_; rintro e w2 ⟨rfl, hb2⟩))
  go_ret
  exact ⟨rfl, bel_trans (bel_trans ((Below.refl _ _).alloc (Nat.le_refl _) _) hb1) hb2⟩
theorem ibo1 (a b : Int) (w : World) : Calls Try.prog 119 #[.iface 115 (.agg #[]), .int .i64 a, .int .i64 b] w fun e w' => e = .returned (.int .i64 (mBest 1 a b)) ∧ Below w.heap.size w w' := by
  have h1 := mb1
  have e0 : mBest 1 a b = if decide (b < a) = true then b else a := rfl
  cases hd : decide (b < a)
  · have e1 : mBest 1 a b = a := by rw [e0, hd]; rfl
    rw [e1]
    have hc := less_better b a w
    rw [hd] at hc
    have HC := Lib.hid hc
    clear e0 e1 hd hc
    go_enter Try.func119, Try.ntmps119
    go_wp2_with ((go_at_call 158; refine HC.out.mono ?_; rintro e w2 ⟨rfl, hb2⟩))
    go_ret
    exact ⟨rfl, hb2⟩
  · have e1 : mBest 1 a b = b := by rw [e0, hd]; rfl
    rw [e1]
    have hc := less_better b a w
    rw [hd] at hc
    have HC := Lib.hid hc
    clear e0 e1 hd hc
    go_enter Try.func119, Try.ntmps119
    go_wp2_with ((go_at_call 158; refine HC.out.mono ?_; rintro e w2 ⟨rfl, hb2⟩))
    go_ret
    exact ⟨rfl, hb2⟩

theorem ij1 (a b : Int) (ha : 0 ≤ a ∧ a ≤ 100000) (hb : 0 ≤ b ∧ b ≤ 100000) (w : World) : Calls Try.prog 162 #[.agg #[], .int .i64 a, .int .i64 b] w fun e w' => e = .returned (.int .i64 (mJoin 1 a b)) ∧ Below w.heap.size w w' :=
  jsum a b ha.1 ha.2 hb.1 hb.2 w
theorem iIsBetter2 (a b : Int) (h : bTwo 2 a b = true) (w : World) : Calls Try.prog 13 #[.int .i64 2, .int .i64 a, .int .i64 b] w fun e w' => e = .returned (.bool (decide (b < a))) ∧ Below w.heap.size w w' := by
  have ha := Lib.hid (bTwo_yes h)
  have h1 := mb2
  clear h
  go_enter Try.func13, Try.ntmps13
  go_wp2_with (first | (go_at_call 43; refine (opsY2 [a, b] _ _ (row_two _ a b _) (by simp) ha.out).mono ?_; rintro e w1 ⟨rfl, hb1⟩) | (go_at_call 163; refine (more_better _ _ _ _).mono ?_; rintro e w2 ⟨rfl, hb2⟩))
  go_ret
  exact ⟨rfl, bel_trans (bel_trans ((Below.refl _ _).alloc (Nat.le_refl _) _) hb1) hb2⟩
theorem ibo2 (a b : Int) (w : World) : Calls Try.prog 119 #[.iface 120 (.agg #[.int .i64 100000]), .int .i64 a, .int .i64 b] w fun e w' => e = .returned (.int .i64 (mBest 2 a b)) ∧ Below w.heap.size w w' := by
  have h1 := mb2
  have e0 : mBest 2 a b = if decide (a < b) = true then b else a := rfl
  cases hd : decide (a < b)
  · have e1 : mBest 2 a b = a := by rw [e0, hd]; rfl
    rw [e1]
    have hc := more_better 100000 b a w
    rw [hd] at hc
    have HC := Lib.hid hc
    clear e0 e1 hd hc
    go_enter Try.func119, Try.ntmps119
    go_wp2_with ((go_at_call 163; refine HC.out.mono ?_; rintro e w2 ⟨rfl, hb2⟩))
    go_ret
    exact ⟨rfl, hb2⟩
  · have e1 : mBest 2 a b = b := by rw [e0, hd]; rfl
    rw [e1]
    have hc := more_better 100000 b a w
    rw [hd] at hc
    have HC := Lib.hid hc
    clear e0 e1 hd hc
    go_enter Try.func119, Try.ntmps119
    go_wp2_with ((go_at_call 163; refine HC.out.mono ?_; rintro e w2 ⟨rfl, hb2⟩))
    go_ret
    exact ⟨rfl, hb2⟩

theorem ij2 (a b : Int) (ha : 0 ≤ a ∧ a ≤ 100000) (hb : 0 ≤ b ∧ b ≤ 100000) (w : World) : Calls Try.prog 166 #[.agg #[], .int .i64 a, .int .i64 b] w fun e w' => e = .returned (.int .i64 (mJoin 2 a b)) ∧ Below w.heap.size w w' :=
  jless a b w
theorem iIsBetter3 (a b : Int) (h : bTwo 3 a b = true) (w : World) : Calls Try.prog 13 #[.int .i64 3, .int .i64 a, .int .i64 b] w fun e w' => e = .returned (.bool (decide (a < b))) ∧ Below w.heap.size w w' := by
  have ha := Lib.hid (bTwo_yes h)
  have h1 := mb3
  clear h
  go_enter Try.func13, Try.ntmps13
  go_wp2_with (first | (go_at_call 43; refine (opsY3 [a, b] _ _ (row_two _ a b _) (by simp) ha.out).mono ?_; rintro e w1 ⟨rfl, hb1⟩) | (go_at_call 158; refine (less_better _ _ _).mono ?_; rintro e w2 ⟨rfl, hb2⟩))
  go_ret
  exact ⟨rfl, bel_trans (bel_trans ((Below.refl _ _).alloc (Nat.le_refl _) _) hb1) hb2⟩
theorem ibo3 (a b : Int) (w : World) : Calls Try.prog 119 #[.iface 123 (.agg #[]), .int .i64 a, .int .i64 b] w fun e w' => e = .returned (.int .i64 (mBest 3 a b)) ∧ Below w.heap.size w w' := by
  have h1 := mb3
  have e0 : mBest 3 a b = if decide (b < a) = true then b else a := rfl
  cases hd : decide (b < a)
  · have e1 : mBest 3 a b = a := by rw [e0, hd]; rfl
    rw [e1]
    have hc := less_better b a w
    rw [hd] at hc
    have HC := Lib.hid hc
    clear e0 e1 hd hc
    go_enter Try.func119, Try.ntmps119
    go_wp2_with ((go_at_call 158; refine HC.out.mono ?_; rintro e w2 ⟨rfl, hb2⟩))
    go_ret
    exact ⟨rfl, hb2⟩
  · have e1 : mBest 3 a b = b := by rw [e0, hd]; rfl
    rw [e1]
    have hc := less_better b a w
    rw [hd] at hc
    have HC := Lib.hid hc
    clear e0 e1 hd hc
    go_enter Try.func119, Try.ntmps119
    go_wp2_with ((go_at_call 158; refine HC.out.mono ?_; rintro e w2 ⟨rfl, hb2⟩))
    go_ret
    exact ⟨rfl, hb2⟩

theorem ij3 (a b : Int) (ha : 0 ≤ a ∧ a ≤ 100000) (hb : 0 ≤ b ∧ b ≤ 100000) (w : World) : Calls Try.prog 167 #[.agg #[], .int .i64 a, .int .i64 b] w fun e w' => e = .returned (.int .i64 (mJoin 3 a b)) ∧ Below w.heap.size w w' :=
  jmore a b w
theorem iIsBetter4 (a b : Int) (h : bTwo 4 a b = true) (w : World) : Calls Try.prog 13 #[.int .i64 4, .int .i64 a, .int .i64 b] w fun e w' => e = .returned (.bool (decide (b < a))) ∧ Below w.heap.size w w' := by
  have ha := Lib.hid (bTwo_yes h)
  have h1 := mb4
  clear h
  go_enter Try.func13, Try.ntmps13
  go_wp2_with (first | (go_at_call 43; refine (opsY4 [a, b] _ _ (row_two _ a b _) (by simp) ha.out).mono ?_; rintro e w1 ⟨rfl, hb1⟩) | (go_at_call 163; refine (more_better _ _ _ _).mono ?_; rintro e w2 ⟨rfl, hb2⟩))
  go_ret
  exact ⟨rfl, bel_trans (bel_trans ((Below.refl _ _).alloc (Nat.le_refl _) _) hb1) hb2⟩
theorem ibo4 (a b : Int) (w : World) : Calls Try.prog 119 #[.iface 126 (.agg #[.int .i64 1]), .int .i64 a, .int .i64 b] w fun e w' => e = .returned (.int .i64 (mBest 4 a b)) ∧ Below w.heap.size w w' := by
  have h1 := mb4
  have e0 : mBest 4 a b = if decide (a < b) = true then b else a := rfl
  cases hd : decide (a < b)
  · have e1 : mBest 4 a b = a := by rw [e0, hd]; rfl
    rw [e1]
    have hc := more_better 1 b a w
    rw [hd] at hc
    have HC := Lib.hid hc
    clear e0 e1 hd hc
    go_enter Try.func119, Try.ntmps119
    go_wp2_with ((go_at_call 163; refine HC.out.mono ?_; rintro e w2 ⟨rfl, hb2⟩))
    go_ret
    exact ⟨rfl, hb2⟩
  · have e1 : mBest 4 a b = b := by rw [e0, hd]; rfl
    rw [e1]
    have hc := more_better 1 b a w
    rw [hd] at hc
    have HC := Lib.hid hc
    clear e0 e1 hd hc
    go_enter Try.func119, Try.ntmps119
    go_wp2_with ((go_at_call 163; refine HC.out.mono ?_; rintro e w2 ⟨rfl, hb2⟩))
    go_ret
    exact ⟨rfl, hb2⟩

theorem ij4 (a b : Int) (ha : 0 ≤ a ∧ a ≤ 100000) (hb : 0 ≤ b ∧ b ≤ 100000) (w : World) : Calls Try.prog 166 #[.agg #[], .int .i64 a, .int .i64 b] w fun e w' => e = .returned (.int .i64 (mJoin 4 a b)) ∧ Below w.heap.size w w' :=
  jless a b w
theorem iIsBetter5 (a b : Int) (h : bTwo 5 a b = true) (w : World) : Calls Try.prog 13 #[.int .i64 5, .int .i64 a, .int .i64 b] w fun e w' => e = .returned (.bool (decide (a < b))) ∧ Below w.heap.size w w' := by
  have ha := Lib.hid (bTwo_yes h)
  have h1 := mb5
  clear h
  go_enter Try.func13, Try.ntmps13
  go_wp2_with (first | (go_at_call 43; refine (opsY5 [a, b] _ _ (row_two _ a b _) (by simp) ha.out).mono ?_; rintro e w1 ⟨rfl, hb1⟩) | (go_at_call 158; refine (less_better _ _ _).mono ?_; rintro e w2 ⟨rfl, hb2⟩))
  go_ret
  exact ⟨rfl, bel_trans (bel_trans ((Below.refl _ _).alloc (Nat.le_refl _) _) hb1) hb2⟩
theorem ibo5 (a b : Int) (w : World) : Calls Try.prog 119 #[.iface 128 (.agg #[]), .int .i64 a, .int .i64 b] w fun e w' => e = .returned (.int .i64 (mBest 5 a b)) ∧ Below w.heap.size w w' := by
  have h1 := mb5
  have e0 : mBest 5 a b = if decide (b < a) = true then b else a := rfl
  cases hd : decide (b < a)
  · have e1 : mBest 5 a b = a := by rw [e0, hd]; rfl
    rw [e1]
    have hc := less_better b a w
    rw [hd] at hc
    have HC := Lib.hid hc
    clear e0 e1 hd hc
    go_enter Try.func119, Try.ntmps119
    go_wp2_with ((go_at_call 158; refine HC.out.mono ?_; rintro e w2 ⟨rfl, hb2⟩))
    go_ret
    exact ⟨rfl, hb2⟩
  · have e1 : mBest 5 a b = b := by rw [e0, hd]; rfl
    rw [e1]
    have hc := less_better b a w
    rw [hd] at hc
    have HC := Lib.hid hc
    clear e0 e1 hd hc
    go_enter Try.func119, Try.ntmps119
    go_wp2_with ((go_at_call 158; refine HC.out.mono ?_; rintro e w2 ⟨rfl, hb2⟩))
    go_ret
    exact ⟨rfl, hb2⟩

theorem ij5 (a b : Int) (ha : 0 ≤ a ∧ a ≤ 100000) (hb : 0 ≤ b ∧ b ≤ 100000) (w : World) : Calls Try.prog 162 #[.agg #[], .int .i64 a, .int .i64 b] w fun e w' => e = .returned (.int .i64 (mJoin 5 a b)) ∧ Below w.heap.size w w' :=
  jsum a b ha.1 ha.2 hb.1 hb.2 w
theorem iIsBetter (m a b : Int) (w : World) : Calls Try.prog 13 #[.int .i64 m, .int .i64 a, .int .i64 b] w fun e w' => e = .returned (.bool (bBet m a b)) ∧ Below w.heap.size w w' := by
  cases h : bTwo m a b
  · have e1 : bBet m a b = false := by unfold bBet; rw [h]; rfl
    rw [e1]
    have HM := Lib.hid h
    clear h e1
    go_enter Try.func13, Try.ntmps13
    go_wp2_with (go_at_call 43; refine (opsN2 HM.out _ _ (row_two _ a b _)).mono ?_; rintro e w1 ⟨rfl, hb1⟩)
    go_ret
    exact ⟨rfl, bel_trans ((Below.refl _ _).alloc (Nat.le_refl _) _) hb1⟩
  · have e1 : bBet m a b = mBet m a b := by unfold bBet; rw [h]; rfl
    rw [e1]
    rcases mKind_cases (bTwo_of h).1 with rfl | rfl | rfl | rfl | rfl
    · exact iIsBetter1 a b h w
    · exact iIsBetter2 a b h w
    · exact iIsBetter3 a b h w
    · exact iIsBetter4 a b h w
    · exact iIsBetter5 a b h w

end Go.Proofs.Ytlgjcofpdaljnaa
