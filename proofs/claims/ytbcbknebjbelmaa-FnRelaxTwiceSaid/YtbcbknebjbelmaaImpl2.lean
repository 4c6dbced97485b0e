/- What the exported functions of measures answer. -/
import Derived.Test.YtbcbknebjbelmaaImpl
namespace Go.Proofs.Ytbcbknebjbelmaa
open Go.RowKit Go.BigFrame
set_option linter.unusedVariables false
set_option linter.unusedSimpArgs false
theorem iEmptyPath1 (w : World) : Calls Try.prog 26 #[.int .i64 1] w fun e w' => e = .returned (.tuple #[.int .i64 0, .bool true]) ∧ Below w.heap.size w w' := by
  have h1 := me1
  go_enter Try.func26, Try.ntmps26
  go_wp2_with (first | (go_at_call 64; refine (opsY1 [] _ _ (row_nil _) (by simp) rfl).mono ?_; rintro e w1 ⟨rfl, hb1⟩) | (go_at_call 134; refine (less_empty _).mono ?_; rintro e w2 ⟨rfl, hb2⟩))
  go_ret2
  exact ⟨rfl, bel_trans hb1 hb2⟩
theorem iEmptyPath2 (w : World) : Calls Try.prog 26 #[.int .i64 2] w fun e w' => e = .returned (.tuple #[.int .i64 100000, .bool true]) ∧ Below w.heap.size w w' := by
  have h1 := me2
  go_enter Try.func26, Try.ntmps26
  go_wp2_with (first | (go_at_call 64; refine (opsY2 [] _ _ (row_nil _) (by simp) rfl).mono ?_; rintro e w1 ⟨rfl, hb1⟩) | (go_at_call 139; refine (more_empty _ _).mono ?_; rintro e w2 ⟨rfl, hb2⟩))
  go_ret2
  exact ⟨rfl, bel_trans hb1 hb2⟩
theorem iEmptyPath3 (w : World) : Calls Try.prog 26 #[.int .i64 3] w fun e w' => e = .returned (.tuple #[.int .i64 0, .bool true]) ∧ Below w.heap.size w w' := by
  have h1 := me3
  go_enter Try.func26, Try.ntmps26
  go_wp2_with (first | (go_at_call 64; refine (opsY3 [] _ _ (row_nil _) (by simp) rfl).mono ?_; rintro e w1 ⟨rfl, hb1⟩) | (go_at_call 134; refine (less_empty _).mono ?_; rintro e w2 ⟨rfl, hb2⟩))
  go_ret2
  exact ⟨rfl, bel_trans hb1 hb2⟩
theorem iEmptyPath4 (w : World) : Calls Try.prog 26 #[.int .i64 4] w fun e w' => e = .returned (.tuple #[.int .i64 1, .bool true]) ∧ Below w.heap.size w w' := by
  have h1 := me4
  go_enter Try.func26, Try.ntmps26
  go_wp2_with (first | (go_at_call 64; refine (opsY4 [] _ _ (row_nil _) (by simp) rfl).mono ?_; rintro e w1 ⟨rfl, hb1⟩) | (go_at_call 139; refine (more_empty _ _).mono ?_; rintro e w2 ⟨rfl, hb2⟩))
  go_ret2
  exact ⟨rfl, bel_trans hb1 hb2⟩
theorem iEmptyPath5 (w : World) : Calls Try.prog 26 #[.int .i64 5] w fun e w' => e = .returned (.tuple #[.int .i64 0, .bool true]) ∧ Below w.heap.size w w' := by
  have h1 := me5
  go_enter Try.func26, Try.ntmps26
  go_wp2_with (first | (go_at_call 64; refine (opsY5 [] _ _ (row_nil _) (by simp) rfl).mono ?_; rintro e w1 ⟨rfl, hb1⟩) | (go_at_call 134; refine (less_empty _).mono ?_; rintro e w2 ⟨rfl, hb2⟩))
  go_ret2
  exact ⟨rfl, bel_trans hb1 hb2⟩
theorem iEmptyPath (m : Int) (w : World) : Calls Try.prog 26 #[.int .i64 m] w fun e w' => e = .returned (.tuple #[.int .i64 (rEmpty m), .bool (mKind m)]) ∧ Below w.heap.size w w' := by
  cases hm : mKind m
  · have e1 : rEmpty m = 0 := by unfold rEmpty; rw [hm]; rfl
    rw [e1]
    have HM := Lib.hid hm
    clear hm e1
    go_enter Try.func26, Try.ntmps26
    go_wp2_with (go_at_call 64; refine (opsFor_no m HM.out _ _).mono ?_; rintro e w1 ⟨rfl, hb1⟩)
    go_ret2
    exact ⟨rfl, hb1⟩
  · rcases mKind_cases hm with rfl | rfl | rfl | rfl | rfl
    · exact iEmptyPath1 w
    · exact iEmptyPath2 w
    · exact iEmptyPath3 w
    · exact iEmptyPath4 w
    · exact iEmptyPath5 w

theorem wv (x : Int) (w : World) : Calls Try.prog 67 #[.int .i64 x] w fun e w' => e = .returned (.bool (mWeight x)) ∧ w = w' := by
  by_cases h1 : 1 ≤ x
  · by_cases h2 : x ≤ 999
    · have e1 : mWeight x = true := by simp [mWeight, h1, h2]
      rw [e1]
      clear e1
      go_enter Try.func67, Try.ntmps67
      go_wp2
      go_ret
      exact ⟨rfl, rfl⟩
    · have e1 : mWeight x = false := by simp [mWeight, h1, h2]
      rw [e1]
      clear e1
      go_enter Try.func67, Try.ntmps67
      go_wp2
      go_ret
      exact ⟨rfl, rfl⟩
  · have e1 : mWeight x = false := by simp [mWeight, h1]
    rw [e1]
    clear e1
    go_enter Try.func67, Try.ntmps67
    go_wp2
    go_ret
    exact ⟨rfl, rfl⟩
theorem wv_is {x : Int} {b : Bool} (h : mWeight x = b) (w : World) : Calls Try.prog 67 #[.int .i64 x] w fun e w' => e = .returned (.bool b) ∧ w = w' := by
  have := wv x w
  rw [h] at this
  exact this
theorem iEdge1 (x : Int) (HX : Hid (mWeight x = true)) (w : World) : Calls Try.prog 31 #[.int .i64 1, .int .i64 x] w fun e w' => e = .returned (.tuple #[.int .i64 x, .bool true]) ∧ Below w.heap.size w w' := by
  have ho := mo1
  go_enter Try.func31, Try.ntmps31
  go_wp2_with (first | (go_at_call 64; refine (opsY1 [] _ _ (row_nil _) (by simp) rfl).mono ?_; rintro e w1 ⟨rfl, hb1⟩) | (go_at_call 67; refine (wv_is HX.out _).mono ?_; rintro e w1 ⟨rfl, rfl⟩) | (go_at_call 136; refine (eweight _ _).mono ?_; rintro e w2 ⟨rfl, hb2⟩))
  go_ret2
  exact ⟨rfl, bel_trans hb1 hb2⟩
theorem iEdgeN1 (x : Int) (HX : Hid (mWeight x = false)) (w : World) : Calls Try.prog 31 #[.int .i64 1, .int .i64 x] w fun e w' => e = .returned (.tuple #[.int .i64 0, .bool false]) ∧ Below w.heap.size w w' := by
  go_enter Try.func31, Try.ntmps31
  go_wp2_with (first | (go_at_call 64; refine (opsY1 [] _ _ (row_nil _) (by simp) rfl).mono ?_; rintro e w1 ⟨rfl, hb1⟩) | (go_at_call 67; refine (wv_is HX.out _).mono ?_; rintro e w1 ⟨rfl, rfl⟩))
  go_ret2
  exact ⟨rfl, hb1⟩
theorem iEdge2 (x : Int) (HX : Hid (mWeight x = true)) (w : World) : Calls Try.prog 31 #[.int .i64 2, .int .i64 x] w fun e w' => e = .returned (.tuple #[.int .i64 x, .bool true]) ∧ Below w.heap.size w w' := by
  have ho := mo2
  go_enter Try.func31, Try.ntmps31
  go_wp2_with (first | (go_at_call 64; refine (opsY2 [] _ _ (row_nil _) (by simp) rfl).mono ?_; rintro e w1 ⟨rfl, hb1⟩) | (go_at_call 67; refine (wv_is HX.out _).mono ?_; rintro e w1 ⟨rfl, rfl⟩) | (go_at_call 136; refine (eweight _ _).mono ?_; rintro e w2 ⟨rfl, hb2⟩))
  go_ret2
  exact ⟨rfl, bel_trans hb1 hb2⟩
theorem iEdgeN2 (x : Int) (HX : Hid (mWeight x = false)) (w : World) : Calls Try.prog 31 #[.int .i64 2, .int .i64 x] w fun e w' => e = .returned (.tuple #[.int .i64 0, .bool false]) ∧ Below w.heap.size w w' := by
  go_enter Try.func31, Try.ntmps31
  go_wp2_with (first | (go_at_call 64; refine (opsY2 [] _ _ (row_nil _) (by simp) rfl).mono ?_; rintro e w1 ⟨rfl, hb1⟩) | (go_at_call 67; refine (wv_is HX.out _).mono ?_; rintro e w1 ⟨rfl, rfl⟩))
  go_ret2
  exact ⟨rfl, hb1⟩
theorem iEdge3 (x : Int) (HX : Hid (mWeight x = true)) (w : World) : Calls Try.prog 31 #[.int .i64 3, .int .i64 x] w fun e w' => e = .returned (.tuple #[.int .i64 x, .bool true]) ∧ Below w.heap.size w w' := by
  have ho := mo3
  go_enter Try.func31, Try.ntmps31
  go_wp2_with (first | (go_at_call 64; refine (opsY3 [] _ _ (row_nil _) (by simp) rfl).mono ?_; rintro e w1 ⟨rfl, hb1⟩) | (go_at_call 67; refine (wv_is HX.out _).mono ?_; rintro e w1 ⟨rfl, rfl⟩) | (go_at_call 136; refine (eweight _ _).mono ?_; rintro e w2 ⟨rfl, hb2⟩))
  go_ret2
  exact ⟨rfl, bel_trans hb1 hb2⟩
theorem iEdgeN3 (x : Int) (HX : Hid (mWeight x = false)) (w : World) : Calls Try.prog 31 #[.int .i64 3, .int .i64 x] w fun e w' => e = .returned (.tuple #[.int .i64 0, .bool false]) ∧ Below w.heap.size w w' := by
  go_enter Try.func31, Try.ntmps31
  go_wp2_with (first | (go_at_call 64; refine (opsY3 [] _ _ (row_nil _) (by simp) rfl).mono ?_; rintro e w1 ⟨rfl, hb1⟩) | (go_at_call 67; refine (wv_is HX.out _).mono ?_; rintro e w1 ⟨rfl, rfl⟩))
  go_ret2
  exact ⟨rfl, hb1⟩
theorem iEdge4 (x : Int) (HX : Hid (mWeight x = true)) (w : World) : Calls Try.prog 31 #[.int .i64 4, .int .i64 x] w fun e w' => e = .returned (.tuple #[.int .i64 1, .bool true]) ∧ Below w.heap.size w w' := by
  have ho := mo4
  go_enter Try.func31, Try.ntmps31
  go_wp2_with (first | (go_at_call 64; refine (opsY4 [] _ _ (row_nil _) (by simp) rfl).mono ?_; rintro e w1 ⟨rfl, hb1⟩) | (go_at_call 67; refine (wv_is HX.out _).mono ?_; rintro e w1 ⟨rfl, rfl⟩) | (go_at_call 143; refine (eone _ _).mono ?_; rintro e w2 ⟨rfl, hb2⟩))
  go_ret2
  exact ⟨rfl, bel_trans hb1 hb2⟩
theorem iEdgeN4 (x : Int) (HX : Hid (mWeight x = false)) (w : World) : Calls Try.prog 31 #[.int .i64 4, .int .i64 x] w fun e w' => e = .returned (.tuple #[.int .i64 0, .bool false]) ∧ Below w.heap.size w w' := by
  go_enter Try.func31, Try.ntmps31
  go_wp2_with (first | (go_at_call 64; refine (opsY4 [] _ _ (row_nil _) (by simp) rfl).mono ?_; rintro e w1 ⟨rfl, hb1⟩) | (go_at_call 67; refine (wv_is HX.out _).mono ?_; rintro e w1 ⟨rfl, rfl⟩))
  go_ret2
  exact ⟨rfl, hb1⟩
theorem iEdge5 (x : Int) (HX : Hid (mWeight x = true)) (w : World) : Calls Try.prog 31 #[.int .i64 5, .int .i64 x] w fun e w' => e = .returned (.tuple #[.int .i64 1, .bool true]) ∧ Below w.heap.size w w' := by
  have ho := mo5
  go_enter Try.func31, Try.ntmps31
  go_wp2_with (first | (go_at_call 64; refine (opsY5 [] _ _ (row_nil _) (by simp) rfl).mono ?_; rintro e w1 ⟨rfl, hb1⟩) | (go_at_call 67; refine (wv_is HX.out _).mono ?_; rintro e w1 ⟨rfl, rfl⟩) | (go_at_call 143; refine (eone _ _).mono ?_; rintro e w2 ⟨rfl, hb2⟩))
  go_ret2
  exact ⟨rfl, bel_trans hb1 hb2⟩
theorem iEdgeN5 (x : Int) (HX : Hid (mWeight x = false)) (w : World) : Calls Try.prog 31 #[.int .i64 5, .int .i64 x] w fun e w' => e = .returned (.tuple #[.int .i64 0, .bool false]) ∧ Below w.heap.size w w' := by
  go_enter Try.func31, Try.ntmps31
  go_wp2_with (first | (go_at_call 64; refine (opsY5 [] _ _ (row_nil _) (by simp) rfl).mono ?_; rintro e w1 ⟨rfl, hb1⟩) | (go_at_call 67; refine (wv_is HX.out _).mono ?_; rintro e w1 ⟨rfl, rfl⟩))
  go_ret2
  exact ⟨rfl, hb1⟩
theorem iEdgeMeasure (m x : Int) (w : World) : Calls Try.prog 31 #[.int .i64 m, .int .i64 x] w fun e w' => e = .returned (.tuple #[.int .i64 (rEdge m x), .bool (bEdge m x)]) ∧ Below w.heap.size w w' := by
  cases hm : mKind m
  · have e0 : bEdge m x = false := by simp [bEdge, hm]
    have e1 : rEdge m x = 0 := by unfold rEdge; rw [e0]; rfl
    rw [e0, e1]
    have HM := Lib.hid hm
    clear hm e0 e1
    go_enter Try.func31, Try.ntmps31
    go_wp2_with (go_at_call 64; refine (opsFor_no m HM.out _ _).mono ?_; rintro e w1 ⟨rfl, hb1⟩)
    go_ret2
    exact ⟨rfl, hb1⟩
  · cases hx : mWeight x
    · have e0 : bEdge m x = false := by simp [bEdge, hx]
      have e1 : rEdge m x = 0 := by unfold rEdge; rw [e0]; rfl
      rw [e0, e1]
      rcases mKind_cases hm with rfl | rfl | rfl | rfl | rfl
      · exact iEdgeN1 x hx w
      · exact iEdgeN2 x hx w
      · exact iEdgeN3 x hx w
      · exact iEdgeN4 x hx w
      · exact iEdgeN5 x hx w
    · have e0 : bEdge m x = true := by simp [bEdge, hx, hm]
      have e1 : rEdge m x = mEdge m x := by unfold rEdge; rw [e0]; rfl
      rw [e0, e1]
      rcases mKind_cases hm with rfl | rfl | rfl | rfl | rfl
      · exact iEdge1 x hx w
      · exact iEdge2 x hx w
      · exact iEdge3 x hx w
      · exact iEdge4 x hx w
      · exact iEdge5 x hx w

theorem iIsBetter1 (a b : Int) (h : bTwo 1 a b = true) (w : World) : Calls Try.prog 28 #[.int .i64 1, .int .i64 a, .int .i64 b] w fun e w' => e = .returned (.bool (decide (a < b))) ∧ Below w.heap.size w w' := by
  have ha := Lib.hid (bTwo_yes h)
  have h1 := mb1
  clear h
  go_enter Try.func28, Try.ntmps28
  go_wp2_with (first | (go_at_call 64; refine (opsY1 [a, b] _ _ (row_two _ a b _) (by simp) ha.out).mono ?_; rintro e w1 ⟨rfl, hb1⟩) | (go_at_call 133; refine (less_better _ _ _).mono ?_; rintro e w2 ⟨rfl, hb2⟩))
  go_ret
  exact ⟨rfl, bel_trans (bel_trans ((Below.refl _ _).alloc (Nat.le_refl _) _) hb1) hb2⟩
theorem ibo1 (a b : Int) (w : World) : Calls Try.prog 89 #[.iface 105 (.agg #[]), .int .i64 a, .int .i64 b] w fun e w' => e = .returned (.int .i64 (mBest 1 a b)) ∧ Below w.heap.size w w' := by
  have h1 := mb1
  have e0 : mBest 1 a b = if decide (b < a) = true then b else a := rfl
  cases hd : decide (b < a)
  · have e1 : mBest 1 a b = a := by rw [e0, hd]; rfl
    rw [e1]
    have hc := less_better b a w
    rw [hd] at hc
    have HC := Lib.hid hc
    clear e0 e1 hd hc
    go_enter Try.func89, Try.ntmps89
    go_wp2_with ((go_at_call 133; refine HC.out.mono ?_; rintro e w2 ⟨rfl, hb2⟩))
    go_ret
    exact ⟨rfl, hb2⟩
  · have e1 : mBest 1 a b = b := by rw [e0, hd]; rfl
    rw [e1]
    have hc := less_better b a w
    rw [hd] at hc
    have HC := Lib.hid hc
    clear e0 e1 hd hc
    go_enter Try.func89, Try.ntmps89
    go_wp2_with ((go_at_call 133; refine HC.out.mono ?_; rintro e w2 ⟨rfl, hb2⟩))
    go_ret
    exact ⟨rfl, hb2⟩

theorem ij1 (a b : Int) (ha : 0 ≤ a ∧ a ≤ 100000) (hb : 0 ≤ b ∧ b ≤ 100000) (w : World) : Calls Try.prog 137 #[.agg #[], .int .i64 a, .int .i64 b] w fun e w' => e = .returned (.int .i64 (mJoin 1 a b)) ∧ Below w.heap.size w w' :=
  jsum a b ha.1 ha.2 hb.1 hb.2 w
theorem iExtend1 (a b : Int) (h : bTwo 1 a b = true) (w : World) : Calls Try.prog 32 #[.int .i64 1, .int .i64 a, .int .i64 b] w fun e w' => e = .returned (.tuple #[.int .i64 (mJoin 1 a b), .bool true]) ∧ Below w.heap.size w w' := by
  have hk := bTwo_of h
  have hA := mIn_low hk.1 hk.2.1
  have hB := mIn_low hk.1 hk.2.2
  have ha := Lib.hid (bTwo_yes h)
  have h1 := mj1
  clear h hk
  go_enter Try.func32, Try.ntmps32
  go_wp2_with (first | (go_at_call 64; refine (opsY1 [a, b] _ _ (row_two _ a b _) (by simp) ha.out).mono ?_; rintro e w1 ⟨rfl, hb1⟩) | (go_at_call 137; refine (ij1 a b hA hB _).mono ?_; rintro e w2 ⟨rfl, hb2⟩))
  go_ret2
  exact ⟨rfl, bel_trans (bel_trans ((Below.refl _ _).alloc (Nat.le_refl _) _) hb1) hb2⟩

theorem iIsBetter2 (a b : Int) (h : bTwo 2 a b = true) (w : World) : Calls Try.prog 28 #[.int .i64 2, .int .i64 a, .int .i64 b] w fun e w' => e = .returned (.bool (decide (b < a))) ∧ Below w.heap.size w w' := by
  have ha := Lib.hid (bTwo_yes h)
  have h1 := mb2
  clear h
  go_enter Try.func28, Try.ntmps28
  go_wp2_with (first | (go_at_call 64; refine (opsY2 [a, b] _ _ (row_two _ a b _) (by simp) ha.out).mono ?_; rintro e w1 ⟨rfl, hb1⟩) | (go_at_call 138; refine (more_better _ _ _ _).mono ?_; rintro e w2 ⟨rfl, hb2⟩))
  go_ret
  exact ⟨rfl, bel_trans (bel_trans ((Below.refl _ _).alloc (Nat.le_refl _) _) hb1) hb2⟩
theorem ibo2 (a b : Int) (w : World) : Calls Try.prog 89 #[.iface 110 (.agg #[.int .i64 100000]), .int .i64 a, .int .i64 b] w fun e w' => e = .returned (.int .i64 (mBest 2 a b)) ∧ Below w.heap.size w w' := by
  have h1 := mb2
  have e0 : mBest 2 a b = if decide (a < b) = true then b else a := rfl
  cases hd : decide (a < b)
  · have e1 : mBest 2 a b = a := by rw [e0, hd]; rfl
    rw [e1]
    have hc := more_better 100000 b a w
    rw [hd] at hc
    have HC := Lib.hid hc
    clear e0 e1 hd hc
    go_enter Try.func89, Try.ntmps89
    go_wp2_with ((go_at_call 138; refine HC.out.mono ?_; rintro e w2 ⟨rfl, hb2⟩))
    go_ret
    exact ⟨rfl, hb2⟩
  · have e1 : mBest 2 a b = b := by rw [e0, hd]; rfl
    rw [e1]
    have hc := more_better 100000 b a w
    rw [hd] at hc
    have HC := Lib.hid hc
    clear e0 e1 hd hc
    go_enter Try.func89, Try.ntmps89
    go_wp2_with ((go_at_call 138; refine HC.out.mono ?_; rintro e w2 ⟨rfl, hb2⟩))
    go_ret
    exact ⟨rfl, hb2⟩

theorem ij2 (a b : Int) (ha : 0 ≤ a ∧ a ≤ 100000) (hb : 0 ≤ b ∧ b ≤ 100000) (w : World) : Calls Try.prog 141 #[.agg #[], .int .i64 a, .int .i64 b] w fun e w' => e = .returned (.int .i64 (mJoin 2 a b)) ∧ Below w.heap.size w w' :=
  jless a b w
theorem iExtend2 (a b : Int) (h : bTwo 2 a b = true) (w : World) : Calls Try.prog 32 #[.int .i64 2, .int .i64 a, .int .i64 b] w fun e w' => e = .returned (.tuple #[.int .i64 (mJoin 2 a b), .bool true]) ∧ Below w.heap.size w w' := by
  have hk := bTwo_of h
  have hA := mIn_low hk.1 hk.2.1
  have hB := mIn_low hk.1 hk.2.2
  have ha := Lib.hid (bTwo_yes h)
  have h1 := mj2
  clear h hk
  go_enter Try.func32, Try.ntmps32
  go_wp2_with (first | (go_at_call 64; refine (opsY2 [a, b] _ _ (row_two _ a b _) (by simp) ha.out).mono ?_; rintro e w1 ⟨rfl, hb1⟩) | (go_at_call 141; refine (ij2 a b hA hB _).mono ?_; rintro e w2 ⟨rfl, hb2⟩))
  go_ret2
  exact ⟨rfl, bel_trans (bel_trans ((Below.refl _ _).alloc (Nat.le_refl _) _) hb1) hb2⟩

theorem iIsBetter3 (a b : Int) (h : bTwo 3 a b = true) (w : World) : Calls Try.prog 28 #[.int .i64 3, .int .i64 a, .int .i64 b] w fun e w' => e = .returned (.bool (decide (a < b))) ∧ Below w.heap.size w w' := by
  have ha := Lib.hid (bTwo_yes h)
  have h1 := mb3
  clear h
  go_enter Try.func28, Try.ntmps28
  go_wp2_with (first | (go_at_call 64; refine (opsY3 [a, b] _ _ (row_two _ a b _) (by simp) ha.out).mono ?_; rintro e w1 ⟨rfl, hb1⟩) | (go_at_call 133; refine (less_better _ _ _).mono ?_; rintro e w2 ⟨rfl, hb2⟩))
  go_ret
  exact ⟨rfl, bel_trans (bel_trans ((Below.refl _ _).alloc (Nat.le_refl _) _) hb1) hb2⟩
theorem ibo3 (a b : Int) (w : World) : Calls Try.prog 89 #[.iface 113 (.agg #[]), .int .i64 a, .int .i64 b] w fun e w' => e = .returned (.int .i64 (mBest 3 a b)) ∧ Below w.heap.size w w' := by
  have h1 := mb3
  have e0 : mBest 3 a b = if decide (b < a) = true then b else a := rfl
  cases hd : decide (b < a)
  · have e1 : mBest 3 a b = a := by rw [e0, hd]; rfl
    rw [e1]
    have hc := less_better b a w
    rw [hd] at hc
    have HC := Lib.hid hc
    clear e0 e1 hd hc
    go_enter Try.func89, Try.ntmps89
    go_wp2_with ((go_at_call 133; refine HC.out.mono ?_; rintro e w2 ⟨rfl, hb2⟩))
    go_ret
    exact ⟨rfl, hb2⟩
  · have e1 : mBest 3 a b = b := by rw [e0, hd]; rfl
    rw [e1]
    have hc := less_better b a w
    rw [hd] at hc
    have HC := Lib.hid hc
    clear e0 e1 hd hc
    go_enter Try.func89, Try.ntmps89
    go_wp2_with ((go_at_call 133; refine HC.out.mono ?_; rintro e w2 ⟨rfl, hb2⟩))
    go_ret
    exact ⟨rfl, hb2⟩

theorem ij3 (a b : Int) (ha : 0 ≤ a ∧ a ≤ 100000) (hb : 0 ≤ b ∧ b ≤ 100000) (w : World) : Calls Try.prog 142 #[.agg #[], .int .i64 a, .int .i64 b] w fun e w' => e = .returned (.int .i64 (mJoin 3 a b)) ∧ Below w.heap.size w w' :=
  jmore a b w
theorem iExtend3 (a b : Int) (h : bTwo 3 a b = true) (w : World) : Calls Try.prog 32 #[.int .i64 3, .int .i64 a, .int .i64 b] w fun e w' => e = .returned (.tuple #[.int .i64 (mJoin 3 a b), .bool true]) ∧ Below w.heap.size w w' := by
  have hk := bTwo_of h
  have hA := mIn_low hk.1 hk.2.1
  have hB := mIn_low hk.1 hk.2.2
  have ha := Lib.hid (bTwo_yes h)
  have h1 := mj3
  clear h hk
  go_enter Try.func32, Try.ntmps32
  go_wp2_with (first | (go_at_call 64; refine (opsY3 [a, b] _ _ (row_two _ a b _) (by simp) ha.out).mono ?_; rintro e w1 ⟨rfl, hb1⟩) | (go_at_call 142; refine (ij3 a b hA hB _).mono ?_; rintro e w2 ⟨rfl, hb2⟩))
  go_ret2
  exact ⟨rfl, bel_trans (bel_trans ((Below.refl _ _).alloc (Nat.le_refl _) _) hb1) hb2⟩

theorem iIsBetter4 (a b : Int) (h : bTwo 4 a b = true) (w : World) : Calls Try.prog 28 #[.int .i64 4, .int .i64 a, .int .i64 b] w fun e w' => e = .returned (.bool (decide (b < a))) ∧ Below w.heap.size w w' := by
  have ha := Lib.hid (bTwo_yes h)
  have h1 := mb4
  clear h
  go_enter Try.func28, Try.ntmps28
  go_wp2_with (first | (go_at_call 64; refine (opsY4 [a, b] _ _ (row_two _ a b _) (by simp) ha.out).mono ?_; rintro e w1 ⟨rfl, hb1⟩) | (go_at_call 138; refine (more_better _ _ _ _).mono ?_; rintro e w2 ⟨rfl, hb2⟩))
  go_ret
  exact ⟨rfl, bel_trans (bel_trans ((Below.refl _ _).alloc (Nat.le_refl _) _) hb1) hb2⟩
theorem ibo4 (a b : Int) (w : World) : Calls Try.prog 89 #[.iface 116 (.agg #[.int .i64 1]), .int .i64 a, .int .i64 b] w fun e w' => e = .returned (.int .i64 (mBest 4 a b)) ∧ Below w.heap.size w w' := by
  have h1 := mb4
  have e0 : mBest 4 a b = if decide (a < b) = true then b else a := rfl
  cases hd : decide (a < b)
  · have e1 : mBest 4 a b = a := by rw [e0, hd]; rfl
    rw [e1]
    have hc := more_better 1 b a w
    rw [hd] at hc
    have HC := Lib.hid hc
    clear e0 e1 hd hc
    go_enter Try.func89, Try.ntmps89
    go_wp2_with ((go_at_call 138; refine HC.out.mono ?_; rintro e w2 ⟨rfl, hb2⟩))
    go_ret
    exact ⟨rfl, hb2⟩
  · have e1 : mBest 4 a b = b := by rw [e0, hd]; rfl
    rw [e1]
    have hc := more_better 1 b a w
    rw [hd] at hc
    have HC := Lib.hid hc
    clear e0 e1 hd hc
    go_enter Try.func89, Try.ntmps89
    go_wp2_with ((go_at_call 138; refine HC.out.mono ?_; rintro e w2 ⟨rfl, hb2⟩))
    go_ret
    exact ⟨rfl, hb2⟩

theorem ij4 (a b : Int) (ha : 0 ≤ a ∧ a ≤ 100000) (hb : 0 ≤ b ∧ b ≤ 100000) (w : World) : Calls Try.prog 141 #[.agg #[], .int .i64 a, .int .i64 b] w fun e w' => e = .returned (.int .i64 (mJoin 4 a b)) ∧ Below w.heap.size w w' :=
  jless a b w
theorem iExtend4 (a b : Int) (h : bTwo 4 a b = true) (w : World) : Calls Try.prog 32 #[.int .i64 4, .int .i64 a, .int .i64 b] w fun e w' => e = .returned (.tuple #[.int .i64 (mJoin 4 a b), .bool true]) ∧ Below w.heap.size w w' := by
  have hk := bTwo_of h
  have hA := mIn_low hk.1 hk.2.1
  have hB := mIn_low hk.1 hk.2.2
  have ha := Lib.hid (bTwo_yes h)
  have h1 := mj4
  clear h hk
  go_enter Try.func32, Try.ntmps32
  go_wp2_with (first | (go_at_call 64; refine (opsY4 [a, b] _ _ (row_two _ a b _) (by simp) ha.out).mono ?_; rintro e w1 ⟨rfl, hb1⟩) | (go_at_call 141; refine (ij4 a b hA hB _).mono ?_; rintro e w2 ⟨rfl, hb2⟩))
  go_ret2
  exact ⟨rfl, bel_trans (bel_trans ((Below.refl _ _).alloc (Nat.le_refl _) _) hb1) hb2⟩

theorem iIsBetter5 (a b : Int) (h : bTwo 5 a b = true) (w : World) : Calls Try.prog 28 #[.int .i64 5, .int .i64 a, .int .i64 b] w fun e w' => e = .returned (.bool (decide (a < b))) ∧ Below w.heap.size w w' := by
  have ha := Lib.hid (bTwo_yes h)
  have h1 := mb5
  clear h
  go_enter Try.func28, Try.ntmps28
  go_wp2_with (first | (go_at_call 64; refine (opsY5 [a, b] _ _ (row_two _ a b _) (by simp) ha.out).mono ?_; rintro e w1 ⟨rfl, hb1⟩) | (go_at_call 133; refine (less_better _ _ _).mono ?_; rintro e w2 ⟨rfl, hb2⟩))
  go_ret
  exact ⟨rfl, bel_trans (bel_trans ((Below.refl _ _).alloc (Nat.le_refl _) _) hb1) hb2⟩
theorem ibo5 (a b : Int) (w : World) : Calls Try.prog 89 #[.iface 118 (.agg #[]), .int .i64 a, .int .i64 b] w fun e w' => e = .returned (.int .i64 (mBest 5 a b)) ∧ Below w.heap.size w w' := by
  have h1 := mb5
  have e0 : mBest 5 a b = if decide (b < a) = true then b else a := rfl
  cases hd : decide (b < a)
  · have e1 : mBest 5 a b = a := by rw [e0, hd]; rfl
    rw [e1]
    have hc := less_better b a w
    rw [hd] at hc
    have HC := Lib.hid hc
    clear e0 e1 hd hc
    go_enter Try.func89, Try.ntmps89
    go_wp2_with ((go_at_call 133; refine HC.out.mono ?_; rintro e w2 ⟨rfl, hb2⟩))
    go_ret
    exact ⟨rfl, hb2⟩
  · have e1 : mBest 5 a b = b := by rw [e0, hd]; rfl
    rw [e1]
    have hc := less_better b a w
    rw [hd] at hc
    have HC := Lib.hid hc
    clear e0 e1 hd hc
    go_enter Try.func89, Try.ntmps89
    go_wp2_with ((go_at_call 133; refine HC.out.mono ?_; rintro e w2 ⟨rfl, hb2⟩))
    go_ret
    exact ⟨rfl, hb2⟩

theorem ij5 (a b : Int) (ha : 0 ≤ a ∧ a ≤ 100000) (hb : 0 ≤ b ∧ b ≤ 100000) (w : World) : Calls Try.prog 137 #[.agg #[], .int .i64 a, .int .i64 b] w fun e w' => e = .returned (.int .i64 (mJoin 5 a b)) ∧ Below w.heap.size w w' :=
  jsum a b ha.1 ha.2 hb.1 hb.2 w
theorem iExtend5 (a b : Int) (h : bTwo 5 a b = true) (w : World) : Calls Try.prog 32 #[.int .i64 5, .int .i64 a, .int .i64 b] w fun e w' => e = .returned (.tuple #[.int .i64 (mJoin 5 a b), .bool true]) ∧ Below w.heap.size w w' := by
  have hk := bTwo_of h
  have hA := mIn_low hk.1 hk.2.1
  have hB := mIn_low hk.1 hk.2.2
  have ha := Lib.hid (bTwo_yes h)
  have h1 := mj5
  clear h hk
  go_enter Try.func32, Try.ntmps32
  go_wp2_with (first | (go_at_call 64; refine (opsY5 [a, b] _ _ (row_two _ a b _) (by simp) ha.out).mono ?_; rintro e w1 ⟨rfl, hb1⟩) | (go_at_call 137; refine (ij5 a b hA hB _).mono ?_; rintro e w2 ⟨rfl, hb2⟩))
  go_ret2
  exact ⟨rfl, bel_trans (bel_trans ((Below.refl _ _).alloc (Nat.le_refl _) _) hb1) hb2⟩

theorem iExtend (m a b : Int) (w : World) : Calls Try.prog 32 #[.int .i64 m, .int .i64 a, .int .i64 b] w fun e w' => e = .returned (.tuple #[.int .i64 (rExt m a b), .bool (bTwo m a b)]) ∧ Below w.heap.size w w' := by
  cases h : bTwo m a b
  · have e1 : rExt m a b = 0 := by unfold rExt; rw [h]; rfl
    rw [e1]
    have HM := Lib.hid h
    clear h e1
    go_enter Try.func32, Try.ntmps32
    go_wp2_with (go_at_call 64; refine (opsN2 HM.out _ _ (row_two _ a b _)).mono ?_; rintro e w1 ⟨rfl, hb1⟩)
    go_ret2
    exact ⟨rfl, bel_trans ((Below.refl _ _).alloc (Nat.le_refl _) _) hb1⟩
  · have e1 : rExt m a b = mJoin m a b := by unfold rExt; rw [h]; rfl
    rw [e1]
    rcases mKind_cases (bTwo_of h).1 with rfl | rfl | rfl | rfl | rfl
    · exact iExtend1 a b h w
    · exact iExtend2 a b h w
    · exact iExtend3 a b h w
    · exact iExtend4 a b h w
    · exact iExtend5 a b h w

theorem iIsBetter (m a b : Int) (w : World) : Calls Try.prog 28 #[.int .i64 m, .int .i64 a, .int .i64 b] w fun e w' => e = .returned (.bool (bBet m a b)) ∧ Below w.heap.size w w' := by
  cases h : bTwo m a b
  · have e1 : bBet m a b = false := by unfold bBet; rw [h]; rfl
    rw [e1]
    have HM := Lib.hid h
    clear h e1
    go_enter Try.func28, Try.ntmps28
    go_wp2_with (go_at_call 64; refine (opsN2 HM.out _ _ (row_two _ a b _)).mono ?_; rintro e w1 ⟨rfl, hb1⟩)
    go_ret
    exact ⟨rfl, bel_trans ((Below.refl _ _).alloc (Nat.le_refl _) _) hb1⟩
  · have e1 : bBet m a b = mBet m a b := by unfold bBet; rw [h]; rfl
    rw [e1]
    rcases mKind_cases (bTwo_of h).1 with rfl | rfl | rfl | rfl | rfl
    · exact iIsBetter1 a b h w
    · exact iIsBetter2 a b h w
    · exact iIsBetter3 a b h w
    · exact iIsBetter4 a b h w
    · exact iIsBetter5 a b h w

end Go.Proofs.Ytbcbknebjbelmaa
