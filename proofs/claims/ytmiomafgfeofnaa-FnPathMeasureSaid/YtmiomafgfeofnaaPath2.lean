/- The measure of a path: the program's and the model's functions, whole. -/
import Derived.Test.YtmiomafgfeofnaaPath
namespace Go.Proofs.Ytmiomafgfeofnaa
open Go.RowKit Go.BigFrame
set_option linter.unusedVariables false

theorem iPathLong1 (zs : List Int) (s : Value) (w : World) (hr : Row w s zs) (hl : 50 < zs.length) :
    Calls Try.prog 26 #[.int .i64 1, s] w fun e w' => e = .returned (.tuple #[.int .i64 0, .bool false]) ∧ Below w.heap.size w w' := by
  obtain ⟨a, cap, rfl, hz0⟩ := hr
  clear hz0
  go_enter Try.func26, Try.ntmps26
  go_wp2_with (first | (go_at_call 40; refine (opsY1 [] _ _ (row_nil _) (by simp) rfl).mono ?_; rintro e w1 ⟨rfl, hb1⟩))
  go_ret2
  exact ⟨rfl, hb1⟩
theorem iPathBad1 (zs : List Int) (s : Value) (w : World) (hr : Row w s zs) (hl : zs.length ≤ 50) (HA : Hid (zs.all mWeight = false)) :
    Calls Try.prog 26 #[.int .i64 1, s] w fun e w' => e = .returned (.tuple #[.int .i64 0, .bool false]) ∧ Below w.heap.size w w' := by
  obtain ⟨a, cap, hs, hz0⟩ := id hr
  subst hs
  clear hz0
  have HR := Lib.hid hr
  clear hr
  go_enter Try.func26, Try.ntmps26
  go_wp2_with (first | (go_at_call 40; refine (opsY1 [] _ _ (row_nil _) (by simp) rfl).mono ?_; rintro e w1 ⟨rfl, hb1⟩) | (go_at_call 49; refine (iWeightsIs HA (Row.below HR.out hb1) (by omega)).mono ?_; rintro e w2 ⟨rfl, rfl⟩))
  go_ret2
  exact ⟨rfl, hb1⟩
theorem iPathGood1 (zs : List Int) (s : Value) (w : World) (hr : Row w s zs) (hl : zs.length ≤ 50) (HA : Hid (zs.all mWeight = true)) :
    Calls Try.prog 26 #[.int .i64 1, s] w fun e w' => e = .returned (.tuple #[.int .i64 (mPath 1 0 zs), .bool true]) ∧ Below w.heap.size w w' := by
  obtain ⟨a, cap, hs, hz0⟩ := id hr
  subst hs
  clear hz0
  have HR := Lib.hid hr
  clear hr
  go_enter Try.func26, Try.ntmps26
  go_wp2_with (first | (go_at_call 40; refine (opsY1 [] _ _ (row_nil _) (by simp) rfl).mono ?_; rintro e w1 ⟨rfl, hb1⟩) | (go_at_call 49; refine (iWeightsIs HA (Row.below HR.out hb1) (by omega)).mono ?_; rintro e w2 ⟨rfl, rfl⟩) | (go_at_call 50; refine (iOfEdges1 zs _ _ (Row.below HR.out hb1) hl HA.out).mono ?_; rintro e w3 ⟨rfl, hb3⟩))
  go_ret2
  exact ⟨rfl, bel_trans hb1 hb3⟩

theorem iPathLong2 (zs : List Int) (s : Value) (w : World) (hr : Row w s zs) (hl : 50 < zs.length) :
    Calls Try.prog 26 #[.int .i64 2, s] w fun e w' => e = .returned (.tuple #[.int .i64 0, .bool false]) ∧ Below w.heap.size w w' := by
  obtain ⟨a, cap, rfl, hz0⟩ := hr
  clear hz0
  go_enter Try.func26, Try.ntmps26
  go_wp2_with (first | (go_at_call 40; refine (opsY2 [] _ _ (row_nil _) (by simp) rfl).mono ?_; rintro e w1 ⟨rfl, hb1⟩))
  go_ret2
  exact ⟨rfl, hb1⟩
theorem iPathBad2 (zs : List Int) (s : Value) (w : World) (hr : Row w s zs) (hl : zs.length ≤ 50) (HA : Hid (zs.all mWeight = false)) :
    Calls Try.prog 26 #[.int .i64 2, s] w fun e w' => e = .returned (.tuple #[.int .i64 0, .bool false]) ∧ Below w.heap.size w w' := by
  obtain ⟨a, cap, hs, hz0⟩ := id hr
  subst hs
  clear hz0
  have HR := Lib.hid hr
  clear hr
  go_enter Try.func26, Try.ntmps26
  go_wp2_with (first | (go_at_call 40; refine (opsY2 [] _ _ (row_nil _) (by simp) rfl).mono ?_; rintro e w1 ⟨rfl, hb1⟩) | (go_at_call 49; refine (iWeightsIs HA (Row.below HR.out hb1) (by omega)).mono ?_; rintro e w2 ⟨rfl, rfl⟩))
  go_ret2
  exact ⟨rfl, hb1⟩
theorem iPathGood2 (zs : List Int) (s : Value) (w : World) (hr : Row w s zs) (hl : zs.length ≤ 50) (HA : Hid (zs.all mWeight = true)) :
    Calls Try.prog 26 #[.int .i64 2, s] w fun e w' => e = .returned (.tuple #[.int .i64 (mPath 2 100000 zs), .bool true]) ∧ Below w.heap.size w w' := by
  obtain ⟨a, cap, hs, hz0⟩ := id hr
  subst hs
  clear hz0
  have HR := Lib.hid hr
  clear hr
  go_enter Try.func26, Try.ntmps26
  go_wp2_with (first | (go_at_call 40; refine (opsY2 [] _ _ (row_nil _) (by simp) rfl).mono ?_; rintro e w1 ⟨rfl, hb1⟩) | (go_at_call 49; refine (iWeightsIs HA (Row.below HR.out hb1) (by omega)).mono ?_; rintro e w2 ⟨rfl, rfl⟩) | (go_at_call 50; refine (iOfEdges2 zs _ _ (Row.below HR.out hb1) hl HA.out).mono ?_; rintro e w3 ⟨rfl, hb3⟩))
  go_ret2
  exact ⟨rfl, bel_trans hb1 hb3⟩

theorem iPathLong3 (zs : List Int) (s : Value) (w : World) (hr : Row w s zs) (hl : 50 < zs.length) :
    Calls Try.prog 26 #[.int .i64 3, s] w fun e w' => e = .returned (.tuple #[.int .i64 0, .bool false]) ∧ Below w.heap.size w w' := by
  obtain ⟨a, cap, rfl, hz0⟩ := hr
  clear hz0
  go_enter Try.func26, Try.ntmps26
  go_wp2_with (first | (go_at_call 40; refine (opsY3 [] _ _ (row_nil _) (by simp) rfl).mono ?_; rintro e w1 ⟨rfl, hb1⟩))
  go_ret2
  exact ⟨rfl, hb1⟩
theorem iPathBad3 (zs : List Int) (s : Value) (w : World) (hr : Row w s zs) (hl : zs.length ≤ 50) (HA : Hid (zs.all mWeight = false)) :
    Calls Try.prog 26 #[.int .i64 3, s] w fun e w' => e = .returned (.tuple #[.int .i64 0, .bool false]) ∧ Below w.heap.size w w' := by
  obtain ⟨a, cap, hs, hz0⟩ := id hr
  subst hs
  clear hz0
  have HR := Lib.hid hr
  clear hr
  go_enter Try.func26, Try.ntmps26
  go_wp2_with (first | (go_at_call 40; refine (opsY3 [] _ _ (row_nil _) (by simp) rfl).mono ?_; rintro e w1 ⟨rfl, hb1⟩) | (go_at_call 49; refine (iWeightsIs HA (Row.below HR.out hb1) (by omega)).mono ?_; rintro e w2 ⟨rfl, rfl⟩))
  go_ret2
  exact ⟨rfl, hb1⟩
theorem iPathGood3 (zs : List Int) (s : Value) (w : World) (hr : Row w s zs) (hl : zs.length ≤ 50) (HA : Hid (zs.all mWeight = true)) :
    Calls Try.prog 26 #[.int .i64 3, s] w fun e w' => e = .returned (.tuple #[.int .i64 (mPath 3 0 zs), .bool true]) ∧ Below w.heap.size w w' := by
  obtain ⟨a, cap, hs, hz0⟩ := id hr
  subst hs
  clear hz0
  have HR := Lib.hid hr
  clear hr
  go_enter Try.func26, Try.ntmps26
  go_wp2_with (first | (go_at_call 40; refine (opsY3 [] _ _ (row_nil _) (by simp) rfl).mono ?_; rintro e w1 ⟨rfl, hb1⟩) | (go_at_call 49; refine (iWeightsIs HA (Row.below HR.out hb1) (by omega)).mono ?_; rintro e w2 ⟨rfl, rfl⟩) | (go_at_call 50; refine (iOfEdges3 zs _ _ (Row.below HR.out hb1) hl HA.out).mono ?_; rintro e w3 ⟨rfl, hb3⟩))
  go_ret2
  exact ⟨rfl, bel_trans hb1 hb3⟩

theorem iPathLong4 (zs : List Int) (s : Value) (w : World) (hr : Row w s zs) (hl : 50 < zs.length) :
    Calls Try.prog 26 #[.int .i64 4, s] w fun e w' => e = .returned (.tuple #[.int .i64 0, .bool false]) ∧ Below w.heap.size w w' := by
  obtain ⟨a, cap, rfl, hz0⟩ := hr
  clear hz0
  go_enter Try.func26, Try.ntmps26
  go_wp2_with (first | (go_at_call 40; refine (opsY4 [] _ _ (row_nil _) (by simp) rfl).mono ?_; rintro e w1 ⟨rfl, hb1⟩))
  go_ret2
  exact ⟨rfl, hb1⟩
theorem iPathBad4 (zs : List Int) (s : Value) (w : World) (hr : Row w s zs) (hl : zs.length ≤ 50) (HA : Hid (zs.all mWeight = false)) :
    Calls Try.prog 26 #[.int .i64 4, s] w fun e w' => e = .returned (.tuple #[.int .i64 0, .bool false]) ∧ Below w.heap.size w w' := by
  obtain ⟨a, cap, hs, hz0⟩ := id hr
  subst hs
  clear hz0
  have HR := Lib.hid hr
  clear hr
  go_enter Try.func26, Try.ntmps26
  go_wp2_with (first | (go_at_call 40; refine (opsY4 [] _ _ (row_nil _) (by simp) rfl).mono ?_; rintro e w1 ⟨rfl, hb1⟩) | (go_at_call 49; refine (iWeightsIs HA (Row.below HR.out hb1) (by omega)).mono ?_; rintro e w2 ⟨rfl, rfl⟩))
  go_ret2
  exact ⟨rfl, hb1⟩
theorem iPathGood4 (zs : List Int) (s : Value) (w : World) (hr : Row w s zs) (hl : zs.length ≤ 50) (HA : Hid (zs.all mWeight = true)) :
    Calls Try.prog 26 #[.int .i64 4, s] w fun e w' => e = .returned (.tuple #[.int .i64 (mPath 4 1 zs), .bool true]) ∧ Below w.heap.size w w' := by
  obtain ⟨a, cap, hs, hz0⟩ := id hr
  subst hs
  clear hz0
  have HR := Lib.hid hr
  clear hr
  go_enter Try.func26, Try.ntmps26
  go_wp2_with (first | (go_at_call 40; refine (opsY4 [] _ _ (row_nil _) (by simp) rfl).mono ?_; rintro e w1 ⟨rfl, hb1⟩) | (go_at_call 49; refine (iWeightsIs HA (Row.below HR.out hb1) (by omega)).mono ?_; rintro e w2 ⟨rfl, rfl⟩) | (go_at_call 50; refine (iOfEdges4 zs _ _ (Row.below HR.out hb1) hl HA.out).mono ?_; rintro e w3 ⟨rfl, hb3⟩))
  go_ret2
  exact ⟨rfl, bel_trans hb1 hb3⟩

theorem iPathLong5 (zs : List Int) (s : Value) (w : World) (hr : Row w s zs) (hl : 50 < zs.length) :
    Calls Try.prog 26 #[.int .i64 5, s] w fun e w' => e = .returned (.tuple #[.int .i64 0, .bool false]) ∧ Below w.heap.size w w' := by
  obtain ⟨a, cap, rfl, hz0⟩ := hr
  clear hz0
  go_enter Try.func26, Try.ntmps26
  go_wp2_with (first | (go_at_call 40; refine (opsY5 [] _ _ (row_nil _) (by simp) rfl).mono ?_; rintro e w1 ⟨rfl, hb1⟩))
  go_ret2
  exact ⟨rfl, hb1⟩
theorem iPathBad5 (zs : List Int) (s : Value) (w : World) (hr : Row w s zs) (hl : zs.length ≤ 50) (HA : Hid (zs.all mWeight = false)) :
    Calls Try.prog 26 #[.int .i64 5, s] w fun e w' => e = .returned (.tuple #[.int .i64 0, .bool false]) ∧ Below w.heap.size w w' := by
  obtain ⟨a, cap, hs, hz0⟩ := id hr
  subst hs
  clear hz0
  have HR := Lib.hid hr
  clear hr
  go_enter Try.func26, Try.ntmps26
  go_wp2_with (first | (go_at_call 40; refine (opsY5 [] _ _ (row_nil _) (by simp) rfl).mono ?_; rintro e w1 ⟨rfl, hb1⟩) | (go_at_call 49; refine (iWeightsIs HA (Row.below HR.out hb1) (by omega)).mono ?_; rintro e w2 ⟨rfl, rfl⟩))
  go_ret2
  exact ⟨rfl, hb1⟩
theorem iPathGood5 (zs : List Int) (s : Value) (w : World) (hr : Row w s zs) (hl : zs.length ≤ 50) (HA : Hid (zs.all mWeight = true)) :
    Calls Try.prog 26 #[.int .i64 5, s] w fun e w' => e = .returned (.tuple #[.int .i64 (mPath 5 0 zs), .bool true]) ∧ Below w.heap.size w w' := by
  obtain ⟨a, cap, hs, hz0⟩ := id hr
  subst hs
  clear hz0
  have HR := Lib.hid hr
  clear hr
  go_enter Try.func26, Try.ntmps26
  go_wp2_with (first | (go_at_call 40; refine (opsY5 [] _ _ (row_nil _) (by simp) rfl).mono ?_; rintro e w1 ⟨rfl, hb1⟩) | (go_at_call 49; refine (iWeightsIs HA (Row.below HR.out hb1) (by omega)).mono ?_; rintro e w2 ⟨rfl, rfl⟩) | (go_at_call 50; refine (iOfEdges5 zs _ _ (Row.below HR.out hb1) hl HA.out).mono ?_; rintro e w3 ⟨rfl, hb3⟩))
  go_ret2
  exact ⟨rfl, bel_trans hb1 hb3⟩

theorem iPathMeasure (m : Int) (zs : List Int) (s : Value) (w : World) (hr : Row w s zs) (hl : zs.length ≤ 1048576) :
    Calls Try.prog 26 #[.int .i64 m, s] w fun e w' => e = .returned (.tuple #[.int .i64 (rPath m zs), .bool (bPath m zs)]) ∧ Below w.heap.size w w' := by
  have hno : bPath m zs = false → rPath m zs = 0 := fun h => by unfold rPath; rw [h]; rfl
  cases hm : mKind m
  · have hb : bPath m zs = false := by simp [bPath, hm]
    rw [hno hb, hb]
    obtain ⟨a, cap, hs, hz0⟩ := id hr
    subst hs
    have HM := Lib.hid hm
    clear hz0 hm hno hb hr
    go_enter Try.func26, Try.ntmps26
    go_wp2_with (first | (go_at_call 40; refine (opsFor_no m HM.out _ _).mono ?_; rintro e w1 ⟨rfl, hb1⟩))
    go_ret2
    exact ⟨rfl, hb1⟩
  · by_cases h50 : zs.length ≤ 50
    · cases ha : zs.all mWeight
      · have hb : bPath m zs = false := by simp [bPath, ha]
        rw [hno hb, hb]
        rcases mKind_cases hm with rfl | rfl | rfl | rfl | rfl
        · exact iPathBad1 zs s w hr h50 ha
        · exact iPathBad2 zs s w hr h50 ha
        · exact iPathBad3 zs s w hr h50 ha
        · exact iPathBad4 zs s w hr h50 ha
        · exact iPathBad5 zs s w hr h50 ha
      · have hb : bPath m zs = true := by simp [bPath, ha, hm, h50]
        have hr0 : rPath m zs = mPath m (mOne m) zs := by unfold rPath; rw [hb]; rfl
        rw [hr0, hb]
        rcases mKind_cases hm with rfl | rfl | rfl | rfl | rfl
        · exact iPathGood1 zs s w hr h50 ha
        · exact iPathGood2 zs s w hr h50 ha
        · exact iPathGood3 zs s w hr h50 ha
        · exact iPathGood4 zs s w hr h50 ha
        · exact iPathGood5 zs s w hr h50 ha
    · have hb : bPath m zs = false := by simp [bPath, h50]
      rw [hno hb, hb]
      rcases mKind_cases hm with rfl | rfl | rfl | rfl | rfl
      · exact iPathLong1 zs s w hr (by omega)
      · exact iPathLong2 zs s w hr (by omega)
      · exact iPathLong3 zs s w hr (by omega)
      · exact iPathLong4 zs s w hr (by omega)
      · exact iPathLong5 zs s w hr (by omega)

theorem sPathMeasure (m : Int) (zs : List Int) (s : Value) (w : World) (hr : Row w s zs) (hl : zs.length ≤ 1048576) :
    Calls Try.prog 27 #[.int .i64 m, s] w fun e w' => e = .returned (.tuple #[.int .i64 (rPath m zs), .bool (bPath m zs)]) ∧ w = w' := by
  have hno : bPath m zs = false → rPath m zs = 0 := fun h => by unfold rPath; rw [h]; rfl
  cases hm : mKind m
  · have hb : bPath m zs = false := by simp [bPath, hm]
    rw [hno hb, hb]
    obtain ⟨a, cap, hs, hz0⟩ := id hr
    subst hs
    have HM := Lib.hid hm
    clear hz0 hm hno hb hr
    go_enter Try.func27, Try.ntmps27
    go_wp2_with (first | (go_at_call 38; refine (sKindIs HM _).mono ?_; rintro e w1 ⟨rfl, rfl⟩))
    go_ret2
    exact ⟨rfl, rfl⟩
  · by_cases h50 : zs.length ≤ 50
    · exact sPathMeasure_yes hm zs s w hr h50
    · have hb : bPath m zs = false := by simp [bPath, h50]
      rw [hno hb, hb]
      obtain ⟨a, cap, hs, hz0⟩ := id hr
      subst hs
      have HM := Lib.hid hm
      have h50' : 50 < zs.length := by omega
      clear hz0 hm hno hb hr h50
      go_enter Try.func27, Try.ntmps27
      go_wp2_with (first | (go_at_call 38; refine (sKindIs HM _).mono ?_; rintro e w1 ⟨rfl, rfl⟩))
      go_ret2
      exact ⟨rfl, rfl⟩
end Go.Proofs.Ytmiomafgfeofnaa
