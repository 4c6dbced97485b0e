/- The exported functions of measures, case by case, and the algebra of measures. -/
import Derived.Test.YtmiomafgfeofnaaImpl2
import Derived.Test.YtmiomafgfeofnaaSpec2
namespace Go.Proofs.Ytmiomafgfeofnaa
open Go.RowKit Go.BigFrame
set_option linter.unusedVariables false
theorem iExtN {m a b : Int} (h : Hid (bTwo m a b = false)) (w : World) : Calls Try.prog 16 #[.int .i64 m, .int .i64 a, .int .i64 b] w fun e w' => e = .returned (.tuple #[.int .i64 0, .bool false]) ∧ Below w.heap.size w w' := by
  have hc := iExtend m a b w
  have e1 : rExt m a b = 0 := by unfold rExt; rw [h.out]; rfl
  rw [e1, h.out] at hc
  exact hc
theorem iExtY {m a b z : Int} (h : Hid (bTwo m a b = true)) (e : Hid (mJoin m a b = z)) (w : World) : Calls Try.prog 16 #[.int .i64 m, .int .i64 a, .int .i64 b] w fun e w' => e = .returned (.tuple #[.int .i64 z, .bool true]) ∧ Below w.heap.size w w' := by
  have hc := iExtend m a b w
  have e1 : rExt m a b = z := by unfold rExt; rw [h.out, ← e.out]; rfl
  rw [e1, h.out] at hc
  exact hc
theorem sExtN {m a b : Int} (h : Hid (bTwo m a b = false)) (w : World) : Calls Try.prog 17 #[.int .i64 m, .int .i64 a, .int .i64 b] w fun e w' => e = .returned (.tuple #[.int .i64 0, .bool false]) ∧ w = w' := by
  have hc := sExtend m a b w
  have e1 : rExt m a b = 0 := by unfold rExt; rw [h.out]; rfl
  rw [e1, h.out] at hc
  exact hc
theorem sExtY {m a b z : Int} (h : Hid (bTwo m a b = true)) (e : Hid (mJoin m a b = z)) (w : World) : Calls Try.prog 17 #[.int .i64 m, .int .i64 a, .int .i64 b] w fun e w' => e = .returned (.tuple #[.int .i64 z, .bool true]) ∧ w = w' := by
  have hc := sExtend m a b w
  have e1 : rExt m a b = z := by unfold rExt; rw [h.out, ← e.out]; rfl
  rw [e1, h.out] at hc
  exact hc
theorem iBestN {m a b : Int} (h : Hid (bTwo m a b = false)) (w : World) : Calls Try.prog 22 #[.int .i64 m, .int .i64 a, .int .i64 b] w fun e w' => e = .returned (.tuple #[.int .i64 0, .bool false]) ∧ Below w.heap.size w w' := by
  have hc := iBetterOf m a b w
  have e1 : rBest m a b = 0 := by unfold rBest; rw [h.out]; rfl
  rw [e1, h.out] at hc
  exact hc
theorem iBestY {m a b z : Int} (h : Hid (bTwo m a b = true)) (e : Hid (mBest m a b = z)) (w : World) : Calls Try.prog 22 #[.int .i64 m, .int .i64 a, .int .i64 b] w fun e w' => e = .returned (.tuple #[.int .i64 z, .bool true]) ∧ Below w.heap.size w w' := by
  have hc := iBetterOf m a b w
  have e1 : rBest m a b = z := by unfold rBest; rw [h.out, ← e.out]; rfl
  rw [e1, h.out] at hc
  exact hc
theorem sBestN {m a b : Int} (h : Hid (bTwo m a b = false)) (w : World) : Calls Try.prog 23 #[.int .i64 m, .int .i64 a, .int .i64 b] w fun e w' => e = .returned (.tuple #[.int .i64 0, .bool false]) ∧ w = w' := by
  have hc := sBetterOf m a b w
  have e1 : rBest m a b = 0 := by unfold rBest; rw [h.out]; rfl
  rw [e1, h.out] at hc
  exact hc
theorem sBestY {m a b z : Int} (h : Hid (bTwo m a b = true)) (e : Hid (mBest m a b = z)) (w : World) : Calls Try.prog 23 #[.int .i64 m, .int .i64 a, .int .i64 b] w fun e w' => e = .returned (.tuple #[.int .i64 z, .bool true]) ∧ w = w' := by
  have hc := sBetterOf m a b w
  have e1 : rBest m a b = z := by unfold rBest; rw [h.out, ← e.out]; rfl
  rw [e1, h.out] at hc
  exact hc
theorem iNoN {m : Int} (h : Hid (mKind m = false)) (w : World) : Calls Try.prog 24 #[.int .i64 m] w fun e w' => e = .returned (.tuple #[.int .i64 0, .bool false]) ∧ Below w.heap.size w w' := by
  have hc := iNoPath m w
  have e1 : rNo m = 0 := by unfold rNo; rw [h.out]; rfl
  rw [e1, h.out] at hc
  exact hc
theorem iNoY {m z : Int} (h : Hid (mKind m = true)) (e : Hid (mNone m = z)) (w : World) : Calls Try.prog 24 #[.int .i64 m] w fun e w' => e = .returned (.tuple #[.int .i64 z, .bool true]) ∧ Below w.heap.size w w' := by
  have hc := iNoPath m w
  have e1 : rNo m = z := by unfold rNo; rw [h.out, ← e.out]; rfl
  rw [e1, h.out] at hc
  exact hc
theorem sNoN {m : Int} (h : Hid (mKind m = false)) (w : World) : Calls Try.prog 31 #[.int .i64 m] w fun e w' => e = .returned (.tuple #[.int .i64 0, .bool false]) ∧ w = w' := by
  have hc := sNoPath m w
  have e1 : rNo m = 0 := by unfold rNo; rw [h.out]; rfl
  rw [e1, h.out] at hc
  exact hc
theorem sNoY {m z : Int} (h : Hid (mKind m = true)) (e : Hid (mNone m = z)) (w : World) : Calls Try.prog 31 #[.int .i64 m] w fun e w' => e = .returned (.tuple #[.int .i64 z, .bool true]) ∧ w = w' := by
  have hc := sNoPath m w
  have e1 : rNo m = z := by unfold rNo; rw [h.out, ← e.out]; rfl
  rw [e1, h.out] at hc
  exact hc
theorem iEmptyN {m : Int} (h : Hid (mKind m = false)) (w : World) : Calls Try.prog 18 #[.int .i64 m] w fun e w' => e = .returned (.tuple #[.int .i64 0, .bool false]) ∧ Below w.heap.size w w' := by
  have hc := iEmptyPath m w
  have e1 : rEmpty m = 0 := by unfold rEmpty; rw [h.out]; rfl
  rw [e1, h.out] at hc
  exact hc
theorem iEmptyY {m z : Int} (h : Hid (mKind m = true)) (e : Hid (mOne m = z)) (w : World) : Calls Try.prog 18 #[.int .i64 m] w fun e w' => e = .returned (.tuple #[.int .i64 z, .bool true]) ∧ Below w.heap.size w w' := by
  have hc := iEmptyPath m w
  have e1 : rEmpty m = z := by unfold rEmpty; rw [h.out, ← e.out]; rfl
  rw [e1, h.out] at hc
  exact hc
theorem sEmptyN {m : Int} (h : Hid (mKind m = false)) (w : World) : Calls Try.prog 34 #[.int .i64 m] w fun e w' => e = .returned (.tuple #[.int .i64 0, .bool false]) ∧ w = w' := by
  have hc := sEmptyPath m w
  have e1 : rEmpty m = 0 := by unfold rEmpty; rw [h.out]; rfl
  rw [e1, h.out] at hc
  exact hc
theorem sEmptyY {m z : Int} (h : Hid (mKind m = true)) (e : Hid (mOne m = z)) (w : World) : Calls Try.prog 34 #[.int .i64 m] w fun e w' => e = .returned (.tuple #[.int .i64 z, .bool true]) ∧ w = w' := by
  have hc := sEmptyPath m w
  have e1 : rEmpty m = z := by unfold rEmpty; rw [h.out, ← e.out]; rfl
  rw [e1, h.out] at hc
  exact hc
theorem iEdgeN {m x : Int} (h : Hid (bEdge m x = false)) (w : World) : Calls Try.prog 36 #[.int .i64 m, .int .i64 x] w fun e w' => e = .returned (.tuple #[.int .i64 0, .bool false]) ∧ Below w.heap.size w w' := by
  have hc := iEdgeMeasure m x w
  have e1 : rEdge m x = 0 := by unfold rEdge; rw [h.out]; rfl
  rw [e1, h.out] at hc
  exact hc
theorem iEdgeY {m x z : Int} (h : Hid (bEdge m x = true)) (e : Hid (mEdge m x = z)) (w : World) : Calls Try.prog 36 #[.int .i64 m, .int .i64 x] w fun e w' => e = .returned (.tuple #[.int .i64 z, .bool true]) ∧ Below w.heap.size w w' := by
  have hc := iEdgeMeasure m x w
  have e1 : rEdge m x = z := by unfold rEdge; rw [h.out, ← e.out]; rfl
  rw [e1, h.out] at hc
  exact hc
theorem sEdgeN {m x : Int} (h : Hid (bEdge m x = false)) (w : World) : Calls Try.prog 37 #[.int .i64 m, .int .i64 x] w fun e w' => e = .returned (.tuple #[.int .i64 0, .bool false]) ∧ w = w' := by
  have hc := sEdgeMeasure m x w
  have e1 : rEdge m x = 0 := by unfold rEdge; rw [h.out]; rfl
  rw [e1, h.out] at hc
  exact hc
theorem sEdgeY {m x z : Int} (h : Hid (bEdge m x = true)) (e : Hid (mEdge m x = z)) (w : World) : Calls Try.prog 37 #[.int .i64 m, .int .i64 x] w fun e w' => e = .returned (.tuple #[.int .i64 z, .bool true]) ∧ w = w' := by
  have hc := sEdgeMeasure m x w
  have e1 : rEdge m x = z := by unfold rEdge; rw [h.out, ← e.out]; rfl
  rw [e1, h.out] at hc
  exact hc
theorem iBetIs {m a b : Int} {c : Bool} (h : Hid (bBet m a b = c)) (w : World) : Calls Try.prog 20 #[.int .i64 m, .int .i64 a, .int .i64 b] w fun e w' => e = .returned (.bool c) ∧ Below w.heap.size w w' := by
  have hc := iIsBetter m a b w
  rw [h.out] at hc
  exact hc
theorem sBetIs {m a b : Int} {c : Bool} (h : Hid (bBet m a b = c)) (w : World) : Calls Try.prog 29 #[.int .i64 m, .int .i64 a, .int .i64 b] w fun e w' => e = .returned (.bool c) ∧ w = w' := by
  have hc := sIsBetter m a b w
  rw [h.out] at hc
  exact hc
theorem iValIs {m x : Int} {c : Bool} (h : Hid (mIs m x = c)) (w : World) : Calls Try.prog 19 #[.int .i64 m, .int .i64 x] w fun e w' => e = .returned (.bool c) ∧ Below w.heap.size w w' := by
  have hc := iValueValid m x w
  rw [h.out] at hc
  exact hc
theorem iKind (m : Int) (w : World) : Calls Try.prog 33 #[.int .i64 m] w fun e w' => e = .returned (.bool (mKind m)) ∧ w = w' := by
  by_cases h1 : 1 ≤ m
  · by_cases h2 : m ≤ 5
    · have e1 : mKind m = true := by simp [mKind, h1, h2]
      rw [e1]
      clear e1
      go_enter Try.func33, Try.ntmps33
      go_wp2
      go_ret
      exact ⟨rfl, rfl⟩
    · have e1 : mKind m = false := by simp [mKind, h1, h2]
      rw [e1]
      clear e1
      go_enter Try.func33, Try.ntmps33
      go_wp2
      go_ret
      exact ⟨rfl, rfl⟩
  · have e1 : mKind m = false := by simp [mKind, h1]
    rw [e1]
    clear e1
    go_enter Try.func33, Try.ntmps33
    go_wp2
    go_ret
    exact ⟨rfl, rfl⟩
theorem iKindIs {m : Int} {c : Bool} (h : Hid (mKind m = c)) (w : World) : Calls Try.prog 33 #[.int .i64 m] w fun e w' => e = .returned (.bool c) ∧ w = w' := by
  have hc := iKind m w
  rw [h.out] at hc
  exact hc

/-! the algebra -/
theorem mIs_in {m v : Int} (h : mIs m v = true) : mIn m v = true := by simp [mIs] at h; exact h.2
theorem mIs_kind {m v : Int} (h : mIs m v = true) : mKind m = true := by simp [mIs] at h; exact h.1
theorem mIs_mk {m v : Int} (hm : mKind m = true) (h : mIn m v = true) : mIs m v = true := by simp [mIs, hm, h]
theorem mTwo {m a b : Int} (hm : mKind m = true) (ha : mIn m a = true) (hb : mIn m b = true) : bTwo m a b = true := by simp [bTwo, mIs, hm, ha, hb]
theorem mOneIn {m : Int} (hm : mKind m = true) : mIn m (mOne m) = true := by
  rcases mKind_cases hm with rfl | rfl | rfl | rfl | rfl <;> decide
theorem mNoneIn {m : Int} (hm : mKind m = true) : mIn m (mNone m) = true := by
  rcases mKind_cases hm with rfl | rfl | rfl | rfl | rfl <;> decide
theorem mJoinIn {m a b : Int} (hm : mKind m = true) (ha : mIn m a = true) (hb : mIn m b = true) : mIn m (mJoin m a b) = true := by
  rcases mKind_cases hm with rfl | rfl | rfl | rfl | rfl <;> simp [mIn, mBet, mNone, mOne, mJoin] at * <;> omega
theorem mJoin_oneL {m a : Int} (hm : mKind m = true) (ha : mIn m a = true) : mJoin m (mOne m) a = a := by
  rcases mKind_cases hm with rfl | rfl | rfl | rfl | rfl <;> simp [mIn, mBet, mNone, mOne, mJoin] at * <;> omega
theorem mJoin_oneR {m a : Int} (hm : mKind m = true) (ha : mIn m a = true) : mJoin m a (mOne m) = a := by
  rcases mKind_cases hm with rfl | rfl | rfl | rfl | rfl <;> simp [mIn, mBet, mNone, mOne, mJoin] at * <;> omega
theorem mJoin_noneL {m a : Int} (hm : mKind m = true) (ha : mIn m a = true) : mJoin m (mNone m) a = mNone m := by
  rcases mKind_cases hm with rfl | rfl | rfl | rfl | rfl <;> simp [mIn, mBet, mNone, mOne, mJoin] at * <;> omega
theorem mJoin_noneR {m a : Int} (hm : mKind m = true) (ha : mIn m a = true) : mJoin m a (mNone m) = mNone m := by
  rcases mKind_cases hm with rfl | rfl | rfl | rfl | rfl <;> simp [mIn, mBet, mNone, mOne, mJoin] at * <;> omega
theorem mJoin_assoc {m a b c : Int} (hm : mKind m = true) (ha : mIn m a = true) (hb : mIn m b = true) (hc : mIn m c = true) : mJoin m (mJoin m a b) c = mJoin m a (mJoin m b c) := by
  rcases mKind_cases hm with rfl | rfl | rfl | rfl | rfl <;> simp [mIn, mBet, mNone, mOne, mJoin] at * <;> omega
theorem mJoin_worseL {m a b : Int} (hm : mKind m = true) (ha : mIn m a = true) (hb : mIn m b = true) : mBet m (mJoin m a b) a = false := by
  rcases mKind_cases hm with rfl | rfl | rfl | rfl | rfl <;> simp [mIn, mBet, mNone, mOne, mJoin] at * <;> omega
theorem mJoin_worseR {m a b : Int} (hm : mKind m = true) (ha : mIn m a = true) (hb : mIn m b = true) : mBet m (mJoin m a b) b = false := by
  rcases mKind_cases hm with rfl | rfl | rfl | rfl | rfl <;> simp [mIn, mBet, mNone, mOne, mJoin] at * <;> omega
theorem mJoin_mono {m a b c : Int} (hm : mKind m = true) (ha : mIn m a = true) (hb : mIn m b = true) (hc : mIn m c = true) (h : mBet m c a = false) : mBet m (mJoin m c b) (mJoin m a b) = false := by
  rcases mKind_cases hm with rfl | rfl | rfl | rfl | rfl <;> simp [mIn, mBet, mNone, mOne, mJoin] at * <;> omega
theorem mBest_comm {m a b : Int} (hm : mKind m = true) : mBest m b a = mBest m a b := by
  rcases mKind_cases hm with rfl | rfl | rfl | rfl | rfl <;> simp [mBet, mBest] <;> (repeat' split) <;> omega
theorem mBest_or {m a b : Int} : mBest m a b = a ∨ mBest m a b = b := by
  unfold mBest; split
  · exact .inr rfl
  · exact .inl rfl
theorem mBest_bestL {m a b : Int} (hm : mKind m = true) : mBet m a (mBest m a b) = false := by
  rcases mKind_cases hm with rfl | rfl | rfl | rfl | rfl <;> simp [mBet, mBest] <;> (repeat' split) <;> omega
theorem mBest_bestR {m a b : Int} (hm : mKind m = true) : mBet m b (mBest m a b) = false := by
  rcases mKind_cases hm with rfl | rfl | rfl | rfl | rfl <;> simp [mBet, mBest] <;> (repeat' split) <;> omega
theorem mBest_none {m a : Int} (hm : mKind m = true) (ha : mIn m a = true) : mBest m a (mNone m) = a := by
  rcases mKind_cases hm with rfl | rfl | rfl | rfl | rfl <;> simp [mIn, mBet, mBest, mNone, mOne] at * <;> omega
theorem mBestIn {m a b : Int} (ha : mIn m a = true) (hb : mIn m b = true) : mIn m (mBest m a b) = true := by
  rcases mBest_or (m := m) (a := a) (b := b) with h | h <;> rw [h] <;> assumption
theorem mDistribute {m a b c : Int} (hm : mKind m = true) (ha : mIn m a = true) (hb : mIn m b = true) (hc : mIn m c = true) : mBest m (mJoin m a c) (mJoin m b c) = mJoin m (mBest m a b) c := by
  rcases mKind_cases hm with rfl | rfl | rfl | rfl | rfl <;> simp [mIn, mBet, mBest, mNone, mOne, mJoin] at * <;> (repeat' split) <;> omega
theorem mBet_irrefl {m a b : Int} (h : mBet m a b = true) : mBet m b a = false := by
  unfold mBet at *; split at h <;> simp_all <;> omega
theorem mBet_total {m a b : Int} (h : mBet m a b = false) (h2 : mBet m b a = false) : a = b := by
  unfold mBet at *; split at h <;> simp_all <;> omega
theorem mBet_trans {m a b c : Int} (h : mBet m a b = true) (h2 : mBet m b c = true) : mBet m a c = true := by
  unfold mBet at *; split at h <;> simp_all <;> omega
theorem mOne_best {m a : Int} (ha : mIn m a = true) : mBet m a (mOne m) = false := by simp [mIn] at ha; exact ha.2
theorem mNone_worst {m a : Int} (ha : mIn m a = true) : mBet m (mNone m) a = false := by simp [mIn] at ha; exact ha.1
theorem mNone_strict {m a : Int} (hm : mKind m = true) (ha : mIn m a = true) (h : a ≠ mNone m) : mBet m a (mNone m) = true := by
  rcases mKind_cases hm with rfl | rfl | rfl | rfl | rfl <;> simp [mIn, mBet, mNone, mOne] at * <;> omega
theorem mBet_self {m a : Int} : mBet m a a = false := by unfold mBet; split <;> simp
theorem bBet_no {m a b : Int} (h : bTwo m a b = false) : bBet m a b = false := by simp [bBet, h]
theorem bTwo_noL {m a b : Int} (h : mIs m a = false) : bTwo m a b = false := by simp [bTwo, h]
theorem bTwo_noR {m a b : Int} (h : mIs m b = false) : bTwo m a b = false := by simp [bTwo, h]
theorem bTwo_is {m a b : Int} (h : mIs m a = true) (h2 : mIs m b = true) : bTwo m a b = true := by simp [bTwo, h, h2]
theorem mIs_kindN {m v : Int} (h : mKind m = false) : mIs m v = false := by simp [mIs, h]
theorem bBet_of {m a b : Int} {c : Bool} (h : bTwo m a b = true) (h2 : mBet m a b = c) : bBet m a b = c := by simp [bBet, h, h2]
theorem bTwo_swap {m a b : Int} {c : Bool} (h : bTwo m a b = c) : bTwo m b a = c := by rw [← h]; unfold bTwo; exact Bool.and_comm _ _
end Go.Proofs.Ytmiomafgfeofnaa
