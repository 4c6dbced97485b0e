/- More of the measures' mathematics. -/
import Derived.Test.YtdilimdicanbjaaMath
namespace Go.Proofs.Ytdilimdicanbjaa
open Go.RowKit
set_option linter.unusedVariables false
set_option linter.unusedSimpArgs false

theorem mEdge_in {m x : Int} (hm : mKind m = true) (h : mWeight x = true) : mIn m (mEdge m x) = true := by
  simp [mWeight] at h
  rcases mKind_cases hm with rfl | rfl | rfl | rfl | rfl <;> simp [mIn, mBet, mNone, mOne, mEdge] <;> omega

theorem mJoin_in {m a b : Int} (hm : mKind m = true) (ha : mIn m a = true) (hb : mIn m b = true) : mIn m (mJoin m a b) = true := by
  rcases mKind_cases hm with rfl | rfl | rfl | rfl | rfl <;> simp [mIn, mBet, mNone, mOne, mJoin] at * <;> omega

theorem mOne_in {m : Int} (hm : mKind m = true) : mIn m (mOne m) = true := by
  rcases mKind_cases hm with rfl | rfl | rfl | rfl | rfl <;> decide

theorem bTwo_mk {m a b : Int} (hm : mKind m = true) (ha : mIn m a = true) (hb : mIn m b = true) : bTwo m a b = true := by simp [bTwo, mIs, hm, ha, hb]

end Go.Proofs.Ytdilimdicanbjaa
