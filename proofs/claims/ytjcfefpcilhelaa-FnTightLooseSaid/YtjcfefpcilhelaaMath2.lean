/- Plain mathematics of measures of paths: nothing of the program is imported. More of the measures' mathematics. -/
import Derived.WalkKit
namespace Go.Proofs.Ytjcfefpcilhelaa
set_option linter.unusedVariables false
set_option linter.unusedSimpArgs false

/-- The measure of no path. -/
def mNone (m : Int) : Int := if m = 2 ∨ m = 4 then 0 else 100000
/-- The measure of a path without edges. -/
def mOne (m : Int) : Int := if m = 2 then 100000 else if m = 4 then 1 else 0
/-- Is a better than b? -/
def mBet (m a b : Int) : Bool := if m = 2 ∨ m = 4 then decide (b < a) else decide (a < b)
/-- The measure of an edge. -/
def mEdge (m w : Int) : Int := if m = 4 ∨ m = 5 then 1 else w
/-- Two paths, one behind the other. -/
def mJoin (m a b : Int) : Int := if m = 1 ∨ m = 5 then min (a + b) 100000 else if m = 3 then max a b else min a b
/-- A kind of measures. -/
def mKind (m : Int) : Bool := decide (1 ≤ m) && decide (m ≤ 5)
/-- Is v between the measures of no path and of the empty path? -/
def mIn (m v : Int) : Bool := !(mBet m (mNone m) v) && !(mBet m v (mOne m))
/-- A measure of a kind. -/
def mIs (m v : Int) : Bool := mKind m && mIn m v
/-- A weight. -/
def mWeight (w : Int) : Bool := decide (1 ≤ w) && decide (w ≤ 999)

theorem mKind_cases {m : Int} (h : mKind m = true) : m = 1 ∨ m = 2 ∨ m = 3 ∨ m = 4 ∨ m = 5 := by
  simp [mKind] at h
  omega
theorem mKind_not {m : Int} (h : mKind m = false) : m < 1 ∨ 5 < m := by
  simp [mKind] at h
  omega

/-! what the exported functions answer -/
def rNo (m : Int) : Int := if mKind m = true then mNone m else 0
def rEmpty (m : Int) : Int := if mKind m = true then mOne m else 0
def bEdge (m w : Int) : Bool := mKind m && mWeight w
def rEdge (m w : Int) : Int := if bEdge m w = true then mEdge m w else 0
def bTwo (m a b : Int) : Bool := mIs m a && mIs m b
def mBest (m a b : Int) : Int := if mBet m b a = true then b else a
def rBest (m a b : Int) : Int := if bTwo m a b = true then mBest m a b else 0
def bBet (m a b : Int) : Bool := bTwo m a b && mBet m a b
def rExt (m a b : Int) : Int := if bTwo m a b = true then mJoin m a b else 0
def mPath (m : Int) (v : Int) (ws : List Int) : Int := ws.foldl (fun v w => mJoin m v (mEdge m w)) v
def bPath (m : Int) (ws : List Int) : Bool := mKind m && (decide (ws.length ≤ 50) && ws.all mWeight)
def rPath (m : Int) (ws : List Int) : Int := if bPath m ws = true then mPath m (mOne m) ws else 0

theorem mIn_low {m v : Int} (hm : mKind m = true) (h : mIn m v = true) : 0 ≤ v ∧ v ≤ 100000 := by
  rcases mKind_cases hm with rfl | rfl | rfl | rfl | rfl <;> simp [mIn, mBet, mNone, mOne] at h <;> omega
theorem bTwo_of {m a b : Int} (h : bTwo m a b = true) : mKind m = true ∧ mIn m a = true ∧ mIn m b = true := by
  simp [bTwo, mIs] at h
  exact ⟨h.1.1, h.1.2, h.2.2⟩
theorem bTwo_not {m a b : Int} (hm : mKind m = true) (h : bTwo m a b = false) : [a, b].all (mIn m) = false := by
  simp only [bTwo, mIs, hm, Bool.true_and] at h
  simpa using h
theorem bTwo_yes {m a b : Int} (h : bTwo m a b = true) : [a, b].all (mIn m) = true := by
  have := bTwo_of h
  simp [this.2.1, this.2.2]
theorem bTwo_kind {m a b : Int} (hm : mKind m = false) : bTwo m a b = false := by simp [bTwo, mIs, hm]
end Go.Proofs.Ytjcfefpcilhelaa
namespace Go.Proofs.Ytjcfefpcilhelaa
open Go.RowKit
set_option linter.unusedVariables false
set_option linter.unusedSimpArgs false

theorem mEdge_in {m x : Int} (hm : mKind m = true) (h : mWeight x = true) : mIn m (mEdge m x) = true := by
  simp [mWeight] at h
  rcases mKind_cases hm with rfl | rfl | rfl | rfl | rfl <;> simp [mIn, mBet, mNone, mOne, mEdge] <;> omega

theorem mJoin_in {m a b : Int} (hm : mKind m = true) (ha : mIn m a = true) (hb : mIn m b = true) : mIn m (mJoin m a b) = true := by
  rcases mKind_cases hm with rfl | rfl | rfl | rfl | rfl <;> simp [mIn, mBet, mNone, mOne, mJoin] at * <;> omega

theorem mOne_in {m : Int} (hm : mKind m = true) : mIn m (mOne m) = true := by
  rcases mKind_cases hm with rfl | rfl | rfl | rfl | rfl <;> decide

theorem bTwo_mk {m a b : Int} (hm : mKind m = true) (ha : mIn m a = true) (hb : mIn m b = true) : bTwo m a b = true := by simp [bTwo, mIs, hm, ha, hb]

end Go.Proofs.Ytjcfefpcilhelaa
