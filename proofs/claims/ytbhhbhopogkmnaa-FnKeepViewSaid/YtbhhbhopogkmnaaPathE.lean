/- PathEdges, in the program. -/
import Derived.Test.YtbhhbhopogkmnaaNext
import Derived.Test.YtbhhbhopogkmnaaFind3
import Derived.Test.YtbhhbhopogkmnaaVEdges
import Derived.Test.YtbhhbhopogkmnaaVStartT
import Derived.Test.YtbhhbhopogkmnaaBoxes
namespace Go.Proofs.Ytbhhbhopogkmnaa
open Go.RowKit Go.BigFrame Go.Deep
set_option linter.unusedVariables false
set_option linter.unusedSimpArgs false

/-- The weight of the edge behind a place of a path. -/
def peW (es : List Ed) (ps : List Int) (k : Nat) : Int := (es.getD (lbE es (ps.getD k 0) (ps.getD (k + 1) 0)) (0, 0, 0)).2.2
/-- Is there an edge behind a place of a path? -/
def peF (es : List Ed) (ps : List Int) (k : Nat) : Bool := fdE es (ps.getD k 0) (ps.getD (k + 1) 0)
def peHead (n : Int) (es : List Ed) (ps : List Int) : Bool := gVal n es && (decide (1 ≤ ps.length) && (decide (ps.length ≤ 51) && inN n (ps.getD 0 0)))
def peB (n : Int) (es : List Ed) (ps : List Int) : Bool := peHead n es ps && (List.range (ps.length - 1)).all (peF es ps)
def peL (n : Int) (es : List Ed) (ps : List Int) : List Int := if peB n es ps = true then (List.range (ps.length - 1)).map (peW es ps) else []
theorem peB_head {n : Int} {es : List Ed} {ps : List Int} (h : peHead n es ps = false) : peB n es ps = false := by unfold peB; rw [h]; rfl
theorem peB_at {n : Int} {es : List Ed} {ps : List Int} {k : Nat} (hk : k < ps.length - 1) (h : peF es ps k = false) : peB n es ps = false := by
  unfold peB
  have : (List.range (ps.length - 1)).all (peF es ps) = false := by
    rw [List.all_eq_false]
    exact ⟨k, by simpa using hk, by rw [h]; decide⟩
  rw [this, Bool.and_false]
theorem peB_all {n : Int} {es : List Ed} {ps : List Int} (h : peHead n es ps = true) (h2 : ∀ k, k < ps.length - 1 → peF es ps k = true) : peB n es ps = true := by
  unfold peB
  rw [h, Bool.true_and, List.all_eq_true]
  intro k hk
  exact h2 k (by simpa using hk)
theorem peL_no {n : Int} {es : List Ed} {ps : List Int} (h : peB n es ps = false) : peL n es ps = [] := by unfold peL; rw [h]; rfl
theorem peL_yes {n : Int} {es : List Ed} {ps : List Int} (h : peB n es ps = true) : peL n es ps = (List.range (ps.length - 1)).map (peW es ps) := by unfold peL; rw [if_pos h]
theorem peL_len (n : Int) (es : List Ed) (ps : List Int) : (peL n es ps).length ≤ ps.length := by
  unfold peL
  split
  · simp
  · simp
/-- The weights that are there behind k steps. -/
def peP (es : List Ed) (ps : List Int) (k : Nat) : Nat → Value := fun i => .int .i64 (if i < k then peW es ps i else 0)

end Go.Proofs.Ytbhhbhopogkmnaa
