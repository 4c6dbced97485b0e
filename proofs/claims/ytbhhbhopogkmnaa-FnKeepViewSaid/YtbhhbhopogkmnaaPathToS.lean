/- slices.Reverse at a row of the call's own. PathTo, in the program. PathTo, in the model. -/
import Derived.Test.YtbhhbhopogkmnaaShR
import Derived.Test.YtbhhbhopogkmnaaNext
import Derived.Lib.OwnBridge
import Derived.Test.YtbhhbhopogkmnaaBoxes
import Derived.Lib.FrozenHead
import Derived.Lib.SmallJoins
namespace Go.Proofs.Ytbhhbhopogkmnaa
open Go.RowKit Go.BigFrame Go.Deep Go.Lib Go.Sort
set_option linter.unusedVariables false
set_option linter.unusedSimpArgs false

end Go.Proofs.Ytbhhbhopogkmnaa
namespace Go.Proofs.Ytbhhbhopogkmnaa
open Go.RowKit Go.BigFrame Go.Deep
set_option linter.unusedVariables false
set_option linter.unusedSimpArgs false

/-- Is it the index of an element? -/
def inP (ps : List Int) (x : Int) : Bool := decide (0 ≤ x) && decide (x < ps.length)
/-- The nodes from the source to a node: k steps at most; what has been passed lies ahead, the last one first. -/
def ptGo (ps : List Int) (src : Int) : Nat → Int → List Int → Option (List Int)
  | 0, _, _ => none
  | k + 1, x, acc => if inP ps x = true then (if x = src then some (x :: acc) else ptGo ps src k (ps.getD x.toNat 0) (x :: acc)) else none
def ptR (ps : List Int) (src x : Int) : Option (List Int) := ptGo ps src (ps.length + 1) x []
def ptB (ps : List Int) (src x : Int) : Bool := (ptR ps src x).isSome
def ptL (ps : List Int) (src x : Int) : List Int := (ptR ps src x).getD []
theorem ptGo_len {ps : List Int} {src : Int} : ∀ {k : Nat} {x : Int} {acc r : List Int}, ptGo ps src k x acc = some r → r.length ≤ acc.length + k := by
  intro k
  induction k with
  | zero => intro x acc r h; cases h
  | succ k ih =>
    intro x acc r h
    rw [ptGo] at h
    split at h
    · split at h
      · injection h with h; rw [← h]; simp
      · have := ih h; simp at this; omega
    · cases h
theorem ptL_len (ps : List Int) (src x : Int) : (ptL ps src x).length ≤ ps.length + 1 := by
  unfold ptL ptR
  cases h : ptGo ps src (ps.length + 1) x [] with
  | none => simp
  | some r => have := ptGo_len h; simpa using this
theorem pt_none {ps : List Int} {src x : Int} (h : ptR ps src x = none) : ptB ps src x = false ∧ ptL ps src x = [] := by unfold ptB ptL; rw [h]; exact ⟨rfl, rfl⟩
theorem pt_some {ps : List Int} {src x : Int} {r : List Int} (h : ptR ps src x = some r) : ptB ps src x = true ∧ ptL ps src x = r := by unfold ptB ptL; rw [h]; exact ⟨rfl, rfl⟩

end Go.Proofs.Ytbhhbhopogkmnaa
namespace Go.Proofs.Ytbhhbhopogkmnaa
open Go.RowKit Go.BigFrame Go.Deep Go.Joins
set_option linter.unusedVariables false
set_option linter.unusedSimpArgs false

theorem own_cells {w : World} {base : Nat} {t : TypeId} {n g cap : Nat} {xs : List Value} (h : w.ownsRow base t 1 (.slice (some ⟨g, 0, none⟩) n cap) n xs) : ∀ j u, xs[j]? = some u → w.cell? ((⟨g, 0, none⟩ : Addr).add j) = some u :=
  World.ownsRowF.cells (World.ownsRowF_of h) rfl
theorem own_one (w : World) (t : TypeId) (B : Nat) (hB : B ≤ w.heap.size) (u : Value) : (w.alloc (Obj.cells #[u] t)).ownsRow B t 1 (.slice (some ⟨w.heap.size, 0, none⟩) 1 1) 1 [u] :=
  ⟨rfl, .inr ⟨w.heap.size, 1, #[u], rfl, hB, blk_alloc_new _ _, Nat.le_refl _, by unfold maxLen; omega, rfl, rfl⟩⟩

end Go.Proofs.Ytbhhbhopogkmnaa
