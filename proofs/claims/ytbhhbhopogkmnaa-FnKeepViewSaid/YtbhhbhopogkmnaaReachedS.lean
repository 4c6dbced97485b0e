/- ReachedNodes, in the program. ReachedNodes, in the model. -/
import Derived.Test.YtbhhbhopogkmnaaNext
import Derived.Test.YtbhhbhopogkmnaaDisp
import Derived.Test.YtbhhbhopogkmnaaVValS
import Derived.Test.YtbhhbhopogkmnaaSpec
import Derived.Test.YtbhhbhopogkmnaaBoxes
namespace Go.Proofs.Ytbhhbhopogkmnaa
open Go.RowKit Go.BigFrame Go.Deep
set_option linter.unusedVariables false
set_option linter.unusedSimpArgs false

/-- The first k nodes, as far as they are reached. -/
def rchK (m : Int) (zs : List Int) (k : Nat) : List Int := ((List.range k).filter (fun i => zs.getD i 0 != mNone m)).map (fun (i : Nat) => (i : Int))
def rch (m : Int) (zs : List Int) : List Int := rchK m zs zs.length
def rchV (n : Int) (es : List Ed) (m a : Int) (zs : List Int) : List Int := if vVal n es m a zs = true then rch m zs else []
theorem rchK_succ (m : Int) (zs : List Int) (k : Nat) : rchK m zs (k + 1) = rchK m zs k ++ (if (zs.getD k 0 != mNone m) = true then [(k : Int)] else []) := by
  unfold rchK
  rw [List.range_succ, List.filter_append, List.map_append]
  congr 1
  rw [List.filter_cons]
  generalize (zs.getD k 0 != mNone m) = b
  cases b <;> simp
theorem rchK_len (m : Int) (zs : List Int) (k : Nat) : (rchK m zs k).length ≤ k := by
  unfold rchK; rw [List.length_map]; exact Nat.le_trans (List.length_filter_le _ _) (by simp)

end Go.Proofs.Ytbhhbhopogkmnaa
namespace Go.Proofs.Ytbhhbhopogkmnaa
open Go.RowKit Go.BigFrame Go.Deep
set_option linter.unusedVariables false
set_option linter.unusedSimpArgs false

end Go.Proofs.Ytbhhbhopogkmnaa
