/- The edges or the nodes for which a function holds (edgesWhere, nodesWhere); leaveOut; WithoutNodes. -/
import Derived.Test.YtneapbggnnndhaaDerA
import Derived.Test.YtneapbggnnndhaaNext
namespace Go.Proofs.Ytneapbggnnndhaa
open Go.RowKit Go.BigFrame Go.Deep
set_option linter.unusedVariables false
set_option linter.unusedSimpArgs false

/-- What is asked of a function of edges: in every world that has grown out of one it tells of each edge what it should, and writes into nothing. -/
def KeepsE (k : FuncId) (lb : Array Value) (p : Ed → Bool) (es : List Ed) (W : World) : Prop :=
  ∀ (w' : World) (x y z : Int), Below W.heap.size W w' → (x, y, z) ∈ es → Calls Try.prog k (#[.agg #[.int .i64 x, .int .i64 y, .int .i64 z]] ++ lb) w' fun e w'' => e = .returned (.bool (p (x, y, z))) ∧ Below w'.heap.size w' w''
/-- The same of a function of nodes. -/
def KeepsI (k : FuncId) (lb : Array Value) (p : Int → Bool) (N : Nat) (W : World) : Prop :=
  ∀ (w' : World) (i : Nat), Below W.heap.size W w' → i < N → Calls Try.prog k (#[.int .i64 i] ++ lb) w' fun e w'' => e = .returned (.bool (p (i : Int))) ∧ Below w'.heap.size w' w''

end Go.Proofs.Ytneapbggnnndhaa
