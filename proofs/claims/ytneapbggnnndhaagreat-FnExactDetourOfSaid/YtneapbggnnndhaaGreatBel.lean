/- Worlds that have grown, step by step. -/
import Derived.Test.YtneapbggnnndhaaGreatBase
namespace Go.Proofs.YtneapbggnnndhaaGreat
open Go.RowKit Go.BigFrame
set_option linter.unusedVariables false

theorem b_alloc {W w : World} (h : Below W.heap.size W w) (o : Obj) : Below W.heap.size W (w.alloc o) := h.alloc h.size _
theorem b_drew {W w : World} (h : Below W.heap.size W w) : Below W.heap.size W w.drew := h.drew
theorem b_set {W w x : World} (h : Below W.heap.size W w) (k : Below W.heap.size W x) (o : Nat) (v : Value) : Below W.heap.size W (w.setCell ⟨x.heap.size, o, none⟩ v) := h.setCell k.size v
end Go.Proofs.YtneapbggnnndhaaGreat
