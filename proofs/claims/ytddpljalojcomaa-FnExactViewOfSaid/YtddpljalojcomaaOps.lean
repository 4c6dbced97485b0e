/- The five kinds of operations of measures, as the program has them: what the methods do, and isMeasure. -/
import Derived.Test.YtddpljalojcomaaBase
import Derived.Test.YtddpljalojcomaaMath
namespace Go.Proofs.Ytddpljalojcomaa
open Go.RowKit
set_option linter.unusedVariables false
set_option linter.unusedSimpArgs false

/-- The value of the operations of a kind. -/
def opsV (m : Int) : Value :=
  if m = 1 then .iface 96 (.agg #[]) else if m = 2 then .iface 101 (.agg #[.int .i64 100000])
  else if m = 3 then .iface 104 (.agg #[]) else if m = 4 then .iface 107 (.agg #[.int .i64 1]) else .iface 109 (.agg #[])

/-! what the methods do -/
theorem less_no (w : World) : Calls Try.prog 106 #[.agg #[]] w fun e w' => e = .returned (.int .i64 100000) ∧ Below w.heap.size w w' := by
  go_enter Try.func106, Try.ntmps106
  go_wp2
  go_ret
  exact ⟨rfl, (Below.refl _ _).alloc (Nat.le_refl _) _⟩
theorem less_empty (w : World) : Calls Try.prog 105 #[.agg #[]] w fun e w' => e = .returned (.int .i64 0) ∧ Below w.heap.size w w' := by
  go_enter Try.func105, Try.ntmps105
  go_wp2
  go_ret
  exact ⟨rfl, (Below.refl _ _).alloc (Nat.le_refl _) _⟩
theorem less_better (a b : Int) (w : World) : Calls Try.prog 104 #[.agg #[], .int .i64 a, .int .i64 b] w fun e w' => e = .returned (.bool (decide (a < b))) ∧ Below w.heap.size w w' := by
  go_enter Try.func104, Try.ntmps104
  go_wp2
  go_ret
  exact ⟨rfl, (Below.refl _ _).alloc (Nat.le_refl _) _⟩
theorem more_no (x : Int) (w : World) : Calls Try.prog 111 #[.agg #[.int .i64 x]] w fun e w' => e = .returned (.int .i64 0) ∧ Below w.heap.size w w' := by
  go_enter Try.func111, Try.ntmps111
  go_wp2
  go_ret
  exact ⟨rfl, (Below.refl _ _).alloc (Nat.le_refl _) _⟩
theorem more_empty (x : Int) (w : World) : Calls Try.prog 110 #[.agg #[.int .i64 x]] w fun e w' => e = .returned (.int .i64 x) ∧ Below w.heap.size w w' := by
  go_enter Try.func110, Try.ntmps110
  go_wp2
  go_ret
  exact ⟨rfl, (Below.refl _ _).alloc (Nat.le_refl _) _⟩
theorem more_better (x a b : Int) (w : World) : Calls Try.prog 109 #[.agg #[.int .i64 x], .int .i64 a, .int .i64 b] w fun e w' => e = .returned (.bool (decide (b < a))) ∧ Below w.heap.size w w' := by
  go_enter Try.func109, Try.ntmps109
  go_wp2
  go_ret
  exact ⟨rfl, (Below.refl _ _).alloc (Nat.le_refl _) _⟩

/-! the tables of methods -/
theorem mb1 (w : World) : (method 238 96 (.agg #[]) "loop.example/graphviews/impl.better").run Try.prog w = .ok (104, .agg #[]) w := by kernel_rfl
theorem ab1 (w : World) : (nilAhead 238 96 (.agg #[]) "loop.example/graphviews/impl.better").run Try.prog w = .ok (some false) w := by kernel_rfl
theorem mn1 (w : World) : (method 238 96 (.agg #[]) "loop.example/graphviews/impl.noPath").run Try.prog w = .ok (106, .agg #[]) w := by kernel_rfl
theorem an1 (w : World) : (nilAhead 238 96 (.agg #[]) "loop.example/graphviews/impl.noPath").run Try.prog w = .ok (some false) w := by kernel_rfl
theorem me1 (w : World) : (method 238 96 (.agg #[]) "loop.example/graphviews/impl.emptyPath").run Try.prog w = .ok (105, .agg #[]) w := by kernel_rfl
theorem ae1 (w : World) : (nilAhead 238 96 (.agg #[]) "loop.example/graphviews/impl.emptyPath").run Try.prog w = .ok (some false) w := by kernel_rfl
theorem mo1 (w : World) : (method 238 96 (.agg #[]) "loop.example/graphviews/impl.ofEdge").run Try.prog w = .ok (107, .agg #[]) w := by kernel_rfl
theorem ao1 (w : World) : (nilAhead 238 96 (.agg #[]) "loop.example/graphviews/impl.ofEdge").run Try.prog w = .ok (some false) w := by kernel_rfl
theorem mj1 (w : World) : (method 238 96 (.agg #[]) "loop.example/graphviews/impl.join").run Try.prog w = .ok (108, .agg #[]) w := by kernel_rfl
theorem aj1 (w : World) : (nilAhead 238 96 (.agg #[]) "loop.example/graphviews/impl.join").run Try.prog w = .ok (some false) w := by kernel_rfl
theorem mb2 (w : World) : (method 238 101 (.agg #[.int .i64 100000]) "loop.example/graphviews/impl.better").run Try.prog w = .ok (109, .agg #[.int .i64 100000]) w := by kernel_rfl
theorem ab2 (w : World) : (nilAhead 238 101 (.agg #[.int .i64 100000]) "loop.example/graphviews/impl.better").run Try.prog w = .ok (some false) w := by kernel_rfl
theorem mn2 (w : World) : (method 238 101 (.agg #[.int .i64 100000]) "loop.example/graphviews/impl.noPath").run Try.prog w = .ok (111, .agg #[.int .i64 100000]) w := by kernel_rfl
theorem an2 (w : World) : (nilAhead 238 101 (.agg #[.int .i64 100000]) "loop.example/graphviews/impl.noPath").run Try.prog w = .ok (some false) w := by kernel_rfl
theorem me2 (w : World) : (method 238 101 (.agg #[.int .i64 100000]) "loop.example/graphviews/impl.emptyPath").run Try.prog w = .ok (110, .agg #[.int .i64 100000]) w := by kernel_rfl
theorem ae2 (w : World) : (nilAhead 238 101 (.agg #[.int .i64 100000]) "loop.example/graphviews/impl.emptyPath").run Try.prog w = .ok (some false) w := by kernel_rfl
theorem mo2 (w : World) : (method 238 101 (.agg #[.int .i64 100000]) "loop.example/graphviews/impl.ofEdge").run Try.prog w = .ok (107, .agg #[]) w := by kernel_rfl
theorem ao2 (w : World) : (nilAhead 238 101 (.agg #[.int .i64 100000]) "loop.example/graphviews/impl.ofEdge").run Try.prog w = .ok (some false) w := by kernel_rfl
theorem mj2 (w : World) : (method 238 101 (.agg #[.int .i64 100000]) "loop.example/graphviews/impl.join").run Try.prog w = .ok (112, .agg #[]) w := by kernel_rfl
theorem aj2 (w : World) : (nilAhead 238 101 (.agg #[.int .i64 100000]) "loop.example/graphviews/impl.join").run Try.prog w = .ok (some false) w := by kernel_rfl
theorem mb3 (w : World) : (method 238 104 (.agg #[]) "loop.example/graphviews/impl.better").run Try.prog w = .ok (104, .agg #[]) w := by kernel_rfl
theorem ab3 (w : World) : (nilAhead 238 104 (.agg #[]) "loop.example/graphviews/impl.better").run Try.prog w = .ok (some false) w := by kernel_rfl
theorem mn3 (w : World) : (method 238 104 (.agg #[]) "loop.example/graphviews/impl.noPath").run Try.prog w = .ok (106, .agg #[]) w := by kernel_rfl
theorem an3 (w : World) : (nilAhead 238 104 (.agg #[]) "loop.example/graphviews/impl.noPath").run Try.prog w = .ok (some false) w := by kernel_rfl
theorem me3 (w : World) : (method 238 104 (.agg #[]) "loop.example/graphviews/impl.emptyPath").run Try.prog w = .ok (105, .agg #[]) w := by kernel_rfl
theorem ae3 (w : World) : (nilAhead 238 104 (.agg #[]) "loop.example/graphviews/impl.emptyPath").run Try.prog w = .ok (some false) w := by kernel_rfl
theorem mo3 (w : World) : (method 238 104 (.agg #[]) "loop.example/graphviews/impl.ofEdge").run Try.prog w = .ok (107, .agg #[]) w := by kernel_rfl
theorem ao3 (w : World) : (nilAhead 238 104 (.agg #[]) "loop.example/graphviews/impl.ofEdge").run Try.prog w = .ok (some false) w := by kernel_rfl
theorem mj3 (w : World) : (method 238 104 (.agg #[]) "loop.example/graphviews/impl.join").run Try.prog w = .ok (113, .agg #[]) w := by kernel_rfl
theorem aj3 (w : World) : (nilAhead 238 104 (.agg #[]) "loop.example/graphviews/impl.join").run Try.prog w = .ok (some false) w := by kernel_rfl
theorem mb4 (w : World) : (method 238 107 (.agg #[.int .i64 1]) "loop.example/graphviews/impl.better").run Try.prog w = .ok (109, .agg #[.int .i64 1]) w := by kernel_rfl
theorem ab4 (w : World) : (nilAhead 238 107 (.agg #[.int .i64 1]) "loop.example/graphviews/impl.better").run Try.prog w = .ok (some false) w := by kernel_rfl
theorem mn4 (w : World) : (method 238 107 (.agg #[.int .i64 1]) "loop.example/graphviews/impl.noPath").run Try.prog w = .ok (111, .agg #[.int .i64 1]) w := by kernel_rfl
theorem an4 (w : World) : (nilAhead 238 107 (.agg #[.int .i64 1]) "loop.example/graphviews/impl.noPath").run Try.prog w = .ok (some false) w := by kernel_rfl
theorem me4 (w : World) : (method 238 107 (.agg #[.int .i64 1]) "loop.example/graphviews/impl.emptyPath").run Try.prog w = .ok (110, .agg #[.int .i64 1]) w := by kernel_rfl
theorem ae4 (w : World) : (nilAhead 238 107 (.agg #[.int .i64 1]) "loop.example/graphviews/impl.emptyPath").run Try.prog w = .ok (some false) w := by kernel_rfl
theorem mo4 (w : World) : (method 238 107 (.agg #[.int .i64 1]) "loop.example/graphviews/impl.ofEdge").run Try.prog w = .ok (114, .agg #[]) w := by kernel_rfl
theorem ao4 (w : World) : (nilAhead 238 107 (.agg #[.int .i64 1]) "loop.example/graphviews/impl.ofEdge").run Try.prog w = .ok (some false) w := by kernel_rfl
theorem mj4 (w : World) : (method 238 107 (.agg #[.int .i64 1]) "loop.example/graphviews/impl.join").run Try.prog w = .ok (112, .agg #[]) w := by kernel_rfl
theorem aj4 (w : World) : (nilAhead 238 107 (.agg #[.int .i64 1]) "loop.example/graphviews/impl.join").run Try.prog w = .ok (some false) w := by kernel_rfl
theorem mb5 (w : World) : (method 238 109 (.agg #[]) "loop.example/graphviews/impl.better").run Try.prog w = .ok (104, .agg #[]) w := by kernel_rfl
theorem ab5 (w : World) : (nilAhead 238 109 (.agg #[]) "loop.example/graphviews/impl.better").run Try.prog w = .ok (some false) w := by kernel_rfl
theorem mn5 (w : World) : (method 238 109 (.agg #[]) "loop.example/graphviews/impl.noPath").run Try.prog w = .ok (106, .agg #[]) w := by kernel_rfl
theorem an5 (w : World) : (nilAhead 238 109 (.agg #[]) "loop.example/graphviews/impl.noPath").run Try.prog w = .ok (some false) w := by kernel_rfl
theorem me5 (w : World) : (method 238 109 (.agg #[]) "loop.example/graphviews/impl.emptyPath").run Try.prog w = .ok (105, .agg #[]) w := by kernel_rfl
theorem ae5 (w : World) : (nilAhead 238 109 (.agg #[]) "loop.example/graphviews/impl.emptyPath").run Try.prog w = .ok (some false) w := by kernel_rfl
theorem mo5 (w : World) : (method 238 109 (.agg #[]) "loop.example/graphviews/impl.ofEdge").run Try.prog w = .ok (114, .agg #[]) w := by kernel_rfl
theorem ao5 (w : World) : (nilAhead 238 109 (.agg #[]) "loop.example/graphviews/impl.ofEdge").run Try.prog w = .ok (some false) w := by kernel_rfl
theorem mj5 (w : World) : (method 238 109 (.agg #[]) "loop.example/graphviews/impl.join").run Try.prog w = .ok (108, .agg #[]) w := by kernel_rfl
theorem aj5 (w : World) : (nilAhead 238 109 (.agg #[]) "loop.example/graphviews/impl.join").run Try.prog w = .ok (some false) w := by kernel_rfl
end Go.Proofs.Ytddpljalojcomaa
