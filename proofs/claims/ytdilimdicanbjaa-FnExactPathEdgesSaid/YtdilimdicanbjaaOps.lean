/- The five kinds of operations of measures, as the program has them: what the methods do, and isMeasure. -/
import Derived.Test.YtdilimdicanbjaaBase
import Derived.Test.YtdilimdicanbjaaMath
namespace Go.Proofs.Ytdilimdicanbjaa
open Go.RowKit
set_option linter.unusedVariables false
set_option linter.unusedSimpArgs false

/-- The value of the operations of a kind. -/
def opsV (m : Int) : Value :=
  if m = 1 then .iface 131 (.agg #[]) else if m = 2 then .iface 136 (.agg #[.int .i64 100000])
  else if m = 3 then .iface 139 (.agg #[]) else if m = 4 then .iface 142 (.agg #[.int .i64 1]) else .iface 144 (.agg #[])

/-! what the methods do -/
theorem less_no (w : World) : Calls Try.prog 148 #[.agg #[]] w fun e w' => e = .returned (.int .i64 100000) ∧ Below w.heap.size w w' := by
  go_enter Try.func148, Try.ntmps148
  go_wp2
  go_ret
  exact ⟨rfl, (Below.refl _ _).alloc (Nat.le_refl _) _⟩
theorem less_empty (w : World) : Calls Try.prog 147 #[.agg #[]] w fun e w' => e = .returned (.int .i64 0) ∧ Below w.heap.size w w' := by
  go_enter Try.func147, Try.ntmps147
  go_wp2
  go_ret
  exact ⟨rfl, (Below.refl _ _).alloc (Nat.le_refl _) _⟩
theorem less_better (a b : Int) (w : World) : Calls Try.prog 146 #[.agg #[], .int .i64 a, .int .i64 b] w fun e w' => e = .returned (.bool (decide (a < b))) ∧ Below w.heap.size w w' := by
  go_enter Try.func146, Try.ntmps146
  go_wp2
  go_ret
  exact ⟨rfl, (Below.refl _ _).alloc (Nat.le_refl _) _⟩
theorem more_no (x : Int) (w : World) : Calls Try.prog 153 #[.agg #[.int .i64 x]] w fun e w' => e = .returned (.int .i64 0) ∧ Below w.heap.size w w' := by
  go_enter Try.func153, Try.ntmps153
  go_wp2
  go_ret
  exact ⟨rfl, (Below.refl _ _).alloc (Nat.le_refl _) _⟩
theorem more_empty (x : Int) (w : World) : Calls Try.prog 152 #[.agg #[.int .i64 x]] w fun e w' => e = .returned (.int .i64 x) ∧ Below w.heap.size w w' := by
  go_enter Try.func152, Try.ntmps152
  go_wp2
  go_ret
  exact ⟨rfl, (Below.refl _ _).alloc (Nat.le_refl _) _⟩
theorem more_better (x a b : Int) (w : World) : Calls Try.prog 151 #[.agg #[.int .i64 x], .int .i64 a, .int .i64 b] w fun e w' => e = .returned (.bool (decide (b < a))) ∧ Below w.heap.size w w' := by
  go_enter Try.func151, Try.ntmps151
  go_wp2
  go_ret
  exact ⟨rfl, (Below.refl _ _).alloc (Nat.le_refl _) _⟩

/-! the tables of methods -/
theorem mb1 (w : World) : (method 307 131 (.agg #[]) "loop.example/graphviews/impl.better").run Try.prog w = .ok (146, .agg #[]) w := by kernel_rfl
theorem ab1 (w : World) : (nilAhead 307 131 (.agg #[]) "loop.example/graphviews/impl.better").run Try.prog w = .ok (some false) w := by kernel_rfl
theorem mn1 (w : World) : (method 307 131 (.agg #[]) "loop.example/graphviews/impl.noPath").run Try.prog w = .ok (148, .agg #[]) w := by kernel_rfl
theorem an1 (w : World) : (nilAhead 307 131 (.agg #[]) "loop.example/graphviews/impl.noPath").run Try.prog w = .ok (some false) w := by kernel_rfl
theorem me1 (w : World) : (method 307 131 (.agg #[]) "loop.example/graphviews/impl.emptyPath").run Try.prog w = .ok (147, .agg #[]) w := by kernel_rfl
theorem ae1 (w : World) : (nilAhead 307 131 (.agg #[]) "loop.example/graphviews/impl.emptyPath").run Try.prog w = .ok (some false) w := by kernel_rfl
theorem mo1 (w : World) : (method 307 131 (.agg #[]) "loop.example/graphviews/impl.ofEdge").run Try.prog w = .ok (149, .agg #[]) w := by kernel_rfl
theorem ao1 (w : World) : (nilAhead 307 131 (.agg #[]) "loop.example/graphviews/impl.ofEdge").run Try.prog w = .ok (some false) w := by kernel_rfl
theorem mj1 (w : World) : (method 307 131 (.agg #[]) "loop.example/graphviews/impl.join").run Try.prog w = .ok (150, .agg #[]) w := by kernel_rfl
theorem aj1 (w : World) : (nilAhead 307 131 (.agg #[]) "loop.example/graphviews/impl.join").run Try.prog w = .ok (some false) w := by kernel_rfl
theorem mb2 (w : World) : (method 307 136 (.agg #[.int .i64 100000]) "loop.example/graphviews/impl.better").run Try.prog w = .ok (151, .agg #[.int .i64 100000]) w := by kernel_rfl
theorem ab2 (w : World) : (nilAhead 307 136 (.agg #[.int .i64 100000]) "loop.example/graphviews/impl.better").run Try.prog w = .ok (some false) w := by kernel_rfl
theorem mn2 (w : World) : (method 307 136 (.agg #[.int .i64 100000]) "loop.example/graphviews/impl.noPath").run Try.prog w = .ok (153, .agg #[.int .i64 100000]) w := by kernel_rfl
theorem an2 (w : World) : (nilAhead 307 136 (.agg #[.int .i64 100000]) "loop.example/graphviews/impl.noPath").run Try.prog w = .ok (some false) w := by kernel_rfl
theorem me2 (w : World) : (method 307 136 (.agg #[.int .i64 100000]) "loop.example/graphviews/impl.emptyPath").run Try.prog w = .ok (152, .agg #[.int .i64 100000]) w := by kernel_rfl
theorem ae2 (w : World) : (nilAhead 307 136 (.agg #[.int .i64 100000]) "loop.example/graphviews/impl.emptyPath").run Try.prog w = .ok (some false) w := by kernel_rfl
theorem mo2 (w : World) : (method 307 136 (.agg #[.int .i64 100000]) "loop.example/graphviews/impl.ofEdge").run Try.prog w = .ok (149, .agg #[]) w := by kernel_rfl
theorem ao2 (w : World) : (nilAhead 307 136 (.agg #[.int .i64 100000]) "loop.example/graphviews/impl.ofEdge").run Try.prog w = .ok (some false) w := by kernel_rfl
theorem mj2 (w : World) : (method 307 136 (.agg #[.int .i64 100000]) "loop.example/graphviews/impl.join").run Try.prog w = .ok (154, .agg #[]) w := by kernel_rfl
theorem aj2 (w : World) : (nilAhead 307 136 (.agg #[.int .i64 100000]) "loop.example/graphviews/impl.join").run Try.prog w = .ok (some false) w := by kernel_rfl
theorem mb3 (w : World) : (method 307 139 (.agg #[]) "loop.example/graphviews/impl.better").run Try.prog w = .ok (146, .agg #[]) w := by kernel_rfl
theorem ab3 (w : World) : (nilAhead 307 139 (.agg #[]) "loop.example/graphviews/impl.better").run Try.prog w = .ok (some false) w := by kernel_rfl
theorem mn3 (w : World) : (method 307 139 (.agg #[]) "loop.example/graphviews/impl.noPath").run Try.prog w = .ok (148, .agg #[]) w := by kernel_rfl
theorem an3 (w : World) : (nilAhead 307 139 (.agg #[]) "loop.example/graphviews/impl.noPath").run Try.prog w = .ok (some false) w := by kernel_rfl
theorem me3 (w : World) : (method 307 139 (.agg #[]) "loop.example/graphviews/impl.emptyPath").run Try.prog w = .ok (147, .agg #[]) w := by kernel_rfl
theorem ae3 (w : World) : (nilAhead 307 139 (.agg #[]) "loop.example/graphviews/impl.emptyPath").run Try.prog w = .ok (some false) w := by kernel_rfl
theorem mo3 (w : World) : (method 307 139 (.agg #[]) "loop.example/graphviews/impl.ofEdge").run Try.prog w = .ok (149, .agg #[]) w := by kernel_rfl
theorem ao3 (w : World) : (nilAhead 307 139 (.agg #[]) "loop.example/graphviews/impl.ofEdge").run Try.prog w = .ok (some false) w := by kernel_rfl
theorem mj3 (w : World) : (method 307 139 (.agg #[]) "loop.example/graphviews/impl.join").run Try.prog w = .ok (155, .agg #[]) w := by kernel_rfl
theorem aj3 (w : World) : (nilAhead 307 139 (.agg #[]) "loop.example/graphviews/impl.join").run Try.prog w = .ok (some false) w := by kernel_rfl
theorem mb4 (w : World) : (method 307 142 (.agg #[.int .i64 1]) "loop.example/graphviews/impl.better").run Try.prog w = .ok (151, .agg #[.int .i64 1]) w := by kernel_rfl
theorem ab4 (w : World) : (nilAhead 307 142 (.agg #[.int .i64 1]) "loop.example/graphviews/impl.better").run Try.prog w = .ok (some false) w := by kernel_rfl
theorem mn4 (w : World) : (method 307 142 (.agg #[.int .i64 1]) "loop.example/graphviews/impl.noPath").run Try.prog w = .ok (153, .agg #[.int .i64 1]) w := by kernel_rfl
theorem an4 (w : World) : (nilAhead 307 142 (.agg #[.int .i64 1]) "loop.example/graphviews/impl.noPath").run Try.prog w = .ok (some false) w := by kernel_rfl
theorem me4 (w : World) : (method 307 142 (.agg #[.int .i64 1]) "loop.example/graphviews/impl.emptyPath").run Try.prog w = .ok (152, .agg #[.int .i64 1]) w := by kernel_rfl
theorem ae4 (w : World) : (nilAhead 307 142 (.agg #[.int .i64 1]) "loop.example/graphviews/impl.emptyPath").run Try.prog w = .ok (some false) w := by kernel_rfl
theorem mo4 (w : World) : (method 307 142 (.agg #[.int .i64 1]) "loop.example/graphviews/impl.ofEdge").run Try.prog w = .ok (156, .agg #[]) w := by kernel_rfl
theorem ao4 (w : World) : (nilAhead 307 142 (.agg #[.int .i64 1]) "loop.example/graphviews/impl.ofEdge").run Try.prog w = .ok (some false) w := by kernel_rfl
theorem mj4 (w : World) : (method 307 142 (.agg #[.int .i64 1]) "loop.example/graphviews/impl.join").run Try.prog w = .ok (154, .agg #[]) w := by kernel_rfl
theorem aj4 (w : World) : (nilAhead 307 142 (.agg #[.int .i64 1]) "loop.example/graphviews/impl.join").run Try.prog w = .ok (some false) w := by kernel_rfl
theorem mb5 (w : World) : (method 307 144 (.agg #[]) "loop.example/graphviews/impl.better").run Try.prog w = .ok (146, .agg #[]) w := by kernel_rfl
theorem ab5 (w : World) : (nilAhead 307 144 (.agg #[]) "loop.example/graphviews/impl.better").run Try.prog w = .ok (some false) w := by kernel_rfl
theorem mn5 (w : World) : (method 307 144 (.agg #[]) "loop.example/graphviews/impl.noPath").run Try.prog w = .ok (148, .agg #[]) w := by kernel_rfl
theorem an5 (w : World) : (nilAhead 307 144 (.agg #[]) "loop.example/graphviews/impl.noPath").run Try.prog w = .ok (some false) w := by kernel_rfl
theorem me5 (w : World) : (method 307 144 (.agg #[]) "loop.example/graphviews/impl.emptyPath").run Try.prog w = .ok (147, .agg #[]) w := by kernel_rfl
theorem ae5 (w : World) : (nilAhead 307 144 (.agg #[]) "loop.example/graphviews/impl.emptyPath").run Try.prog w = .ok (some false) w := by kernel_rfl
theorem mo5 (w : World) : (method 307 144 (.agg #[]) "loop.example/graphviews/impl.ofEdge").run Try.prog w = .ok (156, .agg #[]) w := by kernel_rfl
theorem ao5 (w : World) : (nilAhead 307 144 (.agg #[]) "loop.example/graphviews/impl.ofEdge").run Try.prog w = .ok (some false) w := by kernel_rfl
theorem mj5 (w : World) : (method 307 144 (.agg #[]) "loop.example/graphviews/impl.join").run Try.prog w = .ok (150, .agg #[]) w := by kernel_rfl
theorem aj5 (w : World) : (nilAhead 307 144 (.agg #[]) "loop.example/graphviews/impl.join").run Try.prog w = .ok (some false) w := by kernel_rfl
end Go.Proofs.Ytdilimdicanbjaa
