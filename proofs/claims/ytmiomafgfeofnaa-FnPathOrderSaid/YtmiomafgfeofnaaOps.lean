/- The five kinds of operations of measures, as the program has them: what the methods do, and isMeasure. -/
import Derived.Test.YtmiomafgfeofnaaProg
import Derived.Test.YtmiomafgfeofnaaMath
import Derived.WalkKit
import Derived.ProofKit
import Derived.OpenShut
import Derived.WalkLawsBesides
import Derived.WalkSpells
import Derived.Outline
import Derived.Deep.QuietTactic
import Derived.BigQuiet
namespace Go.Proofs.Ytmiomafgfeofnaa
open Go.RowKit
set_option linter.unusedVariables false

theorem bel_trans {W w w' : World} (h : Below W.heap.size W w) (k : Below w.heap.size w w') : Below W.heap.size W w' := h.trans (k.mono h.size)

/-- A region that draws its order, over worlds that have grown. -/
theorem wp_region_below {P : Program} {id : Nat} {Q : Exit → Act → World → Prop} {a : Act} {w : World} {l : List Oper} (hm : P.follows .mixedOrders = true) (hB : Region.lexB .any l.toArray = true)
    (h : wpQuiet P l.toArray (fun w' => Below w.heap.size w w') (fun a' => ∀ w', Below w.heap.size w w' → Q .normal a' w') l a) : (Code.region id l.toArray true).wp P Q a w :=
  wp_region_quiet (C := fun w' => Below w.heap.size w w') hm hB ((Below.refl _ _).drew) (by simpa using h)
/-- A contract in a region over worlds that have grown. -/
theorem quietB {P : Program} {f : FuncId} {args : Array Value} {W w : World} {v : Value} (h : Calls P f args w fun e w' => e = .returned v ∧ Below w.heap.size w w') (hb : Below W.heap.size W w) :
    Calls P f args w fun e w'' => e = .returned v ∧ Below W.heap.size W w'' := h.mono fun _ _ ⟨he, hb'⟩ => ⟨he, bel_trans hb hb'⟩

/-- The value of the operations of a kind. -/
def opsV (m : Int) : Value :=
  if m = 1 then .iface 61 (.agg #[]) else if m = 2 then .iface 66 (.agg #[.int .i64 100000])
  else if m = 3 then .iface 69 (.agg #[]) else if m = 4 then .iface 72 (.agg #[.int .i64 1]) else .iface 74 (.agg #[])

/-! what the methods do -/
theorem less_no (w : World) : Calls Try.prog 79 #[.agg #[]] w fun e w' => e = .returned (.int .i64 100000) ∧ Below w.heap.size w w' := by
  go_enter Try.func79, Try.ntmps79
  go_wp2
  go_ret
  exact ⟨rfl, (Below.refl _ _).alloc (Nat.le_refl _) _⟩
theorem less_empty (w : World) : Calls Try.prog 78 #[.agg #[]] w fun e w' => e = .returned (.int .i64 0) ∧ Below w.heap.size w w' := by
  go_enter Try.func78, Try.ntmps78
  go_wp2
  go_ret
  exact ⟨rfl, (Below.refl _ _).alloc (Nat.le_refl _) _⟩
theorem less_better (a b : Int) (w : World) : Calls Try.prog 77 #[.agg #[], .int .i64 a, .int .i64 b] w fun e w' => e = .returned (.bool (decide (a < b))) ∧ Below w.heap.size w w' := by
  go_enter Try.func77, Try.ntmps77
  go_wp2
  go_ret
  exact ⟨rfl, (Below.refl _ _).alloc (Nat.le_refl _) _⟩
theorem more_no (x : Int) (w : World) : Calls Try.prog 84 #[.agg #[.int .i64 x]] w fun e w' => e = .returned (.int .i64 0) ∧ Below w.heap.size w w' := by
  go_enter Try.func84, Try.ntmps84
  go_wp2
  go_ret
  exact ⟨rfl, (Below.refl _ _).alloc (Nat.le_refl _) _⟩
theorem more_empty (x : Int) (w : World) : Calls Try.prog 83 #[.agg #[.int .i64 x]] w fun e w' => e = .returned (.int .i64 x) ∧ Below w.heap.size w w' := by
  go_enter Try.func83, Try.ntmps83
  go_wp2
  go_ret
  exact ⟨rfl, (Below.refl _ _).alloc (Nat.le_refl _) _⟩
theorem more_better (x a b : Int) (w : World) : Calls Try.prog 82 #[.agg #[.int .i64 x], .int .i64 a, .int .i64 b] w fun e w' => e = .returned (.bool (decide (b < a))) ∧ Below w.heap.size w w' := by
  go_enter Try.func82, Try.ntmps82
  go_wp2
  go_ret
  exact ⟨rfl, (Below.refl _ _).alloc (Nat.le_refl _) _⟩

/-! the tables of methods -/
theorem mb1 (w : World) : (method 197 61 (.agg #[]) "loop.example/graphviews/impl.better").run Try.prog w = .ok (77, .agg #[]) w := by kernel_rfl
theorem ab1 (w : World) : (nilAhead 197 61 (.agg #[]) "loop.example/graphviews/impl.better").run Try.prog w = .ok (some false) w := by kernel_rfl
theorem mn1 (w : World) : (method 197 61 (.agg #[]) "loop.example/graphviews/impl.noPath").run Try.prog w = .ok (79, .agg #[]) w := by kernel_rfl
theorem an1 (w : World) : (nilAhead 197 61 (.agg #[]) "loop.example/graphviews/impl.noPath").run Try.prog w = .ok (some false) w := by kernel_rfl
theorem me1 (w : World) : (method 197 61 (.agg #[]) "loop.example/graphviews/impl.emptyPath").run Try.prog w = .ok (78, .agg #[]) w := by kernel_rfl
theorem ae1 (w : World) : (nilAhead 197 61 (.agg #[]) "loop.example/graphviews/impl.emptyPath").run Try.prog w = .ok (some false) w := by kernel_rfl
theorem mo1 (w : World) : (method 197 61 (.agg #[]) "loop.example/graphviews/impl.ofEdge").run Try.prog w = .ok (80, .agg #[]) w := by kernel_rfl
theorem ao1 (w : World) : (nilAhead 197 61 (.agg #[]) "loop.example/graphviews/impl.ofEdge").run Try.prog w = .ok (some false) w := by kernel_rfl
theorem mj1 (w : World) : (method 197 61 (.agg #[]) "loop.example/graphviews/impl.join").run Try.prog w = .ok (81, .agg #[]) w := by kernel_rfl
theorem aj1 (w : World) : (nilAhead 197 61 (.agg #[]) "loop.example/graphviews/impl.join").run Try.prog w = .ok (some false) w := by kernel_rfl
theorem mb2 (w : World) : (method 197 66 (.agg #[.int .i64 100000]) "loop.example/graphviews/impl.better").run Try.prog w = .ok (82, .agg #[.int .i64 100000]) w := by kernel_rfl
theorem ab2 (w : World) : (nilAhead 197 66 (.agg #[.int .i64 100000]) "loop.example/graphviews/impl.better").run Try.prog w = .ok (some false) w := by kernel_rfl
theorem mn2 (w : World) : (method 197 66 (.agg #[.int .i64 100000]) "loop.example/graphviews/impl.noPath").run Try.prog w = .ok (84, .agg #[.int .i64 100000]) w := by kernel_rfl
theorem an2 (w : World) : (nilAhead 197 66 (.agg #[.int .i64 100000]) "loop.example/graphviews/impl.noPath").run Try.prog w = .ok (some false) w := by kernel_rfl
theorem me2 (w : World) : (method 197 66 (.agg #[.int .i64 100000]) "loop.example/graphviews/impl.emptyPath").run Try.prog w = .ok (83, .agg #[.int .i64 100000]) w := by kernel_rfl
theorem ae2 (w : World) : (nilAhead 197 66 (.agg #[.int .i64 100000]) "loop.example/graphviews/impl.emptyPath").run Try.prog w = .ok (some false) w := by kernel_rfl
theorem mo2 (w : World) : (method 197 66 (.agg #[.int .i64 100000]) "loop.example/graphviews/impl.ofEdge").run Try.prog w = .ok (80, .agg #[]) w := by kernel_rfl
theorem ao2 (w : World) : (nilAhead 197 66 (.agg #[.int .i64 100000]) "loop.example/graphviews/impl.ofEdge").run Try.prog w = .ok (some false) w := by kernel_rfl
theorem mj2 (w : World) : (method 197 66 (.agg #[.int .i64 100000]) "loop.example/graphviews/impl.join").run Try.prog w = .ok (85, .agg #[]) w := by kernel_rfl
theorem aj2 (w : World) : (nilAhead 197 66 (.agg #[.int .i64 100000]) "loop.example/graphviews/impl.join").run Try.prog w = .ok (some false) w := by kernel_rfl
theorem mb3 (w : World) : (method 197 69 (.agg #[]) "loop.example/graphviews/impl.better").run Try.prog w = .ok (77, .agg #[]) w := by kernel_rfl
theorem ab3 (w : World) : (nilAhead 197 69 (.agg #[]) "loop.example/graphviews/impl.better").run Try.prog w = .ok (some false) w := by kernel_rfl
theorem mn3 (w : World) : (method 197 69 (.agg #[]) "loop.example/graphviews/impl.noPath").run Try.prog w = .ok (79, .agg #[]) w := by kernel_rfl
theorem an3 (w : World) : (nilAhead 197 69 (.agg #[]) "loop.example/graphviews/impl.noPath").run Try.prog w = .ok (some false) w := by kernel_rfl
theorem me3 (w : World) : (method 197 69 (.agg #[]) "loop.example/graphviews/impl.emptyPath").run Try.prog w = .ok (78, .agg #[]) w := by kernel_rfl
theorem ae3 (w : World) : (nilAhead 197 69 (.agg #[]) "loop.example/graphviews/impl.emptyPath").run Try.prog w = .ok (some false) w := by kernel_rfl
theorem mo3 (w : World) : (method 197 69 (.agg #[]) "loop.example/graphviews/impl.ofEdge").run Try.prog w = .ok (80, .agg #[]) w := by kernel_rfl
theorem ao3 (w : World) : (nilAhead 197 69 (.agg #[]) "loop.example/graphviews/impl.ofEdge").run Try.prog w = .ok (some false) w := by kernel_rfl
theorem mj3 (w : World) : (method 197 69 (.agg #[]) "loop.example/graphviews/impl.join").run Try.prog w = .ok (86, .agg #[]) w := by kernel_rfl
theorem aj3 (w : World) : (nilAhead 197 69 (.agg #[]) "loop.example/graphviews/impl.join").run Try.prog w = .ok (some false) w := by kernel_rfl
theorem mb4 (w : World) : (method 197 72 (.agg #[.int .i64 1]) "loop.example/graphviews/impl.better").run Try.prog w = .ok (82, .agg #[.int .i64 1]) w := by kernel_rfl
theorem ab4 (w : World) : (nilAhead 197 72 (.agg #[.int .i64 1]) "loop.example/graphviews/impl.better").run Try.prog w = .ok (some false) w := by kernel_rfl
theorem mn4 (w : World) : (method 197 72 (.agg #[.int .i64 1]) "loop.example/graphviews/impl.noPath").run Try.prog w = .ok (84, .agg #[.int .i64 1]) w := by kernel_rfl
theorem an4 (w : World) : (nilAhead 197 72 (.agg #[.int .i64 1]) "loop.example/graphviews/impl.noPath").run Try.prog w = .ok (some false) w := by kernel_rfl
theorem me4 (w : World) : (method 197 72 (.agg #[.int .i64 1]) "loop.example/graphviews/impl.emptyPath").run Try.prog w = .ok (83, .agg #[.int .i64 1]) w := by kernel_rfl
theorem ae4 (w : World) : (nilAhead 197 72 (.agg #[.int .i64 1]) "loop.example/graphviews/impl.emptyPath").run Try.prog w = .ok (some false) w := by kernel_rfl
theorem mo4 (w : World) : (method 197 72 (.agg #[.int .i64 1]) "loop.example/graphviews/impl.ofEdge").run Try.prog w = .ok (87, .agg #[]) w := by kernel_rfl
theorem ao4 (w : World) : (nilAhead 197 72 (.agg #[.int .i64 1]) "loop.example/graphviews/impl.ofEdge").run Try.prog w = .ok (some false) w := by kernel_rfl
theorem mj4 (w : World) : (method 197 72 (.agg #[.int .i64 1]) "loop.example/graphviews/impl.join").run Try.prog w = .ok (85, .agg #[]) w := by kernel_rfl
theorem aj4 (w : World) : (nilAhead 197 72 (.agg #[.int .i64 1]) "loop.example/graphviews/impl.join").run Try.prog w = .ok (some false) w := by kernel_rfl
theorem mb5 (w : World) : (method 197 74 (.agg #[]) "loop.example/graphviews/impl.better").run Try.prog w = .ok (77, .agg #[]) w := by kernel_rfl
theorem ab5 (w : World) : (nilAhead 197 74 (.agg #[]) "loop.example/graphviews/impl.better").run Try.prog w = .ok (some false) w := by kernel_rfl
theorem mn5 (w : World) : (method 197 74 (.agg #[]) "loop.example/graphviews/impl.noPath").run Try.prog w = .ok (79, .agg #[]) w := by kernel_rfl
theorem an5 (w : World) : (nilAhead 197 74 (.agg #[]) "loop.example/graphviews/impl.noPath").run Try.prog w = .ok (some false) w := by kernel_rfl
theorem me5 (w : World) : (method 197 74 (.agg #[]) "loop.example/graphviews/impl.emptyPath").run Try.prog w = .ok (78, .agg #[]) w := by kernel_rfl
theorem ae5 (w : World) : (nilAhead 197 74 (.agg #[]) "loop.example/graphviews/impl.emptyPath").run Try.prog w = .ok (some false) w := by kernel_rfl
theorem mo5 (w : World) : (method 197 74 (.agg #[]) "loop.example/graphviews/impl.ofEdge").run Try.prog w = .ok (87, .agg #[]) w := by kernel_rfl
theorem ao5 (w : World) : (nilAhead 197 74 (.agg #[]) "loop.example/graphviews/impl.ofEdge").run Try.prog w = .ok (some false) w := by kernel_rfl
theorem mj5 (w : World) : (method 197 74 (.agg #[]) "loop.example/graphviews/impl.join").run Try.prog w = .ok (81, .agg #[]) w := by kernel_rfl
theorem aj5 (w : World) : (nilAhead 197 74 (.agg #[]) "loop.example/graphviews/impl.join").run Try.prog w = .ok (some false) w := by kernel_rfl
end Go.Proofs.Ytmiomafgfeofnaa
