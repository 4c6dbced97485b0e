/- The five kinds of operations of measures, as the program has them: what the methods do, and isMeasure. 'isMeasure' answers whether a number lies between the measures of no path and of the empty path. 'operationsFor' answers with the operations of a kind if all numbers are measures of it. What the exported functions of measures answer. -/
import Derived.Test.YtlgjcofpdaljnaaBase
import Derived.Lib.Hide
namespace Go.Proofs.Ytlgjcofpdaljnaa
open Go.RowKit
set_option linter.unusedVariables false
set_option linter.unusedSimpArgs false

/-- The value of the operations of a kind. -/
def opsV (m : Int) : Value :=
  if m = 1 then .iface 115 (.agg #[]) else if m = 2 then .iface 120 (.agg #[.int .i64 100000])
  else if m = 3 then .iface 123 (.agg #[]) else if m = 4 then .iface 126 (.agg #[.int .i64 1]) else .iface 128 (.agg #[])

/-! what the methods do -/
theorem less_no (w : World) : Calls Try.prog 160 #[.agg #[]] w fun e w' => e = .returned (.int .i64 100000) ∧ Below w.heap.size w w' := by
  go_enter Try.func160, Try.ntmps160
  go_wp2
  go_ret
  exact ⟨rfl, (Below.refl _ _).alloc (Nat.le_refl _) _⟩
theorem less_empty (w : World) : Calls Try.prog 159 #[.agg #[]] w fun e w' => e = .returned (.int .i64 0) ∧ Below w.heap.size w w' := by
  go_enter Try.func159, Try.ntmps159
  go_wp2
  go_ret
  exact ⟨rfl, (Below.refl _ _).alloc (Nat.le_refl _) _⟩
theorem less_better (a b : Int) (w : World) : Calls Try.prog 158 #[.agg #[], .int .i64 a, .int .i64 b] w fun e w' => e = .returned (.bool (decide (a < b))) ∧ Below w.heap.size w w' := by
  go_enter Try.func158, Try.ntmps158
  go_wp2
  go_ret
  exact ⟨rfl, (Below.refl _ _).alloc (Nat.le_refl _) _⟩
theorem more_no (x : Int) (w : World) : Calls Try.prog 165 #[.agg #[.int .i64 x]] w fun e w' => e = .returned (.int .i64 0) ∧ Below w.heap.size w w' := by
  go_enter Try.func165, Try.ntmps165
  go_wp2
  go_ret
  exact ⟨rfl, (Below.refl _ _).alloc (Nat.le_refl _) _⟩
theorem more_empty (x : Int) (w : World) : Calls Try.prog 164 #[.agg #[.int .i64 x]] w fun e w' => e = .returned (.int .i64 x) ∧ Below w.heap.size w w' := by
  go_enter Try.func164, Try.ntmps164
  go_wp2
  go_ret
  exact ⟨rfl, (Below.refl _ _).alloc (Nat.le_refl _) _⟩
theorem more_better (x a b : Int) (w : World) : Calls Try.prog 163 #[.agg #[.int .i64 x], .int .i64 a, .int .i64 b] w fun e w' => e = .returned (.bool (decide (b < a))) ∧ Below w.heap.size w w' := by
  go_enter Try.func163, Try.ntmps163
  go_wp2
  go_ret
  exact ⟨rfl, (Below.refl _ _).alloc (Nat.le_refl _) _⟩

/-! the tables of methods -/
theorem mb1 (w : World) : (method 308 115 (.agg #[]) "loop.example/graphviews/impl.better").run Try.prog w = .ok (158, .agg #[]) w := by kernel_rfl
theorem ab1 (w : World) : (nilAhead 308 115 (.agg #[]) "loop.example/graphviews/impl.better").run Try.prog w = .ok (some false) w := by kernel_rfl
theorem mn1 (w : World) : (method 308 115 (.agg #[]) "loop.example/graphviews/impl.noPath").run Try.prog w = .ok (160, .agg #[]) w := by kernel_rfl
theorem an1 (w : World) : (nilAhead 308 115 (.agg #[]) "loop.example/graphviews/impl.noPath").run Try.prog w = .ok (some false) w := by kernel_rfl
theorem me1 (w : World) : (method 308 115 (.agg #[]) "loop.example/graphviews/impl.emptyPath").run Try.prog w = .ok (159, .agg #[]) w := by kernel_rfl
theorem ae1 (w : World) : (nilAhead 308 115 (.agg #[]) "loop.example/graphviews/impl.emptyPath").run Try.prog w = .ok (some false) w := by kernel_rfl
theorem mo1 (w : World) : (method 308 115 (.agg #[]) "loop.example/graphviews/impl.ofEdge").run Try.prog w = .ok (161, .agg #[]) w := by kernel_rfl
theorem ao1 (w : World) : (nilAhead 308 115 (.agg #[]) "loop.example/graphviews/impl.ofEdge").run Try.prog w = .ok (some false) w := by kernel_rfl
theorem mj1 (w : World) : (method 308 115 (.agg #[]) "loop.example/graphviews/impl.join").run Try.prog w = .ok (162, .agg #[]) w := by kernel_rfl
theorem aj1 (w : World) : (nilAhead 308 115 (.agg #[]) "loop.example/graphviews/impl.join").run Try.prog w = .ok (some false) w := by kernel_rfl
theorem mb2 (w : World) : (method 308 120 (.agg #[.int .i64 100000]) "loop.example/graphviews/impl.better").run Try.prog w = .ok (163, .agg #[.int .i64 100000]) w := by kernel_rfl
theorem ab2 (w : World) : (nilAhead 308 120 (.agg #[.int .i64 100000]) "loop.example/graphviews/impl.better").run Try.prog w = .ok (some false) w := by kernel_rfl
theorem mn2 (w : World) : (method 308 120 (.agg #[.int .i64 100000]) "loop.example/graphviews/impl.noPath").run Try.prog w = .ok (165, .agg #[.int .i64 100000]) w := by kernel_rfl
theorem an2 (w : World) : (nilAhead 308 120 (.agg #[.int .i64 100000]) "loop.example/graphviews/impl.noPath").run Try.prog w = .ok (some false) w := by kernel_rfl
theorem me2 (w : World) : (method 308 120 (.agg #[.int .i64 100000]) "loop.example/graphviews/impl.emptyPath").run Try.prog w = .ok (164, .agg #[.int .i64 100000]) w := by kernel_rfl
theorem ae2 (w : World) : (nilAhead 308 120 (.agg #[.int .i64 100000]) "loop.example/graphviews/impl.emptyPath").run Try.prog w = .ok (some false) w := by kernel_rfl
theorem mo2 (w : World) : (method 308 120 (.agg #[.int .i64 100000]) "loop.example/graphviews/impl.ofEdge").run Try.prog w = .ok (161, .agg #[]) w := by kernel_rfl
theorem ao2 (w : World) : (nilAhead 308 120 (.agg #[.int .i64 100000]) "loop.example/graphviews/impl.ofEdge").run Try.prog w = .ok (some false) w := by kernel_rfl
theorem mj2 (w : World) : (method 308 120 (.agg #[.int .i64 100000]) "loop.example/graphviews/impl.join").run Try.prog w = .ok (166, .agg #[]) w := by kernel_rfl
theorem aj2 (w : World) : (nilAhead 308 120 (.agg #[.int .i64 100000]) "loop.example/graphviews/impl.join").run Try.prog w = .ok (some false) w := by kernel_rfl
theorem mb3 (w : World) : (method 308 123 (.agg #[]) "loop.example/graphviews/impl.better").run Try.prog w = .ok (158, .agg #[]) w := by kernel_rfl
theorem ab3 (w : World) : (nilAhead 308 123 (.agg #[]) "loop.example/graphviews/impl.better").run Try.prog w = .ok (some false) w := by kernel_rfl
theorem mn3 (w : World) : (method 308 123 (.agg #[]) "loop.example/graphviews/impl.noPath").run Try.prog w = .ok (160, .agg #[]) w := by kernel_rfl
theorem an3 (w : World) : (nilAhead 308 123 (.agg #[]) "loop.example/graphviews/impl.noPath").run Try.prog w = .ok (some false) w := by kernel_rfl
theorem me3 (w : World) : (method 308 123 (.agg #[]) "loop.example/graphviews/impl.emptyPath").run Try.prog w = .ok (159, .agg #[]) w := by kernel_rfl
theorem ae3 (w : World) : (nilAhead 308 123 (.agg #[]) "loop.example/graphviews/impl.emptyPath").run Try.prog w = .ok (some false) w := by kernel_rfl
theorem mo3 (w : World) : (method 308 123 (.agg #[]) "loop.example/graphviews/impl.ofEdge").run Try.prog w = .ok (161, .agg #[]) w := by kernel_rfl
theorem ao3 (w : World) : (nilAhead 308 123 (.agg #[]) "loop.example/graphviews/impl.ofEdge").run Try.prog w = .ok (some false) w := by kernel_rfl
theorem mj3 (w : World) : (method 308 123 (.agg #[]) "loop.example/graphviews/impl.join").run Try.prog w = .ok (167, .agg #[]) w := by kernel_rfl
theorem aj3 (w : World) : (nilAhead 308 123 (.agg #[]) "loop.example/graphviews/impl.join").run Try.prog w = .ok (some false) w := by kernel_rfl
theorem mb4 (w : World) : (method 308 126 (.agg #[.int .i64 1]) "loop.example/graphviews/impl.better").run Try.prog w = .ok (163, .agg #[.int .i64 1]) w := by kernel_rfl
theorem ab4 (w : World) : (nilAhead 308 126 (.agg #[.int .i64 1]) "loop.example/graphviews/impl.better").run Try.prog w = .ok (some false) w := by kernel_rfl
theorem mn4 (w : World) : (method 308 126 (.agg #[.int .i64 1]) "loop.example/graphviews/impl.noPath").run Try.prog w = .ok (165, .agg #[.int .i64 1]) w := by kernel_rfl
theorem an4 (w : World) : (nilAhead 308 126 (.agg #[.int .i64 1]) "loop.example/graphviews/impl.noPath").run Try.prog w = .ok (some false) w := by kernel_rfl
theorem me4 (w : World) : (method 308 126 (.agg #[.int .i64 1]) "loop.example/graphviews/impl.emptyPath").run Try.prog w = .ok (164, .agg #[.int .i64 1]) w := by kernel_rfl
theorem ae4 (w : World) : (nilAhead 308 126 (.agg #[.int .i64 1]) "loop.example/graphviews/impl.emptyPath").run Try.prog w = .ok (some false) w := by kernel_rfl
theorem mo4 (w : World) : (method 308 126 (.agg #[.int .i64 1]) "loop.example/graphviews/impl.ofEdge").run Try.prog w = .ok (168, .agg #[]) w := by kernel_rfl
theorem ao4 (w : World) : (nilAhead 308 126 (.agg #[.int .i64 1]) "loop.example/graphviews/impl.ofEdge").run Try.prog w = .ok (some false) w := by kernel_rfl
theorem mj4 (w : World) : (method 308 126 (.agg #[.int .i64 1]) "loop.example/graphviews/impl.join").run Try.prog w = .ok (166, .agg #[]) w := by kernel_rfl
theorem aj4 (w : World) : (nilAhead 308 126 (.agg #[.int .i64 1]) "loop.example/graphviews/impl.join").run Try.prog w = .ok (some false) w := by kernel_rfl
theorem mb5 (w : World) : (method 308 128 (.agg #[]) "loop.example/graphviews/impl.better").run Try.prog w = .ok (158, .agg #[]) w := by kernel_rfl
theorem ab5 (w : World) : (nilAhead 308 128 (.agg #[]) "loop.example/graphviews/impl.better").run Try.prog w = .ok (some false) w := by kernel_rfl
theorem mn5 (w : World) : (method 308 128 (.agg #[]) "loop.example/graphviews/impl.noPath").run Try.prog w = .ok (160, .agg #[]) w := by kernel_rfl
theorem an5 (w : World) : (nilAhead 308 128 (.agg #[]) "loop.example/graphviews/impl.noPath").run Try.prog w = .ok (some false) w := by kernel_rfl
theorem me5 (w : World) : (method 308 128 (.agg #[]) "loop.example/graphviews/impl.emptyPath").run Try.prog w = .ok (159, .agg #[]) w := by kernel_rfl
theorem ae5 (w : World) : (nilAhead 308 128 (.agg #[]) "loop.example/graphviews/impl.emptyPath").run Try.prog w = .ok (some false) w := by kernel_rfl
theorem mo5 (w : World) : (method 308 128 (.agg #[]) "loop.example/graphviews/impl.ofEdge").run Try.prog w = .ok (168, .agg #[]) w := by kernel_rfl
theorem ao5 (w : World) : (nilAhead 308 128 (.agg #[]) "loop.example/graphviews/impl.ofEdge").run Try.prog w = .ok (some false) w := by kernel_rfl
theorem mj5 (w : World) : (method 308 128 (.agg #[]) "loop.example/graphviews/impl.join").run Try.prog w = .ok (162, .agg #[]) w := by kernel_rfl
theorem aj5 (w : World) : (nilAhead 308 128 (.agg #[]) "loop.example/graphviews/impl.join").run Try.prog w = .ok (some false) w := by kernel_rfl
end Go.Proofs.Ytlgjcofpdaljnaa
namespace Go.Proofs.Ytlgjcofpdaljnaa
open Go.RowKit Go.BigFrame
set_option linter.unusedVariables false
set_option linter.unusedSimpArgs false

theorem is1 (x : Int) (w : World) : Calls Try.prog 46 #[.iface 115 (.agg #[]), .int .i64 x] w fun e w' => e = .returned (.bool (mIn 1 x)) ∧ Below w.heap.size w w' := by
  have hb := ab1
  have h1 := mb1
  have h2 := mn1
  have h3 := me1
  have e0 : mIn 1 x = (!decide (100000 < x) && !decide (x < 0)) := rfl
  by_cases hx : 100000 < x
  · have hd : decide (100000 < x) = true := by simpa using hx
    have he : mIn 1 x = false := by rw [e0, hd]; rfl
    rw [he]
    clear e0 he
    go_enter Try.func46, Try.ntmps46
    go_wp2_with fail
    refine wp_region_below (by kernel_rfl) (by kernel_rfl) ?_
    repeat (go_big_quiet_step ((intro hw; first | with_reducible rfl | (go_at_call 160; exact quietB (less_no _) hw) | (go_at_call 159; exact quietB (less_empty _) hw) | (go_at_call 158; exact quietB (less_better _ _ _) hw))))
    refine wpQuiet_nil ?_
    intro w1 hw1
    go_wp2
    go_ret
    exact ⟨rfl, hw1⟩
  · have hd : decide (100000 < x) = false := by simpa using hx
    have he : mIn 1 x = !decide (x < 0) := by rw [e0, hd]; rfl
    rw [he]
    clear e0 he
    go_enter Try.func46, Try.ntmps46
    go_wp2_with fail
    refine wp_region_below (by kernel_rfl) (by kernel_rfl) ?_
    repeat (go_big_quiet_step ((intro hw; first | with_reducible rfl | (go_at_call 160; exact quietB (less_no _) hw) | (go_at_call 159; exact quietB (less_empty _) hw) | (go_at_call 158; exact quietB (less_better _ _ _) hw))))
    refine wpQuiet_nil ?_
    intro w1 hw1
    go_wp2
    go_ret
    exact ⟨rfl, hw1⟩

theorem is2 (x : Int) (w : World) : Calls Try.prog 46 #[.iface 120 (.agg #[.int .i64 100000]), .int .i64 x] w fun e w' => e = .returned (.bool (mIn 2 x)) ∧ Below w.heap.size w w' := by
  have hb := ab2
  have h1 := mb2
  have h2 := mn2
  have h3 := me2
  have e0 : mIn 2 x = (!decide (x < 0) && !decide (100000 < x)) := rfl
  by_cases hx : x < 0
  · have hd : decide (x < 0) = true := by simpa using hx
    have he : mIn 2 x = false := by rw [e0, hd]; rfl
    rw [he]
    clear e0 he
    go_enter Try.func46, Try.ntmps46
    go_wp2_with fail
    refine wp_region_below (by kernel_rfl) (by kernel_rfl) ?_
    repeat (go_big_quiet_step ((intro hw; first | with_reducible rfl | (go_at_call 165; exact quietB (more_no _ _) hw) | (go_at_call 164; exact quietB (more_empty _ _) hw) | (go_at_call 163; exact quietB (more_better _ _ _ _) hw))))
    refine wpQuiet_nil ?_
    intro w1 hw1
    go_wp2
    go_ret
    exact ⟨rfl, hw1⟩
  · have hd : decide (x < 0) = false := by simpa using hx
    have he : mIn 2 x = !decide (100000 < x) := by rw [e0, hd]; rfl
    rw [he]
    clear e0 he
    go_enter Try.func46, Try.ntmps46
    go_wp2_with fail
    refine wp_region_below (by kernel_rfl) (by kernel_rfl) ?_
    repeat (go_big_quiet_step ((intro hw; first | with_reducible rfl | (go_at_call 165; exact quietB (more_no _ _) hw) | (go_at_call 164; exact quietB (more_empty _ _) hw) | (go_at_call 163; exact quietB (more_better _ _ _ _) hw))))
    refine wpQuiet_nil ?_
    intro w1 hw1
    go_wp2
    go_ret
    exact ⟨rfl, hw1⟩

theorem is3 (x : Int) (w : World) : Calls Try.prog 46 #[.iface 123 (.agg #[]), .int .i64 x] w fun e w' => e = .returned (.bool (mIn 3 x)) ∧ Below w.heap.size w w' := by
  have hb := ab3
  have h1 := mb3
  have h2 := mn3
  have h3 := me3
  have e0 : mIn 3 x = (!decide (100000 < x) && !decide (x < 0)) := rfl
  by_cases hx : 100000 < x
  · have hd : decide (100000 < x) = true := by simpa using hx
    have he : mIn 3 x = false := by rw [e0, hd]; rfl
    rw [he]
    clear e0 he
    go_enter Try.func46, Try.ntmps46
    go_wp2_with fail
    refine wp_region_below (by kernel_rfl) (by kernel_rfl) ?_
    repeat (go_big_quiet_step ((intro hw; first | with_reducible rfl | (go_at_call 160; exact quietB (less_no _) hw) | (go_at_call 159; exact quietB (less_empty _) hw) | (go_at_call 158; exact quietB (less_better _ _ _) hw))))
    refine wpQuiet_nil ?_
    intro w1 hw1
    go_wp2
    go_ret
    exact ⟨rfl, hw1⟩
  · have hd : decide (100000 < x) = false := by simpa using hx
    have he : mIn 3 x = !decide (x < 0) := by rw [e0, hd]; rfl
    rw [he]
    clear e0 he
    go_enter Try.func46, Try.ntmps46
    go_wp2_with fail
    refine wp_region_below (by kernel_rfl) (by kernel_rfl) ?_
    repeat (go_big_quiet_step ((intro hw; first | with_reducible rfl | (go_at_call 160; exact quietB (less_no _) hw) | (go_at_call 159; exact quietB (less_empty _) hw) | (go_at_call 158; exact quietB (less_better _ _ _) hw))))
    refine wpQuiet_nil ?_
    intro w1 hw1
    go_wp2
    go_ret
    exact ⟨rfl, hw1⟩

theorem is4 (x : Int) (w : World) : Calls Try.prog 46 #[.iface 126 (.agg #[.int .i64 1]), .int .i64 x] w fun e w' => e = .returned (.bool (mIn 4 x)) ∧ Below w.heap.size w w' := by
  have hb := ab4
  have h1 := mb4
  have h2 := mn4
  have h3 := me4
  have e0 : mIn 4 x = (!decide (x < 0) && !decide (1 < x)) := rfl
  by_cases hx : x < 0
  · have hd : decide (x < 0) = true := by simpa using hx
    have he : mIn 4 x = false := by rw [e0, hd]; rfl
    rw [he]
    clear e0 he
    go_enter Try.func46, Try.ntmps46
    go_wp2_with fail
    refine wp_region_below (by kernel_rfl) (by kernel_rfl) ?_
    repeat (go_big_quiet_step ((intro hw; first | with_reducible rfl | (go_at_call 165; exact quietB (more_no _ _) hw) | (go_at_call 164; exact quietB (more_empty _ _) hw) | (go_at_call 163; exact quietB (more_better _ _ _ _) hw))))
    refine wpQuiet_nil ?_
    intro w1 hw1
    go_wp2
    go_ret
    exact ⟨rfl, hw1⟩
  · have hd : decide (x < 0) = false := by simpa using hx
    have he : mIn 4 x = !decide (1 < x) := by rw [e0, hd]; rfl
    rw [he]
    clear e0 he
    go_enter Try.func46, Try.ntmps46
    go_wp2_with fail
    refine wp_region_below (by kernel_rfl) (by kernel_rfl) ?_
    repeat (go_big_quiet_step ((intro hw; first | with_reducible rfl | (go_at_call 165; exact quietB (more_no _ _) hw) | (go_at_call 164; exact quietB (more_empty _ _) hw) | (go_at_call 163; exact quietB (more_better _ _ _ _) hw))))
    refine wpQuiet_nil ?_
    intro w1 hw1
    go_wp2
    go_ret
    exact ⟨rfl, hw1⟩

theorem is5 (x : Int) (w : World) : Calls Try.prog 46 #[.iface 128 (.agg #[]), .int .i64 x] w fun e w' => e = .returned (.bool (mIn 5 x)) ∧ Below w.heap.size w w' := by
  have hb := ab5
  have h1 := mb5
  have h2 := mn5
  have h3 := me5
  have e0 : mIn 5 x = (!decide (100000 < x) && !decide (x < 0)) := rfl
  by_cases hx : 100000 < x
  · have hd : decide (100000 < x) = true := by simpa using hx
    have he : mIn 5 x = false := by rw [e0, hd]; rfl
    rw [he]
    clear e0 he
    go_enter Try.func46, Try.ntmps46
    go_wp2_with fail
    refine wp_region_below (by kernel_rfl) (by kernel_rfl) ?_
    repeat (go_big_quiet_step ((intro hw; first | with_reducible rfl | (go_at_call 160; exact quietB (less_no _) hw) | (go_at_call 159; exact quietB (less_empty _) hw) | (go_at_call 158; exact quietB (less_better _ _ _) hw))))
    refine wpQuiet_nil ?_
    intro w1 hw1
    go_wp2
    go_ret
    exact ⟨rfl, hw1⟩
  · have hd : decide (100000 < x) = false := by simpa using hx
    have he : mIn 5 x = !decide (x < 0) := by rw [e0, hd]; rfl
    rw [he]
    clear e0 he
    go_enter Try.func46, Try.ntmps46
    go_wp2_with fail
    refine wp_region_below (by kernel_rfl) (by kernel_rfl) ?_
    repeat (go_big_quiet_step ((intro hw; first | with_reducible rfl | (go_at_call 160; exact quietB (less_no _) hw) | (go_at_call 159; exact quietB (less_empty _) hw) | (go_at_call 158; exact quietB (less_better _ _ _) hw))))
    refine wpQuiet_nil ?_
    intro w1 hw1
    go_wp2
    go_ret
    exact ⟨rfl, hw1⟩

theorem is_any {m : Int} (hm : mKind m = true) (x : Int) (w : World) : Calls Try.prog 46 #[opsV m, .int .i64 x] w fun e w' => e = .returned (.bool (mIn m x)) ∧ Below w.heap.size w w' := by
  rcases mKind_cases hm with rfl | rfl | rfl | rfl | rfl
  · exact is1 x w
  · exact is2 x w
  · exact is3 x w
  · exact is4 x w
  · exact is5 x w
end Go.Proofs.Ytlgjcofpdaljnaa
namespace Go.Proofs.Ytlgjcofpdaljnaa
open Go.RowKit Go.BigFrame
set_option linter.unusedVariables false
set_option linter.unusedSimpArgs false

/-- What comes back. -/
def opsR (m : Int) (b : Bool) : Value := if b = true then opsV m else .nilIface
set_option maxHeartbeats 800000 in
theorem opsFor1 (zs : List Int) (s : Value) (w : World) (hr : Row w s zs) (hl : zs.length ≤ 281474976710656) :
    Calls Try.prog 43 #[.int .i64 1, s] w fun e w' => e = .returned (.tuple #[opsR 1 (zs.all (mIn 1)), .bool (zs.all (mIn 1))]) ∧ Below w.heap.size w w' := by
  obtain ⟨a, cap, rfl, hz0⟩ := hr
  have hz := Lib.hid hz0
  clear hz0
  go_enter Try.func43, Try.ntmps43
  go_wp2
  go_loopw [27] (fun c wr => ∃ k : Nat, k ≤ zs.length ∧ c = .int .i64 k ∧ (zs.take k).all (mIn 1) = true ∧ Below w.heap.size w wr ∧ wr.cell? ⟨w.heap.size, 1, none⟩ = some (.iface 115 (.agg #[])) ∧ w.heap.size < wr.heap.size) (fun c _ => zs.length - (intOf c).toNat)
  case atStart => exact ⟨0, Nat.zero_le _, rfl, rfl, (Below.refl _ _).alloc (Nat.le_refl _) _, by go_simp, by simp⟩
  case round =>
    obtain ⟨k, hk, rfl, hall, hbel, hcell, hsz⟩ := hrel
    by_cases hlt : k < zs.length
    · have hlt' : (k : Int) < zs.length := by omega
      rcases hz.out with h0 | ⟨b, off, rfl, hb, hc⟩
      · rw [h0] at hlt; simp at hlt
      obtain ⟨x, hx⟩ : ∃ x, x = zs.getD k 0 := ⟨_, rfl⟩
      have hck : wr.cell? ⟨b, off + k, none⟩ = some (.int .i64 x) := by rw [hbel.cell (p := ⟨b, off + k, none⟩) hb, hx]; exact hc k hlt
      have hsn := all_snoc (mIn 1) zs k hlt
      have HA := Lib.hid hall
      have HS := Lib.hid hsn
      have HX := Lib.hid hx
      clear hc hall hsn hx
      cases hin : mIn 1 x
      · have hcon := is1 x wr
        rw [hin] at hcon
        have HC := Lib.hid hcon
        have HI := Lib.hid hin
        clear hin hcon
        go_wp2_with (go_at_call 46; refine (HC.out).mono ?_; rintro e w1 ⟨rfl, hb1⟩)
        have hf := all_false (mIn 1) zs k hlt (by rw [← HX.out]; exact HI.out)
        rw [hf]
        go_ret2
        exact ⟨rfl, bel_trans hbel hb1⟩
      · have hcon := is1 x wr
        rw [hin] at hcon
        have HC := Lib.hid hcon
        have HI := Lib.hid hin
        clear hin hcon
        go_wp2_with (go_at_call 46; refine (HC.out).mono ?_; rintro e w1 ⟨rfl, hb1⟩)
        go_roundw
        case rel => first | exact ⟨k + 1, by omega, by go_num, by rw [HS.out, HA.out, ← HX.out, HI.out]; rfl, bel_trans hbel hb1, by rw [hb1.cell (p := ⟨w.heap.size, 1, none⟩) hsz]; exact hcell, Nat.lt_of_lt_of_le hsz hb1.size⟩ | ((repeat apply Exists.intro); exact ⟨⟨k + 1, by omega, by go_num, by rw [HS.out, HA.out, ← HX.out, HI.out]; rfl, bel_trans hbel hb1, by rw [hb1.cell (p := ⟨w.heap.size, 1, none⟩) hsz]; exact hcell, Nat.lt_of_lt_of_le hsz hb1.size⟩, rfl⟩)
        case measure => simp [intOf]; omega
    · have hke : k = zs.length := by omega
      have hkk : ¬ ((k : Int) < zs.length) := by omega
      have hall' : zs.all (mIn 1) = true := by rw [hke, List.take_length] at hall; exact hall
      have HA := Lib.hid hall'
      have HK := Lib.hid hke
      clear hall hall' hke
      go_wp2
      rw [HA.out]
      go_ret2
      exact ⟨rfl, hbel⟩

set_option maxHeartbeats 800000 in
theorem opsFor2 (zs : List Int) (s : Value) (w : World) (hr : Row w s zs) (hl : zs.length ≤ 281474976710656) :
    Calls Try.prog 43 #[.int .i64 2, s] w fun e w' => e = .returned (.tuple #[opsR 2 (zs.all (mIn 2)), .bool (zs.all (mIn 2))]) ∧ Below w.heap.size w w' := by
  obtain ⟨a, cap, rfl, hz0⟩ := hr
  have hz := Lib.hid hz0
  clear hz0
  go_enter Try.func43, Try.ntmps43
  go_wp2
  go_loopw [27] (fun c wr => ∃ k : Nat, k ≤ zs.length ∧ c = .int .i64 k ∧ (zs.take k).all (mIn 2) = true ∧ Below w.heap.size w wr ∧ wr.cell? ⟨w.heap.size, 2, none⟩ = some (.iface 120 (.agg #[.int .i64 100000])) ∧ w.heap.size < wr.heap.size) (fun c _ => zs.length - (intOf c).toNat)
  case atStart => exact ⟨0, Nat.zero_le _, rfl, rfl, (Below.refl _ _).alloc (Nat.le_refl _) _, by go_simp, by simp⟩
  case round =>
    obtain ⟨k, hk, rfl, hall, hbel, hcell, hsz⟩ := hrel
    by_cases hlt : k < zs.length
    · have hlt' : (k : Int) < zs.length := by omega
      rcases hz.out with h0 | ⟨b, off, rfl, hb, hc⟩
      · rw [h0] at hlt; simp at hlt
      obtain ⟨x, hx⟩ : ∃ x, x = zs.getD k 0 := ⟨_, rfl⟩
      have hck : wr.cell? ⟨b, off + k, none⟩ = some (.int .i64 x) := by rw [hbel.cell (p := ⟨b, off + k, none⟩) hb, hx]; exact hc k hlt
      have hsn := all_snoc (mIn 2) zs k hlt
      have HA := Lib.hid hall
      have HS := Lib.hid hsn
      have HX := Lib.hid hx
      clear hc hall hsn hx
      cases hin : mIn 2 x
      · have hcon := is2 x wr
        rw [hin] at hcon
        have HC := Lib.hid hcon
        have HI := Lib.hid hin
        clear hin hcon
        go_wp2_with (go_at_call 46; refine (HC.out).mono ?_; rintro e w1 ⟨rfl, hb1⟩)
        have hf := all_false (mIn 2) zs k hlt (by rw [← HX.out]; exact HI.out)
        rw [hf]
        go_ret2
        exact ⟨rfl, bel_trans hbel hb1⟩
      · have hcon := is2 x wr
        rw [hin] at hcon
        have HC := Lib.hid hcon
        have HI := Lib.hid hin
        clear hin hcon
        go_wp2_with (go_at_call 46; refine (HC.out).mono ?_; rintro e w1 ⟨rfl, hb1⟩)
        go_roundw
        case rel => first | exact ⟨k + 1, by omega, by go_num, by rw [HS.out, HA.out, ← HX.out, HI.out]; rfl, bel_trans hbel hb1, by rw [hb1.cell (p := ⟨w.heap.size, 2, none⟩) hsz]; exact hcell, Nat.lt_of_lt_of_le hsz hb1.size⟩ | ((repeat apply Exists.intro); exact ⟨⟨k + 1, by omega, by go_num, by rw [HS.out, HA.out, ← HX.out, HI.out]; rfl, bel_trans hbel hb1, by rw [hb1.cell (p := ⟨w.heap.size, 2, none⟩) hsz]; exact hcell, Nat.lt_of_lt_of_le hsz hb1.size⟩, rfl⟩)
        case measure => simp [intOf]; omega
    · have hke : k = zs.length := by omega
      have hkk : ¬ ((k : Int) < zs.length) := by omega
      have hall' : zs.all (mIn 2) = true := by rw [hke, List.take_length] at hall; exact hall
      have HA := Lib.hid hall'
      have HK := Lib.hid hke
      clear hall hall' hke
      go_wp2
      rw [HA.out]
      go_ret2
      exact ⟨rfl, hbel⟩

set_option maxHeartbeats 800000 in
theorem opsFor3 (zs : List Int) (s : Value) (w : World) (hr : Row w s zs) (hl : zs.length ≤ 281474976710656) :
    Calls Try.prog 43 #[.int .i64 3, s] w fun e w' => e = .returned (.tuple #[opsR 3 (zs.all (mIn 3)), .bool (zs.all (mIn 3))]) ∧ Below w.heap.size w w' := by
  obtain ⟨a, cap, rfl, hz0⟩ := hr
  have hz := Lib.hid hz0
  clear hz0
  go_enter Try.func43, Try.ntmps43
  go_wp2
  go_loopw [27] (fun c wr => ∃ k : Nat, k ≤ zs.length ∧ c = .int .i64 k ∧ (zs.take k).all (mIn 3) = true ∧ Below w.heap.size w wr ∧ wr.cell? ⟨w.heap.size, 3, none⟩ = some (.iface 123 (.agg #[])) ∧ w.heap.size < wr.heap.size) (fun c _ => zs.length - (intOf c).toNat)
  case atStart => exact ⟨0, Nat.zero_le _, rfl, rfl, (Below.refl _ _).alloc (Nat.le_refl _) _, by go_simp, by simp⟩
  case round =>
    obtain ⟨k, hk, rfl, hall, hbel, hcell, hsz⟩ := hrel
    by_cases hlt : k < zs.length
    · have hlt' : (k : Int) < zs.length := by omega
      rcases hz.out with h0 | ⟨b, off, rfl, hb, hc⟩
      · rw [h0] at hlt; simp at hlt
      obtain ⟨x, hx⟩ : ∃ x, x = zs.getD k 0 := ⟨_, rfl⟩
      have hck : wr.cell? ⟨b, off + k, none⟩ = some (.int .i64 x) := by rw [hbel.cell (p := ⟨b, off + k, none⟩) hb, hx]; exact hc k hlt
      have hsn := all_snoc (mIn 3) zs k hlt
      have HA := Lib.hid hall
      have HS := Lib.hid hsn
      have HX := Lib.hid hx
      clear hc hall hsn hx
      cases hin : mIn 3 x
      · have hcon := is3 x wr
        rw [hin] at hcon
        have HC := Lib.hid hcon
        have HI := Lib.hid hin
        clear hin hcon
        go_wp2_with (go_at_call 46; refine (HC.out).mono ?_; rintro e w1 ⟨rfl, hb1⟩)
        have hf := all_false (mIn 3) zs k hlt (by rw [← HX.out]; exact HI.out)
        rw [hf]
        go_ret2
        exact ⟨rfl, bel_trans hbel hb1⟩
      · have hcon := is3 x wr
        rw [hin] at hcon
        have HC := Lib.hid hcon
        have HI := Lib.hid hin
        clear hin hcon
        go_wp2_with (go_at_call 46; refine (HC.out).mono ?_; rintro e w1 ⟨rfl, hb1⟩)
        go_roundw
        case rel => first | exact ⟨k + 1, by omega, by go_num, by rw [HS.out, HA.out, ← HX.out, HI.out]; rfl, bel_trans hbel hb1, by rw [hb1.cell (p := ⟨w.heap.size, 3, none⟩) hsz]; exact hcell, Nat.lt_of_lt_of_le hsz hb1.size⟩ | ((repeat apply Exists.intro); exact ⟨⟨k + 1, by omega, by go_num, by rw [HS.out, HA.out, ← HX.out, HI.out]; rfl, bel_trans hbel hb1, by rw [hb1.cell (p := ⟨w.heap.size, 3, none⟩) hsz]; exact hcell, Nat.lt_of_lt_of_le hsz hb1.size⟩, rfl⟩)
        case measure => simp [intOf]; omega
    · have hke : k = zs.length := by omega
      have hkk : ¬ ((k : Int) < zs.length) := by omega
      have hall' : zs.all (mIn 3) = true := by rw [hke, List.take_length] at hall; exact hall
      have HA := Lib.hid hall'
      have HK := Lib.hid hke
      clear hall hall' hke
      go_wp2
      rw [HA.out]
      go_ret2
      exact ⟨rfl, hbel⟩

set_option maxHeartbeats 800000 in
theorem opsFor4 (zs : List Int) (s : Value) (w : World) (hr : Row w s zs) (hl : zs.length ≤ 281474976710656) :
    Calls Try.prog 43 #[.int .i64 4, s] w fun e w' => e = .returned (.tuple #[opsR 4 (zs.all (mIn 4)), .bool (zs.all (mIn 4))]) ∧ Below w.heap.size w w' := by
  obtain ⟨a, cap, rfl, hz0⟩ := hr
  have hz := Lib.hid hz0
  clear hz0
  go_enter Try.func43, Try.ntmps43
  go_wp2
  go_loopw [27] (fun c wr => ∃ k : Nat, k ≤ zs.length ∧ c = .int .i64 k ∧ (zs.take k).all (mIn 4) = true ∧ Below w.heap.size w wr ∧ wr.cell? ⟨w.heap.size, 4, none⟩ = some (.iface 126 (.agg #[.int .i64 1])) ∧ w.heap.size < wr.heap.size) (fun c _ => zs.length - (intOf c).toNat)
  case atStart => exact ⟨0, Nat.zero_le _, rfl, rfl, (Below.refl _ _).alloc (Nat.le_refl _) _, by go_simp, by simp⟩
  case round =>
    obtain ⟨k, hk, rfl, hall, hbel, hcell, hsz⟩ := hrel
    by_cases hlt : k < zs.length
    · have hlt' : (k : Int) < zs.length := by omega
      rcases hz.out with h0 | ⟨b, off, rfl, hb, hc⟩
      · rw [h0] at hlt; simp at hlt
      obtain ⟨x, hx⟩ : ∃ x, x = zs.getD k 0 := ⟨_, rfl⟩
      have hck : wr.cell? ⟨b, off + k, none⟩ = some (.int .i64 x) := by rw [hbel.cell (p := ⟨b, off + k, none⟩) hb, hx]; exact hc k hlt
      have hsn := all_snoc (mIn 4) zs k hlt
      have HA := Lib.hid hall
      have HS := Lib.hid hsn
      have HX := Lib.hid hx
      clear hc hall hsn hx
      cases hin : mIn 4 x
      · have hcon := is4 x wr
        rw [hin] at hcon
        have HC := Lib.hid hcon
        have HI := Lib.hid hin
        clear hin hcon
        go_wp2_with (go_at_call 46; refine (HC.out).mono ?_; rintro e w1 ⟨rfl, hb1⟩)
        have hf := all_false (mIn 4) zs k hlt (by rw [← HX.out]; exact HI.out)
        rw [hf]
        go_ret2
        exact ⟨rfl, bel_trans hbel hb1⟩
      · have hcon := is4 x wr
        rw [hin] at hcon
        have HC := Lib.hid hcon
        have HI := Lib.hid hin
        clear hin hcon
        go_wp2_with (go_at_call 46; refine (HC.out).mono ?_; rintro e w1 ⟨rfl, hb1⟩)
        go_roundw
        case rel => first | exact ⟨k + 1, by omega, by go_num, by rw [HS.out, HA.out, ← HX.out, HI.out]; rfl, bel_trans hbel hb1, by rw [hb1.cell (p := ⟨w.heap.size, 4, none⟩) hsz]; exact hcell, Nat.lt_of_lt_of_le hsz hb1.size⟩ | ((repeat apply Exists.intro); exact ⟨⟨k + 1, by omega, by go_num, by rw [HS.out, HA.out, ← HX.out, HI.out]; rfl, bel_trans hbel hb1, by rw [hb1.cell (p := ⟨w.heap.size, 4, none⟩) hsz]; exact hcell, Nat.lt_of_lt_of_le hsz hb1.size⟩, rfl⟩)
        case measure => simp [intOf]; omega
    · have hke : k = zs.length := by omega
      have hkk : ¬ ((k : Int) < zs.length) := by omega
      have hall' : zs.all (mIn 4) = true := by rw [hke, List.take_length] at hall; exact hall
      have HA := Lib.hid hall'
      have HK := Lib.hid hke
      clear hall hall' hke
      go_wp2
      rw [HA.out]
      go_ret2
      exact ⟨rfl, hbel⟩

set_option maxHeartbeats 800000 in
theorem opsFor5 (zs : List Int) (s : Value) (w : World) (hr : Row w s zs) (hl : zs.length ≤ 281474976710656) :
    Calls Try.prog 43 #[.int .i64 5, s] w fun e w' => e = .returned (.tuple #[opsR 5 (zs.all (mIn 5)), .bool (zs.all (mIn 5))]) ∧ Below w.heap.size w w' := by
  obtain ⟨a, cap, rfl, hz0⟩ := hr
  have hz := Lib.hid hz0
  clear hz0
  go_enter Try.func43, Try.ntmps43
  go_wp2
  go_loopw [27] (fun c wr => ∃ k : Nat, k ≤ zs.length ∧ c = .int .i64 k ∧ (zs.take k).all (mIn 5) = true ∧ Below w.heap.size w wr ∧ wr.cell? ⟨w.heap.size, 5, none⟩ = some (.iface 128 (.agg #[])) ∧ w.heap.size < wr.heap.size) (fun c _ => zs.length - (intOf c).toNat)
  case atStart => exact ⟨0, Nat.zero_le _, rfl, rfl, (Below.refl _ _).alloc (Nat.le_refl _) _, by go_simp, by simp⟩
  case round =>
    obtain ⟨k, hk, rfl, hall, hbel, hcell, hsz⟩ := hrel
    by_cases hlt : k < zs.length
    · have hlt' : (k : Int) < zs.length := by omega
      rcases hz.out with h0 | ⟨b, off, rfl, hb, hc⟩
      · rw [h0] at hlt; simp at hlt
      obtain ⟨x, hx⟩ : ∃ x, x = zs.getD k 0 := ⟨_, rfl⟩
      have hck : wr.cell? ⟨b, off + k, none⟩ = some (.int .i64 x) := by rw [hbel.cell (p := ⟨b, off + k, none⟩) hb, hx]; exact hc k hlt
      have hsn := all_snoc (mIn 5) zs k hlt
      have HA := Lib.hid hall
      have HS := Lib.hid hsn
      have HX := Lib.hid hx
      clear hc hall hsn hx
      cases hin : mIn 5 x
      · have hcon := is5 x wr
        rw [hin] at hcon
        have HC := Lib.hid hcon
        have HI := Lib.hid hin
        clear hin hcon
        go_wp2_with (go_at_call 46; refine (HC.out).mono ?_; rintro e w1 ⟨rfl, hb1⟩)
        have hf := all_false (mIn 5) zs k hlt (by rw [← HX.out]; exact HI.out)
        rw [hf]
        go_ret2
        exact ⟨rfl, bel_trans hbel hb1⟩
      · have hcon := is5 x wr
        rw [hin] at hcon
        have HC := Lib.hid hcon
        have HI := Lib.hid hin
        clear hin hcon
        go_wp2_with (go_at_call 46; refine (HC.out).mono ?_; rintro e w1 ⟨rfl, hb1⟩)
        go_roundw
        case rel => first | exact ⟨k + 1, by omega, by go_num, by rw [HS.out, HA.out, ← HX.out, HI.out]; rfl, bel_trans hbel hb1, by rw [hb1.cell (p := ⟨w.heap.size, 5, none⟩) hsz]; exact hcell, Nat.lt_of_lt_of_le hsz hb1.size⟩ | ((repeat apply Exists.intro); exact ⟨⟨k + 1, by omega, by go_num, by rw [HS.out, HA.out, ← HX.out, HI.out]; rfl, bel_trans hbel hb1, by rw [hb1.cell (p := ⟨w.heap.size, 5, none⟩) hsz]; exact hcell, Nat.lt_of_lt_of_le hsz hb1.size⟩, rfl⟩)
        case measure => simp [intOf]; omega
    · have hke : k = zs.length := by omega
      have hkk : ¬ ((k : Int) < zs.length) := by omega
      have hall' : zs.all (mIn 5) = true := by rw [hke, List.take_length] at hall; exact hall
      have HA := Lib.hid hall'
      have HK := Lib.hid hke
      clear hall hall' hke
      go_wp2
      rw [HA.out]
      go_ret2
      exact ⟨rfl, hbel⟩

theorem opsFor_no (m : Int) (hm : mKind m = false) (s : Value) (w : World) :
    Calls Try.prog 43 #[.int .i64 m, s] w fun e w' => e = .returned (.tuple #[.nilIface, .bool false]) ∧ Below w.heap.size w w' := by
  rcases mKind_not hm with h | h
  · have h1 : ¬ (1 ≤ m) := by omega
    clear hm
    go_enter Try.func43, Try.ntmps43
    go_wp2
    go_ret2
    exact ⟨rfl, Below.refl _ _⟩
  · have h1 : 1 ≤ m := by omega
    have h2 : ¬ (m ≤ 5) := by omega
    clear hm
    go_enter Try.func43, Try.ntmps43
    go_wp2
    go_ret2
    exact ⟨rfl, Below.refl _ _⟩
theorem opsFor_any {m : Int} (hm : mKind m = true) (zs : List Int) (s : Value) (w : World) (hr : Row w s zs) (hl : zs.length ≤ 281474976710656) :
    Calls Try.prog 43 #[.int .i64 m, s] w fun e w' => e = .returned (.tuple #[opsR m (zs.all (mIn m)), .bool (zs.all (mIn m))]) ∧ Below w.heap.size w w' := by
  rcases mKind_cases hm with rfl | rfl | rfl | rfl | rfl
  · exact opsFor1 zs s w hr hl
  · exact opsFor2 zs s w hr hl
  · exact opsFor3 zs s w hr hl
  · exact opsFor4 zs s w hr hl
  · exact opsFor5 zs s w hr hl

end Go.Proofs.Ytlgjcofpdaljnaa
namespace Go.Proofs.Ytlgjcofpdaljnaa
open Go.RowKit Go.BigFrame
set_option linter.unusedVariables false
set_option linter.unusedSimpArgs false

theorem Row.below {w w' : World} {s : Value} {zs : List Int} (h : Row w s zs) (hb : Below w.heap.size w w') : Row w' s zs := by
  obtain ⟨a, cap, rfl, h⟩ := h
  refine ⟨a, cap, rfl, ?_⟩
  rcases h with h | ⟨b, off, rfl, hlt, hc⟩
  · exact .inl h
  · exact .inr ⟨b, off, rfl, Nat.lt_of_lt_of_le hlt hb.size, fun i hi => by rw [hb.cell (p := ⟨b, off + i, none⟩) hlt]; exact hc i hi⟩
theorem row_nil (w : World) : Row w (.slice none 0 0) [] := ⟨none, 0, rfl, .inl rfl⟩
theorem ret_int {k : IntKind} {a b : Int} (h : a = b) : Ending.returned (.int k a) = .returned (.int k b) := by rw [h]
theorem eweight (x : Int) (w : World) : Calls Try.prog 161 #[.agg #[], .int .i64 x] w fun e w' => e = .returned (.int .i64 x) ∧ Below w.heap.size w w' := by
  go_enter Try.func161, Try.ntmps161
  go_wp2
  all_goals
    go_ret
    exact ⟨ret_int (by omega), (Below.refl _ _).alloc (Nat.le_refl _) _⟩
theorem eone (x : Int) (w : World) : Calls Try.prog 168 #[.agg #[], .int .i64 x] w fun e w' => e = .returned (.int .i64 1) ∧ Below w.heap.size w w' := by
  go_enter Try.func168, Try.ntmps168
  go_wp2
  all_goals
    go_ret
    exact ⟨ret_int (by omega), (Below.refl _ _).alloc (Nat.le_refl _) _⟩
theorem jsum (a b : Int) (ha : 0 ≤ a) (ha2 : a ≤ 100000) (hb : 0 ≤ b) (hb2 : b ≤ 100000) (w : World) : Calls Try.prog 162 #[.agg #[], .int .i64 a, .int .i64 b] w fun e w' => e = .returned (.int .i64 (min (a + b) 100000)) ∧ Below w.heap.size w w' := by
  go_enter Try.func162, Try.ntmps162
  go_wp2
  all_goals
    go_ret
    exact ⟨ret_int (by omega), (Below.refl _ _).alloc (Nat.le_refl _) _⟩
theorem jless (a b : Int) (w : World) : Calls Try.prog 166 #[.agg #[], .int .i64 a, .int .i64 b] w fun e w' => e = .returned (.int .i64 (min a b)) ∧ Below w.heap.size w w' := by
  go_enter Try.func166, Try.ntmps166
  go_wp2
  all_goals
    go_ret
    exact ⟨ret_int (by omega), (Below.refl _ _).alloc (Nat.le_refl _) _⟩
theorem jmore (a b : Int) (w : World) : Calls Try.prog 167 #[.agg #[], .int .i64 a, .int .i64 b] w fun e w' => e = .returned (.int .i64 (max a b)) ∧ Below w.heap.size w w' := by
  go_enter Try.func167, Try.ntmps167
  go_wp2
  all_goals
    go_ret
    exact ⟨ret_int (by omega), (Below.refl _ _).alloc (Nat.le_refl _) _⟩

/-! kind 1 -/
theorem opsY1 (zs : List Int) (s : Value) (w : World) (hr : Row w s zs) (hl : zs.length ≤ 281474976710656) (ha : zs.all (mIn 1) = true) :
    Calls Try.prog 43 #[.int .i64 1, s] w fun e w' => e = .returned (.tuple #[.iface 115 (.agg #[]), .bool true]) ∧ Below w.heap.size w w' := by
  have h := opsFor1 zs s w hr hl
  rw [ha] at h
  exact h

/-! kind 2 -/
theorem opsY2 (zs : List Int) (s : Value) (w : World) (hr : Row w s zs) (hl : zs.length ≤ 281474976710656) (ha : zs.all (mIn 2) = true) :
    Calls Try.prog 43 #[.int .i64 2, s] w fun e w' => e = .returned (.tuple #[.iface 120 (.agg #[.int .i64 100000]), .bool true]) ∧ Below w.heap.size w w' := by
  have h := opsFor2 zs s w hr hl
  rw [ha] at h
  exact h

/-! kind 3 -/
theorem opsY3 (zs : List Int) (s : Value) (w : World) (hr : Row w s zs) (hl : zs.length ≤ 281474976710656) (ha : zs.all (mIn 3) = true) :
    Calls Try.prog 43 #[.int .i64 3, s] w fun e w' => e = .returned (.tuple #[.iface 123 (.agg #[]), .bool true]) ∧ Below w.heap.size w w' := by
  have h := opsFor3 zs s w hr hl
  rw [ha] at h
  exact h

/-! kind 4 -/
theorem opsY4 (zs : List Int) (s : Value) (w : World) (hr : Row w s zs) (hl : zs.length ≤ 281474976710656) (ha : zs.all (mIn 4) = true) :
    Calls Try.prog 43 #[.int .i64 4, s] w fun e w' => e = .returned (.tuple #[.iface 126 (.agg #[.int .i64 1]), .bool true]) ∧ Below w.heap.size w w' := by
  have h := opsFor4 zs s w hr hl
  rw [ha] at h
  exact h

/-! kind 5 -/
theorem opsY5 (zs : List Int) (s : Value) (w : World) (hr : Row w s zs) (hl : zs.length ≤ 281474976710656) (ha : zs.all (mIn 5) = true) :
    Calls Try.prog 43 #[.int .i64 5, s] w fun e w' => e = .returned (.tuple #[.iface 128 (.agg #[]), .bool true]) ∧ Below w.heap.size w w' := by
  have h := opsFor5 zs s w hr hl
  rw [ha] at h
  exact h

theorem opsN {m : Int} (hm : mKind m = true) (zs : List Int) (s : Value) (w : World) (hr : Row w s zs) (hl : zs.length ≤ 281474976710656) (ha : zs.all (mIn m) = false) :
    Calls Try.prog 43 #[.int .i64 m, s] w fun e w' => e = .returned (.tuple #[.nilIface, .bool false]) ∧ Below w.heap.size w w' := by
  have h := opsFor_any hm zs s w hr hl
  rw [ha] at h
  exact h
theorem opsN2 {m a b : Int} (h : bTwo m a b = false) (s : Value) (w : World) (hr : Row w s [a, b]) :
    Calls Try.prog 43 #[.int .i64 m, s] w fun e w' => e = .returned (.tuple #[.nilIface, .bool false]) ∧ Below w.heap.size w w' := by
  cases hm : mKind m
  · exact opsFor_no m hm s w
  · exact opsN hm [a, b] s w hr (by simp) (bTwo_not hm h)
/-- Two numbers that the caller has laid into an array of its own. -/
theorem row_two (w : World) (a b : Int) (t : TypeId) : Row (w.alloc (.cells #[.int .i64 a, .int .i64 b] t)) (.slice (some ⟨w.heap.size, 0, none⟩) 2 2) [a, b] :=
  ⟨_, 2, rfl, .inr ⟨_, _, rfl, by simp, by
    intro i hi
    have : i = 0 ∨ i = 1 := by simp at hi; omega
    rcases this with rfl | rfl <;> go_simp⟩⟩
theorem row_one (w : World) (a : Int) (t : TypeId) : Row (w.alloc (.cells #[.int .i64 a] t)) (.slice (some ⟨w.heap.size, 0, none⟩) 1 1) [a] :=
  ⟨_, 1, rfl, .inr ⟨_, _, rfl, by simp, by
    intro i hi
    have : i = 0 := by simp at hi; omega
    rcases this with rfl
    go_simp⟩⟩

end Go.Proofs.Ytlgjcofpdaljnaa
