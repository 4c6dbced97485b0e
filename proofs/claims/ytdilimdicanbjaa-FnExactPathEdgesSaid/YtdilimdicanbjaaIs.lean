/- 'isMeasure' answers whether a number lies between the measures of no path and of the empty path. -/
import Derived.Test.YtdilimdicanbjaaOps
namespace Go.Proofs.Ytdilimdicanbjaa
open Go.RowKit Go.BigFrame
set_option linter.unusedVariables false
set_option linter.unusedSimpArgs false

theorem is1 (x : Int) (w : World) : Calls Try.prog 94 #[.iface 131 (.agg #[]), .int .i64 x] w fun e w' => e = .returned (.bool (mIn 1 x)) ∧ Below w.heap.size w w' := by
  have hb := ab1
  have h1 := mb1
  have h2 := mn1
  have h3 := me1
  have e0 : mIn 1 x = (!decide (100000 < x) && !decide (x < 0)) := rfl
  by_cases hx : 100000 < x
  · have hd : decide (100000 < x) = true := by simpa using hx
    have he : mIn 1 x = false := by rw [e0, hd]; rfl
    rw [he]
    clear e0 he
    go_enter Try.func94, Try.ntmps94
    go_wp2_with fail
    refine wp_region_below (by kernel_rfl) (by kernel_rfl) ?_
    repeat (go_big_quiet_step ((intro hw; first | with_reducible rfl | (go_at_call 148; exact quietB (less_no _) hw) | (go_at_call 147; exact quietB (less_empty _) hw) | (go_at_call 146; exact quietB (less_better _ _ _) hw))))
    refine wpQuiet_nil ?_
    intro w1 hw1
    go_wp2
    go_ret
    exact ⟨rfl, hw1⟩
  · have hd : decide (100000 < x) = false := by simpa using hx
    have he : mIn 1 x = !decide (x < 0) := by rw [e0, hd]; rfl
    rw [he]
    clear e0 he
    go_enter Try.func94, Try.ntmps94
    go_wp2_with fail
    refine wp_region_below (by kernel_rfl) (by kernel_rfl) ?_
    repeat (go_big_quiet_step ((intro hw; first | with_reducible rfl | (go_at_call 148; exact quietB (less_no _) hw) | (go_at_call 147; exact quietB (less_empty _) hw) | (go_at_call 146; exact quietB (less_better _ _ _) hw))))
    refine wpQuiet_nil ?_
    intro w1 hw1
    go_wp2
    go_ret
    exact ⟨rfl, hw1⟩

theorem is2 (x : Int) (w : World) : Calls Try.prog 94 #[.iface 136 (.agg #[.int .i64 100000]), .int .i64 x] w fun e w' => e = .returned (.bool (mIn 2 x)) ∧ Below w.heap.size w w' := by
  have hb := ab2
  have h1 := mb2
  have h2 := mn2
  have h3 := me2
  have e0 : mIn 2 x = (!decide (x < 0) && !decide (100000 < x)) := rfl
  by_cases hx : x < 0
  · have hd : decide (x < 0) = true := by simpa using hx
    have he : mIn 2 x = false := by rw [e0, hd]; rfl
    rw [he]
    clear e0 he
    go_enter Try.func94, Try.ntmps94
    go_wp2_with fail
    refine wp_region_below (by kernel_rfl) (by kernel_rfl) ?_
    repeat (go_big_quiet_step ((intro hw; first | with_reducible rfl | (go_at_call 153; exact quietB (more_no _ _) hw) | (go_at_call 152; exact quietB (more_empty _ _) hw) | (go_at_call 151; exact quietB (more_better _ _ _ _) hw))))
    refine wpQuiet_nil ?_
    intro w1 hw1
    go_wp2
    go_ret
    exact ⟨rfl, hw1⟩
  · have hd : decide (x < 0) = false := by simpa using hx
    have he : mIn 2 x = !decide (100000 < x) := by rw [e0, hd]; rfl
    rw [he]
    clear e0 he
    go_enter Try.func94, Try.ntmps94
    go_wp2_with fail
    refine wp_region_below (by kernel_rfl) (by kernel_rfl) ?_
    repeat (go_big_quiet_step ((intro hw; first | with_reducible rfl | (go_at_call 153; exact quietB (more_no _ _) hw) | (go_at_call 152; exact quietB (more_empty _ _) hw) | (go_at_call 151; exact quietB (more_better _ _ _ _) hw))))
    refine wpQuiet_nil ?_
    intro w1 hw1
    go_wp2
    go_ret
    exact ⟨rfl, hw1⟩

theorem is3 (x : Int) (w : World) : Calls Try.prog 94 #[.iface 139 (.agg #[]), .int .i64 x] w fun e w' => e = .returned (.bool (mIn 3 x)) ∧ Below w.heap.size w w' := by
  have hb := ab3
  have h1 := mb3
  have h2 := mn3
  have h3 := me3
  have e0 : mIn 3 x = (!decide (100000 < x) && !decide (x < 0)) := rfl
  by_cases hx : 100000 < x
  · have hd : decide (100000 < x) = true := by simpa using hx
    have he : mIn 3 x = false := by rw [e0, hd]; rfl
    rw [he]
    clear e0 he
    go_enter Try.func94, Try.ntmps94
    go_wp2_with fail
    refine wp_region_below (by kernel_rfl) (by kernel_rfl) ?_
    repeat (go_big_quiet_step ((intro hw; first | with_reducible rfl | (go_at_call 148; exact quietB (less_no _) hw) | (go_at_call 147; exact quietB (less_empty _) hw) | (go_at_call 146; exact quietB (less_better _ _ _) hw))))
    refine wpQuiet_nil ?_
    intro w1 hw1
    go_wp2
    go_ret
    exact ⟨rfl, hw1⟩
  · have hd : decide (100000 < x) = false := by simpa using hx
    have he : mIn 3 x = !decide (x < 0) := by rw [e0, hd]; rfl
    rw [he]
    clear e0 he
    go_enter Try.func94, Try.ntmps94
    go_wp2_with fail
    refine wp_region_below (by kernel_rfl) (by kernel_rfl) ?_
    repeat (go_big_quiet_step ((intro hw; first | with_reducible rfl | (go_at_call 148; exact quietB (less_no _) hw) | (go_at_call 147; exact quietB (less_empty _) hw) | (go_at_call 146; exact quietB (less_better _ _ _) hw))))
    refine wpQuiet_nil ?_
    intro w1 hw1
    go_wp2
    go_ret
    exact ⟨rfl, hw1⟩

theorem is4 (x : Int) (w : World) : Calls Try.prog 94 #[.iface 142 (.agg #[.int .i64 1]), .int .i64 x] w fun e w' => e = .returned (.bool (mIn 4 x)) ∧ Below w.heap.size w w' := by
  have hb := ab4
  have h1 := mb4
  have h2 := mn4
  have h3 := me4
  have e0 : mIn 4 x = (!decide (x < 0) && !decide (1 < x)) := rfl
  by_cases hx : x < 0
  · have hd : decide (x < 0) = true := by simpa using hx
    have he : mIn 4 x = false := by rw [e0, hd]; rfl
    rw [he]
    clear e0 he
    go_enter Try.func94, Try.ntmps94
    go_wp2_with fail
    refine wp_region_below (by kernel_rfl) (by kernel_rfl) ?_
    repeat (go_big_quiet_step ((intro hw; first | with_reducible rfl | (go_at_call 153; exact quietB (more_no _ _) hw) | (go_at_call 152; exact quietB (more_empty _ _) hw) | (go_at_call 151; exact quietB (more_better _ _ _ _) hw))))
    refine wpQuiet_nil ?_
    intro w1 hw1
    go_wp2
    go_ret
    exact ⟨rfl, hw1⟩
  · have hd : decide (x < 0) = false := by simpa using hx
    have he : mIn 4 x = !decide (1 < x) := by rw [e0, hd]; rfl
    rw [he]
    clear e0 he
    go_enter Try.func94, Try.ntmps94
    go_wp2_with fail
    refine wp_region_below (by kernel_rfl) (by kernel_rfl) ?_
    repeat (go_big_quiet_step ((intro hw; first | with_reducible rfl | (go_at_call 153; exact quietB (more_no _ _) hw) | (go_at_call 152; exact quietB (more_empty _ _) hw) | (go_at_call 151; exact quietB (more_better _ _ _ _) hw))))
    refine wpQuiet_nil ?_
    intro w1 hw1
    go_wp2
    go_ret
    exact ⟨rfl, hw1⟩

theorem is5 (x : Int) (w : World) : Calls Try.prog 94 #[.iface 144 (.agg #[]), .int .i64 x] w fun e w' => e = .returned (.bool (mIn 5 x)) ∧ Below w.heap.size w w' := by
  have hb := ab5
  have h1 := mb5
  have h2 := mn5
  have h3 := me5
  have e0 : mIn 5 x = (!decide (100000 < x) && !decide (x < 0)) := rfl
  by_cases hx : 100000 < x
  · have hd : decide (100000 < x) = true := by simpa using hx
    have he : mIn 5 x = false := by rw [e0, hd]; rfl
    rw [he]
    clear e0 he
    go_enter Try.func94, Try.ntmps94
    go_wp2_with fail
    refine wp_region_below (by kernel_rfl) (by kernel_rfl) ?_
    repeat (go_big_quiet_step ((intro hw; first | with_reducible rfl | (go_at_call 148; exact quietB (less_no _) hw) | (go_at_call 147; exact quietB (less_empty _) hw) | (go_at_call 146; exact quietB (less_better _ _ _) hw))))
    refine wpQuiet_nil ?_
    intro w1 hw1
    go_wp2
    go_ret
    exact ⟨rfl, hw1⟩
  · have hd : decide (100000 < x) = false := by simpa using hx
    have he : mIn 5 x = !decide (x < 0) := by rw [e0, hd]; rfl
    rw [he]
    clear e0 he
    go_enter Try.func94, Try.ntmps94
    go_wp2_with fail
    refine wp_region_below (by kernel_rfl) (by kernel_rfl) ?_
    repeat (go_big_quiet_step ((intro hw; first | with_reducible rfl | (go_at_call 148; exact quietB (less_no _) hw) | (go_at_call 147; exact quietB (less_empty _) hw) | (go_at_call 146; exact quietB (less_better _ _ _) hw))))
    refine wpQuiet_nil ?_
    intro w1 hw1
    go_wp2
    go_ret
    exact ⟨rfl, hw1⟩

theorem is_any {m : Int} (hm : mKind m = true) (x : Int) (w : World) : Calls Try.prog 94 #[opsV m, .int .i64 x] w fun e w' => e = .returned (.bool (mIn m x)) ∧ Below w.heap.size w w' := by
  rcases mKind_cases hm with rfl | rfl | rfl | rfl | rfl
  · exact is1 x w
  · exact is2 x w
  · exact is3 x w
  · exact is4 x w
  · exact is5 x w
end Go.Proofs.Ytdilimdicanbjaa
