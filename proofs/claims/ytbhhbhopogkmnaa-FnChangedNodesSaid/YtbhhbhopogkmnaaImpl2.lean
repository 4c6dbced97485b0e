/- What the exported functions of measures answer. -/
import Derived.Test.YtbhhbhopogkmnaaImpl
namespace Go.Proofs.Ytbhhbhopogkmnaa
open Go.RowKit Go.BigFrame
set_option linter.unusedVariables false
set_option linter.unusedSimpArgs false
theorem wv (x : Int) (w : World) : Calls Try.prog 93 #[.int .i64 x] w fun e w' => e = .returned (.bool (mWeight x)) ∧ w = w' := by
  by_cases h1 : 1 ≤ x
  · by_cases h2 : x ≤ 999
    · have e1 : mWeight x = true := by simp [mWeight, h1, h2]
      rw [e1]
      clear e1
      go_enter Try.func93, Try.ntmps93
      go_wp2
      go_ret
      exact ⟨rfl, rfl⟩
    · have e1 : mWeight x = false := by simp [mWeight, h1, h2]
      rw [e1]
      clear e1
      go_enter Try.func93, Try.ntmps93
      go_wp2
      go_ret
      exact ⟨rfl, rfl⟩
  · have e1 : mWeight x = false := by simp [mWeight, h1]
    rw [e1]
    clear e1
    go_enter Try.func93, Try.ntmps93
    go_wp2
    go_ret
    exact ⟨rfl, rfl⟩
theorem wv_is {x : Int} {b : Bool} (h : mWeight x = b) (w : World) : Calls Try.prog 93 #[.int .i64 x] w fun e w' => e = .returned (.bool b) ∧ w = w' := by
  have := wv x w
  rw [h] at this
  exact this
theorem ibo1 (a b : Int) (w : World) : Calls Try.prog 118 #[.iface 153 (.agg #[]), .int .i64 a, .int .i64 b] w fun e w' => e = .returned (.int .i64 (mBest 1 a b)) ∧ Below w.heap.size w w' := by
  have h1 := mb1
  have e0 : mBest 1 a b = if decide (b < a) = true then b else a := rfl
  cases hd : decide (b < a)
  · have e1 : mBest 1 a b = a := by rw [e0, hd]; rfl
    rw [e1]
    have hc := less_better b a w
    rw [hd] at hc
    have HC := Lib.hid hc
    clear e0 e1 hd hc
    go_enter Try.func118, Try.ntmps118
    go_wp2_with ((go_at_call 152; refine HC.out.mono ?_; rintro e w2 ⟨rfl, hb2⟩))
    go_ret
    exact ⟨rfl, hb2⟩
  · have e1 : mBest 1 a b = b := by rw [e0, hd]; rfl
    rw [e1]
    have hc := less_better b a w
    rw [hd] at hc
    have HC := Lib.hid hc
    clear e0 e1 hd hc
    go_enter Try.func118, Try.ntmps118
    go_wp2_with ((go_at_call 152; refine HC.out.mono ?_; rintro e w2 ⟨rfl, hb2⟩))
    go_ret
    exact ⟨rfl, hb2⟩

theorem ij1 (a b : Int) (ha : 0 ≤ a ∧ a ≤ 100000) (hb : 0 ≤ b ∧ b ≤ 100000) (w : World) : Calls Try.prog 156 #[.agg #[], .int .i64 a, .int .i64 b] w fun e w' => e = .returned (.int .i64 (mJoin 1 a b)) ∧ Below w.heap.size w w' :=
  jsum a b ha.1 ha.2 hb.1 hb.2 w
theorem ibo2 (a b : Int) (w : World) : Calls Try.prog 118 #[.iface 158 (.agg #[.int .i64 100000]), .int .i64 a, .int .i64 b] w fun e w' => e = .returned (.int .i64 (mBest 2 a b)) ∧ Below w.heap.size w w' := by
  have h1 := mb2
  have e0 : mBest 2 a b = if decide (a < b) = true then b else a := rfl
  cases hd : decide (a < b)
  · have e1 : mBest 2 a b = a := by rw [e0, hd]; rfl
    rw [e1]
    have hc := more_better 100000 b a w
    rw [hd] at hc
    have HC := Lib.hid hc
    clear e0 e1 hd hc
    go_enter Try.func118, Try.ntmps118
    go_wp2_with ((go_at_call 157; refine HC.out.mono ?_; rintro e w2 ⟨rfl, hb2⟩))
    go_ret
    exact ⟨rfl, hb2⟩
  · have e1 : mBest 2 a b = b := by rw [e0, hd]; rfl
    rw [e1]
    have hc := more_better 100000 b a w
    rw [hd] at hc
    have HC := Lib.hid hc
    clear e0 e1 hd hc
    go_enter Try.func118, Try.ntmps118
    go_wp2_with ((go_at_call 157; refine HC.out.mono ?_; rintro e w2 ⟨rfl, hb2⟩))
    go_ret
    exact ⟨rfl, hb2⟩

theorem ij2 (a b : Int) (ha : 0 ≤ a ∧ a ≤ 100000) (hb : 0 ≤ b ∧ b ≤ 100000) (w : World) : Calls Try.prog 160 #[.agg #[], .int .i64 a, .int .i64 b] w fun e w' => e = .returned (.int .i64 (mJoin 2 a b)) ∧ Below w.heap.size w w' :=
  jless a b w
theorem ibo3 (a b : Int) (w : World) : Calls Try.prog 118 #[.iface 161 (.agg #[]), .int .i64 a, .int .i64 b] w fun e w' => e = .returned (.int .i64 (mBest 3 a b)) ∧ Below w.heap.size w w' := by
  have h1 := mb3
  have e0 : mBest 3 a b = if decide (b < a) = true then b else a := rfl
  cases hd : decide (b < a)
  · have e1 : mBest 3 a b = a := by rw [e0, hd]; rfl
    rw [e1]
    have hc := less_better b a w
    rw [hd] at hc
    have HC := Lib.hid hc
    clear e0 e1 hd hc
    go_enter Try.func118, Try.ntmps118
    go_wp2_with ((go_at_call 152; refine HC.out.mono ?_; rintro e w2 ⟨rfl, hb2⟩))
    go_ret
    exact ⟨rfl, hb2⟩
  · have e1 : mBest 3 a b = b := by rw [e0, hd]; rfl
    rw [e1]
    have hc := less_better b a w
    rw [hd] at hc
    have HC := Lib.hid hc
    clear e0 e1 hd hc
    go_enter Try.func118, Try.ntmps118
    go_wp2_with ((go_at_call 152; refine HC.out.mono ?_; rintro e w2 ⟨rfl, hb2⟩))
    go_ret
    exact ⟨rfl, hb2⟩

theorem ij3 (a b : Int) (ha : 0 ≤ a ∧ a ≤ 100000) (hb : 0 ≤ b ∧ b ≤ 100000) (w : World) : Calls Try.prog 161 #[.agg #[], .int .i64 a, .int .i64 b] w fun e w' => e = .returned (.int .i64 (mJoin 3 a b)) ∧ Below w.heap.size w w' :=
  jmore a b w
theorem ibo4 (a b : Int) (w : World) : Calls Try.prog 118 #[.iface 164 (.agg #[.int .i64 1]), .int .i64 a, .int .i64 b] w fun e w' => e = .returned (.int .i64 (mBest 4 a b)) ∧ Below w.heap.size w w' := by
  have h1 := mb4
  have e0 : mBest 4 a b = if decide (a < b) = true then b else a := rfl
  cases hd : decide (a < b)
  · have e1 : mBest 4 a b = a := by rw [e0, hd]; rfl
    rw [e1]
    have hc := more_better 1 b a w
    rw [hd] at hc
    have HC := Lib.hid hc
    clear e0 e1 hd hc
    go_enter Try.func118, Try.ntmps118
    go_wp2_with ((go_at_call 157; refine HC.out.mono ?_; rintro e w2 ⟨rfl, hb2⟩))
    go_ret
    exact ⟨rfl, hb2⟩
  · have e1 : mBest 4 a b = b := by rw [e0, hd]; rfl
    rw [e1]
    have hc := more_better 1 b a w
    rw [hd] at hc
    have HC := Lib.hid hc
    clear e0 e1 hd hc
    go_enter Try.func118, Try.ntmps118
    go_wp2_with ((go_at_call 157; refine HC.out.mono ?_; rintro e w2 ⟨rfl, hb2⟩))
    go_ret
    exact ⟨rfl, hb2⟩

theorem ij4 (a b : Int) (ha : 0 ≤ a ∧ a ≤ 100000) (hb : 0 ≤ b ∧ b ≤ 100000) (w : World) : Calls Try.prog 160 #[.agg #[], .int .i64 a, .int .i64 b] w fun e w' => e = .returned (.int .i64 (mJoin 4 a b)) ∧ Below w.heap.size w w' :=
  jless a b w
theorem ibo5 (a b : Int) (w : World) : Calls Try.prog 118 #[.iface 166 (.agg #[]), .int .i64 a, .int .i64 b] w fun e w' => e = .returned (.int .i64 (mBest 5 a b)) ∧ Below w.heap.size w w' := by
  have h1 := mb5
  have e0 : mBest 5 a b = if decide (b < a) = true then b else a := rfl
  cases hd : decide (b < a)
  · have e1 : mBest 5 a b = a := by rw [e0, hd]; rfl
    rw [e1]
    have hc := less_better b a w
    rw [hd] at hc
    have HC := Lib.hid hc
    clear e0 e1 hd hc
    go_enter Try.func118, Try.ntmps118
    go_wp2_with ((go_at_call 152; refine HC.out.mono ?_; rintro e w2 ⟨rfl, hb2⟩))
    go_ret
    exact ⟨rfl, hb2⟩
  · have e1 : mBest 5 a b = b := by rw [e0, hd]; rfl
    rw [e1]
    have hc := less_better b a w
    rw [hd] at hc
    have HC := Lib.hid hc
    clear e0 e1 hd hc
    go_enter Try.func118, Try.ntmps118
    go_wp2_with ((go_at_call 152; refine HC.out.mono ?_; rintro e w2 ⟨rfl, hb2⟩))
    go_ret
    exact ⟨rfl, hb2⟩

theorem ij5 (a b : Int) (ha : 0 ≤ a ∧ a ≤ 100000) (hb : 0 ≤ b ∧ b ≤ 100000) (w : World) : Calls Try.prog 156 #[.agg #[], .int .i64 a, .int .i64 b] w fun e w' => e = .returned (.int .i64 (mJoin 5 a b)) ∧ Below w.heap.size w w' :=
  jsum a b ha.1 ha.2 hb.1 hb.2 w
end Go.Proofs.Ytbhhbhopogkmnaa
