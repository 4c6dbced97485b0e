/- What the model's exported functions of measures answer. -/
import Derived.Test.YtneapbggnnndhaaSpec
namespace Go.Proofs.Ytneapbggnnndhaa
open Go.RowKit Go.BigFrame
set_option linter.unusedVariables false
set_option linter.unusedSimpArgs false

theorem sValueValid (m x : Int) (w : World) : Calls Try.prog 51 #[.int .i64 m, .int .i64 x] w fun e w' => e = .returned (.bool (mIs m x)) ∧ w = w' := by
  cases hm : mKind m
  · have e0 : mIs m x = false := by simp [mIs, hm]
    rw [e0]
    have HM := Lib.hid hm
    clear hm e0
    go_enter Try.func51, Try.ntmps51
    go_wp2_with (first | (go_at_call 64; refine (sKindIs HM _).mono ?_; rintro e w1 ⟨rfl, rfl⟩))
    go_ret
    exact ⟨rfl, rfl⟩
  · have e0 : mIs m x = mIn m x := by simp [mIs, hm]
    rw [e0]
    have HM := Lib.hid hm
    clear hm e0
    go_enter Try.func51, Try.ntmps51
    go_wp2_with (first | (go_at_call 64; refine (sKindIs HM _).mono ?_; rintro e w1 ⟨rfl, rfl⟩) | (go_at_call 65; refine (sIs HM.out _ _).mono ?_; rintro e w1 ⟨rfl, rfl⟩))
    go_ret
    exact ⟨rfl, rfl⟩

theorem sValIs {m x : Int} {b : Bool} (h : Hid (mIs m x = b)) (w : World) : Calls Try.prog 51 #[.int .i64 m, .int .i64 x] w fun e w' => e = .returned (.bool b) ∧ w = w' := by
  have := sValueValid m x w
  rw [h.out] at this
  exact this

end Go.Proofs.Ytneapbggnnndhaa
