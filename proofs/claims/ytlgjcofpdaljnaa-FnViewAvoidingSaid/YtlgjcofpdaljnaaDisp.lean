/- The methods of the operations of a kind, whichever kind it is. -/
import Derived.Test.YtlgjcofpdaljnaaImpl
import Derived.Test.YtlgjcofpdaljnaaBase
namespace Go.Proofs.Ytlgjcofpdaljnaa
open Go.RowKit Go.BigFrame
set_option linter.unusedVariables false
set_option linter.unusedSimpArgs false

/-- A method of a value: where the table leads, and what the function answers. -/
structure Meth (T : TypeId) (rv : Value) (name : String) (F : FuncId) (r : Value) : Prop where
  run : ∀ w, (method 308 T rv name).run Try.prog w = .ok (F, r) w
  ahead : ∀ w, (nilAhead 308 T rv name).run Try.prog w = .ok (some false) w
  enter : ∀ args w, (callFunc F args).run Try.prog w = .ok (.enter F args) w
/-- The five methods of the operations of kind m. -/
structure Disp (m : Int) (T : TypeId) (rv : Value) (fn fe fb fo fj : FuncId) (rn re rb ro rj : Value) : Prop where
  val : opsV m = .iface T rv
  mn : Meth T rv "loop.example/graphviews/impl.noPath" fn rn
  me : Meth T rv "loop.example/graphviews/impl.emptyPath" fe re
  mb : Meth T rv "loop.example/graphviews/impl.better" fb rb
  mo : Meth T rv "loop.example/graphviews/impl.ofEdge" fo ro
  mj : Meth T rv "loop.example/graphviews/impl.join" fj rj
  cn : ∀ w, Calls Try.prog fn #[rn] w fun e w' => e = .returned (.int .i64 (mNone m)) ∧ Below w.heap.size w w'
  ce : ∀ w, Calls Try.prog fe #[re] w fun e w' => e = .returned (.int .i64 (mOne m)) ∧ Below w.heap.size w w'
  cb : ∀ a b w, Calls Try.prog fb #[rb, .int .i64 a, .int .i64 b] w fun e w' => e = .returned (.bool (mBet m a b)) ∧ Below w.heap.size w w'
  co : ∀ x w, Calls Try.prog fo #[ro, .int .i64 x] w fun e w' => e = .returned (.int .i64 (mEdge m x)) ∧ Below w.heap.size w w'
  cj : ∀ a b w, mIn m a = true → mIn m b = true → Calls Try.prog fj #[rj, .int .i64 a, .int .i64 b] w fun e w' => e = .returned (.int .i64 (mJoin m a b)) ∧ Below w.heap.size w w'

theorem disp1 : Disp 1 115 (.agg #[]) 160 159 158 161 162 (.agg #[]) (.agg #[]) (.agg #[]) (.agg #[]) (.agg #[]) where
  val := rfl
  mn := ⟨mn1, an1, fun args w => by kernel_rfl⟩
  me := ⟨me1, ae1, fun args w => by kernel_rfl⟩
  mb := ⟨mb1, ab1, fun args w => by kernel_rfl⟩
  mo := ⟨mo1, ao1, fun args w => by kernel_rfl⟩
  mj := ⟨mj1, aj1, fun args w => by kernel_rfl⟩
  cn := fun w => less_no w
  ce := fun w => less_empty w
  cb := fun a b w => less_better a b w
  co := fun x w => eweight x w
  cj := fun a b w ha hb => (jsum a b (mIn_low rfl ha).1 (mIn_low rfl ha).2 (mIn_low rfl hb).1 (mIn_low rfl hb).2 w)

theorem disp2 : Disp 2 120 (.agg #[.int .i64 100000]) 165 164 163 161 166 (.agg #[.int .i64 100000]) (.agg #[.int .i64 100000]) (.agg #[.int .i64 100000]) (.agg #[]) (.agg #[]) where
  val := rfl
  mn := ⟨mn2, an2, fun args w => by kernel_rfl⟩
  me := ⟨me2, ae2, fun args w => by kernel_rfl⟩
  mb := ⟨mb2, ab2, fun args w => by kernel_rfl⟩
  mo := ⟨mo2, ao2, fun args w => by kernel_rfl⟩
  mj := ⟨mj2, aj2, fun args w => by kernel_rfl⟩
  cn := fun w => more_no _ w
  ce := fun w => more_empty _ w
  cb := fun a b w => more_better _ a b w
  co := fun x w => eweight x w
  cj := fun a b w ha hb => (jless a b w)

theorem disp3 : Disp 3 123 (.agg #[]) 160 159 158 161 167 (.agg #[]) (.agg #[]) (.agg #[]) (.agg #[]) (.agg #[]) where
  val := rfl
  mn := ⟨mn3, an3, fun args w => by kernel_rfl⟩
  me := ⟨me3, ae3, fun args w => by kernel_rfl⟩
  mb := ⟨mb3, ab3, fun args w => by kernel_rfl⟩
  mo := ⟨mo3, ao3, fun args w => by kernel_rfl⟩
  mj := ⟨mj3, aj3, fun args w => by kernel_rfl⟩
  cn := fun w => less_no w
  ce := fun w => less_empty w
  cb := fun a b w => less_better a b w
  co := fun x w => eweight x w
  cj := fun a b w ha hb => (jmore a b w)

theorem disp4 : Disp 4 126 (.agg #[.int .i64 1]) 165 164 163 168 166 (.agg #[.int .i64 1]) (.agg #[.int .i64 1]) (.agg #[.int .i64 1]) (.agg #[]) (.agg #[]) where
  val := rfl
  mn := ⟨mn4, an4, fun args w => by kernel_rfl⟩
  me := ⟨me4, ae4, fun args w => by kernel_rfl⟩
  mb := ⟨mb4, ab4, fun args w => by kernel_rfl⟩
  mo := ⟨mo4, ao4, fun args w => by kernel_rfl⟩
  mj := ⟨mj4, aj4, fun args w => by kernel_rfl⟩
  cn := fun w => more_no _ w
  ce := fun w => more_empty _ w
  cb := fun a b w => more_better _ a b w
  co := fun x w => eone x w
  cj := fun a b w ha hb => (jless a b w)

theorem disp5 : Disp 5 128 (.agg #[]) 160 159 158 168 162 (.agg #[]) (.agg #[]) (.agg #[]) (.agg #[]) (.agg #[]) where
  val := rfl
  mn := ⟨mn5, an5, fun args w => by kernel_rfl⟩
  me := ⟨me5, ae5, fun args w => by kernel_rfl⟩
  mb := ⟨mb5, ab5, fun args w => by kernel_rfl⟩
  mo := ⟨mo5, ao5, fun args w => by kernel_rfl⟩
  mj := ⟨mj5, aj5, fun args w => by kernel_rfl⟩
  cn := fun w => less_no w
  ce := fun w => less_empty w
  cb := fun a b w => less_better a b w
  co := fun x w => eone x w
  cj := fun a b w ha hb => (jsum a b (mIn_low rfl ha).1 (mIn_low rfl ha).2 (mIn_low rfl hb).1 (mIn_low rfl hb).2 w)

theorem disp {m : Int} (hm : mKind m = true) : ∃ T rv fn fe fb fo fj rn re rb ro rj, Disp m T rv fn fe fb fo fj rn re rb ro rj := by
  rcases mKind_cases hm with rfl | rfl | rfl | rfl | rfl
  · exact ⟨_, _, _, _, _, _, _, _, _, _, _, _, disp1⟩
  · exact ⟨_, _, _, _, _, _, _, _, _, _, _, _, disp2⟩
  · exact ⟨_, _, _, _, _, _, _, _, _, _, _, _, disp3⟩
  · exact ⟨_, _, _, _, _, _, _, _, _, _, _, _, disp4⟩
  · exact ⟨_, _, _, _, _, _, _, _, _, _, _, _, disp5⟩
end Go.Proofs.Ytlgjcofpdaljnaa
