/- The order of measures, the better one first. -/
import Derived.Test.YtneapbggnnndhaaGreatDisp
import Derived.Test.YtneapbggnnndhaaGreatBoxes
namespace Go.Proofs.YtneapbggnnndhaaGreat
open Go.RowKit Go.BigFrame Go.Deep
set_option linter.unusedVariables false
set_option linter.unusedSimpArgs false

/-- -1: a is better; 1: b is better; 0: neither. -/
def cmpM (m a b : Int) : Int := if mBet m a b = true then -1 else if mBet m b a = true then 1 else 0

set_option maxRecDepth 20000 in
set_option maxHeartbeats 1000000 in
theorem compareMeasures (m a b : Int) (hm : mKind m = true) (w : World) :
    Calls Tryz.prog 67 #[opsV m, .int .i64 a, .int .i64 b] w fun e w' => e = .returned (.int .i64 (cmpM m a b)) ∧ Below w.heap.size w w' := by
  obtain ⟨T, rv, fn, fe, fb, fo, fj, rn, re, rb, ro, rj, D⟩ := disp hm
  rw [D.val]
  have hn1 := D.mb.run
  have hn2 := D.mb.ahead
  have hn3 := D.mb.enter
  have hc1 := D.cb a b
  have hc2 := D.cb b a
  unfold cmpM
  generalize mBet m a b = P at hc1 ⊢
  generalize mBet m b a = Q at hc2 ⊢
  have H1 := Lib.hid hc1
  have H2 := Lib.hid hc2
  clear D hc1 hc2
  cases P
  · go_enter Tryz.func67, Tryz.ntmps67
    go_wp2_with fail
    refine (H1.out _).mono ?_
    rintro e w1 ⟨rfl, hb1⟩
    cases Q
    · go_wp2_with fail
      refine (H2.out _).mono ?_
      rintro e w2 ⟨rfl, hb2⟩
      go_wp2
      go_ret
      exact ⟨rfl, bel_trans hb1 hb2⟩
    · go_wp2_with fail
      refine (H2.out _).mono ?_
      rintro e w2 ⟨rfl, hb2⟩
      go_wp2
      go_ret
      exact ⟨rfl, bel_trans hb1 hb2⟩
  · go_enter Tryz.func67, Tryz.ntmps67
    go_wp2_with fail
    refine (H1.out _).mono ?_
    rintro e w1 ⟨rfl, hb1⟩
    go_wp2
    go_ret
    exact ⟨rfl, hb1⟩
end Go.Proofs.YtneapbggnnndhaaGreat
