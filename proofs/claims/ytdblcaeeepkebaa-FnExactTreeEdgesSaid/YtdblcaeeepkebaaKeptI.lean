/- Kept views, in the program: which parents fit. -/
import Derived.Test.YtdblcaeeepkebaaKeptM
import Derived.Test.YtdblcaeeepkebaaDisp
import Derived.Test.YtdblcaeeepkebaaBetter
import Derived.Test.YtdblcaeeepkebaaRight
import Derived.Test.YtdblcaeeepkebaaBoxes
import Derived.Test.YtdblcaeeepkebaaRowAt
namespace Go.Proofs.Ytdblcaeeepkebaa
open Go.RowKit Go.BigFrame Go.Deep
set_option linter.unusedVariables false
set_option linter.unusedSimpArgs false

set_option maxRecDepth 20000 in
set_option maxHeartbeats 1000000 in
theorem isBelow (ps : List Int) (x top : Int) (p : Value) (w : World) (hp : Row w p ps) (hl : ps.length ≤ 1048576) :
    Calls Try.prog 107 #[p, .int .i64 x, .int .i64 top] w fun e w' => e = .returned (.bool (ptB ps top x)) ∧ Below w.heap.size w w' := by
  obtain ⟨pa, pc, rfl, hp0⟩ := id hp
  clear hp0
  have hc := pathTo 0 top x [] ps [] (.slice none 0 0) (.slice pa ps.length pc) (.slice none 0 0) w (Row.nil w) hp (Row.nil w) hl
  have HC := Lib.hid hc
  clear hc
  go_enter Try.func107, Try.ntmps107
  go_wp2_with (go_at_call 69; (with_reducible refine (HC.out).mono ?_); rintro e w1 ⟨v, rfl, hown, hb1⟩)
  go_ret
  exact ⟨rfl, hb1⟩

/-- The cells of a kept view in its box. -/
abbrev kC (n m A : Int) (s v p : Value) : Array Value := #[.int .i64 n, s, .int .i64 m, .int .i64 A, v, p]
end Go.Proofs.Ytdblcaeeepkebaa
