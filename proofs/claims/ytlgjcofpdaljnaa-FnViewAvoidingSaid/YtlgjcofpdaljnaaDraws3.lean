/- The draws of a graph, a kind and a source, in the model. -/
import Derived.Test.YtlgjcofpdaljnaaCase3
namespace Go.Proofs.Ytlgjcofpdaljnaa
open Go.RowKit Go.BigFrame Go.Deep
set_option linter.unusedVariables false
set_option linter.unusedSimpArgs false
set_option linter.unnecessarySimpa false
theorem drawnC3_out {w w0 w1 : World} {n m a : Int} {es : List Ed} {v : Value} (hb : Below w.heap.size w w0) (hlt : w.heap.size < w0.heap.size) (hb1 : Below w0.heap.size w0 w1) (hl : es.length ≤ 41) (hrow : InR true w1 w0.heap.size w1.heap.size v es.length 3 (cellE es)) (hok : okS v) :
    DrawnC3 w (.returned (.tuple #[.agg #[.int .i64 n, v], .int .i64 m, .int .i64 a])) ((w1.setCell ⟨w.heap.size, 0, none⟩ (.int .i64 n)).setCell ⟨w.heap.size, 1, none⟩ v) := by
  refine ⟨n, es, v, m, a, rfl, hl, ?_, hok, ((bel_trans hb hb1).setCell (by simp) _).setCell (by simp) _⟩
  have h1 := ((hrow.set8 (k := 0) (u := .int .i64 n) hlt).set8 (k := 1) (u := v) hlt)
  exact h1.wider (by omega) (by simp) (Nat.le_refl _)

end Go.Proofs.Ytlgjcofpdaljnaa
