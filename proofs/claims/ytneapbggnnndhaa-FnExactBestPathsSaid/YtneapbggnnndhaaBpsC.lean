/- BestPaths of both, as the law sees it. -/
import Derived.Test.YtneapbggnnndhaaBpsB
import Derived.Test.YtneapbggnnndhaaSrcH
namespace Go.Proofs.Ytneapbggnnndhaa
open Go.RowKit Go.BigFrame Go.Deep Go.ChangeShapes Go.WideShapes Go.Joins
set_option linter.unusedVariables false
set_option linter.unusedSimpArgs false

theorem bestPathsX (n m a b c : Int) (es : List Ed) (s : Value) (w : World) (hs : RowE w s es) (hok : okS s) (hl : es.length ≤ 1048576) :
    Calls Try.prog 35 #[.agg #[.int .i64 n, s], .int .i64 m, .int .i64 a, .int .i64 b, .int .i64 c] w fun e w' => ∃ v, e = .returned (.tuple #[v, .bool (bpB n es m a b c)]) ∧ OwnPs w' w.heap.size w'.heap.size v (bpR n es m a b c) ∧ Below w.heap.size w w' :=
  (bestPaths n m a b c es s w hs hok hl).mono (fun e w' ⟨v, qs, h1, h2, h3, h4⟩ => ⟨v, h1, by rw [← h3]; exact h2.ownPs, h4⟩)
theorem sBestPathsX (n m a b c : Int) (es : List Ed) (s : Value) (w : World) (hs : RowE w s es) (hl : es.length ≤ 1048576) :
    Calls Try.prog 34 #[.agg #[.int .i64 n, s], .int .i64 m, .int .i64 a, .int .i64 b, .int .i64 c] w fun e w' => ∃ v, e = .returned (.tuple #[v, .bool (bpB n es m a b c)]) ∧ OwnPs w' w.heap.size w'.heap.size v (bpR n es m a b c) ∧ Below w.heap.size w w' :=
  (sBestPaths n m a b c es s w hs hl).mono (fun e w' ⟨v, qs, h1, h2, h3, h4⟩ => ⟨v, h1, by rw [← h3]; exact h2.ownPs, h4⟩)
theorem bpR_ok (n : Int) (es : List Ed) (m a b c : Int) : PsOk (bpR n es m a b c) := PsOk.of (bpR_len _ _ _ _ _ _) (fun p hp => bpR_mem hp)
end Go.Proofs.Ytneapbggnnndhaa
