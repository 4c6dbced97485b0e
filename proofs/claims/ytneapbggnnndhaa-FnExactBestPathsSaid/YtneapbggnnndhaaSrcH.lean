/- SimplePaths of both, as the law sees it. -/
import Derived.Test.YtneapbggnnndhaaSrcF
import Derived.Test.YtneapbggnnndhaaSrcG
namespace Go.Proofs.Ytneapbggnnndhaa
open Go.RowKit Go.BigFrame Go.Deep Go.ChangeShapes Go.WideShapes Go.Joins
set_option linter.unusedVariables false
set_option linter.unusedSimpArgs false

theorem simplePathsX (n m a b : Int) (es : List Ed) (s : Value) (w : World) (hs : RowE w s es) (hok : okS s) (hl : es.length ≤ 1048576) :
    Calls Try.prog 30 #[.agg #[.int .i64 n, s], .int .i64 m, .int .i64 a, .int .i64 b] w fun e w' => ∃ v, e = .returned (.tuple #[v, .bool (spB n es m a b)]) ∧ OwnPs w' w.heap.size w'.heap.size v (spR n es m a b) ∧ Below w.heap.size w w' :=
  (simplePaths n m a b es s w hs hok hl).mono (fun e w' ⟨v, qs, h1, h2, h3, h4⟩ => ⟨v, h1, by rw [← h3]; exact h2.ownPs, h4⟩)
theorem sSimplePathsX (n m a b : Int) (es : List Ed) (s : Value) (w : World) (hs : RowE w s es) (hl : es.length ≤ 1048576) :
    Calls Try.prog 29 #[.agg #[.int .i64 n, s], .int .i64 m, .int .i64 a, .int .i64 b] w fun e w' => ∃ v, e = .returned (.tuple #[v, .bool (spB n es m a b)]) ∧ OwnPs w' w.heap.size w'.heap.size v (spR n es m a b) ∧ Below w.heap.size w w' :=
  (sSimplePaths n m a b es s w hs hl).mono (fun e w' ⟨v, qs, h1, h2, h3, h4⟩ => ⟨v, h1, by rw [← h3]; exact h2.ownPs, h4⟩)
/-- The bounds that the laws need. -/
def PsOk (ps : List Pt) : Prop := ps.length ≤ 400 ∧ (∀ i, i < ps.length → (ps.getD i ([], 0)).1.length ≤ 13) ∧ ptP ps ≤ 5600
theorem PsOk.of {ps : List Pt} (h1 : ps.length ≤ 400) (h2 : ∀ p ∈ ps, p.1.length ≤ 13) : PsOk ps := by
  have h3 : ∀ i, i < ps.length → (ps.getD i ([], 0)).1.length ≤ 13 := fun i hi => h2 _ (by simp [List.getD, hi])
  exact ⟨h1, h3, ptP_le h1 h3⟩
theorem spR_ok (n : Int) (es : List Ed) (m a b : Int) : PsOk (spR n es m a b) := PsOk.of (spR_len _ _ _ _ _) (fun p hp => (spR_mem hp).1)
end Go.Proofs.Ytneapbggnnndhaa
