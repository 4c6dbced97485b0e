/- Mathematics of the nearest sources: the owner is a source that gives the value; none has no owner. -/
import Derived.Test.YtbinpaaihdcnlaaNearL
namespace Go.Proofs.Ytbinpaaihdcnlaa
open Go.RowKit Go.BigFrame Go.Deep
set_option linter.unusedVariables false
set_option linter.unusedSimpArgs false
set_option linter.unnecessarySimpa false

/-- What a value and its owner are, in the midst of the sources. -/
def nrOk (m : Int) (es : List Ed) (N i : Nat) (ss : List Int) (p : Int × Int) : Prop :=
  mIn m p.1 = true ∧ ((p.2 = -1 ∧ p.1 = mNone m) ∨ (p.2 ∈ ss ∧ p.1 = (vwS m es N p.2).getD i 0 ∧ p.1 ≠ mNone m))
theorem nr_not_none {m a b : Int} (ha : mIn m b = true) (h : mBet m a b = true) : a ≠ mNone m := by
  rintro rfl
  unfold mIn at ha
  rw [h] at ha
  simp at ha
theorem nrOk_step {m : Int} {es : List Ed} {N i : Nat} {ss : List Int} {p : Int × Int} {x : Int} (h : nrOk m es N i ss p) (hx : x ∈ ss) (hv : mIn m ((vwS m es N x).getD i 0) = true) : nrOk m es N i ss (nrS m es N i p x) := by
  unfold nrS
  split
  · rename_i hb
    exact ⟨hv, .inr ⟨hx, rfl, nr_not_none h.1 hb⟩⟩
  · exact h
theorem nrOk_fold {m : Int} {es : List Ed} {N i : Nat} {ss : List Int} (hv : ∀ x ∈ ss, mIn m ((vwS m es N x).getD i 0) = true) : ∀ (r : List Int) (p : Int × Int), (∀ x ∈ r, x ∈ ss) → nrOk m es N i ss p → nrOk m es N i ss (r.foldl (nrS m es N i) p)
  | [], p, _, h => h
  | x :: r, p, hr, h => by
    rw [List.foldl_cons]
    exact nrOk_fold hv r _ (fun y hy => hr y (List.mem_cons_of_mem _ hy)) (nrOk_step h (hr x (List.mem_cons_self ..)) (hv x (hr x (List.mem_cons_self ..))))
theorem nrAt_ok {m : Int} {es : List Ed} {N i : Nat} {ss : List Int} (hm : mKind m = true) (hv : ∀ x ∈ ss, mIn m ((vwS m es N x).getD i 0) = true) : nrOk m es N i ss (nrAt m es N i ss) :=
  nrOk_fold hv ss _ (fun _ h => h) ⟨mNone_in hm, .inl ⟨rfl, rfl⟩⟩
/-- No source gives a better value. -/
theorem nr_best (m : Int) (es : List Ed) (N i : Nat) : ∀ (ss : List Int) (p : Int × Int) (x : Int), x ∈ ss → mBet m ((vwS m es N x).getD i 0) (ss.foldl (nrS m es N i) p).1 = false
  | y :: r, p, x, h => by
    rw [List.foldl_cons]
    rcases List.mem_cons.1 h with rfl | h
    · have h1 := nr_fold m es N i r (nrS m es N i p x)
      generalize (r.foldl (nrS m es N i) (nrS m es N i p x)).1 = z at h1 ⊢
      unfold nrS at h1
      split at h1
      · exact h1
      · rename_i hb
        cases hq : mBet m ((vwS m es N x).getD i 0) z with
        | false => rfl
        | true =>
          exfalso
          unfold mBet at hb hq h1
          split at hq <;> simp_all <;> omega
    · exact nr_best m es N i r _ x h
end Go.Proofs.Ytbinpaaihdcnlaa
