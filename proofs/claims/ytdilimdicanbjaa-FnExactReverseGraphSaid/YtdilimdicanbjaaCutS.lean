/- CutEdge of the model. -/
import Derived.Test.YtdilimdicanbjaaCut
import Derived.Test.YtdilimdicanbjaaCutI
namespace Go.Proofs.Ytdilimdicanbjaa
open Go.RowKit Go.BigFrame Go.Deep
set_option linter.unusedVariables false
set_option linter.unusedSimpArgs false

theorem cutL_val {n : Int} {es : List Ed} (hg : gVal n es = true) {a b : Int} (hf : fdE es a b = true) : cutL es a b = kL es a b := by
  have hlt : lbE es a b < es.length := by unfold fdE at hf; simp at hf; exact hf.1
  have hat : eBe a b (es.getD (lbE es a b) (0, 0, 0)) = true := by unfold fdE at hf; rw [← eBe_iff] at hf; simp at hf; simpa [List.getD, hlt] using hf.2
  have hsplit : es = es.take (lbE es a b) ++ es.getD (lbE es a b) (0, 0, 0) :: es.drop (lbE es a b + 1) := by
    have h1 : es.drop (lbE es a b) = es.getD (lbE es a b) (0, 0, 0) :: es.drop (lbE es a b + 1) := by
      rw [List.drop_eq_getElem_cons hlt]; simp [List.getD, hlt]
    rw [← h1, List.take_append_drop]
  unfold kL cutL
  conv => lhs; rw [hsplit]
  rw [List.filter_append, List.filter_cons, hat]
  congr 1
  · rw [List.filter_eq_self]
    intro e he
    obtain ⟨i, hi, rfl⟩ := List.getElem_of_mem he
    rw [List.length_take] at hi
    have := eBe_lt (lbE_lt (es := es) (a := a) (b := b) (i := i) (by omega))
    rw [List.getElem_take]
    simpa [List.getD, (by omega : i < es.length)] using this
  · simp only [Bool.not_true, Bool.false_eq_true, if_false]
    rw [List.filter_eq_self]
    intro e he
    obtain ⟨i, hi, rfl⟩ := List.getElem_of_mem he
    rw [List.length_drop] at hi
    have ho := gVal_sorted hg (show lbE es a b < lbE es a b + 1 + i by omega) (by omega)
    rw [List.getElem_drop]
    unfold eBe at hat ⊢
    simp only [Bool.and_eq_true, decide_eq_true_eq] at hat
    unfold EdLt at ho
    have e1 : es.getD (lbE es a b + 1 + i) (0, 0, 0) = es[lbE es a b + 1 + i] := by simp [List.getD, (by omega : lbE es a b + 1 + i < es.length)]
    rw [e1] at ho
    by_cases h1 : es[lbE es a b + 1 + i].1 = a <;> by_cases h2 : es[lbE es a b + 1 + i].2.1 = b <;> simp [h1, h2] <;> omega

end Go.Proofs.Ytdilimdicanbjaa
