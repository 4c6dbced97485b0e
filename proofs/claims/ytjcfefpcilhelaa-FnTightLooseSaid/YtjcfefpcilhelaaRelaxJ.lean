/- RelaxAll: in the program. -/
import Derived.Test.YtjcfefpcilhelaaRelaxI
namespace Go.Proofs.Ytjcfefpcilhelaa
open Go.RowKit Go.BigFrame Go.Deep
set_option linter.unusedVariables false
set_option linter.unusedSimpArgs false

def rxM (n : Int) (es : List Ed) (m a : Int) (zs : List Int) : Int := if vVal n es m a zs = true then m else 0
def rxA (n : Int) (es : List Ed) (m a : Int) (zs : List Int) : Int := if vVal n es m a zs = true then a else 0
def rxL (n : Int) (es : List Ed) (m a : Int) (zs : List Int) : List Int := if vVal n es m a zs = true then vRelax m es zs else []
theorem vVal_pts {n : Int} {es : List Ed} {m a : Int} {zs : List Int} (h : vVal n es m a zs = true) : gVal n es = true ∧ (0 ≤ a ∧ a < n) ∧ (zs.length : Int) = n ∧ mKind m = true ∧ zs.all (mIn m) = true := by
  simp only [vVal, vFit, mAll, Bool.and_eq_true, decide_eq_true_eq] at h
  exact ⟨h.1.1, h.1.2.1, h.1.2.2, h.2.1, h.2.2⟩
theorem vAll_of {m : Int} {zs : List Int} (h : zs.all (mIn m) = true) : vAll m zs := by
  intro i hi
  rw [getD_of hi]
  exact List.all_eq_true.1 h _ (List.getElem_mem hi)
/-- What relaxing needs. -/
theorem vVal_use {n : Int} {es : List Ed} {m a : Int} {zs : List Int} (h : vVal n es m a zs = true) : mKind m = true ∧ 0 < zs.length ∧ zs.length ≤ 12 ∧ es.length ≤ 40 ∧ vAll m zs ∧ eAll zs.length es := by
  have hp := vVal_pts h
  have hn := gVal_n hp.1
  have he := eAll_of hp.1
  rw [show n.toNat = zs.length by omega] at he
  exact ⟨hp.2.2.2.1, by omega, by omega, hn.2.2, vAll_of hp.2.2.2.2, he⟩

end Go.Proofs.Ytjcfefpcilhelaa
