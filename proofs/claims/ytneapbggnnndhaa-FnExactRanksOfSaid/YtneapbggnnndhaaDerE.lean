/- WithinBound of the program and of the model. -/
import Derived.Test.YtneapbggnnndhaaDerD
namespace Go.Proofs.Ytneapbggnnndhaa
open Go.RowKit Go.BigFrame Go.Deep
set_option linter.unusedVariables false
set_option linter.unusedSimpArgs false

/-- The nodes whose value a bound is not better than. -/
def wbP (m : Int) (zs : List Int) (b : Int) (x : Int) : Bool := !(mBet m b (zs.getD x.toNat 0))
def wbB (n : Int) (es : List Ed) (m a : Int) (zs : List Int) (b : Int) : Bool := vVal n es m a zs && mIn m b
def wbR (n : Int) (es : List Ed) (m a : Int) (zs : List Int) (b : Int) : List Int := if wbB n es m a zs b = true then nwL n.toNat (wbP m zs b) else []
theorem wbR_len (n : Int) (es : List Ed) (m a : Int) (zs : List Int) (b : Int) : (wbR n es m a zs b).length ≤ 12 := by
  unfold wbR
  split
  · rename_i h
    simp only [wbB, Bool.and_eq_true] at h
    have := gVal_n (vVal_pts h.1).1
    have := nwL_len n.toNat (wbP m zs b)
    omega
  · simp
theorem own_nilI (w w' : World) : OwnI w w' (.slice none 0 0) [] := ⟨none, 0, rfl, .inl rfl⟩

end Go.Proofs.Ytneapbggnnndhaa
