/- Relaxing all edges again and again, from a start view. -/
import Derived.Test.YtbcbknebjbelmaaStartL
import Derived.Test.YtbcbknebjbelmaaStable
import Derived.Test.YtbcbknebjbelmaaBestV
namespace Go.Proofs.Ytbcbknebjbelmaa
open Go.RowKit Go.BigFrame Go.Deep
set_option linter.unusedVariables false
set_option linter.unusedSimpArgs false

theorem vVal_of {n m a : Int} {es : List Ed} {zs : List Int} (hg : gVal n es = true) (ha : 0 ≤ a ∧ a < n) (hm : mKind m = true) (hl : zs.length = n.toNat) (hv : vAll m zs) : vVal n es m a zs = true := by
  have h1 : zs.all (mIn m) = true := all_of_vAll hv
  have h2 : (zs.length : Int) = n := by omega
  unfold vVal vFit mAll
  rw [hg, hm, h1, decide_eq_true ha.1, decide_eq_true ha.2, decide_eq_true h2]
  rfl
theorem vVal_iter {n m a : Int} {es : List Ed} (hg : gVal n es = true) (ha : 0 ≤ a ∧ a < n) (hm : mKind m = true) {zs : List Int} (hl : zs.length = n.toNat) (hv : vAll m zs) (k : Nat) : vVal n es m a (vIter m es k zs) = true :=
  vVal_of hg ha hm (by rw [vIter_length, hl]) (vIter_all hm hv (by rw [hl]; exact eAll_of hg) k)
/-- One round more. -/
theorem relaxN {n m a : Int} {es : List Ed} (hg : gVal n es = true) (ha : 0 ≤ a ∧ a < n) (hm : mKind m = true) {zs : List Int} (hl : zs.length = n.toNat) (hv : vAll m zs) (k : Nat) (s t : Value) (w : World) (hs : RowE w s es) (ht : Row w t (vIter m es k zs)) (hle : es.length ≤ 281474976710656) :
    Calls Try.prog 18 #[.agg #[.int .i64 n, s], .agg #[.int .i64 m, .int .i64 a, t]] w fun e w' =>
      ∃ v, e = .returned (.tuple #[.agg #[.int .i64 m, .int .i64 a, v], .bool true]) ∧ OwnV w w' v (vIter m es (k + 1) zs) ∧ okS v ∧ Below w.heap.size w w' := by
  have h := relaxAll n m a es (vIter m es k zs) s t w hs ht hle (by have h12 := (gVal_iff.1 hg).1.2.1; rw [vIter_length, hl]; omega)
  have hv2 := vVal_iter hg ha hm hl hv k
  rw [show rxM n es m a (vIter m es k zs) = m by unfold rxM; rw [if_pos hv2], show rxA n es m a (vIter m es k zs) = a by unfold rxA; rw [if_pos hv2], show rxL n es m a (vIter m es k zs) = vIter m es (k + 1) zs by unfold rxL; rw [if_pos hv2]; rfl, hv2] at h
  exact h
theorem isB_fix {n m a : Int} {es : List Ed} {u : List Int} (hv : vVal n es m a u = true) (hf : vRelax m es u = u) : isB n es m a u = true := by
  unfold isB
  rw [hv, hf, vSame_self]
  rfl
end Go.Proofs.Ytbcbknebjbelmaa
