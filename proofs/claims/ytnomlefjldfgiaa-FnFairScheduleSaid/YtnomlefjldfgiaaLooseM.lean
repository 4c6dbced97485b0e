/- LooseEdges: in the program. LooseEdges: in the model. Loose edges: mathematics. -/
import Derived.Test.YtnomlefjldfgiaaOneS
import Derived.Test.YtnomlefjldfgiaaReachedS
import Derived.Test.YtnomlefjldfgiaaRelaxJ
import Derived.Test.YtnomlefjldfgiaaBoxes
import Derived.Test.YtnomlefjldfgiaaBestB
import Derived.Test.YtnomlefjldfgiaaGvInts
namespace Go.Proofs.Ytnomlefjldfgiaa
open Go.RowKit Go.BigFrame Go.Deep
set_option linter.unusedVariables false
set_option linter.unusedSimpArgs false

/-- The numbers of the loose edges among the first k. -/
def lsK (m : Int) (es : List Ed) (zs : List Int) (k : Nat) : List Int := ((List.range k).filter (fun i => vLo m zs (es.getD i (0, 0, 0)))).map (fun (i : Nat) => (i : Int))
def ls (m : Int) (es : List Ed) (zs : List Int) : List Int := lsK m es zs es.length
def lsV (n : Int) (es : List Ed) (m a : Int) (zs : List Int) : List Int := if vVal n es m a zs = true then ls m es zs else []
theorem lsK_succ (m : Int) (es : List Ed) (zs : List Int) (k : Nat) : lsK m es zs (k + 1) = lsK m es zs k ++ (if vLo m zs (es.getD k (0, 0, 0)) = true then [(k : Int)] else []) := by
  unfold lsK
  rw [List.range_succ, List.filter_append, List.map_append]
  simp only [List.filter_cons, List.filter_nil]
  generalize vLo m zs (es.getD k (0, 0, 0)) = b
  cases b <;> simp
theorem lsK_len (m : Int) (es : List Ed) (zs : List Int) (k : Nat) : (lsK m es zs k).length ≤ k := by
  unfold lsK; rw [List.length_map]; exact Nat.le_trans (List.length_filter_le _ _) (by simp)
/-- An edge of a valid graph, as numbers. -/
theorem edge_nat {N k : Nat} {es : List Ed} {x y z : Int} (he : eAll N es) (hk : k < es.length) (hx : (x, y, z) = es.getD k (0, 0, 0)) : ∃ X Y : Nat, x = X ∧ y = Y ∧ X < N ∧ Y < N ∧ mWeight z = true := by
  have hin : es.getD k (0, 0, 0) ∈ es := by simp [List.getD, hk]
  have h := he _ hin
  rw [← hx] at h
  simp only at h
  exact ⟨x.toNat, y.toNat, by have := h.1.1; omega, by have := h.2.1.1; omega, h.1.2, h.2.1.2, h.2.2⟩

end Go.Proofs.Ytnomlefjldfgiaa
namespace Go.Proofs.Ytnomlefjldfgiaa
open Go.RowKit Go.BigFrame Go.Deep
set_option linter.unusedVariables false
set_option linter.unusedSimpArgs false

end Go.Proofs.Ytnomlefjldfgiaa
namespace Go.Proofs.Ytnomlefjldfgiaa
open Go.RowKit
set_option linter.unusedVariables false
set_option linter.unusedSimpArgs false

theorem ls_mem {m : Int} {es : List Ed} {zs : List Int} {k : Nat} (hk : k < es.length) : inL (ls m es zs) (k : Int) = vLo m zs (es.getD k (0, 0, 0)) := by
  unfold inL ls lsK
  cases h : vLo m zs (es.getD k (0, 0, 0))
  · refine decide_eq_false (fun q => ?_)
    obtain ⟨i, hi, hik⟩ := List.mem_map.1 q
    have e : i = k := by omega
    subst e
    have := (List.mem_filter.1 hi).2
    rw [h] at this
    cases this
  · exact decide_eq_true (List.mem_map.2 ⟨k, List.mem_filter.2 ⟨List.mem_range.2 hk, h⟩, rfl⟩)
theorem ls_stable {n m a : Int} {es : List Ed} {zs : List Int} (hm : mKind m = true) (he : eAll zs.length es) (hv : vAll m zs) (hV : vVal n es m a zs = true) : isB n es m a zs = decide ((ls m es zs).length = 0) := by
  have hz : ∀ k, k < es.length → es.getD k (0, 0, 0) ∈ es := fun k hk => by
    rw [show es.getD k (0, 0, 0) = es[k] by simp [List.getD, hk]]; exact List.getElem_mem hk
  cases hb : isB n es m a zs
  · symm
    refine decide_eq_false (fun q => ?_)
    have hn : ls m es zs = [] := List.eq_nil_of_length_eq_zero q
    have hf : ∀ e ∈ es, mBet m (vGive m zs e) (zs.getD e.2.1.toNat 0) = false := by
      intro e hein
      obtain ⟨k, hk, rfl⟩ := List.getElem_of_mem hein
      have h1 := ls_mem (m := m) (zs := zs) hk
      rw [hn] at h1
      have h2 : vLo m zs (es.getD k (0, 0, 0)) = false := by rw [← h1]; simp [inL]
      rw [show es.getD k (0, 0, 0) = es[k] by simp [List.getD, hk]] at h2
      exact h2
    rw [isB_of hV (relax_of_fix hm he hv hf)] at hb
    cases hb
  · symm
    refine decide_eq_true ?_
    have hf := fix_of_relax hm he hv (isB_parts hb).2
    unfold ls lsK
    rw [List.length_map, List.length_eq_zero_iff, List.filter_eq_nil_iff]
    intro k hk
    have := hf _ (hz k (List.mem_range.1 hk))
    show ¬ vLo m zs (es.getD k (0, 0, 0)) = true
    unfold vLo
    rw [this]
    decide
end Go.Proofs.Ytnomlefjldfgiaa
