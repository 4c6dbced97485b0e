/- Tight edges of right views: mathematics. -/
import Derived.Test.YtjcfefpcilhelaaTight
import Derived.Test.YtjcfefpcilhelaaBestL
import Derived.Test.YtjcfefpcilhelaaReachedS
import Derived.Test.YtjcfefpcilhelaaGvInts
namespace Go.Proofs.Ytjcfefpcilhelaa
open Go.RowKit Go.BigFrame
set_option linter.unusedVariables false
set_option linter.unusedSimpArgs false

/-- The ends of the first k of some edges. -/
def enL (es : List Ed) (P : List Int) (k : Nat) : List Int := (List.range k).map (fun j => (es.getD (P.getD j 0).toNat (0, 0, 0)).2.1)
theorem enL_succ (es : List Ed) (P : List Int) (k : Nat) : enL es P (k + 1) = enL es P k ++ [(es.getD (P.getD k 0).toNat (0, 0, 0)).2.1] := by unfold enL; rw [List.range_succ, List.map_append]; rfl
theorem enL_len (es : List Ed) (P : List Int) (k : Nat) : (enL es P k).length = k := by unfold enL; simp
theorem tiV_none (n : Int) (es : List Ed) : tiV n es 0 0 [] = [] := by
  unfold tiV
  rw [if_neg]
  unfold vVal mAll mKind
  simp
theorem vVal_mkT {n : Int} {es : List Ed} {m a : Int} {zs : List Int} (hg : gVal n es = true) (ha : 0 ≤ a ∧ a < n) (hm : mKind m = true) (hl : (zs.length : Int) = n) (hv : vAll m zs) : vVal n es m a zs = true := by
  unfold vVal vFit mAll
  rw [hg, hm, all_of_vAll hv, hl, decide_eq_true ha.1, decide_eq_true ha.2, decide_eq_true rfl]
  rfl
/-- Each node that is reached, but the source, is the end of a tight edge. -/
theorem ti_end {m : Int} {N a : Nat} {es : List Ed} (hm : mKind m = true) (he : eAll N es) (ha : a < N) {i : Nat} (hi : i < N) (hne : i ≠ a) (hz : (vRt m N es a).getD i 0 ≠ mNone m) : inL (enL es (ti m es (vRt m N es a)) (ti m es (vRt m N es a)).length) (i : Int) = true := by
  have hF := bf_full hm he ha
  have hv := hF.vals
  obtain ⟨e, p1, p2, p3, p4, p5⟩ := hF.dj.parN i hi hne (by rw [hv]; exact hz)
  rw [hv] at p4
  obtain ⟨k, hk, hek⟩ := List.getElem_of_mem p1
  have e21 : e.2.1 = (i : Int) := by have := (he e p1).2.1.1; omega
  have hg : es.getD k (0, 0, 0) = e := by rw [← hek]; simp [List.getD, hk]
  have hmem : (k : Int) ∈ ti m es (vRt m N es a) := by
    unfold ti tiK
    refine List.mem_map.2 ⟨k, List.mem_filter.2 ⟨List.mem_range.2 hk, ?_⟩, rfl⟩
    rw [hg]
    unfold vTi
    rw [Bool.and_eq_true, beq_iff_eq, p2]
    exact ⟨by simpa using hz, p4⟩
  obtain ⟨j, hj, hje⟩ := List.getElem_of_mem hmem
  unfold inL
  refine decide_eq_true ?_
  unfold enL
  refine List.mem_map.2 ⟨j, List.mem_range.2 hj, ?_⟩
  have e2 : (ti m es (vRt m N es a)).getD j 0 = (k : Int) := by rw [← hje]; simp [List.getD, hj]
  rw [e2, Int.toNat_natCast, hg, e21]
theorem rch_at2 {m : Int} {zs : List Int} {k : Nat} (hk : k < (rch m zs).length) : ∃ i : Nat, (rch m zs).getD k 0 = (i : Int) ∧ i < zs.length ∧ zs.getD i 0 ≠ mNone m := by
  have hm : (rch m zs).getD k 0 ∈ rch m zs := by
    simp only [List.getD, List.getElem?_eq_getElem hk, Option.getD_some]
    exact List.getElem_mem hk
  unfold rch rchK at hm
  obtain ⟨i, hi, e⟩ := List.mem_map.1 hm
  have h2 := List.mem_filter.1 hi
  exact ⟨i, by unfold rch rchK; exact e.symm, List.mem_range.1 h2.1, by simpa using h2.2⟩
theorem bel_lo {lo : Nat} {w w1 w2 : World} (hl : lo = w.heap.size) (h1 : Below lo w w1) (h2 : Below w1.heap.size w1 w2) : Below w.heap.size w w2 := by
  subst hl
  exact bel_trans h1 h2
end Go.Proofs.Ytjcfefpcilhelaa
