/- Views that avoid nodes: mathematics. Fewer edges make no value better; what is left out has no value; valid and stable. -/
import Derived.Test.YtlgjcofpdaljnaaDerF
import Derived.Test.YtlgjcofpdaljnaaStartL
namespace Go.Proofs.Ytlgjcofpdaljnaa
open Go.RowKit Go.BigFrame Go.Deep
set_option linter.unusedVariables false
set_option linter.unusedSimpArgs false

theorem eAll_wo {N : Nat} {es : List Ed} (h : eAll N es) (ns : List Int) : eAll N (woL es ns) := fun e he => h e (List.mem_filter.1 he).1
theorem va_le {m n a : Int} {es : List Ed} (ns : List Int) (hm : mKind m = true) (he : eAll n.toNat es) (h0 : 0 ≤ a) (h1 : a.toNat < n.toNat) {i : Nat} (hi : i < n.toNat) :
    mBet m ((vIter m (woL es ns) n.toNat (vStart m n a)).getD i 0) ((vIter m es n.toNat (vStart m n a)).getD i 0) = false := by
  have hst : vSt m (woL es ns) (vRt m n es a) := fun e hein => vRt_st hm he h0 h1 e (List.mem_filter.1 hein).1
  have hone : mIn m (mOne m) = true := by
    have := vRt_in hm he a h1
    rw [vRt_src hm he h0 h1] at this
    exact this
  have h := vLow hm (eAll_wo he ns) (vRt_all hm he a) (vRt_length a) hst hone h0 (by rw [vRt_src hm he h0 h1]; exact le_refl' hm) n.toNat i hi
  have hj : mJoin m ((vIter m (woL es ns) n.toNat (vStart m n a)).getD i 0) (mOne m) = (vIter m (woL es ns) n.toNat (vStart m n a)).getD i 0 := join_one hm (vRt_in hm (eAll_wo he ns) a hi)
  rw [join_comm hm, hj] at h
  exact h
theorem vFold_off {m : Int} {zs : List Int} {i : Nat} : ∀ (es : List Ed) (acc : List Int), (∀ e ∈ es, e.2.1.toNat ≠ i) → (es.foldl (vUp m zs) acc).getD i 0 = acc.getD i 0
  | [], _, _ => rfl
  | e :: es, acc, h => by
    rw [List.foldl_cons, vFold_off es _ (fun x hx => h x (List.mem_cons_of_mem _ hx))]
    unfold vUp
    have := h e (List.mem_cons_self ..)
    simp [List.getD, List.getElem?_set_ne this]
theorem vIter_off {m : Int} {es : List Ed} {zs : List Int} {i : Nat} (h : ∀ e ∈ es, e.2.1.toNat ≠ i) : ∀ k, (vIter m es k zs).getD i 0 = zs.getD i 0
  | 0 => rfl
  | k + 1 => by
    show (vRelax m es (vIter m es k zs)).getD i 0 = _
    unfold vRelax
    rw [vFold_off es _ h, vIter_off h k]
theorem va_out {m n a : Int} {es : List Ed} {ns : List Int} (hg : gVal n es = true) {i : Nat} (hi : i < n.toNat) (hin : (i : Int) ∈ ns) (ha : a ∉ ns) :
    (vIter m (woL es ns) n.toNat (vStart m n a)).getD i 0 = mNone m := by
  rw [vIter_off (i := i), vStart_at m n a hi, if_neg (fun e : (i : Int) = a => ha (by rw [← e]; exact hin))]
  intro e he h
  have h1 := List.mem_filter.1 he
  obtain ⟨k, hk, rfl⟩ := List.getElem_of_mem h1.1
  have hf := gVal_fits hg hk
  have h4 : (es.getD k (0, 0, 0)) = es[k] := by simp [List.getD, hk]
  rw [h4] at hf
  simp [eFits] at hf
  have h2 := h1.2
  unfold woP at h2
  rw [Bool.and_eq_true] at h2
  have h3 : es[k].2.1 ∉ ns := by simpa using h2.2
  exact h3 (by rw [show es[k].2.1 = (i : Int) by omega]; exact hin)
theorem va_right {m n a : Int} {es : List Ed} (ns : List Int) (hm : mKind m = true) (hg : gVal n es = true) (h0 : 0 ≤ a) (h1 : a < n) :
    vVal n (woL es ns) m a (vIter m (woL es ns) n.toNat (vStart m n a)) = true ∧ vRelax m (woL es ns) (vIter m (woL es ns) n.toNat (vStart m n a)) = vIter m (woL es ns) n.toNat (vStart m n a) := by
  have hgw : gVal n (woL es ns) = true := gVal_filter _ hg
  have he := eAll_of hgw
  refine ⟨?_, vRt_fix hm he h0 (by omega)⟩
  have hl := vRt_length (m := m) (n := n) (es := woL es ns) a
  have hv := vRt_all hm he a
  unfold vRt at hl hv
  have h2 : ((vIter m (woL es ns) n.toNat (vStart m n a)).length : Int) = n := by rw [hl]; omega
  have h3 : (vIter m (woL es ns) n.toNat (vStart m n a)).all (mIn m) = true := all_of_vAll hv
  unfold vVal vFit mAll
  rw [hgw, hm, h3, h2, decide_eq_true h0, decide_eq_true h1, decide_eq_true rfl]
  rfl
theorem own_rowV {w : World} {base : Nat} {v : Value} {zs : List Int} (h : w.ownsRow base 3 1 v zs.length (zs.map (Value.int .i64))) : Row w v zs := by
  rcases h.2 with ⟨rfl, h0⟩ | ⟨g, cap, cur, rfl, hb, hg, _⟩
  · have h1 := List.length_eq_zero_iff.1 h0
    subst h1
    exact ⟨none, 0, rfl, .inl rfl⟩
  · refine ⟨some ⟨g, 0, none⟩, cap, rfl, .inr ⟨g, 0, rfl, (Array.getElem?_eq_some_iff.1 hg).1, fun i hi => ?_⟩⟩
    have h1 := h.cells (g := g) rfl i (.int .i64 (zs.getD i 0)) (by simp [List.getD, hi])
    have ha : Addr.add ⟨g, 0, none⟩ i = ⟨g, i, none⟩ := by rw [Go.WideShapes.add_plain, Nat.zero_add]
    rw [ha] at h1
    rw [Nat.zero_add]
    exact h1
end Go.Proofs.Ytlgjcofpdaljnaa
