/- Bounds cut ranks: mathematics. -/
import Derived.Test.YtlgjcofpdaljnaaDerR
namespace Go.Proofs.Ytlgjcofpdaljnaa
open Go.RowKit Go.BigFrame Go.Deep
set_option linter.unusedVariables false
set_option linter.unusedSimpArgs false

theorem count_pre (p : Int → Bool) : ∀ (l : List Int), l.Pairwise (fun a b => p b = true → p a = true) → ∀ i, i < l.length → p (l.getD i 0) = decide (i < l.countP p)
  | [], _, i, h => by simp at h
  | a :: t, hp, i, h => by
    obtain ⟨h1, h2⟩ := List.pairwise_cons.1 hp
    have ih := count_pre p t h2
    cases ha : p a
    · have hz : (a :: t).countP p = 0 := by
        rw [List.countP_eq_zero]
        intro b hb
        rcases List.mem_cons.1 hb with rfl | hb
        · simp [ha]
        · intro hpb
          rw [h1 b hb hpb] at ha
          cases ha
      rw [hz]
      have hall := List.countP_eq_zero.1 hz
      have hm : (a :: t).getD i 0 ∈ a :: t := by
        rw [List.getD_eq_getElem?_getD, List.getElem?_eq_getElem h]
        exact List.getElem_mem h
      have := hall _ hm
      simpa using this
    · rw [List.countP_cons_of_pos ha]
      cases i with
      | zero => simp [ha]
      | succ i =>
        have := ih i (by simpa using h)
        rw [show (a :: t).getD (i + 1) 0 = t.getD i 0 by simp, this]
        simp
theorem rk_count (m : Int) (zs : List Int) (p : Int → Bool) : ∀ i, (rkL (rkB m zs) i).countP p = (ndsL i).countP p
  | 0 => rfl
  | i + 1 => by
    have ih := rk_count m zs p i
    have e : ndsL (i + 1) = ndsL i ++ [(i : Int)] := by unfold ndsL; rw [List.range_succ, List.map_append]; rfl
    show (insX (rkB m zs) (i : Int) (rkL (rkB m zs) i)).countP p = _
    unfold insX
    rw [e, List.countP_append, List.countP_append, ← ih, List.countP_cons]
    have hs : (rkL (rkB m zs) i).countP p = ((rkL (rkB m zs) i).take (plc (rkB m zs) (i : Int) (rkL (rkB m zs) i) (rkL (rkB m zs) i).length)).countP p + ((rkL (rkB m zs) i).drop (plc (rkB m zs) (i : Int) (rkL (rkB m zs) i) (rkL (rkB m zs) i).length)).countP p := by
      rw [← List.countP_append, List.take_append_drop]
    rw [hs]
    simp only [List.countP_cons, List.countP_nil]
    omega
/-- A rank is within a bound just if it is one of the first. -/
theorem rk_bound (m : Int) (zs : List Int) (b : Int) {N i : Nat} (h : i < N) : inL (nwL N (wbP m zs b)) ((rkL (rkB m zs) N).getD i 0) = decide (i < (nwL N (wbP m zs b)).length) := by
  have hl := rkL_len (rkB m zs) N
  have hpw : (rkL (rkB m zs) N).Pairwise (fun x y => wbP m zs b y = true → wbP m zs b x = true) := (rk_sorted m zs N).imp (fun {x y} hxy hy => by
    unfold wbP at hy ⊢
    rw [mBet_key, Bool.not_eq_true', decide_eq_false_iff_not] at hy ⊢
    unfold inF vlZ at hxy
    rcases hxy with h1 | ⟨h1, _⟩
    · omega
    · rw [h1]; exact hy)
  have h1 := count_pre (wbP m zs b) _ hpw i (by omega)
  rw [rk_count] at h1
  have h2 : (nwL N (wbP m zs b)).length = (ndsL N).countP (wbP m zs b) := by unfold nwL; rw [List.countP_eq_length_filter]
  rw [h2, ← h1, Bool.eq_iff_iff]
  unfold inL
  rw [decide_eq_true_eq, nwL_mem]
  have hm := rkL_mem (rkB m zs) N ((rkL (rkB m zs) N).getD i 0) (by rw [List.getD_eq_getElem?_getD, List.getElem?_eq_getElem (by omega)]; exact List.getElem_mem _)
  exact ⟨fun q => q.2, fun q => ⟨hm, q⟩⟩
end Go.Proofs.Ytlgjcofpdaljnaa
