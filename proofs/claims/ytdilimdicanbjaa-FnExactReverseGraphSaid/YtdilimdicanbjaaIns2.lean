/- When a graph with an edge put into its place is valid. -/
import Derived.Test.YtdilimdicanbjaaIns
namespace Go.Proofs.Ytdilimdicanbjaa
open Go.RowKit Go.BigFrame Go.Deep
set_option linter.unusedVariables false
set_option linter.unusedSimpArgs false

theorem gVal_iff {n : Int} {L : List Ed} : gVal n L = true ↔ (1 ≤ n ∧ n ≤ 12 ∧ L.length ≤ 40) ∧ (∀ d ∈ L, eFits n d.1 d.2.1 d.2.2 = true) ∧ L.Pairwise EdLt := by
  constructor
  · intro h
    have hp := gVal_parts h
    refine ⟨⟨hp.1, hp.2.1, hp.2.2.1⟩, ?_, ?_⟩
    · intro d hd
      obtain ⟨i, hi, rfl⟩ := List.getElem_of_mem hd
      have := gVal_fits h hi
      simpa [List.getD, hi] using this
    · rw [List.pairwise_iff_getElem]
      intro i j hi hj hij
      have := gVal_sorted h hij hj
      simpa [List.getD, hi, hj] using this
  · rintro ⟨⟨h1, h2, h3⟩, hf, hp⟩
    rw [List.pairwise_iff_getElem] at hp
    simp only [gVal, Bool.and_eq_true, decide_eq_true_eq, List.all_eq_true, List.mem_range]
    refine ⟨⟨h1, h2⟩, h3, fun i hi => ?_⟩
    have h0 := hf _ (List.getElem_mem hi)
    have e0 : L.getD i (0, 0, 0) = L[i] := by simp [List.getD, hi]
    simp only [okAt, e0, h0, Bool.true_and, Bool.or_eq_true, decide_eq_true_eq]
    by_cases hz : i = 0
    · exact .inl hz
    · right
      have hi1 : i - 1 < L.length := by omega
      have e1 : L.getD (i - 1) (0, 0, 0) = L[i - 1] := by simp [List.getD, hi1]
      rw [e1]
      exact cEnds_lt.2 (hp (i - 1) i hi1 hi (by omega))

theorem pL_mem {es : List Ed} {e d : Ed} (h : d ∈ pL es e) : d = e ∨ d ∈ es := by
  unfold pL at h
  simp only [List.mem_append, List.mem_cons] at h
  rcases h with h | h | h
  · exact .inr (List.mem_of_mem_take h)
  · exact .inl h
  · exact .inr (List.mem_of_mem_drop h)
theorem pL_sorted {n : Int} {es : List Ed} (hg : gVal n es = true) (e : Ed) : (pL es e).Pairwise EdLt := by
  have hs := (gVal_iff.1 hg).2.2
  unfold pL
  rw [List.pairwise_append]
  have hbefore : ∀ d ∈ es.take (lbE es e.1 e.2.1), EdLt d e := by
    intro d hd
    obtain ⟨i, hi, rfl⟩ := List.getElem_of_mem hd
    rw [List.length_take] at hi
    have hlt := lbE_lt (es := es) (a := e.1) (b := e.2.1) (i := i) (by omega)
    rw [eLt_iff] at hlt
    rw [List.getElem_take]
    have e1 : es.getD i (0, 0, 0) = es[i]'(by omega) := by simp [List.getD, (by omega : i < es.length)]
    rw [e1] at hlt
    unfold EdLt
    omega
  have hbehind : ∀ d ∈ es.drop (lbE es e.1 e.2.1 + fdN es e.1 e.2.1), EdLt e d := by
    intro d hd
    obtain ⟨i, hi, rfl⟩ := List.getElem_of_mem hd
    rw [List.length_drop] at hi
    rw [List.getElem_drop]
    have hlb : lbE es e.1 e.2.1 < es.length := by omega
    have hst := lbE_stop hlb
    have hst2 : ¬ eLt e.1 e.2.1 (es.getD (lbE es e.1 e.2.1) (0, 0, 0)) = true := by rw [hst]; simp
    rw [eLt_iff] at hst2
    have e1 : es.getD (lbE es e.1 e.2.1 + fdN es e.1 e.2.1 + i) (0, 0, 0) = es[lbE es e.1 e.2.1 + fdN es e.1 e.2.1 + i] := by simp [List.getD, (by omega : lbE es e.1 e.2.1 + fdN es e.1 e.2.1 + i < es.length)]
    rw [← e1]
    cases hf : fdE es e.1 e.2.1
    · have h0 : fdN es e.1 e.2.1 = 0 := by simp [fdN, hf]
      rw [h0, Nat.add_zero] at hi ⊢
      unfold fdE at hf
      rw [decide_eq_true hlb, Bool.true_and] at hf
      have hne : ¬ cEnds (es.getD (lbE es e.1 e.2.1) (0, 0, 0)).1 (es.getD (lbE es e.1 e.2.1) (0, 0, 0)).2.1 e.1 e.2.1 = 0 := by simpa using hf
      rw [cEnds_eq] at hne
      by_cases hi0 : i = 0
      · subst hi0
        rw [Nat.add_zero]
        unfold EdLt; omega
      · have ho := gVal_sorted hg (show lbE es e.1 e.2.1 < lbE es e.1 e.2.1 + i by omega) (by omega)
        unfold EdLt at *; omega
    · have h1 : fdN es e.1 e.2.1 = 1 := by simp [fdN, hf]
      rw [h1] at hi ⊢
      have ho := gVal_sorted hg (show lbE es e.1 e.2.1 < lbE es e.1 e.2.1 + 1 + i by omega) (by omega)
      unfold fdE at hf
      rw [decide_eq_true hlb, Bool.true_and, decide_eq_true_eq, cEnds_eq] at hf
      unfold EdLt at *
      omega
  refine ⟨hs.sublist (List.take_sublist _ _), ?_, ?_⟩
  · rw [List.pairwise_cons]
    exact ⟨hbehind, hs.sublist (List.drop_sublist _ _)⟩
  · intro a ha b hb
    rw [List.mem_cons] at hb
    rcases hb with rfl | hb
    · exact hbefore a ha
    · exact (hbefore a ha).trans (hbehind b hb)
theorem gVal_put {n : Int} {es : List Ed} (hg : gVal n es = true) (e : Ed) : gVal n (pL es e) = (eFits n e.1 e.2.1 e.2.2 && decide ((pL es e).length ≤ 40)) := by
  rw [Bool.eq_iff_iff, gVal_iff, Bool.and_eq_true, decide_eq_true_eq]
  have h := gVal_iff.1 hg
  constructor
  · rintro ⟨⟨_, _, h3⟩, hf, _⟩
    exact ⟨hf e (by unfold pL; simp), h3⟩
  · rintro ⟨hf, h3⟩
    refine ⟨⟨h.1.1, h.1.2.1, h3⟩, ?_, pL_sorted hg e⟩
    intro d hd
    rcases pL_mem hd with rfl | hd
    · exact hf
    · exact h.2.1 d hd
end Go.Proofs.Ytdilimdicanbjaa
