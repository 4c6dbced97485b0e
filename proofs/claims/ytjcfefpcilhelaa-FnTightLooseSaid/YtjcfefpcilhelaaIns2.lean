/- An edge put into its place: mathematics. When a graph with an edge put into its place is valid. -/
import Derived.Test.YtjcfefpcilhelaaCutS
namespace Go.Proofs.Ytjcfefpcilhelaa
open Go.RowKit Go.BigFrame Go.Deep
set_option linter.unusedVariables false
set_option linter.unusedSimpArgs false

/-- Is an edge in front of another one? -/
def edB (e d : Ed) : Bool := sLess e.1 e.2.1 d.1 d.2.1
/-- One round: what has been put out, and whether the edge is in it. -/
def insS (e : Ed) (s : List Ed × Bool) (d : Ed) : List Ed × Bool := if s.2 = false ∧ edB e d = true then (s.1 ++ [e] ++ [d], true) else (s.1 ++ [d], s.2)
def insF (e : Ed) (l : List Ed) : List Ed × Bool := l.foldl (insS e) ([], false)
def insL (e : Ed) (l : List Ed) : List Ed := if (insF e l).2 = true then (insF e l).1 else (insF e l).1 ++ [e]
theorem insF_snoc (e : Ed) (l : List Ed) {k : Nat} (hk : k < l.length) : insF e (l.take (k + 1)) = insS e (insF e (l.take k)) (l.getD k (0, 0, 0)) := by
  have : l.take (k + 1) = l.take k ++ [l.getD k (0, 0, 0)] := by rw [List.take_succ_eq_append_getElem hk]; simp [List.getD, hk]
  rw [this]
  unfold insF
  rw [List.foldl_append]
  rfl
theorem insF_len (e : Ed) (l : List Ed) : (insF e l).1.length ≤ l.length + 1 ∧ ((insF e l).2 = false → (insF e l).1.length ≤ l.length) := by
  have key : ∀ (l : List Ed) (s : List Ed × Bool) (m : Nat), s.1.length ≤ m + 1 → (s.2 = false → s.1.length ≤ m) → ((l.foldl (insS e) s).1.length ≤ m + l.length + 1 ∧ ((l.foldl (insS e) s).2 = false → (l.foldl (insS e) s).1.length ≤ m + l.length)) := by
    intro l
    induction l with
    | nil => intro s m h1 h2; exact ⟨by simpa using h1, by simpa using h2⟩
    | cons d l ih =>
      intro s m h1 h2
      have := ih (insS e s d) (m + 1) (by
        unfold insS
        split
        · have := h2 (by rename_i h; exact h.1)
          simp; omega
        · simp; omega) (by
        unfold insS
        split
        · intro h; simp at h
        · intro h
          have := h2 h
          simp; omega)
      rw [List.foldl_cons, List.length_cons]
      constructor
      · have := this.1; omega
      · intro h; have := this.2 h; omega
  have := key l ([], false) 0 (by simp) (by simp)
  unfold insF
  simpa using this
theorem fold_done (e : Ed) (l p : List Ed) : l.foldl (insS e) (p, true) = (p ++ l, true) := by
  induction l generalizing p with
  | nil => simp
  | cons d l ih => rw [List.foldl_cons]; simp [insS, ih]
theorem fold_skip (e : Ed) (l p : List Ed) (h : ∀ d ∈ l, edB e d = false) : l.foldl (insS e) (p, false) = (p ++ l, false) := by
  induction l generalizing p with
  | nil => simp
  | cons d l ih =>
    have hd := h d (by simp)
    rw [List.foldl_cons]
    have : insS e (p, false) d = (p ++ [d], false) := by simp [insS, hd]
    rw [this, ih (p ++ [d]) (fun x hx => h x (by simp [hx]))]
    simp
theorem insL_split (e : Ed) (l1 l2 : List Ed) (h1 : ∀ d ∈ l1, edB e d = false) (h2 : ∀ d l, l2 = d :: l → edB e d = true) : insL e (l1 ++ l2) = l1 ++ e :: l2 := by
  have hf : insF e (l1 ++ l2) = l2.foldl (insS e) (l1, false) := by unfold insF; rw [List.foldl_append, fold_skip e l1 [] h1]; simp
  cases l2 with
  | nil => unfold insL; rw [hf]; simp
  | cons d l =>
    have hd := h2 d l rfl
    have : insF e (l1 ++ d :: l) = (l1 ++ [e] ++ [d] ++ l, true) := by
      rw [hf, List.foldl_cons]
      have : insS e (l1, false) d = (l1 ++ [e] ++ [d], true) := by simp [insS, hd]
      rw [this, fold_done]
    unfold insL
    rw [this]
    simp
theorem edB_iff {e d : Ed} : edB e d = true ↔ EdLt e d := by
  unfold edB EdLt
  rw [sLess_eq, decide_eq_true_eq, cEnds_lt]
/-- In a valid graph, an edge is put where its place is. -/
theorem insL_val {n : Int} {es : List Ed} (hg : gVal n es = true) (e : Ed) : insL e (cutL es e.1 e.2.1) = pL es e := by
  have hcut : cutL es e.1 e.2.1 = es.take (lbE es e.1 e.2.1) ++ es.drop (lbE es e.1 e.2.1 + fdN es e.1 e.2.1) := by
    cases hf : fdE es e.1 e.2.1
    · have h0 : fdN es e.1 e.2.1 = 0 := by simp [fdN, hf]
      rw [h0, Nat.add_zero, List.take_append_drop]
      unfold cutL
      rw [List.filter_eq_self]
      intro d hd
      obtain ⟨i, hi, rfl⟩ := List.getElem_of_mem hd
      have hl := lfE_val hg e.1 e.2.1
      rw [hf] at hl
      simp only [Bool.false_eq_true, if_false] at hl
      unfold lfE at hl
      split at hl
      · omega
      · rename_i h
        rw [List.findIdx?_eq_none_iff] at h
        simpa using h _ (List.getElem_mem hi)
    · rw [cutL_val hg hf]
      unfold kL
      simp [fdN, hf]
  rw [hcut]
  unfold pL
  apply insL_split
  · intro d hd
    obtain ⟨i, hi, rfl⟩ := List.getElem_of_mem hd
    rw [List.length_take] at hi
    have hlt := lbE_lt (es := es) (a := e.1) (b := e.2.1) (i := i) (by omega)
    rw [eLt_iff] at hlt
    rw [List.getElem_take]
    have e1 : es.getD i (0, 0, 0) = es[i]'(by omega) := by simp [List.getD, (by omega : i < es.length)]
    rw [e1] at hlt
    apply Bool.eq_false_iff.2
    intro h
    rw [edB_iff] at h
    unfold EdLt at h
    omega
  · intro d l hl
    have hlen : lbE es e.1 e.2.1 + fdN es e.1 e.2.1 < es.length := by
      have : (es.drop (lbE es e.1 e.2.1 + fdN es e.1 e.2.1)).length = (d :: l).length := by rw [hl]
      rw [List.length_drop, List.length_cons] at this
      omega
    have hd : d = es.getD (lbE es e.1 e.2.1 + fdN es e.1 e.2.1) (0, 0, 0) := by
      have : (es.drop (lbE es e.1 e.2.1 + fdN es e.1 e.2.1))[0]? = some d := by rw [hl]; rfl
      rw [List.getElem?_drop, Nat.add_zero] at this
      simp [List.getD, this]
    rw [hd, edB_iff]
    have hlb : lbE es e.1 e.2.1 < es.length := by omega
    have hst := lbE_stop hlb
    have hst2 : ¬ eLt e.1 e.2.1 (es.getD (lbE es e.1 e.2.1) (0, 0, 0)) = true := by rw [hst]; simp
    rw [eLt_iff] at hst2
    cases hf : fdE es e.1 e.2.1
    · have h0 : fdN es e.1 e.2.1 = 0 := by simp [fdN, hf]
      rw [h0, Nat.add_zero]
      unfold fdE at hf
      rw [decide_eq_true hlb, Bool.true_and] at hf
      have hne : ¬ cEnds (es.getD (lbE es e.1 e.2.1) (0, 0, 0)).1 (es.getD (lbE es e.1 e.2.1) (0, 0, 0)).2.1 e.1 e.2.1 = 0 := by simpa using hf
      rw [cEnds_eq] at hne
      unfold EdLt
      omega
    · have h1 : fdN es e.1 e.2.1 = 1 := by simp [fdN, hf]
      rw [h1] at hlen ⊢
      have ho := gVal_next hg hlen
      unfold fdE at hf
      rw [decide_eq_true hlb, Bool.true_and, decide_eq_true_eq, cEnds_eq] at hf
      unfold EdLt at *
      omega
end Go.Proofs.Ytjcfefpcilhelaa
namespace Go.Proofs.Ytjcfefpcilhelaa
open Go.RowKit Go.BigFrame Go.Deep
set_option linter.unusedVariables false
set_option linter.unusedSimpArgs false

theorem gVal_iff {n : Int} {L : List Ed} : gVal n L = true ↔ (1 ≤ n ∧ n ≤ 12 ∧ L.length ≤ 40) ∧ (∀ d ∈ L, eFits n d.1 d.2.1 d.2.2 = true) ∧ L.Pairwise EdLt := by
  constructor
  · intro h
    have hp := gVal_parts h
    refine ⟨⟨hp.1, hp.2.1, hp.2.2.1⟩, ?_, ?_⟩
    · intro d hd
      obtain ⟨i, hi, rfl⟩ := List.getElem_of_mem hd
      have := gVal_fits h hi
      simpa [List.getD, hi] using this
    · rw [List.pairwise_iff_getElem]
      intro i j hi hj hij
      have := gVal_sorted h hij hj
      simpa [List.getD, hi, hj] using this
  · rintro ⟨⟨h1, h2, h3⟩, hf, hp⟩
    rw [List.pairwise_iff_getElem] at hp
    simp only [gVal, Bool.and_eq_true, decide_eq_true_eq, List.all_eq_true, List.mem_range]
    refine ⟨⟨h1, h2⟩, h3, fun i hi => ?_⟩
    have h0 := hf _ (List.getElem_mem hi)
    have e0 : L.getD i (0, 0, 0) = L[i] := by simp [List.getD, hi]
    simp only [okAt, e0, h0, Bool.true_and, Bool.or_eq_true, decide_eq_true_eq]
    by_cases hz : i = 0
    · exact .inl hz
    · right
      have hi1 : i - 1 < L.length := by omega
      have e1 : L.getD (i - 1) (0, 0, 0) = L[i - 1] := by simp [List.getD, hi1]
      rw [e1]
      exact cEnds_lt.2 (hp (i - 1) i hi1 hi (by omega))

theorem pL_mem {es : List Ed} {e d : Ed} (h : d ∈ pL es e) : d = e ∨ d ∈ es := by
  unfold pL at h
  simp only [List.mem_append, List.mem_cons] at h
  rcases h with h | h | h
  · exact .inr (List.mem_of_mem_take h)
  · exact .inl h
  · exact .inr (List.mem_of_mem_drop h)
theorem pL_sorted {n : Int} {es : List Ed} (hg : gVal n es = true) (e : Ed) : (pL es e).Pairwise EdLt := by
  have hs := (gVal_iff.1 hg).2.2
  unfold pL
  rw [List.pairwise_append]
  have hbefore : ∀ d ∈ es.take (lbE es e.1 e.2.1), EdLt d e := by
    intro d hd
    obtain ⟨i, hi, rfl⟩ := List.getElem_of_mem hd
    rw [List.length_take] at hi
    have hlt := lbE_lt (es := es) (a := e.1) (b := e.2.1) (i := i) (by omega)
    rw [eLt_iff] at hlt
    rw [List.getElem_take]
    have e1 : es.getD i (0, 0, 0) = es[i]'(by omega) := by simp [List.getD, (by omega : i < es.length)]
    rw [e1] at hlt
    unfold EdLt
    omega
  have hbehind : ∀ d ∈ es.drop (lbE es e.1 e.2.1 + fdN es e.1 e.2.1), EdLt e d := by
    intro d hd
    obtain ⟨i, hi, rfl⟩ := List.getElem_of_mem hd
    rw [List.length_drop] at hi
    rw [List.getElem_drop]
    have hlb : lbE es e.1 e.2.1 < es.length := by omega
    have hst := lbE_stop hlb
    have hst2 : ¬ eLt e.1 e.2.1 (es.getD (lbE es e.1 e.2.1) (0, 0, 0)) = true := by rw [hst]; simp
    rw [eLt_iff] at hst2
    have e1 : es.getD (lbE es e.1 e.2.1 + fdN es e.1 e.2.1 + i) (0, 0, 0) = es[lbE es e.1 e.2.1 + fdN es e.1 e.2.1 + i] := by simp [List.getD, (by omega : lbE es e.1 e.2.1 + fdN es e.1 e.2.1 + i < es.length)]
    rw [← e1]
    cases hf : fdE es e.1 e.2.1
    · have h0 : fdN es e.1 e.2.1 = 0 := by simp [fdN, hf]
      rw [h0, Nat.add_zero] at hi ⊢
      unfold fdE at hf
      rw [decide_eq_true hlb, Bool.true_and] at hf
      have hne : ¬ cEnds (es.getD (lbE es e.1 e.2.1) (0, 0, 0)).1 (es.getD (lbE es e.1 e.2.1) (0, 0, 0)).2.1 e.1 e.2.1 = 0 := by simpa using hf
      rw [cEnds_eq] at hne
      by_cases hi0 : i = 0
      · subst hi0
        rw [Nat.add_zero]
        unfold EdLt; omega
      · have ho := gVal_sorted hg (show lbE es e.1 e.2.1 < lbE es e.1 e.2.1 + i by omega) (by omega)
        unfold EdLt at *; omega
    · have h1 : fdN es e.1 e.2.1 = 1 := by simp [fdN, hf]
      rw [h1] at hi ⊢
      have ho := gVal_sorted hg (show lbE es e.1 e.2.1 < lbE es e.1 e.2.1 + 1 + i by omega) (by omega)
      unfold fdE at hf
      rw [decide_eq_true hlb, Bool.true_and, decide_eq_true_eq, cEnds_eq] at hf
      unfold EdLt at *
      omega
  refine ⟨hs.sublist (List.take_sublist _ _), ?_, ?_⟩
  · rw [List.pairwise_cons]
    exact ⟨hbehind, hs.sublist (List.drop_sublist _ _)⟩
  · intro a ha b hb
    rw [List.mem_cons] at hb
    rcases hb with rfl | hb
    · exact hbefore a ha
    · exact (hbefore a ha).trans (hbehind b hb)
theorem gVal_put {n : Int} {es : List Ed} (hg : gVal n es = true) (e : Ed) : gVal n (pL es e) = (eFits n e.1 e.2.1 e.2.2 && decide ((pL es e).length ≤ 40)) := by
  rw [Bool.eq_iff_iff, gVal_iff, Bool.and_eq_true, decide_eq_true_eq]
  have h := gVal_iff.1 hg
  constructor
  · rintro ⟨⟨_, _, h3⟩, hf, _⟩
    exact ⟨hf e (by unfold pL; simp), h3⟩
  · rintro ⟨hf, h3⟩
    refine ⟨⟨h.1.1, h.1.2.1, h3⟩, ?_, pL_sorted hg e⟩
    intro d hd
    rcases pL_mem hd with rfl | hd
    · exact hf
    · exact h.2.1 d hd
end Go.Proofs.Ytjcfefpcilhelaa
