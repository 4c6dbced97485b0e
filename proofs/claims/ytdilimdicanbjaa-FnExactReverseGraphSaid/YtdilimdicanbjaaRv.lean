/- A graph turned round: the mathematics. -/
import Derived.Test.YtdilimdicanbjaaIns2
namespace Go.Proofs.Ytdilimdicanbjaa
set_option linter.unusedVariables false
set_option linter.unusedSimpArgs false

/-- An edge the other way round. -/
def swE (e : Ed) : Ed := (e.2.1, e.1, e.2.2)
/-- Two edges have not the same ends. -/
def NE (a b : Ed) : Prop := ¬ (a.1 = b.1 ∧ a.2.1 = b.2.1)
theorem NE.symm {a b : Ed} (h : NE a b) : NE b a := fun ⟨h1, h2⟩ => h ⟨h1.symm, h2.symm⟩
theorem pL_len' (es : List Ed) (e : Ed) : (pL es e).length ≤ es.length + 1 := by
  unfold pL
  simp only [List.length_append, List.length_take, List.length_cons, List.length_drop]
  omega
theorem fdE_some {es : List Ed} {a b : Int} (h : fdE es a b = true) : ∃ d ∈ es, d.1 = a ∧ d.2.1 = b := by
  unfold fdE at h
  simp only [Bool.and_eq_true, decide_eq_true_eq] at h
  obtain ⟨h1, h2⟩ := h
  rw [cEnds_eq] at h2
  refine ⟨es.getD (lbE es a b) (0, 0, 0), ?_, h2⟩
  simp [List.getD, h1]
theorem pL_mem_iff {es : List Ed} {e : Ed} (h : fdE es e.1 e.2.1 = false) (d : Ed) : d ∈ pL es e ↔ d = e ∨ d ∈ es := by
  have hn : fdN es e.1 e.2.1 = 0 := by unfold fdN; rw [h]; rfl
  unfold pL
  rw [hn, Nat.add_zero]
  constructor
  · intro hd
    rcases List.mem_append.1 hd with h1 | h1
    · exact .inr (List.mem_of_mem_take h1)
    · rcases List.mem_cons.1 h1 with h2 | h2
      · exact .inl h2
      · exact .inr (List.mem_of_mem_drop h2)
  · rintro (rfl | hd)
    · exact List.mem_append_right _ (List.mem_cons_self)
    · rw [← List.take_append_drop (lbE es e.1 e.2.1) es] at hd
      rcases List.mem_append.1 hd with h1 | h1
      · exact List.mem_append_left _ h1
      · exact List.mem_append_right _ (List.mem_cons_of_mem _ h1)
theorem EdLt.irrefl (a : Ed) : ¬ EdLt a a := by unfold EdLt; omega
theorem sorted_same {A : List Ed} : ∀ {B : List Ed}, A.Pairwise EdLt → B.Pairwise EdLt → (∀ d, d ∈ A ↔ d ∈ B) → A = B := by
  induction A with
  | nil =>
    intro B _ _ h
    cases B with
    | nil => rfl
    | cons b B => exact absurd ((h b).2 List.mem_cons_self) (by simp)
  | cons a A ih =>
    intro B hA hB h
    cases B with
    | nil => exact absurd ((h a).1 List.mem_cons_self) (by simp)
    | cons b B =>
      rw [List.pairwise_cons] at hA hB
      have hab : a = b := by
        rcases List.mem_cons.1 ((h a).1 List.mem_cons_self) with e | e
        · exact e
        · rcases List.mem_cons.1 ((h b).2 List.mem_cons_self) with e2 | e2
          · exact e2.symm
          · exact absurd ((hB.1 a e).trans (hA.1 b e2)) (EdLt.irrefl _)
      subst hab
      congr 1
      refine ih hA.2 hB.2 (fun d => ?_)
      constructor
      · intro hd
        rcases List.mem_cons.1 ((h d).1 (List.mem_cons_of_mem _ hd)) with e | e
        · rw [e] at hd; exact absurd (hA.1 a hd) (EdLt.irrefl _)
        · exact e
      · intro hd
        rcases List.mem_cons.1 ((h d).2 (List.mem_cons_of_mem _ hd)) with e | e
        · rw [e] at hd; exact absurd (hB.1 a hd) (EdLt.irrefl _)
        · exact e
/-- The graph with all edges turned, put one after the other. -/
def rvL (es : List Ed) : List Ed := (es.map swE).foldl pL []
def rvK (es : List Ed) (k : Nat) : List Ed := ((es.map swE).take k).foldl pL []
theorem rvK_succ (es : List Ed) {k : Nat} (hk : k < es.length) : rvK es (k + 1) = pL (rvK es k) (swE (es.getD k (0, 0, 0))) := by
  unfold rvK
  rw [List.take_succ_eq_append_getElem (by simpa using hk), List.foldl_append]
  simp [List.getD, hk]
theorem rvK_all (es : List Ed) : rvK es es.length = rvL es := by unfold rvK rvL; rw [List.take_of_length_le (by simp)]
theorem rv_fold {n : Int} : ∀ (B A R : List Ed), gVal n R = true → (∀ d, d ∈ R ↔ d ∈ A) → R.length ≤ A.length → (A ++ B).Pairwise NE → (∀ d ∈ B, eFits n d.1 d.2.1 d.2.2 = true) → (A ++ B).length ≤ 40 →
    gVal n (B.foldl pL R) = true ∧ (∀ d, d ∈ B.foldl pL R ↔ d ∈ A ++ B) ∧ (B.foldl pL R).length ≤ (A ++ B).length := by
  intro B
  induction B with
  | nil => intro A R hg hm hl _ _ _; rw [List.append_nil]; exact ⟨hg, hm, hl⟩
  | cons e B ih =>
    intro A R hg hm hl hp hf h40
    have hnf : fdE R e.1 e.2.1 = false := by
      cases hc : fdE R e.1 e.2.1 with
      | false => rfl
      | true =>
        obtain ⟨d, hd, h1, h2⟩ := fdE_some hc
        have hd2 := (hm d).1 hd
        rw [List.pairwise_append] at hp
        exact absurd ⟨h1, h2⟩ (hp.2.2 d hd2 e List.mem_cons_self)
    have hlen := pL_len' R e
    have hg2 : gVal n (pL R e) = true := by
      rw [gVal_put hg, hf e List.mem_cons_self, decide_eq_true (by simp at h40; omega)]; rfl
    have := ih (A ++ [e]) (pL R e) hg2 (fun d => by rw [pL_mem_iff hnf, hm d]; simp [or_comm]) (by simp; omega) (by simpa using hp) (fun d hd => hf d (List.mem_cons_of_mem _ hd)) (by simpa using h40)
    simpa using this
theorem eFits_swap (n a b p : Int) : eFits n a b p = eFits n b a p := by
  rw [Bool.eq_iff_iff]
  unfold eFits
  simp only [Bool.and_eq_true, decide_eq_true_eq, bne_iff_ne, ne_eq, Bool.not_eq_true', decide_eq_false_iff_not]
  constructor <;> intro h <;> omega
theorem gVal_swapped {n : Int} {es : List Ed} (hg : gVal n es = true) : (es.map swE).Pairwise NE ∧ (∀ d ∈ es.map swE, eFits n d.1 d.2.1 d.2.2 = true) ∧ (es.map swE).length ≤ 40 := by
  obtain ⟨⟨h1, h12, h40⟩, hf, hp⟩ := gVal_iff.1 hg
  refine ⟨?_, ?_, by simpa using h40⟩
  · rw [List.pairwise_map]
    refine hp.imp (fun {a b} h => ?_)
    unfold NE swE
    unfold EdLt at h
    simp only
    omega
  · intro d hd
    obtain ⟨e, he, rfl⟩ := List.mem_map.1 hd
    have := hf e he
    unfold swE
    rw [eFits_swap]
    exact this
theorem gVal_nil {n : Int} {es : List Ed} (hg : gVal n es = true) : gVal n [] = true := by
  obtain ⟨⟨h1, h12, h40⟩, hf, hp⟩ := gVal_iff.1 hg
  exact gVal_iff.2 ⟨⟨h1, h12, by simp⟩, by simp, List.Pairwise.nil⟩
theorem rvL_val {n : Int} {es : List Ed} (hg : gVal n es = true) : gVal n (rvL es) = true ∧ (∀ d, d ∈ rvL es ↔ d ∈ es.map swE) ∧ (rvL es).length ≤ es.length := by
  obtain ⟨h1, h2, h3⟩ := gVal_swapped hg
  have := rv_fold (n := n) (es.map swE) [] [] (gVal_nil hg) (fun d => Iff.rfl) (Nat.le_refl _) (by simpa using h1) h2 (by simpa using h3)
  simpa [rvL] using this
theorem rvK_val {n : Int} {es : List Ed} (hg : gVal n es = true) (k : Nat) : gVal n (rvK es k) = true ∧ (rvK es k).length ≤ k := by
  obtain ⟨h1, h2, h3⟩ := gVal_swapped hg
  have := rv_fold (n := n) ((es.map swE).take k) [] [] (gVal_nil hg) (fun d => Iff.rfl) (Nat.le_refl _) (by simpa using List.Pairwise.sublist (List.take_sublist k _) h1) (fun d hd => h2 d (List.mem_of_mem_take hd)) (by simp at h3 ⊢; omega)
  simp only [List.nil_append] at this
  refine ⟨this.1, Nat.le_trans this.2.2 (by simp; omega)⟩
/-- Whatever sorting the turned edges gives is it. -/
theorem rv_sorted {n : Int} {es L : List Ed} (hg : gVal n es = true) (hp : L.Perm (es.map swE)) (hs : L.Pairwise (fun a b => ¬ EdLt b a)) : L = rvL es := by
  obtain ⟨h1, h2, h3⟩ := gVal_swapped hg
  obtain ⟨g1, g2, g3⟩ := rvL_val hg
  have hne : L.Pairwise NE := (hp.pairwise_iff (fun h => NE.symm h)).2 h1
  have hst : L.Pairwise EdLt := by
    refine List.Pairwise.imp₂ (fun a b h k => ?_) hs hne
    unfold EdLt NE at *
    omega
  exact sorted_same hst (gVal_iff.1 g1).2.2 (fun d => by rw [hp.mem_iff, g2 d])
end Go.Proofs.Ytdilimdicanbjaa
