/- When two graphs are the same, in the program and in the model. Edges put and cut: mathematics. -/
import Derived.Test.YtbinpaaihdcnlaaGraph3
import Derived.Test.YtbinpaaihdcnlaaRowAt
import Derived.Test.YtbinpaaihdcnlaaPutT
namespace Go.Proofs.Ytbinpaaihdcnlaa
open Go.RowKit Go.BigFrame
set_option linter.unusedVariables false
set_option linter.unusedSimpArgs false

/-- Are two lists of edges the same? -/
def eSame (es fs : List Ed) : Bool := decide (es = fs)
theorem eSame_len {es fs : List Ed} (h : ¬ es.length = fs.length) : eSame es fs = false := by
  unfold eSame
  apply decide_eq_false
  intro e
  exact h (by rw [e])
theorem eSame_at {es fs : List Ed} {k : Nat} (h : es.getD k (0, 0, 0) ≠ fs.getD k (0, 0, 0)) : eSame es fs = false := by
  unfold eSame
  apply decide_eq_false
  intro e
  exact h (by rw [e])
theorem eSame_all {es fs : List Ed} (hl : es.length = fs.length) (h : ∀ i, i < es.length → es.getD i (0, 0, 0) = fs.getD i (0, 0, 0)) : eSame es fs = true := by
  unfold eSame
  apply decide_eq_true
  apply List.ext_getElem hl
  intro i h1 h2
  have := h i h1
  simpa [List.getD, h1, h2] using this

/-- Are two graphs the same? -/
def gSame (n : Int) (es : List Ed) (m : Int) (fs : List Ed) : Bool := decide (n = m) && eSame es fs

end Go.Proofs.Ytbinpaaihdcnlaa
namespace Go.Proofs.Ytbinpaaihdcnlaa
set_option linter.unusedVariables false
set_option linter.unusedSimpArgs false

theorem EdLt.irr9 {a : Ed} (h : EdLt a a) : False := by unfold EdLt at h; omega
theorem EdLt.asymm {a b : Ed} (h : EdLt a b) (k : EdLt b a) : False := EdLt.irr9 (h.trans k)
/-- Sorted lists with the same edges are the same. -/
theorem sorted_ext : ∀ (L M : List Ed), L.Pairwise EdLt → M.Pairwise EdLt → (∀ d, d ∈ L ↔ d ∈ M) → L = M
  | [], [], _, _, _ => rfl
  | [], b :: M, _, _, h => by have := (h b).2 (List.mem_cons_self ..); cases this
  | a :: L, [], _, _, h => by have := (h a).1 (List.mem_cons_self ..); cases this
  | a :: L, b :: M, h1, h2, h => by
    rw [List.pairwise_cons] at h1 h2
    have hab : a = b := by
      apply Classical.byContradiction
      intro hne
      have ha := (h a).1 (List.mem_cons_self ..)
      have hb := (h b).2 (List.mem_cons_self ..)
      rcases List.mem_cons.1 ha with e | e
      · exact hne e
      rcases List.mem_cons.1 hb with e2 | e2
      · exact hne e2.symm
      exact EdLt.asymm (h1.1 b e2) (h2.1 a e)
    subst hab
    congr 1
    apply sorted_ext L M h1.2 h2.2
    intro d
    constructor
    · intro hd
      rcases List.mem_cons.1 ((h d).1 (List.mem_cons_of_mem _ hd)) with e | e
      · subst e; exact (EdLt.irr9 (h1.1 _ hd)).elim
      · exact e
    · intro hd
      rcases List.mem_cons.1 ((h d).2 (List.mem_cons_of_mem _ hd)) with e | e
      · subst e; exact (EdLt.irr9 (h2.1 _ hd)).elim
      · exact e
theorem insFold_mem (e x : Ed) : ∀ (l p : List Ed) (b : Bool), (l.foldl (insS e) (p, b)).2 = true ∧ (x ∈ (l.foldl (insS e) (p, b)).1 ↔ x ∈ p ∨ x ∈ l ∨ (x = e ∧ b = false)) ∨ (l.foldl (insS e) (p, b)).2 = false ∧ b = false ∧ (x ∈ (l.foldl (insS e) (p, b)).1 ↔ x ∈ p ∨ x ∈ l)
  | [], p, b => by cases b <;> simp
  | d :: l, p, b => by
    rw [List.foldl_cons]
    unfold insS
    by_cases hc : b = false ∧ edB e d = true
    · rw [if_pos hc]
      have h := insFold_mem e x l (p ++ [e] ++ [d]) true
      rcases h with ⟨h1, h2⟩ | ⟨h1, h2, _⟩
      · refine .inl ⟨h1, ?_⟩
        rw [show (fun s d => if s.2 = false ∧ edB e d = true then (s.1 ++ [e] ++ [d], true) else (s.1 ++ [d], s.2)) = insS e from rfl, h2]
        simp [hc.1]
        constructor <;> (intro h9; simp only [or_assoc] at h9 ⊢; rcases h9 with h9 | h9 | h9 | h9 <;> simp [h9])
      · cases h2
    · rw [if_neg hc]
      have h := insFold_mem e x l (p ++ [d]) b
      rcases h with ⟨h1, h2⟩ | ⟨h1, h2, h3⟩
      · refine .inl ⟨h1, ?_⟩
        rw [show (fun s d => if s.2 = false ∧ edB e d = true then (s.1 ++ [e] ++ [d], true) else (s.1 ++ [d], s.2)) = insS e from rfl, h2]
        simp [or_assoc]
      · refine .inr ⟨h1, h2, ?_⟩
        rw [show (fun s d => if s.2 = false ∧ edB e d = true then (s.1 ++ [e] ++ [d], true) else (s.1 ++ [d], s.2)) = insS e from rfl, h3]
        simp [or_assoc]
theorem insL_mem (e x : Ed) (l : List Ed) : x ∈ insL e l ↔ x = e ∨ x ∈ l := by
  unfold insL insF
  rcases insFold_mem e x l [] false with ⟨h1, h2⟩ | ⟨h1, _, h2⟩
  · rw [if_pos h1, h2]
    simp [or_comm]
  · rw [if_neg (by rw [h1]; simp), List.mem_append, h2]
    simp [or_comm]
theorem eBe_ends {a b : Int} {d : Ed} : eBe a b d = true ↔ d.1 = a ∧ d.2.1 = b := by simp [eBe]
theorem cutL_mem {es : List Ed} {a b : Int} {d : Ed} : d ∈ cutL es a b ↔ d ∈ es ∧ ¬ (d.1 = a ∧ d.2.1 = b) := by
  unfold cutL
  rw [List.mem_filter, Bool.not_eq_true', ← Bool.not_eq_true, eBe_ends]
theorem pL_iff {n : Int} {es : List Ed} (hg : gVal n es = true) (e d : Ed) : d ∈ pL es e ↔ d = e ∨ (d ∈ es ∧ ¬ (d.1 = e.1 ∧ d.2.1 = e.2.1)) := by
  rw [← insL_val hg, insL_mem, cutL_mem]
/-- Is there an edge between two nodes? -/
theorem fdE_iff {n : Int} {es : List Ed} (hg : gVal n es = true) (a b : Int) : fdE es a b = true ↔ ∃ d ∈ es, d.1 = a ∧ d.2.1 = b := by
  have hv := lfE_val hg a b
  constructor
  · intro h
    unfold fdE at h
    rw [Bool.and_eq_true, decide_eq_true_eq, decide_eq_true_eq, cEnds_eq] at h
    refine ⟨es.getD (lbE es a b) (0, 0, 0), ?_, h.2⟩
    have := h.1
    simp [List.getD, this]
  · rintro ⟨d, hd, he⟩
    cases hf : fdE es a b with
    | true => rfl
    | false =>
      rw [hf, if_neg (by decide)] at hv
      obtain ⟨i, hi, rfl⟩ := List.getElem_of_mem hd
      exfalso
      unfold lfE at hv
      cases hx : es.findIdx? (eBe a b) with
      | some j => rw [hx] at hv; simp at hv
      | none =>
        rw [List.findIdx?_eq_none_iff] at hx
        have := hx _ hd
        rw [eBe_ends.2 he] at this
        cases this
theorem ends_unique {n : Int} {es : List Ed} (hg : gVal n es = true) {d e : Ed} (hd : d ∈ es) (he : e ∈ es) (h : d.1 = e.1 ∧ d.2.1 = e.2.1) : d = e := by
  obtain ⟨i, hi, rfl⟩ := List.getElem_of_mem hd
  obtain ⟨j, hj, rfl⟩ := List.getElem_of_mem he
  have hp := (gVal_iff.1 hg).2.2
  rw [List.pairwise_iff_getElem] at hp
  rcases Nat.lt_trichotomy i j with h1 | h1 | h1
  · have := hp i j hi hj h1; unfold EdLt at this; omega
  · subst h1; rfl
  · have := hp j i hj hi h1; unfold EdLt at this; omega
theorem wOf_yes {n : Int} {es : List Ed} (hg : gVal n es = true) {a b : Int} (hf : fdE es a b = true) : ∃ t, wOf n es a b = (t, true) ∧ (a, b, t) ∈ es := by
  have h := hf
  unfold fdE at h
  rw [Bool.and_eq_true, decide_eq_true_eq, decide_eq_true_eq, cEnds_eq] at h
  refine ⟨(es.getD (lbE es a b) (0, 0, 0)).2.2, by unfold wOf; rw [if_pos ⟨hg, hf⟩], ?_⟩
  have hm : es.getD (lbE es a b) (0, 0, 0) ∈ es := by have := h.1; simp [List.getD, this]
  obtain ⟨E, hE⟩ : ∃ E, E = es.getD (lbE es a b) (0, 0, 0) := ⟨_, rfl⟩
  rw [← hE] at h hm ⊢
  obtain ⟨e1, e2, e3⟩ := E
  obtain ⟨h1, h2, h3⟩ := h
  simp only at h2 h3 hm ⊢
  subst h2 h3
  exact hm
theorem wOf_no {n : Int} {es : List Ed} {a b : Int} (hf : fdE es a b = false) : wOf n es a b = (0, false) := by
  unfold wOf
  rw [if_neg (by rw [hf]; simp)]
theorem gVal_sub {n : Int} {es fs : List Ed} (hg : gVal n es = true) (h : fs.Sublist es) : gVal n fs = true := by
  obtain ⟨h1, h2, h3⟩ := gVal_iff.1 hg
  exact gVal_iff.2 ⟨⟨h1.1, h1.2.1, Nat.le_trans h.length_le h1.2.2⟩, fun d hd => h2 d (h.subset hd), h3.sublist h⟩
theorem gVal_cut {n : Int} {es : List Ed} (hg : gVal n es = true) (a b : Int) : gVal n (cutL es a b) = true := gVal_sub hg (List.filter_sublist ..)
theorem fd_cut {n : Int} {es : List Ed} (hg : gVal n es = true) (a b : Int) : fdE (cutL es a b) a b = false := by
  cases h : fdE (cutL es a b) a b with
  | false => rfl
  | true =>
    obtain ⟨d, hd, he⟩ := (fdE_iff (gVal_cut hg a b) a b).1 h
    exact ((cutL_mem.1 hd).2 he).elim
theorem fits_of {n : Int} {es : List Ed} (hg : gVal n es = true) {d : Ed} (hd : d ∈ es) : eFits n d.1 d.2.1 d.2.2 = true := (gVal_iff.1 hg).2.1 d hd
theorem sorted_of {n : Int} {es : List Ed} (hg : gVal n es = true) : es.Pairwise EdLt := (gVal_iff.1 hg).2.2
/-- A cut edge that is put again. -/
theorem put_cut {n : Int} {es : List Ed} (hg : gVal n es = true) {a b t : Int} (h : (a, b, t) ∈ es) : pL (cutL es a b) (a, b, t) = es := by
  have hc := gVal_cut hg a b
  refine sorted_ext _ _ (pL_sorted hc _) (sorted_of hg) fun d => ?_
  rw [pL_iff hc, cutL_mem]
  constructor
  · rintro (rfl | ⟨⟨h1, _⟩, _⟩)
    · exact h
    · exact h1
  · intro hd
    by_cases he : d.1 = a ∧ d.2.1 = b
    · exact .inl (ends_unique hg hd h he)
    · exact .inr ⟨⟨hd, he⟩, he⟩
theorem putB_iff {n : Int} {es : List Ed} {e : Ed} : putB n es e = true ↔ gVal n es = true ∧ eFits n e.1 e.2.1 e.2.2 = true ∧ (pL es e).length ≤ 40 := by
  unfold putB
  rw [Bool.and_eq_true, Bool.and_eq_true, decide_eq_true_eq, and_assoc]
theorem putB_val9 {n : Int} {es : List Ed} {e : Ed} (h : putB n es e = true) : gVal n (pL es e) = true := by
  obtain ⟨h1, h2, h3⟩ := putB_iff.1 h
  rw [gVal_put h1, h2, decide_eq_true h3]
  rfl
theorem put_back {n : Int} {es : List Ed} (hg : gVal n es = true) {a b t : Int} (h : (a, b, t) ∈ es) : putB n (cutL es a b) (a, b, t) = true := by
  refine putB_iff.2 ⟨gVal_cut hg a b, fits_of hg h, ?_⟩
  rw [put_cut hg h]
  exact (gVal_iff.1 hg).1.2.2
/-- The last weight counts. -/
theorem put_twice {n : Int} {es : List Ed} (hg : gVal n es = true) {e f : Ed} (hp : gVal n (pL es e) = true) (h : f.1 = e.1 ∧ f.2.1 = e.2.1) : pL (pL es e) f = pL es f := by
  refine sorted_ext _ _ (pL_sorted hp _) (pL_sorted hg _) fun d => ?_
  rw [pL_iff hp, pL_iff hg, pL_iff hg, h.1, h.2]
  constructor
  · rintro (h1 | ⟨h1 | h1, h2⟩)
    · exact .inl h1
    · subst h1; exact (h2 ⟨rfl, rfl⟩).elim
    · exact .inr h1
  · rintro (h1 | h1)
    · exact .inl h1
    · exact .inr ⟨.inr h1, h1.2⟩
/-- Edges between other nodes can be put in either order. -/
theorem put_order {n : Int} {es : List Ed} (hg : gVal n es = true) {e f : Ed} (hp : gVal n (pL es e) = true) (hq : gVal n (pL es f) = true) (h : ¬ (e.1 = f.1 ∧ e.2.1 = f.2.1)) : pL (pL es e) f = pL (pL es f) e := by
  have h2 : ¬ (f.1 = e.1 ∧ f.2.1 = e.2.1) := fun k => h ⟨k.1.symm, k.2.symm⟩
  refine sorted_ext _ _ (pL_sorted hp _) (pL_sorted hq _) fun d => ?_
  rw [pL_iff hp, pL_iff hq, pL_iff hg, pL_iff hg]
  constructor
  · rintro (h1 | ⟨h1 | h1, h3⟩)
    · subst h1; exact .inr ⟨.inl rfl, h2⟩
    · exact .inl h1
    · exact .inr ⟨.inr ⟨h1.1, h3⟩, h1.2⟩
  · rintro (h1 | ⟨h1 | h1, h3⟩)
    · subst h1; exact .inr ⟨.inl rfl, h⟩
    · exact .inl h1
    · exact .inr ⟨.inr ⟨h1.1, h3⟩, h1.2⟩
theorem insFold_len (e : Ed) : ∀ (l p : List Ed) (b : Bool), (l.foldl (insS e) (p, b)).1.length + (if (l.foldl (insS e) (p, b)).2 = true then 0 else 1) = p.length + l.length + (if b = true then 0 else 1)
  | [], p, b => by cases b <;> simp
  | d :: l, p, b => by
    rw [List.foldl_cons]
    unfold insS
    by_cases hc : b = false ∧ edB e d = true
    · rw [if_pos hc, show (fun s d => if s.2 = false ∧ edB e d = true then (s.1 ++ [e] ++ [d], true) else (s.1 ++ [d], s.2)) = insS e from rfl, insFold_len e l]
      simp [hc.1]
      omega
    · rw [if_neg hc, show (fun s d => if s.2 = false ∧ edB e d = true then (s.1 ++ [e] ++ [d], true) else (s.1 ++ [d], s.2)) = insS e from rfl, insFold_len e l]
      simp
      omega
theorem insL_len (e : Ed) (l : List Ed) : (insL e l).length = l.length + 1 := by
  have h := insFold_len e l [] false
  unfold insL insF
  by_cases h1 : (l.foldl (insS e) ([], false)).2 = true
  · rw [if_pos h1]; rw [if_pos h1] at h; simpa using h
  · rw [if_neg h1]; rw [if_neg h1] at h; simp at h ⊢; omega
theorem pL_len2 {n : Int} {es : List Ed} (hg : gVal n es = true) {e f : Ed} (h : f.1 = e.1 ∧ f.2.1 = e.2.1) : (pL es f).length = (pL es e).length := by
  rw [← insL_val hg, ← insL_val hg, insL_len, insL_len, h.1, h.2]
/-- Other weights fit as well. -/
theorem put_other {n : Int} {es : List Ed} {e f : Ed} (hp : putB n es e = true) (h : f.1 = e.1 ∧ f.2.1 = e.2.1) (hf : eFits n f.1 f.2.1 f.2.2 = true) : putB n es f = true ∧ putB n (pL es e) f = true ∧ pL (pL es e) f = pL es f := by
  obtain ⟨h1, h2, h3⟩ := putB_iff.1 hp
  have h4 := put_twice h1 (putB_val9 hp) h
  have h5 : (pL es f).length ≤ 40 := by rw [pL_len2 h1 h]; exact h3
  exact ⟨putB_iff.2 ⟨h1, hf, h5⟩, putB_iff.2 ⟨putB_val9 hp, hf, by rw [h4]; exact h5⟩, h4⟩
theorem put_both {n : Int} {es : List Ed} {e f : Ed} (hp : putB n es e = true) (h : ¬ (e.1 = f.1 ∧ e.2.1 = f.2.1)) (hq : putB n (pL es e) f = true) (hr : putB n es f = true) : putB n (pL es f) e = true ∧ pL (pL es e) f = pL (pL es f) e := by
  obtain ⟨h1, h2, h3⟩ := putB_iff.1 hp
  have h4 := put_order h1 (putB_val9 hp) (putB_val9 hr) h
  exact ⟨putB_iff.2 ⟨putB_val9 hr, h2, by rw [← h4]; exact (putB_iff.1 hq).2.2⟩, h4⟩
theorem gSame_self (n : Int) (es : List Ed) : gSame n es n es = true := by
  unfold gSame
  rw [eSame_all rfl (fun _ _ => rfl)]
  simp
end Go.Proofs.Ytbinpaaihdcnlaa
