/- Paths in order: mathematics. The order is total; whatever sorting gives is one list. -/
import Derived.Test.YtneapbggnnndhaaGreatPbfA
import Derived.Test.YtneapbggnnndhaaGreatWlkA
namespace Go.Proofs.YtneapbggnnndhaaGreat
set_option linter.unusedVariables false
set_option linter.unusedSimpArgs false

theorem cInt_neg (a b : Int) : cInt b a = - cInt a b := by
  unfold cInt
  split <;> split <;> (try split) <;> omega
theorem lexC_neg : ∀ (a b : List Int), lexC b a = - lexC a b
  | [], [] => rfl
  | [], _ :: _ => rfl
  | _ :: _, [] => rfl
  | x :: a, y :: b => by
    simp only [lexC]
    rw [cInt_neg x y, lexC_neg a b]
    by_cases h : cInt x y = 0
    · rw [if_neg (by omega), if_neg (by omega)]
    · rw [if_pos (by omega), if_pos h]
theorem lexC_z : ∀ {a b : List Int}, lexC a b = 0 → a = b
  | [], [], _ => rfl
  | [], _ :: _, h => by simp [lexC] at h
  | _ :: _, [], h => by simp [lexC] at h
  | x :: a, y :: b, h => by
    simp only [lexC] at h
    by_cases h0 : cInt x y = 0
    · rw [if_neg (by omega)] at h
      rw [cInt_z.1 h0, lexC_z h]
    · rw [if_pos h0] at h
      exact absurd h h0
theorem lexC_refl (a : List Int) : lexC a a = 0 := by
  have := lexC_neg a a
  omega
theorem lexC_trans : ∀ {a b c : List Int}, lexC a b < 0 → lexC b c < 0 → lexC a c < 0
  | [], [], _, h, _ => by simp [lexC] at h
  | [], _ :: _, [], _, h => by simp [lexC] at h
  | [], _ :: _, _ :: _, _, _ => by simp [lexC]
  | _ :: _, [], _, h, _ => by simp [lexC] at h
  | _ :: _, _ :: _, [], _, h => by simp [lexC] at h
  | x :: a, y :: b, z :: c, h, k => by
    simp only [lexC] at h k ⊢
    by_cases h1 : cInt x y = 0
    · rw [if_neg (by omega)] at h
      have e := cInt_z.1 h1
      subst e
      by_cases h2 : cInt x z = 0
      · rw [if_neg (by omega)] at k ⊢
        exact lexC_trans h k
      · rw [if_pos h2] at k ⊢
        exact k
    · rw [if_pos h1] at h
      have h3 := cInt_n.1 h
      by_cases h2 : cInt y z = 0
      · have e := cInt_z.1 h2
        subst e
        rw [if_pos h1]
        exact h
      · rw [if_pos h2] at k
        have h4 := cInt_n.1 k
        have h5 : x < z := by omega
        rw [if_pos (by rw [ne_eq, cInt_z]; omega)]
        exact cInt_n.2 h5
theorem bet_trans {m a b c : Int} (h : mBet m a b = true) (k : mBet m b c = true) : mBet m a c = true := by
  unfold mBet at *
  split at h <;> rename_i hm
  · rw [if_pos hm] at k ⊢
    simp at *
    omega
  · rw [if_neg hm] at k ⊢
    simp at *
    omega
/-- Is a path in front of another one? -/
def lP (m : Int) (p q : Pt) : Bool := bP m p.1 p.2 q.1 q.2
theorem lP_irr (m : Int) (p : Pt) : lP m p p = false := by
  unfold lP bP lexB
  rw [if_pos rfl, if_pos rfl, lexC_refl]
  simp
theorem lP_trans {m : Int} {p q r : Pt} (h : lP m p q = true) (k : lP m q r = true) : lP m p r = true := by
  obtain ⟨a, x⟩ := p
  obtain ⟨b, y⟩ := q
  obtain ⟨c, z⟩ := r
  unfold lP bP lexB at *
  simp only at *
  by_cases h1 : x = y
  · subst h1
    rw [if_pos rfl] at h
    by_cases h2 : x = z
    · subst h2
      rw [if_pos rfl] at k ⊢
      by_cases h3 : a.length = b.length
      · rw [if_pos h3] at h
        by_cases h4 : b.length = c.length
        · rw [if_pos h4] at k
          rw [if_pos (by omega)]
          simp at h k ⊢
          exact lexC_trans h k
        · rw [if_neg h4] at k
          rw [if_neg (by omega)]
          simp at k ⊢
          omega
      · rw [if_neg h3] at h
        by_cases h4 : b.length = c.length
        · rw [if_neg (by omega)]
          simp at h ⊢
          omega
        · rw [if_neg h4] at k
          simp at h k
          rw [if_neg (by omega)]
          simp
          omega
    · rw [if_neg h2] at k ⊢
      exact k
  · rw [if_neg h1] at h
    by_cases h2 : y = z
    · subst h2
      rw [if_neg h1]
      exact h
    · rw [if_neg h2] at k
      have h3 := bet_trans h k
      rw [if_neg]
      · exact h3
      · intro e
        subst e
        rw [bet_irr] at h3
        cases h3
theorem lP_tot {m : Int} (hm : mKind m = true) {p q : Pt} (h : lP m p q = false) (k : lP m q p = false) : p = q := by
  obtain ⟨a, x⟩ := p
  obtain ⟨b, y⟩ := q
  unfold lP bP lexB at *
  simp only at *
  by_cases h1 : x = y
  · subst h1
    rw [if_pos rfl] at h k
    by_cases h3 : a.length = b.length
    · rw [if_pos h3] at h
      rw [if_pos h3.symm] at k
      simp at h k
      rw [lexC_neg a b] at k
      rw [lexC_z (a := a) (b := b) (by omega)]
    · rw [if_neg h3] at h
      rw [if_neg (fun e => h3 e.symm)] at k
      simp at h k
      omega
  · rw [if_neg h1] at h
    rw [if_neg (fun e => h1 e.symm)] at k
    exact absurd (le_anti hm k h) h1
theorem lP_ntrans {m : Int} (hm : mKind m = true) {p q r : Pt} (h : lP m p q = false) (k : lP m q r = false) : lP m p r = false := by
  cases h1 : lP m p r with
  | false => rfl
  | true =>
    cases h2 : lP m q p with
    | true =>
      rw [lP_trans h2 h1] at k
      cases k
    | false =>
      have e := lP_tot hm h h2
      subst e
      rw [h1] at k
      cases k
/-- One list in order. -/
theorem sorted_eq {α : Type} {R : α → α → Prop} (hR : ∀ a b, R a b → R b a → a = b) : ∀ {L1 L2 : List α}, L1.Perm L2 → L1.Pairwise R → L2.Pairwise R → L1 = L2
  | [], L2, hp, _, _ => (List.nil_perm.1 hp).symm
  | a :: l1, [], hp, _, _ => by
    have := hp.length_eq
    simp at this
  | a :: l1, b :: l2, hp, h1, h2 => by
    have hab : a = b := by
      have ha : a ∈ b :: l2 := hp.mem_iff.1 (List.mem_cons_self ..)
      have hb : b ∈ a :: l1 := hp.mem_iff.2 (List.mem_cons_self ..)
      rcases List.mem_cons.1 ha with ha | ha
      · exact ha
      · rcases List.mem_cons.1 hb with hb | hb
        · exact hb.symm
        · exact hR a b ((List.pairwise_cons.1 h1).1 b hb) ((List.pairwise_cons.1 h2).1 a ha)
    subst hab
    rw [sorted_eq hR ((List.perm_cons a).1 hp) (List.pairwise_cons.1 h1).2 (List.pairwise_cons.1 h2).2]
/-- Paths in order. -/
def srt (m : Int) (ps : List Pt) : List Pt := ps.mergeSort (fun p q => !(lP m q p))
theorem srt_perm (m : Int) (ps : List Pt) : (srt m ps).Perm ps := List.mergeSort_perm ps _
theorem srt_pw {m : Int} (hm : mKind m = true) (ps : List Pt) : (srt m ps).Pairwise (fun p q => lP m q p = false) := by
  have := List.pairwise_mergeSort (le := fun p q => !(lP m q p)) (fun a b c h1 h2 => by simp at *; exact lP_ntrans hm h2 h1) (fun a b => by
    cases h : lP m b a
    · simp
    · cases h2 : lP m a b
      · simp
      · have := lP_trans h h2
        rw [lP_irr] at this
        cases this) ps
  refine List.Pairwise.imp ?_ this
  intro a b h
  simpa using h
/-- Whatever is in order and has the same paths is it. -/
theorem srt_eq {m : Int} (hm : mKind m = true) {ps L : List Pt} (hp : L.Perm ps) (hs : L.Pairwise (fun p q => lP m q p = false)) : L = srt m ps :=
  sorted_eq (fun a b h k => lP_tot hm k h) (hp.trans (srt_perm m ps).symm) hs (srt_pw hm ps)
theorem srt_len (m : Int) (ps : List Pt) : (srt m ps).length = ps.length := (srt_perm m ps).length_eq
theorem srt_mem {m : Int} {ps : List Pt} {p : Pt} : p ∈ srt m ps ↔ p ∈ ps := (srt_perm m ps).mem_iff
end Go.Proofs.YtneapbggnnndhaaGreat
