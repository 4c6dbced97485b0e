/- Kept views: the mathematics. -/
import Derived.Test.YtdblcaeeepkebaaPathTo
import Derived.Test.YtdblcaeeepkebaaFind3
import Derived.Test.YtdblcaeeepkebaaView0
import Derived.Test.YtdblcaeeepkebaaVValS
namespace Go.Proofs.Ytdblcaeeepkebaa
set_option linter.unusedVariables false
set_option linter.unusedSimpArgs false

/-- The parents lead from x to top, over at most k numbers. -/
def belowL (ps : List Int) (top : Int) : Nat → Int → Bool
  | 0, _ => false
  | k + 1, x => if x < 0 then false else if x = top then true else belowL ps top k (ps.getD x.toNat 0)
/-- The parents lead from x up to the source, as the model asks it. -/
def upL (ps : List Int) (src : Int) : Nat → Int → Bool
  | 0, _ => false
  | k + 1, x => if x = src then true else if ps.getD x.toNat 0 < 0 then false else upL ps src k (ps.getD x.toNat 0)
def parOk (ps : List Int) : Prop := ∀ i, i < ps.length → -1 ≤ ps.getD i 0 ∧ ps.getD i 0 < ps.length
theorem upL_below {ps : List Int} {src : Int} : ∀ (k : Nat) (x : Int), 0 ≤ x → upL ps src k x = belowL ps src k x
  | 0, _, _ => rfl
  | k + 1, x, hx => by
    rw [upL, belowL, if_neg (show ¬ x < 0 by omega)]
    by_cases h : x = src
    · rw [if_pos h, if_pos h]
    · rw [if_neg h, if_neg h]
      by_cases h2 : ps.getD x.toNat 0 < 0
      · rw [if_pos h2]
        cases k with
        | zero => rfl
        | succ k => rw [belowL, if_pos h2]
      · rw [if_neg h2]
        exact upL_below k _ (by omega)
theorem belowL_pt {ps : List Int} (h : parOk ps) {top : Int} : ∀ (k : Nat) (x : Int) (acc : List Int), x < ps.length → (ptGo ps top k x acc).isSome = belowL ps top k x
  | 0, _, _, _ => rfl
  | k + 1, x, acc, hx => by
    rw [ptGo, belowL]
    by_cases h0 : x < 0
    · have : inP ps x = false := by unfold inP; rw [decide_eq_false (by omega)]; rfl
      rw [this, if_neg (by decide), if_pos h0]; rfl
    · have : inP ps x = true := by unfold inP; rw [decide_eq_true (by omega), decide_eq_true hx]; rfl
      rw [this, if_pos rfl, if_neg h0]
      by_cases h1 : x = top
      · rw [if_pos h1, if_pos h1]; rfl
      · rw [if_neg h1, if_neg h1]
        exact belowL_pt h k _ _ (h x.toNat (by omega)).2
def chn (ps : List Int) (x : Int) : Nat → Int
  | 0 => x
  | i + 1 => ps.getD (chn ps x i).toNat 0
theorem chn_succ (ps : List Int) (x : Int) : ∀ i, chn ps x (i + 1) = chn ps (ps.getD x.toNat 0) i
  | 0 => rfl
  | i + 1 => by rw [chn, chn_succ ps x i]; rfl
theorem chn_add (ps : List Int) (x : Int) {a b : Nat} (h : chn ps x a = chn ps x b) : ∀ t, chn ps x (a + t) = chn ps x (b + t)
  | 0 => h
  | t + 1 => by
    show ps.getD (chn ps x (a + t)).toNat 0 = ps.getD (chn ps x (b + t)).toNat 0
    rw [chn_add ps x h t]
theorem belowL_iff {ps : List Int} {top : Int} : ∀ (k : Nat) (x : Int), belowL ps top k x = true ↔ ∃ j, j < k ∧ chn ps x j = top ∧ (∀ i, i ≤ j → 0 ≤ chn ps x i) ∧ ∀ i, i < j → chn ps x i ≠ top
  | 0, x => by simp [belowL]
  | k + 1, x => by
    rw [belowL]
    by_cases h0 : x < 0
    · rw [if_pos h0]
      constructor
      · intro h; cases h
      · rintro ⟨j, _, _, h, _⟩
        have := h 0 (Nat.zero_le _)
        simp only [chn] at this
        omega
    · rw [if_neg h0]
      by_cases h1 : x = top
      · rw [if_pos h1]
        constructor
        · intro _
          exact ⟨0, Nat.succ_pos _, h1, fun i hi => by rw [Nat.le_zero.1 hi]; simp only [chn]; omega, fun i hi => absurd hi (Nat.not_lt_zero _)⟩
        · intro _; rfl
      · rw [if_neg h1, belowL_iff k]
        constructor
        · rintro ⟨j, hj, he, hp, hn⟩
          refine ⟨j + 1, by omega, by rw [chn_succ]; exact he, fun i hi => ?_, fun i hi => ?_⟩
          · cases i with
            | zero => simp only [chn]; omega
            | succ i => rw [chn_succ]; exact hp i (by omega)
          · cases i with
            | zero => exact h1
            | succ i => rw [chn_succ]; exact hn i (by omega)
        · rintro ⟨j, hj, he, hp, hn⟩
          cases j with
          | zero => exact absurd he h1
          | succ j =>
            refine ⟨j, by omega, by rw [← chn_succ]; exact he, fun i hi => ?_, fun i hi => ?_⟩
            · rw [← chn_succ]; exact hp (i + 1) (by omega)
            · rw [← chn_succ]; exact hn (i + 1) (by omega)
theorem belowL_mono {ps : List Int} {top x : Int} {k l : Nat} (h : belowL ps top k x = true) (hkl : k ≤ l) : belowL ps top l x = true := by
  rw [belowL_iff] at h ⊢
  obtain ⟨j, hj, r⟩ := h
  exact ⟨j, by omega, r⟩
theorem belowL_cut {ps : List Int} (h : parOk ps) {top x : Int} (hx : x < ps.length) {k : Nat} (hb : belowL ps top k x = true) : belowL ps top ps.length x = true := by
  rw [belowL_iff] at hb ⊢
  obtain ⟨j, hj, he, hp, hn⟩ := hb
  refine ⟨j, ?_, he, hp, hn⟩
  have hlt : ∀ i, i ≤ j → chn ps x i < ps.length := by
    intro i
    induction i with
    | zero => intro _; exact hx
    | succ i ih =>
      intro hi
      have h1 := ih (by omega)
      have h2 := hp i (by omega)
      exact (h _ (by omega)).2
  have hd : ((List.range (j + 1)).map (fun i => (chn ps x i).toNat)).Nodup := by
    rw [List.nodup_iff_pairwise_ne, List.pairwise_map]
    refine List.Pairwise.imp_of_mem ?_ (List.pairwise_lt_range (n := j + 1))
    intro a b ha hb hab heq
    have ha' := List.mem_range.1 ha
    have hb' := List.mem_range.1 hb
    have h1 := hp a (by omega)
    have h2 := hp b (by omega)
    have e : chn ps x a = chn ps x b := by omega
    have := chn_add ps x e (j - b)
    rw [show b + (j - b) = j by omega, he] at this
    exact hn (a + (j - b)) (by omega) this
  have := pigeons ps.length _ hd (fun y hy => by
    obtain ⟨i, hi, rfl⟩ := List.mem_map.1 hy
    have hi' := List.mem_range.1 hi
    have h1 := hp i (by omega)
    have h2 := hlt i (by omega)
    omega)
  simp at this
  omega

/-- A node that has no parent. -/
def freeK (m A : Int) (zs : List Int) (i : Nat) : Bool := decide ((i : Int) = A) || decide (zs.getD i 0 = mNone m)
/-- Does the edge from its parent give a node its value? -/
def tightK (m : Int) (es : List Ed) (zs ps : List Int) (i : Nat) : Bool := fdE es (ps.getD i 0) i && decide (vGive m zs (es.getD (lbE es (ps.getD i 0) i) (0, 0, 0)) = zs.getD i 0)
/-- Does the parent of a node fit? -/
def fitK (m A : Int) (es : List Ed) (zs ps : List Int) (i : Nat) : Bool :=
  if freeK m A zs i = true then decide (ps.getD i 0 = -1) else tightK m es zs ps i && ptB ps A (ps.getD i 0)
/-- Is a parent in its range? -/
def rngK (n m A : Int) (zs ps : List Int) (i : Nat) : Bool :=
  if freeK m A zs i = true then decide (ps.getD i 0 = -1) else decide (0 ≤ ps.getD i 0) && decide (ps.getD i 0 < n)
def fit2K (m A : Int) (es : List Ed) (zs ps : List Int) (i : Nat) : Bool := if 0 ≤ ps.getD i 0 then tightK m es zs ps i && upL ps A (ps.length + 1) i else true
theorem fd_ends {n : Int} {es : List Ed} (hg : gVal n es = true) {a b : Int} (h : fdE es a b = true) : lbE es a b < es.length ∧ (es.getD (lbE es a b) (0, 0, 0)).1 = a ∧ (es.getD (lbE es a b) (0, 0, 0)).2.1 = b := by
  unfold fdE at h
  rw [Bool.and_eq_true, decide_eq_true_eq, decide_eq_true_eq, cEnds_eq] at h
  exact ⟨h.1, h.2⟩
theorem fd_range {n : Int} {es : List Ed} (hg : gVal n es = true) {a b : Int} (h : fdE es a b = true) : 0 ≤ a ∧ a < n := by
  obtain ⟨h1, h2, _⟩ := fd_ends hg h
  have hm := List.getElem_mem h1
  have e := eAll_of hg _ hm
  have e2 : es.getD (lbE es a b) (0, 0, 0) = es[lbE es a b] := by simp [List.getD, h1]
  rw [e2] at h2
  rw [h2] at e
  obtain ⟨h4, _, _⟩ := gVal_parts hg
  have := e.1
  omega
theorem parOk_of_rng {n m A : Int} {zs ps : List Int} (hn : (ps.length : Int) = n) (h : ∀ i, i < ps.length → rngK n m A zs ps i = true) : parOk ps := by
  intro i hi
  have := h i hi
  unfold rngK at this
  split at this
  · rw [decide_eq_true_eq] at this; omega
  · rw [Bool.and_eq_true, decide_eq_true_eq, decide_eq_true_eq] at this; omega
theorem fit_up {m A : Int} {zs ps : List Int} (h : parOk ps) {i : Nat} (hi : i < ps.length) (hf : freeK m A zs i = false) (h0 : 0 ≤ ps.getD i 0) : upL ps A (ps.length + 1) i = ptB ps A (ps.getD i 0) := by
  have hne : ¬ ((i : Int) = A) := by
    unfold freeK at hf
    rw [Bool.or_eq_false_iff, decide_eq_false_iff_not] at hf
    exact hf.1
  have hx := (h i hi).2
  rw [upL_below _ _ (by omega), belowL, if_neg (show ¬ (i : Int) < 0 by omega), if_neg hne, Int.toNat_natCast]
  unfold ptB ptR
  rw [belowL_pt h _ _ _ hx]
  cases hb : belowL ps A (ps.length + 1) (ps.getD i 0) with
  | true => exact belowL_cut h hx hb
  | false =>
    cases hc : belowL ps A ps.length (ps.getD i 0) with
    | false => rfl
    | true => rw [belowL_mono hc (Nat.le_succ _)] at hb; cases hb
theorem fit_eq {n m A : Int} {es : List Ed} {zs ps : List Int} (hg : gVal n es = true) (hn : (ps.length : Int) = n) :
    (List.range ps.length).all (fitK m A es zs ps) = ((List.range ps.length).all (rngK n m A zs ps) && (List.range ps.length).all (fit2K m A es zs ps)) := by
  rw [Bool.eq_iff_iff, Bool.and_eq_true, List.all_eq_true, List.all_eq_true, List.all_eq_true]
  simp only [List.mem_range]
  constructor
  · intro h
    have hr : ∀ i, i < ps.length → rngK n m A zs ps i = true := by
      intro i hi
      have h1 := h i hi
      unfold fitK at h1
      unfold rngK
      split at h1
      · rename_i hf; rw [if_pos hf]; exact h1
      · rename_i hf
        rw [if_neg hf]
        rw [Bool.and_eq_true] at h1
        have h2 := h1.1
        unfold tightK at h2
        rw [Bool.and_eq_true] at h2
        have := fd_range hg h2.1
        rw [decide_eq_true this.1, decide_eq_true this.2]; rfl
    refine ⟨hr, fun i hi => ?_⟩
    have hp := parOk_of_rng hn hr
    have h1 := h i hi
    unfold fitK at h1
    unfold fit2K
    split
    · rename_i h0
      split at h1
      · rw [decide_eq_true_eq] at h1; omega
      · rename_i hf
        rw [fit_up hp hi (by simpa using hf) h0]
        exact h1
    · rfl
  · rintro ⟨hr, h2⟩ i hi
    have hp := parOk_of_rng hn hr
    have h1 := hr i hi
    have h3 := h2 i hi
    unfold rngK at h1
    unfold fit2K at h3
    unfold fitK
    split at h1
    · rename_i hf; rw [if_pos hf]; exact h1
    · rename_i hf
      rw [if_neg hf]
      rw [Bool.and_eq_true, decide_eq_true_eq, decide_eq_true_eq] at h1
      rw [if_pos h1.1, fit_up hp hi (by simpa using hf) h1.1] at h3
      exact h3
/-- Is a kept view valid? -/
def kVal (n m A : Int) (es : List Ed) (zs ps : List Int) : Bool :=
  (vVal n es m A zs && decide ((ps.length : Int) = n)) && (iSame zs (vIter m es n.toNat (vStart m n A)) && (List.range ps.length).all (fitK m A es zs ps))
theorem vVal_parts {n m A : Int} {es : List Ed} {zs : List Int} (h : vVal n es m A zs = true) : gVal n es = true ∧ (0 ≤ A ∧ A < n) ∧ (zs.length : Int) = n ∧ mKind m = true ∧ vAll m zs := by
  unfold vVal vFit mAll at h
  simp only [Bool.and_eq_true, decide_eq_true_eq] at h
  obtain ⟨⟨h1, ⟨h2, h3⟩, h4⟩, h5, h6⟩ := h
  refine ⟨h1, ⟨h2, h3⟩, h4, h5, fun i hi => ?_⟩
  rw [List.all_eq_true] at h6
  have := h6 _ (List.getElem_mem hi)
  simpa [List.getD, hi] using this
end Go.Proofs.Ytdblcaeeepkebaa
