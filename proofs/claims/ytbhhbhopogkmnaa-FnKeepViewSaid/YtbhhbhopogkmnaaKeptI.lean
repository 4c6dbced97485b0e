/- Kept views: the mathematics. Parents that go round: mathematics. Kept views, in the program: which parents fit. -/
import Derived.Test.YtbhhbhopogkmnaaPathToS
import Derived.Test.YtbhhbhopogkmnaaFind3
import Derived.Test.YtbhhbhopogkmnaaEndV
import Derived.Test.YtbhhbhopogkmnaaVValS
import Derived.Test.YtbhhbhopogkmnaaDisp
import Derived.Test.YtbhhbhopogkmnaaRelaxJ
import Derived.Test.YtbhhbhopogkmnaaRight
import Derived.Test.YtbhhbhopogkmnaaBoxes
import Derived.Test.YtbhhbhopogkmnaaRowAt
namespace Go.Proofs.Ytbhhbhopogkmnaa
set_option linter.unusedVariables false
set_option linter.unusedSimpArgs false

/-- The parents lead from x to top, over at most k numbers. -/
def belowL (ps : List Int) (top : Int) : Nat → Int → Bool
  | 0, _ => false
  | k + 1, x => if x < 0 then false else if x = top then true else belowL ps top k (ps.getD x.toNat 0)
/-- The parents lead from x up to the source, as the model asks it. -/
def upL (ps : List Int) (src : Int) : Nat → Int → Bool
  | 0, _ => false
  | k + 1, x => if x = src then true else if ps.getD x.toNat 0 < 0 then false else upL ps src k (ps.getD x.toNat 0)
def parOk (ps : List Int) : Prop := ∀ i, i < ps.length → -1 ≤ ps.getD i 0 ∧ ps.getD i 0 < ps.length
theorem upL_below {ps : List Int} {src : Int} : ∀ (k : Nat) (x : Int), 0 ≤ x → upL ps src k x = belowL ps src k x
  | 0, _, _ => rfl
  | k + 1, x, hx => by
    rw [upL, belowL, if_neg (show ¬ x < 0 by omega)]
    by_cases h : x = src
    · rw [if_pos h, if_pos h]
    · rw [if_neg h, if_neg h]
      by_cases h2 : ps.getD x.toNat 0 < 0
      · rw [if_pos h2]
        cases k with
        | zero => rfl
        | succ k => rw [belowL, if_pos h2]
      · rw [if_neg h2]
        exact upL_below k _ (by omega)
theorem belowL_pt {ps : List Int} (h : parOk ps) {top : Int} : ∀ (k : Nat) (x : Int) (acc : List Int), x < ps.length → (ptGo ps top k x acc).isSome = belowL ps top k x
  | 0, _, _, _ => rfl
  | k + 1, x, acc, hx => by
    rw [ptGo, belowL]
    by_cases h0 : x < 0
    · have : inP ps x = false := by unfold inP; rw [decide_eq_false (by omega)]; rfl
      rw [this, if_neg (by decide), if_pos h0]; rfl
    · have : inP ps x = true := by unfold inP; rw [decide_eq_true (by omega), decide_eq_true hx]; rfl
      rw [this, if_pos rfl, if_neg h0]
      by_cases h1 : x = top
      · rw [if_pos h1, if_pos h1]; rfl
      · rw [if_neg h1, if_neg h1]
        exact belowL_pt h k _ _ (h x.toNat (by omega)).2
def chn (ps : List Int) (x : Int) : Nat → Int
  | 0 => x
  | i + 1 => ps.getD (chn ps x i).toNat 0
theorem chn_succ (ps : List Int) (x : Int) : ∀ i, chn ps x (i + 1) = chn ps (ps.getD x.toNat 0) i
  | 0 => rfl
  | i + 1 => by rw [chn, chn_succ ps x i]; rfl
theorem chn_add (ps : List Int) (x : Int) {a b : Nat} (h : chn ps x a = chn ps x b) : ∀ t, chn ps x (a + t) = chn ps x (b + t)
  | 0 => h
  | t + 1 => by
    show ps.getD (chn ps x (a + t)).toNat 0 = ps.getD (chn ps x (b + t)).toNat 0
    rw [chn_add ps x h t]
theorem belowL_iff {ps : List Int} {top : Int} : ∀ (k : Nat) (x : Int), belowL ps top k x = true ↔ ∃ j, j < k ∧ chn ps x j = top ∧ (∀ i, i ≤ j → 0 ≤ chn ps x i) ∧ ∀ i, i < j → chn ps x i ≠ top
  | 0, x => by simp [belowL]
  | k + 1, x => by
    rw [belowL]
    by_cases h0 : x < 0
    · rw [if_pos h0]
      constructor
      · intro h; cases h
      · rintro ⟨j, _, _, h, _⟩
        have := h 0 (Nat.zero_le _)
        simp only [chn] at this
        omega
    · rw [if_neg h0]
      by_cases h1 : x = top
      · rw [if_pos h1]
        constructor
        · intro _
          exact ⟨0, Nat.succ_pos _, h1, fun i hi => by rw [Nat.le_zero.1 hi]; simp only [chn]; omega, fun i hi => absurd hi (Nat.not_lt_zero _)⟩
        · intro _; rfl
      · rw [if_neg h1, belowL_iff k]
        constructor
        · rintro ⟨j, hj, he, hp, hn⟩
          refine ⟨j + 1, by omega, by rw [chn_succ]; exact he, fun i hi => ?_, fun i hi => ?_⟩
          · cases i with
            | zero => simp only [chn]; omega
            | succ i => rw [chn_succ]; exact hp i (by omega)
          · cases i with
            | zero => exact h1
            | succ i => rw [chn_succ]; exact hn i (by omega)
        · rintro ⟨j, hj, he, hp, hn⟩
          cases j with
          | zero => exact absurd he h1
          | succ j =>
            refine ⟨j, by omega, by rw [← chn_succ]; exact he, fun i hi => ?_, fun i hi => ?_⟩
            · rw [← chn_succ]; exact hp (i + 1) (by omega)
            · rw [← chn_succ]; exact hn (i + 1) (by omega)
theorem belowL_mono {ps : List Int} {top x : Int} {k l : Nat} (h : belowL ps top k x = true) (hkl : k ≤ l) : belowL ps top l x = true := by
  rw [belowL_iff] at h ⊢
  obtain ⟨j, hj, r⟩ := h
  exact ⟨j, by omega, r⟩
theorem belowL_cut {ps : List Int} (h : parOk ps) {top x : Int} (hx : x < ps.length) {k : Nat} (hb : belowL ps top k x = true) : belowL ps top ps.length x = true := by
  rw [belowL_iff] at hb ⊢
  obtain ⟨j, hj, he, hp, hn⟩ := hb
  refine ⟨j, ?_, he, hp, hn⟩
  have hlt : ∀ i, i ≤ j → chn ps x i < ps.length := by
    intro i
    induction i with
    | zero => intro _; exact hx
    | succ i ih =>
      intro hi
      have h1 := ih (by omega)
      have h2 := hp i (by omega)
      exact (h _ (by omega)).2
  have hd : ((List.range (j + 1)).map (fun i => (chn ps x i).toNat)).Nodup := by
    rw [List.nodup_iff_pairwise_ne, List.pairwise_map]
    refine List.Pairwise.imp_of_mem ?_ (List.pairwise_lt_range (n := j + 1))
    intro a b ha hb hab heq
    have ha' := List.mem_range.1 ha
    have hb' := List.mem_range.1 hb
    have h1 := hp a (by omega)
    have h2 := hp b (by omega)
    have e : chn ps x a = chn ps x b := by omega
    have := chn_add ps x e (j - b)
    rw [show b + (j - b) = j by omega, he] at this
    exact hn (a + (j - b)) (by omega) this
  have := pigeons ps.length _ hd (fun y hy => by
    obtain ⟨i, hi, rfl⟩ := List.mem_map.1 hy
    have hi' := List.mem_range.1 hi
    have h1 := hp i (by omega)
    have h2 := hlt i (by omega)
    omega)
  simp at this
  omega

/-- A node that has no parent. -/
def freeK (m A : Int) (zs : List Int) (i : Nat) : Bool := decide ((i : Int) = A) || decide (zs.getD i 0 = mNone m)
/-- Does the edge from its parent give a node its value? -/
def tightK (m : Int) (es : List Ed) (zs ps : List Int) (i : Nat) : Bool := fdE es (ps.getD i 0) i && decide (vGive m zs (es.getD (lbE es (ps.getD i 0) i) (0, 0, 0)) = zs.getD i 0)
/-- Does the parent of a node fit? -/
def fitK (m A : Int) (es : List Ed) (zs ps : List Int) (i : Nat) : Bool :=
  if freeK m A zs i = true then decide (ps.getD i 0 = -1) else tightK m es zs ps i && ptB ps A (ps.getD i 0)
/-- Is a parent in its range? -/
def rngK (n m A : Int) (zs ps : List Int) (i : Nat) : Bool :=
  if freeK m A zs i = true then decide (ps.getD i 0 = -1) else decide (0 ≤ ps.getD i 0) && decide (ps.getD i 0 < n)
def fit2K (m A : Int) (es : List Ed) (zs ps : List Int) (i : Nat) : Bool := if 0 ≤ ps.getD i 0 then tightK m es zs ps i && upL ps A (ps.length + 1) i else true
theorem fd_ends {n : Int} {es : List Ed} (hg : gVal n es = true) {a b : Int} (h : fdE es a b = true) : lbE es a b < es.length ∧ (es.getD (lbE es a b) (0, 0, 0)).1 = a ∧ (es.getD (lbE es a b) (0, 0, 0)).2.1 = b := by
  unfold fdE at h
  rw [Bool.and_eq_true, decide_eq_true_eq, decide_eq_true_eq, cEnds_eq] at h
  exact ⟨h.1, h.2⟩
theorem fd_range {n : Int} {es : List Ed} (hg : gVal n es = true) {a b : Int} (h : fdE es a b = true) : 0 ≤ a ∧ a < n := by
  obtain ⟨h1, h2, _⟩ := fd_ends hg h
  have hm := List.getElem_mem h1
  have e := eAll_of hg _ hm
  have e2 : es.getD (lbE es a b) (0, 0, 0) = es[lbE es a b] := by simp [List.getD, h1]
  rw [e2] at h2
  rw [h2] at e
  obtain ⟨h4, _, _⟩ := gVal_parts hg
  have := e.1
  omega
theorem parOk_of_rng {n m A : Int} {zs ps : List Int} (hn : (ps.length : Int) = n) (h : ∀ i, i < ps.length → rngK n m A zs ps i = true) : parOk ps := by
  intro i hi
  have := h i hi
  unfold rngK at this
  split at this
  · rw [decide_eq_true_eq] at this; omega
  · rw [Bool.and_eq_true, decide_eq_true_eq, decide_eq_true_eq] at this; omega
theorem fit_up {m A : Int} {zs ps : List Int} (h : parOk ps) {i : Nat} (hi : i < ps.length) (hf : freeK m A zs i = false) (h0 : 0 ≤ ps.getD i 0) : upL ps A (ps.length + 1) i = ptB ps A (ps.getD i 0) := by
  have hne : ¬ ((i : Int) = A) := by
    unfold freeK at hf
    rw [Bool.or_eq_false_iff, decide_eq_false_iff_not] at hf
    exact hf.1
  have hx := (h i hi).2
  rw [upL_below _ _ (by omega), belowL, if_neg (show ¬ (i : Int) < 0 by omega), if_neg hne, Int.toNat_natCast]
  unfold ptB ptR
  rw [belowL_pt h _ _ _ hx]
  cases hb : belowL ps A (ps.length + 1) (ps.getD i 0) with
  | true => exact belowL_cut h hx hb
  | false =>
    cases hc : belowL ps A ps.length (ps.getD i 0) with
    | false => rfl
    | true => rw [belowL_mono hc (Nat.le_succ _)] at hb; cases hb
theorem fit_eq {n m A : Int} {es : List Ed} {zs ps : List Int} (hg : gVal n es = true) (hn : (ps.length : Int) = n) :
    (List.range ps.length).all (fitK m A es zs ps) = ((List.range ps.length).all (rngK n m A zs ps) && (List.range ps.length).all (fit2K m A es zs ps)) := by
  rw [Bool.eq_iff_iff, Bool.and_eq_true, List.all_eq_true, List.all_eq_true, List.all_eq_true]
  simp only [List.mem_range]
  constructor
  · intro h
    have hr : ∀ i, i < ps.length → rngK n m A zs ps i = true := by
      intro i hi
      have h1 := h i hi
      unfold fitK at h1
      unfold rngK
      split at h1
      · rename_i hf; rw [if_pos hf]; exact h1
      · rename_i hf
        rw [if_neg hf]
        rw [Bool.and_eq_true] at h1
        have h2 := h1.1
        unfold tightK at h2
        rw [Bool.and_eq_true] at h2
        have := fd_range hg h2.1
        rw [decide_eq_true this.1, decide_eq_true this.2]; rfl
    refine ⟨hr, fun i hi => ?_⟩
    have hp := parOk_of_rng hn hr
    have h1 := h i hi
    unfold fitK at h1
    unfold fit2K
    split
    · rename_i h0
      split at h1
      · rw [decide_eq_true_eq] at h1; omega
      · rename_i hf
        rw [fit_up hp hi (by simpa using hf) h0]
        exact h1
    · rfl
  · rintro ⟨hr, h2⟩ i hi
    have hp := parOk_of_rng hn hr
    have h1 := hr i hi
    have h3 := h2 i hi
    unfold rngK at h1
    unfold fit2K at h3
    unfold fitK
    split at h1
    · rename_i hf; rw [if_pos hf]; exact h1
    · rename_i hf
      rw [if_neg hf]
      rw [Bool.and_eq_true, decide_eq_true_eq, decide_eq_true_eq] at h1
      rw [if_pos h1.1, fit_up hp hi (by simpa using hf) h1.1] at h3
      exact h3
/-- Is a kept view valid? -/
def kVal (n m A : Int) (es : List Ed) (zs ps : List Int) : Bool :=
  (vVal n es m A zs && decide ((ps.length : Int) = n)) && (iSame zs (vIter m es n.toNat (vStart m n A)) && (List.range ps.length).all (fitK m A es zs ps))
theorem vVal_parts {n m A : Int} {es : List Ed} {zs : List Int} (h : vVal n es m A zs = true) : gVal n es = true ∧ (0 ≤ A ∧ A < n) ∧ (zs.length : Int) = n ∧ mKind m = true ∧ vAll m zs := by
  unfold vVal vFit mAll at h
  simp only [Bool.and_eq_true, decide_eq_true_eq] at h
  obtain ⟨⟨h1, ⟨h2, h3⟩, h4⟩, h5, h6⟩ := h
  refine ⟨h1, ⟨h2, h3⟩, h4, h5, fun i hi => ?_⟩
  rw [List.all_eq_true] at h6
  have := h6 _ (List.getElem_mem hi)
  simpa [List.getD, hi] using this
end Go.Proofs.Ytbhhbhopogkmnaa
namespace Go.Proofs.Ytbhhbhopogkmnaa
set_option linter.unusedVariables false
set_option linter.unusedSimpArgs false

/-- The parents end from x on, over at most k numbers. -/
def endL (ps : List Int) : Nat → Int → Bool
  | 0, _ => false
  | k + 1, x => if x < 0 then true else endL ps k (ps.getD x.toNat 0)
def endB (ps : List Int) (x : Int) : Bool := endL ps (ps.length + 1) x
theorem endL_iff {ps : List Int} : ∀ (k : Nat) (x : Int), endL ps k x = true ↔ ∃ j, j < k ∧ chn ps x j < 0 ∧ ∀ i, i < j → 0 ≤ chn ps x i
  | 0, x => by simp [endL]
  | k + 1, x => by
    rw [endL]
    by_cases h : x < 0
    · rw [if_pos h]
      exact ⟨fun _ => ⟨0, by omega, h, fun i hi => absurd hi (Nat.not_lt_zero _)⟩, fun _ => rfl⟩
    · rw [if_neg h, endL_iff k]
      constructor
      · rintro ⟨j, hj, h1, h2⟩
        refine ⟨j + 1, by omega, by rw [chn_succ]; exact h1, fun i hi => ?_⟩
        cases i with
        | zero => show 0 ≤ x; omega
        | succ i => rw [chn_succ]; exact h2 i (by omega)
      · rintro ⟨j, hj, h1, h2⟩
        cases j with
        | zero => exact absurd h1 h
        | succ j =>
          refine ⟨j, by omega, by rw [← chn_succ]; exact h1, fun i hi => ?_⟩
          rw [← chn_succ]; exact h2 (i + 1) (by omega)
theorem endL_cut {ps : List Int} (h : parOk ps) {x : Int} (hx : x < ps.length) {k : Nat} (hb : endL ps k x = true) : endB ps x = true := by
  unfold endB
  rw [endL_iff] at hb ⊢
  obtain ⟨j, hj, he, hp⟩ := hb
  refine ⟨j, ?_, he, hp⟩
  have hlt : ∀ i, i < j → chn ps x i < ps.length := by
    intro i
    induction i with
    | zero => intro _; exact hx
    | succ i ih =>
      intro hi
      have h1 := ih (by omega)
      have h2 := hp i (by omega)
      exact (h _ (by omega)).2
  have hd : ((List.range j).map (fun i => (chn ps x i).toNat)).Nodup := by
    rw [List.nodup_iff_pairwise_ne, List.pairwise_map]
    refine List.Pairwise.imp_of_mem ?_ (List.pairwise_lt_range (n := j))
    intro a b ha hb hab heq
    have ha' := List.mem_range.1 ha
    have hb' := List.mem_range.1 hb
    have h1 := hp a (by omega)
    have h2 := hp b (by omega)
    have e : chn ps x a = chn ps x b := by omega
    have e2 := chn_add ps x e (j - b)
    rw [show b + (j - b) = j by omega] at e2
    have := hp (a + (j - b)) (by omega)
    omega
  have := pigeons ps.length _ hd (fun y hy => by
    obtain ⟨i, hi, rfl⟩ := List.mem_map.1 hy
    have hi' := List.mem_range.1 hi
    have h1 := hp i (by omega)
    have h2 := hlt i (by omega)
    omega)
  simp at this
  omega
theorem end_step {ps : List Int} (h : parOk ps) {x : Int} (h0 : 0 ≤ x) (hx : x < ps.length) : endB ps x = endB ps (ps.getD x.toNat 0) := by
  have hy := (h x.toNat (by omega)).2
  rw [Bool.eq_iff_iff]
  constructor
  · intro q
    unfold endB at q
    rw [endL, if_neg (by omega)] at q
    exact endL_cut h hy q
  · intro q
    refine endL_cut h hx (k := ps.length + 2) ?_
    rw [endL, if_neg (by omega)]
    exact q
theorem end_neg {ps : List Int} {x : Int} (h : x < 0) : endB ps x = true := by unfold endB; rw [endL, if_pos h]
theorem end_chn {ps : List Int} (h : parOk ps) {x : Int} (hx : x < ps.length) : ∀ j, (∀ i, i < j → 0 ≤ chn ps x i) → chn ps x j < ps.length ∧ endB ps (chn ps x j) = endB ps x
  | 0, _ => ⟨hx, rfl⟩
  | j + 1, hp => by
    obtain ⟨h1, h2⟩ := end_chn h hx j (fun i hi => hp i (by omega))
    have h3 := hp j (by omega)
    refine ⟨(h _ (by omega)).2, ?_⟩
    rw [← h2, end_step h h3 h1]; rfl
theorem end_no {ps : List Int} {x : Int} (hp : ∀ i, i ≤ ps.length → 0 ≤ chn ps x i) : endB ps x = false := by
  cases q : endB ps x with
  | false => rfl
  | true =>
    unfold endB at q
    obtain ⟨j, hj, he, _⟩ := (endL_iff _ _).1 q
    have := hp j (by omega)
    omega
/-- The first number from which the parents do not end. -/
def grK (ps : List Int) : Option Nat := (List.range ps.length).find? (fun i => !endB ps (i : Nat))
def grI (ps : List Int) : Int := match grK ps with | some i => (i : Int) | none => 0
def grB (ps : List Int) : Bool := (grK ps).isSome
theorem gr_hit {ps : List Int} {i : Nat} (hi : i < ps.length) (hb : ∀ j, j < i → endB ps (j : Nat) = true) (h : endB ps i = false) : grI ps = i ∧ grB ps = true := by
  have : grK ps = some i := by
    unfold grK
    rw [List.find?_range_eq_some]
    exact ⟨by rw [h]; rfl, List.mem_range.2 hi, fun j hj => by rw [hb j hj]; rfl⟩
  unfold grI grB
  rw [this]
  exact ⟨rfl, rfl⟩
theorem gr_none {ps : List Int} (h : ∀ j, j < ps.length → endB ps (j : Nat) = true) : grI ps = 0 ∧ grB ps = false := by
  have : grK ps = none := by
    unfold grK
    rw [List.find?_range_eq_none]
    exact fun j hj => by rw [h j hj]; rfl
  unfold grI grB
  rw [this]
  exact ⟨rfl, rfl⟩
theorem gr_of {ps : List Int} (h : grB ps = false) : ∀ j, j < ps.length → endB ps (j : Nat) = true := by
  unfold grB at h
  rw [Option.isSome_eq_false_iff, Option.isNone_iff_eq_none] at h
  unfold grK at h
  rw [List.find?_range_eq_none] at h
  intro j hj
  have := h j hj
  simpa using this

/-- Does the parent of a node fit, but for going round? -/
def fit1K (m A : Int) (es : List Ed) (zs ps : List Int) (i : Nat) : Bool :=
  if freeK m A zs i = true then decide (ps.getD i 0 = -1) else tightK m es zs ps i
section
variable {n m A : Int} {es : List Ed} {zs ps : List Int}
theorem fit1_par (hg : gVal n es = true) (hn : (ps.length : Int) = n) (h : ∀ i, i < ps.length → fit1K m A es zs ps i = true) : parOk ps := by
  intro i hi
  have h1 := h i hi
  unfold fit1K at h1
  split at h1
  · rw [decide_eq_true_eq] at h1; omega
  · unfold tightK at h1
    rw [Bool.and_eq_true] at h1
    have := fd_range hg h1.1
    omega
theorem tight_src (hm : mKind m = true) (hg : gVal n es = true) {i : Nat} (h : tightK m es zs ps i = true) (hz : zs.getD i 0 ≠ mNone m) : (0 ≤ ps.getD i 0 ∧ ps.getD i 0 < n) ∧ zs.getD (ps.getD i 0).toNat 0 ≠ mNone m := by
  unfold tightK at h
  rw [Bool.and_eq_true, decide_eq_true_eq] at h
  obtain ⟨l1, l2, l3⟩ := fd_ends hg h.1
  refine ⟨fd_range hg h.1, fun q => hz ?_⟩
  rw [← h.2]
  unfold vGive
  rw [l2, q]
  refine join_none hm (mEdge_in hm ?_)
  have e2 : ∀ L, L < es.length → es.getD L (0, 0, 0) ∈ es := fun L hL => by simp [List.getD, hL]
  exact (eAll_of hg _ (e2 _ l1)).2.2
theorem end_pt (hm : mKind m = true) (hg : gVal n es = true) (hn : (ps.length : Int) = n) (hA : 0 ≤ A ∧ A < n) (h1 : ∀ i, i < ps.length → fit1K m A es zs ps i = true) {x : Int} (hx0 : 0 ≤ x) (hx : x < ps.length) (hz : zs.getD x.toNat 0 ≠ mNone m) : endB ps x = ptB ps A x := by
  have hp := fit1_par hg hn h1
  have hpA : ps.getD A.toNat 0 = -1 := by
    have := h1 A.toNat (by omega)
    unfold fit1K freeK at this
    rw [decide_eq_true (by omega), Bool.true_or, if_pos rfl, decide_eq_true_eq] at this
    exact this
  have e : ptB ps A x = belowL ps A (ps.length + 1) x := by
    unfold ptB ptR
    exact belowL_pt hp _ _ _ hx
  rw [e, Bool.eq_iff_iff]
  constructor
  · have key : ∀ (k : Nat) (x : Int), 0 ≤ x → x < ps.length → zs.getD x.toNat 0 ≠ mNone m → endL ps k x = true → belowL ps A k x = true := by
      intro k
      induction k with
      | zero => intro x _ _ _ q; cases q
      | succ k ih =>
        intro x h0 hl hzx q
        rw [endL, if_neg (by omega)] at q
        rw [belowL, if_neg (by omega)]
        by_cases hxA : x = A
        · rw [if_pos hxA]
        · rw [if_neg hxA]
          have h2 := h1 x.toNat (by omega)
          have hf : freeK m A zs x.toNat = false := by
            unfold freeK
            rw [decide_eq_false (by omega), decide_eq_false hzx]; rfl
          unfold fit1K at h2
          rw [hf, if_neg (by decide)] at h2
          obtain ⟨h3, h4⟩ := tight_src hm hg h2 hzx
          exact ih _ h3.1 (by omega) h4 q
    exact key _ x hx0 hx hz
  · have key : ∀ (k : Nat) (x : Int), belowL ps A k x = true → endL ps (k + 1) x = true := by
      intro k
      induction k with
      | zero => intro x q; cases q
      | succ k ih =>
        intro x q
        rw [belowL] at q
        split at q
        · cases q
        · rename_i h0
          rw [endL, if_neg h0]
          split at q
          · rename_i h2
            rw [h2, hpA, endL, if_pos (by decide)]
          · exact ih _ q
    intro q
    exact endL_cut hp hx (key _ x q)
theorem fit1_end (hm : mKind m = true) (hg : gVal n es = true) (hn : (ps.length : Int) = n) (hA : 0 ≤ A ∧ A < n) (h1 : ∀ i, i < ps.length → fit1K m A es zs ps i = true) {i : Nat} (hi : i < ps.length) : endB ps (i : Nat) = if freeK m A zs i = true then true else ptB ps A (ps.getD i 0) := by
  have hp := fit1_par hg hn h1
  have h2 := h1 i hi
  have h3 := end_step hp (x := (i : Int)) (by omega) (by omega)
  rw [Int.toNat_natCast] at h3
  rw [h3]
  unfold fit1K at h2
  split
  · rename_i hf
    rw [if_pos hf, decide_eq_true_eq] at h2
    rw [h2]
    exact end_neg (by decide)
  · rename_i hf
    rw [if_neg hf] at h2
    have hz : zs.getD i 0 ≠ mNone m := by
      intro q
      apply hf
      unfold freeK
      rw [decide_eq_true q, Bool.or_true]
    obtain ⟨h4, h5⟩ := tight_src hm hg h2 hz
    exact end_pt hm hg hn hA h1 h4.1 (by omega) h5
theorem fit_gr (hm : mKind m = true) (hg : gVal n es = true) (hn : (ps.length : Int) = n) (hA : 0 ≤ A ∧ A < n) :
    (List.range ps.length).all (fitK m A es zs ps) = ((List.range ps.length).all (fit1K m A es zs ps) && !grB ps) := by
  have hd : ∀ i, fitK m A es zs ps i = (fit1K m A es zs ps i && (if freeK m A zs i = true then true else ptB ps A (ps.getD i 0))) := by
    intro i
    unfold fitK fit1K
    split
    · rw [Bool.and_true]
    · rfl
  rw [Bool.eq_iff_iff, Bool.and_eq_true, List.all_eq_true, List.all_eq_true]
  simp only [List.mem_range]
  constructor
  · intro h
    have h1 : ∀ i, i < ps.length → fit1K m A es zs ps i = true := fun i hi => by
      have := h i hi; rw [hd, Bool.and_eq_true] at this; exact this.1
    refine ⟨h1, ?_⟩
    rw [(gr_none (fun j hj => ?_)).2]; rfl
    rw [fit1_end hm hg hn hA h1 hj]
    have := h j hj; rw [hd, Bool.and_eq_true] at this; exact this.2
  · rintro ⟨h1, h2⟩ i hi
    rw [Bool.not_eq_true'] at h2
    rw [hd, Bool.and_eq_true]
    refine ⟨h1 i hi, ?_⟩
    rw [← fit1_end hm hg hn hA h1 hi]
    exact gr_of h2 i hi
end
end Go.Proofs.Ytbhhbhopogkmnaa
namespace Go.Proofs.Ytbhhbhopogkmnaa
open Go.RowKit Go.BigFrame Go.Deep
set_option linter.unusedVariables false
set_option linter.unusedSimpArgs false

/-- The cells of a kept view in its box. -/
abbrev kC (n m A : Int) (s v p : Value) : Array Value := #[.int .i64 n, s, .int .i64 m, .int .i64 A, v, p]
end Go.Proofs.Ytbhhbhopogkmnaa
