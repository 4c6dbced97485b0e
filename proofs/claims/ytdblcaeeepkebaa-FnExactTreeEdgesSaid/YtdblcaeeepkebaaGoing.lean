/- Parents that go round: mathematics. -/
import Derived.Test.YtdblcaeeepkebaaKeptM
namespace Go.Proofs.Ytdblcaeeepkebaa
set_option linter.unusedVariables false
set_option linter.unusedSimpArgs false

/-- The parents end from x on, over at most k numbers. -/
def endL (ps : List Int) : Nat → Int → Bool
  | 0, _ => false
  | k + 1, x => if x < 0 then true else endL ps k (ps.getD x.toNat 0)
def endB (ps : List Int) (x : Int) : Bool := endL ps (ps.length + 1) x
theorem endL_iff {ps : List Int} : ∀ (k : Nat) (x : Int), endL ps k x = true ↔ ∃ j, j < k ∧ chn ps x j < 0 ∧ ∀ i, i < j → 0 ≤ chn ps x i
  | 0, x => by simp [endL]
  | k + 1, x => by
    rw [endL]
    by_cases h : x < 0
    · rw [if_pos h]
      exact ⟨fun _ => ⟨0, by omega, h, fun i hi => absurd hi (Nat.not_lt_zero _)⟩, fun _ => rfl⟩
    · rw [if_neg h, endL_iff k]
      constructor
      · rintro ⟨j, hj, h1, h2⟩
        refine ⟨j + 1, by omega, by rw [chn_succ]; exact h1, fun i hi => ?_⟩
        cases i with
        | zero => show 0 ≤ x; omega
        | succ i => rw [chn_succ]; exact h2 i (by omega)
      · rintro ⟨j, hj, h1, h2⟩
        cases j with
        | zero => exact absurd h1 h
        | succ j =>
          refine ⟨j, by omega, by rw [← chn_succ]; exact h1, fun i hi => ?_⟩
          rw [← chn_succ]; exact h2 (i + 1) (by omega)
theorem endL_cut {ps : List Int} (h : parOk ps) {x : Int} (hx : x < ps.length) {k : Nat} (hb : endL ps k x = true) : endB ps x = true := by
  unfold endB
  rw [endL_iff] at hb ⊢
  obtain ⟨j, hj, he, hp⟩ := hb
  refine ⟨j, ?_, he, hp⟩
  have hlt : ∀ i, i < j → chn ps x i < ps.length := by
    intro i
    induction i with
    | zero => intro _; exact hx
    | succ i ih =>
      intro hi
      have h1 := ih (by omega)
      have h2 := hp i (by omega)
      exact (h _ (by omega)).2
  have hd : ((List.range j).map (fun i => (chn ps x i).toNat)).Nodup := by
    rw [List.nodup_iff_pairwise_ne, List.pairwise_map]
    refine List.Pairwise.imp_of_mem ?_ (List.pairwise_lt_range (n := j))
    intro a b ha hb hab heq
    have ha' := List.mem_range.1 ha
    have hb' := List.mem_range.1 hb
    have h1 := hp a (by omega)
    have h2 := hp b (by omega)
    have e : chn ps x a = chn ps x b := by omega
    have e2 := chn_add ps x e (j - b)
    rw [show b + (j - b) = j by omega] at e2
    have := hp (a + (j - b)) (by omega)
    omega
  have := pigeons ps.length _ hd (fun y hy => by
    obtain ⟨i, hi, rfl⟩ := List.mem_map.1 hy
    have hi' := List.mem_range.1 hi
    have h1 := hp i (by omega)
    have h2 := hlt i (by omega)
    omega)
  simp at this
  omega
theorem end_step {ps : List Int} (h : parOk ps) {x : Int} (h0 : 0 ≤ x) (hx : x < ps.length) : endB ps x = endB ps (ps.getD x.toNat 0) := by
  have hy := (h x.toNat (by omega)).2
  rw [Bool.eq_iff_iff]
  constructor
  · intro q
    unfold endB at q
    rw [endL, if_neg (by omega)] at q
    exact endL_cut h hy q
  · intro q
    refine endL_cut h hx (k := ps.length + 2) ?_
    rw [endL, if_neg (by omega)]
    exact q
theorem end_neg {ps : List Int} {x : Int} (h : x < 0) : endB ps x = true := by unfold endB; rw [endL, if_pos h]
theorem end_chn {ps : List Int} (h : parOk ps) {x : Int} (hx : x < ps.length) : ∀ j, (∀ i, i < j → 0 ≤ chn ps x i) → chn ps x j < ps.length ∧ endB ps (chn ps x j) = endB ps x
  | 0, _ => ⟨hx, rfl⟩
  | j + 1, hp => by
    obtain ⟨h1, h2⟩ := end_chn h hx j (fun i hi => hp i (by omega))
    have h3 := hp j (by omega)
    refine ⟨(h _ (by omega)).2, ?_⟩
    rw [← h2, end_step h h3 h1]; rfl
theorem end_no {ps : List Int} {x : Int} (hp : ∀ i, i ≤ ps.length → 0 ≤ chn ps x i) : endB ps x = false := by
  cases q : endB ps x with
  | false => rfl
  | true =>
    unfold endB at q
    obtain ⟨j, hj, he, _⟩ := (endL_iff _ _).1 q
    have := hp j (by omega)
    omega
/-- The first number from which the parents do not end. -/
def grK (ps : List Int) : Option Nat := (List.range ps.length).find? (fun i => !endB ps (i : Nat))
def grI (ps : List Int) : Int := match grK ps with | some i => (i : Int) | none => 0
def grB (ps : List Int) : Bool := (grK ps).isSome
theorem gr_hit {ps : List Int} {i : Nat} (hi : i < ps.length) (hb : ∀ j, j < i → endB ps (j : Nat) = true) (h : endB ps i = false) : grI ps = i ∧ grB ps = true := by
  have : grK ps = some i := by
    unfold grK
    rw [List.find?_range_eq_some]
    exact ⟨by rw [h]; rfl, List.mem_range.2 hi, fun j hj => by rw [hb j hj]; rfl⟩
  unfold grI grB
  rw [this]
  exact ⟨rfl, rfl⟩
theorem gr_none {ps : List Int} (h : ∀ j, j < ps.length → endB ps (j : Nat) = true) : grI ps = 0 ∧ grB ps = false := by
  have : grK ps = none := by
    unfold grK
    rw [List.find?_range_eq_none]
    exact fun j hj => by rw [h j hj]; rfl
  unfold grI grB
  rw [this]
  exact ⟨rfl, rfl⟩
theorem gr_of {ps : List Int} (h : grB ps = false) : ∀ j, j < ps.length → endB ps (j : Nat) = true := by
  unfold grB at h
  rw [Option.isSome_eq_false_iff, Option.isNone_iff_eq_none] at h
  unfold grK at h
  rw [List.find?_range_eq_none] at h
  intro j hj
  have := h j hj
  simpa using this

/-- Does the parent of a node fit, but for going round? -/
def fit1K (m A : Int) (es : List Ed) (zs ps : List Int) (i : Nat) : Bool :=
  if freeK m A zs i = true then decide (ps.getD i 0 = -1) else tightK m es zs ps i
section
variable {n m A : Int} {es : List Ed} {zs ps : List Int}
theorem fit1_par (hg : gVal n es = true) (hn : (ps.length : Int) = n) (h : ∀ i, i < ps.length → fit1K m A es zs ps i = true) : parOk ps := by
  intro i hi
  have h1 := h i hi
  unfold fit1K at h1
  split at h1
  · rw [decide_eq_true_eq] at h1; omega
  · unfold tightK at h1
    rw [Bool.and_eq_true] at h1
    have := fd_range hg h1.1
    omega
theorem tight_src (hm : mKind m = true) (hg : gVal n es = true) {i : Nat} (h : tightK m es zs ps i = true) (hz : zs.getD i 0 ≠ mNone m) : (0 ≤ ps.getD i 0 ∧ ps.getD i 0 < n) ∧ zs.getD (ps.getD i 0).toNat 0 ≠ mNone m := by
  unfold tightK at h
  rw [Bool.and_eq_true, decide_eq_true_eq] at h
  obtain ⟨l1, l2, l3⟩ := fd_ends hg h.1
  refine ⟨fd_range hg h.1, fun q => hz ?_⟩
  rw [← h.2]
  unfold vGive
  rw [l2, q]
  refine join_none hm (mEdge_in hm ?_)
  have e2 : ∀ L, L < es.length → es.getD L (0, 0, 0) ∈ es := fun L hL => by simp [List.getD, hL]
  exact (eAll_of hg _ (e2 _ l1)).2.2
theorem end_pt (hm : mKind m = true) (hg : gVal n es = true) (hn : (ps.length : Int) = n) (hA : 0 ≤ A ∧ A < n) (h1 : ∀ i, i < ps.length → fit1K m A es zs ps i = true) {x : Int} (hx0 : 0 ≤ x) (hx : x < ps.length) (hz : zs.getD x.toNat 0 ≠ mNone m) : endB ps x = ptB ps A x := by
  have hp := fit1_par hg hn h1
  have hpA : ps.getD A.toNat 0 = -1 := by
    have := h1 A.toNat (by omega)
    unfold fit1K freeK at this
    rw [decide_eq_true (by omega), Bool.true_or, if_pos rfl, decide_eq_true_eq] at this
    exact this
  have e : ptB ps A x = belowL ps A (ps.length + 1) x := by
    unfold ptB ptR
    exact belowL_pt hp _ _ _ hx
  rw [e, Bool.eq_iff_iff]
  constructor
  · have key : ∀ (k : Nat) (x : Int), 0 ≤ x → x < ps.length → zs.getD x.toNat 0 ≠ mNone m → endL ps k x = true → belowL ps A k x = true := by
      intro k
      induction k with
      | zero => intro x _ _ _ q; cases q
      | succ k ih =>
        intro x h0 hl hzx q
        rw [endL, if_neg (by omega)] at q
        rw [belowL, if_neg (by omega)]
        by_cases hxA : x = A
        · rw [if_pos hxA]
        · rw [if_neg hxA]
          have h2 := h1 x.toNat (by omega)
          have hf : freeK m A zs x.toNat = false := by
            unfold freeK
            rw [decide_eq_false (by omega), decide_eq_false hzx]; rfl
          unfold fit1K at h2
          rw [hf, if_neg (by decide)] at h2
          obtain ⟨h3, h4⟩ := tight_src hm hg h2 hzx
          exact ih _ h3.1 (by omega) h4 q
    exact key _ x hx0 hx hz
  · have key : ∀ (k : Nat) (x : Int), belowL ps A k x = true → endL ps (k + 1) x = true := by
      intro k
      induction k with
      | zero => intro x q; cases q
      | succ k ih =>
        intro x q
        rw [belowL] at q
        split at q
        · cases q
        · rename_i h0
          rw [endL, if_neg h0]
          split at q
          · rename_i h2
            rw [h2, hpA, endL, if_pos (by decide)]
          · exact ih _ q
    intro q
    exact endL_cut hp hx (key _ x q)
theorem fit1_end (hm : mKind m = true) (hg : gVal n es = true) (hn : (ps.length : Int) = n) (hA : 0 ≤ A ∧ A < n) (h1 : ∀ i, i < ps.length → fit1K m A es zs ps i = true) {i : Nat} (hi : i < ps.length) : endB ps (i : Nat) = if freeK m A zs i = true then true else ptB ps A (ps.getD i 0) := by
  have hp := fit1_par hg hn h1
  have h2 := h1 i hi
  have h3 := end_step hp (x := (i : Int)) (by omega) (by omega)
  rw [Int.toNat_natCast] at h3
  rw [h3]
  unfold fit1K at h2
  split
  · rename_i hf
    rw [if_pos hf, decide_eq_true_eq] at h2
    rw [h2]
    exact end_neg (by decide)
  · rename_i hf
    rw [if_neg hf] at h2
    have hz : zs.getD i 0 ≠ mNone m := by
      intro q
      apply hf
      unfold freeK
      rw [decide_eq_true q, Bool.or_true]
    obtain ⟨h4, h5⟩ := tight_src hm hg h2 hz
    exact end_pt hm hg hn hA h1 h4.1 (by omega) h5
theorem fit_gr (hm : mKind m = true) (hg : gVal n es = true) (hn : (ps.length : Int) = n) (hA : 0 ≤ A ∧ A < n) :
    (List.range ps.length).all (fitK m A es zs ps) = ((List.range ps.length).all (fit1K m A es zs ps) && !grB ps) := by
  have hd : ∀ i, fitK m A es zs ps i = (fit1K m A es zs ps i && (if freeK m A zs i = true then true else ptB ps A (ps.getD i 0))) := by
    intro i
    unfold fitK fit1K
    split
    · rw [Bool.and_true]
    · rfl
  rw [Bool.eq_iff_iff, Bool.and_eq_true, List.all_eq_true, List.all_eq_true]
  simp only [List.mem_range]
  constructor
  · intro h
    have h1 : ∀ i, i < ps.length → fit1K m A es zs ps i = true := fun i hi => by
      have := h i hi; rw [hd, Bool.and_eq_true] at this; exact this.1
    refine ⟨h1, ?_⟩
    rw [(gr_none (fun j hj => ?_)).2]; rfl
    rw [fit1_end hm hg hn hA h1 hj]
    have := h j hj; rw [hd, Bool.and_eq_true] at this; exact this.2
  · rintro ⟨h1, h2⟩ i hi
    rw [Bool.not_eq_true'] at h2
    rw [hd, Bool.and_eq_true]
    refine ⟨h1 i hi, ?_⟩
    rw [← fit1_end hm hg hn hA h1 hi]
    exact gr_of h2 i hi
end
end Go.Proofs.Ytdblcaeeepkebaa
