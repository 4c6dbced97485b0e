/- Lists of changes: what making them does to a graph's edges, and which changes lead from one list of edges to another (mathematics). -/
import Derived.Test.YtbhhbhopogkmnaaPutT
namespace Go.Proofs.Ytbhhbhopogkmnaa
open Go.RowKit Go.BigFrame Go.Deep
set_option linter.unusedVariables false
set_option linter.unusedSimpArgs false

/-- A change: is an edge cut, and which edge. -/
abbrev Ch := Bool × Ed
/-- A change that nobody reads. -/
def chZ : Ch := (false, (0, 0, 0))
/-- A change that is of one of the two kinds. -/
def chOk (c : Ch) : Bool := !c.1 || decide (c.2.2.2 = 0)
/-- A change made to the edges of a graph. -/
def apG (n : Int) (es : List Ed) (c : Ch) : Option (List Ed) :=
  if c.1 = true then (if c.2.2.2 = 0 ∧ kB n es c.2.1 c.2.2.1 = true then some (kL es c.2.1 c.2.2.1) else none)
  else (if putB n es c.2 = true then some (pL es c.2) else none)
/-- The first k changes made to the edges of a graph. -/
def apT (n : Int) (es : List Ed) (cs : List Ch) (k : Nat) : Option (List Ed) := (cs.take k).foldl (fun o c => o.bind (fun x => apG n x c)) (some es)
theorem apT_zero (n : Int) (es : List Ed) (cs : List Ch) : apT n es cs 0 = some es := by simp [apT]
theorem apT_succ {n : Int} {es : List Ed} {cs : List Ch} {k : Nat} (hk : k < cs.length) : apT n es cs (k + 1) = (apT n es cs k).bind (fun x => apG n x (cs.getD k chZ)) := by
  have e : cs.getD k chZ = cs[k] := by simp [List.getD, hk]
  unfold apT
  rw [List.take_succ_eq_append_getElem hk, List.foldl_append, e]
  rfl
theorem apT_none {n : Int} {es : List Ed} {cs : List Ch} {k : Nat} (h : apT n es cs k = none) : ∀ j, k ≤ j → apT n es cs j = none := by
  intro j hj
  induction j with
  | zero => have : k = 0 := by omega
            rw [this] at h; exact h
  | succ j ih =>
    by_cases hkj : k = j + 1
    · rw [← hkj]; exact h
    · by_cases hl : j < cs.length
      · rw [apT_succ hl, ih (by omega)]; rfl
      · have e : apT n es cs (j + 1) = apT n es cs j := by unfold apT; rw [List.take_of_length_le (by omega), List.take_of_length_le (by omega)]
        rw [e]; exact ih (by omega)
theorem gVal_sub0 {n : Int} {es fs : List Ed} (hg : gVal n es = true) (h : fs.Sublist es) : gVal n fs = true := by
  rw [gVal_iff] at hg ⊢
  exact ⟨⟨hg.1.1, hg.1.2.1, Nat.le_trans h.length_le hg.1.2.2⟩, fun d hd => hg.2.1 d (h.subset hd), hg.2.2.sublist h⟩
theorem gVal_kL {n : Int} {es : List Ed} {a b : Int} (h : kB n es a b = true) : gVal n (kL es a b) = true := by
  unfold kB at h
  rw [Bool.and_eq_true] at h
  rw [← cutL_val h.1 h.2]
  exact gVal_sub0 h.1 (List.filter_sublist ..)
theorem gVal_pL {n : Int} {es : List Ed} {e : Ed} (h : putB n es e = true) : gVal n (pL es e) = true := by
  have hg : gVal n es = true := by unfold putB at h; simp only [Bool.and_eq_true] at h; exact h.1.1
  rw [← putB_val hg]; exact h
theorem apG_val {n : Int} {es fs : List Ed} {c : Ch} (h : apG n es c = some fs) : gVal n fs = true := by
  unfold apG at h
  split at h
  · split at h
    · rename_i h2
      injection h with h
      rw [← h]; exact gVal_kL h2.2
    · cases h
  · split at h
    · rename_i h2
      injection h with h
      rw [← h]; exact gVal_pL h2
    · cases h
theorem apT_val {n : Int} {es : List Ed} (hg : gVal n es = true) (cs : List Ch) : ∀ (k : Nat) (fs : List Ed), apT n es cs k = some fs → gVal n fs = true := by
  intro k
  induction k with
  | zero => intro fs h; rw [apT_zero] at h; injection h with h; rw [← h]; exact hg
  | succ k ih =>
    intro fs h
    by_cases hl : k < cs.length
    · rw [apT_succ hl] at h
      cases hx : apT n es cs k with
      | none => rw [hx] at h; cases h
      | some x => rw [hx] at h; exact apG_val h
    · have e : apT n es cs (k + 1) = apT n es cs k := by unfold apT; rw [List.take_of_length_le (by omega), List.take_of_length_le (by omega)]
      rw [e] at h; exact ih fs h
/-- Can the changes be made? -/
def apB (n : Int) (es : List Ed) (cs : List Ch) : Bool := (decide (cs.length ≤ 60) && gVal n es) && (apT n es cs cs.length).isSome
def apN (n : Int) (es : List Ed) (cs : List Ch) : Int := if apB n es cs = true then n else 0
def apR (n : Int) (es : List Ed) (cs : List Ch) : List Ed := if apB n es cs = true then (apT n es cs cs.length).getD [] else []
theorem apB_long {n : Int} {es : List Ed} {cs : List Ch} (h : ¬ cs.length ≤ 60) : apB n es cs = false := by simp [apB, h]
theorem apB_bad {n : Int} {es : List Ed} {cs : List Ch} (h : gVal n es = false) : apB n es cs = false := by simp [apB, h]
theorem apB_none {n : Int} {es : List Ed} {cs : List Ch} {k : Nat} (hk : k ≤ cs.length) (h : apT n es cs k = none) : apB n es cs = false := by
  simp [apB, apT_none h cs.length hk]
theorem apB_some {n : Int} {es fs : List Ed} {cs : List Ch} (hl : cs.length ≤ 60) (hg : gVal n es = true) (h : apT n es cs cs.length = some fs) : apB n es cs = true := by simp [apB, hl, hg, h]
theorem apN_no {n : Int} {es : List Ed} {cs : List Ch} (h : apB n es cs = false) : apN n es cs = 0 := by simp [apN, h]
theorem apR_no {n : Int} {es : List Ed} {cs : List Ch} (h : apB n es cs = false) : apR n es cs = [] := by simp [apR, h]
theorem apN_yes {n : Int} {es : List Ed} {cs : List Ch} (h : apB n es cs = true) : apN n es cs = n := by simp [apN, h]
theorem apR_yes {n : Int} {es fs : List Ed} {cs : List Ch} (h : apB n es cs = true) (h2 : apT n es cs cs.length = some fs) : apR n es cs = fs := by simp [apR, h, h2]
theorem apB_out {n : Int} {es : List Ed} {cs : List Ch} (h : apB n es cs = true) : cs.length ≤ 60 ∧ gVal n es = true ∧ apT n es cs cs.length = some (apR n es cs) := by
  have h0 := h
  simp only [apB, Bool.and_eq_true, decide_eq_true_eq] at h
  refine ⟨h.1.1, h.1.2, ?_⟩
  cases hx : apT n es cs cs.length with
  | none => rw [hx] at h; simp at h
  | some x => rw [apR_yes h0 hx]
theorem apR_val {n : Int} {es : List Ed} {cs : List Ch} (h : apB n es cs = true) : gVal n (apR n es cs) = true := by
  have h0 := apB_out h
  exact apT_val h0.2.1 cs _ _ h0.2.2
theorem apR_len (n : Int) (es : List Ed) (cs : List Ch) : (apR n es cs).length ≤ 40 := by
  cases h : apB n es cs
  · rw [apR_no h]; simp
  · exact (gVal_iff.1 (apR_val h)).1.2.2
/-- A change that is of neither kind cannot be made. -/
theorem apG_bad {n : Int} {es : List Ed} {c : Ch} (h : chOk c = false) : apG n es c = none := by
  unfold chOk at h
  simp only [Bool.or_eq_false_iff, Bool.not_eq_false', decide_eq_false_iff_not] at h
  unfold apG
  rw [if_pos h.1, if_neg (fun k => h.2 k.1)]
theorem apB_badAt {n : Int} {es : List Ed} {cs : List Ch} {k : Nat} (hk : k < cs.length) (h : chOk (cs.getD k chZ) = false) : apB n es cs = false := by
  apply apB_none (k := k + 1) (by omega)
  rw [apT_succ hk]
  cases apT n es cs k with
  | none => rfl
  | some x => exact apG_bad h
theorem apG_cut {n : Int} {es : List Ed} {x y : Int} : apG n es (true, (x, y, 0)) = if kB n es x y = true then some (kL es x y) else none := by simp [apG]
theorem apG_put {n : Int} {es : List Ed} {e : Ed} : apG n es (false, e) = if putB n es e = true then some (pL es e) else none := by simp [apG]

/-! the changes from one list of edges to another -/
def cutC (d : Ed) : Ch := (true, (d.1, d.2.1, 0))
def putC (d : Ed) : Ch := (false, d)
/-- Is there an edge between the ends of d? -/
def hasE (es : List Ed) (d : Ed) : Bool := es.any (eBe d.1 d.2.1)
def isE (es : List Ed) (d : Ed) : Bool := decide (d ∈ es)
def dfC (xs ys : List Ed) : List Ch := (xs.filter (fun d => !(hasE ys d))).map cutC
def dfP (xs ys : List Ed) : List Ch := (ys.filter (fun d => !(isE xs d))).map putC
def dfL (xs ys : List Ed) : List Ch := dfC xs ys ++ dfP xs ys
def dfB (n : Int) (xs : List Ed) (m : Int) (ys : List Ed) : Bool := (gVal n xs && gVal m ys) && decide (n = m)
def dfR (n : Int) (xs : List Ed) (m : Int) (ys : List Ed) : List Ch := if dfB n xs m ys = true then dfL xs ys else []
theorem dfC_len (xs ys : List Ed) : (dfC xs ys).length ≤ xs.length := by unfold dfC; rw [List.length_map]; exact List.length_filter_le _ _
theorem dfP_len (xs ys : List Ed) : (dfP xs ys).length ≤ ys.length := by unfold dfP; rw [List.length_map]; exact List.length_filter_le _ _
theorem dfL_len {n m : Int} {xs ys : List Ed} (ha : gVal n xs = true) (hb : gVal m ys = true) : (dfL xs ys).length ≤ 80 := by
  have h1 := (gVal_iff.1 ha).1.2.2
  have h2 := (gVal_iff.1 hb).1.2.2
  have := dfC_len xs ys
  have := dfP_len xs ys
  unfold dfL; rw [List.length_append]; omega
theorem dfR_len (n : Int) (xs : List Ed) (m : Int) (ys : List Ed) : (dfR n xs m ys).length ≤ 80 := by
  unfold dfR
  split
  · rename_i h
    simp only [dfB, Bool.and_eq_true] at h
    exact dfL_len h.1.1 h.1.2
  · simp
/-- What is cut and put up to places in both lists. -/
def mC (xs ys : List Ed) (i : Nat) : List Ch := dfC (xs.take i) ys
def mP (xs ys : List Ed) (j : Nat) : List Ch := dfP xs (ys.take j)
theorem mC_zero (xs ys : List Ed) : mC xs ys 0 = [] := rfl
theorem mP_zero (xs ys : List Ed) : mP xs ys 0 = [] := by simp [mP, dfP]
theorem mC_succ {xs ys : List Ed} {i : Nat} (hi : i < xs.length) : mC xs ys (i + 1) = mC xs ys i ++ (if hasE ys (xs.getD i (0, 0, 0)) = true then [] else [cutC (xs.getD i (0, 0, 0))]) := by
  have e : xs.getD i (0, 0, 0) = xs[i] := by simp [List.getD, hi]
  unfold mC dfC
  rw [List.take_succ_eq_append_getElem hi, List.filter_append, List.map_append, e]
  cases h : hasE ys xs[i] <;> simp [h]
theorem mP_succ {xs ys : List Ed} {j : Nat} (hj : j < ys.length) : mP xs ys (j + 1) = mP xs ys j ++ (if isE xs (ys.getD j (0, 0, 0)) = true then [] else [putC (ys.getD j (0, 0, 0))]) := by
  have e : ys.getD j (0, 0, 0) = ys[j] := by simp [List.getD, hj]
  unfold mP dfP
  rw [List.take_succ_eq_append_getElem hj, List.filter_append, List.map_append, e]
  cases h : isE xs ys[j] <;> simp [h]
theorem mC_all {xs ys : List Ed} {i : Nat} (hi : xs.length ≤ i) : mC xs ys i = dfC xs ys := by unfold mC; rw [List.take_of_length_le hi]
theorem mP_all {xs ys : List Ed} {j : Nat} (hj : ys.length ≤ j) : mP xs ys j = dfP xs ys := by unfold mP; rw [List.take_of_length_le hj]
/-- What stands ahead of the two places is ahead of what stands behind. -/
def Mrg (xs ys : List Ed) (i j : Nat) : Prop :=
  (∀ p q, p < i → j ≤ q → q < ys.length → EdLt (xs.getD p (0, 0, 0)) (ys.getD q (0, 0, 0))) ∧ (∀ p q, i ≤ p → p < xs.length → q < j → EdLt (ys.getD q (0, 0, 0)) (xs.getD p (0, 0, 0)))
theorem Mrg.zero (xs ys : List Ed) : Mrg xs ys 0 0 := ⟨fun _ _ h => absurd h (Nat.not_lt_zero _), fun _ _ _ _ h => absurd h (Nat.not_lt_zero _)⟩
theorem edLt_irr0 {a b : Ed} (h : EdLt a b) (k : EdLt b a) : False := by unfold EdLt at *; omega
theorem EdLt_of_ends {a b c : Ed} (h : EdLt a b) (h1 : b.1 = c.1) (h2 : b.2.1 = c.2.1) : EdLt a c := by unfold EdLt at *; omega
section
variable {n m : Int} {xs ys : List Ed}
/-- The edge in front of the first list is the lesser one: it is not in the other one. -/
theorem Mrg.left (ha : gVal n xs = true) (hb : gVal m ys = true) {i j : Nat} (h : Mrg xs ys i j) (hi : i < xs.length) (hlt : j < ys.length → EdLt (xs.getD i (0, 0, 0)) (ys.getD j (0, 0, 0))) :
    hasE ys (xs.getD i (0, 0, 0)) = false ∧ Mrg xs ys (i + 1) j := by
  have hq : ∀ q, j ≤ q → q < ys.length → EdLt (xs.getD i (0, 0, 0)) (ys.getD q (0, 0, 0)) := by
    intro q h1 h2
    by_cases hqj : q = j
    · subst hqj; exact hlt h2
    · exact (hlt (by omega)).trans (gVal_sorted hb (by omega) h2)
  constructor
  · unfold hasE
    apply Bool.eq_false_iff.2
    intro hx
    rw [List.any_eq_true] at hx
    obtain ⟨d, hd, he⟩ := hx
    obtain ⟨q, hq1, rfl⟩ := List.getElem_of_mem hd
    have e1 : ys.getD q (0, 0, 0) = ys[q] := by simp [List.getD, hq1]
    simp only [eBe, Bool.and_eq_true, decide_eq_true_eq] at he
    by_cases hqj : j ≤ q
    · have := hq q hqj hq1
      rw [e1] at this
      unfold EdLt at this; omega
    · have := h.2 i q (Nat.le_refl _) hi (by omega)
      rw [e1] at this
      unfold EdLt at this; omega
  · refine ⟨fun p q h1 h2 h3 => ?_, fun p q h1 h2 h3 => h.2 p q (by omega) h2 h3⟩
    by_cases hp : p = i
    · subst hp; exact hq q h2 h3
    · exact h.1 p q (by omega) h2 h3
theorem Mrg.right (ha : gVal n xs = true) (hb : gVal m ys = true) {i j : Nat} (h : Mrg xs ys i j) (hj : j < ys.length) (hlt : i < xs.length → EdLt (ys.getD j (0, 0, 0)) (xs.getD i (0, 0, 0))) :
    isE xs (ys.getD j (0, 0, 0)) = false ∧ Mrg xs ys i (j + 1) := by
  have hp : ∀ p, i ≤ p → p < xs.length → EdLt (ys.getD j (0, 0, 0)) (xs.getD p (0, 0, 0)) := by
    intro p h1 h2
    by_cases hpi : p = i
    · subst hpi; exact hlt h2
    · exact (hlt (by omega)).trans (gVal_sorted ha (by omega) h2)
  constructor
  · unfold isE
    apply decide_eq_false
    intro hx
    obtain ⟨p, hp1, he⟩ := List.getElem_of_mem hx
    have e1 : xs.getD p (0, 0, 0) = xs[p] := by simp [List.getD, hp1]
    rw [← e1] at he
    by_cases hpi : i ≤ p
    · have := hp p hpi hp1
      rw [he] at this; exact edLt_irr0 this this
    · have := h.1 p j (by omega) (Nat.le_refl _) hj
      rw [he] at this; exact edLt_irr0 this this
  · refine ⟨fun p q h1 h2 h3 => h.1 p q h1 (by omega) h3, fun p q h1 h2 h3 => ?_⟩
    by_cases hq : q = j
    · subst hq; exact hp p h1 h2
    · exact h.2 p q h1 h2 (by omega)
theorem Mrg.both (ha : gVal n xs = true) (hb : gVal m ys = true) {i j : Nat} (h : Mrg xs ys i j) (hi : i < xs.length) (hj : j < ys.length) (h1 : (xs.getD i (0, 0, 0)).1 = (ys.getD j (0, 0, 0)).1) (h2 : (xs.getD i (0, 0, 0)).2.1 = (ys.getD j (0, 0, 0)).2.1) :
    hasE ys (xs.getD i (0, 0, 0)) = true ∧ isE xs (ys.getD j (0, 0, 0)) = decide ((xs.getD i (0, 0, 0)).2.2 = (ys.getD j (0, 0, 0)).2.2) ∧ Mrg xs ys (i + 1) (j + 1) := by
  have ea : xs.getD i (0, 0, 0) = xs[i] := by simp [List.getD, hi]
  have eb : ys.getD j (0, 0, 0) = ys[j] := by simp [List.getD, hj]
  refine ⟨?_, ?_, ?_⟩
  · unfold hasE
    rw [List.any_eq_true]
    exact ⟨ys[j], List.getElem_mem hj, by simp only [eBe, Bool.and_eq_true, decide_eq_true_eq]; rw [← eb]; exact ⟨h1.symm, h2.symm⟩⟩
  · unfold isE
    rw [Bool.eq_iff_iff, decide_eq_true_eq, decide_eq_true_eq]
    constructor
    · intro hx
      obtain ⟨p, hp1, he⟩ := List.getElem_of_mem hx
      have e1 : xs.getD p (0, 0, 0) = xs[p] := by simp [List.getD, hp1]
      rw [← e1] at he
      have hpi : p = i := by
        rcases Nat.lt_trichotomy p i with hl | hl | hl
        · have := gVal_sorted ha hl hi
          rw [he] at this; unfold EdLt at this; omega
        · exact hl
        · have := gVal_sorted ha hl hp1
          rw [he] at this; unfold EdLt at this; omega
      subst hpi
      rw [he]
    · intro hw
      have : xs.getD i (0, 0, 0) = ys.getD j (0, 0, 0) := Prod.ext h1 (Prod.ext h2 hw)
      rw [← this, ea]; exact List.getElem_mem hi
  · refine ⟨fun p q k1 k2 k3 => ?_, fun p q k1 k2 k3 => ?_⟩
    · by_cases hp : p = i
      · subst hp
        have := gVal_sorted hb (show j < q by omega) k3
        unfold EdLt at *; omega
      · exact h.1 p q (by omega) (by omega) k3
    · by_cases hq : q = j
      · subst hq
        have := gVal_sorted ha (show i < p by omega) k2
        unfold EdLt at *; omega
      · exact h.2 p q (by omega) k2 (by omega)
end
/-- The model's way to say what must be put. -/
theorem isE_find {n : Int} {xs : List Ed} (hg : gVal n xs = true) (e : Ed) : isE xs e = (fdE xs e.1 e.2.1 && decide ((xs.getD (lbE xs e.1 e.2.1) (0, 0, 0)).2.2 = e.2.2)) := by
  rw [Bool.eq_iff_iff, Bool.and_eq_true, decide_eq_true_eq]
  unfold isE
  rw [decide_eq_true_eq]
  constructor
  · intro hx
    obtain ⟨p, hp, he⟩ := List.getElem_of_mem hx
    have e1 : xs.getD p (0, 0, 0) = xs[p] := by simp [List.getD, hp]
    have hlb : lbE xs e.1 e.2.1 = p := by
      apply lbE_of (by omega)
      · intro k hk
        have := gVal_sorted hg hk hp
        rw [e1, he] at this
        rw [eLt_iff]; unfold EdLt at this; omega
      · intro _
        apply Bool.eq_false_iff.2
        rw [Ne, eLt_iff, e1, he]; omega
    have hf : fdE xs e.1 e.2.1 = true := by
      unfold fdE
      rw [hlb, decide_eq_true hp, e1, he, Bool.true_and, decide_eq_true_eq, cEnds_eq]
      exact ⟨rfl, rfl⟩
    rw [hlb, e1, he]
    exact ⟨hf, rfl⟩
  · rintro ⟨hf, hw⟩
    unfold fdE at hf
    rw [Bool.and_eq_true, decide_eq_true_eq, decide_eq_true_eq, cEnds_eq] at hf
    have e1 : xs.getD (lbE xs e.1 e.2.1) (0, 0, 0) = xs[lbE xs e.1 e.2.1]'hf.1 := by simp [List.getD, hf.1]
    have : xs.getD (lbE xs e.1 e.2.1) (0, 0, 0) = e := Prod.ext hf.2.1 (Prod.ext hf.2.2 hw)
    rw [← this, e1]; exact List.getElem_mem _
theorem hasE_find {n : Int} {ys : List Ed} (hg : gVal n ys = true) (d : Ed) : hasE ys d = fdE ys d.1 d.2.1 := by
  rw [Bool.eq_iff_iff]
  unfold hasE
  rw [List.any_eq_true]
  constructor
  · rintro ⟨e, he, hb⟩
    simp only [eBe, Bool.and_eq_true, decide_eq_true_eq] at hb
    have := isE_find hg e
    rw [hb.1, hb.2] at this
    have h1 : isE ys e = true := decide_eq_true he
    rw [h1] at this
    have := this.symm
    rw [Bool.and_eq_true] at this
    exact this.1
  · intro hf
    unfold fdE at hf
    rw [Bool.and_eq_true, decide_eq_true_eq, decide_eq_true_eq, cEnds_eq] at hf
    have e1 : ys.getD (lbE ys d.1 d.2.1) (0, 0, 0) = ys[lbE ys d.1 d.2.1]'hf.1 := by simp [List.getD, hf.1]
    refine ⟨_, List.getElem_mem hf.1, ?_⟩
    simp only [eBe, Bool.and_eq_true, decide_eq_true_eq]
    rw [← e1]
    exact hf.2
end Go.Proofs.Ytbhhbhopogkmnaa
