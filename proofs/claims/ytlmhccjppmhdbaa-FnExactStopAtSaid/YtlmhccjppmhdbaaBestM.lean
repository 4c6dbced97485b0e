/- Settling nodes, the best one first: the mathematics. -/
import Derived.Test.YtlmhccjppmhdbaaHeapH
import Derived.Test.YtlmhccjppmhdbaaView0
namespace Go.Proofs.Ytlmhccjppmhdbaa
set_option linter.unusedVariables false
set_option linter.unusedSimpArgs false

/-- What a search has reached. -/
structure St where
  ord : List Int
  par : List Int
  vals : List Int
  looks : Int
  done : List Bool
/-- Can a node be settled next? -/
def okN (m : Int) (vals : List Int) (done : List Bool) (i : Nat) : Bool := !(done.getD i true) && !(decide (vals.getD i 0 = mNone m))
/-- The best of the first k nodes, as the model looks for it. -/
def nxK (m : Int) (vals : List Int) (done : List Bool) : Nat → Int
  | 0 => -1
  | k + 1 => if okN m vals done k = true then (if (decide (nxK m vals done k < 0) || mBet m (vals.getD k 0) (vals.getD (nxK m vals done k).toNat 0)) = true then (k : Int) else nxK m vals done k) else nxK m vals done k
def nxF (m : Int) (vals : List Int) (done : List Bool) : Int := nxK m vals done vals.length
/-- A node is the best one of some. -/
def isMin (m : Int) (vals : List Int) (done : List Bool) (k : Nat) (i : Nat) : Prop :=
  i < k ∧ okN m vals done i = true ∧ ∀ j, j < k → okN m vals done j = true → eLess m ((j : Int), vals.getD j 0) ((i : Int), vals.getD i 0) = false
theorem nxK_spec {m : Int} (hm : mKind m = true) (vals : List Int) (done : List Bool) : ∀ k, (nxK m vals done k = -1 ∧ ∀ j, j < k → okN m vals done j = false) ∨ ∃ i : Nat, nxK m vals done k = i ∧ isMin m vals done k i
  | 0 => .inl ⟨rfl, fun j hj => absurd hj (Nat.not_lt_zero _)⟩
  | k + 1 => by
    rw [nxK]
    cases hk : okN m vals done k
    · rw [if_neg (by decide)]
      rcases nxK_spec hm vals done k with ⟨h1, h2⟩ | ⟨i, h1, h2, h3, h4⟩
      · refine .inl ⟨h1, fun j hj => ?_⟩
        by_cases e : j = k
        · subst e; exact hk
        · exact h2 j (by omega)
      · refine .inr ⟨i, h1, by omega, h3, fun j hj hj2 => ?_⟩
        by_cases e : j = k
        · subst e; rw [hk] at hj2; cases hj2
        · exact h4 j (by omega) hj2
    · rw [if_pos rfl]
      rcases nxK_spec hm vals done k with ⟨h1, h2⟩ | ⟨i, h1, h2, h3, h4⟩
      · rw [h1, decide_eq_true (show (-1 : Int) < 0 by omega), Bool.true_or, if_pos rfl]
        refine .inr ⟨k, rfl, by omega, hk, fun j hj hj2 => ?_⟩
        by_cases e : j = k
        · subst e; exact eLess_irr hm _
        · rw [h2 j (by omega)] at hj2; cases hj2
      · rw [h1, decide_eq_false (show ¬ ((i : Int) < 0) by omega), Bool.false_or, Int.toNat_natCast]
        cases hb : mBet m (vals.getD k 0) (vals.getD i 0)
        · rw [if_neg (by decide)]
          refine .inr ⟨i, rfl, by omega, h3, fun j hj hj2 => ?_⟩
          by_cases e : j = k
          · subst e
            unfold eLess
            split
            · exact decide_eq_false (by simp only; omega)
            · exact hb
          · exact h4 j (by omega) hj2
        · rw [if_pos rfl]
          refine .inr ⟨k, rfl, by omega, hk, fun j hj hj2 => ?_⟩
          by_cases e : j = k
          · subst e; exact eLess_irr hm _
          · have h5 := h4 j (by omega) hj2
            have h6 : eLess m ((k : Int), vals.getD k 0) ((i : Int), vals.getD i 0) = true := by
              unfold eLess
              have hne : ¬ (vals.getD k 0 = vals.getD i 0) := by
                intro e2; rw [e2, le_refl' hm] at hb; cases hb
              rw [if_neg hne]; exact hb
            exact (eLess_ord hm).trans _ _ _ ((eLess_ord hm).asym _ _ h6) h5
theorem nxF_min {m : Int} (hm : mKind m = true) {vals : List Int} {done : List Bool} {i : Nat} (h : isMin m vals done vals.length i) : nxF m vals done = i := by
  obtain ⟨h1, h2, h3⟩ := h
  unfold nxF
  rcases nxK_spec hm vals done vals.length with ⟨_, k2⟩ | ⟨j, k1, k2, k3, k4⟩
  · rw [k2 i h1] at h2; cases h2
  · rw [k1]
    have e1 := h3 j k2 k3
    have e2 := k4 i h1 h2
    rw [Bool.eq_false_iff, ne_eq, eLess_iff hm] at e1 e2
    split at e1
    · rename_i hc
      rw [if_pos hc] at e2
      simp only at e1 e2
      omega
    · rename_i hc
      rw [if_neg hc] at e2
      simp only at e1 e2
      omega
theorem nxF_none {m : Int} (hm : mKind m = true) {vals : List Int} {done : List Bool} (h : ∀ i, i < vals.length → okN m vals done i = false) : nxF m vals done = -1 := by
  unfold nxF
  rcases nxK_spec hm vals done vals.length with ⟨k1, _⟩ | ⟨j, k1, k2, k3, k4⟩
  · exact k1
  · rw [h j k2] at k3; cases k3
theorem nxF_ok {m : Int} (hm : mKind m = true) {vals : List Int} {done : List Bool} : nxF m vals done = -1 ∨ ∃ i : Nat, nxF m vals done = i ∧ i < vals.length ∧ okN m vals done i = true := by
  unfold nxF
  rcases nxK_spec hm vals done vals.length with ⟨k1, _⟩ | ⟨j, k1, k2, k3, k4⟩
  · exact .inl k1
  · exact .inr ⟨j, k1, k2, k3⟩

/-- An edge gives a better value. -/
def stTake (m : Int) (st : St) (e : Ed) : St := { st with vals := st.vals.set e.2.1.toNat (vGive m st.vals e), par := st.par.set e.2.1.toNat e.1 }
def stBetter (m : Int) (st : St) (e : Ed) : Bool := mBet m (vGive m st.vals e) (st.vals.getD e.2.1.toNat 0)
/-- An edge is followed. -/
def stFollow (m : Int) (st : St) (e : Ed) : St := if stBetter m st e = true then stTake m st e else st
def stTick (st : St) : St := { st with looks := st.looks + 1 }
def isLook (at' : Int) (st : St) (e : Ed) : Bool := decide (e.1 = at') && !(st.done.getD e.2.1.toNat true)
/-- An edge is looked at from the node that is settled. -/
def stLook (m at' : Int) (st : St) (e : Ed) : St := if isLook at' st e = true then stFollow m (stTick st) e else st
def stScan (m at' : Int) (es : List Ed) (st : St) : St := es.foldl (stLook m at') st
def stMark (at' : Nat) (st : St) : St := { st with done := st.done.set at' true, ord := st.ord ++ [(at' : Int)] }
def stRun (m target : Int) (es : List Ed) : Nat → St → St
  | 0, st => st
  | f + 1, st => if nxF m st.vals st.done < 0 then st else if nxF m st.vals st.done = target then stMark (nxF m st.vals st.done).toNat st else stRun m target es f (stScan m (nxF m st.vals st.done) es (stMark (nxF m st.vals st.done).toNat st))
/-- How many nodes are not settled. -/
def nd (done : List Bool) : Nat := done.countP (fun b => !b)
theorem nd_set : ∀ (done : List Bool) (i : Nat), done.getD i true = false → nd (done.set i true) + 1 = nd done
  | [], i, h => by simp [List.getD] at h
  | b :: done, 0, h => by
    simp [List.getD] at h
    subst h
    simp [nd]
  | b :: done, i + 1, h => by
    have := nd_set done i (by simpa [List.getD] using h)
    unfold nd at *
    rw [List.set_cons_succ, List.countP_cons, List.countP_cons]
    omega
theorem nd_le (done : List Bool) : nd done ≤ done.length := List.countP_le_length ..
/-- What stays as it is. -/
structure StOk (m : Int) (N : Nat) (st : St) : Prop where
  par : st.par.length = N
  vals : st.vals.length = N
  done : st.done.length = N
  all : vAll m st.vals
theorem stTake_ok {m : Int} {N : Nat} {st : St} (hm : mKind m = true) (h : StOk m N st) {e : Ed} (h1 : e.1.toNat < N) (hw : mWeight e.2.2 = true) : StOk m N (stTake m st e) := by
  refine ⟨by simp [stTake, h.par], by simp [stTake, h.vals], h.done, ?_⟩
  intro i hi
  simp only [stTake, List.length_set] at hi
  simp only [stTake]
  rw [getD_set _ _ _ _ hi]
  split
  · exact give_in hm h.all (by rw [h.vals]; exact h1) hw
  · exact h.all i hi
theorem stFollow_ok {m : Int} {N : Nat} {st : St} (hm : mKind m = true) (h : StOk m N st) {e : Ed} (h1 : e.1.toNat < N) (hw : mWeight e.2.2 = true) : StOk m N (stFollow m st e) := by
  unfold stFollow; split
  · exact stTake_ok hm h h1 hw
  · exact h
theorem stTick_ok {m : Int} {N : Nat} {st : St} (h : StOk m N st) : StOk m N (stTick st) := ⟨h.par, h.vals, h.done, h.all⟩
theorem stLook_ok {m at' : Int} {N : Nat} {st : St} (hm : mKind m = true) (h : StOk m N st) {e : Ed} (h1 : e.1.toNat < N) (hw : mWeight e.2.2 = true) : StOk m N (stLook m at' st e) := by
  unfold stLook; split
  · exact stFollow_ok hm (stTick_ok h) h1 hw
  · exact h
theorem stLook_done (m at' : Int) (st : St) (e : Ed) : (stLook m at' st e).done = st.done := by
  unfold stLook stFollow stTake stTick
  split
  · split <;> rfl
  · rfl
theorem stScan_ok {m at' : Int} {N : Nat} (hm : mKind m = true) : ∀ (es : List Ed) (st : St), StOk m N st → (∀ e ∈ es, e.1.toNat < N ∧ mWeight e.2.2 = true) → StOk m N (stScan m at' es st)
  | [], st, h, _ => h
  | e :: es, st, h, he => by
    have h0 := he e (List.mem_cons_self ..)
    exact stScan_ok hm es _ (stLook_ok hm h h0.1 h0.2) (fun e' h' => he e' (List.mem_cons_of_mem _ h'))
theorem stScan_done (m at' : Int) : ∀ (es : List Ed) (st : St), (stScan m at' es st).done = st.done
  | [], st => rfl
  | e :: es, st => (stScan_done m at' es _).trans (stLook_done m at' st e)
theorem stScan_snoc (m at' : Int) (es : List Ed) (st : St) {k : Nat} (hk : k < es.length) : stScan m at' (es.take (k + 1)) st = stLook m at' (stScan m at' (es.take k) st) (es.getD k (0, 0, 0)) := by
  rw [List.take_succ_eq_append_getElem hk]
  unfold stScan
  rw [List.foldl_append]
  simp [List.getD, hk]
theorem stMark_ok {m : Int} {N : Nat} {st : St} (h : StOk m N st) (i : Nat) : StOk m N (stMark i st) := ⟨h.par, h.vals, by simp [stMark, h.done], h.all⟩
/-- The waiting entries hold what has been reached. -/
structure Waits (m : Int) (N : Nat) (st : St) (ents : List En) : Prop where
  has : ∀ i, i < N → okN m st.vals st.done i = true → ((i : Int), st.vals.getD i 0) ∈ ents
  ok : ∀ x ∈ ents, (0 ≤ x.1 ∧ x.1.toNat < N) ∧ mIn m x.2 = true ∧ x.2 ≠ mNone m ∧ mBet m x.2 (st.vals.getD x.1.toNat 0) = false
theorem bet_none {m v : Int} (hm : mKind m = true) (hv : mIn m v = true) (hn : v ≠ mNone m) : mBet m v (mNone m) = true := by
  cases h : mBet m v (mNone m) with
  | true => rfl
  | false => exact absurd (le_anti hm (none_worst hv) h).symm (fun e => hn e.symm)
/-- The first entry of the heap is that of the next node, or of one that is settled. -/
theorem waits_min {m : Int} {N : Nat} {st : St} {ents : List En} (hm : mKind m = true) (hs : StOk m N st) (hw : Waits m N st ents) (h0 : 0 < ents.length) (hh : hOk m ents.length ents) {i : Nat} (hi : (ents.getD 0 (0, 0)).1 = i) (hd : st.done.getD i true = false) :
    isMin m st.vals st.done N i ∧ (ents.getD 0 (0, 0)).2 = st.vals.getD i 0 := by
  have hmem : ents.getD 0 (0, 0) ∈ ents := by
    rw [show ents.getD 0 (0, 0) = ents[0] by simp [List.getD, h0]]; exact List.getElem_mem h0
  obtain ⟨⟨a1, a2⟩, a3, a4, a5⟩ := hw.ok _ hmem
  rw [hi, Int.toNat_natCast] at a2 a5
  have hroot : ∀ x ∈ ents, eLess m x (ents.getD 0 (0, 0)) = false := by
    intro x hx
    obtain ⟨k, hk, rfl⟩ := List.getElem_of_mem hx
    have := heap_root (eLess_ord hm) hh k hk
    simpa [List.getD, hk] using this
  have hvn : st.vals.getD i 0 ≠ mNone m := by
    intro e
    rw [e, bet_none hm a3 a4] at a5
    cases a5
  have hok : okN m st.vals st.done i = true := by
    unfold okN
    rw [hd, decide_eq_false hvn]; rfl
  have hv : (ents.getD 0 (0, 0)).2 = st.vals.getD i 0 := by
    have h1 := hroot _ (hw.has i a2 hok)
    unfold eLess at h1
    split at h1
    · rename_i e; exact e.symm
    · exact le_anti hm h1 a5
  refine ⟨⟨a2, hok, fun j hj hjo => ?_⟩, hv⟩
  have h1 := hroot _ (hw.has j hj hjo)
  rw [show ents.getD 0 (0, 0) = ((i : Int), st.vals.getD i 0) from Prod.ext hi hv] at h1
  exact h1
theorem waits_skip {m : Int} {N : Nat} {st : St} {ents ents' : List En} (hw : Waits m N st ents) {i : Nat} (hi : (ents.getD 0 (0, 0)).1 = i) (hd : st.done.getD i true = true) (h1 : ∀ x, (x ∈ ents' → x ∈ ents) ∧ (x ∈ ents → x = ents.getD 0 (0, 0) ∨ x ∈ ents')) : Waits m N st ents' := by
  refine ⟨fun j hj hok => ?_, fun x hx => hw.ok x ((h1 x).1 hx)⟩
  rcases (h1 _).2 (hw.has j hj hok) with h | h
  · have : (j : Int) = i := by rw [← hi, ← h]
    have hji : j = i := by omega
    subst hji
    unfold okN at hok
    rw [hd] at hok
    simp at hok
  · exact h
theorem getD_set_b (done : List Bool) (i j : Nat) (h : j < done.length) : (done.set i true).getD j true = if i = j then true else done.getD j true := by
  unfold List.getD
  rw [List.getElem?_set]
  by_cases e : i = j
  · rw [if_pos e, if_pos e, if_pos (show i < done.length by omega)]; rfl
  · rw [if_neg e, if_neg e]
theorem waits_mark {m : Int} {N : Nat} {st : St} {ents ents' : List En} (hs : StOk m N st) (hw : Waits m N st ents) {i : Nat} (hi : (ents.getD 0 (0, 0)).1 = i) (h1 : ∀ x, (x ∈ ents' → x ∈ ents) ∧ (x ∈ ents → x = ents.getD 0 (0, 0) ∨ x ∈ ents')) : Waits m N (stMark i st) ents' := by
  refine ⟨fun j hj hok => ?_, fun x hx => hw.ok x ((h1 x).1 hx)⟩
  have hij : ¬ i = j := by
    intro e
    subst e
    unfold okN stMark at hok
    simp only at hok
    rw [getD_set_b _ _ _ (by rw [hs.done]; exact hj), if_pos rfl] at hok
    simp at hok
  have hok2 : okN m st.vals st.done j = true := by
    unfold okN stMark at hok
    simp only at hok
    rw [getD_set_b _ _ _ (by rw [hs.done]; exact hj), if_neg hij] at hok
    exact hok
  rcases (h1 _).2 (hw.has j hj hok2) with h | h
  · have : (j : Int) = i := by rw [← hi, ← h]
    omega
  · exact h
theorem waits_take {m : Int} {N : Nat} {st : St} {ents ents' : List En} (hm : mKind m = true) (hs : StOk m N st) (hw : Waits m N st ents) {e : Ed} (he1 : e.1.toNat < N) (he2 : 0 ≤ e.2.1 ∧ e.2.1.toNat < N) (hwt : mWeight e.2.2 = true) (hb : stBetter m st e = true) (h1 : ∀ x, x ∈ ents' ↔ x ∈ ents ∨ x = (e.2.1, vGive m st.vals e)) : Waits m N (stTake m st e) ents' := by
  have hgi := give_in hm hs.all (by rw [hs.vals]; exact he1) hwt
  unfold stBetter at hb
  have hvi := hs.all e.2.1.toNat (by rw [hs.vals]; exact he2.2)
  have hgn : vGive m st.vals e ≠ mNone m := by
    intro h
    rw [h, none_worst hvi] at hb
    cases hb
  constructor
  · intro i hi hok
    have hg : (st.vals.set e.2.1.toNat (vGive m st.vals e)).getD i 0 = if e.2.1.toNat = i then vGive m st.vals e else st.vals.getD i 0 := getD_set _ _ _ _ (by rw [hs.vals]; exact hi)
    unfold okN stTake at hok
    simp only at hok
    show ((i : Int), (st.vals.set e.2.1.toNat (vGive m st.vals e)).getD i 0) ∈ ents'
    rw [hg] at hok ⊢
    by_cases h : e.2.1.toNat = i
    · rw [if_pos h]
      rw [h1]
      exact .inr (Prod.ext (by simp only; omega) rfl)
    · rw [if_neg h] at hok ⊢
      rw [h1]
      exact .inl (hw.has i hi hok)
  · intro x hx
    have hgo : ∀ i, i < N → (st.vals.set e.2.1.toNat (vGive m st.vals e)).getD i 0 = if e.2.1.toNat = i then vGive m st.vals e else st.vals.getD i 0 := fun i hi => getD_set _ _ _ _ (by rw [hs.vals]; exact hi)
    rcases (h1 x).1 hx with h | h
    · obtain ⟨⟨a1, a2⟩, a3, a4, a5⟩ := hw.ok x h
      refine ⟨⟨a1, a2⟩, a3, a4, ?_⟩
      show mBet m x.2 ((st.vals.set e.2.1.toNat (vGive m st.vals e)).getD x.1.toNat 0) = false
      rw [hgo _ a2]
      split
      · rename_i hh
        rw [← hh] at a5
        exact le_trans' hm (lt_le hm hb) a5
      · exact a5
    · subst h
      refine ⟨he2, hgi, hgn, ?_⟩
      show mBet m (vGive m st.vals e) ((st.vals.set e.2.1.toNat (vGive m st.vals e)).getD e.2.1.toNat 0) = false
      rw [hgo _ he2.2, if_pos rfl]
      exact le_refl' hm
theorem waits_tick {m : Int} {N : Nat} {st : St} {ents : List En} (h : Waits m N st ents) : Waits m N (stTick st) ents := ⟨h.has, h.ok⟩
theorem okN_lt {m : Int} {vals : List Int} {done : List Bool} {i : Nat} (h : okN m vals done i = true) : done.getD i true = false := by
  unfold okN at h
  rw [Bool.and_eq_true] at h
  simpa using h.1
theorem waits_end {m : Int} {N : Nat} {st : St} (hm : mKind m = true) (hs : StOk m N st) (h : Waits m N st []) : nxF m st.vals st.done = -1 := by
  refine nxF_none hm (fun i hi => ?_)
  cases hk : okN m st.vals st.done i with
  | false => rfl
  | true => have := h.has i (by rw [← hs.vals]; exact hi) hk; simp at this
end Go.Proofs.Ytlmhccjppmhdbaa
