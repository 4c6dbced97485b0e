/- Settling nodes, the best one first: the mathematics. A search in memory; reach, follow. A search: all edges of a node, the next node, all nodes. A search: until a node is settled, or all are. BestFirst and StopAt, in the program. BestFirst and StopAt, in the program: whole. -/
import Derived.Test.YtbhhbhopogkmnaaHeapP
import Derived.Test.YtbhhbhopogkmnaaEndV
import Derived.Test.YtbhhbhopogkmnaaRelaxJ
import Derived.Test.YtbhhbhopogkmnaaRight
import Derived.Test.YtbhhbhopogkmnaaBoxes
import Derived.Test.YtbhhbhopogkmnaaVStartT
import Derived.Test.YtbhhbhopogkmnaaSettled
import Derived.Test.YtbhhbhopogkmnaaFind3
namespace Go.Proofs.Ytbhhbhopogkmnaa
set_option linter.unusedVariables false
set_option linter.unusedSimpArgs false

/-- What a search has reached. -/
structure St where
  ord : List Int
  par : List Int
  vals : List Int
  looks : Int
  done : List Bool
/-- Can a node be settled next? -/
def okN (m : Int) (vals : List Int) (done : List Bool) (i : Nat) : Bool := !(done.getD i true) && !(decide (vals.getD i 0 = mNone m))
/-- The best of the first k nodes, as the model looks for it. -/
def nxK (m : Int) (vals : List Int) (done : List Bool) : Nat → Int
  | 0 => -1
  | k + 1 => if okN m vals done k = true then (if (decide (nxK m vals done k < 0) || mBet m (vals.getD k 0) (vals.getD (nxK m vals done k).toNat 0)) = true then (k : Int) else nxK m vals done k) else nxK m vals done k
def nxF (m : Int) (vals : List Int) (done : List Bool) : Int := nxK m vals done vals.length
/-- A node is the best one of some. -/
def isMin (m : Int) (vals : List Int) (done : List Bool) (k : Nat) (i : Nat) : Prop :=
  i < k ∧ okN m vals done i = true ∧ ∀ j, j < k → okN m vals done j = true → eLess m ((j : Int), vals.getD j 0) ((i : Int), vals.getD i 0) = false
theorem rowE_atB {w : World} {s : Value} {es : List Ed} (h : RowE w s es) {i : Nat} (hi : i < es.length) : ∃ b off cap, s = .slice (some ⟨b, off, none⟩) es.length cap ∧ b < w.heap.size ∧ ∀ j, j < es.length → w.cell? ⟨b, off + j * 3, none⟩ = some (.int .i64 (es.getD j (0, 0, 0)).1) ∧ w.cell? ⟨b, off + j * 3 + 1, none⟩ = some (.int .i64 (es.getD j (0, 0, 0)).2.1) ∧ w.cell? ⟨b, off + j * 3 + 2, none⟩ = some (.int .i64 (es.getD j (0, 0, 0)).2.2) := by
  obtain ⟨a, cap, rfl, h⟩ := h
  rcases h with h | ⟨b, off, rfl, hb, hc⟩
  · rw [h] at hi; simp at hi
  · exact ⟨b, off, cap, rfl, hb, hc⟩
theorem nxK_spec {m : Int} (hm : mKind m = true) (vals : List Int) (done : List Bool) : ∀ k, (nxK m vals done k = -1 ∧ ∀ j, j < k → okN m vals done j = false) ∨ ∃ i : Nat, nxK m vals done k = i ∧ isMin m vals done k i
  | 0 => .inl ⟨rfl, fun j hj => absurd hj (Nat.not_lt_zero _)⟩
  | k + 1 => by
    rw [nxK]
    cases hk : okN m vals done k
    · rw [if_neg (by decide)]
      rcases nxK_spec hm vals done k with ⟨h1, h2⟩ | ⟨i, h1, h2, h3, h4⟩
      · refine .inl ⟨h1, fun j hj => ?_⟩
        by_cases e : j = k
        · subst e; exact hk
        · exact h2 j (by omega)
      · refine .inr ⟨i, h1, by omega, h3, fun j hj hj2 => ?_⟩
        by_cases e : j = k
        · subst e; rw [hk] at hj2; cases hj2
        · exact h4 j (by omega) hj2
    · rw [if_pos rfl]
      rcases nxK_spec hm vals done k with ⟨h1, h2⟩ | ⟨i, h1, h2, h3, h4⟩
      · rw [h1, decide_eq_true (show (-1 : Int) < 0 by omega), Bool.true_or, if_pos rfl]
        refine .inr ⟨k, rfl, by omega, hk, fun j hj hj2 => ?_⟩
        by_cases e : j = k
        · subst e; exact eLess_irr hm _
        · rw [h2 j (by omega)] at hj2; cases hj2
      · rw [h1, decide_eq_false (show ¬ ((i : Int) < 0) by omega), Bool.false_or, Int.toNat_natCast]
        cases hb : mBet m (vals.getD k 0) (vals.getD i 0)
        · rw [if_neg (by decide)]
          refine .inr ⟨i, rfl, by omega, h3, fun j hj hj2 => ?_⟩
          by_cases e : j = k
          · subst e
            unfold eLess
            split
            · exact decide_eq_false (by simp only; omega)
            · exact hb
          · exact h4 j (by omega) hj2
        · rw [if_pos rfl]
          refine .inr ⟨k, rfl, by omega, hk, fun j hj hj2 => ?_⟩
          by_cases e : j = k
          · subst e; exact eLess_irr hm _
          · have h5 := h4 j (by omega) hj2
            have h6 : eLess m ((k : Int), vals.getD k 0) ((i : Int), vals.getD i 0) = true := by
              unfold eLess
              have hne : ¬ (vals.getD k 0 = vals.getD i 0) := by
                intro e2; rw [e2, le_refl' hm] at hb; cases hb
              rw [if_neg hne]; exact hb
            exact (eLess_ord hm).trans _ _ _ ((eLess_ord hm).asym _ _ h6) h5
theorem nxF_min {m : Int} (hm : mKind m = true) {vals : List Int} {done : List Bool} {i : Nat} (h : isMin m vals done vals.length i) : nxF m vals done = i := by
  obtain ⟨h1, h2, h3⟩ := h
  unfold nxF
  rcases nxK_spec hm vals done vals.length with ⟨_, k2⟩ | ⟨j, k1, k2, k3, k4⟩
  · rw [k2 i h1] at h2; cases h2
  · rw [k1]
    have e1 := h3 j k2 k3
    have e2 := k4 i h1 h2
    rw [Bool.eq_false_iff, ne_eq, eLess_iff hm] at e1 e2
    split at e1
    · rename_i hc
      rw [if_pos hc] at e2
      simp only at e1 e2
      omega
    · rename_i hc
      rw [if_neg hc] at e2
      simp only at e1 e2
      omega
theorem nxF_none {m : Int} (hm : mKind m = true) {vals : List Int} {done : List Bool} (h : ∀ i, i < vals.length → okN m vals done i = false) : nxF m vals done = -1 := by
  unfold nxF
  rcases nxK_spec hm vals done vals.length with ⟨k1, _⟩ | ⟨j, k1, k2, k3, k4⟩
  · exact k1
  · rw [h j k2] at k3; cases k3
theorem nxF_ok {m : Int} (hm : mKind m = true) {vals : List Int} {done : List Bool} : nxF m vals done = -1 ∨ ∃ i : Nat, nxF m vals done = i ∧ i < vals.length ∧ okN m vals done i = true := by
  unfold nxF
  rcases nxK_spec hm vals done vals.length with ⟨k1, _⟩ | ⟨j, k1, k2, k3, k4⟩
  · exact .inl k1
  · exact .inr ⟨j, k1, k2, k3⟩

/-- An edge gives a better value. -/
def stTake (m : Int) (st : St) (e : Ed) : St := { st with vals := st.vals.set e.2.1.toNat (vGive m st.vals e), par := st.par.set e.2.1.toNat e.1 }
def stBetter (m : Int) (st : St) (e : Ed) : Bool := mBet m (vGive m st.vals e) (st.vals.getD e.2.1.toNat 0)
/-- An edge is followed. -/
def stFollow (m : Int) (st : St) (e : Ed) : St := if stBetter m st e = true then stTake m st e else st
def stTick (st : St) : St := { st with looks := st.looks + 1 }
def isLook (at' : Int) (st : St) (e : Ed) : Bool := decide (e.1 = at') && !(st.done.getD e.2.1.toNat true)
/-- An edge is looked at from the node that is settled. -/
def stLook (m at' : Int) (st : St) (e : Ed) : St := if isLook at' st e = true then stFollow m (stTick st) e else st
def stScan (m at' : Int) (es : List Ed) (st : St) : St := es.foldl (stLook m at') st
def stMark (at' : Nat) (st : St) : St := { st with done := st.done.set at' true, ord := st.ord ++ [(at' : Int)] }
def stRun (m target : Int) (es : List Ed) : Nat → St → St
  | 0, st => st
  | f + 1, st => if nxF m st.vals st.done < 0 then st else if nxF m st.vals st.done = target then stMark (nxF m st.vals st.done).toNat st else stRun m target es f (stScan m (nxF m st.vals st.done) es (stMark (nxF m st.vals st.done).toNat st))
/-- How many nodes are not settled. -/
def nd (done : List Bool) : Nat := done.countP (fun b => !b)
theorem nd_set : ∀ (done : List Bool) (i : Nat), done.getD i true = false → nd (done.set i true) + 1 = nd done
  | [], i, h => by simp [List.getD] at h
  | b :: done, 0, h => by
    simp [List.getD] at h
    subst h
    simp [nd]
  | b :: done, i + 1, h => by
    have := nd_set done i (by simpa [List.getD] using h)
    unfold nd at *
    rw [List.set_cons_succ, List.countP_cons, List.countP_cons]
    omega
theorem nd_le (done : List Bool) : nd done ≤ done.length := List.countP_le_length ..
/-- What stays as it is. -/
structure StOk (m : Int) (N : Nat) (st : St) : Prop where
  par : st.par.length = N
  vals : st.vals.length = N
  done : st.done.length = N
  all : vAll m st.vals
theorem stTake_ok {m : Int} {N : Nat} {st : St} (hm : mKind m = true) (h : StOk m N st) {e : Ed} (h1 : e.1.toNat < N) (hw : mWeight e.2.2 = true) : StOk m N (stTake m st e) := by
  refine ⟨by simp [stTake, h.par], by simp [stTake, h.vals], h.done, ?_⟩
  intro i hi
  simp only [stTake, List.length_set] at hi
  simp only [stTake]
  rw [getD_set _ _ _ _ hi]
  split
  · exact give_in hm h.all (by rw [h.vals]; exact h1) hw
  · exact h.all i hi
theorem stFollow_ok {m : Int} {N : Nat} {st : St} (hm : mKind m = true) (h : StOk m N st) {e : Ed} (h1 : e.1.toNat < N) (hw : mWeight e.2.2 = true) : StOk m N (stFollow m st e) := by
  unfold stFollow; split
  · exact stTake_ok hm h h1 hw
  · exact h
theorem stTick_ok {m : Int} {N : Nat} {st : St} (h : StOk m N st) : StOk m N (stTick st) := ⟨h.par, h.vals, h.done, h.all⟩
theorem stLook_ok {m at' : Int} {N : Nat} {st : St} (hm : mKind m = true) (h : StOk m N st) {e : Ed} (h1 : e.1.toNat < N) (hw : mWeight e.2.2 = true) : StOk m N (stLook m at' st e) := by
  unfold stLook; split
  · exact stFollow_ok hm (stTick_ok h) h1 hw
  · exact h
theorem stLook_done (m at' : Int) (st : St) (e : Ed) : (stLook m at' st e).done = st.done := by
  unfold stLook stFollow stTake stTick
  split
  · split <;> rfl
  · rfl
theorem stScan_ok {m at' : Int} {N : Nat} (hm : mKind m = true) : ∀ (es : List Ed) (st : St), StOk m N st → (∀ e ∈ es, e.1.toNat < N ∧ mWeight e.2.2 = true) → StOk m N (stScan m at' es st)
  | [], st, h, _ => h
  | e :: es, st, h, he => by
    have h0 := he e (List.mem_cons_self ..)
    exact stScan_ok hm es _ (stLook_ok hm h h0.1 h0.2) (fun e' h' => he e' (List.mem_cons_of_mem _ h'))
theorem stScan_done (m at' : Int) : ∀ (es : List Ed) (st : St), (stScan m at' es st).done = st.done
  | [], st => rfl
  | e :: es, st => (stScan_done m at' es _).trans (stLook_done m at' st e)
theorem stScan_snoc (m at' : Int) (es : List Ed) (st : St) {k : Nat} (hk : k < es.length) : stScan m at' (es.take (k + 1)) st = stLook m at' (stScan m at' (es.take k) st) (es.getD k (0, 0, 0)) := by
  rw [List.take_succ_eq_append_getElem hk]
  unfold stScan
  rw [List.foldl_append]
  simp [List.getD, hk]
theorem stMark_ok {m : Int} {N : Nat} {st : St} (h : StOk m N st) (i : Nat) : StOk m N (stMark i st) := ⟨h.par, h.vals, by simp [stMark, h.done], h.all⟩
/-- The waiting entries hold what has been reached. -/
structure Waits (m : Int) (N : Nat) (st : St) (ents : List En) : Prop where
  has : ∀ i, i < N → okN m st.vals st.done i = true → ((i : Int), st.vals.getD i 0) ∈ ents
  ok : ∀ x ∈ ents, (0 ≤ x.1 ∧ x.1.toNat < N) ∧ mIn m x.2 = true ∧ x.2 ≠ mNone m ∧ mBet m x.2 (st.vals.getD x.1.toNat 0) = false
theorem bet_none {m v : Int} (hm : mKind m = true) (hv : mIn m v = true) (hn : v ≠ mNone m) : mBet m v (mNone m) = true := by
  cases h : mBet m v (mNone m) with
  | true => rfl
  | false => exact absurd (le_anti hm (none_worst hv) h).symm (fun e => hn e.symm)
/-- The first entry of the heap is that of the next node, or of one that is settled. -/
theorem waits_min {m : Int} {N : Nat} {st : St} {ents : List En} (hm : mKind m = true) (hs : StOk m N st) (hw : Waits m N st ents) (h0 : 0 < ents.length) (hh : hOk m ents.length ents) {i : Nat} (hi : (ents.getD 0 (0, 0)).1 = i) (hd : st.done.getD i true = false) :
    isMin m st.vals st.done N i ∧ (ents.getD 0 (0, 0)).2 = st.vals.getD i 0 := by
  have hmem : ents.getD 0 (0, 0) ∈ ents := by
    rw [show ents.getD 0 (0, 0) = ents[0] by simp [List.getD, h0]]; exact List.getElem_mem h0
  obtain ⟨⟨a1, a2⟩, a3, a4, a5⟩ := hw.ok _ hmem
  rw [hi, Int.toNat_natCast] at a2 a5
  have hroot : ∀ x ∈ ents, eLess m x (ents.getD 0 (0, 0)) = false := by
    intro x hx
    obtain ⟨k, hk, rfl⟩ := List.getElem_of_mem hx
    have := heap_root (eLess_ord hm) hh k hk
    simpa [List.getD, hk] using this
  have hvn : st.vals.getD i 0 ≠ mNone m := by
    intro e
    rw [e, bet_none hm a3 a4] at a5
    cases a5
  have hok : okN m st.vals st.done i = true := by
    unfold okN
    rw [hd, decide_eq_false hvn]; rfl
  have hv : (ents.getD 0 (0, 0)).2 = st.vals.getD i 0 := by
    have h1 := hroot _ (hw.has i a2 hok)
    unfold eLess at h1
    split at h1
    · rename_i e; exact e.symm
    · exact le_anti hm h1 a5
  refine ⟨⟨a2, hok, fun j hj hjo => ?_⟩, hv⟩
  have h1 := hroot _ (hw.has j hj hjo)
  rw [show ents.getD 0 (0, 0) = ((i : Int), st.vals.getD i 0) from Prod.ext hi hv] at h1
  exact h1
theorem waits_skip {m : Int} {N : Nat} {st : St} {ents ents' : List En} (hw : Waits m N st ents) {i : Nat} (hi : (ents.getD 0 (0, 0)).1 = i) (hd : st.done.getD i true = true) (h1 : ∀ x, (x ∈ ents' → x ∈ ents) ∧ (x ∈ ents → x = ents.getD 0 (0, 0) ∨ x ∈ ents')) : Waits m N st ents' := by
  refine ⟨fun j hj hok => ?_, fun x hx => hw.ok x ((h1 x).1 hx)⟩
  rcases (h1 _).2 (hw.has j hj hok) with h | h
  · have : (j : Int) = i := by rw [← hi, ← h]
    have hji : j = i := by omega
    subst hji
    unfold okN at hok
    rw [hd] at hok
    simp at hok
  · exact h
theorem getD_set_b (done : List Bool) (i j : Nat) (h : j < done.length) : (done.set i true).getD j true = if i = j then true else done.getD j true := by
  unfold List.getD
  rw [List.getElem?_set]
  by_cases e : i = j
  · rw [if_pos e, if_pos e, if_pos (show i < done.length by omega)]; rfl
  · rw [if_neg e, if_neg e]
theorem waits_mark {m : Int} {N : Nat} {st : St} {ents ents' : List En} (hs : StOk m N st) (hw : Waits m N st ents) {i : Nat} (hi : (ents.getD 0 (0, 0)).1 = i) (h1 : ∀ x, (x ∈ ents' → x ∈ ents) ∧ (x ∈ ents → x = ents.getD 0 (0, 0) ∨ x ∈ ents')) : Waits m N (stMark i st) ents' := by
  refine ⟨fun j hj hok => ?_, fun x hx => hw.ok x ((h1 x).1 hx)⟩
  have hij : ¬ i = j := by
    intro e
    subst e
    unfold okN stMark at hok
    simp only at hok
    rw [getD_set_b _ _ _ (by rw [hs.done]; exact hj), if_pos rfl] at hok
    simp at hok
  have hok2 : okN m st.vals st.done j = true := by
    unfold okN stMark at hok
    simp only at hok
    rw [getD_set_b _ _ _ (by rw [hs.done]; exact hj), if_neg hij] at hok
    exact hok
  rcases (h1 _).2 (hw.has j hj hok2) with h | h
  · have : (j : Int) = i := by rw [← hi, ← h]
    omega
  · exact h
theorem waits_take {m : Int} {N : Nat} {st : St} {ents ents' : List En} (hm : mKind m = true) (hs : StOk m N st) (hw : Waits m N st ents) {e : Ed} (he1 : e.1.toNat < N) (he2 : 0 ≤ e.2.1 ∧ e.2.1.toNat < N) (hwt : mWeight e.2.2 = true) (hb : stBetter m st e = true) (h1 : ∀ x, x ∈ ents' ↔ x ∈ ents ∨ x = (e.2.1, vGive m st.vals e)) : Waits m N (stTake m st e) ents' := by
  have hgi := give_in hm hs.all (by rw [hs.vals]; exact he1) hwt
  unfold stBetter at hb
  have hvi := hs.all e.2.1.toNat (by rw [hs.vals]; exact he2.2)
  have hgn : vGive m st.vals e ≠ mNone m := by
    intro h
    rw [h, none_worst hvi] at hb
    cases hb
  constructor
  · intro i hi hok
    have hg : (st.vals.set e.2.1.toNat (vGive m st.vals e)).getD i 0 = if e.2.1.toNat = i then vGive m st.vals e else st.vals.getD i 0 := getD_set _ _ _ _ (by rw [hs.vals]; exact hi)
    unfold okN stTake at hok
    simp only at hok
    show ((i : Int), (st.vals.set e.2.1.toNat (vGive m st.vals e)).getD i 0) ∈ ents'
    rw [hg] at hok ⊢
    by_cases h : e.2.1.toNat = i
    · rw [if_pos h]
      rw [h1]
      exact .inr (Prod.ext (by simp only; omega) rfl)
    · rw [if_neg h] at hok ⊢
      rw [h1]
      exact .inl (hw.has i hi hok)
  · intro x hx
    have hgo : ∀ i, i < N → (st.vals.set e.2.1.toNat (vGive m st.vals e)).getD i 0 = if e.2.1.toNat = i then vGive m st.vals e else st.vals.getD i 0 := fun i hi => getD_set _ _ _ _ (by rw [hs.vals]; exact hi)
    rcases (h1 x).1 hx with h | h
    · obtain ⟨⟨a1, a2⟩, a3, a4, a5⟩ := hw.ok x h
      refine ⟨⟨a1, a2⟩, a3, a4, ?_⟩
      show mBet m x.2 ((st.vals.set e.2.1.toNat (vGive m st.vals e)).getD x.1.toNat 0) = false
      rw [hgo _ a2]
      split
      · rename_i hh
        rw [← hh] at a5
        exact le_trans' hm (lt_le hm hb) a5
      · exact a5
    · subst h
      refine ⟨he2, hgi, hgn, ?_⟩
      show mBet m (vGive m st.vals e) ((st.vals.set e.2.1.toNat (vGive m st.vals e)).getD e.2.1.toNat 0) = false
      rw [hgo _ he2.2, if_pos rfl]
      exact le_refl' hm
theorem waits_tick {m : Int} {N : Nat} {st : St} {ents : List En} (h : Waits m N st ents) : Waits m N (stTick st) ents := ⟨h.has, h.ok⟩
theorem okN_lt {m : Int} {vals : List Int} {done : List Bool} {i : Nat} (h : okN m vals done i = true) : done.getD i true = false := by
  unfold okN at h
  rw [Bool.and_eq_true] at h
  simpa using h.1
theorem waits_end {m : Int} {N : Nat} {st : St} (hm : mKind m = true) (hs : StOk m N st) (h : Waits m N st []) : nxF m st.vals st.done = -1 := by
  refine nxF_none hm (fun i hi => ?_)
  cases hk : okN m st.vals st.done i with
  | false => rfl
  | true => have := h.has i (by rw [← hs.vals]; exact hi) hk; simp at this
end Go.Proofs.Ytbhhbhopogkmnaa
namespace Go.Proofs.Ytbhhbhopogkmnaa
open Go.RowKit Go.BigFrame Go.Deep
set_option linter.unusedVariables false
set_option linter.unusedSimpArgs false

/-- A block of integers, or of truth values, at whose beginning a list lies. -/
def IR (w : World) (b : Nat) (zs : List Int) : Prop := ∃ cur, w.heap[b]? = some (.cells cur 3 (0, 0)) ∧ ∀ i, i < zs.length → cur[i]? = some (.int .i64 (zs.getD i 0))
def BR (w : World) (b : Nat) (bs : List Bool) : Prop := ∃ cur, w.heap[b]? = some (.cells cur 4 (0, 0)) ∧ ∀ i, i < bs.length → cur[i]? = some (.bool (bs.getD i true))
section
variable {w w' : World} {b X i : Nat} {zs : List Int} {bs : List Bool} {u : Value}
theorem IR.lt (h : IR w b zs) : b < w.heap.size := by obtain ⟨cur, h1, _⟩ := h; exact (Array.getElem?_eq_some_iff.1 h1).1
theorem IR.cell (h : IR w b zs) (hi : i < zs.length) : w.cell? ⟨b, i, none⟩ = some (.int .i64 (zs.getD i 0)) ∧ w.frozen? ⟨b, i, none⟩ = false := by
  obtain ⟨cur, h1, h2⟩ := h
  exact ⟨by simp [World.cell?, h1, h2 i hi], by simp [World.frozen?, h1]⟩
theorem IR.row (h : IR w b zs) (cap : Nat) : Row w (.slice (some ⟨b, 0, none⟩) zs.length cap) zs :=
  ⟨_, cap, rfl, .inr ⟨b, 0, rfl, h.lt, fun i hi => by rw [Nat.zero_add]; exact (h.cell hi).1⟩⟩
theorem IR.keep (h : IR w b zs) (k : Below w.heap.size w w') : IR w' b zs := by
  obtain ⟨cur, h1, h2⟩ := h
  exact ⟨cur, (k.block b (Array.getElem?_eq_some_iff.1 h1).1).trans h1, h2⟩
theorem IR.other (h : IR w b zs) (hne : b ≠ X) : IR (w.setCell ⟨X, i, none⟩ u) b zs := by
  obtain ⟨cur, h1, h2⟩ := h
  exact ⟨cur, (Below.heap_setCell w ⟨X, i, none⟩ u b hne).trans h1, h2⟩
theorem IR.set (h : IR w b zs) (hi : i < zs.length) (x : Int) : IR (w.setCell ⟨b, i, none⟩ (.int .i64 x)) b (zs.set i x) := by
  obtain ⟨cur, h1, h2⟩ := h
  refine ⟨cur.setIfInBounds i (.int .i64 x), by simp [World.setCell, Array.getElem?_modify, h1], fun j hj => ?_⟩
  rw [List.length_set] at hj
  have hc : i < cur.size := by
    have := h2 i hi
    exact (Array.getElem?_eq_some_iff.1 this).1
  rw [getD_set _ _ _ _ hj, Array.getElem?_setIfInBounds]
  by_cases e : i = j
  · rw [if_pos e, if_pos e, if_pos hc]
  · rw [if_neg e, if_neg e]; exact h2 j hj
theorem IR.cha {A : TypeId → Prop} {base : Nat} (h : IR w b zs) (c : ChaT A base w w') (hA : ¬ A 3) : IR w' b zs := by
  obtain ⟨cur, h1, h2⟩ := h
  refine ⟨cur, ?_, h2⟩
  rw [c.block b (Array.getElem?_eq_some_iff.1 h1).1 (fun ⟨_, cs', t', ht, hh⟩ => ?_)]
  · exact h1
  · rw [h1] at hh
    simp at hh
    exact hA (hh.2 ▸ ht)
theorem IR.ne {B : Nat} {t : TypeId} {cs : Array Value} (h : IR w b zs) (k : Box w B t cs) (ht : t ≠ 3) : B ≠ b := by
  intro e
  obtain ⟨cur, h1, _⟩ := h
  unfold Box at k
  rw [e, h1] at k
  simp at k
  exact ht k.2.symm
theorem BR.lt (h : BR w b bs) : b < w.heap.size := by obtain ⟨cur, h1, _⟩ := h; exact (Array.getElem?_eq_some_iff.1 h1).1
theorem BR.cell (h : BR w b bs) (hi : i < bs.length) : w.cell? ⟨b, i, none⟩ = some (.bool (bs.getD i true)) ∧ w.frozen? ⟨b, i, none⟩ = false := by
  obtain ⟨cur, h1, h2⟩ := h
  exact ⟨by simp [World.cell?, h1, h2 i hi], by simp [World.frozen?, h1]⟩
theorem BR.keep (h : BR w b bs) (k : Below w.heap.size w w') : BR w' b bs := by
  obtain ⟨cur, h1, h2⟩ := h
  exact ⟨cur, (k.block b (Array.getElem?_eq_some_iff.1 h1).1).trans h1, h2⟩
theorem BR.other (h : BR w b bs) (hne : b ≠ X) : BR (w.setCell ⟨X, i, none⟩ u) b bs := by
  obtain ⟨cur, h1, h2⟩ := h
  exact ⟨cur, (Below.heap_setCell w ⟨X, i, none⟩ u b hne).trans h1, h2⟩
theorem BR.set (h : BR w b bs) (hi : i < bs.length) : BR (w.setCell ⟨b, i, none⟩ (.bool true)) b (bs.set i true) := by
  obtain ⟨cur, h1, h2⟩ := h
  refine ⟨cur.setIfInBounds i (.bool true), by simp [World.setCell, Array.getElem?_modify, h1], fun j hj => ?_⟩
  rw [List.length_set] at hj
  have hc : i < cur.size := (Array.getElem?_eq_some_iff.1 (h2 i hi)).1
  rw [getD_set_b _ _ _ hj, Array.getElem?_setIfInBounds]
  by_cases e : i = j
  · rw [if_pos e, if_pos e, if_pos hc]
  · rw [if_neg e, if_neg e]; exact h2 j hj
theorem BR.cha {A : TypeId → Prop} {base : Nat} (h : BR w b bs) (c : ChaT A base w w') (hA : ¬ A 4) : BR w' b bs := by
  obtain ⟨cur, h1, h2⟩ := h
  refine ⟨cur, ?_, h2⟩
  rw [c.block b (Array.getElem?_eq_some_iff.1 h1).1 (fun ⟨_, cs', t', ht, hh⟩ => ?_)]
  · exact h1
  · rw [h1] at hh
    simp at hh
    exact hA (hh.2 ▸ ht)
theorem BR.ne {B : Nat} {t : TypeId} {cs : Array Value} (h : BR w b bs) (k : Box w B t cs) (ht : t ≠ 4) : B ≠ b := by
  intro e
  obtain ⟨cur, h1, _⟩ := h
  unfold Box at k
  rw [e, h1] at k
  simp at k
  exact ht k.2.symm
theorem IR.neB (h : IR w b zs) (k : BR w X bs) : b ≠ X := by
  intro e
  obtain ⟨cur, h1, _⟩ := h
  obtain ⟨cur2, h2, _⟩ := k
  rw [← e, h1] at h2
  simp at h2
end
theorem own_set_ne {w : World} {base sz n X i : Nat} {e : TypeId} {v u : Value} {xs : List Value} (h : w.ownsRow base e sz v n xs) (hne : v.ownBlock ≠ some X) : (w.setCell ⟨X, i, none⟩ u).ownsRow base e sz v n xs :=
  h.kept (row := some X) ⟨rfl, rfl, rfl, by simp, fun k hk hkn => Below.heap_setCell w ⟨X, i, none⟩ u k (fun e => hkn (by simp only at e; rw [e]))⟩ (.inr hne)
theorem own_ne {w : World} {base sz n X : Nat} {e t : TypeId} {v : Value} {xs : List Value} {cs : Array Value} (h : w.ownsRow base e sz v n xs) (hX : w.heap[X]? = some (.cells cs t (0, 0))) (hne : e ≠ t) : v.ownBlock ≠ some X := by
  intro hv
  rcases h.2 with ⟨rfl, _⟩ | ⟨g, cap, cur, rfl, _, hgg, _⟩
  · simp [Value.ownBlock] at hv
  · simp [Value.ownBlock] at hv
    subst hv
    rw [hX] at hgg
    simp at hgg
    exact hne hgg.2.symm
theorem own_ne_lo {w : World} {base sz n X : Nat} {e : TypeId} {v : Value} {xs : List Value} (h : w.ownsRow base e sz v n xs) (hX : X < base) : v.ownBlock ≠ some X := by
  intro hv
  have := (h.lt X hv).1
  omega
theorem own_cha {A : TypeId → Prop} {base lo : Nat} {w w' : World} {e : TypeId} {u : Value} {sz k : Nat} {xs : List Value} (h : ChaT A base w w') (ho : w.ownsRow lo e sz u k xs) (hA : ¬ A e) : w'.ownsRow lo e sz u k xs := by
  refine ⟨ho.1, ?_⟩
  rcases ho.2 with h0 | ⟨g, cap, cur, rfl, hbg, hgg, rest⟩
  · exact .inl h0
  · refine .inr ⟨g, cap, cur, rfl, hbg, ?_, rest⟩
    rw [h.block g (Array.getElem?_eq_some_iff.1 hgg).1 (fun ⟨hb, cs', t', ht, hh⟩ => ?_)]
    · exact hgg
    · rw [hgg] at hh
      simp at hh
      exact hA (hh.2 ▸ ht)
/-- The types that a search changes. -/
def AS (t : TypeId) : Prop := AF t ∨ t = 3 ∨ t = 4
theorem af_int : ¬ AF 3 := by unfold AF; decide
theorem af_bool : ¬ AF 4 := by unfold AF; decide
/-- A search in memory. -/
structure SInv (W0 : World) (B : Nat) (m : Int) (N : Nat) (s : Value) (st : St) (ents : List En) (P cp V cv S cs lo : Nat) (w : World) (ov ev : Value) : Prop where
  fro : Fro w W0.heap.size B ov (.slice (some ⟨P, 0, none⟩) N cp) (.slice (some ⟨V, 0, none⟩) N cv) (.int .i64 st.looks) (opsV m) s (.slice (some ⟨S, 0, none⟩) N cs) (opsV m) ev ents
  own : w.ownsRow lo 3 1 ov st.ord.length (st.ord.map (Value.int .i64))
  par : IR w P st.par
  vals : IR w V st.vals
  done : BR w S st.done
  ne : P ≠ V
  hlo : P < lo ∧ V < lo ∧ lo ≤ w.heap.size
  hb : W0.heap.size ≤ P ∧ W0.heap.size ≤ V ∧ W0.heap.size ≤ S ∧ W0.heap.size ≤ lo
  bel : Below W0.heap.size W0 w
  ok : StOk m N st
section
variable {W0 : World} {B : Nat} {m : Int} {N : Nat} {s : Value} {st : St} {ents : List En} {P cp V cv S cs lo : Nat} {w w' : World} {ov ev : Value}
theorem SInv.keep (h : SInv W0 B m N s st ents P cp V cv S cs lo w ov ev) (b : Below w.heap.size w w') : SInv W0 B m N s st ents P cp V cv S cs lo w' ov ev :=
  ⟨h.fro.keep b, own_keep h.own b, h.par.keep b, h.vals.keep b, h.done.keep b, h.ne, ⟨h.hlo.1, h.hlo.2.1, Nat.le_trans h.hlo.2.2 b.size⟩, h.hb, bel_trans h.bel b, h.ok⟩
theorem SInv.cells (h : SInv W0 B m N s st ents P cp V cv S cs lo w ov ev) : (w.cell? ⟨B, 0, none⟩ = some ov ∧ w.cell? ⟨B, 1, none⟩ = some (.slice (some ⟨P, 0, none⟩) N cp) ∧ w.cell? ⟨B, 2, none⟩ = some (.slice (some ⟨V, 0, none⟩) N cv) ∧ w.cell? ⟨B, 3, none⟩ = some (.int .i64 st.looks) ∧ w.cell? ⟨B, 4, none⟩ = some (opsV m) ∧ w.cell? ⟨B, 5, none⟩ = some s ∧ w.cell? ⟨B, 6, none⟩ = some (.slice (some ⟨S, 0, none⟩) N cs)) ∧ B < w.heap.size :=
  ⟨⟨by simpa using h.fro.box.cell 0, by simpa using h.fro.box.cell 1, by simpa using h.fro.box.cell 2, by simpa using h.fro.box.cell 3, by simpa using h.fro.box.cell 4, by simpa using h.fro.box.cell 5, by simpa using h.fro.box.cell 6⟩, h.fro.box.lt⟩
end
set_option maxRecDepth 20000 in
set_option maxHeartbeats 4000000 in
theorem reach {W0 : World} {B : Nat} {m : Int} {N : Nat} {s : Value} {st : St} {ents : List En} {P cp V cv S cs lo : Nat} {w : World} {ov ev : Value} (hm : mKind m = true) (h : SInv W0 B m N s st ents P cp V cv S cs lo w ov ev) (hl : ents.length ≤ 1000000) (hh : hOk m ents.length ents) {i : Nat} (hi : i < N) (x p : Int) (hx : mIn m x = true) :
    Calls Try.prog 101 #[.pointer (some ⟨B, 0, none⟩), .int .i64 i, .int .i64 x, .int .i64 p] w fun e w' => e = .returned (.tuple #[]) ∧ (∃ ents' ev', SInv W0 B m N s { st with vals := st.vals.set i x, par := st.par.set i p } ents' P cp V cv S cs lo w' ov ev' ∧ ents'.length = ents.length + 1 ∧ hOk m ents'.length ents' ∧ ∀ y, y ∈ ents' ↔ y ∈ ents ∨ y = ((i : Int), x)) ∧ ChaT AS W0.heap.size w w' := by
  obtain ⟨⟨x0, x1, x2, x3, x4, x5, x6⟩, hB⟩ := h.cells
  obtain ⟨v0, v1⟩ := h.vals.cell (i := i) (by rw [h.ok.vals]; exact hi)
  obtain ⟨p0, p1⟩ := h.par.cell (i := i) (by rw [h.ok.par]; exact hi)
  have hi' : (i : Int) < N := by omega
  have nBV := h.vals.ne h.fro.box (by decide)
  have nBP := h.par.ne h.fro.box (by decide)
  have h2 : SInv W0 B m N s { st with vals := st.vals.set i x, par := st.par.set i p } ents P cp V cv S cs lo ((w.setCell ⟨V, i, none⟩ (.int .i64 x)).setCell ⟨P, i, none⟩ (.int .i64 p)) ov ev := by
    obtain ⟨cv0, hv0, _⟩ := id h.vals
    obtain ⟨cp0, hp0, _⟩ := id h.par
    have hn1 := own_ne h.fro.own hv0 (by decide)
    have hn2 := own_ne h.fro.own hp0 (by decide)
    have hn3 := own_ne_lo h.own h.hlo.2.1
    have hn4 := own_ne_lo h.own h.hlo.1
    refine ⟨⟨(h.fro.box.setOther nBV _ _).setOther nBP _ _, own_set_ne (own_set_ne h.fro.own hn1) hn2, h.fro.hB, by simpa using h.fro.hb⟩, own_set_ne (own_set_ne h.own hn3) hn4, ?_, ?_, (h.done.other (fun e => h.vals.neB h.done e.symm)).other (fun e => h.par.neB h.done e.symm), h.ne, by simpa using h.hlo, h.hb, (h.bel.setCell h.hb.2.1 _).setCell h.hb.1 _, ⟨by simp [h.ok.par], by simp [h.ok.vals], h.ok.done, ?_⟩⟩
    · exact (h.par.other h.ne).set (by rw [h.ok.par]; exact hi) p
    · exact (h.vals.set (by rw [h.ok.vals]; exact hi) x).other (fun e => h.ne e.symm)
    · intro j hj
      simp only [List.length_set] at hj
      rw [getD_set _ _ _ _ hj]
      split
      · exact hx
      · exact h.ok.all j hj
  have hc2 : ChaT AS W0.heap.size w ((w.setCell ⟨V, i, none⟩ (.int .i64 x)).setCell ⟨P, i, none⟩ (.int .i64 p)) := by
    obtain ⟨cv0, hv0, _⟩ := id h.vals
    obtain ⟨cp0, hp0, _⟩ := h.par.other (i := i) (u := .int .i64 x) h.ne
    exact (ChaT.set hv0 h.hb.2.1 (.inr (.inl rfl)) i _).trans (ChaT.set hp0 h.hb.1 (.inr (.inl rfl)) i _)
  have hpu := heapPush hm h2.fro hl hh (i : Int) x
  have H2 := Lib.hid (And.intro h2 hc2)
  have HPU := Lib.hid hpu
  have q0 : (w.setCell ⟨V, i, none⟩ (.int .i64 x)).cell? ⟨B, 1, none⟩ = some (.slice (some ⟨P, 0, none⟩) N cp) := by
    have := (h.fro.box.setOther nBV i (.int .i64 x)).cell 1
    simpa using this
  have q1 : (w.setCell ⟨V, i, none⟩ (.int .i64 x)).cell? ⟨P, i, none⟩ = some (.int .i64 (st.par.getD i 0)) := ((h.par.other (i := i) (u := .int .i64 x) h.ne).cell (by rw [h.ok.par]; exact hi)).1
  have q2 : (w.setCell ⟨V, i, none⟩ (.int .i64 x)).frozen? ⟨P, i, none⟩ = false := ((h.par.other (i := i) (u := .int .i64 x) h.ne).cell (by rw [h.ok.par]; exact hi)).2
  clear h h2 hc2 hpu
  go_enter Try.func101, Try.ntmps101
  go_wp2_with fail
  refine (HPU.out).mono ?_
  rintro e w2 ⟨rfl, ⟨ev', es', hf, hn, hh2, hi2⟩, hc⟩
  have H3 := Lib.hid (And.intro hf (And.intro hn (And.intro hh2 (And.intro hi2 hc))))
  clear hf hn hh2 hi2 hc q0 q1 q2
  go_wp2
  go_end0
  obtain ⟨hf, hn, hh2, hi2, hc⟩ := H3.out
  obtain ⟨h2, hc2⟩ := H2.out
  refine ⟨rfl, ⟨es', ev', ?_, hn, hh2, hi2⟩, hc2.trans (hc.mono (fun t ht => .inl ht))⟩
  exact ⟨hf, own_cha hc h2.own af_int, h2.par.cha hc af_int, h2.vals.cha hc af_int, h2.done.cha hc af_bool, h2.ne, ⟨h2.hlo.1, h2.hlo.2.1, Nat.le_trans h2.hlo.2.2 hc.size⟩, h2.hb, hc.bel h2.fro.hb (Nat.le_refl _) h2.bel, h2.ok⟩

/-- A search in memory, whose heap holds what waits. -/
structure FInv (W0 : World) (B : Nat) (m : Int) (N : Nat) (s : Value) (st : St) (ents : List En) (P cp V cv S cs lo : Nat) (w : World) (ov ev : Value) : Prop where
  inv : SInv W0 B m N s st ents P cp V cv S cs lo w ov ev
  heap : hOk m ents.length ents
  wait : Waits m N st ents
theorem FInv.keep {W0 : World} {B : Nat} {m : Int} {N : Nat} {s : Value} {st : St} {ents : List En} {P cp V cv S cs lo : Nat} {w w' : World} {ov ev : Value} (h : FInv W0 B m N s st ents P cp V cv S cs lo w ov ev) (b : Below w.heap.size w w') : FInv W0 B m N s st ents P cp V cv S cs lo w' ov ev := ⟨h.inv.keep b, h.heap, h.wait⟩
set_option maxRecDepth 20000 in
set_option maxHeartbeats 8000000 in
theorem follow {W0 : World} {B : Nat} {m : Int} {N : Nat} {s : Value} {st : St} {ents : List En} {P cp V cv S cs lo : Nat} {w : World} {ov ev : Value} (hm : mKind m = true) (h : FInv W0 B m N s st ents P cp V cv S cs lo w ov ev) (hl : ents.length ≤ 1000000) {F T : Nat} {z : Int} (hF : F < N) (hT : T < N) (hz : mWeight z = true) (hN : N ≤ 1048576) :
    Calls Try.prog 125 #[.pointer (some ⟨B, 0, none⟩), .agg #[.int .i64 F, .int .i64 T, .int .i64 z]] w fun e w' => e = .returned (.tuple #[]) ∧ (∃ ents' ev', FInv W0 B m N s (stFollow m st ((F : Int), (T : Int), z)) ents' P cp V cv S cs lo w' ov ev' ∧ ents'.length ≤ ents.length + 1) ∧ ChaT AS W0.heap.size w w' := by
  obtain ⟨⟨x0, x1, x2, x3, x4, x5, x6⟩, hB⟩ := h.inv.cells
  obtain ⟨Tt, rv, fn, fe, fb, fo, fj, rn, re, rb, ro, rj, D⟩ := disp hm
  have hval := D.val
  have hn1 := D.mb.run
  have hn2 := D.mb.ahead
  have hn3 := D.mb.enter
  obtain ⟨G, hG⟩ : ∃ G, G = vGive m st.vals ((F : Int), (T : Int), z) := ⟨_, rfl⟩
  obtain ⟨Z, hZ⟩ : ∃ Z, Z = st.vals.getD T 0 := ⟨_, rfl⟩
  have HC := Lib.hid (D.cb G Z)
  clear D
  have hb0 : Below w.heap.size w (w.alloc (.cells #[.int .i64 F, .int .i64 T, .int .i64 z] 49)) := (Below.refl _ _).alloc (Nat.le_refl _) _
  have K0 := Lib.hid (And.intro hb0 (Box.new w 49 #[.int .i64 F, .int .i64 T, .int .i64 z]))
  have hev := fun w' (hb : Below w.heap.size w w') => edgeValue m st.vals (.slice (some ⟨V, 0, none⟩) N cv) F T z w' hm (by have := (h.inv.vals.keep hb).row cv; rw [h.inv.ok.vals] at this; exact this) (by rw [h.inv.ok.vals]; exact hF) (by rw [h.inv.ok.vals]; omega) h.inv.ok.all hz
  rw [hval, ← hG] at hev
  have HEV := Lib.hid hev
  have fx : ∀ w', Below w.heap.size w w' → Box w' w.heap.size 49 #[.int .i64 F, .int .i64 T, .int .i64 z] → w'.cell? ⟨B, 2, none⟩ = some (.slice (some ⟨V, 0, none⟩) N cv) ∧ w'.cell? ⟨B, 4, none⟩ = some (.iface Tt rv) ∧ w'.cell? ⟨V, T, none⟩ = some (.int .i64 Z) ∧ w'.cell? ⟨w.heap.size, 0, none⟩ = some (.int .i64 F) ∧ w'.cell? ⟨w.heap.size, 1, none⟩ = some (.int .i64 T) ∧ w'.cell? ⟨w.heap.size, 2, none⟩ = some (.int .i64 z) := by
    intro w' hb hbx
    refine ⟨(hb.cell (p := ⟨B, _, none⟩) hB).trans x2, ?_, ?_, by simpa using hbx.cell 0, by simpa using hbx.cell 1, by simpa using hbx.cell 2⟩
    · rw [← hval]; exact (hb.cell (p := ⟨B, _, none⟩) hB).trans x4
    · rw [hZ]; exact (hb.cell (p := ⟨V, _, none⟩) h.inv.vals.lt).trans (h.inv.vals.cell (by rw [h.inv.ok.vals]; exact hT)).1
  have FX := Lib.hid fx
  have hGi : mIn m G = true := by rw [hG]; exact give_in hm h.inv.ok.all (by simp only [Int.toNat_natCast]; rw [h.inv.ok.vals]; exact hF) hz
  have hbe : stBetter m st ((F : Int), (T : Int), z) = mBet m G Z := by unfold stBetter; rw [← hG, hZ, Int.toNat_natCast]
  have HH := Lib.hid h
  have HG := Lib.hid hG
  have HVAL := Lib.hid hval
  have hT' : (T : Int) < N := by omega
  clear h hb0 hev fx hval x0 x1 x2 x3 x4 x5 x6 hG hZ
  unfold stFollow
  rw [hbe]
  have HBE := Lib.hid hbe
  clear hbe
  generalize mBet m G Z = Bb at HC HBE ⊢
  cases Bb
  · rw [if_neg (by decide)]
    go_enter Try.func125, Try.ntmps125
    go_wp2_with fail
    generalize (w.alloc (.cells #[.int .i64 F, .int .i64 T, .int .i64 z] 49)) = w0 at K0 ⊢
    refine wp_region_below (by kernel_rfl) (by kernel_rfl) ?_
    repeat (go_big_quiet_step ((intro hw; first | with_reducible rfl | (obtain ⟨f0, f1, f2, f3, f4, f5⟩ := FX.out _ (bel_trans K0.out.1 hw) (K0.out.2.keep hw); simp only [f0, f1, f2, f3, f4, f5, Result.andThen]; first | exact ⟨trivial, rfl⟩ | exact ⟨rfl, rfl⟩) | (go_at_call 110; with_reducible exact quietB (HEV.out _ (bel_trans K0.out.1 hw)) hw))))
    refine wpQuiet_nil ?_
    intro w1 hw1
    have K1 := Lib.hid (And.intro (bel_trans K0.out.1 hw1) (K0.out.2.keep hw1))
    clear hw1
    go_wp2_with fail
    refine wp_region_below (by kernel_rfl) (by kernel_rfl) ?_
    repeat (go_big_quiet_step ((intro hw; first | with_reducible rfl | (obtain ⟨f0, f1, f2, f3, f4, f5⟩ := FX.out _ (bel_trans K1.out.1 hw) (K1.out.2.keep hw); simp only [f0, f1, f2, f3, f4, f5, Result.andThen]; first | exact ⟨trivial, rfl⟩ | exact ⟨rfl, rfl⟩) | (with_reducible exact quietB (HC.out _) hw))))
    refine wpQuiet_nil ?_
    intro w2 hw2
    have K2 := Lib.hid (And.intro (bel_trans K1.out.1 hw2) (K1.out.2.keep hw2))
    clear hw2
    go_wp2
    go_end0
    exact ⟨rfl, ⟨ents, ev, HH.out.keep K2.out.1, Nat.le_succ _⟩, ChaT.of_below K2.out.1⟩
  · rw [if_pos rfl]
    have hre := fun w' (hb : Below w.heap.size w w') => reach hm (HH.out.inv.keep hb) hl HH.out.heap hT G (F : Int) hGi
    have HRE := Lib.hid hre
    clear hre
    go_enter Try.func125, Try.ntmps125
    go_wp2_with fail
    generalize (w.alloc (.cells #[.int .i64 F, .int .i64 T, .int .i64 z] 49)) = w0 at K0 ⊢
    refine wp_region_below (by kernel_rfl) (by kernel_rfl) ?_
    repeat (go_big_quiet_step ((intro hw; first | with_reducible rfl | (obtain ⟨f0, f1, f2, f3, f4, f5⟩ := FX.out _ (bel_trans K0.out.1 hw) (K0.out.2.keep hw); simp only [f0, f1, f2, f3, f4, f5, Result.andThen]; first | exact ⟨trivial, rfl⟩ | exact ⟨rfl, rfl⟩) | (go_at_call 110; with_reducible exact quietB (HEV.out _ (bel_trans K0.out.1 hw)) hw))))
    refine wpQuiet_nil ?_
    intro w1 hw1
    have K1 := Lib.hid (And.intro (bel_trans K0.out.1 hw1) (K0.out.2.keep hw1))
    clear hw1
    go_wp2_with fail
    refine wp_region_below (by kernel_rfl) (by kernel_rfl) ?_
    repeat (go_big_quiet_step ((intro hw; first | with_reducible rfl | (obtain ⟨f0, f1, f2, f3, f4, f5⟩ := FX.out _ (bel_trans K1.out.1 hw) (K1.out.2.keep hw); simp only [f0, f1, f2, f3, f4, f5, Result.andThen]; first | exact ⟨trivial, rfl⟩ | exact ⟨rfl, rfl⟩) | (with_reducible exact quietB (HC.out _) hw))))
    refine wpQuiet_nil ?_
    intro w2 hw2
    have K2 := Lib.hid (And.intro (bel_trans K1.out.1 hw2) (K1.out.2.keep hw2))
    clear hw2
    obtain ⟨y0, y1, y2, y3, y4, y5⟩ := FX.out _ K2.out.1 K2.out.2
    go_wp2_with (go_at_call 101; (with_reducible refine (HRE.out _ K2.out.1).mono ?_); rintro e w3 ⟨rfl, ⟨ents', ev', hinv, hlen, hheap, hmem⟩, hch⟩)
    go_end0
    refine ⟨rfl, ⟨ents', ev', ⟨?_, hheap, ?_⟩, by omega⟩, (ChaT.of_below K2.out.1).trans hch⟩
    · have e : stTake m st ((F : Int), (T : Int), z) = { st with vals := st.vals.set T G, par := st.par.set T (F : Int) } := by unfold stTake; rw [← HG.out]; rfl
      rw [e]; exact hinv
    · exact waits_take hm HH.out.inv.ok HH.out.wait (by simpa using hF) ⟨by simp, by simpa using hT⟩ hz HBE.out (fun y => by rw [hmem y, ← HG.out])
end Go.Proofs.Ytbhhbhopogkmnaa
namespace Go.Proofs.Ytbhhbhopogkmnaa
open Go.RowKit Go.BigFrame Go.Deep
set_option linter.unusedVariables false
set_option linter.unusedSimpArgs false

theorem stLook_looks (m at' : Int) (st : St) (e : Ed) : st.looks ≤ (stLook m at' st e).looks ∧ (stLook m at' st e).looks ≤ st.looks + 1 := by
  unfold stLook stFollow stTake stTick
  split
  · split <;> simp only <;> omega
  · omega
theorem stScan_looks (m at' : Int) : ∀ (es : List Ed) (st : St), st.looks ≤ (stScan m at' es st).looks ∧ (stScan m at' es st).looks ≤ st.looks + es.length
  | [], st => by simp [stScan]
  | e :: es, st => by
    have h1 := stLook_looks m at' st e
    have h2 := stScan_looks m at' es (stLook m at' st e)
    show st.looks ≤ (stScan m at' es (stLook m at' st e)).looks ∧ (stScan m at' es (stLook m at' st e)).looks ≤ _
    simp only [List.length_cons]
    omega
theorem SInv.tick {W0 : World} {B : Nat} {m : Int} {N : Nat} {s : Value} {st : St} {ents : List En} {P cp V cv S cs lo : Nat} {w : World} {ov ev : Value} (h : SInv W0 B m N s st ents P cp V cv S cs lo w ov ev) : SInv W0 B m N s (stTick st) ents P cp V cv S cs lo (w.setCell ⟨B, 3, none⟩ (.int .i64 (st.looks + 1))) ov ev ∧ ChaT AS W0.heap.size w (w.setCell ⟨B, 3, none⟩ (.int .i64 (st.looks + 1))) := by
  have nV := h.vals.ne h.fro.box (by decide)
  have nP := h.par.ne h.fro.box (by decide)
  have nS := h.done.ne h.fro.box (by decide)
  have hb := h.fro.box
  refine ⟨⟨⟨h.fro.box.set 3 _, own_set_ne h.fro.own (own_ne h.fro.own hb (by decide)), h.fro.hB, by simpa using h.fro.hb⟩, own_set_ne h.own (own_ne h.own hb (by decide)), h.par.other (fun e => nP e.symm), h.vals.other (fun e => nV e.symm), h.done.other (fun e => nS e.symm), h.ne, by simpa using h.hlo, h.hb, h.bel.setCell h.fro.hB _, stTick_ok h.ok⟩, ChaT.set hb h.fro.hB (.inl (.inl rfl)) 3 _⟩
set_option maxRecDepth 20000 in
set_option maxHeartbeats 8000000 in
theorem lookFrom {W0 : World} {B : Nat} {m : Int} {N : Nat} {s : Value} {st : St} {ents : List En} {P cp V cv S cs lo : Nat} {w : World} {ov ev : Value} {es : List Ed} (hm : mKind m = true) (h : FInv W0 B m N s st ents P cp V cv S cs lo w ov ev) (hs : RowE W0 s es) (he : eAll N es) (hl : ents.length + es.length ≤ 1000000) (hk0 : 0 ≤ st.looks) (hk1 : st.looks + es.length ≤ 1000000) (a : Nat) (hN : N ≤ 1048576) :
    Calls Try.prog 116 #[.pointer (some ⟨B, 0, none⟩), .int .i64 a] w fun e w' => e = .returned (.tuple #[]) ∧ (∃ ents' ev', FInv W0 B m N s (stScan m a es st) ents' P cp V cv S cs lo w' ov ev' ∧ ents'.length ≤ ents.length + es.length) ∧ ChaT AS W0.heap.size w w' := by
  obtain ⟨sa, sc, rfl, hs2⟩ := id hs
  clear hs2
  obtain ⟨⟨x0, x1, x2, x3, x4, x5, x6⟩, hB⟩ := h.inv.cells
  have HS := Lib.hid hs
  have HE := Lib.hid he
  have HH := Lib.hid h
  clear hs he h x0 x1 x2 x3 x4 x6
  go_enter Try.func116, Try.ntmps116
  go_wp2
  go_loopw [11] (fun c wr => ∃ (k : Nat) (en : List En) (ev' : Value), k ≤ es.length ∧ c = .int .i64 k ∧ Hid (FInv W0 B m N (.slice sa es.length sc) (stScan m a (es.take k) st) en P cp V cv S cs lo wr ov ev' ∧ en.length ≤ ents.length + k ∧ ChaT AS W0.heap.size w wr)) (fun c _ => es.length - (intOf c).toNat)
  case atStart => exact ⟨0, ents, ev, Nat.zero_le _, rfl, Lib.hid ⟨HH.out, Nat.le_refl _, ChaT.refl _ _ _⟩⟩
  case round =>
    obtain ⟨k, en, ev', hk, rfl, HI⟩ := hrel
    by_cases hlt : k < es.length
    · have hlt' : (k : Int) < es.length := by omega
      obtain ⟨sb, so, sc2, hse, hsb, hsc⟩ := rowE_atB HS.out hlt
      injection hse with hsa _ hsc2
      subst hsa hsc2
      obtain ⟨⟨y0, y1, y2, y3, y4, y5, y6⟩, hBr⟩ := HI.out.1.inv.cells
      have hst := stScan_snoc m a es st hlt
      have hlk := stScan_looks m a (es.take k) st
      rw [List.length_take] at hlk
      obtain ⟨q, hq⟩ : ∃ q, q = stScan m a (es.take k) st := ⟨_, rfl⟩
      rw [← hq] at hst hlk
      have hI := HI.out
      rw [← hq] at hI y3
      have HI2 := Lib.hid hI
      obtain ⟨x, y, z, hx⟩ : ∃ x y z, (x, y, z) = es.getD k (0, 0, 0) := ⟨_, _, _, rfl⟩
      have hee := HE.out _ (List.getElem_mem hlt)
      rw [show es[k] = es.getD k (0, 0, 0) by simp [List.getD, hlt]] at hee
      have h1 := hsc k hlt
      rw [← hx] at h1 hee hst
      simp only at h1 hee
      obtain ⟨X, rfl⟩ : ∃ X : Nat, x = X := ⟨x.toNat, by omega⟩
      obtain ⟨Y, rfl⟩ : ∃ Y : Nat, y = Y := ⟨y.toNat, by omega⟩
      obtain ⟨⟨_, hX⟩, ⟨_, hY⟩, hz⟩ := hee
      rw [Int.toNat_natCast] at hX hY
      have c0 := (hI.1.inv.bel.cell (p := ⟨sb, so + k * 3, none⟩) hsb).trans h1.1
      have c1 := (hI.1.inv.bel.cell (p := ⟨sb, so + k * 3 + 1, none⟩) hsb).trans h1.2.1
      have c2 := (hI.1.inv.bel.cell (p := ⟨sb, so + k * 3 + 2, none⟩) hsb).trans h1.2.2
      obtain ⟨Dn, hDn⟩ : ∃ d, d = q.done.getD Y true := ⟨_, rfl⟩
      have hd0 := (hI.1.inv.done.cell (i := Y) (by rw [hI.1.inv.ok.done]; exact hY)).1
      rw [← hDn] at hd0
      have hY' : (Y : Int) < N := by omega
      have hb0 : Below wr.heap.size wr (wr.alloc (.cells #[.int .i64 X, .int .i64 Y, .int .i64 z] 49)) := (Below.refl _ _).alloc (Nat.le_refl _) _
      have KE := Lib.hid (And.intro hb0 (Box.new wr 49 #[.int .i64 X, .int .i64 Y, .int .i64 z]))
      have fx : ∀ w', Below wr.heap.size wr w' → Box w' wr.heap.size 49 #[.int .i64 X, .int .i64 Y, .int .i64 z] → w'.cell? ⟨B, 3, none⟩ = some (.int .i64 q.looks) ∧ w'.cell? ⟨B, 6, none⟩ = some (.slice (some ⟨S, 0, none⟩) N cs) ∧ w'.cell? ⟨S, Y, none⟩ = some (.bool Dn) ∧ w'.cell? ⟨wr.heap.size, 0, none⟩ = some (.int .i64 X) ∧ w'.cell? ⟨wr.heap.size, 1, none⟩ = some (.int .i64 Y) ∧ w'.cell? ⟨wr.heap.size, 2, none⟩ = some (.int .i64 z) :=
        fun w' hb hbx => ⟨(hb.cell (p := ⟨B, _, none⟩) hBr).trans y3, (hb.cell (p := ⟨B, _, none⟩) hBr).trans y6, (hb.cell (p := ⟨S, _, none⟩) hI.1.inv.done.lt).trans hd0, by simpa using hbx.cell 0, by simpa using hbx.cell 1, by simpa using hbx.cell 2⟩
      have FX := Lib.hid fx
      have HQ := Lib.hid hq
      have HX := Lib.hid hx
      have HDN := Lib.hid hDn
      have HST := Lib.hid hst
      have hq0 : 0 ≤ q.looks := by omega
      have hq1 : q.looks ≤ 1000000 := by omega
      clear h1 hsc hq hx hDn hst hI HI hb0 fx hd0 y0 y1 y2 y3 y4 y5 y6 hlk
      by_cases hxa : X = a
      · subst hxa
        have d1 : ((X : Int) == X) = true := by simp
        cases Dn
        · have HLK : Hid (stLook m (X : Int) q ((X : Int), (Y : Int), z) = stFollow m (stTick q) ((X : Int), (Y : Int), z)) := Lib.hid (by
            unfold stLook
            rw [if_pos]
            unfold isLook
            simp only [Int.toNat_natCast]
            rw [← HDN.out]
            simp)
          go_wp2_with fail
          generalize (wr.alloc (.cells #[.int .i64 X, .int .i64 Y, .int .i64 z] 49)) = w1 at KE ⊢
          refine wp_region_below (by kernel_rfl) (by kernel_rfl) ?_
          repeat (go_big_quiet_step ((intro hw; first | with_reducible rfl | (obtain ⟨f0, f1, f2, f3, f4, f5⟩ := FX.out _ (bel_trans KE.out.1 hw) (KE.out.2.keep hw); simp only [f0, f1, f2, f3, f4, f5, Result.andThen]; first | exact ⟨trivial, rfl⟩ | exact ⟨rfl, rfl⟩))))
          refine wpQuiet_nil ?_
          intro w2 hw2
          have K2 := Lib.hid (And.intro (bel_trans KE.out.1 hw2) (KE.out.2.keep hw2))
          clear hw2
          obtain ⟨y0, y1, y2, y3, y4, y5⟩ := FX.out _ K2.out.1 K2.out.2
          have f3 : w2.frozen? ⟨B, 3, none⟩ = false := ((HI2.out.1.keep K2.out.1).inv.fro.box).frozen 3
          have htick := (HI2.out.1.keep K2.out.1).inv.tick
          have hft : FInv W0 B m N (.slice (some ⟨sb, so, none⟩) es.length sc) (stTick q) en P cp V cv S cs lo (w2.setCell ⟨B, 3, none⟩ (.int .i64 (q.looks + 1))) ov ev' := ⟨htick.1, HI2.out.1.heap, waits_tick HI2.out.1.wait⟩
          have hfo := follow hm hft (by have := HI2.out.2.1; omega) (F := X) (T := Y) (z := z) hX hY hz hN
          have HFO := Lib.hid hfo
          have HTK := Lib.hid htick.2
          have nBE : wr.heap.size ≠ B := by omega
          have e0 : (w2.setCell ⟨B, 3, none⟩ (.int .i64 (q.looks + 1))).cell? ⟨wr.heap.size, 0, none⟩ = some (.int .i64 X) := by simpa using (K2.out.2.setOther nBE 3 (.int .i64 (q.looks + 1))).cell 0
          have e1 : (w2.setCell ⟨B, 3, none⟩ (.int .i64 (q.looks + 1))).cell? ⟨wr.heap.size, 1, none⟩ = some (.int .i64 Y) := by simpa using (K2.out.2.setOther nBE 3 (.int .i64 (q.looks + 1))).cell 1
          have e2 : (w2.setCell ⟨B, 3, none⟩ (.int .i64 (q.looks + 1))).cell? ⟨wr.heap.size, 2, none⟩ = some (.int .i64 z) := by simpa using (K2.out.2.setOther nBE 3 (.int .i64 (q.looks + 1))).cell 2
          clear htick hft hfo
          go_wp2_with (go_at_call 125; (with_reducible refine (HFO.out).mono ?_); rintro e w3 ⟨rfl, ⟨en3, ev3, hf3, hn3⟩, hc3⟩)
          go_roundw
          case rel =>
            have hrel2 : Hid (FInv W0 B m N (.slice (some ⟨sb, so, none⟩) es.length sc) (stScan m (X : Int) (es.take (k + 1)) st) en3 P cp V cv S cs lo w3 ov ev3 ∧ en3.length ≤ ents.length + (k + 1) ∧ ChaT AS W0.heap.size w w3) := Lib.hid (by
              obtain ⟨i1, i2, i3⟩ := HI2.out
              rw [HST.out, HLK.out]
              exact ⟨hf3, by omega, ((i3.trans (ChaT.of_below K2.out.1)).trans HTK.out).trans hc3⟩)
            first | exact ⟨k + 1, en3, ev3, by omega, by go_num, hrel2⟩ | ((repeat apply Exists.intro); exact ⟨⟨k + 1, en3, ev3, by omega, by go_num, hrel2⟩, rfl⟩)
          case measure => simp [intOf]; omega
        · have HNL : Hid (stLook m (X : Int) q ((X : Int), (Y : Int), z) = q) := Lib.hid (by
            unfold stLook
            rw [if_neg]
            unfold isLook
            simp only [Int.toNat_natCast]
            rw [← HDN.out]
            simp)
          go_wp2_with fail
          generalize (wr.alloc (.cells #[.int .i64 X, .int .i64 Y, .int .i64 z] 49)) = w1 at KE ⊢
          refine wp_region_below (by kernel_rfl) (by kernel_rfl) ?_
          repeat (go_big_quiet_step ((intro hw; first | with_reducible rfl | (obtain ⟨f0, f1, f2, f3, f4, f5⟩ := FX.out _ (bel_trans KE.out.1 hw) (KE.out.2.keep hw); simp only [f0, f1, f2, f3, f4, f5, Result.andThen]; first | exact ⟨trivial, rfl⟩ | exact ⟨rfl, rfl⟩))))
          refine wpQuiet_nil ?_
          intro w2 hw2
          have K2 := Lib.hid (And.intro (bel_trans KE.out.1 hw2) (KE.out.2.keep hw2))
          clear hw2
          obtain ⟨y0, y1, y2, y3, y4, y5⟩ := FX.out _ K2.out.1 K2.out.2
          go_wp2
          go_roundw
          case rel =>
            have hrel2 : Hid (FInv W0 B m N (.slice (some ⟨sb, so, none⟩) es.length sc) (stScan m (X : Int) (es.take (k + 1)) st) en P cp V cv S cs lo w2 ov ev' ∧ en.length ≤ ents.length + (k + 1) ∧ ChaT AS W0.heap.size w w2) := Lib.hid (by
              obtain ⟨i1, i2, i3⟩ := HI2.out
              rw [HST.out, HNL.out]
              exact ⟨i1.keep K2.out.1, by omega, i3.trans (ChaT.of_below K2.out.1)⟩)
            first | exact ⟨k + 1, en, ev', by omega, by go_num, hrel2⟩ | ((repeat apply Exists.intro); exact ⟨⟨k + 1, en, ev', by omega, by go_num, hrel2⟩, rfl⟩)
          case measure => simp [intOf]; omega
      · have d1 : ((X : Int) == (a : Int)) = false := by simp; omega
        have HNL : Hid (stLook m (a : Int) q ((X : Int), (Y : Int), z) = q) := Lib.hid (by
          unfold stLook
          rw [if_neg]
          unfold isLook
          rw [decide_eq_false (show ¬ ((X : Int) = (a : Int)) by omega)]
          simp)
        have HXA := Lib.hid hxa
        clear hxa
        go_wp2_with fail
        generalize (wr.alloc (.cells #[.int .i64 X, .int .i64 Y, .int .i64 z] 49)) = w1 at KE ⊢
        refine wp_region_below (by kernel_rfl) (by kernel_rfl) ?_
        repeat (go_big_quiet_step ((intro hw; first | with_reducible rfl | (obtain ⟨f0, f1, f2, f3, f4, f5⟩ := FX.out _ (bel_trans KE.out.1 hw) (KE.out.2.keep hw); simp only [f0, f1, f2, f3, f4, f5, Result.andThen]; first | exact ⟨trivial, rfl⟩ | exact ⟨rfl, rfl⟩))))
        refine wpQuiet_nil ?_
        intro w2 hw2
        have K2 := Lib.hid (And.intro (bel_trans KE.out.1 hw2) (KE.out.2.keep hw2))
        clear hw2
        obtain ⟨y0, y1, y2, y3, y4, y5⟩ := FX.out _ K2.out.1 K2.out.2
        go_wp2
        go_roundw
        case rel =>
          have hrel2 : Hid (FInv W0 B m N (.slice (some ⟨sb, so, none⟩) es.length sc) (stScan m a (es.take (k + 1)) st) en P cp V cv S cs lo w2 ov ev' ∧ en.length ≤ ents.length + (k + 1) ∧ ChaT AS W0.heap.size w w2) := Lib.hid (by
            obtain ⟨i1, i2, i3⟩ := HI2.out
            rw [HST.out, HNL.out]
            exact ⟨i1.keep K2.out.1, by omega, i3.trans (ChaT.of_below K2.out.1)⟩)
          first | exact ⟨k + 1, en, ev', by omega, by go_num, hrel2⟩ | ((repeat apply Exists.intro); exact ⟨⟨k + 1, en, ev', by omega, by go_num, hrel2⟩, rfl⟩)
        case measure => simp [intOf]; omega
    · have hke : k = es.length := by omega
      have hkk : ¬ ((k : Int) < es.length) := by omega
      have HKE := Lib.hid hke
      clear hke
      go_wp2
      go_end0
      obtain ⟨i1, i2, i3⟩ := HI.out
      rw [HKE.out, List.take_length] at i1
      first | exact ⟨rfl, ⟨en, ⟨ev', i1⟩, by rw [← HKE.out]; exact i2⟩, i3⟩ | exact ⟨rfl, ⟨en, ev', i1, by rw [← HKE.out]; exact i2⟩, i3⟩

theorem SInv.fro2 {W0 : World} {B : Nat} {m : Int} {N : Nat} {s : Value} {st : St} {ents ents' : List En} {P cp V cv S cs lo : Nat} {w w' : World} {ov ev ev' : Value} (h2 : SInv W0 B m N s st ents P cp V cv S cs lo w ov ev) (hc : ChaT AF W0.heap.size w w')
    (hf : Fro w' W0.heap.size B ov (.slice (some ⟨P, 0, none⟩) N cp) (.slice (some ⟨V, 0, none⟩) N cv) (.int .i64 st.looks) (opsV m) s (.slice (some ⟨S, 0, none⟩) N cs) (opsV m) ev' ents') : SInv W0 B m N s st ents' P cp V cv S cs lo w' ov ev' :=
  ⟨hf, own_cha hc h2.own af_int, h2.par.cha hc af_int, h2.vals.cha hc af_int, h2.done.cha hc af_bool, h2.ne, ⟨h2.hlo.1, h2.hlo.2.1, Nat.le_trans h2.hlo.2.2 hc.size⟩, h2.hb, hc.bel h2.fro.hb (Nat.le_refl _) h2.bel, h2.ok⟩
theorem SInv.settle {W0 : World} {B : Nat} {m : Int} {N : Nat} {s : Value} {st : St} {ents : List En} {P cp V cv S cs lo : Nat} {w : World} {ov ev : Value} (h : SInv W0 B m N s st ents P cp V cv S cs lo w ov ev) {i : Nat} (hi : i < N) : SInv W0 B m N s { st with done := st.done.set i true } ents P cp V cv S cs lo (w.setCell ⟨S, i, none⟩ (.bool true)) ov ev ∧ ChaT AS W0.heap.size w (w.setCell ⟨S, i, none⟩ (.bool true)) := by
  have nS := h.done.ne h.fro.box (by decide)
  obtain ⟨c0, hc0, _⟩ := id h.done
  refine ⟨⟨⟨h.fro.box.setOther nS _ _, own_set_ne h.fro.own (own_ne h.fro.own hc0 (by decide)), h.fro.hB, by simpa using h.fro.hb⟩, own_set_ne h.own (own_ne h.own hc0 (by decide)), h.par.other (h.par.neB h.done), h.vals.other (h.vals.neB h.done), h.done.set (by rw [h.ok.done]; exact hi), h.ne, by simpa using h.hlo, h.hb, h.bel.setCell h.hb.2.2.1 _, ⟨h.ok.par, h.ok.vals, by simp [h.ok.done], h.ok.all⟩⟩, ChaT.set hc0 h.hb.2.2.1 (.inr (.inr rfl)) i _⟩
theorem own_ne_own {w : World} {b1 b2 s1 s2 n1 n2 : Nat} {e1 e2 : TypeId} {v1 v2 : Value} {x1 x2 : List Value} (h : w.ownsRow b1 e1 s1 v1 n1 x1) (k : w.ownsRow b2 e2 s2 v2 n2 x2) (hne : e1 ≠ e2) : v1.ownBlock = none ∨ v1.ownBlock ≠ v2.ownBlock := by
  rcases h.2 with ⟨rfl, _⟩ | ⟨g, cap, cur, rfl, _, hgg, _⟩
  · exact .inl rfl
  · refine .inr (fun e => ?_)
    have : v2.ownBlock ≠ some g := own_ne k hgg (fun e => hne e.symm)
    exact this (by rw [← e]; rfl)
/-- The order has grown. -/
theorem SInv.order {W0 : World} {B : Nat} {m : Int} {N : Nat} {s : Value} {st : St} {ents : List En} {P cp V cv S cs lo : Nat} {w w6 : World} {ov ev v' : Value} (h : SInv W0 B m N s st ents P cp V cv S cs lo w ov ev) {x : Int} (hg : w.grownBy w6 ov.ownBlock) (ho : w6.ownsRow lo 3 1 v' (st.ord.length + 1) (st.ord.map (Value.int .i64) ++ [.int .i64 x])) :
    SInv W0 B m N s { st with ord := st.ord ++ [x] } ents P cp V cv S cs lo (w6.setCell ⟨B, 0, none⟩ v') v' ev ∧ ChaT AS W0.heap.size w (w6.setCell ⟨B, 0, none⟩ v') := by
  have hbx : Box w6 B 145 (sC ov (.slice (some ⟨P, 0, none⟩) N cp) (.slice (some ⟨V, 0, none⟩) N cv) (.int .i64 st.looks) (opsV m) s (.slice (some ⟨S, 0, none⟩) N cs) (opsV m) ev) := h.fro.box.grown hg h.own (by decide)
  have hge : w6.ownsRow W0.heap.size 178 2 ev ents.length (cellsN ents) := h.fro.own.kept hg (own_ne_own h.fro.own h.own (by decide))
  have hir : ∀ {b : Nat} {zs : List Int}, IR w b zs → b < lo → IR w6 b zs := by
    intro b zs hb hl
    obtain ⟨cur, h1, h2⟩ := hb
    exact ⟨cur, (hg.block b (Array.getElem?_eq_some_iff.1 h1).1 (fun e => own_ne_lo h.own hl e.symm)).trans h1, h2⟩
  have hd : BR w6 S st.done := by
    obtain ⟨cur, h1, h2⟩ := id h.done
    exact ⟨cur, (hg.block S (Array.getElem?_eq_some_iff.1 h1).1 (fun e => own_ne h.own h1 (by decide) e.symm)).trans h1, h2⟩
  have hP := hir h.par h.hlo.1
  have hV := hir h.vals h.hlo.2.1
  have nP := hP.ne hbx (by decide)
  have nV := hV.ne hbx (by decide)
  have nS := hd.ne hbx (by decide)
  have hsz := hg.size
  have hbel : Below W0.heap.size W0 w6 := h.bel.grown hg h.fro.hb (fun q hq => by have := (h.own.lt q hq).1; have := h.hb.2.2.2; omega)
  have hch : ChaT AS W0.heap.size w w6 := by
    have h0 := ChaT.of_grown (A := AS) (base := lo) hg h.own (.inr (.inl rfl))
    refine ⟨h0.os, h0.tape, h0.output, h0.size, fun k hk hn => h0.block k hk (fun ⟨hb, r⟩ => hn ⟨Nat.le_trans h.hb.2.2.2 hb, r⟩)⟩
  refine ⟨⟨⟨hbx.set 0 _, own_set_ne hge (own_ne hge hbx (by decide)), h.fro.hB, by simp; have := h.fro.hb; omega⟩, ?_, hP.other (fun e => nP e.symm), hV.other (fun e => nV e.symm), hd.other (fun e => nS e.symm), h.ne, ⟨h.hlo.1, h.hlo.2.1, by simp; have := h.hlo.2.2; omega⟩, h.hb, hbel.setCell h.fro.hB _, ⟨h.ok.par, h.ok.vals, h.ok.done, h.ok.all⟩⟩, hch.trans (ChaT.set hbx h.fro.hB (.inl (.inl rfl)) 0 _)⟩
  have h1 := own_set_ne (i := 0) (u := v') ho (own_ne ho hbx (by decide))
  simpa using h1

/-- How many elements a slice in a cell has. -/
def lenAt (B o : Nat) (w : World) : Nat := match w.cell? ⟨B, o, none⟩ with | some (.slice _ n _) => n | _ => 0
theorem lenAt_of {B o n c : Nat} {a : Option Addr} {w : World} (h : w.cell? ⟨B, o, none⟩ = some (.slice a n c)) : lenAt B o w = n := by unfold lenAt; rw [h]
/-- What the next step of a search answers. -/
def NextR (W0 : World) (B : Nat) (m : Int) (N : Nat) (s : Value) (st : St) (P cp V cv S cs lo : Nat) (bnd : Nat) (w' : World) (i : Int) (ok : Bool) : Prop :=
  (ok = false ∧ i = 0 ∧ nxF m st.vals st.done = -1 ∧ ∃ ov ev, FInv W0 B m N s st [] P cp V cv S cs lo w' ov ev) ∨
  (ok = true ∧ ∃ k : Nat, i = k ∧ k < N ∧ nxF m st.vals st.done = k ∧ st.done.getD k true = false ∧ ∃ ents ov ev, FInv W0 B m N s (stMark k st) ents P cp V cv S cs lo w' ov ev ∧ ents.length ≤ bnd)
/-- A search's next step, as it ends. -/
def NextE (W0 : World) (B : Nat) (m : Int) (N : Nat) (s : Value) (st : St) (P cp V cv S cs lo : Nat) (bnd : Nat) (e : Ending) (w' : World) : Prop := ∃ i ok, e = .returned (.tuple #[.int .i64 i, .bool ok]) ∧ NextR W0 B m N s st P cp V cv S cs lo bnd w' i ok
set_option maxRecDepth 20000 in
set_option maxHeartbeats 8000000 in
theorem settleNext {W0 : World} {B : Nat} {m : Int} {N : Nat} {s : Value} {st : St} {ents : List En} {P cp V cv S cs lo : Nat} {w : World} {ov ev : Value} (hm : mKind m = true) (h : FInv W0 B m N s st ents P cp V cv S cs lo w ov ev) (hl : ents.length ≤ 1000000) (hN : N ≤ 1048576) (ho : st.ord.length ≤ 1000000) :
    Calls Try.prog 115 #[.pointer (some ⟨B, 0, none⟩)] w fun e w' => NextE W0 B m N s st P cp V cv S cs lo ents.length e w' ∧ ChaT AS W0.heap.size w w' := by
  have HH := Lib.hid h
  clear h
  go_enter Try.func115, Try.ntmps115
  go_wp2
  go_loopw [] (fun wr => ∃ (en : List En) (ev' : Value), Hid (FInv W0 B m N s st en P cp V cv S cs lo wr ov ev' ∧ en.length ≤ ents.length ∧ ChaT AS W0.heap.size w wr)) (fun wr => lenAt B 8 wr)
  case atStart => exact ⟨ents, ev, Lib.hid ⟨HH.out, Nat.le_refl _, ChaT.refl _ _ _⟩⟩
  case round =>
    obtain ⟨en, ev', HI⟩ := hrel
    have hle := frLen HI.out.1.inv.fro
    obtain ⟨⟨y0, y1, y2, y3, y4, y5, y6⟩, hB⟩ := HI.out.1.inv.cells
    cases hen : en with
    | nil =>
      rw [hen] at hle
      have HLE := Lib.hid hle
      have HEN := Lib.hid hen
      clear hle hen
      go_wp2_with (go_at_call 123; (with_reducible refine (HLE.out).mono ?_); rintro e w1 ⟨rfl, hb1⟩)
      go_ret2
      obtain ⟨i1, i2, i3⟩ := HI.out
      rw [HEN.out] at i1
      exact ⟨⟨0, false, rfl, .inl ⟨rfl, rfl, waits_end hm i1.inv.ok i1.wait, ov, ev', i1.keep hb1⟩⟩, i3.trans (ChaT.of_below hb1)⟩
    | cons e0 en0 =>
      obtain ⟨n, hn⟩ : ∃ n, en.length = n + 1 := ⟨en0.length, by rw [hen]; rfl⟩
      clear hen
      have h0 : 0 < en.length := by omega
      rw [hn] at hle
      have hpo := fun w' (hb : Below wr.heap.size wr w') => heapPop hm (HI.out.1.inv.fro.keep hb) hn (by have := HI.out.2.1; omega) HI.out.1.heap
      have hmem : en.getD 0 (0, 0) ∈ en := by
        rw [show en.getD 0 (0, 0) = en[0] by simp [List.getD, h0]]; exact List.getElem_mem h0
      obtain ⟨⟨a1, a2⟩, a3, a4, a5⟩ := HI.out.1.wait.ok _ hmem
      obtain ⟨i, hi⟩ : ∃ i : Nat, (en.getD 0 (0, 0)).1 = i := ⟨(en.getD 0 (0, 0)).1.toNat, by omega⟩
      obtain ⟨v, hv⟩ : ∃ v, v = (en.getD 0 (0, 0)).2 := ⟨_, rfl⟩
      rw [hi, Int.toNat_natCast] at a2
      rw [hi, ← hv] at hpo
      have hi' : (i : Int) < N := by omega
      have HLE := Lib.hid hle
      have HPO := Lib.hid hpo
      have HN := Lib.hid hn
      have HMI := Lib.hid (And.intro hi hv)
      have hn9 : n ≤ 1000000 := by have := HI.out.2.1; omega
      have hta := assert_reached
      obtain ⟨D, hD⟩ : ∃ D, D = st.done.getD i true := ⟨_, rfl⟩
      have HDD := Lib.hid hD
      have hgt : decide ((n : Int) + 1 > 0) = true := decide_eq_true (by omega)
      clear hle hpo hn hmem a1 a3 a4 a5 hi hv y0 y1 y2 y3 y4 y5 y6 hD h0
      cases D
      rotate_left
      · go_wp2_with (first | (go_at_call 123; (with_reducible refine (HLE.out).mono ?_); rintro e w1 ⟨rfl, hb1⟩) | (go_at_call 124; (with_reducible refine (HPO.out _ hb1).mono ?_); rintro e w2 ⟨rfl, ⟨ev2, en2, hf2, hl2, hh2, hm2⟩, hc2⟩))
        have hb3 : Below w2.heap.size w2 (w2.alloc (.cells #[.int .i64 i, .int .i64 v] 178)) := (Below.refl _ _).alloc (Nat.le_refl _) _
        have KE := Lib.hid (And.intro hb3 (Box.new w2 178 #[.int .i64 i, .int .i64 v]))
        have hS2 : SInv W0 B m N s st en2 P cp V cv S cs lo w2 ov ev2 := (HI.out.1.inv.keep hb1).fro2 hc2 hf2
        have hc2' : ChaT AS W0.heap.size wr w2 := (ChaT.of_below hb1).trans (hc2.mono (fun t ht => .inl ht))
        have H2 := Lib.hid (And.intro hS2 (And.intro hl2 (And.intro hh2 (And.intro hm2 hc2'))))
        obtain ⟨⟨y0, y1, y2, y3, y4, y5, y6⟩, hBr⟩ := hS2.cells
        have hd0 := (hS2.done.cell (i := i) (by rw [hS2.ok.done]; exact a2)).1
        rw [← HDD.out] at hd0
        have fx : ∀ w', Below w2.heap.size w2 w' → Box w' w2.heap.size 178 #[.int .i64 i, .int .i64 v] → w'.cell? ⟨B, 6, none⟩ = some (.slice (some ⟨S, 0, none⟩) N cs) ∧ w'.cell? ⟨S, i, none⟩ = some (.bool true) ∧ w'.cell? ⟨w2.heap.size, 0, none⟩ = some (.int .i64 i) :=
          fun w' hb hbx => ⟨(hb.cell (p := ⟨B, _, none⟩) hBr).trans y6, (hb.cell (p := ⟨S, _, none⟩) hS2.done.lt).trans hd0, by simpa using hbx.cell 0⟩
        have FX := Lib.hid fx
        clear hb3 hS2 hf2 hl2 hh2 hm2 hc2 hc2' hb1 hd0 fx y0 y1 y2 y3 y4 y5 y6
        generalize (w2.alloc (.cells #[.int .i64 i, .int .i64 v] 178)) = w3 at KE ⊢
        refine wp_region_below (by kernel_rfl) (by kernel_rfl) ?_
        repeat (go_big_quiet_step ((intro hw; first | with_reducible rfl | (obtain ⟨f0, f1, f2⟩ := FX.out _ (bel_trans KE.out.1 hw) (KE.out.2.keep hw); simp only [f0, f1, f2, Result.andThen]; first | exact ⟨trivial, rfl⟩ | exact ⟨rfl, rfl⟩))))
        refine wpQuiet_nil ?_
        intro w4 hw4
        have K4 := Lib.hid (And.intro (bel_trans KE.out.1 hw4) (KE.out.2.keep hw4))
        clear hw4
        obtain ⟨y0, y1, y2⟩ := FX.out _ K4.out.1 K4.out.2
        go_wp2
        go_roundw
        case rel =>
          have hrel2 : Hid (FInv W0 B m N s st en2 P cp V cv S cs lo w4 ov ev2 ∧ en2.length ≤ ents.length ∧ ChaT AS W0.heap.size w w4) := Lib.hid (by
            obtain ⟨i1, i2, i3⟩ := HI.out
            obtain ⟨j1, j2, j3, j4, j5⟩ := H2.out
            refine ⟨⟨j1.keep K4.out.1, by rw [j2]; exact j3, waits_skip i1.wait HMI.out.1 HDD.out.symm j4⟩, by have := HN.out; omega, (i3.trans j5).trans (ChaT.of_below K4.out.1)⟩)
          first | exact ⟨en2, ev2, hrel2⟩ | ((repeat apply Exists.intro); exact ⟨⟨en2, ev2, hrel2⟩, rfl⟩)
        case measure =>
          obtain ⟨j1, j2, j3, j4, j5⟩ := H2.out
          obtain ⟨va1, vc1, hv1⟩ := HI.out.1.inv.fro.slice
          obtain ⟨va2, vc2, hv2⟩ := (j1.keep K4.out.1).fro.slice
          have e1 := lenAt_of (HI.out.1.inv.fro.cells.2.1.trans (by rw [hv1]))
          have e2 := lenAt_of ((j1.keep K4.out.1).fro.cells.2.1.trans (by rw [hv2]))
          have := HN.out
          omega
      go_wp2_with (first | (go_at_call 123; (with_reducible refine (HLE.out).mono ?_); rintro e w1 ⟨rfl, hb1⟩) | (go_at_call 124; (with_reducible refine (HPO.out _ hb1).mono ?_); rintro e w2 ⟨rfl, ⟨ev2, en2, hf2, hl2, hh2, hm2⟩, hc2⟩))
      have hb3 : Below w2.heap.size w2 (w2.alloc (.cells #[.int .i64 i, .int .i64 v] 178)) := (Below.refl _ _).alloc (Nat.le_refl _) _
      have KE := Lib.hid (And.intro hb3 (Box.new w2 178 #[.int .i64 i, .int .i64 v]))
      have hS2 : SInv W0 B m N s st en2 P cp V cv S cs lo w2 ov ev2 := (HI.out.1.inv.keep hb1).fro2 hc2 hf2
      have hc2' : ChaT AS W0.heap.size wr w2 := (ChaT.of_below hb1).trans (hc2.mono (fun t ht => .inl ht))
      have H2 := Lib.hid (And.intro hS2 (And.intro hl2 (And.intro hh2 (And.intro hm2 hc2'))))
      obtain ⟨⟨y0, y1, y2, y3, y4, y5, y6⟩, hBr⟩ := hS2.cells
      have hd0 := (hS2.done.cell (i := i) (by rw [hS2.ok.done]; exact a2)).1
      rw [← HDD.out] at hd0
      have fx : ∀ w', Below w2.heap.size w2 w' → Box w' w2.heap.size 178 #[.int .i64 i, .int .i64 v] → w'.cell? ⟨B, 6, none⟩ = some (.slice (some ⟨S, 0, none⟩) N cs) ∧ w'.cell? ⟨S, i, none⟩ = some (.bool false) ∧ w'.cell? ⟨w2.heap.size, 0, none⟩ = some (.int .i64 i) :=
        fun w' hb hbx => ⟨(hb.cell (p := ⟨B, _, none⟩) hBr).trans y6, (hb.cell (p := ⟨S, _, none⟩) hS2.done.lt).trans hd0, by simpa using hbx.cell 0⟩
      have FX := Lib.hid fx
      clear hb3 hS2 hf2 hl2 hh2 hm2 hc2 hc2' hb1 hd0 fx y0 y1 y2 y3 y4 y5 y6
      generalize (w2.alloc (.cells #[.int .i64 i, .int .i64 v] 178)) = w3 at KE ⊢
      refine wp_region_below (by kernel_rfl) (by kernel_rfl) ?_
      repeat (go_big_quiet_step ((intro hw; first | with_reducible rfl | (obtain ⟨f0, f1, f2⟩ := FX.out _ (bel_trans KE.out.1 hw) (KE.out.2.keep hw); simp only [f0, f1, f2, Result.andThen]; first | exact ⟨trivial, rfl⟩ | exact ⟨rfl, rfl⟩))))
      refine wpQuiet_nil ?_
      intro w4 hw4
      have K4 := Lib.hid (And.intro (bel_trans KE.out.1 hw4) (KE.out.2.keep hw4))
      clear hw4
      obtain ⟨y0, y1, y2⟩ := FX.out _ K4.out.1 K4.out.2
      have f0 : w4.frozen? ⟨S, i, none⟩ = false := ((H2.out.1.keep K4.out.1).done.cell (by rw [H2.out.1.ok.done]; exact a2)).2
      go_wp2_with fail
      go_region
      have hst := (H2.out.1.keep K4.out.1).settle (i := i) a2
      have hlt2 := H2.out.1.done.lt
      have nE : w2.heap.size ≠ S := by omega
      have nEB : w2.heap.size ≠ B := by have := H2.out.1.fro.box.lt; omega
      have H5 := Lib.hid (And.intro (hst.1.keep ((Below.refl _ _).drew)) (And.intro (hst.2.trans (ChaT.of_below ((Below.refl _ _).drew))) (Box.drew (K4.out.2.setOther nE i (.bool true)))))
      obtain ⟨oa, oc, hov⟩ := own_slice hst.1.own
      subst hov
      clear hst hlt2 y0 y1 y2
      go_wp2_with fail
      generalize (w4.setCell ⟨S, i, none⟩ (.bool true)).drew = w5 at H5 ⊢
      obtain ⟨i0, hi, hz0, hz1, hz2⟩ := info_parts info_int2
      have x0 : w5.cell? ⟨B, 0, none⟩ = some (.slice oa st.ord.length oc) := H5.out.1.cells.1.1
      have z0 : w5.cell? ⟨w2.heap.size, 0, none⟩ = some (.int .i64 i) := by simpa using H5.out.2.2.cell 0
      have hB5 := H5.out.1.fro.box.lt
      have hxg : ∀ A w6, World.grownBy ((w5.alloc A).drew) w6 (Value.slice oa st.ord.length oc).ownBlock → (w6.cell? ⟨B, 0, none⟩ = some (.slice oa st.ord.length oc) ∧ w6.frozen? ⟨B, 0, none⟩ = false) ∧ Box w6 w2.heap.size 178 #[.int .i64 i, .int .i64 v] := fun A w6 h => by
        have h1 := Box.grown (w := (w5.alloc A).drew) (H5.out.1.fro.box.alloc A) h (own_drew (H5.out.1.own.alloc A)) (by decide)
        have h2 := Box.grown (w := (w5.alloc A).drew) (H5.out.2.2.alloc A) h (own_drew (H5.out.1.own.alloc A)) (by decide)
        exact ⟨⟨by simpa using h1.cell 0, h1.frozen 0⟩, h2⟩
      have HXG := Lib.hid hxg
      have hlo5 : lo ≤ w5.heap.size := H5.out.1.hlo.2.2
      clear hxg
      go_region_law (first | (refine step_append_own rfl (.tmp 44) (.tmp 47) 23 rfl lo 3 i0 (.int .i64 0) 1 8 Try.underlying23 hi hz0 hz1 hz2 rfl (by decide) (.slice oa st.ord.length oc) st.ord.length (st.ord.map (Value.int .i64)) rfl (own_drew (H5.out.1.own.alloc _)) ⟨w5.heap.size, 0, none⟩ 1 1 [.int .i64 i] rfl rfl (cells_new1 _ _ _) (by simp [Value.oneCell']) (by unfold maxLen; omega) (by omega) (by simp; omega) ?_; intro v' w6 hown6 hgrow6; obtain ⟨va6, vc6, rfl⟩ := own_slice hown6; have HX6 := Lib.hid (HXG.out _ _ hgrow6); have x06 := HX6.out.1.1; have f06 := HX6.out.1.2))
      all_goals
        have z6 : (w6.setCell ⟨B, 0, none⟩ (.slice va6 (st.ord.length + 1) vc6)).cell? ⟨w2.heap.size, 0, none⟩ = some (.int .i64 i) := by simpa using (HX6.out.2.setOther nEB 0 (.slice va6 (st.ord.length + 1) vc6)).cell 0
        go_wp2
        go_ret2
        obtain ⟨i1, i2, i3⟩ := HI.out
        obtain ⟨j1, j2, j3, j4, j5⟩ := H2.out
        have hbA : Below w5.heap.size w5 ((w5.alloc (.cells #[.int .i64 (i : Int)] 3)).drew) := ((Below.refl _ _).alloc (Nat.le_refl _) _).drew
        have hor := (H5.out.1.keep hbA).order (x := (i : Int)) hgrow6 hown6
        have hmn := waits_min hm i1.inv.ok i1.wait (by have := HN.out; omega) i1.heap HMI.out.1 HDD.out.symm
        have hnx := nxF_min hm (by rw [i1.inv.ok.vals]; exact hmn.1)
        refine ⟨⟨(i : Int), true, rfl, .inr ⟨rfl, i, rfl, a2, hnx, HDD.out.symm, en2, _, ev2, ⟨hor.1, by rw [j2]; exact j3, waits_mark i1.inv.ok i1.wait HMI.out.1 j4⟩, by have := HN.out; omega⟩⟩, ?_⟩
        exact (((i3.trans j5).trans (ChaT.of_below K4.out.1)).trans H5.out.2.1).trans ((ChaT.of_below hbA).trans hor.2)
end Go.Proofs.Ytbhhbhopogkmnaa
namespace Go.Proofs.Ytbhhbhopogkmnaa
open Go.RowKit Go.BigFrame Go.Deep
set_option linter.unusedVariables false
set_option linter.unusedSimpArgs false

theorem stLook_ord (m at' : Int) (st : St) (e : Ed) : (stLook m at' st e).ord = st.ord := by
  unfold stLook stFollow stTake stTick
  split
  · split <;> rfl
  · rfl
theorem stScan_ord (m at' : Int) : ∀ (es : List Ed) (st : St), (stScan m at' es st).ord = st.ord
  | [], st => rfl
  | e :: es, st => (stScan_ord m at' es _).trans (stLook_ord m at' st e)
theorem stRun_stop {m target : Int} {es : List Ed} {f : Nat} {st : St} (h : nxF m st.vals st.done = -1) : stRun m target es (f + 1) st = st := by
  rw [stRun, if_pos (by rw [h]; omega)]
theorem stRun_hit {m : Int} {es : List Ed} {f : Nat} {st : St} {k : Nat} (h : nxF m st.vals st.done = k) : stRun m (k : Int) es (f + 1) st = stMark k st := by
  rw [stRun, if_neg (by rw [h]; omega), if_pos h, h, Int.toNat_natCast]
theorem stRun_go {m target : Int} {es : List Ed} {f : Nat} {st : St} {k : Nat} (h : nxF m st.vals st.done = k) (hne : ¬ (k : Int) = target) : stRun m target es (f + 1) st = stRun m target es f (stScan m k es (stMark k st)) := by
  rw [stRun, if_neg (by rw [h]; omega), if_neg (by rw [h]; exact hne), h, Int.toNat_natCast]
/-- The measure of the loop over all nodes. -/
def suM (K B : Nat) (d : Value) (w : World) : Nat := 2 * (K - lenAt B 0 w) + (match d with | .bool true => 1 | _ => 0)
theorem SInv.len {W0 : World} {B : Nat} {m : Int} {N : Nat} {s : Value} {st : St} {ents : List En} {P cp V cv S cs lo : Nat} {w : World} {ov ev : Value} (h : SInv W0 B m N s st ents P cp V cv S cs lo w ov ev) : lenAt B 0 w = st.ord.length := by
  obtain ⟨a, c, hov⟩ := own_slice h.own
  exact lenAt_of (h.cells.1.1.trans (by rw [hov]))
/-- Where a search stands ahead of a round. -/
structure SuI (W0 : World) (B : Nat) (m : Int) (N : Nat) (s : Value) (es : List Ed) (target : Int) (P cp V cv S cs lo : Nat) (K : Nat) (R : St) (w wr : World) (i : Int) (ok : Bool) (st : St) (f bnd : Nat) : Prop where
  nd : nd st.done ≤ f
  run : R = stRun m target es (f + 1) st
  next : NextR W0 B m N s st P cp V cv S cs lo bnd wr i ok
  looks : 0 ≤ st.looks ∧ st.looks ≤ 1000 + 40 * st.ord.length
  bnd : bnd ≤ 1000 + 40 * st.ord.length
  ord : st.ord.length + Go.Proofs.Ytbhhbhopogkmnaa.nd st.done = K
  cha : ChaT AS W0.heap.size w wr
set_option maxRecDepth 20000 in
set_option maxHeartbeats 8000000 in
theorem settleUntil {W0 : World} {B : Nat} {m : Int} {N : Nat} {s : Value} {st : St} {ents : List En} {P cp V cv S cs lo : Nat} {w : World} {ov ev : Value} {es : List Ed} (hm : mKind m = true) (h : FInv W0 B m N s st ents P cp V cv S cs lo w ov ev) (hs : RowE W0 s es) (he : eAll N es) (h40 : es.length ≤ 40) (hl : ents.length ≤ 1000) (hk0 : 0 ≤ st.looks) (hk1 : st.looks ≤ 1000) (hK : st.ord.length + nd st.done ≤ 1000) (target : Int) (hN : N ≤ 1048576) :
    Calls Try.prog 102 #[.pointer (some ⟨B, 0, none⟩), .int .i64 target] w fun e w' => e = .returned (.tuple #[]) ∧ (∃ ents' ov' ev', FInv W0 B m N s (stRun m target es (nd st.done + 1) st) ents' P cp V cv S cs lo w' ov' ev') ∧ ChaT AS W0.heap.size w w' := by
  obtain ⟨R, hR⟩ : ∃ R, R = stRun m target es (nd st.done + 1) st := ⟨_, rfl⟩
  rw [← hR]
  obtain ⟨K, hKK⟩ : ∃ K, K = st.ord.length + nd st.done := ⟨_, rfl⟩
  have hsn := settleNext hm h (by omega) hN (by omega)
  have HSN := Lib.hid hsn
  have HR := Lib.hid hR
  have HKK := Lib.hid hKK
  have HS := Lib.hid hs
  have HE := Lib.hid he
  have hK9 : K ≤ 1000 := by omega
  clear h hsn hR hs he hKK
  go_enter Try.func102, Try.ntmps102
  go_wp2_with (go_at_call 115; (with_reducible refine (HSN.out).mono ?_); rintro e w1 ⟨⟨i, ok, rfl, hnr⟩, hc1⟩; have H1 := Lib.hid (And.intro hnr hc1); clear hnr hc1)
  go_loopw [4, 5] (fun c d wr => ∃ (i : Int) (ok : Bool) (st1 : St) (f bnd : Nat), c = .int .i64 i ∧ d = .bool ok ∧ Hid (SuI W0 B m N s es target P cp V cv S cs lo K R w wr i ok st1 f bnd)) (fun _ d wr => suM K B d wr)
  case atStart => exact ⟨i, ok, st, nd st.done, ents.length, rfl, rfl, Lib.hid ⟨Nat.le_refl _, HR.out, H1.out.1, ⟨hk0, by omega⟩, by omega, HKK.out.symm, H1.out.2⟩⟩
  case round =>
    obtain ⟨i, ok, st1, f, bnd, rfl, rfl, HI⟩ := hrel
    rcases HI.out.next with ⟨rfl, rfl, hn1, ov1, ev1, hf1⟩ | ⟨rfl, k, rfl, hkN, hnx, hdk, en1, ov1, ev1, hf1, hb1⟩
    · have H2 := Lib.hid (And.intro hn1 hf1)
      clear hn1 hf1
      go_wp2
      go_end0
      have e1 := HI.out.run
      rw [stRun_stop H2.out.1] at e1
      rw [e1]
      exact ⟨rfl, ⟨_, _, _, H2.out.2⟩, HI.out.cha⟩
    · have H2 := Lib.hid (And.intro hnx (And.intro hdk (And.intro hf1 hb1)))
      have hndk := nd_set st1.done k hdk
      clear hnx hdk
      by_cases hkt : (k : Int) = target
      · have d1 : ((k : Int) != target) = false := by simp; exact hkt
        have HKT := Lib.hid hkt
        clear hkt hf1 hb1
        go_wp2
        go_end0
        have e1 := HI.out.run
        rw [← HKT.out, stRun_hit H2.out.1] at e1
        rw [e1]
        exact ⟨rfl, ⟨_, _, _, H2.out.2.2.1⟩, HI.out.cha⟩
      · have d1 : ((k : Int) != target) = true := by simpa using hkt
        have e1 := HI.out.run
        obtain ⟨f', rfl⟩ : ∃ f', f = f' + 1 := ⟨f - 1, by have := HI.out.nd; omega⟩
        rw [stRun_go H2.out.1 hkt] at e1
        have hlo := HI.out.looks
        have hbn := HI.out.bnd
        have hor := HI.out.ord
        have hlf := lookFrom hm hf1 HS.out HE.out (by omega) (by show 0 ≤ st1.looks; omega) (by show st1.looks + _ ≤ _; omega) k hN
        have hsn2 := fun (w' : World) (en2 : List En) (ev2 : Value) (hf2 : FInv W0 B m N s (stScan m k es (stMark k st1)) en2 P cp V cv S cs lo w' ov1 ev2) (hl2 : en2.length ≤ en1.length + es.length) => settleNext hm hf2 (by omega) hN (by rw [stScan_ord]; simp [stMark]; omega)
        have HLF := Lib.hid hlf
        have HSN2 := Lib.hid hsn2
        have HE1 := Lib.hid e1
        have HKT := Lib.hid hkt
        clear hlf hsn2 e1 hkt hf1 hlo
        go_wp2_with (first | (go_at_call 116; (with_reducible refine (HLF.out).mono ?_); rintro e w2 ⟨rfl, ⟨en2, ev2, hf2, hl2⟩, hc2⟩; have H3 := Lib.hid (And.intro hl2 hc2)) | (go_at_call 115; (with_reducible refine (HSN2.out _ _ _ hf2 hl2).mono ?_); rintro e w3 ⟨⟨i3, ok3, rfl, hnr3⟩, hc3⟩; have H4 := Lib.hid (And.intro hnr3 hc3); clear hnr3 hc3 hf2 hl2 hc2))
        have hord2 : (stScan m (k : Int) es (stMark k st1)).ord.length = st1.ord.length + 1 := by rw [stScan_ord]; simp [stMark]
        have hnd2 : nd (stScan m (k : Int) es (stMark k st1)).done + 1 = nd st1.done := by rw [stScan_done]; exact hndk
        have hlk2 := stScan_looks m (k : Int) es (stMark k st1)
        have hlk3 : (stMark k st1).looks = st1.looks := rfl
        have HSI : Hid (SuI W0 B m N s es target P cp V cv S cs lo K R w w3 i3 ok3 (stScan m (k : Int) es (stMark k st1)) f' en2.length) := Lib.hid (by
          have hI := HI.out
          have hlo := hI.looks
          have hb2 := H2.out.2.2.2
          refine ⟨by have := hI.nd; omega, HE1.out, H4.out.1, ?_, ?_, ?_, (hI.cha.trans H3.out.2).trans H4.out.2⟩
          · rw [hord2]; rw [hlk3] at hlk2; omega
          · rw [hord2]; have := H3.out.1; omega
          · rw [hord2]; have := hI.ord; omega)
        have hmeas : suM K B (.bool ok3) w3 < suM K B (.bool true) wr := by
          have h1 := H2.out.2.2.1.inv.len
          have hml : (stMark k st1).ord.length = st1.ord.length + 1 := by simp [stMark]
          rcases H4.out.1 with ⟨rfl, _, _, ov4, ev4, hf4⟩ | ⟨rfl, k4, _, _, _, hd4, en4, ov4, ev4, hf4, _⟩
          · have h2 := hf4.inv.len
            unfold suM
            rw [h1, h2, hml, hord2]
            simp only
            omega
          · have h2 := hf4.inv.len
            have hml4 : (stMark k4 (stScan m (k : Int) es (stMark k st1))).ord.length = st1.ord.length + 2 := by simp [stMark, stScan_ord]
            unfold suM
            rw [h1, h2, hml, hml4]
            have := HI.out.ord
            have h5 := nd_set _ k4 hd4
            omega
        have HM := Lib.hid hmeas
        clear hord2 hnd2 hlk2 hlk3 hmeas
        go_roundw
        case rel => first | exact ⟨i3, ok3, _, f', _, rfl, rfl, HSI⟩ | ((repeat apply Exists.intro); exact ⟨⟨i3, ok3, _, f', _, rfl, rfl, HSI⟩, rfl⟩)
        case measure => exact HM.out
end Go.Proofs.Ytbhhbhopogkmnaa
namespace Go.Proofs.Ytbhhbhopogkmnaa
open Go.RowKit Go.BigFrame Go.Deep
set_option linter.unusedVariables false
set_option linter.unusedSimpArgs false

theorem info_bool : (Try.prog.info? 4).map (fun i => (i.zero, i.size, i.bytes)) = some (some (.bool false), 1, 1) := by kernel_rfl
/-- A search at its beginning. -/
def stNew (N : Nat) (par vals : List Int) : St := ⟨[], par, vals, 0, List.replicate N false⟩
theorem IR.of_rowIs {w : World} {b n : Nat} {zs : List Int} (h : w.rowIs b 3 n (cellI zs)) (hn : n = zs.length) : IR w b zs := by
  obtain ⟨c, h1, h2, h3⟩ := h
  exact ⟨c, h1, fun i hi => h3 i (by omega)⟩
theorem BR.made (w : World) (N : Nat) : BR (w.alloc (.cells (madeCells #[.bool false] N) 4)) w.heap.size (List.replicate N false) := by
  obtain ⟨c, h1, h2, h3⟩ := World.rowIs_made w (.bool false) N 4
  exact ⟨c, h1, fun i hi => by rw [h3 i (by simpa using hi)]; simp at hi; simp [List.getD, hi]⟩
set_option maxRecDepth 20000 in
set_option maxHeartbeats 4000000 in
theorem newSearch {m : Int} {N : Nat} {es : List Ed} {s : Value} {P cp V cv : Nat} {par vals : List Int} {w W0 : World} (hm : mKind m = true) (hs : RowE w s es) (hN : N ≤ 1048576) (hP : IR w P par) (hV : IR w V vals) (hne : P ≠ V) (hb : W0.heap.size ≤ P ∧ W0.heap.size ≤ V) (hbel : Below W0.heap.size W0 w) (hpl : par.length = N) (hvl : vals.length = N) (hva : vAll m vals) :
    Calls Try.prog 100 #[opsV m, .agg #[.int .i64 N, s], .slice (some ⟨V, 0, none⟩) N cv, .slice (some ⟨P, 0, none⟩) N cp] w fun e w' => ∃ B S lo, e = .returned (.pointer (some ⟨B, 0, none⟩)) ∧ SInv W0 B m N s (stNew N par vals) [] P cp V cv S N lo w' (.slice none 0 0) (.slice none 0 0) ∧ Below w.heap.size w w' := by
  obtain ⟨sa, sc, rfl, hs2⟩ := id hs
  clear hs2 hs
  have hmk := run_make_row' (P := Try.prog) 140 4 (.bool false) 1 Try.underlying140 info_bool rfl .i64 .i64 N (by omega) (by omega)
  have HP := Lib.hid (And.intro hP hV)
  have HB := Lib.hid (And.intro hb (And.intro hbel hne))
  have HL := Lib.hid (And.intro hpl (And.intro hvl hva))
  clear hP hV hb hbel hpl hvl hva hne
  obtain ⟨Tt, rv, fn, fe, fb, fo, fj, rn, re, rb, ro, rj, D⟩ := disp hm
  have hval := D.val
  rw [hval]
  have HVAL := Lib.hid hval
  clear D hval
  go_enter Try.func100, Try.ntmps100
  go_wp2
  go_region
  go_wp2
  go_ret
  obtain ⟨hP, hV⟩ := HP.out
  obtain ⟨hb, hbel, hne⟩ := HB.out
  obtain ⟨hpl, hvl, hva⟩ := HL.out
  have hb0 : Below w.heap.size w ((((w.alloc (.cells #[.int .i64 N, .slice sa es.length sc] 34)).alloc (.cells (madeCells #[.bool false] N) 4)).alloc (.cells #[.slice none 0 0, .slice (some ⟨P, 0, none⟩) N cp, .slice (some ⟨V, 0, none⟩) N cv, .int .i64 0, .iface Tt rv, .slice sa es.length sc, .slice (some ⟨w.heap.size + 1, 0, none⟩) N N, .iface Tt rv, .slice none 0 0] 145)).drew) := ((((Below.refl _ _).alloc (Nat.le_refl _) _).alloc (by simp) _).alloc (by simp; omega) _).drew
  have hB : Box ((((w.alloc (.cells #[.int .i64 N, .slice sa es.length sc] 34)).alloc (.cells (madeCells #[.bool false] N) 4)).alloc (.cells #[.slice none 0 0, .slice (some ⟨P, 0, none⟩) N cp, .slice (some ⟨V, 0, none⟩) N cv, .int .i64 0, .iface Tt rv, .slice sa es.length sc, .slice (some ⟨w.heap.size + 1, 0, none⟩) N N, .iface Tt rv, .slice none 0 0] 145)).drew) (w.heap.size + 1 + 1) 145 #[.slice none 0 0, .slice (some ⟨P, 0, none⟩) N cp, .slice (some ⟨V, 0, none⟩) N cv, .int .i64 0, .iface Tt rv, .slice sa es.length sc, .slice (some ⟨w.heap.size + 1, 0, none⟩) N N, .iface Tt rv, .slice none 0 0] := by
    have := (Box.new ((w.alloc (.cells #[.int .i64 N, .slice sa es.length sc] 34)).alloc (.cells (madeCells #[.bool false] N) 4)) 145 #[.slice none 0 0, .slice (some ⟨P, 0, none⟩) N cp, .slice (some ⟨V, 0, none⟩) N cv, .int .i64 0, .iface Tt rv, .slice sa es.length sc, .slice (some ⟨w.heap.size + 1, 0, none⟩) N N, .iface Tt rv, .slice none 0 0]).drew
    simpa using this
  have hS : BR ((((w.alloc (.cells #[.int .i64 N, .slice sa es.length sc] 34)).alloc (.cells (madeCells #[.bool false] N) 4)).alloc (.cells #[.slice none 0 0, .slice (some ⟨P, 0, none⟩) N cp, .slice (some ⟨V, 0, none⟩) N cv, .int .i64 0, .iface Tt rv, .slice sa es.length sc, .slice (some ⟨w.heap.size + 1, 0, none⟩) N N, .iface Tt rv, .slice none 0 0] 145)).drew) (w.heap.size + 1) (List.replicate N false) := by
    have h1 := (BR.made (w.alloc (.cells #[.int .i64 N, .slice sa es.length sc] 34)) N).keep (w' := (((w.alloc (.cells #[.int .i64 N, .slice sa es.length sc] 34)).alloc (.cells (madeCells #[.bool false] N) 4)).alloc (.cells #[.slice none 0 0, .slice (some ⟨P, 0, none⟩) N cp, .slice (some ⟨V, 0, none⟩) N cv, .int .i64 0, .iface Tt rv, .slice sa es.length sc, .slice (some ⟨w.heap.size + 1, 0, none⟩) N N, .iface Tt rv, .slice none 0 0] 145)).drew) (((Below.refl _ _).alloc (Nat.le_refl _) _).drew)
    simpa using h1
  have hsz : ((((w.alloc (.cells #[.int .i64 N, .slice sa es.length sc] 34)).alloc (.cells (madeCells #[.bool false] N) 4)).alloc (.cells #[.slice none 0 0, .slice (some ⟨P, 0, none⟩) N cp, .slice (some ⟨V, 0, none⟩) N cv, .int .i64 0, .iface Tt rv, .slice sa es.length sc, .slice (some ⟨w.heap.size + 1, 0, none⟩) N N, .iface Tt rv, .slice none 0 0] 145)).drew).heap.size = w.heap.size + 1 + 1 + 1 := by simp
  have hW0 := hbel.size
  have hbel3 := bel_trans hbel hb0
  have hP3 := hP.keep hb0
  have hV3 := hV.keep hb0
  generalize ((((w.alloc (.cells #[.int .i64 N, .slice sa es.length sc] 34)).alloc (.cells (madeCells #[.bool false] N) 4)).alloc (.cells #[.slice none 0 0, .slice (some ⟨P, 0, none⟩) N cp, .slice (some ⟨V, 0, none⟩) N cv, .int .i64 0, .iface Tt rv, .slice sa es.length sc, .slice (some ⟨w.heap.size + 1, 0, none⟩) N N, .iface Tt rv, .slice none 0 0] 145)).drew) = w3 at hb0 hB hS hsz hbel3 hP3 hV3 ⊢
  rw [← HVAL.out] at hB
  refine ⟨w.heap.size + 1 + 1, w.heap.size + 1, w.heap.size + 1 + 1 + 1, rfl, ⟨⟨hB, ⟨by simp [cellsN], .inl ⟨rfl, rfl⟩⟩, by omega, by omega⟩, ⟨by simp [stNew], .inl ⟨rfl, rfl⟩⟩, hP3, hV3, hS, hne, ⟨by have := hP.lt; omega, by have := hV.lt; omega, by omega⟩, ⟨hb.1, hb.2, by omega, by omega⟩, hbel3, ⟨hpl, hvl, by simp [stNew], hva⟩⟩, hb0⟩

/-- The state from which nodes are settled, and the one that is reached. -/
def bf0 (m : Int) (N src : Nat) : St := ⟨[], List.replicate N (-1), vStart m N src, 0, List.replicate N false⟩
def bfR (m target : Int) (es : List Ed) (N src : Nat) : St := stRun m target es (N + 1) (bf0 m N src)
theorem nd_rep (N : Nat) : nd (List.replicate N false) = N := by unfold nd; rw [List.countP_replicate]; simp
theorem vStart_set (m : Int) (N src : Nat) (h : src < N) : (List.replicate N (mNone m)).set src (mOne m) = vStart m N src := by
  apply eq_of_at
  · rw [List.length_set, List.length_replicate, vStart_length, Int.toNat_natCast]
  · intro i hi
    rw [List.length_set, List.length_replicate] at hi
    rw [getD_set _ _ _ _ (by simpa using hi), vStart_at m N src (by rw [Int.toNat_natCast]; exact hi)]
    by_cases e : src = i
    · rw [if_pos e, if_pos (by omega)]
    · rw [if_neg e, if_neg (by omega)]
      simp [List.getD, hi]
theorem rep_set (N src : Nat) : (List.replicate N (-1 : Int)).set src (-1) = List.replicate N (-1) := by
  apply List.ext_getElem?
  intro i
  rw [List.getElem?_set]
  by_cases e : src = i
  · rw [if_pos e]
    by_cases h : src < N
    · rw [if_pos (by simpa using h)]; simp [List.getElem?_replicate, ← e, h]
    · rw [if_neg (by simpa using h)]; simp [List.getElem?_replicate, ← e, h]
  · rw [if_neg e]
theorem waits_start {m : Int} (hm : mKind m = true) {N src : Nat} (h : src < N) : Waits m N (bf0 m N src) [((src : Int), mOne m)] := by
  have hno : mOne m ≠ mNone m := by rcases mKind_cases hm with rfl | rfl | rfl | rfl | rfl <;> decide
  constructor
  · intro i hi hok
    unfold okN bf0 at hok
    simp only at hok
    rw [vStart_at m N src (by rw [Int.toNat_natCast]; exact hi)] at hok
    show ((i : Int), (vStart m N src).getD i 0) ∈ _
    rw [vStart_at m N src (by rw [Int.toNat_natCast]; exact hi)]
    by_cases e : (i : Int) = src
    · rw [if_pos e, e]; simp
    · rw [if_neg e] at hok; simp at hok
  · intro x hx
    rw [List.mem_singleton] at hx
    subst hx
    refine ⟨⟨by simp, by simpa using h⟩, mOne_in hm, hno, ?_⟩
    show mBet m (mOne m) ((vStart m N src).getD ((src : Int)).toNat 0) = false
    rw [Int.toNat_natCast, vStart_at m N src (by rw [Int.toNat_natCast]; exact h), if_pos rfl]
    exact le_refl' hm
theorem waits_congr {m : Int} {N : Nat} {st : St} {ents ents' : List En} (h : Waits m N st ents) (hm : ∀ y, y ∈ ents' ↔ y ∈ ents) : Waits m N st ents' := ⟨fun i hi hok => (hm _).2 (h.has i hi hok), fun x hx => h.ok x ((hm x).1 hx)⟩
theorem hOk_one {m : Int} (x : En) : hOk m 1 [x] := fun k h0 h1 => by omega
theorem hOk_zero {m : Int} : hOk m 0 [] := fun k h0 h1 => by omega
theorem NewI.ir {W w' : World} {v : Value} {zs : List Int} (h : NewI W w' v zs) : ∃ g cap, v = .slice (some ⟨g, 0, none⟩) zs.length cap ∧ W.heap.size ≤ g ∧ IR w' g zs := by
  obtain ⟨g, cap, rfl, hg, hr⟩ := h
  exact ⟨g, cap, rfl, hg.1, IR.of_rowIs hr rfl⟩
theorem IR.inR {w : World} {b : Nat} {zs : List Int} (h : IR w b zs) (cap : Nat) : InR true w b (b + 1) (.slice (some ⟨b, 0, none⟩) zs.length cap) zs.length 1 (cellI zs) := by
  refine ⟨_, cap, rfl, .inr ⟨b, 0, rfl, Nat.le_refl _, Nat.lt_succ_self _, h.lt, fun i hi => ?_⟩⟩
  have := h.cell (i := i) (by omega)
  rw [Nat.zero_add]
  exact ⟨this.1, fun _ => this.2⟩
set_option maxRecDepth 20000 in
set_option maxHeartbeats 8000000 in
theorem settledUntilO {m : Int} {N src : Nat} {es : List Ed} {s : Value} {w : World} (target : Int) (hm : mKind m = true) (hs : RowE w s es) (hg : gVal N es = true) (hsrc : src < N) :
    Calls Try.prog 78 #[opsV m, .agg #[.int .i64 N, s], .int .i64 src, .int .i64 target] w fun e w' => ∃ a b c, e = .returned (.agg #[a, b, c, .int .i64 (bfR m target es N src).looks]) ∧ (R3 true true w' w.heap.size w'.heap.size a b c (bfR m target es N src).ord.length (bfR m target es N src).par.length (bfR m target es N src).vals.length (cellI (bfR m target es N src).ord) (cellI (bfR m target es N src).par) (cellI (bfR m target es N src).vals) ∧ okS a) ∧ Below w.heap.size w w' := by
  obtain ⟨g1, g2, g3, _⟩ := gVal_parts hg
  have hea : eAll N es := by have := eAll_of hg; simpa using this
  obtain ⟨sa, sc, rfl, hs2⟩ := id hs
  clear hs2
  obtain ⟨Tt, rv, fn, fe, fb, fo, fj, rn, re, rb, ro, rj, D⟩ := disp hm
  have hval := D.val
  have hn1 := D.mn.run
  have hn2 := D.mn.ahead
  have hn3 := D.mn.enter
  have he1 := D.me.run
  have he2 := D.me.ahead
  have he3 := D.me.enter
  have HN := Lib.hid D.cn
  have HE := Lib.hid D.ce
  clear D
  have hbG : Below w.heap.size w ((w.alloc (.cells #[.int .i64 N, .slice sa es.length sc] 34)).alloc (.cells #[.slice none 0 0, .slice none 0 0, .slice none 0 0, .int .i64 0] 85)) := ((Below.refl _ _).alloc (Nat.le_refl _) _).alloc (by simp) _
  have hB1 : Box ((w.alloc (.cells #[.int .i64 N, .slice sa es.length sc] 34)).alloc (.cells #[.slice none 0 0, .slice none 0 0, .slice none 0 0, .int .i64 0] 85)) w.heap.size 34 #[.int .i64 N, .slice sa es.length sc] := (Box.new w _ _).alloc _
  have hB2 : Box ((w.alloc (.cells #[.int .i64 N, .slice sa es.length sc] 34)).alloc (.cells #[.slice none 0 0, .slice none 0 0, .slice none 0 0, .int .i64 0] 85)) (w.heap.size + 1) 85 #[.slice none 0 0, .slice none 0 0, .slice none 0 0, .int .i64 0] := by
    have := Box.new (w.alloc (.cells #[.int .i64 N, .slice sa es.length sc] 34)) 85 #[.slice none 0 0, .slice none 0 0, .slice none 0 0, .int .i64 0]
    simpa using this
  have hsz : ((w.alloc (.cells #[.int .i64 N, .slice sa es.length sc] 34)).alloc (.cells #[.slice none 0 0, .slice none 0 0, .slice none 0 0, .int .i64 0] 85)).heap.size = w.heap.size + 1 + 1 := by simp
  have K0 := Lib.hid (And.intro hbG (And.intro hB1 (And.intro hB2 hsz)))
  have HS := Lib.hid (hs.keep hbG)
  have HG := Lib.hid (And.intro hg hea)
  have hrep := fun g cap w h h' => repeat1 (mNone m) N (by omega) (by omega) g cap w h h'
  have HR := Lib.hid hrep
  have hrep2 := fun g cap w h h' => repeat1 (-1) N (by omega) (by omega) g cap w h h'
  have HR2 := Lib.hid hrep2
  have HVAL := Lib.hid hval
  rw [hval]
  clear hs hg hea hrep hrep2 hval hbG hB1 hB2 hsz
  go_enter Try.func78, Try.ntmps78
  go_wp2_with fail
  generalize ((w.alloc (.cells #[.int .i64 N, .slice sa es.length sc] 34)).alloc (.cells #[.slice none 0 0, .slice none 0 0, .slice none 0 0, .int .i64 0] 85)) = W0 at K0 HS ⊢
  have fx : ∀ w', Below W0.heap.size W0 w' → w'.cell? ⟨w.heap.size, 0, none⟩ = some (.int .i64 N) ∧ w'.cell? ⟨w.heap.size, 1, none⟩ = some (.slice sa es.length sc) := fun w' h => ⟨by simpa using (K0.out.2.1.keep h).cell 0, by simpa using (K0.out.2.1.keep h).cell 1⟩
  have FX := Lib.hid fx
  clear fx
  go_region_held3 (fun w' : World => w'.cell? ⟨w.heap.size, 0, none⟩ = some (.int .i64 N) ∧ w'.cell? ⟨w.heap.size, 1, none⟩ = some (.slice sa es.length sc)) (first | exact FX.out _ ((Below.refl _ _).drew) | exact FX.out _ (bel_trans ((Below.refl _ _).drew) hbA) | exact FX.out _ ((bel_trans ((Below.refl _ _).drew) hbA).alloc (by have := hbA.size; simp at this; omega) _) | exact FX.out _ (bel_trans ((bel_trans ((Below.refl _ _).drew) hbA).alloc (by have := hbA.size; simp at this; omega) _) hbB)) (first | (with_reducible refine (HN.out _).mono ?_; rintro e wA ⟨rfl, hbA⟩) | (go_at_call 99; refine (HR.out _ _ _ (by go_simp) (by simp)).mono ?_; rintro e wB ⟨vB, rfl, hnB, hbB⟩))
  have K1 := Lib.hid (bel_trans ((bel_trans ((Below.refl W0.heap.size W0).drew) hbA).alloc (by have := hbA.size; simp at this; omega) (.cells #[.int .i64 (mNone m)] 3)) hbB)
  obtain ⟨V, cv, rfl, hVl, hVi⟩ := hnB.ir
  have hV0 : W0.heap.size ≤ V := by have := hbA.size; simp at this hVl; omega
  have HV := Lib.hid (And.intro hV0 hVi)
  obtain ⟨x0, x1⟩ := FX.out _ (K1.out.alloc K1.out.size (.cells #[.int .i64 (-1)] 3))
  simp only [List.length_replicate] at *
  clear hbA hbB hnB hVl hV0 hVi
  go_wp2_with (go_at_call 99; refine (HR2.out _ _ _ (by go_simp) (by simp)).mono ?_; rintro e wC ⟨vC, rfl, hnC, hbC⟩; have K2 := Lib.hid (bel_trans (K1.out.alloc K1.out.size (.cells #[.int .i64 (-1)] 3)) hbC); have HV2 := Lib.hid (HV.out.2.keep (((Below.refl _ _).alloc (Nat.le_refl _) (.cells #[.int .i64 (-1)] 3)).trans (hbC.mono (by simp)))); obtain ⟨P, cp, rfl, hPl, hPi⟩ := hnC.ir; have HPP := Lib.hid (And.intro hPl hPi); clear x0 x1 hnC hbC hPl hPi; obtain ⟨x0, x1⟩ := FX.out _ K2.out)
  have hns := newSearch (m := m) (N := N) (es := es) (s := .slice sa es.length sc) (P := P) (cp := cp) (V := V) (cv := cv) (par := List.replicate N (-1)) (vals := List.replicate N (mNone m)) (w := wC) (W0 := W0) hm (HS.out.keep K2.out) (by omega) HPP.out.2 HV2.out (by have h1 := HV.out.2.lt; have h2 := HPP.out.1; simp at h2; omega) ⟨by have h1 := HPP.out.1; have h2 := K1.out.size; simp at h1; omega, HV.out.1⟩ K2.out (by simp) (by simp) (by intro i hi; simp at hi; simp [List.getD, hi]; exact mNone_in hm)
  rw [HVAL.out] at hns
  have HNS := Lib.hid hns
  clear hns
  go_wp2_with (go_at_call 100; (with_reducible refine (HNS.out).mono ?_); rintro e wD ⟨B, S, lo, rfl, hsD, hbD⟩; have HSD := Lib.hid (And.intro hsD hbD); clear hsD hbD)
  refine (HE.out _).mono ?_
  rintro e wE ⟨rfl, hbE⟩
  have hre := reach hm (HSD.out.1.keep hbE) (Nat.zero_le _) hOk_zero hsrc (mOne m) (-1) (mOne_in hm)
  have HRE := Lib.hid hre
  clear hre
  have hst0 : ({ stNew N (List.replicate N (-1)) (List.replicate N (mNone m)) with vals := (stNew N (List.replicate N (-1)) (List.replicate N (mNone m))).vals.set src (mOne m), par := (stNew N (List.replicate N (-1)) (List.replicate N (mNone m))).par.set src (-1) } : St) = bf0 m N src := by
    unfold stNew bf0
    simp only
    rw [vStart_set m N src hsrc, rep_set]
  rw [hst0] at HRE
  clear hst0
  go_wp2_with (go_at_call 101; (with_reducible refine (HRE.out).mono ?_); rintro e wF ⟨rfl, ⟨en, ev, hsF, hlF, hhF, hmF⟩, hcF⟩)
  have hfF : FInv W0 B m N (.slice sa es.length sc) (bf0 m N src) en P cp V cv S N lo wF (.slice none 0 0) ev := ⟨hsF, hhF, waits_congr (waits_start hm hsrc) (fun y => by rw [hmF y]; simp)⟩
  have hsu := settleUntil hm hfF HS.out HG.out.2 g3 (by rw [hlF]; simp) (Int.le_refl _) (by simp [bf0]) (by show 0 + nd (List.replicate N false) ≤ 1000; rw [nd_rep]; omega) target (by omega)
  rw [show nd (bf0 m N src).done = N from nd_rep N, show stRun m target es (N + 1) (bf0 m N src) = bfR m target es N src from rfl] at hsu
  have HSU := Lib.hid hsu
  have HCF := Lib.hid hcF
  clear hsu hfF hsF hlF hhF hmF hcF
  go_wp2_with (go_at_call 102; (with_reducible refine (HSU.out).mono ?_); rintro e wG ⟨rfl, ⟨en2, ov2, ev2, hfG⟩, hcG⟩; obtain ⟨⟨y0, y1, y2, y3, y4, y5, y6⟩, hBG⟩ := hfG.inv.cells; have hres := K0.out.2.2.1.keep hfG.inv.bel; have z0 : wG.cell? ⟨w.heap.size + 1, 0, none⟩ = some (.slice none 0 0) := (by simpa using hres.cell 0); have z1 : wG.cell? ⟨w.heap.size + 1, 1, none⟩ = some (.slice none 0 0) := (by simpa using hres.cell 1); have z2 : wG.cell? ⟨w.heap.size + 1, 2, none⟩ = some (.slice none 0 0) := (by simpa using hres.cell 2); have z3 : wG.cell? ⟨w.heap.size + 1, 3, none⟩ = some (.int .i64 0) := (by simpa using hres.cell 3); have f0 := hres.frozen 0; have f1 := hres.frozen 1; have f2 := hres.frozen 2; have f3 := hres.frozen 3; have HFG := Lib.hid hfG; obtain ⟨oa, oc, hov⟩ := own_slice hfG.inv.own; subst hov; clear y4 y5 y6 hfG hcG hres)
  try simp only [Exit.inBlock, Exit.then]
  refine bodyPost_ret (v := .agg #[.slice oa (bfR m target es N src).ord.length oc, .slice (some ⟨P, 0, none⟩) N cp, .slice (some ⟨V, 0, none⟩) N cv, .int .i64 (bfR m target es N src).looks]) ?_ rfl ?_
  · rw [results_cell1 rfl]
    go_simp
  have hG := HFG.out
  have hW := K0.out.2.2.2
  have hlo := hG.inv.hlo
  have hbb := hG.inv.hb
  have hch : ∀ u0 u1 u2 u3, Chg (w.heap.size + 1) (w.heap.size + 2) wG ((((wG.setCell ⟨w.heap.size + 1, 0, none⟩ u0).setCell ⟨w.heap.size + 1, 1, none⟩ u1).setCell ⟨w.heap.size + 1, 2, none⟩ u2).setCell ⟨w.heap.size + 1, 3, none⟩ u3) := fun u0 u1 u2 u3 => ((((Chg.refl _ _ _).setCell (by simp only; omega) (by simp only; omega) _).setCell (by simp only; omega) (by simp only; omega) _).setCell (by simp only; omega) (by simp only; omega) _).setCell (by simp only; omega) (by simp only; omega) _
  have hbw : Below w.heap.size w wG := K0.out.1.trans (hG.inv.bel.mono (by omega))
  refine ⟨_, _, _, rfl, ⟨?_, own_ok hG.inv.own⟩, bel_chg hbw (hch _ _ _ _) (by omega)⟩
  have hO : InR true wG lo wG.heap.size (.slice oa (bfR m target es N src).ord.length oc) (bfR m target es N src).ord.length 1 (cellI (bfR m target es N src).ord) := by
    have h1 := InR.of_own hG.inv.own
    obtain ⟨a, cap, he, hz⟩ := h1
    refine ⟨a, cap, he, ?_⟩
    rcases hz with h0 | ⟨b, off, rfl, k1, k2, k3, hc⟩
    · exact .inl h0
    · refine .inr ⟨b, off, rfl, k1, k2, k3, fun i hi => ⟨?_, (hc i hi).2⟩⟩
      rw [(hc i hi).1]
      have hi2 : i < (bfR m target es N src).ord.length := by omega
      simp [List.getD, hi2, cellI]
  have hP := hG.inv.par.inR cp
  have hV := hG.inv.vals.inR cv
  have e1 : (bfR m target es N src).par.length = N := hG.inv.ok.par
  have e2 : (bfR m target es N src).vals.length = N := hG.inv.ok.vals
  rw [e1] at hP ⊢
  rw [e2] at hV ⊢
  have hne := hG.inv.ne
  have hPl := hG.inv.par.lt
  have hVl := hG.inv.vals.lt
  have hsz := (hch (.int .i64 0) (.int .i64 0) (.int .i64 0) (.int .i64 0)).size
  exact ⟨_, _, _, _, _, _, ⟨hO.chg (hch _ _ _ _) (.inl (by omega)), hP.chg (hch _ _ _ _) (.inl (by omega)), hV.chg (hch _ _ _ _) (.inl (by omega))⟩, by simp; omega, fun _ => by omega⟩
theorem settledUntil {m : Int} {N src : Nat} {es : List Ed} {s : Value} {w : World} (target : Int) (hm : mKind m = true) (hs : RowE w s es) (hg : gVal N es = true) (hsrc : src < N) :
    Calls Try.prog 78 #[opsV m, .agg #[.int .i64 N, s], .int .i64 src, .int .i64 target] w fun e w' => ∃ a b c, e = .returned (.agg #[a, b, c, .int .i64 (bfR m target es N src).looks]) ∧ R3 true true w' w.heap.size w'.heap.size a b c (bfR m target es N src).ord.length (bfR m target es N src).par.length (bfR m target es N src).vals.length (cellI (bfR m target es N src).ord) (cellI (bfR m target es N src).par) (cellI (bfR m target es N src).vals) ∧ Below w.heap.size w w' :=
  (settledUntilO target hm hs hg hsrc).mono fun e w' ⟨a, b, c, h1, h2, h3⟩ => ⟨a, b, c, h1, h2.1, h3⟩
end Go.Proofs.Ytbhhbhopogkmnaa
namespace Go.Proofs.Ytbhhbhopogkmnaa
open Go.RowKit Go.BigFrame Go.Deep
set_option linter.unusedVariables false
set_option linter.unusedSimpArgs false

/-- What is answered: nothing, if the arguments are not valid. -/
def bfV (ok : Bool) (st : St) : St := if ok = true then st else ⟨[], [], [], 0, []⟩
theorem R3.nil (w : World) : R3 true true w w.heap.size w.heap.size (.slice none 0 0) (.slice none 0 0) (.slice none 0 0) 0 0 0 (cellI []) (cellI []) (cellI []) :=
  ⟨_, _, _, _, _, _, ⟨⟨none, 0, rfl, .inl rfl⟩, ⟨none, 0, rfl, .inl rfl⟩, ⟨none, 0, rfl, .inl rfl⟩⟩, ⟨Nat.le_refl _, Nat.le_refl _, Nat.le_refl _, Nat.le_refl _, Nat.le_refl _, Nat.le_refl _⟩, fun _ => ⟨.inl (Nat.le_refl _), .inl (Nat.le_refl _), .inl (Nat.le_refl _)⟩⟩
theorem R3.nil' (w : World) {lo : Nat} (h : lo ≤ w.heap.size) : R3 true true w lo w.heap.size (.slice none 0 0) (.slice none 0 0) (.slice none 0 0) 0 0 0 (cellI []) (cellI []) (cellI []) := (R3.nil w).wider h (Nat.le_refl _) (Nat.le_refl _)
theorem row_two2 (w : World) (A B : Obj) (a b : Int) : Row (((w.alloc A).alloc B).alloc (.cells #[.int .i64 a, .int .i64 b] 3)) (.slice (some ⟨w.heap.size + 1 + 1, 0, none⟩) 2 2) [a, b] := by
  refine ⟨_, 2, rfl, .inr ⟨w.heap.size + 1 + 1, 0, rfl, by simp, fun i hi => ?_⟩⟩
  have : i = 0 ∨ i = 1 := by simp at hi; omega
  rcases this with rfl | rfl <;> go_simp

set_option maxRecDepth 20000 in
set_option maxHeartbeats 8000000 in
theorem bestFirstO (n m a : Int) (es : List Ed) (s : Value) (w : World) (hs : RowE w s es) (hl : es.length ≤ 281474976710656) :
    Calls Try.prog 55 #[.agg #[.int .i64 n, s], .int .i64 m, .int .i64 a] w fun e w' => ∃ p q r, e = .returned (.tuple #[.agg #[p, q, r, .int .i64 (bfV (onOk n es m [a]) (bfR m (-1) es n.toNat a.toNat)).looks], .bool (onOk n es m [a])]) ∧ (R3 true true w' w.heap.size w'.heap.size p q r (bfV (onOk n es m [a]) (bfR m (-1) es n.toNat a.toNat)).ord.length (bfV (onOk n es m [a]) (bfR m (-1) es n.toNat a.toNat)).par.length (bfV (onOk n es m [a]) (bfR m (-1) es n.toNat a.toNat)).vals.length (cellI (bfV (onOk n es m [a]) (bfR m (-1) es n.toNat a.toNat)).ord) (cellI (bfV (onOk n es m [a]) (bfR m (-1) es n.toNat a.toNat)).par) (cellI (bfV (onOk n es m [a]) (bfR m (-1) es n.toNat a.toNat)).vals) ∧ okS p) ∧ Below w.heap.size w w' := by
  have hB : ∀ (A B C : Obj), Below w.heap.size w (((w.alloc A).alloc B).alloc C) := fun A B C => (((Below.refl _ _).alloc (Nat.le_refl _) _).alloc (by simp) _).alloc (by simp; omega) _
  have ho := fun A B => opsOn n m es [a] s _ _ (hs.keep (hB A B _)) (row_one2 w A B a) hl (by simp)
  have hR := Lib.hid hs
  obtain ⟨ad, cap, rfl, hz0⟩ := hs
  clear hz0
  have HB := Lib.hid hB
  obtain ⟨G, hG⟩ : ∃ G, G = onOk n es m [a] := ⟨_, rfl⟩
  rw [← hG] at ho ⊢
  have HO := Lib.hid ho
  have QG := Lib.hid hG
  clear ho hB hG
  cases G
  · unfold bfV
    rw [if_neg (by decide)]
    go_enter Try.func55, Try.ntmps55
    go_wp2_with (go_at_call 57; refine (HO.out _ _).mono ?_; rintro e w1 ⟨rfl, hb1⟩; have x0 := hb1.cell (p := ⟨w.heap.size + 1, 0, none⟩) (by simp <;> omega); have x1 := hb1.cell (p := ⟨w.heap.size + 1, 1, none⟩) (by simp <;> omega); have x2 := hb1.cell (p := ⟨w.heap.size + 1, 2, none⟩) (by simp <;> omega); have x3 := hb1.cell (p := ⟨w.heap.size + 1, 3, none⟩) (by simp <;> omega); have f0 := hb1.frozen (p := ⟨w.heap.size + 1, 0, none⟩) (by simp <;> omega); have f1 := hb1.frozen (p := ⟨w.heap.size + 1, 1, none⟩) (by simp <;> omega); have f2 := hb1.frozen (p := ⟨w.heap.size + 1, 2, none⟩) (by simp <;> omega); have f3 := hb1.frozen (p := ⟨w.heap.size + 1, 3, none⟩) (by simp <;> omega); have y0 := hb1.cell (p := ⟨w.heap.size, 0, none⟩) (by simp <;> omega); have y1 := hb1.cell (p := ⟨w.heap.size, 1, none⟩) (by simp <;> omega))
    try simp only [Exit.inBlock, Exit.then]
    refine bodyPost_ret (v := .tuple #[.agg #[.slice none 0 0, .slice none 0 0, .slice none 0 0, .int .i64 0], .bool false]) ?_ rfl ?_
    · rw [results_cell_tmp rfl]
      go_simp
    have hbw := bel_trans (HB.out _ _ _) hb1
    exact ⟨_, _, _, rfl, ⟨R3.nil' _ (by have := hbw.size; simp; omega), okS_nil⟩, (((hbw.setCell (by simp) _).setCell (by simp) _).setCell (by simp) _).setCell (by simp) _⟩
  · unfold bfV
    rw [if_pos rfl]
    have hp := onOk_parts QG.out.symm
    obtain ⟨g1, g2, g3, _⟩ := gVal_parts hp.1
    have ha := hp.2.1 a (by simp)
    have hm := hp.2.2
    obtain ⟨N, rfl⟩ := Int.eq_ofNat_of_zero_le (show 0 ≤ n by omega)
    obtain ⟨A, rfl⟩ := Int.eq_ofNat_of_zero_le ha.1
    rw [Int.toNat_natCast, Int.toNat_natCast]
    have hst := fun w' (h : Below w.heap.size w w') => settledUntilO (N := N) (src := A) (-1) hm (hR.out.keep h) hp.1 (by omega)
    have e1 : opsR m true = opsV m := rfl
    rw [e1] at HO
    generalize bfR m (-1) es N A = R at hst ⊢
    obtain ⟨O, hO⟩ : ∃ O, O = opsV m := ⟨_, rfl⟩
    rw [← hO] at hst HO
    have HST := Lib.hid hst
    clear hst hp ha e1 hO
    go_enter Try.func55, Try.ntmps55
    go_wp2_with (first | (go_at_call 57; refine (HO.out _ _).mono ?_; rintro e w1 ⟨rfl, hb1⟩; have x0 := hb1.cell (p := ⟨w.heap.size + 1, 0, none⟩) (by simp <;> omega); have x1 := hb1.cell (p := ⟨w.heap.size + 1, 1, none⟩) (by simp <;> omega); have x2 := hb1.cell (p := ⟨w.heap.size + 1, 2, none⟩) (by simp <;> omega); have x3 := hb1.cell (p := ⟨w.heap.size + 1, 3, none⟩) (by simp <;> omega); have f0 := hb1.frozen (p := ⟨w.heap.size + 1, 0, none⟩) (by simp <;> omega); have f1 := hb1.frozen (p := ⟨w.heap.size + 1, 1, none⟩) (by simp <;> omega); have f2 := hb1.frozen (p := ⟨w.heap.size + 1, 2, none⟩) (by simp <;> omega); have f3 := hb1.frozen (p := ⟨w.heap.size + 1, 3, none⟩) (by simp <;> omega); have y0 := hb1.cell (p := ⟨w.heap.size, 0, none⟩) (by simp <;> omega); have y1 := hb1.cell (p := ⟨w.heap.size, 1, none⟩) (by simp <;> omega)) | (go_at_call 78; refine (HST.out _ (bel_trans (HB.out _ _ _) hb1)).mono ?_; rintro e w2 ⟨p, q, r, rfl, ⟨hr3, hok3⟩, hb2⟩; have HR3 := Lib.hid hr3; have HOK3 := Lib.hid hok3; clear hok3; obtain ⟨pa, pc, qa, qc, ra, rc, rfl, rfl, rfl⟩ := hr3.slices; have z0 := (hb2.cell (p := ⟨w.heap.size + 1, 0, none⟩) (by have := hb1.size; simp at this; simp only; omega)).trans x0; have z1 := (hb2.cell (p := ⟨w.heap.size + 1, 1, none⟩) (by have := hb1.size; simp at this; simp only; omega)).trans x1; have z2 := (hb2.cell (p := ⟨w.heap.size + 1, 2, none⟩) (by have := hb1.size; simp at this; simp only; omega)).trans x2; have z3 := (hb2.cell (p := ⟨w.heap.size + 1, 3, none⟩) (by have := hb1.size; simp at this; simp only; omega)).trans x3; have g0 := (hb2.frozen (p := ⟨w.heap.size + 1, 0, none⟩) (by have := hb1.size; simp at this; simp only; omega)).trans f0; have g1 := (hb2.frozen (p := ⟨w.heap.size + 1, 1, none⟩) (by have := hb1.size; simp at this; simp only; omega)).trans f1; have g2 := (hb2.frozen (p := ⟨w.heap.size + 1, 2, none⟩) (by have := hb1.size; simp at this; simp only; omega)).trans f2; have g3 := (hb2.frozen (p := ⟨w.heap.size + 1, 3, none⟩) (by have := hb1.size; simp at this; simp only; omega)).trans f3))
    try simp only [Exit.inBlock, Exit.then]
    refine bodyPost_ret (v := .tuple #[.agg #[.slice pa R.ord.length pc, .slice qa R.par.length qc, .slice ra R.vals.length rc, .int .i64 R.looks], .bool true]) ?_ rfl ?_
    · rw [results_cell_tmp rfl]
      go_simp
    have hbw := bel_trans (HB.out _ _ _) hb1
    have hs1 : w.heap.size + 2 ≤ w1.heap.size := by have h2 := hb1.size; simp at h2; omega
    have hs2 := hb2.size
    have hch : ∀ x y z u, Chg (w.heap.size + 1) (w.heap.size + 2) w2 ((((w2.setCell ⟨w.heap.size + 1, 0, none⟩ x).setCell ⟨w.heap.size + 1, 1, none⟩ y).setCell ⟨w.heap.size + 1, 2, none⟩ z).setCell ⟨w.heap.size + 1, 3, none⟩ u) := fun x y z u => ((((Chg.refl _ _ _).setCell (by simp only; omega) (by simp only; omega) _).setCell (by simp only; omega) (by simp only; omega) _).setCell (by simp only; omega) (by simp only; omega) _).setCell (by simp only; omega) (by simp only; omega) _
    refine ⟨_, _, _, rfl, ⟨?_, HOK3.out⟩, bel_chg (bel_trans hbw hb2) (hch _ _ _ _) (by omega)⟩
    exact (R3.chg HR3.out (hch _ _ _ _) (.inl (by omega))).wider (by omega) (hch _ _ _ _).size (Nat.le_refl _)
theorem bestFirst (n m a : Int) (es : List Ed) (s : Value) (w : World) (hs : RowE w s es) (hl : es.length ≤ 281474976710656) :
    Calls Try.prog 55 #[.agg #[.int .i64 n, s], .int .i64 m, .int .i64 a] w fun e w' => ∃ p q r, e = .returned (.tuple #[.agg #[p, q, r, .int .i64 (bfV (onOk n es m [a]) (bfR m (-1) es n.toNat a.toNat)).looks], .bool (onOk n es m [a])]) ∧ R3 true true w' w.heap.size w'.heap.size p q r (bfV (onOk n es m [a]) (bfR m (-1) es n.toNat a.toNat)).ord.length (bfV (onOk n es m [a]) (bfR m (-1) es n.toNat a.toNat)).par.length (bfV (onOk n es m [a]) (bfR m (-1) es n.toNat a.toNat)).vals.length (cellI (bfV (onOk n es m [a]) (bfR m (-1) es n.toNat a.toNat)).ord) (cellI (bfV (onOk n es m [a]) (bfR m (-1) es n.toNat a.toNat)).par) (cellI (bfV (onOk n es m [a]) (bfR m (-1) es n.toNat a.toNat)).vals) ∧ Below w.heap.size w w' :=
  (bestFirstO n m a es s w hs hl).mono fun e w' ⟨p, q, r, h1, h2, h3⟩ => ⟨p, q, r, h1, h2.1, h3⟩

end Go.Proofs.Ytbhhbhopogkmnaa
