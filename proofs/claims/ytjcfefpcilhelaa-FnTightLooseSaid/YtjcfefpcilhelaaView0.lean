/- Views: mathematics. Relaxing, and why it ends after as many rounds as there are nodes less one. -/
import Derived.Test.YtjcfefpcilhelaaMath2
import Derived.Test.YtjcfefpcilhelaaGraph3
namespace Go.Proofs.Ytjcfefpcilhelaa
open Go.RowKit
set_option linter.unusedVariables false
set_option linter.unusedSimpArgs false

/-- What an edge gives: zs the values before the round, acc those so far. -/
def vGive (m : Int) (zs : List Int) (e : Ed) : Int := mJoin m (zs.getD e.1.toNat 0) (mEdge m e.2.2)
def vUp (m : Int) (zs acc : List Int) (e : Ed) : List Int := acc.set e.2.1.toNat (mBest m (acc.getD e.2.1.toNat 0) (vGive m zs e))
def vRelax (m : Int) (es : List Ed) (zs : List Int) : List Int := es.foldl (vUp m zs) zs
def vIter (m : Int) (es : List Ed) : Nat → List Int → List Int
  | 0, zs => zs
  | k + 1, zs => vRelax m es (vIter m es k zs)
def vStart (m n src : Int) : List Int := (List.range n.toNat).map fun (i : Nat) => if (i : Int) = src then mOne m else mNone m

theorem vUp_length (m : Int) (zs acc : List Int) (e : Ed) : (vUp m zs acc e).length = acc.length := by simp [vUp]
theorem vFold_length (m : Int) (zs : List Int) : ∀ (es : List Ed) (acc : List Int), (es.foldl (vUp m zs) acc).length = acc.length
  | [], _ => rfl
  | e :: es, acc => by rw [List.foldl_cons, vFold_length m zs es, vUp_length]
theorem vRelax_length (m : Int) (es : List Ed) (zs : List Int) : (vRelax m es zs).length = zs.length := vFold_length m zs es zs
theorem vIter_length (m : Int) (es : List Ed) (zs : List Int) : ∀ k, (vIter m es k zs).length = zs.length
  | 0 => rfl
  | k + 1 => by rw [vIter, vRelax_length, vIter_length m es zs k]
theorem vStart_length (m n src : Int) : (vStart m n src).length = n.toNat := by simp [vStart]
theorem vStart_at (m n src : Int) {i : Nat} (h : i < n.toNat) : (vStart m n src).getD i 0 = if (i : Int) = src then mOne m else mNone m := by
  simp [vStart, List.getD, h]
theorem vFold_snoc (m : Int) (zs acc : List Int) (es : List Ed) (k : Nat) (h : k < es.length) : (es.take (k + 1)).foldl (vUp m zs) acc = vUp m zs ((es.take k).foldl (vUp m zs) acc) (es.getD k (0, 0, 0)) := by
  rw [List.take_succ_eq_append_getElem h, List.foldl_append]
  simp [List.getD, h]
theorem vIter_stop (m : Int) (es : List Ed) (zs : List Int) (k : Nat) (h : vIter m es (k + 1) zs = vIter m es k zs) : ∀ j, vIter m es (k + j) zs = vIter m es k zs
  | 0 => rfl
  | j + 1 => by
    show vRelax m es (vIter m es (k + j) zs) = _
    rw [vIter_stop m es zs k h j]
    exact h

/-! the order -/
theorem le_trans' {m a b c : Int} (hm : mKind m = true) (h1 : mBet m b a = false) (h2 : mBet m c b = false) : mBet m c a = false := by
  rcases mKind_cases hm with rfl | rfl | rfl | rfl | rfl <;> simp [mBet] at h1 h2 ⊢ <;> omega
theorem le_refl' {m a : Int} (hm : mKind m = true) : mBet m a a = false := by
  rcases mKind_cases hm with rfl | rfl | rfl | rfl | rfl <;> simp [mBet]
theorem le_anti {m a b : Int} (hm : mKind m = true) (h1 : mBet m b a = false) (h2 : mBet m a b = false) : a = b := by
  rcases mKind_cases hm with rfl | rfl | rfl | rfl | rfl <;> simp [mBet] at h1 h2 <;> omega
theorem lt_le {m a b : Int} (hm : mKind m = true) (h : mBet m a b = true) : mBet m b a = false := by
  rcases mKind_cases hm with rfl | rfl | rfl | rfl | rfl <;> simp [mBet] at h ⊢ <;> omega
theorem best_l {m a b : Int} (hm : mKind m = true) : mBet m a (mBest m a b) = false := by
  unfold mBest
  cases h : mBet m b a
  · simp [le_refl' hm]
  · simp [lt_le hm h]
theorem best_r {m a b : Int} (hm : mKind m = true) : mBet m b (mBest m a b) = false := by
  unfold mBest
  cases h : mBet m b a
  · simp [h]
  · simp [le_refl' hm]
theorem best_or (m a b : Int) : mBest m a b = a ∨ mBest m a b = b := by
  unfold mBest
  split
  · exact .inr rfl
  · exact .inl rfl
theorem best_in {m a b : Int} (ha : mIn m a = true) (hb : mIn m b = true) : mIn m (mBest m a b) = true := by
  rcases best_or m a b with h | h <;> rw [h] <;> assumption
theorem join_worse {m a b : Int} (hm : mKind m = true) (ha : mIn m a = true) (hb : mIn m b = true) : mBet m (mJoin m a b) a = false := by
  rcases mKind_cases hm with rfl | rfl | rfl | rfl | rfl <;> simp [mIn, mBet, mNone, mOne, mJoin] at ha hb ⊢ <;> omega
theorem join_none {m b : Int} (hm : mKind m = true) (hb : mIn m b = true) : mJoin m (mNone m) b = mNone m := by
  rcases mKind_cases hm with rfl | rfl | rfl | rfl | rfl <;> simp [mIn, mBet, mNone, mOne, mJoin] at hb ⊢ <;> omega
theorem join_mono {m a b c : Int} (hm : mKind m = true) (ha : mIn m a = true) (hb : mIn m b = true) (hc : mIn m c = true) (h : mBet m b a = false) : mBet m (mJoin m b c) (mJoin m a c) = false := by
  rcases mKind_cases hm with rfl | rfl | rfl | rfl | rfl <;> simp [mIn, mBet, mNone, mOne, mJoin] at ha hb hc h ⊢ <;> omega
theorem none_worst {m v : Int} (h : mIn m v = true) : mBet m (mNone m) v = false := by
  simp [mIn] at h
  exact h.1
theorem one_best {m v : Int} (h : mIn m v = true) : mBet m v (mOne m) = false := by
  simp [mIn] at h
  exact h.2
theorem mNone_in {m : Int} (hm : mKind m = true) : mIn m (mNone m) = true := by
  rcases mKind_cases hm with rfl | rfl | rfl | rfl | rfl <;> rfl

/-- All values of a row are measures. -/
def vAll (m : Int) (zs : List Int) : Prop := ∀ i, i < zs.length → mIn m (zs.getD i 0) = true
/-- All edges lead from node to node, with a weight. -/
def eAll (n : Nat) (es : List Ed) : Prop := ∀ e ∈ es, (0 ≤ e.1 ∧ e.1.toNat < n) ∧ (0 ≤ e.2.1 ∧ e.2.1.toNat < n) ∧ mWeight e.2.2 = true
theorem eAll_of {n : Int} {es : List Ed} (h : gVal n es = true) : eAll n.toNat es := by
  intro e he
  obtain ⟨i, hi, rfl⟩ := List.getElem_of_mem he
  simp only [gVal, Bool.and_eq_true, decide_eq_true_eq, List.all_eq_true, List.mem_range] at h
  have h0 := h.2.2 i hi
  have e0 : es.getD i (0, 0, 0) = es[i] := by simp [List.getD, hi]
  simp only [okAt, e0, Bool.and_eq_true] at h0
  have h1 := h0.1
  simp only [eFits, Bool.and_eq_true, decide_eq_true_eq] at h1
  refine ⟨⟨h1.1.1.1, by omega⟩, ⟨h1.1.2.1, by omega⟩, ?_⟩
  simp [mWeight, h1.2.2]
theorem getD_set (zs : List Int) (i j : Nat) (x : Int) (hj : j < zs.length) : (zs.set i x).getD j 0 = if i = j then x else zs.getD j 0 := by
  simp only [List.getD, List.getElem?_set]
  by_cases h : i = j
  · subst h; simp [hj]
  · simp [h]
theorem give_in {m : Int} {zs : List Int} {e : Ed} (hm : mKind m = true) (hv : vAll m zs) (h1 : e.1.toNat < zs.length) (hw : mWeight e.2.2 = true) : mIn m (vGive m zs e) = true :=
  mJoin_in hm (hv _ h1) (mEdge_in hm hw)
/-- What a round makes of a node's value, edge by edge. -/
theorem vFold_at {m : Int} (hm : mKind m = true) {zs : List Int} (hv : vAll m zs) : ∀ (es : List Ed) (acc : List Int), acc.length = zs.length → eAll zs.length es → vAll m acc →
    vAll m (es.foldl (vUp m zs) acc) ∧ ∀ v, v < zs.length →
      mBet m (acc.getD v 0) ((es.foldl (vUp m zs) acc).getD v 0) = false ∧
      (∀ e ∈ es, e.2.1.toNat = v → mBet m (vGive m zs e) ((es.foldl (vUp m zs) acc).getD v 0) = false) ∧
      ((es.foldl (vUp m zs) acc).getD v 0 = acc.getD v 0 ∨ ∃ e ∈ es, e.2.1.toNat = v ∧ (es.foldl (vUp m zs) acc).getD v 0 = vGive m zs e)
  | [], acc, hl, he, ha => ⟨ha, fun v hv => ⟨le_refl' hm, by simp, .inl rfl⟩⟩
  | e :: es, acc, hl, he, ha => by
    have h0 := he e (List.mem_cons_self ..)
    have hg := give_in hm hv h0.1.2 h0.2.2
    have hl2 : (vUp m zs acc e).length = zs.length := by rw [vUp_length, hl]
    have hat : ∀ v, v < zs.length → (vUp m zs acc e).getD v 0 = if e.2.1.toNat = v then mBest m (acc.getD v 0) (vGive m zs e) else acc.getD v 0 := by
      intro v hv
      unfold vUp
      rw [getD_set _ _ _ _ (by omega)]
      by_cases h : e.2.1.toNat = v
      · subst h; rfl
      · rw [if_neg h, if_neg h]
    have ha2 : vAll m (vUp m zs acc e) := by
      intro i hi
      rw [hl2] at hi
      rw [hat i hi]
      split
      · exact best_in (ha i (by omega)) hg
      · exact ha i (by omega)
    obtain ⟨r1, r2⟩ := vFold_at hm hv es (vUp m zs acc e) hl2 (fun d hd => he d (List.mem_cons_of_mem _ hd)) ha2
    refine ⟨r1, fun v hv => ?_⟩
    rw [List.foldl_cons]
    obtain ⟨s1, s2, s3⟩ := r2 v hv
    rw [hat v hv] at s1 s3
    refine ⟨?_, ?_, ?_⟩
    · split at s1
      · exact le_trans' hm s1 (best_l hm)
      · exact s1
    · intro d hd hdv
      rcases List.mem_cons.1 hd with rfl | hd
      · rw [if_pos hdv] at s1
        exact le_trans' hm s1 (best_r hm)
      · exact s2 d hd hdv
    · rcases s3 with s3 | ⟨d, hd, h1, h2⟩
      · by_cases h : e.2.1.toNat = v
        · rw [if_pos h] at s3
          rcases best_or m (acc.getD v 0) (vGive m zs e) with hb | hb
          · exact .inl (s3.trans hb)
          · exact .inr ⟨e, List.mem_cons_self .., h, s3.trans hb⟩
        · rw [if_neg h] at s3
          exact .inl s3
      · exact .inr ⟨d, List.mem_cons_of_mem _ hd, h1, h2⟩
theorem vRelax_all {m : Int} (hm : mKind m = true) {zs : List Int} {es : List Ed} (hv : vAll m zs) (he : eAll zs.length es) : vAll m (vRelax m es zs) := (vFold_at hm hv es zs rfl he hv).1
theorem vIter_all {m : Int} (hm : mKind m = true) {zs : List Int} {es : List Ed} (hv : vAll m zs) (he : eAll zs.length es) : ∀ k, vAll m (vIter m es k zs)
  | 0 => hv
  | k + 1 => vRelax_all hm (vIter_all hm hv he k) (by rw [vIter_length]; exact he)
theorem vStart_all {m n src : Int} (hm : mKind m = true) : vAll m (vStart m n src) := by
  intro i hi
  rw [vStart_length] at hi
  rw [vStart_at m n src hi]
  split
  · exact mOne_in hm
  · exact mNone_in hm
theorem eq_of_at {a b : List Int} (h : a.length = b.length) (k : ∀ i, i < a.length → a.getD i 0 = b.getD i 0) : a = b := by
  apply List.ext_getElem h
  intro i h1 h2
  have := k i h1
  simpa [List.getD, h1, h2] using this

/-- A node that changes in round k + 1 has k + 1 other nodes ahead of it, all with values that are not worse. -/
theorem vChain {m n src : Int} (hm : mKind m = true) {es : List Ed} (he : eAll n.toNat es) (hs : 0 ≤ src) (hs2 : src.toNat < n.toNat) : ∀ (k : Nat) (v : Nat), v < n.toNat →
    (vIter m es (k + 1) (vStart m n src)).getD v 0 ≠ (vIter m es k (vStart m n src)).getD v 0 →
    ∃ l : List Nat, l.length = k + 2 ∧ l.Nodup ∧ (∀ x ∈ l, x < n.toNat) ∧ ∀ x ∈ l, mBet m ((vIter m es (k + 1) (vStart m n src)).getD v 0) ((vIter m es (k + 1) (vStart m n src)).getD x 0) = false := by
  have hlen : ∀ k, (vIter m es k (vStart m n src)).length = n.toNat := fun k => by rw [vIter_length, vStart_length]
  have hall : ∀ k, vAll m (vIter m es k (vStart m n src)) := vIter_all hm (vStart_all hm) (by rw [vStart_length]; exact he)
  have hstep : ∀ k v, v < n.toNat → _ := fun k v hv => (vFold_at hm (hall k) es (vIter m es k (vStart m n src)) rfl (by rw [hlen]; exact he) (hall k)).2 v (by rw [hlen]; exact hv)
  have hgo : ∀ k v, v < n.toNat → mBet m ((vIter m es k (vStart m n src)).getD v 0) ((vIter m es (k + 1) (vStart m n src)).getD v 0) = false := fun k v hv => (hstep k v hv).1
  -- one step: the list of the node ahead, and the node itself
  have hone : ∀ k v u (l : List Nat), v < n.toNat → (vIter m es (k + 1) (vStart m n src)).getD v 0 ≠ (vIter m es k (vStart m n src)).getD v 0 →
      mBet m ((vIter m es (k + 1) (vStart m n src)).getD v 0) ((vIter m es k (vStart m n src)).getD u 0) = false →
      l.Nodup → (∀ x ∈ l, x < n.toNat) → (∀ x ∈ l, mBet m ((vIter m es k (vStart m n src)).getD u 0) ((vIter m es k (vStart m n src)).getD x 0) = false) →
      (v :: l).Nodup ∧ (∀ x ∈ v :: l, x < n.toNat) ∧ ∀ x ∈ v :: l, mBet m ((vIter m es (k + 1) (vStart m n src)).getD v 0) ((vIter m es (k + 1) (vStart m n src)).getD x 0) = false := by
    intro k v u l hv hne huv hnd hlt hle
    refine ⟨List.nodup_cons.2 ⟨fun hin => ?_, hnd⟩, ?_, ?_⟩
    · exact hne (le_anti hm (le_trans' hm (hle v hin) huv) (hgo k v hv)).symm
    · intro x hx
      rcases List.mem_cons.1 hx with rfl | hx
      · exact hv
      · exact hlt x hx
    · intro x hx
      rcases List.mem_cons.1 hx with rfl | hx
      · exact le_refl' hm
      · exact le_trans' hm (hgo k x (hlt x hx)) (le_trans' hm (hle x hx) huv)
  -- the edge that made the change
  have hedge : ∀ k v, v < n.toNat → (vIter m es (k + 1) (vStart m n src)).getD v 0 ≠ (vIter m es k (vStart m n src)).getD v 0 →
      ∃ e ∈ es, e.2.1.toNat = v ∧ (vIter m es (k + 1) (vStart m n src)).getD v 0 = vGive m (vIter m es k (vStart m n src)) e := by
    intro k v hv hne
    rcases (hstep k v hv).2.2 with h | h
    · exact absurd h hne
    · exact h
  have hnot : ∀ k v, v < n.toNat → (e : Ed) → e ∈ es → (vIter m es (k + 1) (vStart m n src)).getD v 0 = vGive m (vIter m es k (vStart m n src)) e →
      mBet m ((vIter m es (k + 1) (vStart m n src)).getD v 0) ((vIter m es k (vStart m n src)).getD e.1.toNat 0) = false := by
    intro k v hv e hein heq
    have hes := he e hein
    rw [heq]
    exact join_worse hm (hall k _ (by rw [hlen]; exact hes.1.2)) (mEdge_in hm hes.2.2)
  intro k
  induction k with
  | zero =>
    intro v hv hne
    obtain ⟨e, hein, hev, heq⟩ := hedge 0 v hv hne
    have hes := he e hein
    have hu : e.1.toNat = src.toNat := by
      apply Classical.byContradiction
      intro hu
      have h1 : (vStart m n src).getD e.1.toNat 0 = mNone m := by
        rw [vStart_at m n src hes.1.2, if_neg]
        omega
      have h2 : vGive m (vIter m es 0 (vStart m n src)) e = mNone m := by
        unfold vGive
        show mJoin m ((vStart m n src).getD e.1.toNat 0) _ = _
        rw [h1, join_none hm (mEdge_in hm hes.2.2)]
      rw [h2] at heq
      have h3 := hgo 0 v hv
      rw [heq] at h3
      apply hne
      rw [heq]
      exact (le_anti hm (none_worst (hall 0 v (by rw [hlen]; exact hv))) h3).symm
    have h4 := hnot 0 v hv e hein heq
    rw [hu] at h4
    have h5 := hone 0 v src.toNat [src.toNat] hv hne h4 (by simp) (by simpa using hs2) (by intro x hx; rw [List.mem_singleton.1 hx]; exact le_refl' hm)
    exact ⟨_, rfl, h5⟩
  | succ k ih =>
    intro v hv hne
    obtain ⟨e, hein, hev, heq⟩ := hedge (k + 1) v hv hne
    have hes := he e hein
    have hu : (vIter m es (k + 1) (vStart m n src)).getD e.1.toNat 0 ≠ (vIter m es k (vStart m n src)).getD e.1.toNat 0 := by
      intro hu
      have h2 : vGive m (vIter m es (k + 1) (vStart m n src)) e = vGive m (vIter m es k (vStart m n src)) e := by unfold vGive; rw [hu]
      have h3 := (hstep k v hv).2.1 e hein hev
      rw [← h2, ← heq] at h3
      exact hne (le_anti hm (hgo (k + 1) v hv) h3)
    obtain ⟨l, hl, h5, h6, h7⟩ := ih e.1.toNat hes.1.2 hu
    have h8 := hone (k + 1) v e.1.toNat l hv hne (hnot (k + 1) v hv e hein heq) h5 h6 h7
    exact ⟨_, by rw [List.length_cons, hl], h8⟩
theorem pigeons : ∀ (n : Nat) (l : List Nat), l.Nodup → (∀ x ∈ l, x < n) → l.length ≤ n
  | 0, l, _, h => by
    cases l with
    | nil => simp
    | cons a l => exact absurd (h a (List.mem_cons_self ..)) (by omega)
  | n + 1, l, hd, h => by
    have h1 := pigeons n (l.erase n) (hd.erase n) (fun x hx => by
      have h2 := h x (List.mem_of_mem_erase hx)
      have h3 : x ≠ n := fun e => by subst e; exact hd.not_mem_erase hx
      omega)
    by_cases hn : n ∈ l
    · rw [List.length_erase_of_mem hn] at h1
      omega
    · rw [List.erase_of_not_mem hn] at h1
      omega
/-- After as many rounds as there are nodes less one nothing changes. -/
theorem vEnd {m n src : Int} (hm : mKind m = true) {es : List Ed} (he : eAll n.toNat es) (hs : 0 ≤ src) (hs2 : src.toNat < n.toNat) {k : Nat} (hk : n.toNat ≤ k + 1) :
    vIter m es (k + 1) (vStart m n src) = vIter m es k (vStart m n src) := by
  apply eq_of_at
  · rw [vIter_length, vIter_length]
  · intro i hi
    rw [vIter_length, vStart_length] at hi
    apply Classical.byContradiction
    intro hne
    obtain ⟨l, h1, h2, h3, _⟩ := vChain hm he hs hs2 k i hi hne
    have := pigeons _ l h2 h3
    omega
end Go.Proofs.Ytjcfefpcilhelaa
