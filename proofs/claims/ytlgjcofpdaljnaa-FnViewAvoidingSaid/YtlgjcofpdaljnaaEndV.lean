/- Views: mathematics. Relaxing, and why it ends after as many rounds as there are nodes less one. Right views: mathematics (detours, further edges, reversal). Edges relaxed one by one: mathematics. Relaxing ends from every view: mathematics. -/
import Derived.Test.YtlgjcofpdaljnaaBase
import Derived.Test.YtlgjcofpdaljnaaGraph3
namespace Go.Proofs.Ytlgjcofpdaljnaa
open Go.RowKit
set_option linter.unusedVariables false
set_option linter.unusedSimpArgs false

/-- What an edge gives: zs the values before the round, acc those so far. -/
def vGive (m : Int) (zs : List Int) (e : Ed) : Int := mJoin m (zs.getD e.1.toNat 0) (mEdge m e.2.2)
def vUp (m : Int) (zs acc : List Int) (e : Ed) : List Int := acc.set e.2.1.toNat (mBest m (acc.getD e.2.1.toNat 0) (vGive m zs e))
def vRelax (m : Int) (es : List Ed) (zs : List Int) : List Int := es.foldl (vUp m zs) zs
def vIter (m : Int) (es : List Ed) : Nat → List Int → List Int
  | 0, zs => zs
  | k + 1, zs => vRelax m es (vIter m es k zs)
def vStart (m n src : Int) : List Int := (List.range n.toNat).map fun (i : Nat) => if (i : Int) = src then mOne m else mNone m

theorem vUp_length (m : Int) (zs acc : List Int) (e : Ed) : (vUp m zs acc e).length = acc.length := by simp [vUp]
theorem vFold_length (m : Int) (zs : List Int) : ∀ (es : List Ed) (acc : List Int), (es.foldl (vUp m zs) acc).length = acc.length
  | [], _ => rfl
  | e :: es, acc => by rw [List.foldl_cons, vFold_length m zs es, vUp_length]
theorem vRelax_length (m : Int) (es : List Ed) (zs : List Int) : (vRelax m es zs).length = zs.length := vFold_length m zs es zs
theorem vIter_length (m : Int) (es : List Ed) (zs : List Int) : ∀ k, (vIter m es k zs).length = zs.length
  | 0 => rfl
  | k + 1 => by rw [vIter, vRelax_length, vIter_length m es zs k]
theorem vStart_length (m n src : Int) : (vStart m n src).length = n.toNat := by simp [vStart]
theorem vStart_at (m n src : Int) {i : Nat} (h : i < n.toNat) : (vStart m n src).getD i 0 = if (i : Int) = src then mOne m else mNone m := by
  simp [vStart, List.getD, h]
theorem vFold_snoc (m : Int) (zs acc : List Int) (es : List Ed) (k : Nat) (h : k < es.length) : (es.take (k + 1)).foldl (vUp m zs) acc = vUp m zs ((es.take k).foldl (vUp m zs) acc) (es.getD k (0, 0, 0)) := by
  rw [List.take_succ_eq_append_getElem h, List.foldl_append]
  simp [List.getD, h]
theorem vIter_stop (m : Int) (es : List Ed) (zs : List Int) (k : Nat) (h : vIter m es (k + 1) zs = vIter m es k zs) : ∀ j, vIter m es (k + j) zs = vIter m es k zs
  | 0 => rfl
  | j + 1 => by
    show vRelax m es (vIter m es (k + j) zs) = _
    rw [vIter_stop m es zs k h j]
    exact h

/-! the order -/
theorem le_trans' {m a b c : Int} (hm : mKind m = true) (h1 : mBet m b a = false) (h2 : mBet m c b = false) : mBet m c a = false := by
  rcases mKind_cases hm with rfl | rfl | rfl | rfl | rfl <;> simp [mBet] at h1 h2 ⊢ <;> omega
theorem le_refl' {m a : Int} (hm : mKind m = true) : mBet m a a = false := by
  rcases mKind_cases hm with rfl | rfl | rfl | rfl | rfl <;> simp [mBet]
theorem le_anti {m a b : Int} (hm : mKind m = true) (h1 : mBet m b a = false) (h2 : mBet m a b = false) : a = b := by
  rcases mKind_cases hm with rfl | rfl | rfl | rfl | rfl <;> simp [mBet] at h1 h2 <;> omega
theorem lt_le {m a b : Int} (hm : mKind m = true) (h : mBet m a b = true) : mBet m b a = false := by
  rcases mKind_cases hm with rfl | rfl | rfl | rfl | rfl <;> simp [mBet] at h ⊢ <;> omega
theorem best_l {m a b : Int} (hm : mKind m = true) : mBet m a (mBest m a b) = false := by
  unfold mBest
  cases h : mBet m b a
  · simp [le_refl' hm]
  · simp [lt_le hm h]
theorem best_r {m a b : Int} (hm : mKind m = true) : mBet m b (mBest m a b) = false := by
  unfold mBest
  cases h : mBet m b a
  · simp [h]
  · simp [le_refl' hm]
theorem best_or (m a b : Int) : mBest m a b = a ∨ mBest m a b = b := by
  unfold mBest
  split
  · exact .inr rfl
  · exact .inl rfl
theorem best_in {m a b : Int} (ha : mIn m a = true) (hb : mIn m b = true) : mIn m (mBest m a b) = true := by
  rcases best_or m a b with h | h <;> rw [h] <;> assumption
theorem join_worse {m a b : Int} (hm : mKind m = true) (ha : mIn m a = true) (hb : mIn m b = true) : mBet m (mJoin m a b) a = false := by
  rcases mKind_cases hm with rfl | rfl | rfl | rfl | rfl <;> simp [mIn, mBet, mNone, mOne, mJoin] at ha hb ⊢ <;> omega
theorem join_none {m b : Int} (hm : mKind m = true) (hb : mIn m b = true) : mJoin m (mNone m) b = mNone m := by
  rcases mKind_cases hm with rfl | rfl | rfl | rfl | rfl <;> simp [mIn, mBet, mNone, mOne, mJoin] at hb ⊢ <;> omega
theorem join_mono {m a b c : Int} (hm : mKind m = true) (ha : mIn m a = true) (hb : mIn m b = true) (hc : mIn m c = true) (h : mBet m b a = false) : mBet m (mJoin m b c) (mJoin m a c) = false := by
  rcases mKind_cases hm with rfl | rfl | rfl | rfl | rfl <;> simp [mIn, mBet, mNone, mOne, mJoin] at ha hb hc h ⊢ <;> omega
theorem none_worst {m v : Int} (h : mIn m v = true) : mBet m (mNone m) v = false := by
  simp [mIn] at h
  exact h.1
theorem one_best {m v : Int} (h : mIn m v = true) : mBet m v (mOne m) = false := by
  simp [mIn] at h
  exact h.2
theorem mNone_in {m : Int} (hm : mKind m = true) : mIn m (mNone m) = true := by
  rcases mKind_cases hm with rfl | rfl | rfl | rfl | rfl <;> rfl

/-- All values of a row are measures. -/
def vAll (m : Int) (zs : List Int) : Prop := ∀ i, i < zs.length → mIn m (zs.getD i 0) = true
/-- All edges lead from node to node, with a weight. -/
def eAll (n : Nat) (es : List Ed) : Prop := ∀ e ∈ es, (0 ≤ e.1 ∧ e.1.toNat < n) ∧ (0 ≤ e.2.1 ∧ e.2.1.toNat < n) ∧ mWeight e.2.2 = true
theorem eAll_of {n : Int} {es : List Ed} (h : gVal n es = true) : eAll n.toNat es := by
  intro e he
  obtain ⟨i, hi, rfl⟩ := List.getElem_of_mem he
  simp only [gVal, Bool.and_eq_true, decide_eq_true_eq, List.all_eq_true, List.mem_range] at h
  have h0 := h.2.2 i hi
  have e0 : es.getD i (0, 0, 0) = es[i] := by simp [List.getD, hi]
  simp only [okAt, e0, Bool.and_eq_true] at h0
  have h1 := h0.1
  simp only [eFits, Bool.and_eq_true, decide_eq_true_eq] at h1
  refine ⟨⟨h1.1.1.1, by omega⟩, ⟨h1.1.2.1, by omega⟩, ?_⟩
  simp [mWeight, h1.2.2]
theorem getD_set (zs : List Int) (i j : Nat) (x : Int) (hj : j < zs.length) : (zs.set i x).getD j 0 = if i = j then x else zs.getD j 0 := by
  simp only [List.getD, List.getElem?_set]
  by_cases h : i = j
  · subst h; simp [hj]
  · simp [h]
theorem give_in {m : Int} {zs : List Int} {e : Ed} (hm : mKind m = true) (hv : vAll m zs) (h1 : e.1.toNat < zs.length) (hw : mWeight e.2.2 = true) : mIn m (vGive m zs e) = true :=
  mJoin_in hm (hv _ h1) (mEdge_in hm hw)
/-- What a round makes of a node's value, edge by edge. -/
theorem vFold_at {m : Int} (hm : mKind m = true) {zs : List Int} (hv : vAll m zs) : ∀ (es : List Ed) (acc : List Int), acc.length = zs.length → eAll zs.length es → vAll m acc →
    vAll m (es.foldl (vUp m zs) acc) ∧ ∀ v, v < zs.length →
      mBet m (acc.getD v 0) ((es.foldl (vUp m zs) acc).getD v 0) = false ∧
      (∀ e ∈ es, e.2.1.toNat = v → mBet m (vGive m zs e) ((es.foldl (vUp m zs) acc).getD v 0) = false) ∧
      ((es.foldl (vUp m zs) acc).getD v 0 = acc.getD v 0 ∨ ∃ e ∈ es, e.2.1.toNat = v ∧ (es.foldl (vUp m zs) acc).getD v 0 = vGive m zs e)
  | [], acc, hl, he, ha => ⟨ha, fun v hv => ⟨le_refl' hm, by simp, .inl rfl⟩⟩
  | e :: es, acc, hl, he, ha => by
    have h0 := he e (List.mem_cons_self ..)
    have hg := give_in hm hv h0.1.2 h0.2.2
    have hl2 : (vUp m zs acc e).length = zs.length := by rw [vUp_length, hl]
    have hat : ∀ v, v < zs.length → (vUp m zs acc e).getD v 0 = if e.2.1.toNat = v then mBest m (acc.getD v 0) (vGive m zs e) else acc.getD v 0 := by
      intro v hv
      unfold vUp
      rw [getD_set _ _ _ _ (by omega)]
      by_cases h : e.2.1.toNat = v
      · subst h; rfl
      · rw [if_neg h, if_neg h]
    have ha2 : vAll m (vUp m zs acc e) := by
      intro i hi
      rw [hl2] at hi
      rw [hat i hi]
      split
      · exact best_in (ha i (by omega)) hg
      · exact ha i (by omega)
    obtain ⟨r1, r2⟩ := vFold_at hm hv es (vUp m zs acc e) hl2 (fun d hd => he d (List.mem_cons_of_mem _ hd)) ha2
    refine ⟨r1, fun v hv => ?_⟩
    rw [List.foldl_cons]
    obtain ⟨s1, s2, s3⟩ := r2 v hv
    rw [hat v hv] at s1 s3
    refine ⟨?_, ?_, ?_⟩
    · split at s1
      · exact le_trans' hm s1 (best_l hm)
      · exact s1
    · intro d hd hdv
      rcases List.mem_cons.1 hd with rfl | hd
      · rw [if_pos hdv] at s1
        exact le_trans' hm s1 (best_r hm)
      · exact s2 d hd hdv
    · rcases s3 with s3 | ⟨d, hd, h1, h2⟩
      · by_cases h : e.2.1.toNat = v
        · rw [if_pos h] at s3
          rcases best_or m (acc.getD v 0) (vGive m zs e) with hb | hb
          · exact .inl (s3.trans hb)
          · exact .inr ⟨e, List.mem_cons_self .., h, s3.trans hb⟩
        · rw [if_neg h] at s3
          exact .inl s3
      · exact .inr ⟨d, List.mem_cons_of_mem _ hd, h1, h2⟩
theorem vRelax_all {m : Int} (hm : mKind m = true) {zs : List Int} {es : List Ed} (hv : vAll m zs) (he : eAll zs.length es) : vAll m (vRelax m es zs) := (vFold_at hm hv es zs rfl he hv).1
theorem vIter_all {m : Int} (hm : mKind m = true) {zs : List Int} {es : List Ed} (hv : vAll m zs) (he : eAll zs.length es) : ∀ k, vAll m (vIter m es k zs)
  | 0 => hv
  | k + 1 => vRelax_all hm (vIter_all hm hv he k) (by rw [vIter_length]; exact he)
theorem vStart_all {m n src : Int} (hm : mKind m = true) : vAll m (vStart m n src) := by
  intro i hi
  rw [vStart_length] at hi
  rw [vStart_at m n src hi]
  split
  · exact mOne_in hm
  · exact mNone_in hm
theorem eq_of_at {a b : List Int} (h : a.length = b.length) (k : ∀ i, i < a.length → a.getD i 0 = b.getD i 0) : a = b := by
  apply List.ext_getElem h
  intro i h1 h2
  have := k i h1
  simpa [List.getD, h1, h2] using this

/-- A node that changes in round k + 1 has k + 1 other nodes ahead of it, all with values that are not worse. -/
theorem vChain {m n src : Int} (hm : mKind m = true) {es : List Ed} (he : eAll n.toNat es) (hs : 0 ≤ src) (hs2 : src.toNat < n.toNat) : ∀ (k : Nat) (v : Nat), v < n.toNat →
    (vIter m es (k + 1) (vStart m n src)).getD v 0 ≠ (vIter m es k (vStart m n src)).getD v 0 →
    ∃ l : List Nat, l.length = k + 2 ∧ l.Nodup ∧ (∀ x ∈ l, x < n.toNat) ∧ ∀ x ∈ l, mBet m ((vIter m es (k + 1) (vStart m n src)).getD v 0) ((vIter m es (k + 1) (vStart m n src)).getD x 0) = false := by
  have hlen : ∀ k, (vIter m es k (vStart m n src)).length = n.toNat := fun k => by rw [vIter_length, vStart_length]
  have hall : ∀ k, vAll m (vIter m es k (vStart m n src)) := vIter_all hm (vStart_all hm) (by rw [vStart_length]; exact he)
  have hstep : ∀ k v, v < n.toNat → _ := fun k v hv => (vFold_at hm (hall k) es (vIter m es k (vStart m n src)) rfl (by rw [hlen]; exact he) (hall k)).2 v (by rw [hlen]; exact hv)
  have hgo : ∀ k v, v < n.toNat → mBet m ((vIter m es k (vStart m n src)).getD v 0) ((vIter m es (k + 1) (vStart m n src)).getD v 0) = false := fun k v hv => (hstep k v hv).1
  -- one step: the list of the node ahead, and the node itself
  have hone : ∀ k v u (l : List Nat), v < n.toNat → (vIter m es (k + 1) (vStart m n src)).getD v 0 ≠ (vIter m es k (vStart m n src)).getD v 0 →
      mBet m ((vIter m es (k + 1) (vStart m n src)).getD v 0) ((vIter m es k (vStart m n src)).getD u 0) = false →
      l.Nodup → (∀ x ∈ l, x < n.toNat) → (∀ x ∈ l, mBet m ((vIter m es k (vStart m n src)).getD u 0) ((vIter m es k (vStart m n src)).getD x 0) = false) →
      (v :: l).Nodup ∧ (∀ x ∈ v :: l, x < n.toNat) ∧ ∀ x ∈ v :: l, mBet m ((vIter m es (k + 1) (vStart m n src)).getD v 0) ((vIter m es (k + 1) (vStart m n src)).getD x 0) = false := by
    intro k v u l hv hne huv hnd hlt hle
    refine ⟨List.nodup_cons.2 ⟨fun hin => ?_, hnd⟩, ?_, ?_⟩
    · exact hne (le_anti hm (le_trans' hm (hle v hin) huv) (hgo k v hv)).symm
    · intro x hx
      rcases List.mem_cons.1 hx with rfl | hx
      · exact hv
      · exact hlt x hx
    · intro x hx
      rcases List.mem_cons.1 hx with rfl | hx
      · exact le_refl' hm
      · exact le_trans' hm (hgo k x (hlt x hx)) (le_trans' hm (hle x hx) huv)
  -- the edge that made the change
  have hedge : ∀ k v, v < n.toNat → (vIter m es (k + 1) (vStart m n src)).getD v 0 ≠ (vIter m es k (vStart m n src)).getD v 0 →
      ∃ e ∈ es, e.2.1.toNat = v ∧ (vIter m es (k + 1) (vStart m n src)).getD v 0 = vGive m (vIter m es k (vStart m n src)) e := by
    intro k v hv hne
    rcases (hstep k v hv).2.2 with h | h
    · exact absurd h hne
    · exact h
  have hnot : ∀ k v, v < n.toNat → (e : Ed) → e ∈ es → (vIter m es (k + 1) (vStart m n src)).getD v 0 = vGive m (vIter m es k (vStart m n src)) e →
      mBet m ((vIter m es (k + 1) (vStart m n src)).getD v 0) ((vIter m es k (vStart m n src)).getD e.1.toNat 0) = false := by
    intro k v hv e hein heq
    have hes := he e hein
    rw [heq]
    exact join_worse hm (hall k _ (by rw [hlen]; exact hes.1.2)) (mEdge_in hm hes.2.2)
  intro k
  induction k with
  | zero =>
    intro v hv hne
    obtain ⟨e, hein, hev, heq⟩ := hedge 0 v hv hne
    have hes := he e hein
    have hu : e.1.toNat = src.toNat := by
      apply Classical.byContradiction
      intro hu
      have h1 : (vStart m n src).getD e.1.toNat 0 = mNone m := by
        rw [vStart_at m n src hes.1.2, if_neg]
        omega
      have h2 : vGive m (vIter m es 0 (vStart m n src)) e = mNone m := by
        unfold vGive
        show mJoin m ((vStart m n src).getD e.1.toNat 0) _ = _
        rw [h1, join_none hm (mEdge_in hm hes.2.2)]
      rw [h2] at heq
      have h3 := hgo 0 v hv
      rw [heq] at h3
      apply hne
      rw [heq]
      exact (le_anti hm (none_worst (hall 0 v (by rw [hlen]; exact hv))) h3).symm
    have h4 := hnot 0 v hv e hein heq
    rw [hu] at h4
    have h5 := hone 0 v src.toNat [src.toNat] hv hne h4 (by simp) (by simpa using hs2) (by intro x hx; rw [List.mem_singleton.1 hx]; exact le_refl' hm)
    exact ⟨_, rfl, h5⟩
  | succ k ih =>
    intro v hv hne
    obtain ⟨e, hein, hev, heq⟩ := hedge (k + 1) v hv hne
    have hes := he e hein
    have hu : (vIter m es (k + 1) (vStart m n src)).getD e.1.toNat 0 ≠ (vIter m es k (vStart m n src)).getD e.1.toNat 0 := by
      intro hu
      have h2 : vGive m (vIter m es (k + 1) (vStart m n src)) e = vGive m (vIter m es k (vStart m n src)) e := by unfold vGive; rw [hu]
      have h3 := (hstep k v hv).2.1 e hein hev
      rw [← h2, ← heq] at h3
      exact hne (le_anti hm (hgo (k + 1) v hv) h3)
    obtain ⟨l, hl, h5, h6, h7⟩ := ih e.1.toNat hes.1.2 hu
    have h8 := hone (k + 1) v e.1.toNat l hv hne (hnot (k + 1) v hv e hein heq) h5 h6 h7
    exact ⟨_, by rw [List.length_cons, hl], h8⟩
theorem pigeons : ∀ (n : Nat) (l : List Nat), l.Nodup → (∀ x ∈ l, x < n) → l.length ≤ n
  | 0, l, _, h => by
    cases l with
    | nil => simp
    | cons a l => exact absurd (h a (List.mem_cons_self ..)) (by omega)
  | n + 1, l, hd, h => by
    have h1 := pigeons n (l.erase n) (hd.erase n) (fun x hx => by
      have h2 := h x (List.mem_of_mem_erase hx)
      have h3 : x ≠ n := fun e => by subst e; exact hd.not_mem_erase hx
      omega)
    by_cases hn : n ∈ l
    · rw [List.length_erase_of_mem hn] at h1
      omega
    · rw [List.erase_of_not_mem hn] at h1
      omega
/-- After as many rounds as there are nodes less one nothing changes. -/
theorem vEnd {m n src : Int} (hm : mKind m = true) {es : List Ed} (he : eAll n.toNat es) (hs : 0 ≤ src) (hs2 : src.toNat < n.toNat) {k : Nat} (hk : n.toNat ≤ k + 1) :
    vIter m es (k + 1) (vStart m n src) = vIter m es k (vStart m n src) := by
  apply eq_of_at
  · rw [vIter_length, vIter_length]
  · intro i hi
    rw [vIter_length, vStart_length] at hi
    apply Classical.byContradiction
    intro hne
    obtain ⟨l, h1, h2, h3, _⟩ := vChain hm he hs hs2 k i hi hne
    have := pigeons _ l h2 h3
    omega
end Go.Proofs.Ytlgjcofpdaljnaa
namespace Go.Proofs.Ytlgjcofpdaljnaa
set_option linter.unusedVariables false
set_option linter.unusedSimpArgs false

theorem join_assoc {m a b c : Int} (hm : mKind m = true) (ha : mIn m a = true) (hb : mIn m b = true) (hc : mIn m c = true) : mJoin m a (mJoin m b c) = mJoin m (mJoin m a b) c := by
  have h1 := mIn_low hm ha
  have h2 := mIn_low hm hb
  have h3 := mIn_low hm hc
  rcases mKind_cases hm with rfl | rfl | rfl | rfl | rfl <;> simp [mJoin] <;> omega
theorem join_comm {m a b : Int} (hm : mKind m = true) : mJoin m a b = mJoin m b a := by
  rcases mKind_cases hm with rfl | rfl | rfl | rfl | rfl <;> simp [mJoin] <;> omega
theorem join_one {m a : Int} (hm : mKind m = true) (ha : mIn m a = true) : mJoin m a (mOne m) = a := by
  have h1 := mIn_low hm ha
  rcases mKind_cases hm with rfl | rfl | rfl | rfl | rfl <;> simp [mJoin, mOne, mIn, mBet, mNone] at * <;> omega
theorem join_in {m a b : Int} (hm : mKind m = true) (ha : mIn m a = true) (hb : mIn m b = true) : mIn m (mJoin m a b) = true := by
  have h1 := mIn_low hm ha
  have h2 := mIn_low hm hb
  rcases mKind_cases hm with rfl | rfl | rfl | rfl | rfl <;> simp [mJoin, mOne, mIn, mBet, mNone] at * <;> omega

/-- Values that no edge makes better. -/
def vSt (m : Int) (es : List Ed) (u : List Int) : Prop := ∀ e ∈ es, mBet m (vGive m u e) (u.getD e.2.1.toNat 0) = false
/-- The right values. -/
def vRt (m n : Int) (es : List Ed) (a : Int) : List Int := vIter m es n.toNat (vStart m n a)
section
variable {m n : Int} {es : List Ed}
theorem vRt_length (a : Int) : (vRt m n es a).length = n.toNat := by unfold vRt; rw [vIter_length, vStart_length]
theorem vRt_all (hm : mKind m = true) (he : eAll n.toNat es) (a : Int) : vAll m (vRt m n es a) := by
  unfold vRt
  exact vIter_all hm (vStart_all hm) (by rw [vStart_length]; exact he) _
theorem vRt_in (hm : mKind m = true) (he : eAll n.toNat es) (a : Int) {i : Nat} (hi : i < n.toNat) : mIn m ((vRt m n es a).getD i 0) = true := vRt_all hm he a i (by rw [vRt_length]; exact hi)
theorem vRt_fix (hm : mKind m = true) (he : eAll n.toNat es) {a : Int} (h0 : 0 ≤ a) (h1 : a.toNat < n.toNat) : vRelax m es (vRt m n es a) = vRt m n es a := vEnd hm he h0 h1 (k := n.toNat) (by omega)
theorem vSt_of_fix (hm : mKind m = true) {u : List Int} (hu : vAll m u) (he : eAll u.length es) (hf : vRelax m es u = u) : vSt m es u := by
  intro e hein
  have h := ((vFold_at hm hu es u rfl he hu).2 e.2.1.toNat (he e hein).2.1.2).2.1 e hein rfl
  have : es.foldl (vUp m u) u = u := hf
  rwa [this] at h
theorem vRt_st (hm : mKind m = true) (he : eAll n.toNat es) {a : Int} (h0 : 0 ≤ a) (h1 : a.toNat < n.toNat) : vSt m es (vRt m n es a) :=
  vSt_of_fix hm (vRt_all hm he a) (by rw [vRt_length]; exact he) (vRt_fix hm he h0 h1)
theorem vIter_le (hm : mKind m = true) {zs : List Int} (hz : vAll m zs) (he : eAll zs.length es) {i : Nat} (hi : i < zs.length) : ∀ k, mBet m (zs.getD i 0) ((vIter m es k zs).getD i 0) = false
  | 0 => le_refl' hm
  | k + 1 => by
    have hl : (vIter m es k zs).length = zs.length := vIter_length m es zs k
    have hs := ((vFold_at hm (vIter_all hm hz he k) es (vIter m es k zs) rfl (by rw [hl]; exact he) (vIter_all hm hz he k)).2 i (by rw [hl]; exact hi)).1
    exact le_trans' hm hs (vIter_le hm hz he hi k)
theorem vRt_src (hm : mKind m = true) (he : eAll n.toNat es) {a : Int} (h0 : 0 ≤ a) (h1 : a.toNat < n.toNat) : (vRt m n es a).getD a.toNat 0 = mOne m := by
  have h2 := vIter_le (es := es) hm (vStart_all (n := n) (src := a) hm) (by rw [vStart_length]; exact he) (i := a.toNat) (by rw [vStart_length]; exact h1) n.toNat
  rw [vStart_at m n a h1, if_pos (by omega)] at h2
  exact le_anti hm h2 (one_best (vRt_in hm he a h1))
/-- Stable values are not worse than a path to a node and the right values from there. -/
theorem vLow (hm : mKind m = true) (he : eAll n.toNat es) {u : List Int} (hu : vAll m u) (hl : u.length = n.toNat) (hs : vSt m es u) {c : Int} (hc : mIn m c = true) {mid : Int} (h0 : 0 ≤ mid) (hc0 : mBet m c (u.getD mid.toNat 0) = false) :
    ∀ (k i : Nat), i < n.toNat → mBet m (mJoin m c ((vIter m es k (vStart m n mid)).getD i 0)) (u.getD i 0) = false
  | 0, i, hi => by
    show mBet m (mJoin m c ((vStart m n mid).getD i 0)) (u.getD i 0) = false
    rw [vStart_at m n mid hi]
    by_cases h : (i : Int) = mid
    · rw [if_pos h, join_one hm hc]
      have : mid.toNat = i := by omega
      rwa [this] at hc0
    · rw [if_neg h, join_comm hm, join_none hm hc]
      exact none_worst (hu i (by omega))
  | k + 1, i, hi => by
    have hall := vIter_all hm (vStart_all (n := n) (src := mid) hm) (by rw [vStart_length]; exact he) k
    have hlen : (vIter m es k (vStart m n mid)).length = n.toNat := by rw [vIter_length, vStart_length]
    have h := ((vFold_at hm hall es _ rfl (by rw [hlen]; exact he) hall).2 i (by rw [hlen]; exact hi)).2.2
    rcases h with h | ⟨e, hein, hev, h⟩
    · show mBet m (mJoin m c ((es.foldl (vUp m (vIter m es k (vStart m n mid))) (vIter m es k (vStart m n mid))).getD i 0)) (u.getD i 0) = false
      rw [h]
      exact vLow hm he hu hl hs hc h0 hc0 k i hi
    · show mBet m (mJoin m c ((es.foldl (vUp m (vIter m es k (vStart m n mid))) (vIter m es k (vStart m n mid))).getD i 0)) (u.getD i 0) = false
      rw [h]
      have hee := he e hein
      have hz := hall e.1.toNat (by rw [hlen]; exact hee.1.2)
      have hw := mEdge_in hm hee.2.2
      have h1 := vLow hm he hu hl hs hc h0 hc0 k e.1.toNat hee.1.2
      have h2 := hs e hein
      rw [hev] at h2
      unfold vGive at h2 ⊢
      rw [join_assoc hm hc hz hw]
      exact le_trans' hm h2 (join_mono hm (hu _ (by rw [hl]; exact hee.1.2)) (join_in hm hc hz) hw h1)
/-- Detours are not better. -/
theorem vTri (hm : mKind m = true) (he : eAll n.toNat es) {a mid : Int} (h0 : 0 ≤ a) (h1 : a.toNat < n.toNat) (g0 : 0 ≤ mid) (g1 : mid.toNat < n.toNat) {i : Nat} (hi : i < n.toNat) :
    mBet m (mJoin m ((vRt m n es a).getD mid.toNat 0) ((vRt m n es mid).getD i 0)) ((vRt m n es a).getD i 0) = false :=
  vLow hm he (vRt_all hm he a) (vRt_length a) (vRt_st hm he h0 h1) (vRt_in hm he a g1) g0 (le_refl' hm) n.toNat i hi
/-- Stable values with an empty path at the source are not worse than the right ones. -/
theorem vBest (hm : mKind m = true) (he : eAll n.toNat es) {u : List Int} (hu : vAll m u) (hl : u.length = n.toNat) (hs : vSt m es u) {a : Int} (h0 : 0 ≤ a) (h1 : a.toNat < n.toNat) (hu1 : u.getD a.toNat 0 = mOne m) {i : Nat} (hi : i < n.toNat) :
    mBet m ((vRt m n es a).getD i 0) (u.getD i 0) = false := by
  have h : mBet m (mJoin m (mOne m) ((vRt m n es a).getD i 0)) (u.getD i 0) = false := vLow hm he hu hl hs (mOne_in hm) h0 (by rw [hu1]; exact le_refl' hm) n.toNat i hi
  rw [join_comm hm, join_one hm (vRt_in hm he a hi)] at h
  exact h
/-- More edges are not worse. -/
theorem vMore (hm : mKind m = true) (he : eAll n.toNat es) {fs : List Ed} (hf : eAll n.toNat fs) (hsub : ∀ e ∈ es, e ∈ fs) {a : Int} (h0 : 0 ≤ a) (h1 : a.toNat < n.toNat) {i : Nat} (hi : i < n.toNat) :
    mBet m ((vRt m n es a).getD i 0) ((vRt m n fs a).getD i 0) = false :=
  vBest hm he (vRt_all hm hf a) (vRt_length a) (fun e h => vRt_st hm hf h0 h1 e (hsub e h)) h0 h1 (vRt_src hm hf h0 h1) hi
/-- Backwards along the edges. -/
theorem vRev1 (hm : mKind m = true) (he : eAll n.toNat es) {fs : List Ed} (hf : eAll n.toNat fs) (hr : ∀ e ∈ es, (e.2.1, e.1, e.2.2) ∈ fs) {a : Int} (h0 : 0 ≤ a) (h1 : a.toNat < n.toNat) :
    ∀ (k i : Nat), i < n.toNat → mBet m ((vIter m es k (vStart m n a)).getD i 0) ((vRt m n fs (i : Int)).getD a.toNat 0) = false
  | 0, i, hi => by
    show mBet m ((vStart m n a).getD i 0) ((vRt m n fs (i : Int)).getD a.toNat 0) = false
    rw [vStart_at m n a hi]
    by_cases h : (i : Int) = a
    · rw [if_pos h, h, vRt_src hm hf h0 h1]
      exact le_refl' hm
    · rw [if_neg h]
      exact none_worst (vRt_in hm hf _ h1)
  | k + 1, i, hi => by
    have hall := vIter_all hm (vStart_all (n := n) (src := a) hm) (by rw [vStart_length]; exact he) k
    have hlen : (vIter m es k (vStart m n a)).length = n.toNat := by rw [vIter_length, vStart_length]
    have h := ((vFold_at hm hall es _ rfl (by rw [hlen]; exact he) hall).2 i (by rw [hlen]; exact hi)).2.2
    rcases h with h | ⟨e, hein, hev, h⟩
    · show mBet m ((es.foldl (vUp m (vIter m es k (vStart m n a))) (vIter m es k (vStart m n a))).getD i 0) _ = false
      rw [h]
      exact vRev1 hm he hf hr h0 h1 k i hi
    · show mBet m ((es.foldl (vUp m (vIter m es k (vStart m n a))) (vIter m es k (vStart m n a))).getD i 0) _ = false
      rw [h]
      have hee := he e hein
      have hz := hall e.1.toNat (by rw [hlen]; exact hee.1.2)
      have hw := mEdge_in hm hee.2.2
      have hfe := hr e hein
      have h2 := vRev1 hm he hf hr h0 h1 k e.1.toNat hee.1.2
      have hi1 : (i : Int) = e.2.1 := by omega
      have hi2 : ((e.1.toNat : Nat) : Int) = e.1 := by omega
      rw [hi2] at h2
      have h3 := vTri hm hf (a := (i : Int)) (mid := e.1) (by omega) (by omega) hee.1.1 hee.1.2 h1
      have h4 := vRt_st hm hf (a := (i : Int)) (by omega) (by omega) _ hfe
      unfold vGive at h4
      simp only at h4
      have h5 : (vRt m n fs (i : Int)).getD e.2.1.toNat 0 = mOne m := by
        have := vRt_src hm hf (a := (i : Int)) (by omega) (by omega)
        rwa [show ((i : Int)).toNat = e.2.1.toNat by omega] at this
      rw [h5, join_comm hm, join_one hm hw] at h4
      have hA := vRt_in hm hf (i : Int) hee.1.2
      have hB := vRt_in hm hf e.1 h1
      have h6 := join_mono hm hA hw hB h4
      have h7 := join_mono hm hB hz hw h2
      unfold vGive
      refine le_trans' hm h3 (le_trans' hm h6 ?_)
      rw [join_comm (a := mEdge m e.2.2) hm]
      exact h7
/-- The value from a node to another is that back in the turned graph. -/
theorem vRev (hm : mKind m = true) (he : eAll n.toNat es) {fs : List Ed} (hf : eAll n.toNat fs) (hr : ∀ e ∈ es, (e.2.1, e.1, e.2.2) ∈ fs) (hr2 : ∀ e ∈ fs, (e.2.1, e.1, e.2.2) ∈ es) {a : Int} (h0 : 0 ≤ a) (h1 : a.toNat < n.toNat) {i : Nat} (hi : i < n.toNat) :
    (vRt m n fs (i : Int)).getD a.toNat 0 = (vRt m n es a).getD i 0 := by
  have h2 := vRev1 hm he hf hr h0 h1 n.toNat i hi
  have h3 := vRev1 hm hf he hr2 (a := (i : Int)) (by omega) (by omega) n.toNat a.toNat h1
  rw [show ((a.toNat : Nat) : Int) = a by omega, show ((i : Int)).toNat = i by omega] at h3
  exact le_anti hm h2 h3
end
end Go.Proofs.Ytlgjcofpdaljnaa
namespace Go.Proofs.Ytlgjcofpdaljnaa
open Go.RowKit
set_option linter.unusedVariables false
set_option linter.unusedSimpArgs false

/-- Does relaxing an edge change something? -/
def vLo (m : Int) (zs : List Int) (e : Ed) : Bool := mBet m (vGive m zs e) (zs.getD e.2.1.toNat 0)
/-- One edge is relaxed. -/
def vOne (m : Int) (zs : List Int) (e : Ed) : List Int := vUp m zs zs e
/-- The edge with a number. -/
def eAt (es : List Ed) (i : Int) : Ed := es.getD i.toNat (0, 0, 0)
/-- Edges are relaxed in an order. -/
def vRun (m : Int) (es : List Ed) (zs : List Int) (os : List Int) : List Int := os.foldl (fun zs i => vOne m zs (eAt es i)) zs
def oIn (l i : Int) : Bool := decide (0 ≤ i) && decide (i < l)
/-- Is it an order of so many edges? -/
def oOk (l : Nat) (os : List Int) : Bool := decide (os.length ≤ 500) && os.all (oIn l)
theorem vOne_length (m : Int) (zs : List Int) (e : Ed) : (vOne m zs e).length = zs.length := vUp_length m zs zs e
theorem vRun_length (m : Int) (es : List Ed) : ∀ (os : List Int) (zs : List Int), (vRun m es zs os).length = zs.length
  | [], _ => rfl
  | i :: os, zs => by
    show (vRun m es (vOne m zs (eAt es i)) os).length = _
    rw [vRun_length m es os, vOne_length]
theorem vRun_append (m : Int) (es : List Ed) (zs : List Int) (a b : List Int) : vRun m es zs (a ++ b) = vRun m es (vRun m es zs a) b := by
  unfold vRun; rw [List.foldl_append]
theorem vRun_take (m : Int) (es : List Ed) (zs : List Int) (os : List Int) (k : Nat) (h : k < os.length) : vRun m es zs (os.take (k + 1)) = vOne m (vRun m es zs (os.take k)) (eAt es (os.getD k 0)) := by
  rw [List.take_succ_eq_append_getElem h, vRun_append]
  simp [vRun, List.getD, h]
theorem vRun_all' (m : Int) (es : List Ed) (zs : List Int) (os : List Int) : vRun m es zs (os.take os.length) = vRun m es zs os := by rw [List.take_length]
theorem set_same (zs : List Int) (k : Nat) (h : k < zs.length) : zs.set k (zs.getD k 0) = zs := by
  apply eq_of_at
  · simp
  · intro i hi
    have hi' : i < zs.length := by simpa using hi
    rw [getD_set _ _ _ _ hi']
    by_cases e : k = i
    · subst e; simp
    · simp [e]
/-- An edge that isn't loose changes nothing. -/
theorem vOne_still {m : Int} {zs : List Int} {e : Ed} (h : vLo m zs e = false) (ht : e.2.1.toNat < zs.length) : vOne m zs e = zs := by
  unfold vOne vUp mBest
  unfold vLo at h
  rw [h]
  exact set_same zs _ ht
theorem vOne_loose {m : Int} {zs : List Int} {e : Ed} (h : vLo m zs e = true) : vOne m zs e = zs.set e.2.1.toNat (vGive m zs e) := by
  unfold vOne vUp mBest
  unfold vLo at h
  rw [if_pos h]
theorem vOne_at {m : Int} {zs : List Int} {e : Ed} {v : Nat} (hv : v < zs.length) : (vOne m zs e).getD v 0 = if e.2.1.toNat = v then mBest m (zs.getD v 0) (vGive m zs e) else zs.getD v 0 := by
  unfold vOne vUp
  rw [getD_set _ _ _ _ hv]
  by_cases h : e.2.1.toNat = v
  · subst h; rfl
  · rw [if_neg h, if_neg h]
theorem bet_irr (m a : Int) : mBet m a a = false := by unfold mBet; split <;> simp
theorem vOne_ne {m : Int} {zs : List Int} {e : Ed} (h : vLo m zs e = true) (ht : e.2.1.toNat < zs.length) : vOne m zs e ≠ zs := by
  intro he
  have h1 := vOne_at (m := m) (e := e) ht
  rw [he, if_pos rfl] at h1
  unfold vLo at h
  unfold mBest at h1
  rw [if_pos h] at h1
  rw [← h1, bet_irr] at h
  cases h
theorem vOne_all {m : Int} {zs : List Int} {e : Ed} (hm : mKind m = true) (hv : vAll m zs) (h1 : e.1.toNat < zs.length) (hw : mWeight e.2.2 = true) : vAll m (vOne m zs e) := by
  intro i hi
  rw [vOne_length] at hi
  rw [vOne_at hi]
  split
  · exact best_in (hv i hi) (give_in hm hv h1 hw)
  · exact hv i hi
theorem eAt_in {es : List Ed} {i : Int} (h : oIn es.length i = true) : eAt es i ∈ es := by
  simp only [oIn, Bool.and_eq_true, decide_eq_true_eq] at h
  unfold eAt
  have h2 : i.toNat < es.length := by omega
  simp [List.getD, h2]
theorem oOk_at {l : Nat} {os : List Int} (h : oOk l os = true) {k : Nat} (hk : k < os.length) : oIn l (os.getD k 0) = true := by
  simp only [oOk, Bool.and_eq_true, List.all_eq_true] at h
  have : os.getD k 0 ∈ os := by simp [List.getD, hk]
  exact h.2 _ this
theorem oOk_len {l : Nat} {os : List Int} (h : oOk l os = true) : os.length ≤ 500 := by
  simp only [oOk, Bool.and_eq_true, decide_eq_true_eq] at h
  exact h.1
theorem oOk_all {l : Nat} {os : List Int} (h : oOk l os = true) : ∀ i ∈ os, oIn l i = true := by
  simp only [oOk, Bool.and_eq_true, List.all_eq_true] at h
  exact h.2
/-- What a run keeps and does to the values. -/
theorem vRun_step {m : Int} (hm : mKind m = true) {es : List Ed} : ∀ (os : List Int) (zs : List Int), eAll zs.length es → vAll m zs → (∀ i ∈ os, oIn es.length i = true) →
    vAll m (vRun m es zs os) ∧ ∀ v, v < zs.length → mBet m (zs.getD v 0) ((vRun m es zs os).getD v 0) = false
  | [], zs, he, hv, ho => ⟨hv, fun v h => le_refl' hm⟩
  | i :: os, zs, he, hv, ho => by
    have hi := ho i (List.mem_cons_self ..)
    have hes := he _ (eAt_in hi)
    have h1 := vOne_all hm hv hes.1.2 hes.2.2
    obtain ⟨r1, r2⟩ := vRun_step hm os (vOne m zs (eAt es i)) (by rw [vOne_length]; exact he) h1 (fun j hj => ho j (List.mem_cons_of_mem _ hj))
    refine ⟨r1, fun v h => ?_⟩
    have r3 := r2 v (by rw [vOne_length]; exact h)
    refine le_trans' hm r3 ?_
    rw [vOne_at h]
    split
    · exact best_l hm
    · exact le_refl' hm
/-- What is not better than a stable view does not become so. -/
theorem vRun_bound {m : Int} (hm : mKind m = true) {es : List Ed} {R : List Int} (hR : vAll m R) (hfix : ∀ e ∈ es, mBet m (vGive m R e) (R.getD e.2.1.toNat 0) = false) : ∀ (os : List Int) (zs : List Int), zs.length = R.length → eAll zs.length es → vAll m zs → (∀ i ∈ os, oIn es.length i = true) →
    (∀ v, v < zs.length → mBet m (zs.getD v 0) (R.getD v 0) = false) → ∀ v, v < zs.length → mBet m ((vRun m es zs os).getD v 0) (R.getD v 0) = false
  | [], zs, hl, he, hv, ho, hb => hb
  | i :: os, zs, hl, he, hv, ho, hb => by
    have hi := ho i (List.mem_cons_self ..)
    have hes := he _ (eAt_in hi)
    have h1 := vOne_all hm hv hes.1.2 hes.2.2
    have r := vRun_bound hm hR hfix os (vOne m zs (eAt es i)) (by rw [vOne_length]; exact hl) (by rw [vOne_length]; exact he) h1 (fun j hj => ho j (List.mem_cons_of_mem _ hj)) (fun v h => by
      rw [vOne_length] at h
      rw [vOne_at h]
      split
      · next e =>
        have h2 := hb v h
        rcases best_or m (zs.getD v 0) (vGive m zs (eAt es i)) with hq | hq
        · rw [hq]; exact h2
        · rw [hq]
          have h3 := hfix _ (eAt_in hi)
          rw [e] at h3
          have h4 : mBet m (vGive m zs (eAt es i)) (vGive m R (eAt es i)) = false := by
            unfold vGive
            exact join_mono hm (hR _ (by rw [← hl]; exact hes.1.2)) (hv _ hes.1.2) (mEdge_in hm hes.2.2) (hb _ hes.1.2)
          exact le_trans' hm h3 h4
      · exact hb v h)
    intro v h
    exact r v (by rw [vOne_length]; exact h)
/-- A stable view stays. -/
theorem vRun_still {m : Int} {es : List Ed} {R : List Int} (he : eAll R.length es) (hfix : ∀ e ∈ es, mBet m (vGive m R e) (R.getD e.2.1.toNat 0) = false) : ∀ (os : List Int), (∀ i ∈ os, oIn es.length i = true) → vRun m es R os = R
  | [], _ => rfl
  | i :: os, ho => by
    have hi := ho i (List.mem_cons_self ..)
    show vRun m es (vOne m R (eAt es i)) os = R
    rw [vOne_still (hfix _ (eAt_in hi)) (he _ (eAt_in hi)).2.1.2]
    exact vRun_still he hfix os (fun j hj => ho j (List.mem_cons_of_mem _ hj))
/-- Relaxing nothing: no edge is loose. -/
theorem fix_of_relax {m : Int} (hm : mKind m = true) {es : List Ed} {R : List Int} (he : eAll R.length es) (hv : vAll m R) (h : vRelax m es R = R) : ∀ e ∈ es, mBet m (vGive m R e) (R.getD e.2.1.toNat 0) = false := by
  intro e hin
  have h1 := ((vFold_at hm hv es R rfl he hv).2 _ (he e hin).2.1.2).2.1 e hin rfl
  have h2 : es.foldl (vUp m R) R = R := h
  rw [h2] at h1
  exact h1
theorem relax_of_fix {m : Int} (hm : mKind m = true) {es : List Ed} {R : List Int} (he : eAll R.length es) (hv : vAll m R) (h : ∀ e ∈ es, mBet m (vGive m R e) (R.getD e.2.1.toNat 0) = false) : vRelax m es R = R := by
  apply eq_of_at (vRelax_length m es R)
  intro i hi
  rw [vRelax_length] at hi
  obtain ⟨h1, h2, h3⟩ := (vFold_at hm hv es R rfl he hv).2 i hi
  rcases h3 with h3 | ⟨e, hin, e1, e2⟩
  · exact h3
  · have h4 := h e hin
    rw [e1] at h4
    have e3 : (vRelax m es R).getD i 0 = vGive m R e := e2
    rw [e3]
    rw [show (es.foldl (vUp m R) R).getD i 0 = vGive m R e from e2] at h1
    exact le_anti hm h1 h4
/-- A round in which each edge comes up reaches what relaxing all of them reaches, from what is not worse. -/
theorem vRun_round {m : Int} (hm : mKind m = true) {es : List Ed} {A : List Int} (hA : vAll m A) : ∀ (os : List Int) (zs : List Int), zs.length = A.length → eAll zs.length es → vAll m zs → (∀ i ∈ os, oIn es.length i = true) →
    (∀ v, v < zs.length → mBet m (A.getD v 0) (zs.getD v 0) = false) →
    (∀ i ∈ os, ∀ v, v < zs.length → (eAt es i).2.1.toNat = v → mBet m (vGive m A (eAt es i)) ((vRun m es zs os).getD v 0) = false)
  | [], zs, hl, he, hv, ho, hb => by simp
  | i :: os, zs, hl, he, hv, ho, hb => by
    have hi := ho i (List.mem_cons_self ..)
    have hes := he _ (eAt_in hi)
    have h1 := vOne_all hm hv hes.1.2 hes.2.2
    have hup : ∀ v, v < zs.length → mBet m (zs.getD v 0) ((vOne m zs (eAt es i)).getD v 0) = false := fun v h => by
      rw [vOne_at h]
      split
      · exact best_l hm
      · exact le_refl' hm
    have hl1 := vOne_length m zs (eAt es i)
    have ho' := fun j hj => ho j (List.mem_cons_of_mem i hj)
    have r := vRun_round hm hA os (vOne m zs (eAt es i)) (by rw [hl1]; exact hl) (by rw [hl1]; exact he) h1 ho' (fun v h => by
      rw [hl1] at h
      exact le_trans' hm (hup v h) (hb v h))
    have s := (vRun_step hm os (vOne m zs (eAt es i)) (by rw [hl1]; exact he) h1 ho').2
    intro j hj v h e
    rcases List.mem_cons.1 hj with rfl | hj
    · have h5 := s v (by rw [hl1]; exact h)
      refine le_trans' hm h5 ?_
      rw [vOne_at h, if_pos e]
      refine le_trans' hm (best_r hm) ?_
      unfold vGive
      exact join_mono hm (hv _ hes.1.2) (hA _ (by rw [← hl]; exact hes.1.2)) (mEdge_in hm hes.2.2) (hb _ hes.1.2)
    · exact r j hj v (by rw [hl1]; exact h) e
theorem vRun_fair {m : Int} (hm : mKind m = true) {es : List Ed} {A : List Int} (hA : vAll m A) {os : List Int} {zs : List Int} (hl : zs.length = A.length) (he : eAll zs.length es) (hv : vAll m zs) (ho : ∀ i ∈ os, oIn es.length i = true)
    (hb : ∀ v, v < zs.length → mBet m (A.getD v 0) (zs.getD v 0) = false) (hall : ∀ j, j < es.length → (j : Int) ∈ os) : ∀ v, v < zs.length → mBet m ((vRelax m es A).getD v 0) ((vRun m es zs os).getD v 0) = false := by
  intro v h
  have s := (vRun_step hm os zs he hv ho).2 v h
  have r := vRun_round hm hA os zs hl he hv ho hb
  rcases ((vFold_at hm hA es A rfl (by rw [← hl]; exact he) hA).2 v (by omega)).2.2 with h3 | ⟨e, hin, e1, e2⟩
  · rw [show (vRelax m es A).getD v 0 = A.getD v 0 from h3]
    exact le_trans' hm s (hb v h)
  · rw [show (vRelax m es A).getD v 0 = vGive m A e from e2]
    obtain ⟨j, hj, rfl⟩ := List.getElem_of_mem hin
    have hq : eAt es (j : Int) = es[j] := by simp [eAt, List.getD, hj]
    have := r (j : Int) (hall j hj) v h (by rw [hq]; exact e1)
    rw [hq] at this
    exact this
end Go.Proofs.Ytlgjcofpdaljnaa
namespace Go.Proofs.Ytlgjcofpdaljnaa
open Go.RowKit
set_option linter.unusedVariables false
set_option linter.unusedSimpArgs false

/-- A node that changes in round k + 1 has k + 1 other nodes ahead of it, all with values that are not worse. -/
theorem vChainG {m : Int} (hm : mKind m = true) {es : List Ed} {zs : List Int} (hv0 : vAll m zs) (he : eAll zs.length es) : ∀ (k : Nat) (v : Nat), v < zs.length →
    (vIter m es (k + 1) zs).getD v 0 ≠ (vIter m es k zs).getD v 0 →
    ∃ l : List Nat, l.length = k + 2 ∧ l.Nodup ∧ (∀ x ∈ l, x < zs.length) ∧ ∀ x ∈ l, mBet m ((vIter m es (k + 1) zs).getD v 0) ((vIter m es (k + 1) zs).getD x 0) = false := by
  have hlen : ∀ k, (vIter m es k zs).length = zs.length := fun k => vIter_length m es zs k
  have hall : ∀ k, vAll m (vIter m es k zs) := vIter_all hm hv0 he
  have hstep : ∀ k v, v < zs.length → _ := fun k v hv => (vFold_at hm (hall k) es (vIter m es k zs) rfl (by rw [hlen]; exact he) (hall k)).2 v (by rw [hlen]; exact hv)
  have hgo : ∀ k v, v < zs.length → mBet m ((vIter m es k zs).getD v 0) ((vIter m es (k + 1) zs).getD v 0) = false := fun k v hv => (hstep k v hv).1
  -- one step: the list of the node ahead, and the node itself
  have hone : ∀ k v u (l : List Nat), v < zs.length → (vIter m es (k + 1) zs).getD v 0 ≠ (vIter m es k zs).getD v 0 →
      mBet m ((vIter m es (k + 1) zs).getD v 0) ((vIter m es k zs).getD u 0) = false →
      l.Nodup → (∀ x ∈ l, x < zs.length) → (∀ x ∈ l, mBet m ((vIter m es k zs).getD u 0) ((vIter m es k zs).getD x 0) = false) →
      (v :: l).Nodup ∧ (∀ x ∈ v :: l, x < zs.length) ∧ ∀ x ∈ v :: l, mBet m ((vIter m es (k + 1) zs).getD v 0) ((vIter m es (k + 1) zs).getD x 0) = false := by
    intro k v u l hv hne huv hnd hlt hle
    refine ⟨List.nodup_cons.2 ⟨fun hin => ?_, hnd⟩, ?_, ?_⟩
    · exact hne (le_anti hm (le_trans' hm (hle v hin) huv) (hgo k v hv)).symm
    · intro x hx
      rcases List.mem_cons.1 hx with rfl | hx
      · exact hv
      · exact hlt x hx
    · intro x hx
      rcases List.mem_cons.1 hx with rfl | hx
      · exact le_refl' hm
      · exact le_trans' hm (hgo k x (hlt x hx)) (le_trans' hm (hle x hx) huv)
  -- the edge that made the change
  have hedge : ∀ k v, v < zs.length → (vIter m es (k + 1) zs).getD v 0 ≠ (vIter m es k zs).getD v 0 →
      ∃ e ∈ es, e.2.1.toNat = v ∧ (vIter m es (k + 1) zs).getD v 0 = vGive m (vIter m es k zs) e := by
    intro k v hv hne
    rcases (hstep k v hv).2.2 with h | h
    · exact absurd h hne
    · exact h
  have hnot : ∀ k v, v < zs.length → (e : Ed) → e ∈ es → (vIter m es (k + 1) zs).getD v 0 = vGive m (vIter m es k zs) e →
      mBet m ((vIter m es (k + 1) zs).getD v 0) ((vIter m es k zs).getD e.1.toNat 0) = false := by
    intro k v hv e hein heq
    have hes := he e hein
    rw [heq]
    exact join_worse hm (hall k _ (by rw [hlen]; exact hes.1.2)) (mEdge_in hm hes.2.2)
  intro k
  induction k with
  | zero =>
    intro v hv hne
    obtain ⟨e, hein, hev, heq⟩ := hedge 0 v hv hne
    have hes := he e hein
    have h4 := hnot 0 v hv e hein heq
    have h5 := hone 0 v e.1.toNat [e.1.toNat] hv hne h4 (by simp) (by simpa using hes.1.2) (by intro x hx; rw [List.mem_singleton.1 hx]; exact le_refl' hm)
    exact ⟨_, rfl, h5⟩
  | succ k ih =>
    intro v hv hne
    obtain ⟨e, hein, hev, heq⟩ := hedge (k + 1) v hv hne
    have hes := he e hein
    have hu : (vIter m es (k + 1) zs).getD e.1.toNat 0 ≠ (vIter m es k zs).getD e.1.toNat 0 := by
      intro hu
      have h2 : vGive m (vIter m es (k + 1) zs) e = vGive m (vIter m es k zs) e := by unfold vGive; rw [hu]
      have h3 := (hstep k v hv).2.1 e hein hev
      rw [← h2, ← heq] at h3
      exact hne (le_anti hm (hgo (k + 1) v hv) h3)
    obtain ⟨l, hl, h5, h6, h7⟩ := ih e.1.toNat hes.1.2 hu
    have h8 := hone (k + 1) v e.1.toNat l hv hne (hnot (k + 1) v hv e hein heq) h5 h6 h7
    exact ⟨_, by rw [List.length_cons, hl], h8⟩
/-- After as many rounds as there are nodes less one nothing changes. -/
theorem vEndG {m : Int} (hm : mKind m = true) {es : List Ed} {zs : List Int} (hv0 : vAll m zs) (he : eAll zs.length es) {k : Nat} (hk : zs.length ≤ k + 1) : vIter m es (k + 1) zs = vIter m es k zs := by
  apply eq_of_at
  · rw [vIter_length, vIter_length]
  · intro i hi
    rw [vIter_length] at hi
    apply Classical.byContradiction
    intro hne
    obtain ⟨l, h1, h2, h3, _⟩ := vChainG hm hv0 he k i hi hne
    have := pigeons _ l h2 h3
    omega
end Go.Proofs.Ytlgjcofpdaljnaa
