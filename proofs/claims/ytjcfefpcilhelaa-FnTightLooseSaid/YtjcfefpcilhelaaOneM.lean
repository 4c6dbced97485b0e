/- Edges relaxed one by one: mathematics. -/
import Derived.Test.YtjcfefpcilhelaaView0
namespace Go.Proofs.Ytjcfefpcilhelaa
open Go.RowKit
set_option linter.unusedVariables false
set_option linter.unusedSimpArgs false

/-- Does relaxing an edge change something? -/
def vLo (m : Int) (zs : List Int) (e : Ed) : Bool := mBet m (vGive m zs e) (zs.getD e.2.1.toNat 0)
/-- One edge is relaxed. -/
def vOne (m : Int) (zs : List Int) (e : Ed) : List Int := vUp m zs zs e
/-- The edge with a number. -/
def eAt (es : List Ed) (i : Int) : Ed := es.getD i.toNat (0, 0, 0)
/-- Edges are relaxed in an order. -/
def vRun (m : Int) (es : List Ed) (zs : List Int) (os : List Int) : List Int := os.foldl (fun zs i => vOne m zs (eAt es i)) zs
def oIn (l i : Int) : Bool := decide (0 ≤ i) && decide (i < l)
/-- Is it an order of so many edges? -/
def oOk (l : Nat) (os : List Int) : Bool := decide (os.length ≤ 500) && os.all (oIn l)
theorem vOne_length (m : Int) (zs : List Int) (e : Ed) : (vOne m zs e).length = zs.length := vUp_length m zs zs e
theorem vRun_length (m : Int) (es : List Ed) : ∀ (os : List Int) (zs : List Int), (vRun m es zs os).length = zs.length
  | [], _ => rfl
  | i :: os, zs => by
    show (vRun m es (vOne m zs (eAt es i)) os).length = _
    rw [vRun_length m es os, vOne_length]
theorem vRun_append (m : Int) (es : List Ed) (zs : List Int) (a b : List Int) : vRun m es zs (a ++ b) = vRun m es (vRun m es zs a) b := by
  unfold vRun; rw [List.foldl_append]
theorem vRun_take (m : Int) (es : List Ed) (zs : List Int) (os : List Int) (k : Nat) (h : k < os.length) : vRun m es zs (os.take (k + 1)) = vOne m (vRun m es zs (os.take k)) (eAt es (os.getD k 0)) := by
  rw [List.take_succ_eq_append_getElem h, vRun_append]
  simp [vRun, List.getD, h]
theorem vRun_all' (m : Int) (es : List Ed) (zs : List Int) (os : List Int) : vRun m es zs (os.take os.length) = vRun m es zs os := by rw [List.take_length]
theorem set_same (zs : List Int) (k : Nat) (h : k < zs.length) : zs.set k (zs.getD k 0) = zs := by
  apply eq_of_at
  · simp
  · intro i hi
    have hi' : i < zs.length := by simpa using hi
    rw [getD_set _ _ _ _ hi']
    by_cases e : k = i
    · subst e; simp
    · simp [e]
/-- An edge that isn't loose changes nothing. -/
theorem vOne_still {m : Int} {zs : List Int} {e : Ed} (h : vLo m zs e = false) (ht : e.2.1.toNat < zs.length) : vOne m zs e = zs := by
  unfold vOne vUp mBest
  unfold vLo at h
  rw [h]
  exact set_same zs _ ht
theorem vOne_loose {m : Int} {zs : List Int} {e : Ed} (h : vLo m zs e = true) : vOne m zs e = zs.set e.2.1.toNat (vGive m zs e) := by
  unfold vOne vUp mBest
  unfold vLo at h
  rw [if_pos h]
theorem vOne_at {m : Int} {zs : List Int} {e : Ed} {v : Nat} (hv : v < zs.length) : (vOne m zs e).getD v 0 = if e.2.1.toNat = v then mBest m (zs.getD v 0) (vGive m zs e) else zs.getD v 0 := by
  unfold vOne vUp
  rw [getD_set _ _ _ _ hv]
  by_cases h : e.2.1.toNat = v
  · subst h; rfl
  · rw [if_neg h, if_neg h]
theorem bet_irr (m a : Int) : mBet m a a = false := by unfold mBet; split <;> simp
theorem vOne_ne {m : Int} {zs : List Int} {e : Ed} (h : vLo m zs e = true) (ht : e.2.1.toNat < zs.length) : vOne m zs e ≠ zs := by
  intro he
  have h1 := vOne_at (m := m) (e := e) ht
  rw [he, if_pos rfl] at h1
  unfold vLo at h
  unfold mBest at h1
  rw [if_pos h] at h1
  rw [← h1, bet_irr] at h
  cases h
theorem vOne_all {m : Int} {zs : List Int} {e : Ed} (hm : mKind m = true) (hv : vAll m zs) (h1 : e.1.toNat < zs.length) (hw : mWeight e.2.2 = true) : vAll m (vOne m zs e) := by
  intro i hi
  rw [vOne_length] at hi
  rw [vOne_at hi]
  split
  · exact best_in (hv i hi) (give_in hm hv h1 hw)
  · exact hv i hi
theorem eAt_in {es : List Ed} {i : Int} (h : oIn es.length i = true) : eAt es i ∈ es := by
  simp only [oIn, Bool.and_eq_true, decide_eq_true_eq] at h
  unfold eAt
  have h2 : i.toNat < es.length := by omega
  simp [List.getD, h2]
theorem oOk_at {l : Nat} {os : List Int} (h : oOk l os = true) {k : Nat} (hk : k < os.length) : oIn l (os.getD k 0) = true := by
  simp only [oOk, Bool.and_eq_true, List.all_eq_true] at h
  have : os.getD k 0 ∈ os := by simp [List.getD, hk]
  exact h.2 _ this
theorem oOk_len {l : Nat} {os : List Int} (h : oOk l os = true) : os.length ≤ 500 := by
  simp only [oOk, Bool.and_eq_true, decide_eq_true_eq] at h
  exact h.1
theorem oOk_all {l : Nat} {os : List Int} (h : oOk l os = true) : ∀ i ∈ os, oIn l i = true := by
  simp only [oOk, Bool.and_eq_true, List.all_eq_true] at h
  exact h.2
/-- What a run keeps and does to the values. -/
theorem vRun_step {m : Int} (hm : mKind m = true) {es : List Ed} : ∀ (os : List Int) (zs : List Int), eAll zs.length es → vAll m zs → (∀ i ∈ os, oIn es.length i = true) →
    vAll m (vRun m es zs os) ∧ ∀ v, v < zs.length → mBet m (zs.getD v 0) ((vRun m es zs os).getD v 0) = false
  | [], zs, he, hv, ho => ⟨hv, fun v h => le_refl' hm⟩
  | i :: os, zs, he, hv, ho => by
    have hi := ho i (List.mem_cons_self ..)
    have hes := he _ (eAt_in hi)
    have h1 := vOne_all hm hv hes.1.2 hes.2.2
    obtain ⟨r1, r2⟩ := vRun_step hm os (vOne m zs (eAt es i)) (by rw [vOne_length]; exact he) h1 (fun j hj => ho j (List.mem_cons_of_mem _ hj))
    refine ⟨r1, fun v h => ?_⟩
    have r3 := r2 v (by rw [vOne_length]; exact h)
    refine le_trans' hm r3 ?_
    rw [vOne_at h]
    split
    · exact best_l hm
    · exact le_refl' hm
/-- What is not better than a stable view does not become so. -/
theorem vRun_bound {m : Int} (hm : mKind m = true) {es : List Ed} {R : List Int} (hR : vAll m R) (hfix : ∀ e ∈ es, mBet m (vGive m R e) (R.getD e.2.1.toNat 0) = false) : ∀ (os : List Int) (zs : List Int), zs.length = R.length → eAll zs.length es → vAll m zs → (∀ i ∈ os, oIn es.length i = true) →
    (∀ v, v < zs.length → mBet m (zs.getD v 0) (R.getD v 0) = false) → ∀ v, v < zs.length → mBet m ((vRun m es zs os).getD v 0) (R.getD v 0) = false
  | [], zs, hl, he, hv, ho, hb => hb
  | i :: os, zs, hl, he, hv, ho, hb => by
    have hi := ho i (List.mem_cons_self ..)
    have hes := he _ (eAt_in hi)
    have h1 := vOne_all hm hv hes.1.2 hes.2.2
    have r := vRun_bound hm hR hfix os (vOne m zs (eAt es i)) (by rw [vOne_length]; exact hl) (by rw [vOne_length]; exact he) h1 (fun j hj => ho j (List.mem_cons_of_mem _ hj)) (fun v h => by
      rw [vOne_length] at h
      rw [vOne_at h]
      split
      · next e =>
        have h2 := hb v h
        rcases best_or m (zs.getD v 0) (vGive m zs (eAt es i)) with hq | hq
        · rw [hq]; exact h2
        · rw [hq]
          have h3 := hfix _ (eAt_in hi)
          rw [e] at h3
          have h4 : mBet m (vGive m zs (eAt es i)) (vGive m R (eAt es i)) = false := by
            unfold vGive
            exact join_mono hm (hR _ (by rw [← hl]; exact hes.1.2)) (hv _ hes.1.2) (mEdge_in hm hes.2.2) (hb _ hes.1.2)
          exact le_trans' hm h3 h4
      · exact hb v h)
    intro v h
    exact r v (by rw [vOne_length]; exact h)
/-- A stable view stays. -/
theorem vRun_still {m : Int} {es : List Ed} {R : List Int} (he : eAll R.length es) (hfix : ∀ e ∈ es, mBet m (vGive m R e) (R.getD e.2.1.toNat 0) = false) : ∀ (os : List Int), (∀ i ∈ os, oIn es.length i = true) → vRun m es R os = R
  | [], _ => rfl
  | i :: os, ho => by
    have hi := ho i (List.mem_cons_self ..)
    show vRun m es (vOne m R (eAt es i)) os = R
    rw [vOne_still (hfix _ (eAt_in hi)) (he _ (eAt_in hi)).2.1.2]
    exact vRun_still he hfix os (fun j hj => ho j (List.mem_cons_of_mem _ hj))
/-- Relaxing nothing: no edge is loose. -/
theorem fix_of_relax {m : Int} (hm : mKind m = true) {es : List Ed} {R : List Int} (he : eAll R.length es) (hv : vAll m R) (h : vRelax m es R = R) : ∀ e ∈ es, mBet m (vGive m R e) (R.getD e.2.1.toNat 0) = false := by
  intro e hin
  have h1 := ((vFold_at hm hv es R rfl he hv).2 _ (he e hin).2.1.2).2.1 e hin rfl
  have h2 : es.foldl (vUp m R) R = R := h
  rw [h2] at h1
  exact h1
theorem relax_of_fix {m : Int} (hm : mKind m = true) {es : List Ed} {R : List Int} (he : eAll R.length es) (hv : vAll m R) (h : ∀ e ∈ es, mBet m (vGive m R e) (R.getD e.2.1.toNat 0) = false) : vRelax m es R = R := by
  apply eq_of_at (vRelax_length m es R)
  intro i hi
  rw [vRelax_length] at hi
  obtain ⟨h1, h2, h3⟩ := (vFold_at hm hv es R rfl he hv).2 i hi
  rcases h3 with h3 | ⟨e, hin, e1, e2⟩
  · exact h3
  · have h4 := h e hin
    rw [e1] at h4
    have e3 : (vRelax m es R).getD i 0 = vGive m R e := e2
    rw [e3]
    rw [show (es.foldl (vUp m R) R).getD i 0 = vGive m R e from e2] at h1
    exact le_anti hm h1 h4
/-- A round in which each edge comes up reaches what relaxing all of them reaches, from what is not worse. -/
theorem vRun_round {m : Int} (hm : mKind m = true) {es : List Ed} {A : List Int} (hA : vAll m A) : ∀ (os : List Int) (zs : List Int), zs.length = A.length → eAll zs.length es → vAll m zs → (∀ i ∈ os, oIn es.length i = true) →
    (∀ v, v < zs.length → mBet m (A.getD v 0) (zs.getD v 0) = false) →
    (∀ i ∈ os, ∀ v, v < zs.length → (eAt es i).2.1.toNat = v → mBet m (vGive m A (eAt es i)) ((vRun m es zs os).getD v 0) = false)
  | [], zs, hl, he, hv, ho, hb => by simp
  | i :: os, zs, hl, he, hv, ho, hb => by
    have hi := ho i (List.mem_cons_self ..)
    have hes := he _ (eAt_in hi)
    have h1 := vOne_all hm hv hes.1.2 hes.2.2
    have hup : ∀ v, v < zs.length → mBet m (zs.getD v 0) ((vOne m zs (eAt es i)).getD v 0) = false := fun v h => by
      rw [vOne_at h]
      split
      · exact best_l hm
      · exact le_refl' hm
    have hl1 := vOne_length m zs (eAt es i)
    have ho' := fun j hj => ho j (List.mem_cons_of_mem i hj)
    have r := vRun_round hm hA os (vOne m zs (eAt es i)) (by rw [hl1]; exact hl) (by rw [hl1]; exact he) h1 ho' (fun v h => by
      rw [hl1] at h
      exact le_trans' hm (hup v h) (hb v h))
    have s := (vRun_step hm os (vOne m zs (eAt es i)) (by rw [hl1]; exact he) h1 ho').2
    intro j hj v h e
    rcases List.mem_cons.1 hj with rfl | hj
    · have h5 := s v (by rw [hl1]; exact h)
      refine le_trans' hm h5 ?_
      rw [vOne_at h, if_pos e]
      refine le_trans' hm (best_r hm) ?_
      unfold vGive
      exact join_mono hm (hv _ hes.1.2) (hA _ (by rw [← hl]; exact hes.1.2)) (mEdge_in hm hes.2.2) (hb _ hes.1.2)
    · exact r j hj v (by rw [hl1]; exact h) e
theorem vRun_fair {m : Int} (hm : mKind m = true) {es : List Ed} {A : List Int} (hA : vAll m A) {os : List Int} {zs : List Int} (hl : zs.length = A.length) (he : eAll zs.length es) (hv : vAll m zs) (ho : ∀ i ∈ os, oIn es.length i = true)
    (hb : ∀ v, v < zs.length → mBet m (A.getD v 0) (zs.getD v 0) = false) (hall : ∀ j, j < es.length → (j : Int) ∈ os) : ∀ v, v < zs.length → mBet m ((vRelax m es A).getD v 0) ((vRun m es zs os).getD v 0) = false := by
  intro v h
  have s := (vRun_step hm os zs he hv ho).2 v h
  have r := vRun_round hm hA os zs hl he hv ho hb
  rcases ((vFold_at hm hA es A rfl (by rw [← hl]; exact he) hA).2 v (by omega)).2.2 with h3 | ⟨e, hin, e1, e2⟩
  · rw [show (vRelax m es A).getD v 0 = A.getD v 0 from h3]
    exact le_trans' hm s (hb v h)
  · rw [show (vRelax m es A).getD v 0 = vGive m A e from e2]
    obtain ⟨j, hj, rfl⟩ := List.getElem_of_mem hin
    have hq : eAt es (j : Int) = es[j] := by simp [eAt, List.getD, hj]
    have := r (j : Int) (hall j hj) v h (by rw [hq]; exact e1)
    rw [hq] at this
    exact this
end Go.Proofs.Ytjcfefpcilhelaa
