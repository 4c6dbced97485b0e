/- Relaxing ends from every view: mathematics. -/
import Derived.Test.YtjcfefpcilhelaaView0
namespace Go.Proofs.Ytjcfefpcilhelaa
open Go.RowKit
set_option linter.unusedVariables false
set_option linter.unusedSimpArgs false

/-- A node that changes in round k + 1 has k + 1 other nodes ahead of it, all with values that are not worse. -/
theorem vChainG {m : Int} (hm : mKind m = true) {es : List Ed} {zs : List Int} (hv0 : vAll m zs) (he : eAll zs.length es) : ∀ (k : Nat) (v : Nat), v < zs.length →
    (vIter m es (k + 1) zs).getD v 0 ≠ (vIter m es k zs).getD v 0 →
    ∃ l : List Nat, l.length = k + 2 ∧ l.Nodup ∧ (∀ x ∈ l, x < zs.length) ∧ ∀ x ∈ l, mBet m ((vIter m es (k + 1) zs).getD v 0) ((vIter m es (k + 1) zs).getD x 0) = false := by
  have hlen : ∀ k, (vIter m es k zs).length = zs.length := fun k => vIter_length m es zs k
  have hall : ∀ k, vAll m (vIter m es k zs) := vIter_all hm hv0 he
  have hstep : ∀ k v, v < zs.length → _ := fun k v hv => (vFold_at hm (hall k) es (vIter m es k zs) rfl (by rw [hlen]; exact he) (hall k)).2 v (by rw [hlen]; exact hv)
  have hgo : ∀ k v, v < zs.length → mBet m ((vIter m es k zs).getD v 0) ((vIter m es (k + 1) zs).getD v 0) = false := fun k v hv => (hstep k v hv).1
  -- one step: the list of the node ahead, and the node itself
  have hone : ∀ k v u (l : List Nat), v < zs.length → (vIter m es (k + 1) zs).getD v 0 ≠ (vIter m es k zs).getD v 0 →
      mBet m ((vIter m es (k + 1) zs).getD v 0) ((vIter m es k zs).getD u 0) = false →
      l.Nodup → (∀ x ∈ l, x < zs.length) → (∀ x ∈ l, mBet m ((vIter m es k zs).getD u 0) ((vIter m es k zs).getD x 0) = false) →
      (v :: l).Nodup ∧ (∀ x ∈ v :: l, x < zs.length) ∧ ∀ x ∈ v :: l, mBet m ((vIter m es (k + 1) zs).getD v 0) ((vIter m es (k + 1) zs).getD x 0) = false := by
    intro k v u l hv hne huv hnd hlt hle
    refine ⟨List.nodup_cons.2 ⟨fun hin => ?_, hnd⟩, ?_, ?_⟩
    · exact hne (le_anti hm (le_trans' hm (hle v hin) huv) (hgo k v hv)).symm
    · intro x hx
      rcases List.mem_cons.1 hx with rfl | hx
      · exact hv
      · exact hlt x hx
    · intro x hx
      rcases List.mem_cons.1 hx with rfl | hx
      · exact le_refl' hm
      · exact le_trans' hm (hgo k x (hlt x hx)) (le_trans' hm (hle x hx) huv)
  -- the edge that made the change
  have hedge : ∀ k v, v < zs.length → (vIter m es (k + 1) zs).getD v 0 ≠ (vIter m es k zs).getD v 0 →
      ∃ e ∈ es, e.2.1.toNat = v ∧ (vIter m es (k + 1) zs).getD v 0 = vGive m (vIter m es k zs) e := by
    intro k v hv hne
    rcases (hstep k v hv).2.2 with h | h
    · exact absurd h hne
    · exact h
  have hnot : ∀ k v, v < zs.length → (e : Ed) → e ∈ es → (vIter m es (k + 1) zs).getD v 0 = vGive m (vIter m es k zs) e →
      mBet m ((vIter m es (k + 1) zs).getD v 0) ((vIter m es k zs).getD e.1.toNat 0) = false := by
    intro k v hv e hein heq
    have hes := he e hein
    rw [heq]
    exact join_worse hm (hall k _ (by rw [hlen]; exact hes.1.2)) (mEdge_in hm hes.2.2)
  intro k
  induction k with
  | zero =>
    intro v hv hne
    obtain ⟨e, hein, hev, heq⟩ := hedge 0 v hv hne
    have hes := he e hein
    have h4 := hnot 0 v hv e hein heq
    have h5 := hone 0 v e.1.toNat [e.1.toNat] hv hne h4 (by simp) (by simpa using hes.1.2) (by intro x hx; rw [List.mem_singleton.1 hx]; exact le_refl' hm)
    exact ⟨_, rfl, h5⟩
  | succ k ih =>
    intro v hv hne
    obtain ⟨e, hein, hev, heq⟩ := hedge (k + 1) v hv hne
    have hes := he e hein
    have hu : (vIter m es (k + 1) zs).getD e.1.toNat 0 ≠ (vIter m es k zs).getD e.1.toNat 0 := by
      intro hu
      have h2 : vGive m (vIter m es (k + 1) zs) e = vGive m (vIter m es k zs) e := by unfold vGive; rw [hu]
      have h3 := (hstep k v hv).2.1 e hein hev
      rw [← h2, ← heq] at h3
      exact hne (le_anti hm (hgo (k + 1) v hv) h3)
    obtain ⟨l, hl, h5, h6, h7⟩ := ih e.1.toNat hes.1.2 hu
    have h8 := hone (k + 1) v e.1.toNat l hv hne (hnot (k + 1) v hv e hein heq) h5 h6 h7
    exact ⟨_, by rw [List.length_cons, hl], h8⟩
/-- After as many rounds as there are nodes less one nothing changes. -/
theorem vEndG {m : Int} (hm : mKind m = true) {es : List Ed} {zs : List Int} (hv0 : vAll m zs) (he : eAll zs.length es) {k : Nat} (hk : zs.length ≤ k + 1) : vIter m es (k + 1) zs = vIter m es k zs := by
  apply eq_of_at
  · rw [vIter_length, vIter_length]
  · intro i hi
    rw [vIter_length] at hi
    apply Classical.byContradiction
    intro hne
    obtain ⟨l, h1, h2, h3, _⟩ := vChainG hm hv0 he k i hi hne
    have := pigeons _ l h2 h3
    omega
end Go.Proofs.Ytjcfefpcilhelaa
