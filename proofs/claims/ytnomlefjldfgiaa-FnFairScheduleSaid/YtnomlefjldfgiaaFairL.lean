/- Fair rounds and the rounds of a view: mathematics. -/
import Derived.Test.YtnomlefjldfgiaaFair
import Derived.Test.YtnomlefjldfgiaaEndV
namespace Go.Proofs.Ytnomlefjldfgiaa
open Go.RowKit
set_option linter.unusedVariables false
set_option linter.unusedSimpArgs false

theorem count_setB : ∀ (bs : List Bool) (X : Nat), X < bs.length → bs.getD X true = false → (bs.set X true).count false + 1 = bs.count false
  | [], X, h, _ => absurd h (by simp)
  | b :: bs, 0, h, e => by
    simp [List.getD] at e
    subst e
    simp
  | b :: bs, X + 1, h, e => by
    have h1 := count_setB bs X (by simpa using h) (by simpa [List.getD] using e)
    simp only [List.set_cons_succ, List.count_cons]
    omega
theorem count_zeroB {bs : List Bool} (h : bs.count false = 0) {j : Nat} (hj : j < bs.length) : bs.getD j false = true := by
  have h1 : false ∉ bs := List.count_eq_zero.1 h
  have h2 : bs[j] ∈ bs := List.getElem_mem hj
  simp only [List.getD, List.getElem?_eq_getElem hj, Option.getD_some]
  cases e : bs[j]
  · rw [e] at h2; exact absurd h2 h1
  · rfl
theorem getD_setF {bs : List Bool} {X j : Nat} (h : j ≠ X) : (bs.set X true).getD j false = bs.getD j false := by
  simp only [List.getD, List.getElem?_set]
  rw [if_neg (by omega)]

/-- At k, in a round that began at s. -/
structure FrSeg (m : Int) (es : List Ed) (U : List Int) (os : List Int) (k s : Nat) : Prop where
  sk : s ≤ k
  left : (fr es.length (os.take k)).left = (fr es.length (os.take k)).bs.count false
  len : (fr es.length (os.take k)).bs.length = es.length
  mem : ∀ j, j < es.length → (fr es.length (os.take k)).bs.getD j false = true → (j : Int) ∈ (os.take k).drop s
  le : ∀ v, v < U.length → mBet m ((vIter m es (fr es.length (os.take k)).n U).getD v 0) ((vRun m es U (os.take s)).getD v 0) = false

theorem drop_snoc {os : List Int} {k s : Nat} (hk : k < os.length) (hs : s ≤ k) : (os.take (k + 1)).drop s = (os.take k).drop s ++ [os.getD k 0] := by
  rw [List.take_succ_eq_append_getElem hk, List.drop_append_of_le_length (by simp; omega)]
  simp [List.getD, hk]
theorem vRun_split {m : Int} {es : List Ed} {U os : List Int} {k s : Nat} (hs : s ≤ k) : vRun m es U (os.take k) = vRun m es (vRun m es U (os.take s)) ((os.take k).drop s) := by
  rw [← vRun_append]
  congr 1
  have h := List.take_append_drop s (os.take k)
  rw [List.take_take, Nat.min_eq_left hs] at h
  exact h.symm

theorem fr_seg {m : Int} (hm : mKind m = true) {es : List Ed} {U os : List Int} (he : eAll U.length es) (hv : vAll m U) (ho : ∀ i ∈ os, oIn es.length i = true) (hA : ∀ k, vAll m (vIter m es k U)) : ∀ k, k ≤ os.length → ∃ s, FrSeg m es U os k s
  | 0, _ => ⟨0, Nat.le_refl _, by simp [fr, frNew], by simp [fr, frNew], fun j hj h => by
      have : (List.replicate es.length false).getD j false = true := h
      simp [List.getD, hj] at this, fun v h => le_refl' hm⟩
  | k + 1, hk => by
    obtain ⟨s, S⟩ := fr_seg hm he hv ho hA k (by omega)
    have hkl : k < os.length := by omega
    have hin := ho (os.getD k 0) (by simp only [List.getD, List.getElem?_eq_getElem hkl, Option.getD_some]; exact List.getElem_mem hkl)
    unfold oIn at hin
    rw [Bool.and_eq_true, decide_eq_true_eq, decide_eq_true_eq] at hin
    have hdr := drop_snoc hkl S.sk
    have hst := fr_succ es.length os hkl
    obtain ⟨x, hx⟩ : ∃ x, x = os.getD k 0 := ⟨_, rfl⟩
    rw [← hx] at hin hdr hst
    obtain ⟨X, rfl⟩ : ∃ X : Nat, x = X := ⟨x.toNat, by omega⟩
    have hX : X < es.length := by omega
    unfold frStep at hst
    rw [Int.toNat_natCast] at hst
    cases hb : (fr es.length (os.take k)).bs.getD X true
    · rw [hb, if_neg (by decide)] at hst
      have hc := count_setB _ X (by rw [S.len]; exact hX) hb
      have hmem : ∀ j, j < es.length → ((fr es.length (os.take k)).bs.set X true).getD j false = true → (j : Int) ∈ (os.take (k + 1)).drop s := fun j hj h => by
        rw [hdr]
        by_cases e : j = X
        · subst e; exact List.mem_append_right _ (by simp)
        · rw [getD_setF e] at h
          exact List.mem_append_left _ (S.mem j hj h)
      by_cases h1 : (fr es.length (os.take k)).left = 1
      · rw [if_pos h1] at hst
        refine ⟨k + 1, Nat.le_refl _, by rw [hst]; simp [frNew], by rw [hst]; simp [frNew], fun j hj h => ?_, fun v h => ?_⟩
        · rw [hst] at h
          have : (List.replicate es.length false).getD j false = true := h
          simp [List.getD, hj] at this
        · rw [hst, vRun_split (s := s) (by have := S.sk; omega)]
          show mBet m ((vRelax m es (vIter m es (fr es.length (os.take k)).n U)).getD v 0) _ = false
          refine vRun_fair hm (hA _) (by rw [vRun_length, vIter_length]) (by rw [vRun_length]; exact he) (vRun_step hm (os.take s) U he hv (fun i hi => ho i (List.mem_of_mem_take hi))).1 (fun i hi => ho i (List.mem_of_mem_take (List.mem_of_mem_drop hi))) (fun v h => S.le v (by rw [vRun_length] at h; exact h)) (fun j hj => hmem j hj (count_zeroB (by rw [← S.left, h1] at hc; omega) (by rw [List.length_set, S.len]; exact hj))) v (by rw [vRun_length]; exact h)
      · rw [if_neg h1] at hst
        refine ⟨s, by have := S.sk; omega, by rw [hst]; have hl := S.left; show (fr es.length (os.take k)).left - 1 = ((fr es.length (os.take k)).bs.set X true).count false; omega, by rw [hst]; simp [S.len], fun j hj h => ?_, fun v h => ?_⟩
        · rw [hst] at h; exact hmem j hj h
        · rw [hst]; exact S.le v h
    · rw [hb, if_pos rfl] at hst
      refine ⟨s, by have := S.sk; omega, by rw [hst]; exact S.left, by rw [hst]; exact S.len, fun j hj h => ?_, fun v h => ?_⟩
      · rw [hst] at h
        rw [hdr]
        exact List.mem_append_left _ (S.mem j hj h)
      · rw [hst]; exact S.le v h

/-- After n fair rounds the values are at least as good as those after n rounds. -/
theorem fr_run {m : Int} (hm : mKind m = true) {es : List Ed} {U os : List Int} (he : eAll U.length es) (hv : vAll m U) (ho : ∀ i ∈ os, oIn es.length i = true) (hA : ∀ k, vAll m (vIter m es k U)) :
    ∀ v, v < U.length → mBet m ((vIter m es (fr es.length os).n U).getD v 0) ((vRun m es U os).getD v 0) = false := by
  intro v h
  obtain ⟨s, S⟩ := fr_seg hm he hv ho hA os.length (Nat.le_refl _)
  have h1 := S.le v h
  rw [List.take_length] at h1
  have h2 : vRun m es U os = vRun m es (vRun m es U (os.take s)) (os.drop s) := by
    rw [← vRun_append, List.take_append_drop]
  rw [h2]
  exact le_trans' hm ((vRun_step hm (os.drop s) _ (by rw [vRun_length]; exact he) (vRun_step hm (os.take s) U he hv (fun i hi => ho i (List.mem_of_mem_take hi))).1 (fun i hi => ho i (List.mem_of_mem_drop hi))).2 v (by rw [vRun_length]; exact h)) h1
end Go.Proofs.Ytnomlefjldfgiaa
