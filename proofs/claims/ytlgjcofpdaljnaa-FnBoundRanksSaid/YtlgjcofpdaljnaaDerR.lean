/- Ranks are in order, and hold each node: mathematics. -/
import Derived.Test.YtlgjcofpdaljnaaDerN
import Derived.Test.YtlgjcofpdaljnaaGvInts
namespace Go.Proofs.Ytlgjcofpdaljnaa
open Go.RowKit Go.BigFrame Go.Deep
set_option linter.unusedVariables false
set_option linter.unusedSimpArgs false

def keyM (m u : Int) : Int := if m = 2 ∨ m = 4 then -u else u
theorem mBet_key (m u v : Int) : mBet m u v = decide (keyM m u < keyM m v) := by
  unfold mBet keyM
  split
  · rw [decide_eq_decide]; omega
  · rfl
theorem keyM_inj {m u v : Int} (h : keyM m u = keyM m v) : u = v := by
  unfold keyM at h
  split at h <;> omega
def vlZ (zs : List Int) (x : Int) : Int := zs.getD x.toNat 0
def inF (m : Int) (zs : List Int) (x y : Int) : Prop := keyM m (vlZ zs x) < keyM m (vlZ zs y) ∨ (vlZ zs x = vlZ zs y ∧ x < y)
theorem rkB_key (m : Int) (zs : List Int) (x y : Int) : rkB m zs x y = decide (keyM m (vlZ zs x) < keyM m (vlZ zs y)) := mBet_key _ _ _
theorem plc_spec (lt : Int → Int → Bool) (x : Int) (l : List Int) : ∀ n, (∀ q, plc lt x l n ≤ q → q < n → lt x (l.getD q 0) = true) ∧ (0 < plc lt x l n → lt x (l.getD (plc lt x l n - 1) 0) = false)
  | 0 => ⟨fun q _ h => by omega, fun h => by simp [plc] at h⟩
  | n + 1 => by
    have ih := plc_spec lt x l n
    cases hb : lt x (l.getD n 0)
    · have e : plc lt x l (n + 1) = n + 1 := by rw [plc, if_neg (by rw [hb]; decide)]
      rw [e]
      exact ⟨fun q h1 h2 => by omega, fun _ => by simpa using hb⟩
    · have e : plc lt x l (n + 1) = plc lt x l n := by rw [plc, if_pos hb]
      rw [e]
      refine ⟨fun q h1 h2 => ?_, ih.2⟩
      by_cases hq : q = n
      · rw [hq]; exact hb
      · exact ih.1 q h1 (by omega)
theorem rk_sorted (m : Int) (zs : List Int) : ∀ i, (rkL (rkB m zs) i).Pairwise (inF m zs)
  | 0 => List.Pairwise.nil
  | i + 1 => by
    have ih := rk_sorted m zs i
    have hlen := rkL_len (rkB m zs) i
    have hmem := rkL_mem (rkB m zs) i
    obtain ⟨P, hP⟩ : ∃ P, P = rkL (rkB m zs) i := ⟨_, rfl⟩
    show (insX (rkB m zs) (i : Int) (rkL (rkB m zs) i)).Pairwise _
    rw [← hP] at ih hlen hmem ⊢
    unfold insX
    have hsp := plc_spec (rkB m zs) (i : Int) P P.length
    have hle := plc_le (rkB m zs) (i : Int) P P.length
    generalize plc (rkB m zs) (i : Int) P P.length = p at hsp hle
    have hpa : (P.take p ++ P.drop p).Pairwise (inF m zs) := by rw [List.take_append_drop]; exact ih
    obtain ⟨h1, h2, h3⟩ := List.pairwise_append.1 hpa
    have hpi := List.pairwise_iff_getElem.1 ih
    have hxb : ∀ b ∈ P.drop p, inF m zs (i : Int) b := fun b hb => by
      obtain ⟨q, hq, rfl⟩ := List.getElem_of_mem hb
      rw [List.length_drop] at hq
      have := hsp.1 (p + q) (by omega) (by omega)
      rw [rkB_key, decide_eq_true_eq] at this
      left
      simpa [List.getD, show p + q < P.length by omega] using this
    have hax : ∀ a ∈ P.take p, inF m zs a (i : Int) := fun a ha => by
      obtain ⟨q, hq, rfl⟩ := List.getElem_of_mem ha
      rw [List.length_take] at hq
      have hq2 : q < P.length := by omega
      have hp1 : p - 1 < P.length := by omega
      have hb := hsp.2 (by omega)
      rw [rkB_key, decide_eq_false_iff_not] at hb
      have ey : P.getD (p - 1) 0 = P[p - 1] := by simp [List.getD, hp1]
      rw [ey] at hb
      have ea : (P.take p)[q] = P[q] := by simp
      rw [ea]
      have hlt : P[q] < (i : Int) := (hmem _ (List.getElem_mem hq2)).2
      have hk : keyM m (vlZ zs P[q]) ≤ keyM m (vlZ zs P[p - 1]) := by
        by_cases e : q = p - 1
        · subst e; exact Int.le_refl _
        · rcases hpi q (p - 1) hq2 hp1 (by omega) with h | ⟨h, _⟩
          · exact Int.le_of_lt h
          · rw [h]; exact Int.le_refl _
      by_cases e : keyM m (vlZ zs P[q]) < keyM m (vlZ zs (i : Int))
      · exact .inl e
      · exact .inr ⟨keyM_inj (m := m) (by omega), hlt⟩
    rw [List.pairwise_append]
    refine ⟨h1, List.pairwise_cons.2 ⟨hxb, h2⟩, fun a ha b hb => ?_⟩
    rcases List.mem_cons.1 hb with rfl | hb
    · exact hax a ha
    · exact h3 a ha b hb
theorem rk_all (m : Int) (zs : List Int) : ∀ (i k : Nat), k < i → (k : Int) ∈ rkL (rkB m zs) i
  | 0, k, h => by omega
  | i + 1, k, h => by
    show (k : Int) ∈ insX (rkB m zs) (i : Int) (rkL (rkB m zs) i)
    unfold insX
    rw [List.mem_append, List.mem_cons]
    by_cases e : k = i
    · subst e; exact .inr (.inl rfl)
    · have ih := rk_all m zs i k (by omega)
      rw [← List.take_append_drop (plc (rkB m zs) (i : Int) (rkL (rkB m zs) i) (rkL (rkB m zs) i).length) (rkL (rkB m zs) i), List.mem_append] at ih
      rcases ih with h1 | h1
      · exact .inl (by simpa using h1)
      · exact .inr (.inr (by simpa using h1))
theorem rk_in (m : Int) (zs : List Int) {N k : Nat} (h : k < N) : inL (rkL (rkB m zs) N) (k : Int) = true := decide_eq_true (rk_all m zs N k h)
/-- Two ranks behind each other. -/
theorem rk_ord (m : Int) (zs : List Int) {N p : Nat} (h : p + 1 < N) : ∃ Y X : Nat, (Y < N ∧ X < N) ∧ (rkL (rkB m zs) N).getD p 0 = (Y : Int) ∧ (rkL (rkB m zs) N).getD (p + 1) 0 = (X : Int) ∧ mBet m (zs.getD X 0) (zs.getD Y 0) = false ∧ (zs.getD X 0 = zs.getD Y 0 → ¬ ((X : Int) < Y)) := by
  have hl := rkL_len (rkB m zs) N
  have hs := List.pairwise_iff_getElem.1 (rk_sorted m zs N) p (p + 1) (by omega) (by omega) (by omega)
  have h1 := rkL_mem (rkB m zs) N _ (List.getElem_mem (show p < (rkL (rkB m zs) N).length by omega))
  have h2 := rkL_mem (rkB m zs) N _ (List.getElem_mem (show p + 1 < (rkL (rkB m zs) N).length by omega))
  have e1 : (rkL (rkB m zs) N).getD p 0 = (rkL (rkB m zs) N)[p] := by simp [List.getD, show p < (rkL (rkB m zs) N).length by omega]
  have e2 : (rkL (rkB m zs) N).getD (p + 1) 0 = (rkL (rkB m zs) N)[p + 1] := by simp [List.getD, show p + 1 < (rkL (rkB m zs) N).length by omega]
  rw [e1, e2]
  generalize (rkL (rkB m zs) N)[p] = y at hs h1
  generalize (rkL (rkB m zs) N)[p + 1] = x at hs h2
  obtain ⟨Y, rfl⟩ := Int.eq_ofNat_of_zero_le h1.1
  obtain ⟨X, rfl⟩ := Int.eq_ofNat_of_zero_le h2.1
  refine ⟨Y, X, ⟨by omega, by omega⟩, rfl, rfl, ?_, ?_⟩
  · rw [mBet_key, decide_eq_false_iff_not]
    unfold inF vlZ at hs
    rw [Int.toNat_natCast, Int.toNat_natCast] at hs
    rcases hs with h | ⟨h, _⟩
    · omega
    · rw [h]; omega
  · intro he
    unfold inF vlZ at hs
    rw [Int.toNat_natCast, Int.toNat_natCast] at hs
    rcases hs with h | ⟨_, h⟩
    · rw [he] at h; omega
    · omega
end Go.Proofs.Ytlgjcofpdaljnaa
