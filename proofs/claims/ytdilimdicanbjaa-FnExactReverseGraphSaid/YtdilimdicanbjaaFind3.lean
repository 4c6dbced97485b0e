/- l2Find and WeightOf of the model. -/
import Derived.Test.YtdilimdicanbjaaFind2
namespace Go.Proofs.Ytdilimdicanbjaa
open Go.RowKit Go.BigFrame
set_option linter.unusedVariables false
set_option linter.unusedSimpArgs false

/-- Is an edge between these ends? -/
def eBe (a b : Int) (e : Ed) : Bool := decide (e.1 = a) && decide (e.2.1 = b)
/-- The place of the first edge between two ends, or -1. -/
def lfE (es : List Ed) (a b : Int) : Int := match es.findIdx? (eBe a b) with | some i => (i : Int) | none => -1
theorem lfE_at {es : List Ed} {a b : Int} {k : Nat} (hk : k < es.length) (h1 : ∀ i, i < k → eBe a b (es.getD i (0, 0, 0)) = false) (h2 : eBe a b (es.getD k (0, 0, 0)) = true) : lfE es a b = k := by
  have : es.findIdx? (eBe a b) = some k := by
    rw [List.findIdx?_eq_some_iff_getElem]
    refine ⟨hk, by simpa [List.getD, hk] using h2, fun j hj => ?_⟩
    have := h1 j hj
    simpa [List.getD, Nat.lt_trans hj hk] using this
  unfold lfE; rw [this]
theorem lfE_none {es : List Ed} {a b : Int} (h : ∀ i, i < es.length → eBe a b (es.getD i (0, 0, 0)) = false) : lfE es a b = -1 := by
  have : es.findIdx? (eBe a b) = none := by
    rw [List.findIdx?_eq_none_iff]
    intro e he
    obtain ⟨i, hi, rfl⟩ := List.getElem_of_mem he
    have := h i hi
    simpa [List.getD, hi] using this
  unfold lfE; rw [this]
theorem lbE_lt {es : List Ed} {a b : Int} {i : Nat} (hi : i < lbE es a b) : eLt a b (es.getD i (0, 0, 0)) = true := by
  unfold lbE at hi
  induction es generalizing i with
  | nil => simp at hi
  | cons e es ih =>
    rw [List.takeWhile_cons] at hi
    by_cases he : eLt a b e = true
    · rw [if_pos he] at hi
      cases i with
      | zero => simpa [List.getD] using he
      | succ i => have := ih (i := i) (by simpa using hi); simpa [List.getD] using this
    · rw [if_neg he] at hi; simp at hi
theorem lbE_stop {es : List Ed} {a b : Int} (hi : lbE es a b < es.length) : eLt a b (es.getD (lbE es a b) (0, 0, 0)) = false := by
  unfold lbE at *
  induction es with
  | nil => simp at hi
  | cons e es ih =>
    by_cases he : eLt a b e = true
    · rw [List.takeWhile_cons, if_pos he] at hi ⊢
      have := ih (by simpa using hi)
      simpa [List.getD] using this
    · rw [List.takeWhile_cons, if_neg he]
      simpa [List.getD] using he
theorem eBe_lt {a b : Int} {e : Ed} (h : eLt a b e = true) : eBe a b e = false := by
  rw [eLt_iff] at h
  unfold eBe
  by_cases h1 : e.1 = a <;> by_cases h2 : e.2.1 = b <;> simp [h1, h2] <;> omega
theorem eBe_iff {a b : Int} {e : Ed} : eBe a b e = decide (cEnds e.1 e.2.1 a b = 0) := by
  unfold eBe
  by_cases h : cEnds e.1 e.2.1 a b = 0
  · have := cEnds_eq.1 h
    rw [decide_eq_true h]
    simp [this.1, this.2]
  · have : ¬ (e.1 = a ∧ e.2.1 = b) := fun k => h (cEnds_eq.2 k)
    rw [decide_eq_false h]
    by_cases h1 : e.1 = a <;> by_cases h2 : e.2.1 = b <;> simp [h1, h2] <;> exact this ⟨h1, h2⟩
theorem lfE_val {n : Int} {es : List Ed} (hg : gVal n es = true) (a b : Int) : lfE es a b = if fdE es a b = true then (lbE es a b : Int) else -1 := by
  cases hf : fdE es a b
  · rw [if_neg (by simp)]
    apply lfE_none
    intro i hi
    by_cases hlt : i < lbE es a b
    · exact eBe_lt (lbE_lt hlt)
    · have hl : lbE es a b < es.length := by omega
      have hs := lbE_stop hl
      unfold fdE at hf
      rw [decide_eq_true hl, Bool.true_and, ← eBe_iff] at hf
      by_cases he : i = lbE es a b
      · subst he; exact hf
      · have ho := gVal_sorted hg (show lbE es a b < i by omega) hi
        apply Bool.eq_false_iff.2
        intro hb
        have h1 : ¬ eLt a b (es.getD (lbE es a b) (0, 0, 0)) = true := by rw [hs]; simp
        rw [eLt_iff] at h1
        unfold eBe at hb
        simp only [Bool.and_eq_true, decide_eq_true_eq] at hb
        unfold EdLt at ho
        omega
  · rw [if_pos rfl]
    unfold fdE at hf
    rw [← eBe_iff] at hf
    simp only [Bool.and_eq_true, decide_eq_true_eq] at hf
    exact lfE_at hf.1 (fun i hi => eBe_lt (lbE_lt hi)) hf.2

set_option maxHeartbeats 1000000 in
theorem l2Find (n : Int) (es : List Ed) (a b : Int) (s : Value) (w : World) (hs : RowE w s es) (hl : es.length ≤ 1048576) :
    Calls Try.prog 46 #[.agg #[.int .i64 n, s], .int .i64 a, .int .i64 b] w fun e w' => e = .returned (.int .i64 (lfE es a b)) ∧ Below w.heap.size w w' := by
  obtain ⟨ad, cap, rfl, hz0⟩ := hs
  have hz := Lib.hid hz0
  clear hz0
  obtain ⟨R, hR⟩ : ∃ R, R = lfE es a b := ⟨_, rfl⟩
  rw [← hR]
  have HR := Lib.hid hR
  clear hR
  go_enter Try.func46, Try.ntmps46
  go_wp2
  go_loopw [7] (fun c wr => ∃ k : Nat, k ≤ es.length ∧ c = .int .i64 k ∧ (∀ i, i < k → eBe a b (es.getD i (0, 0, 0)) = false) ∧ Below w.heap.size w wr ∧ (wr.cell? ⟨w.heap.size, 1, none⟩ = some (.slice ad es.length cap) ∧ w.heap.size < wr.heap.size)) (fun c _ => es.length - (intOf c).toNat)
  case atStart => exact ⟨0, Nat.zero_le _, rfl, fun i hi => absurd hi (Nat.not_lt_zero _), (Below.refl _ _).alloc (Nat.le_refl _) _, by go_simp, by simp⟩
  case round =>
    obtain ⟨k, hk, rfl, hall, hbel, hx0, hsz⟩ := hrel
    have HA := Lib.hid hall
    clear hall
    by_cases hlt : k < es.length
    · have hlt' : (k : Int) < es.length := by omega
      rcases hz.out with h0 | ⟨b0, off, rfl, hb, hc⟩
      · rw [h0] at hlt; simp at hlt
      obtain ⟨x, y, z, hx⟩ : ∃ x y z, (x, y, z) = es.getD k (0, 0, 0) := ⟨_, _, _, rfl⟩
      have h1 := hc k hlt
      rw [← hx] at h1
      simp only at h1
      have c0 := (hbel.cell (p := ⟨b0, off + k * 3, none⟩) hb).trans h1.1
      have c1 := (hbel.cell (p := ⟨b0, off + k * 3 + 1, none⟩) hb).trans h1.2.1
      by_cases he : x = a ∧ y = b
      · have HO : Hid (lfE es a b = k) := Lib.hid (lfE_at hlt HA.out (by rw [← hx]; simp [eBe, he.1, he.2]))
        have d1 : (x == a) = true := by simpa using he.1
        have d2 : (y == b) = true := by simpa using he.2
        clear he hx hc h1
        go_wp2
        go_ret
        exact ⟨by rw [HR.out, HO.out]; rfl, hbel⟩
      · have HN : Hid (∀ i, i < k + 1 → eBe a b (es.getD i (0, 0, 0)) = false) := Lib.hid (fun i hi => by
          by_cases h : i = k
          · subst h; rw [← hx]; unfold eBe; by_cases h1 : x = a <;> by_cases h2 : y = b <;> simp [h1, h2] <;> exact he ⟨h1, h2⟩
          · exact HA.out i (by omega))
        clear hx hc h1
        by_cases h1 : x = a
        · have d1 : (x == a) = true := by simpa using h1
          have d2 : (y == b) = false := by
            have : ¬ y = b := fun h => he ⟨h1, h⟩
            simpa using this
          clear he h1
          go_wp2
          go_roundw
          case rel => first | exact ⟨k + 1, by omega, by go_num, HN.out, hbel, hx0, hsz⟩ | ((repeat apply Exists.intro); exact ⟨⟨k + 1, by omega, by go_num, HN.out, hbel, hx0, hsz⟩, rfl⟩)
          case measure => simp [intOf]; omega
        · have d1 : (x == a) = false := by simpa using h1
          clear he h1
          go_wp2
          go_roundw
          case rel => first | exact ⟨k + 1, by omega, by go_num, HN.out, hbel, hx0, hsz⟩ | ((repeat apply Exists.intro); exact ⟨⟨k + 1, by omega, by go_num, HN.out, hbel, hx0, hsz⟩, rfl⟩)
          case measure => simp [intOf]; omega
    · have hke : k = es.length := by omega
      have hkk : ¬ ((k : Int) < es.length) := by omega
      have HO : Hid (lfE es a b = -1) := Lib.hid (lfE_none (by rw [← hke]; exact HA.out))
      clear hke
      go_wp2
      go_ret
      exact ⟨by rw [HR.out, HO.out]; rfl, hbel⟩

end Go.Proofs.Ytdilimdicanbjaa
