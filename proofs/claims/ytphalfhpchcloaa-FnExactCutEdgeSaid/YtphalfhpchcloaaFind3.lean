/- l2Find and WeightOf of the model. -/
import Derived.Test.YtphalfhpchcloaaFind2
namespace Go.Proofs.Ytphalfhpchcloaa
open Go.RowKit Go.BigFrame
set_option linter.unusedVariables false

/-- Is an edge between these ends? -/
def eBe (a b : Int) (e : Ed) : Bool := decide (e.1 = a) && decide (e.2.1 = b)
/-- The place of the first edge between two ends, or -1. -/
def lfE (es : List Ed) (a b : Int) : Int := match es.findIdx? (eBe a b) with | some i => (i : Int) | none => -1
theorem lfE_at {es : List Ed} {a b : Int} {k : Nat} (hk : k < es.length) (h1 : ∀ i, i < k → eBe a b (es.getD i (0, 0, 0)) = false) (h2 : eBe a b (es.getD k (0, 0, 0)) = true) : lfE es a b = k := by
  have : es.findIdx? (eBe a b) = some k := by
    rw [List.findIdx?_eq_some_iff_getElem]
    refine ⟨hk, by simpa [List.getD, hk] using h2, fun j hj => ?_⟩
    have := h1 j hj
    simpa [List.getD, Nat.lt_trans hj hk] using this
  unfold lfE; rw [this]
theorem lfE_none {es : List Ed} {a b : Int} (h : ∀ i, i < es.length → eBe a b (es.getD i (0, 0, 0)) = false) : lfE es a b = -1 := by
  have : es.findIdx? (eBe a b) = none := by
    rw [List.findIdx?_eq_none_iff]
    intro e he
    obtain ⟨i, hi, rfl⟩ := List.getElem_of_mem he
    have := h i hi
    simpa [List.getD, hi] using this
  unfold lfE; rw [this]
theorem lbE_lt {es : List Ed} {a b : Int} {i : Nat} (hi : i < lbE es a b) : eLt a b (es.getD i (0, 0, 0)) = true := by
  unfold lbE at hi
  induction es generalizing i with
  | nil => simp at hi
  | cons e es ih =>
    rw [List.takeWhile_cons] at hi
    by_cases he : eLt a b e = true
    · rw [if_pos he] at hi
      cases i with
      | zero => simpa [List.getD] using he
      | succ i => have := ih (i := i) (by simpa using hi); simpa [List.getD] using this
    · rw [if_neg he] at hi; simp at hi
theorem lbE_stop {es : List Ed} {a b : Int} (hi : lbE es a b < es.length) : eLt a b (es.getD (lbE es a b) (0, 0, 0)) = false := by
  unfold lbE at *
  induction es with
  | nil => simp at hi
  | cons e es ih =>
    by_cases he : eLt a b e = true
    · rw [List.takeWhile_cons, if_pos he] at hi ⊢
      have := ih (by simpa using hi)
      simpa [List.getD] using this
    · rw [List.takeWhile_cons, if_neg he]
      simpa [List.getD] using he
theorem eBe_lt {a b : Int} {e : Ed} (h : eLt a b e = true) : eBe a b e = false := by
  rw [eLt_iff] at h
  unfold eBe
  by_cases h1 : e.1 = a <;> by_cases h2 : e.2.1 = b <;> simp [h1, h2] <;> omega
theorem eBe_iff {a b : Int} {e : Ed} : eBe a b e = decide (cEnds e.1 e.2.1 a b = 0) := by
  unfold eBe
  by_cases h : cEnds e.1 e.2.1 a b = 0
  · have := cEnds_eq.1 h
    rw [decide_eq_true h]
    simp [this.1, this.2]
  · have : ¬ (e.1 = a ∧ e.2.1 = b) := fun k => h (cEnds_eq.2 k)
    rw [decide_eq_false h]
    by_cases h1 : e.1 = a <;> by_cases h2 : e.2.1 = b <;> simp [h1, h2] <;> exact this ⟨h1, h2⟩
theorem lfE_val {n : Int} {es : List Ed} (hg : gVal n es = true) (a b : Int) : lfE es a b = if fdE es a b = true then (lbE es a b : Int) else -1 := by
  cases hf : fdE es a b
  · rw [if_neg (by simp)]
    apply lfE_none
    intro i hi
    by_cases hlt : i < lbE es a b
    · exact eBe_lt (lbE_lt hlt)
    · have hl : lbE es a b < es.length := by omega
      have hs := lbE_stop hl
      unfold fdE at hf
      rw [decide_eq_true hl, Bool.true_and, ← eBe_iff] at hf
      by_cases he : i = lbE es a b
      · subst he; exact hf
      · have ho := gVal_sorted hg (show lbE es a b < i by omega) hi
        apply Bool.eq_false_iff.2
        intro hb
        have h1 : ¬ eLt a b (es.getD (lbE es a b) (0, 0, 0)) = true := by rw [hs]; simp
        rw [eLt_iff] at h1
        unfold eBe at hb
        simp only [Bool.and_eq_true, decide_eq_true_eq] at hb
        unfold EdLt at ho
        omega
  · rw [if_pos rfl]
    unfold fdE at hf
    rw [← eBe_iff] at hf
    simp only [Bool.and_eq_true, decide_eq_true_eq] at hf
    exact lfE_at hf.1 (fun i hi => eBe_lt (lbE_lt hi)) hf.2

set_option maxHeartbeats 1000000 in
theorem l2Find (n : Int) (es : List Ed) (a b : Int) (s : Value) (w : World) (hs : RowE w s es) (hl : es.length ≤ 1048576) :
    Calls Try.prog 39 #[.agg #[.int .i64 n, s], .int .i64 a, .int .i64 b] w fun e w' => e = .returned (.int .i64 (lfE es a b)) ∧ Below w.heap.size w w' := by
  obtain ⟨ad, cap, rfl, hz0⟩ := hs
  have hz := Lib.hid hz0
  clear hz0
  obtain ⟨R, hR⟩ : ∃ R, R = lfE es a b := ⟨_, rfl⟩
  rw [← hR]
  have HR := Lib.hid hR
  clear hR
  go_enter Try.func39, Try.ntmps39
  go_wp2
  go_loopw [7] (fun c wr => ∃ k : Nat, k ≤ es.length ∧ c = .int .i64 k ∧ (∀ i, i < k → eBe a b (es.getD i (0, 0, 0)) = false) ∧ Below w.heap.size w wr ∧ (wr.cell? ⟨w.heap.size, 1, none⟩ = some (.slice ad es.length cap) ∧ w.heap.size < wr.heap.size)) (fun c _ => es.length - (intOf c).toNat)
  case atStart => exact ⟨0, Nat.zero_le _, rfl, fun i hi => absurd hi (Nat.not_lt_zero _), (Below.refl _ _).alloc (Nat.le_refl _) _, by go_simp, by simp⟩
  case round =>
    obtain ⟨k, hk, rfl, hall, hbel, hx0, hsz⟩ := hrel
    have HA := Lib.hid hall
    clear hall
    by_cases hlt : k < es.length
    · have hlt' : (k : Int) < es.length := by omega
      rcases hz.out with h0 | ⟨b0, off, rfl, hb, hc⟩
      · rw [h0] at hlt; simp at hlt
      obtain ⟨x, y, z, hx⟩ : ∃ x y z, (x, y, z) = es.getD k (0, 0, 0) := ⟨_, _, _, rfl⟩
      have h1 := hc k hlt
      rw [← hx] at h1
      simp only at h1
      have c0 := (hbel.cell (p := ⟨b0, off + k * 3, none⟩) hb).trans h1.1
      have c1 := (hbel.cell (p := ⟨b0, off + k * 3 + 1, none⟩) hb).trans h1.2.1
      by_cases he : x = a ∧ y = b
      · have HO : Hid (lfE es a b = k) := Lib.hid (lfE_at hlt HA.out (by rw [← hx]; simp [eBe, he.1, he.2]))
        have d1 : (x == a) = true := by simpa using he.1
        have d2 : (y == b) = true := by simpa using he.2
        clear he hx hc h1
        go_wp2
        go_ret
        exact ⟨by rw [HR.out, HO.out]; rfl, hbel⟩
      · have HN : Hid (∀ i, i < k + 1 → eBe a b (es.getD i (0, 0, 0)) = false) := Lib.hid (fun i hi => by
          by_cases h : i = k
          · subst h; rw [← hx]; unfold eBe; by_cases h1 : x = a <;> by_cases h2 : y = b <;> simp [h1, h2] <;> exact he ⟨h1, h2⟩
          · exact HA.out i (by omega))
        clear hx hc h1
        by_cases h1 : x = a
        · have d1 : (x == a) = true := by simpa using h1
          have d2 : (y == b) = false := by
            have : ¬ y = b := fun h => he ⟨h1, h⟩
            simpa using this
          clear he h1
          go_wp2
          go_roundw
          case rel => first | exact ⟨k + 1, by omega, by go_num, HN.out, hbel, hx0, hsz⟩ | ((repeat apply Exists.intro); exact ⟨⟨k + 1, by omega, by go_num, HN.out, hbel, hx0, hsz⟩, rfl⟩)
          case measure => simp [intOf]; omega
        · have d1 : (x == a) = false := by simpa using h1
          clear he h1
          go_wp2
          go_roundw
          case rel => first | exact ⟨k + 1, by omega, by go_num, HN.out, hbel, hx0, hsz⟩ | ((repeat apply Exists.intro); exact ⟨⟨k + 1, by omega, by go_num, HN.out, hbel, hx0, hsz⟩, rfl⟩)
          case measure => simp [intOf]; omega
    · have hke : k = es.length := by omega
      have hkk : ¬ ((k : Int) < es.length) := by omega
      have HO : Hid (lfE es a b = -1) := Lib.hid (lfE_none (by rw [← hke]; exact HA.out))
      clear hke
      go_wp2
      go_ret
      exact ⟨by rw [HR.out, HO.out]; rfl, hbel⟩

theorem sWeightOf (n : Int) (es : List Ed) (a b : Int) (s : Value) (w : World) (hs : RowE w s es) (hl : es.length ≤ 1048576) :
    Calls Try.prog 32 #[.agg #[.int .i64 n, s], .int .i64 a, .int .i64 b] w fun e w' => e = .returned (.tuple #[.int .i64 (wOf n es a b).1, .bool (wOf n es a b).2]) ∧ Below w.heap.size w w' := by
  have hl2 : es.length ≤ 281474976710656 := by omega
  obtain ⟨ad, cap, hs0, hz0⟩ := id hs
  subst hs0
  have hgv := fun w h => sGraphValid n es (.slice ad es.length cap) w h hl2
  have hlf := fun w h => l2Find n es a b (.slice ad es.length cap) w h hl
  have hlo : -1 ≤ lfE es a b := by unfold lfE; split <;> omega
  cases hg : gVal n es
  · have e0 : wOf n es a b = (0, false) := by unfold wOf; rw [hg]; rfl
    rw [e0]
    rw [hg] at hgv
    generalize lfE es a b = L at hlf hlo
    have HV := Lib.hid hgv
    have HL := Lib.hid hlf
    clear hgv hz0 e0 hlf
    obtain ⟨w0, hw0⟩ : ∃ w0, w0 = w := ⟨_, rfl⟩
    subst hw0
    have H0 := Below.refl w0.heap.size w0
    have R_0 := Lib.hid hs
    clear hs
    go_enter Try.func32, Try.ntmps32
    go_wp2_with fail
    have hb1 : Below w0.heap.size w0 (w0.alloc (.cells #[.int .i64 n, .slice ad es.length cap] 25)) := (Below.refl _ _).alloc (by simp <;> omega) _
    have qg0_1 : (w0.alloc (.cells #[.int .i64 n, .slice ad es.length cap] 25)).cell? ⟨w0.heap.size, 0, none⟩ = some (.int .i64 n) := by go_simp
    have qg1_1 : (w0.alloc (.cells #[.int .i64 n, .slice ad es.length cap] 25)).cell? ⟨w0.heap.size, 1, none⟩ = some (.slice ad es.length cap) := by go_simp
    have zg_1 : w0.heap.size < (w0.alloc (.cells #[.int .i64 n, .slice ad es.length cap] 25)).heap.size := by simp <;> omega
    have fg_1 : w0.heap.size ≤ w0.heap.size := by have := H0.size; omega
    have H1 := bel_trans H0 hb1
    have R_1 := Lib.hid (R_0.out.keep hb1)
    generalize (w0.alloc (.cells #[.int .i64 n, .slice ad es.length cap] 25)) = w1 at hb1 H1 qg0_1 qg1_1 zg_1 R_1 ⊢
    clear R_0
    refine (HL.out _ R_1.out).mono ?_
    rintro e w2 ⟨rfl, hb2⟩
    have H2 := bel_trans H1 hb2
    have qg0_2 := (hb2.cell (p := ⟨w0.heap.size, 0, none⟩) zg_1).trans qg0_1
    have qg1_2 := (hb2.cell (p := ⟨w0.heap.size, 1, none⟩) zg_1).trans qg1_1
    have zg_2 := Nat.lt_of_lt_of_le zg_1 hb2.size
    have R_2 := Lib.hid (R_1.out.keep hb2)
    clear qg0_1 qg1_1 zg_1 R_1
    go_wp2_with fail
    refine (HV.out _ R_2.out).mono ?_
    rintro e w3 ⟨rfl, hb3⟩
    have H3 := bel_trans H2 hb3
    have qg0_3 := (hb3.cell (p := ⟨w0.heap.size, 0, none⟩) zg_2).trans qg0_2
    have qg1_3 := (hb3.cell (p := ⟨w0.heap.size, 1, none⟩) zg_2).trans qg1_2
    have zg_3 := Nat.lt_of_lt_of_le zg_2 hb3.size
    have R_3 := Lib.hid (R_2.out.keep hb3)
    clear qg0_2 qg1_2 zg_2 R_2
    go_wp2
    go_ret2
    exact ⟨rfl, H3⟩
  rw [hg] at hgv
  have HV := Lib.hid hgv
  clear hgv hlo
  cases hf : fdE es a b
  · have e0 : wOf n es a b = (0, false) := by unfold wOf; rw [hf]; simp
    have e1 : lfE es a b = -1 := by rw [lfE_val hg, hf]; rfl
    rw [e0]
    rw [e1] at hlf
    have HL := Lib.hid hlf
    clear hlf hz0 e0 e1
    obtain ⟨w0, hw0⟩ : ∃ w0, w0 = w := ⟨_, rfl⟩
    subst hw0
    have H0 := Below.refl w0.heap.size w0
    have R_0 := Lib.hid hs
    clear hs
    go_enter Try.func32, Try.ntmps32
    go_wp2_with fail
    have hb1 : Below w0.heap.size w0 (w0.alloc (.cells #[.int .i64 n, .slice ad es.length cap] 25)) := (Below.refl _ _).alloc (by simp <;> omega) _
    have qg0_1 : (w0.alloc (.cells #[.int .i64 n, .slice ad es.length cap] 25)).cell? ⟨w0.heap.size, 0, none⟩ = some (.int .i64 n) := by go_simp
    have qg1_1 : (w0.alloc (.cells #[.int .i64 n, .slice ad es.length cap] 25)).cell? ⟨w0.heap.size, 1, none⟩ = some (.slice ad es.length cap) := by go_simp
    have zg_1 : w0.heap.size < (w0.alloc (.cells #[.int .i64 n, .slice ad es.length cap] 25)).heap.size := by simp <;> omega
    have fg_1 : w0.heap.size ≤ w0.heap.size := by have := H0.size; omega
    have H1 := bel_trans H0 hb1
    have R_1 := Lib.hid (R_0.out.keep hb1)
    generalize (w0.alloc (.cells #[.int .i64 n, .slice ad es.length cap] 25)) = w1 at hb1 H1 qg0_1 qg1_1 zg_1 R_1 ⊢
    clear R_0
    refine (HL.out _ R_1.out).mono ?_
    rintro e w2 ⟨rfl, hb2⟩
    have H2 := bel_trans H1 hb2
    have qg0_2 := (hb2.cell (p := ⟨w0.heap.size, 0, none⟩) zg_1).trans qg0_1
    have qg1_2 := (hb2.cell (p := ⟨w0.heap.size, 1, none⟩) zg_1).trans qg1_1
    have zg_2 := Nat.lt_of_lt_of_le zg_1 hb2.size
    have R_2 := Lib.hid (R_1.out.keep hb2)
    clear qg0_1 qg1_1 zg_1 R_1
    go_wp2_with fail
    refine (HV.out _ R_2.out).mono ?_
    rintro e w3 ⟨rfl, hb3⟩
    have H3 := bel_trans H2 hb3
    have qg0_3 := (hb3.cell (p := ⟨w0.heap.size, 0, none⟩) zg_2).trans qg0_2
    have qg1_3 := (hb3.cell (p := ⟨w0.heap.size, 1, none⟩) zg_2).trans qg1_2
    have zg_3 := Nat.lt_of_lt_of_le zg_2 hb3.size
    have R_3 := Lib.hid (R_2.out.keep hb3)
    clear qg0_2 qg1_2 zg_2 R_2
    go_wp2
    go_ret2
    exact ⟨rfl, H3⟩
  have e1 : lfE es a b = lbE es a b := by rw [lfE_val hg, hf]; rfl
  have hlt : lbE es a b < es.length := by unfold fdE at hf; simp at hf; exact hf.1
  obtain ⟨k, hk⟩ : ∃ k, k = lbE es a b := ⟨_, rfl⟩
  rw [e1, ← hk] at hlf
  have HL := Lib.hid hlf
  rw [← hk] at hlt
  obtain ⟨z, hz⟩ : ∃ z, z = (es.getD k (0, 0, 0)).2.2 := ⟨_, rfl⟩
  have e0 : wOf n es a b = (z, true) := by unfold wOf; rw [if_pos ⟨hg, hf⟩, ← hk, hz]
  rw [e0]
  have hlt' : (k : Int) < es.length := by omega
  rcases hz0 with h0 | ⟨b0, off, rfl, hb, hc⟩
  · rw [h0] at hlt; simp at hlt
  have c2 := (hc k hlt).2.2
  rw [← hz] at c2
  have C2 := Lib.hid c2
  have hneg : decide ((k : Int) < 0) = false := decide_eq_false (by omega)
  clear hlf hc e0 e1 hk hz c2
  obtain ⟨w0, hw0⟩ : ∃ w0, w0 = w := ⟨_, rfl⟩
  subst hw0
  have H0 := Below.refl w0.heap.size w0
  have R_0 := Lib.hid hs
  clear hs
  go_enter Try.func32, Try.ntmps32
  go_wp2_with fail
  have hb1 : Below w0.heap.size w0 (w0.alloc (.cells #[.int .i64 n, .slice (some ⟨b0, off, none⟩) es.length cap] 25)) := (Below.refl _ _).alloc (by simp <;> omega) _
  have qg0_1 : (w0.alloc (.cells #[.int .i64 n, .slice (some ⟨b0, off, none⟩) es.length cap] 25)).cell? ⟨w0.heap.size, 0, none⟩ = some (.int .i64 n) := by go_simp
  have qg1_1 : (w0.alloc (.cells #[.int .i64 n, .slice (some ⟨b0, off, none⟩) es.length cap] 25)).cell? ⟨w0.heap.size, 1, none⟩ = some (.slice (some ⟨b0, off, none⟩) es.length cap) := by go_simp
  have zg_1 : w0.heap.size < (w0.alloc (.cells #[.int .i64 n, .slice (some ⟨b0, off, none⟩) es.length cap] 25)).heap.size := by simp <;> omega
  have fg_1 : w0.heap.size ≤ w0.heap.size := by have := H0.size; omega
  have H1 := bel_trans H0 hb1
  have R_1 := Lib.hid (R_0.out.keep hb1)
  generalize (w0.alloc (.cells #[.int .i64 n, .slice (some ⟨b0, off, none⟩) es.length cap] 25)) = w1 at hb1 H1 qg0_1 qg1_1 zg_1 R_1 ⊢
  clear R_0
  refine (HL.out _ R_1.out).mono ?_
  rintro e w2 ⟨rfl, hb2⟩
  have H2 := bel_trans H1 hb2
  have qg0_2 := (hb2.cell (p := ⟨w0.heap.size, 0, none⟩) zg_1).trans qg0_1
  have qg1_2 := (hb2.cell (p := ⟨w0.heap.size, 1, none⟩) zg_1).trans qg1_1
  have zg_2 := Nat.lt_of_lt_of_le zg_1 hb2.size
  have R_2 := Lib.hid (R_1.out.keep hb2)
  clear qg0_1 qg1_1 zg_1 R_1
  go_wp2_with fail
  refine (HV.out _ R_2.out).mono ?_
  rintro e w3 ⟨rfl, hb3⟩
  have H3 := bel_trans H2 hb3
  have qg0_3 := (hb3.cell (p := ⟨w0.heap.size, 0, none⟩) zg_2).trans qg0_2
  have qg1_3 := (hb3.cell (p := ⟨w0.heap.size, 1, none⟩) zg_2).trans qg1_2
  have zg_3 := Nat.lt_of_lt_of_le zg_2 hb3.size
  have R_3 := Lib.hid (R_2.out.keep hb3)
  clear qg0_2 qg1_2 zg_2 R_2
  have c2 : w3.cell? ⟨b0, off + k * 3 + 2, none⟩ = some (.int .i64 z) := (H3.cell (p := ⟨b0, _, none⟩) hb).trans C2.out
  go_wp2
  go_ret2
  exact ⟨rfl, H3⟩
end Go.Proofs.Ytphalfhpchcloaa
