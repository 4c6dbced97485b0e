/- findEdge and WeightOf, in the program and in the model. -/
import Derived.Test.YtddpljalojcomabFind
namespace Go.Proofs.Ytddpljalojcomab
open Go.RowKit Go.BigFrame
set_option linter.unusedVariables false
set_option linter.unusedSimpArgs false

/-! the order -/
theorem cInt_lt {a b : Int} : cInt a b < 0 ↔ a < b := by
  unfold cInt; split
  · simp; assumption
  · split <;> simp <;> omega
theorem cInt_eq {a b : Int} : cInt a b = 0 ↔ a = b := by
  unfold cInt; split
  · simp; omega
  · split <;> simp <;> omega
theorem cEnds_lt {a b c d : Int} : cEnds a b c d < 0 ↔ (a < c ∨ (a = c ∧ b < d)) := by
  unfold cEnds cOr
  by_cases h : cInt a c = 0
  · simp only [h, ne_eq, not_true_eq_false, if_false]
    rw [cInt_lt]
    have := cInt_eq.1 h
    omega
  · rw [if_pos h, cInt_lt]
    have : ¬ a = c := fun e => h (cInt_eq.2 e)
    omega
theorem cEnds_eq {a b c d : Int} : cEnds a b c d = 0 ↔ (a = c ∧ b = d) := by
  unfold cEnds cOr
  by_cases h : cInt a c = 0
  · simp only [h, ne_eq, not_true_eq_false, if_false]
    rw [cInt_eq]
    have := cInt_eq.1 h
    omega
  · rw [if_pos h, cInt_eq]
    have : ¬ a = c := fun e => h (cInt_eq.2 e)
    omega
/-- Is an edge in front of another one? -/
def EdLt (e f : Ed) : Prop := e.1 < f.1 ∨ (e.1 = f.1 ∧ e.2.1 < f.2.1)
theorem eLt_iff {a b : Int} {e : Ed} : eLt a b e = true ↔ (e.1 < a ∨ (e.1 = a ∧ e.2.1 < b)) := by
  unfold eLt; rw [decide_eq_true_eq, cEnds_lt]

/-! what a valid graph is -/
theorem gVal_parts {n : Int} {es : List Ed} (h : gVal n es = true) : 1 ≤ n ∧ n ≤ 12 ∧ es.length ≤ 40 ∧ (∀ i, i < es.length → okAt n es i = true) := by
  simp only [gVal, Bool.and_eq_true, decide_eq_true_eq, List.all_eq_true, List.mem_range] at h
  exact ⟨h.1.1, h.1.2, h.2.1, h.2.2⟩
theorem gVal_fits {n : Int} {es : List Ed} (h : gVal n es = true) {i : Nat} (hi : i < es.length) : eFits n (es.getD i (0, 0, 0)).1 (es.getD i (0, 0, 0)).2.1 (es.getD i (0, 0, 0)).2.2 = true := by
  have := (gVal_parts h).2.2.2 i hi
  simp only [okAt, Bool.and_eq_true] at this
  exact this.1
theorem gVal_next {n : Int} {es : List Ed} (h : gVal n es = true) {i : Nat} (hi : i + 1 < es.length) : EdLt (es.getD i (0, 0, 0)) (es.getD (i + 1) (0, 0, 0)) := by
  have := (gVal_parts h).2.2.2 (i + 1) hi
  simp only [okAt, Bool.and_eq_true, Bool.or_eq_true, decide_eq_true_eq, Nat.add_sub_cancel] at this
  rcases this.2 with h0 | h1
  · omega
  · exact cEnds_lt.1 h1
theorem EdLt.trans {e f g : Ed} (h : EdLt e f) (k : EdLt f g) : EdLt e g := by
  unfold EdLt at *; omega
theorem gVal_sorted {n : Int} {es : List Ed} (h : gVal n es = true) {i j : Nat} (hij : i < j) (hj : j < es.length) : EdLt (es.getD i (0, 0, 0)) (es.getD j (0, 0, 0)) := by
  induction j with
  | zero => omega
  | succ j ih =>
    by_cases e : i = j
    · subst e; exact gVal_next h hj
    · exact (ih (by omega) (by omega)).trans (gVal_next h hj)
theorem gVal_mono {n : Int} {es : List Ed} (h : gVal n es = true) (a b : Int) : MonoE es a b := by
  intro i j hij hj hl
  by_cases e : i = j
  · subst e; exact hl
  · have := gVal_sorted h (show i < j by omega) hj
    rw [eLt_iff] at hl ⊢
    unfold EdLt at this
    omega

theorem lbE_le (es : List Ed) (a b : Int) : lbE es a b ≤ es.length := by
  unfold lbE
  induction es with
  | nil => simp
  | cons e es ih => rw [List.takeWhile_cons]; split <;> simp <;> omega

/-- The weight of an edge, and whether it is there. -/
def wOf (n : Int) (es : List Ed) (a b : Int) : Int × Bool := if gVal n es = true ∧ fdE es a b = true then ((es.getD (lbE es a b) (0, 0, 0)).2.2, true) else (0, false)

theorem findEdge (n : Int) (es : List Ed) (a b : Int) (s : Value) (w : World) (hs : RowE w s es) (hl : es.length ≤ 1048576) (hm : MonoE es a b) :
    Calls Try.prog 27 #[.agg #[.int .i64 n, s], .int .i64 a, .int .i64 b] w fun e w' => e = .returned (.tuple #[.int .i64 (lbE es a b), .bool (fdE es a b)]) ∧ Below w.heap.size w w' := by
  have hc := fun A => searchEdges es a b 0 s (w.alloc A) (hs.keep ((Below.refl _ _).alloc (Nat.le_refl _) _)) hl hm
  have HC := Lib.hid hc
  clear hc
  go_enter Try.func27, Try.ntmps27
  go_wp2_with (go_at_call 42; refine (HC.out _).mono ?_; rintro e w1 ⟨rfl, hb1⟩)
  go_ret2
  exact ⟨rfl, bel_trans ((Below.refl _ _).alloc (Nat.le_refl _) _) hb1⟩

theorem weightOf (n : Int) (es : List Ed) (a b : Int) (s : Value) (w : World) (hs : RowE w s es) (hl : es.length ≤ 1048576) :
    Calls Try.prog 19 #[.agg #[.int .i64 n, s], .int .i64 a, .int .i64 b] w fun e w' => e = .returned (.tuple #[.int .i64 (wOf n es a b).1, .bool (wOf n es a b).2]) ∧ Below w.heap.size w w' := by
  have hl2 : es.length ≤ 281474976710656 := by omega
  obtain ⟨ad, cap, hs0, hz0⟩ := id hs
  subst hs0
  have hgv := fun w h => graphValid n es (.slice ad es.length cap) w h hl2
  cases hg : gVal n es
  · have e0 : wOf n es a b = (0, false) := by unfold wOf; rw [hg]; rfl
    rw [e0]
    rw [hg] at hgv
    have HV := Lib.hid hgv
    clear hgv hz0 e0
    obtain ⟨w0, hw0⟩ : ∃ w0, w0 = w := ⟨_, rfl⟩
    subst hw0
    have H0 := Below.refl w0.heap.size w0
    have R_0 := Lib.hid hs
    clear hs
    go_enter Try.func19, Try.ntmps19
    go_wp2_with fail
    have hb1 : Below w0.heap.size w0 (w0.alloc (.cells #[.int .i64 n, .slice ad es.length cap] 30)) := (Below.refl _ _).alloc (by simp <;> omega) _
    have qg0_1 : (w0.alloc (.cells #[.int .i64 n, .slice ad es.length cap] 30)).cell? ⟨w0.heap.size, 0, none⟩ = some (.int .i64 n) := by go_simp
    have qg1_1 : (w0.alloc (.cells #[.int .i64 n, .slice ad es.length cap] 30)).cell? ⟨w0.heap.size, 1, none⟩ = some (.slice ad es.length cap) := by go_simp
    have zg_1 : w0.heap.size < (w0.alloc (.cells #[.int .i64 n, .slice ad es.length cap] 30)).heap.size := by simp <;> omega
    have fg_1 : w0.heap.size ≤ w0.heap.size := by have := H0.size; omega
    have H1 := bel_trans H0 hb1
    have R_1 := Lib.hid (R_0.out.keep hb1)
    generalize (w0.alloc (.cells #[.int .i64 n, .slice ad es.length cap] 30)) = w1 at hb1 H1 qg0_1 qg1_1 zg_1 R_1 ⊢
    clear R_0
    refine (HV.out _ R_1.out).mono ?_
    rintro e w2 ⟨rfl, hb2⟩
    have H2 := bel_trans H1 hb2
    have qg0_2 := (hb2.cell (p := ⟨w0.heap.size, 0, none⟩) zg_1).trans qg0_1
    have qg1_2 := (hb2.cell (p := ⟨w0.heap.size, 1, none⟩) zg_1).trans qg1_1
    have zg_2 := Nat.lt_of_lt_of_le zg_1 hb2.size
    have R_2 := Lib.hid (R_1.out.keep hb2)
    clear qg0_1 qg1_1 zg_1 R_1
    go_wp2
    go_ret2
    exact ⟨rfl, H2⟩
  rw [hg] at hgv
  have HV := Lib.hid hgv
  have hfe := fun w h => findEdge n es a b (.slice ad es.length cap) w h hl (gVal_mono hg a b)
  clear hgv
  cases hf : fdE es a b
  · have e0 : wOf n es a b = (0, false) := by unfold wOf; rw [hf]; simp
    rw [e0]
    rw [hf] at hfe
    have HE := Lib.hid hfe
    clear hfe hz0 e0
    obtain ⟨w0, hw0⟩ : ∃ w0, w0 = w := ⟨_, rfl⟩
    subst hw0
    have H0 := Below.refl w0.heap.size w0
    have R_0 := Lib.hid hs
    clear hs
    go_enter Try.func19, Try.ntmps19
    go_wp2_with fail
    have hb1 : Below w0.heap.size w0 (w0.alloc (.cells #[.int .i64 n, .slice ad es.length cap] 30)) := (Below.refl _ _).alloc (by simp <;> omega) _
    have qg0_1 : (w0.alloc (.cells #[.int .i64 n, .slice ad es.length cap] 30)).cell? ⟨w0.heap.size, 0, none⟩ = some (.int .i64 n) := by go_simp
    have qg1_1 : (w0.alloc (.cells #[.int .i64 n, .slice ad es.length cap] 30)).cell? ⟨w0.heap.size, 1, none⟩ = some (.slice ad es.length cap) := by go_simp
    have zg_1 : w0.heap.size < (w0.alloc (.cells #[.int .i64 n, .slice ad es.length cap] 30)).heap.size := by simp <;> omega
    have fg_1 : w0.heap.size ≤ w0.heap.size := by have := H0.size; omega
    have H1 := bel_trans H0 hb1
    have R_1 := Lib.hid (R_0.out.keep hb1)
    generalize (w0.alloc (.cells #[.int .i64 n, .slice ad es.length cap] 30)) = w1 at hb1 H1 qg0_1 qg1_1 zg_1 R_1 ⊢
    clear R_0
    refine (HV.out _ R_1.out).mono ?_
    rintro e w2 ⟨rfl, hb2⟩
    have H2 := bel_trans H1 hb2
    have qg0_2 := (hb2.cell (p := ⟨w0.heap.size, 0, none⟩) zg_1).trans qg0_1
    have qg1_2 := (hb2.cell (p := ⟨w0.heap.size, 1, none⟩) zg_1).trans qg1_1
    have zg_2 := Nat.lt_of_lt_of_le zg_1 hb2.size
    have R_2 := Lib.hid (R_1.out.keep hb2)
    clear qg0_1 qg1_1 zg_1 R_1
    go_wp2_with fail
    refine (HE.out _ R_2.out).mono ?_
    rintro e w3 ⟨rfl, hb3⟩
    have H3 := bel_trans H2 hb3
    have qg0_3 := (hb3.cell (p := ⟨w0.heap.size, 0, none⟩) zg_2).trans qg0_2
    have qg1_3 := (hb3.cell (p := ⟨w0.heap.size, 1, none⟩) zg_2).trans qg1_2
    have zg_3 := Nat.lt_of_lt_of_le zg_2 hb3.size
    have R_3 := Lib.hid (R_2.out.keep hb3)
    clear qg0_2 qg1_2 zg_2 R_2
    go_wp2
    go_ret2
    exact ⟨rfl, H3⟩
  rw [hf] at hfe
  have HE := Lib.hid hfe
  have hlt : lbE es a b < es.length := by unfold fdE at hf; simp at hf; exact hf.1
  obtain ⟨k, hk⟩ : ∃ k, k = lbE es a b := ⟨_, rfl⟩
  rw [← hk] at hlt HE
  obtain ⟨z, hz⟩ : ∃ z, z = (es.getD k (0, 0, 0)).2.2 := ⟨_, rfl⟩
  have e0 : wOf n es a b = (z, true) := by unfold wOf; rw [if_pos ⟨hg, hf⟩, ← hk, hz]
  rw [e0]
  have hlt' : (k : Int) < es.length := by omega
  rcases hz0 with h0 | ⟨b0, off, rfl, hb, hc⟩
  · rw [h0] at hlt; simp at hlt
  have c2 := (hc k hlt).2.2
  rw [← hz] at c2
  have C2 := Lib.hid c2
  clear hfe hc e0 hk hz c2
  obtain ⟨w0, hw0⟩ : ∃ w0, w0 = w := ⟨_, rfl⟩
  subst hw0
  have H0 := Below.refl w0.heap.size w0
  have R_0 := Lib.hid hs
  clear hs
  go_enter Try.func19, Try.ntmps19
  go_wp2_with fail
  have hb1 : Below w0.heap.size w0 (w0.alloc (.cells #[.int .i64 n, .slice (some ⟨b0, off, none⟩) es.length cap] 30)) := (Below.refl _ _).alloc (by simp <;> omega) _
  have qg0_1 : (w0.alloc (.cells #[.int .i64 n, .slice (some ⟨b0, off, none⟩) es.length cap] 30)).cell? ⟨w0.heap.size, 0, none⟩ = some (.int .i64 n) := by go_simp
  have qg1_1 : (w0.alloc (.cells #[.int .i64 n, .slice (some ⟨b0, off, none⟩) es.length cap] 30)).cell? ⟨w0.heap.size, 1, none⟩ = some (.slice (some ⟨b0, off, none⟩) es.length cap) := by go_simp
  have zg_1 : w0.heap.size < (w0.alloc (.cells #[.int .i64 n, .slice (some ⟨b0, off, none⟩) es.length cap] 30)).heap.size := by simp <;> omega
  have fg_1 : w0.heap.size ≤ w0.heap.size := by have := H0.size; omega
  have H1 := bel_trans H0 hb1
  have R_1 := Lib.hid (R_0.out.keep hb1)
  generalize (w0.alloc (.cells #[.int .i64 n, .slice (some ⟨b0, off, none⟩) es.length cap] 30)) = w1 at hb1 H1 qg0_1 qg1_1 zg_1 R_1 ⊢
  clear R_0
  refine (HV.out _ R_1.out).mono ?_
  rintro e w2 ⟨rfl, hb2⟩
  have H2 := bel_trans H1 hb2
  have qg0_2 := (hb2.cell (p := ⟨w0.heap.size, 0, none⟩) zg_1).trans qg0_1
  have qg1_2 := (hb2.cell (p := ⟨w0.heap.size, 1, none⟩) zg_1).trans qg1_1
  have zg_2 := Nat.lt_of_lt_of_le zg_1 hb2.size
  have R_2 := Lib.hid (R_1.out.keep hb2)
  clear qg0_1 qg1_1 zg_1 R_1
  go_wp2_with fail
  refine (HE.out _ R_2.out).mono ?_
  rintro e w3 ⟨rfl, hb3⟩
  have H3 := bel_trans H2 hb3
  have qg0_3 := (hb3.cell (p := ⟨w0.heap.size, 0, none⟩) zg_2).trans qg0_2
  have qg1_3 := (hb3.cell (p := ⟨w0.heap.size, 1, none⟩) zg_2).trans qg1_2
  have zg_3 := Nat.lt_of_lt_of_le zg_2 hb3.size
  have R_3 := Lib.hid (R_2.out.keep hb3)
  clear qg0_2 qg1_2 zg_2 R_2
  have c2 : w3.cell? ⟨b0, off + k * 3 + 2, none⟩ = some (.int .i64 z) := (H3.cell (p := ⟨b0, _, none⟩) hb).trans C2.out
  go_wp2
  go_ret2
  exact ⟨rfl, H3⟩
end Go.Proofs.Ytddpljalojcomab
