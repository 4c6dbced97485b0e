/- The search for an edge: binary search in the program, one after the other in the model. findEdge and WeightOf, in the program and in the model. l2Find and WeightOf of the model. -/
import Derived.Test.YtlgjcofpdaljnaaGraph3
import Derived.Test.YtlgjcofpdaljnaaRowAt
namespace Go.Proofs.Ytlgjcofpdaljnaa
open Go.RowKit Go.BigFrame
set_option linter.unusedVariables false
set_option linter.unusedSimpArgs false

theorem beq_iff_eq_decide (x y : Int) : (x == y) = decide (x = y) := by
  by_cases h : x = y <;> simp [h]
/-- Does an edge stand in front of these ends? -/
def eLt (a b : Int) (e : Ed) : Bool := decide (cEnds e.1 e.2.1 a b < 0)
/-- The place of two ends: how many edges stand in front of them. -/
def lbE (es : List Ed) (a b : Int) : Nat := (es.takeWhile (eLt a b)).length
/-- Is there an edge between them? -/
def fdE (es : List Ed) (a b : Int) : Bool := decide (lbE es a b < es.length) && decide (cEnds (es.getD (lbE es a b) (0, 0, 0)).1 (es.getD (lbE es a b) (0, 0, 0)).2.1 a b = 0)
theorem lbE_of {es : List Ed} {a b : Int} {i : Nat} (hi : i ≤ es.length) (h1 : ∀ k, k < i → eLt a b (es.getD k (0, 0, 0)) = true) (h2 : i < es.length → eLt a b (es.getD i (0, 0, 0)) = false) : lbE es a b = i := by
  unfold lbE
  induction es generalizing i with
  | nil => simp at hi; simp [hi]
  | cons e es ih =>
    cases i with
    | zero =>
      have := h2 (by simp)
      simp [List.getD] at this
      simp [List.takeWhile_cons, this]
    | succ i =>
      have h0 := h1 0 (by omega)
      simp [List.getD] at h0
      rw [List.takeWhile_cons, if_pos h0, List.length_cons, ih (i := i)]
      · simp at hi; exact hi
      · intro k hk
        have := h1 (k + 1) (by omega)
        simpa [List.getD] using this
      · intro hlt
        have := h2 (by simpa using hlt)
        simpa [List.getD] using this

/-- The edges in front stand together. -/
def MonoE (es : List Ed) (a b : Int) : Prop := ∀ i j, i ≤ j → j < es.length → eLt a b (es.getD j (0, 0, 0)) = true → eLt a b (es.getD i (0, 0, 0)) = true

set_option maxHeartbeats 1000000 in
theorem searchEdges (es : List Ed) (a b q : Int) (s : Value) (w : World) (hs : RowE w s es) (hl : es.length ≤ 1048576) (hm : MonoE es a b) :
    Calls Try.prog 140 #[s, .agg #[.int .i64 a, .int .i64 b, .int .i64 q], .func (.func 93) #[] #[]] w fun e w' => e = .returned (.tuple #[.int .i64 (lbE es a b), .bool (fdE es a b)]) ∧ Below w.heap.size w w' := by
  obtain ⟨ad, cap, rfl, hz0⟩ := hs
  have hz := Lib.hid hz0
  have HM := Lib.hid hm
  clear hz0 hm
  go_enter Try.func140, Try.ntmps140
  go_wp2
  go_loopw [9, 10] (fun c d wr => ∃ i j : Nat, i ≤ j ∧ j ≤ es.length ∧ c = .int .i64 i ∧ d = .int .i64 j ∧ (∀ k, k < i → eLt a b (es.getD k (0, 0, 0)) = true) ∧ (∀ k, j ≤ k → k < es.length → eLt a b (es.getD k (0, 0, 0)) = false) ∧ Below w.heap.size w wr ∧ (wr.cell? ⟨w.heap.size, 0, none⟩ = some (.int .i64 a) ∧ wr.cell? ⟨w.heap.size, 1, none⟩ = some (.int .i64 b) ∧ wr.cell? ⟨w.heap.size, 2, none⟩ = some (.int .i64 q) ∧ w.heap.size < wr.heap.size)) (fun c d _ => (intOf d).toNat - (intOf c).toNat)
  case atStart => exact ⟨0, es.length, Nat.zero_le _, Nat.le_refl _, rfl, rfl, fun k hk => absurd hk (Nat.not_lt_zero _), fun k h1 h2 => absurd h2 (by omega), (Below.refl _ _).alloc (Nat.le_refl _) _, by go_simp, by go_simp, by go_simp, by simp⟩
  case round =>
    obtain ⟨i, j, hij, hj, rfl, rfl, h1, h2, hbel, x0, x1, x2, hsz⟩ := hrel
    have H1 := Lib.hid h1
    have H2 := Lib.hid h2
    clear h1 h2
    by_cases hlt : i < j
    · have hlt' : (i : Int) < j := by omega
      rcases hz.out with h0 | ⟨b0, off, rfl, hb, hc⟩
      · rw [h0] at hj; simp at hj; omega
      obtain ⟨h, hh⟩ : ∃ h, h = (i + j) / 2 := ⟨_, rfl⟩
      have he : ((i : Int) + j) / 2 = (h : Int) := by omega
      have hi1 : i ≤ h := by omega
      have hi2 : h < j := by omega
      have hi3 : h < es.length := by omega
      have hi4 : (h : Int) < es.length := by omega
      obtain ⟨x, y, z, hx⟩ : ∃ x y z, (x, y, z) = es.getD h (0, 0, 0) := ⟨_, _, _, rfl⟩
      have h1 := hc h hi3
      rw [← hx] at h1
      simp only at h1
      have ff : ∀ w', Below wr.heap.size wr w' → w'.cell? ⟨b0, off + h * 3, none⟩ = some (.int .i64 x) ∧ w'.cell? ⟨b0, off + h * 3 + 1, none⟩ = some (.int .i64 y) ∧ w'.cell? ⟨b0, off + h * 3 + 2, none⟩ = some (.int .i64 z) ∧
          w'.cell? ⟨w.heap.size, 0, none⟩ = some (.int .i64 a) ∧ w'.cell? ⟨w.heap.size, 1, none⟩ = some (.int .i64 b) ∧ w'.cell? ⟨w.heap.size, 2, none⟩ = some (.int .i64 q) := by
        intro w' k
        have hB := bel_trans hbel k
        exact ⟨(hB.cell (p := ⟨b0, _, none⟩) hb).trans h1.1, (hB.cell (p := ⟨b0, _, none⟩) hb).trans h1.2.1, (hB.cell (p := ⟨b0, _, none⟩) hb).trans h1.2.2, (k.cell (p := ⟨_, _, none⟩) hsz).trans x0, (k.cell (p := ⟨_, _, none⟩) hsz).trans x1, (k.cell (p := ⟨_, _, none⟩) hsz).trans x2⟩
      have FF := Lib.hid ff
      have HX := Lib.hid hx
      clear hc h1 ff hx hh
      by_cases hcm : cEnds x y a b < 0
      · have hp : eLt a b (es.getD h (0, 0, 0)) = true := by rw [← HX.out]; simpa [eLt] using hcm
        have HP : Hid (∀ k, k < h + 1 → eLt a b (es.getD k (0, 0, 0)) = true) := Lib.hid (fun k hk => HM.out k h (by omega) hi3 hp)
        clear hp
        go_wp2
        refine wp_region_below (by kernel_rfl) (by kernel_rfl) ?_
        repeat (go_big_quiet_step ((intro hw; first | with_reducible rfl | (obtain ⟨f0, f1, f2, g0, g1, g2⟩ := FF.out _ hw; simp only [f0, f1, f2, g0, g1, g2, Result.andThen]; first | exact ⟨trivial, rfl⟩ | exact ⟨rfl, rfl⟩) | (go_at_call 93; exact quietB (compareEnds _ _ _ _ _ _ _) hw))))
        refine wpQuiet_nil ?_
        intro w1 hw1
        obtain ⟨-, -, -, y0, y1, y2⟩ := FF.out _ hw1
        go_wp2
        go_roundw
        case rel => first | exact ⟨h + 1, j, by omega, hj, by go_num, rfl, HP.out, H2.out, bel_trans hbel hw1, y0, y1, y2, Nat.lt_of_lt_of_le hsz hw1.size⟩ | ((repeat apply Exists.intro); exact ⟨⟨h + 1, j, by omega, hj, by go_num, rfl, HP.out, H2.out, bel_trans hbel hw1, y0, y1, y2, Nat.lt_of_lt_of_le hsz hw1.size⟩, rfl⟩)
        case measure => simp [intOf]; omega
      · have hp : eLt a b (es.getD h (0, 0, 0)) = false := by rw [← HX.out]; simpa [eLt] using hcm
        have HP : Hid (∀ k, h ≤ k → k < es.length → eLt a b (es.getD k (0, 0, 0)) = false) := Lib.hid (fun k hk hk2 => by
          cases e : eLt a b (es.getD k (0, 0, 0))
          · rfl
          · rw [HM.out h k hk hk2 e] at hp; cases hp)
        clear hp
        go_wp2
        refine wp_region_below (by kernel_rfl) (by kernel_rfl) ?_
        repeat (go_big_quiet_step ((intro hw; first | with_reducible rfl | (obtain ⟨f0, f1, f2, g0, g1, g2⟩ := FF.out _ hw; simp only [f0, f1, f2, g0, g1, g2, Result.andThen]; first | exact ⟨trivial, rfl⟩ | exact ⟨rfl, rfl⟩) | (go_at_call 93; exact quietB (compareEnds _ _ _ _ _ _ _) hw))))
        refine wpQuiet_nil ?_
        intro w1 hw1
        obtain ⟨-, -, -, y0, y1, y2⟩ := FF.out _ hw1
        go_wp2
        go_roundw
        case rel => first | exact ⟨i, h, hi1, by omega, rfl, by go_num, H1.out, HP.out, bel_trans hbel hw1, y0, y1, y2, Nat.lt_of_lt_of_le hsz hw1.size⟩ | ((repeat apply Exists.intro); exact ⟨⟨i, h, hi1, by omega, rfl, by go_num, H1.out, HP.out, bel_trans hbel hw1, y0, y1, y2, Nat.lt_of_lt_of_le hsz hw1.size⟩, rfl⟩)
        case measure => simp [intOf]; omega
    · have hij' : i = j := by omega
      subst hij'
      have hL : lbE es a b = i := lbE_of hj H1.out (fun h => H2.out i (Nat.le_refl _) h)
      have hF0 : fdE es a b = (decide (i < es.length) && decide (cEnds (es.getD i (0, 0, 0)).1 (es.getD i (0, 0, 0)).2.1 a b = 0)) := by unfold fdE; rw [hL]
      have HL := Lib.hid hL
      by_cases hin : i < es.length
      · have hin' : (i : Int) < es.length := by omega
        rcases hz.out with h0 | ⟨b0, off, rfl, hb, hc⟩
        · rw [h0] at hin; simp at hin
        obtain ⟨x, y, z, hx⟩ : ∃ x y z, (x, y, z) = es.getD i (0, 0, 0) := ⟨_, _, _, rfl⟩
        have h1 := hc i hin
        rw [← hx] at h1 hF0
        simp only [decide_eq_true hin, Bool.true_and] at h1 hF0
        have ff : ∀ w', Below wr.heap.size wr w' → w'.cell? ⟨b0, off + i * 3, none⟩ = some (.int .i64 x) ∧ w'.cell? ⟨b0, off + i * 3 + 1, none⟩ = some (.int .i64 y) ∧ w'.cell? ⟨b0, off + i * 3 + 2, none⟩ = some (.int .i64 z) ∧
            w'.cell? ⟨w.heap.size, 0, none⟩ = some (.int .i64 a) ∧ w'.cell? ⟨w.heap.size, 1, none⟩ = some (.int .i64 b) ∧ w'.cell? ⟨w.heap.size, 2, none⟩ = some (.int .i64 q) := by
          intro w' k
          have hB := bel_trans hbel k
          exact ⟨(hB.cell (p := ⟨b0, _, none⟩) hb).trans h1.1, (hB.cell (p := ⟨b0, _, none⟩) hb).trans h1.2.1, (hB.cell (p := ⟨b0, _, none⟩) hb).trans h1.2.2, (k.cell (p := ⟨_, _, none⟩) hsz).trans x0, (k.cell (p := ⟨_, _, none⟩) hsz).trans x1, (k.cell (p := ⟨_, _, none⟩) hsz).trans x2⟩
        have FF := Lib.hid ff
        have HF := Lib.hid hF0
        clear hc h1 ff hx hF0 hL H1 H2
        go_wp2
        refine wp_region_below (by kernel_rfl) (by kernel_rfl) ?_
        repeat (go_big_quiet_step ((intro hw; first | with_reducible rfl | (obtain ⟨f0, f1, f2, g0, g1, g2⟩ := FF.out _ hw; simp only [f0, f1, f2, g0, g1, g2, Result.andThen]; first | exact ⟨trivial, rfl⟩ | exact ⟨rfl, rfl⟩) | (go_at_call 93; exact quietB (compareEnds _ _ _ _ _ _ _) hw))))
        refine wpQuiet_nil ?_
        intro w1 hw1
        go_wp2
        go_ret2
        exact ⟨by rw [HL.out, HF.out]; simp [beq_iff_eq_decide], bel_trans hbel hw1⟩
      · have hin' : ¬ ((i : Int) < es.length) := by omega
        have HF : Hid (fdE es a b = false) := Lib.hid (by rw [hF0, decide_eq_false hin]; rfl)
        clear hF0 hL H1 H2
        go_wp2
        refine wp_region_below (by kernel_rfl) (by kernel_rfl) ?_
        repeat (go_big_quiet_step ((intro hw; first | with_reducible rfl | (obtain ⟨f0, f1, f2, g0, g1, g2⟩ := FF.out _ hw; simp only [f0, f1, f2, g0, g1, g2, Result.andThen]; first | exact ⟨trivial, rfl⟩ | exact ⟨rfl, rfl⟩) | (go_at_call 93; exact quietB (compareEnds _ _ _ _ _ _ _) hw))))
        refine wpQuiet_nil ?_
        intro w1 hw1
        go_wp2
        go_ret2
        exact ⟨by rw [HL.out, HF.out]; rfl, bel_trans hbel hw1⟩
end Go.Proofs.Ytlgjcofpdaljnaa
namespace Go.Proofs.Ytlgjcofpdaljnaa
open Go.RowKit Go.BigFrame
set_option linter.unusedVariables false
set_option linter.unusedSimpArgs false

/-! the order -/
theorem cInt_lt {a b : Int} : cInt a b < 0 ↔ a < b := by
  unfold cInt; split
  · simp; assumption
  · split <;> simp <;> omega
theorem cInt_eq {a b : Int} : cInt a b = 0 ↔ a = b := by
  unfold cInt; split
  · simp; omega
  · split <;> simp <;> omega
theorem cEnds_lt {a b c d : Int} : cEnds a b c d < 0 ↔ (a < c ∨ (a = c ∧ b < d)) := by
  unfold cEnds cOr
  by_cases h : cInt a c = 0
  · simp only [h, ne_eq, not_true_eq_false, if_false]
    rw [cInt_lt]
    have := cInt_eq.1 h
    omega
  · rw [if_pos h, cInt_lt]
    have : ¬ a = c := fun e => h (cInt_eq.2 e)
    omega
theorem cEnds_eq {a b c d : Int} : cEnds a b c d = 0 ↔ (a = c ∧ b = d) := by
  unfold cEnds cOr
  by_cases h : cInt a c = 0
  · simp only [h, ne_eq, not_true_eq_false, if_false]
    rw [cInt_eq]
    have := cInt_eq.1 h
    omega
  · rw [if_pos h, cInt_eq]
    have : ¬ a = c := fun e => h (cInt_eq.2 e)
    omega
/-- Is an edge in front of another one? -/
def EdLt (e f : Ed) : Prop := e.1 < f.1 ∨ (e.1 = f.1 ∧ e.2.1 < f.2.1)
theorem eLt_iff {a b : Int} {e : Ed} : eLt a b e = true ↔ (e.1 < a ∨ (e.1 = a ∧ e.2.1 < b)) := by
  unfold eLt; rw [decide_eq_true_eq, cEnds_lt]

/-! what a valid graph is -/
theorem gVal_parts {n : Int} {es : List Ed} (h : gVal n es = true) : 1 ≤ n ∧ n ≤ 12 ∧ es.length ≤ 40 ∧ (∀ i, i < es.length → okAt n es i = true) := by
  simp only [gVal, Bool.and_eq_true, decide_eq_true_eq, List.all_eq_true, List.mem_range] at h
  exact ⟨h.1.1, h.1.2, h.2.1, h.2.2⟩
theorem gVal_fits {n : Int} {es : List Ed} (h : gVal n es = true) {i : Nat} (hi : i < es.length) : eFits n (es.getD i (0, 0, 0)).1 (es.getD i (0, 0, 0)).2.1 (es.getD i (0, 0, 0)).2.2 = true := by
  have := (gVal_parts h).2.2.2 i hi
  simp only [okAt, Bool.and_eq_true] at this
  exact this.1
theorem gVal_next {n : Int} {es : List Ed} (h : gVal n es = true) {i : Nat} (hi : i + 1 < es.length) : EdLt (es.getD i (0, 0, 0)) (es.getD (i + 1) (0, 0, 0)) := by
  have := (gVal_parts h).2.2.2 (i + 1) hi
  simp only [okAt, Bool.and_eq_true, Bool.or_eq_true, decide_eq_true_eq, Nat.add_sub_cancel] at this
  rcases this.2 with h0 | h1
  · omega
  · exact cEnds_lt.1 h1
theorem EdLt.trans {e f g : Ed} (h : EdLt e f) (k : EdLt f g) : EdLt e g := by
  unfold EdLt at *; omega
theorem gVal_sorted {n : Int} {es : List Ed} (h : gVal n es = true) {i j : Nat} (hij : i < j) (hj : j < es.length) : EdLt (es.getD i (0, 0, 0)) (es.getD j (0, 0, 0)) := by
  induction j with
  | zero => omega
  | succ j ih =>
    by_cases e : i = j
    · subst e; exact gVal_next h hj
    · exact (ih (by omega) (by omega)).trans (gVal_next h hj)
theorem gVal_mono {n : Int} {es : List Ed} (h : gVal n es = true) (a b : Int) : MonoE es a b := by
  intro i j hij hj hl
  by_cases e : i = j
  · subst e; exact hl
  · have := gVal_sorted h (show i < j by omega) hj
    rw [eLt_iff] at hl ⊢
    unfold EdLt at this
    omega

theorem lbE_le (es : List Ed) (a b : Int) : lbE es a b ≤ es.length := by
  unfold lbE
  induction es with
  | nil => simp
  | cons e es ih => rw [List.takeWhile_cons]; split <;> simp <;> omega

/-- The weight of an edge, and whether it is there. -/
def wOf (n : Int) (es : List Ed) (a b : Int) : Int × Bool := if gVal n es = true ∧ fdE es a b = true then ((es.getD (lbE es a b) (0, 0, 0)).2.2, true) else (0, false)

theorem findEdge (n : Int) (es : List Ed) (a b : Int) (s : Value) (w : World) (hs : RowE w s es) (hl : es.length ≤ 1048576) (hm : MonoE es a b) :
    Calls Try.prog 137 #[.agg #[.int .i64 n, s], .int .i64 a, .int .i64 b] w fun e w' => e = .returned (.tuple #[.int .i64 (lbE es a b), .bool (fdE es a b)]) ∧ Below w.heap.size w w' := by
  have hc := fun A => searchEdges es a b 0 s (w.alloc A) (hs.keep ((Below.refl _ _).alloc (Nat.le_refl _) _)) hl hm
  have HC := Lib.hid hc
  clear hc
  go_enter Try.func137, Try.ntmps137
  go_wp2_with (go_at_call 140; refine (HC.out _).mono ?_; rintro e w1 ⟨rfl, hb1⟩)
  go_ret2
  exact ⟨rfl, bel_trans ((Below.refl _ _).alloc (Nat.le_refl _) _) hb1⟩

end Go.Proofs.Ytlgjcofpdaljnaa
namespace Go.Proofs.Ytlgjcofpdaljnaa
open Go.RowKit Go.BigFrame
set_option linter.unusedVariables false
set_option linter.unusedSimpArgs false

/-- Is an edge between these ends? -/
def eBe (a b : Int) (e : Ed) : Bool := decide (e.1 = a) && decide (e.2.1 = b)
/-- The place of the first edge between two ends, or -1. -/
def lfE (es : List Ed) (a b : Int) : Int := match es.findIdx? (eBe a b) with | some i => (i : Int) | none => -1
theorem lfE_at {es : List Ed} {a b : Int} {k : Nat} (hk : k < es.length) (h1 : ∀ i, i < k → eBe a b (es.getD i (0, 0, 0)) = false) (h2 : eBe a b (es.getD k (0, 0, 0)) = true) : lfE es a b = k := by
  have : es.findIdx? (eBe a b) = some k := by
    rw [List.findIdx?_eq_some_iff_getElem]
    refine ⟨hk, by simpa [List.getD, hk] using h2, fun j hj => ?_⟩
    have := h1 j hj
    simpa [List.getD, Nat.lt_trans hj hk] using this
  unfold lfE; rw [this]
theorem lfE_none {es : List Ed} {a b : Int} (h : ∀ i, i < es.length → eBe a b (es.getD i (0, 0, 0)) = false) : lfE es a b = -1 := by
  have : es.findIdx? (eBe a b) = none := by
    rw [List.findIdx?_eq_none_iff]
    intro e he
    obtain ⟨i, hi, rfl⟩ := List.getElem_of_mem he
    have := h i hi
    simpa [List.getD, hi] using this
  unfold lfE; rw [this]
theorem lbE_lt {es : List Ed} {a b : Int} {i : Nat} (hi : i < lbE es a b) : eLt a b (es.getD i (0, 0, 0)) = true := by
  unfold lbE at hi
  induction es generalizing i with
  | nil => simp at hi
  | cons e es ih =>
    rw [List.takeWhile_cons] at hi
    by_cases he : eLt a b e = true
    · rw [if_pos he] at hi
      cases i with
      | zero => simpa [List.getD] using he
      | succ i => have := ih (i := i) (by simpa using hi); simpa [List.getD] using this
    · rw [if_neg he] at hi; simp at hi
theorem lbE_stop {es : List Ed} {a b : Int} (hi : lbE es a b < es.length) : eLt a b (es.getD (lbE es a b) (0, 0, 0)) = false := by
  unfold lbE at *
  induction es with
  | nil => simp at hi
  | cons e es ih =>
    by_cases he : eLt a b e = true
    · rw [List.takeWhile_cons, if_pos he] at hi ⊢
      have := ih (by simpa using hi)
      simpa [List.getD] using this
    · rw [List.takeWhile_cons, if_neg he]
      simpa [List.getD] using he
theorem eBe_lt {a b : Int} {e : Ed} (h : eLt a b e = true) : eBe a b e = false := by
  rw [eLt_iff] at h
  unfold eBe
  by_cases h1 : e.1 = a <;> by_cases h2 : e.2.1 = b <;> simp [h1, h2] <;> omega
theorem eBe_iff {a b : Int} {e : Ed} : eBe a b e = decide (cEnds e.1 e.2.1 a b = 0) := by
  unfold eBe
  by_cases h : cEnds e.1 e.2.1 a b = 0
  · have := cEnds_eq.1 h
    rw [decide_eq_true h]
    simp [this.1, this.2]
  · have : ¬ (e.1 = a ∧ e.2.1 = b) := fun k => h (cEnds_eq.2 k)
    rw [decide_eq_false h]
    by_cases h1 : e.1 = a <;> by_cases h2 : e.2.1 = b <;> simp [h1, h2] <;> exact this ⟨h1, h2⟩
theorem lfE_val {n : Int} {es : List Ed} (hg : gVal n es = true) (a b : Int) : lfE es a b = if fdE es a b = true then (lbE es a b : Int) else -1 := by
  cases hf : fdE es a b
  · rw [if_neg (by simp)]
    apply lfE_none
    intro i hi
    by_cases hlt : i < lbE es a b
    · exact eBe_lt (lbE_lt hlt)
    · have hl : lbE es a b < es.length := by omega
      have hs := lbE_stop hl
      unfold fdE at hf
      rw [decide_eq_true hl, Bool.true_and, ← eBe_iff] at hf
      by_cases he : i = lbE es a b
      · subst he; exact hf
      · have ho := gVal_sorted hg (show lbE es a b < i by omega) hi
        apply Bool.eq_false_iff.2
        intro hb
        have h1 : ¬ eLt a b (es.getD (lbE es a b) (0, 0, 0)) = true := by rw [hs]; simp
        rw [eLt_iff] at h1
        unfold eBe at hb
        simp only [Bool.and_eq_true, decide_eq_true_eq] at hb
        unfold EdLt at ho
        omega
  · rw [if_pos rfl]
    unfold fdE at hf
    rw [← eBe_iff] at hf
    simp only [Bool.and_eq_true, decide_eq_true_eq] at hf
    exact lfE_at hf.1 (fun i hi => eBe_lt (lbE_lt hi)) hf.2

end Go.Proofs.Ytlgjcofpdaljnaa
