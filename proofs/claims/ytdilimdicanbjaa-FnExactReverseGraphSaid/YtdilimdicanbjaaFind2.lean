/- findEdge and WeightOf, in the program and in the model. -/
import Derived.Test.YtdilimdicanbjaaFind
namespace Go.Proofs.Ytdilimdicanbjaa
open Go.RowKit Go.BigFrame
set_option linter.unusedVariables false
set_option linter.unusedSimpArgs false

/-! the order -/
theorem cInt_lt {a b : Int} : cInt a b < 0 ↔ a < b := by
  unfold cInt; split
  · simp; assumption
  · split <;> simp <;> omega
theorem cInt_eq {a b : Int} : cInt a b = 0 ↔ a = b := by
  unfold cInt; split
  · simp; omega
  · split <;> simp <;> omega
theorem cEnds_lt {a b c d : Int} : cEnds a b c d < 0 ↔ (a < c ∨ (a = c ∧ b < d)) := by
  unfold cEnds cOr
  by_cases h : cInt a c = 0
  · simp only [h, ne_eq, not_true_eq_false, if_false]
    rw [cInt_lt]
    have := cInt_eq.1 h
    omega
  · rw [if_pos h, cInt_lt]
    have : ¬ a = c := fun e => h (cInt_eq.2 e)
    omega
theorem cEnds_eq {a b c d : Int} : cEnds a b c d = 0 ↔ (a = c ∧ b = d) := by
  unfold cEnds cOr
  by_cases h : cInt a c = 0
  · simp only [h, ne_eq, not_true_eq_false, if_false]
    rw [cInt_eq]
    have := cInt_eq.1 h
    omega
  · rw [if_pos h, cInt_eq]
    have : ¬ a = c := fun e => h (cInt_eq.2 e)
    omega
/-- Is an edge in front of another one? -/
def EdLt (e f : Ed) : Prop := e.1 < f.1 ∨ (e.1 = f.1 ∧ e.2.1 < f.2.1)
theorem eLt_iff {a b : Int} {e : Ed} : eLt a b e = true ↔ (e.1 < a ∨ (e.1 = a ∧ e.2.1 < b)) := by
  unfold eLt; rw [decide_eq_true_eq, cEnds_lt]

/-! what a valid graph is -/
theorem gVal_parts {n : Int} {es : List Ed} (h : gVal n es = true) : 1 ≤ n ∧ n ≤ 12 ∧ es.length ≤ 40 ∧ (∀ i, i < es.length → okAt n es i = true) := by
  simp only [gVal, Bool.and_eq_true, decide_eq_true_eq, List.all_eq_true, List.mem_range] at h
  exact ⟨h.1.1, h.1.2, h.2.1, h.2.2⟩
theorem gVal_fits {n : Int} {es : List Ed} (h : gVal n es = true) {i : Nat} (hi : i < es.length) : eFits n (es.getD i (0, 0, 0)).1 (es.getD i (0, 0, 0)).2.1 (es.getD i (0, 0, 0)).2.2 = true := by
  have := (gVal_parts h).2.2.2 i hi
  simp only [okAt, Bool.and_eq_true] at this
  exact this.1
theorem gVal_next {n : Int} {es : List Ed} (h : gVal n es = true) {i : Nat} (hi : i + 1 < es.length) : EdLt (es.getD i (0, 0, 0)) (es.getD (i + 1) (0, 0, 0)) := by
  have := (gVal_parts h).2.2.2 (i + 1) hi
  simp only [okAt, Bool.and_eq_true, Bool.or_eq_true, decide_eq_true_eq, Nat.add_sub_cancel] at this
  rcases this.2 with h0 | h1
  · omega
  · exact cEnds_lt.1 h1
theorem EdLt.trans {e f g : Ed} (h : EdLt e f) (k : EdLt f g) : EdLt e g := by
  unfold EdLt at *; omega
theorem gVal_sorted {n : Int} {es : List Ed} (h : gVal n es = true) {i j : Nat} (hij : i < j) (hj : j < es.length) : EdLt (es.getD i (0, 0, 0)) (es.getD j (0, 0, 0)) := by
  induction j with
  | zero => omega
  | succ j ih =>
    by_cases e : i = j
    · subst e; exact gVal_next h hj
    · exact (ih (by omega) (by omega)).trans (gVal_next h hj)
theorem gVal_mono {n : Int} {es : List Ed} (h : gVal n es = true) (a b : Int) : MonoE es a b := by
  intro i j hij hj hl
  by_cases e : i = j
  · subst e; exact hl
  · have := gVal_sorted h (show i < j by omega) hj
    rw [eLt_iff] at hl ⊢
    unfold EdLt at this
    omega

theorem lbE_le (es : List Ed) (a b : Int) : lbE es a b ≤ es.length := by
  unfold lbE
  induction es with
  | nil => simp
  | cons e es ih => rw [List.takeWhile_cons]; split <;> simp <;> omega

/-- The weight of an edge, and whether it is there. -/
def wOf (n : Int) (es : List Ed) (a b : Int) : Int × Bool := if gVal n es = true ∧ fdE es a b = true then ((es.getD (lbE es a b) (0, 0, 0)).2.2, true) else (0, false)

theorem findEdge (n : Int) (es : List Ed) (a b : Int) (s : Value) (w : World) (hs : RowE w s es) (hl : es.length ≤ 1048576) (hm : MonoE es a b) :
    Calls Try.prog 50 #[.agg #[.int .i64 n, s], .int .i64 a, .int .i64 b] w fun e w' => e = .returned (.tuple #[.int .i64 (lbE es a b), .bool (fdE es a b)]) ∧ Below w.heap.size w w' := by
  have hc := fun A => searchEdges es a b 0 s (w.alloc A) (hs.keep ((Below.refl _ _).alloc (Nat.le_refl _) _)) hl hm
  have HC := Lib.hid hc
  clear hc
  go_enter Try.func50, Try.ntmps50
  go_wp2_with (go_at_call 72; refine (HC.out _).mono ?_; rintro e w1 ⟨rfl, hb1⟩)
  go_ret2
  exact ⟨rfl, bel_trans ((Below.refl _ _).alloc (Nat.le_refl _) _) hb1⟩

end Go.Proofs.Ytdilimdicanbjaa
