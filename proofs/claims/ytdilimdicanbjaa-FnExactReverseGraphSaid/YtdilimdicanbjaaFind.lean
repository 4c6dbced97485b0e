/- The search for an edge: binary search in the program, one after the other in the model. -/
import Derived.Test.YtdilimdicanbjaaGraph3
import Derived.Test.YtdilimdicanbjaaEdges
namespace Go.Proofs.Ytdilimdicanbjaa
open Go.RowKit Go.BigFrame
set_option linter.unusedVariables false
set_option linter.unusedSimpArgs false

theorem beq_iff_eq_decide (x y : Int) : (x == y) = decide (x = y) := by
  by_cases h : x = y <;> simp [h]
/-- Does an edge stand in front of these ends? -/
def eLt (a b : Int) (e : Ed) : Bool := decide (cEnds e.1 e.2.1 a b < 0)
/-- The place of two ends: how many edges stand in front of them. -/
def lbE (es : List Ed) (a b : Int) : Nat := (es.takeWhile (eLt a b)).length
/-- Is there an edge between them? -/
def fdE (es : List Ed) (a b : Int) : Bool := decide (lbE es a b < es.length) && decide (cEnds (es.getD (lbE es a b) (0, 0, 0)).1 (es.getD (lbE es a b) (0, 0, 0)).2.1 a b = 0)
theorem lbE_of {es : List Ed} {a b : Int} {i : Nat} (hi : i ≤ es.length) (h1 : ∀ k, k < i → eLt a b (es.getD k (0, 0, 0)) = true) (h2 : i < es.length → eLt a b (es.getD i (0, 0, 0)) = false) : lbE es a b = i := by
  unfold lbE
  induction es generalizing i with
  | nil => simp at hi; simp [hi]
  | cons e es ih =>
    cases i with
    | zero =>
      have := h2 (by simp)
      simp [List.getD] at this
      simp [List.takeWhile_cons, this]
    | succ i =>
      have h0 := h1 0 (by omega)
      simp [List.getD] at h0
      rw [List.takeWhile_cons, if_pos h0, List.length_cons, ih (i := i)]
      · simp at hi; exact hi
      · intro k hk
        have := h1 (k + 1) (by omega)
        simpa [List.getD] using this
      · intro hlt
        have := h2 (by simpa using hlt)
        simpa [List.getD] using this

/-- The edges in front stand together. -/
def MonoE (es : List Ed) (a b : Int) : Prop := ∀ i j, i ≤ j → j < es.length → eLt a b (es.getD j (0, 0, 0)) = true → eLt a b (es.getD i (0, 0, 0)) = true

set_option maxHeartbeats 1000000 in
theorem searchEdges (es : List Ed) (a b q : Int) (s : Value) (w : World) (hs : RowE w s es) (hl : es.length ≤ 1048576) (hm : MonoE es a b) :
    Calls Try.prog 72 #[s, .agg #[.int .i64 a, .int .i64 b, .int .i64 q], .func (.func 58) #[] #[]] w fun e w' => e = .returned (.tuple #[.int .i64 (lbE es a b), .bool (fdE es a b)]) ∧ Below w.heap.size w w' := by
  obtain ⟨ad, cap, rfl, hz0⟩ := hs
  have hz := Lib.hid hz0
  have HM := Lib.hid hm
  clear hz0 hm
  go_enter Try.func72, Try.ntmps72
  go_wp2
  go_loopw [9, 10] (fun c d wr => ∃ i j : Nat, i ≤ j ∧ j ≤ es.length ∧ c = .int .i64 i ∧ d = .int .i64 j ∧ (∀ k, k < i → eLt a b (es.getD k (0, 0, 0)) = true) ∧ (∀ k, j ≤ k → k < es.length → eLt a b (es.getD k (0, 0, 0)) = false) ∧ Below w.heap.size w wr ∧ (wr.cell? ⟨w.heap.size, 0, none⟩ = some (.int .i64 a) ∧ wr.cell? ⟨w.heap.size, 1, none⟩ = some (.int .i64 b) ∧ wr.cell? ⟨w.heap.size, 2, none⟩ = some (.int .i64 q) ∧ w.heap.size < wr.heap.size)) (fun c d _ => (intOf d).toNat - (intOf c).toNat)
  case atStart => exact ⟨0, es.length, Nat.zero_le _, Nat.le_refl _, rfl, rfl, fun k hk => absurd hk (Nat.not_lt_zero _), fun k h1 h2 => absurd h2 (by omega), (Below.refl _ _).alloc (Nat.le_refl _) _, by go_simp, by go_simp, by go_simp, by simp⟩
  case round =>
    obtain ⟨i, j, hij, hj, rfl, rfl, h1, h2, hbel, x0, x1, x2, hsz⟩ := hrel
    have H1 := Lib.hid h1
    have H2 := Lib.hid h2
    clear h1 h2
    by_cases hlt : i < j
    · have hlt' : (i : Int) < j := by omega
      rcases hz.out with h0 | ⟨b0, off, rfl, hb, hc⟩
      · rw [h0] at hj; simp at hj; omega
      obtain ⟨h, hh⟩ : ∃ h, h = (i + j) / 2 := ⟨_, rfl⟩
      have he : ((i : Int) + j) / 2 = (h : Int) := by omega
      have hi1 : i ≤ h := by omega
      have hi2 : h < j := by omega
      have hi3 : h < es.length := by omega
      have hi4 : (h : Int) < es.length := by omega
      obtain ⟨x, y, z, hx⟩ : ∃ x y z, (x, y, z) = es.getD h (0, 0, 0) := ⟨_, _, _, rfl⟩
      have h1 := hc h hi3
      rw [← hx] at h1
      simp only at h1
      have ff : ∀ w', Below wr.heap.size wr w' → w'.cell? ⟨b0, off + h * 3, none⟩ = some (.int .i64 x) ∧ w'.cell? ⟨b0, off + h * 3 + 1, none⟩ = some (.int .i64 y) ∧ w'.cell? ⟨b0, off + h * 3 + 2, none⟩ = some (.int .i64 z) ∧
          w'.cell? ⟨w.heap.size, 0, none⟩ = some (.int .i64 a) ∧ w'.cell? ⟨w.heap.size, 1, none⟩ = some (.int .i64 b) ∧ w'.cell? ⟨w.heap.size, 2, none⟩ = some (.int .i64 q) := by
        intro w' k
        have hB := bel_trans hbel k
        exact ⟨(hB.cell (p := ⟨b0, _, none⟩) hb).trans h1.1, (hB.cell (p := ⟨b0, _, none⟩) hb).trans h1.2.1, (hB.cell (p := ⟨b0, _, none⟩) hb).trans h1.2.2, (k.cell (p := ⟨_, _, none⟩) hsz).trans x0, (k.cell (p := ⟨_, _, none⟩) hsz).trans x1, (k.cell (p := ⟨_, _, none⟩) hsz).trans x2⟩
      have FF := Lib.hid ff
      have HX := Lib.hid hx
      clear hc h1 ff hx hh
      by_cases hcm : cEnds x y a b < 0
      · have hp : eLt a b (es.getD h (0, 0, 0)) = true := by rw [← HX.out]; simpa [eLt] using hcm
        have HP : Hid (∀ k, k < h + 1 → eLt a b (es.getD k (0, 0, 0)) = true) := Lib.hid (fun k hk => HM.out k h (by omega) hi3 hp)
        clear hp
        go_wp2
        refine wp_region_below (by kernel_rfl) (by kernel_rfl) ?_
        repeat (go_big_quiet_step ((intro hw; first | with_reducible rfl | (obtain ⟨f0, f1, f2, g0, g1, g2⟩ := FF.out _ hw; simp only [f0, f1, f2, g0, g1, g2, Result.andThen]; first | exact ⟨trivial, rfl⟩ | exact ⟨rfl, rfl⟩) | (go_at_call 58; exact quietB (compareEnds _ _ _ _ _ _ _) hw))))
        refine wpQuiet_nil ?_
        intro w1 hw1
        obtain ⟨-, -, -, y0, y1, y2⟩ := FF.out _ hw1
        go_wp2
        go_roundw
        case rel => first | exact ⟨h + 1, j, by omega, hj, by go_num, rfl, HP.out, H2.out, bel_trans hbel hw1, y0, y1, y2, Nat.lt_of_lt_of_le hsz hw1.size⟩ | ((repeat apply Exists.intro); exact ⟨⟨h + 1, j, by omega, hj, by go_num, rfl, HP.out, H2.out, bel_trans hbel hw1, y0, y1, y2, Nat.lt_of_lt_of_le hsz hw1.size⟩, rfl⟩)
        case measure => simp [intOf]; omega
      · have hp : eLt a b (es.getD h (0, 0, 0)) = false := by rw [← HX.out]; simpa [eLt] using hcm
        have HP : Hid (∀ k, h ≤ k → k < es.length → eLt a b (es.getD k (0, 0, 0)) = false) := Lib.hid (fun k hk hk2 => by
          cases e : eLt a b (es.getD k (0, 0, 0))
          · rfl
          · rw [HM.out h k hk hk2 e] at hp; cases hp)
        clear hp
        go_wp2
        refine wp_region_below (by kernel_rfl) (by kernel_rfl) ?_
        repeat (go_big_quiet_step ((intro hw; first | with_reducible rfl | (obtain ⟨f0, f1, f2, g0, g1, g2⟩ := FF.out _ hw; simp only [f0, f1, f2, g0, g1, g2, Result.andThen]; first | exact ⟨trivial, rfl⟩ | exact ⟨rfl, rfl⟩) | (go_at_call 58; exact quietB (compareEnds _ _ _ _ _ _ _) hw))))
        refine wpQuiet_nil ?_
        intro w1 hw1
        obtain ⟨-, -, -, y0, y1, y2⟩ := FF.out _ hw1
        go_wp2
        go_roundw
        case rel => first | exact ⟨i, h, hi1, by omega, rfl, by go_num, H1.out, HP.out, bel_trans hbel hw1, y0, y1, y2, Nat.lt_of_lt_of_le hsz hw1.size⟩ | ((repeat apply Exists.intro); exact ⟨⟨i, h, hi1, by omega, rfl, by go_num, H1.out, HP.out, bel_trans hbel hw1, y0, y1, y2, Nat.lt_of_lt_of_le hsz hw1.size⟩, rfl⟩)
        case measure => simp [intOf]; omega
    · have hij' : i = j := by omega
      subst hij'
      have hL : lbE es a b = i := lbE_of hj H1.out (fun h => H2.out i (Nat.le_refl _) h)
      have hF0 : fdE es a b = (decide (i < es.length) && decide (cEnds (es.getD i (0, 0, 0)).1 (es.getD i (0, 0, 0)).2.1 a b = 0)) := by unfold fdE; rw [hL]
      have HL := Lib.hid hL
      by_cases hin : i < es.length
      · have hin' : (i : Int) < es.length := by omega
        rcases hz.out with h0 | ⟨b0, off, rfl, hb, hc⟩
        · rw [h0] at hin; simp at hin
        obtain ⟨x, y, z, hx⟩ : ∃ x y z, (x, y, z) = es.getD i (0, 0, 0) := ⟨_, _, _, rfl⟩
        have h1 := hc i hin
        rw [← hx] at h1 hF0
        simp only [decide_eq_true hin, Bool.true_and] at h1 hF0
        have ff : ∀ w', Below wr.heap.size wr w' → w'.cell? ⟨b0, off + i * 3, none⟩ = some (.int .i64 x) ∧ w'.cell? ⟨b0, off + i * 3 + 1, none⟩ = some (.int .i64 y) ∧ w'.cell? ⟨b0, off + i * 3 + 2, none⟩ = some (.int .i64 z) ∧
            w'.cell? ⟨w.heap.size, 0, none⟩ = some (.int .i64 a) ∧ w'.cell? ⟨w.heap.size, 1, none⟩ = some (.int .i64 b) ∧ w'.cell? ⟨w.heap.size, 2, none⟩ = some (.int .i64 q) := by
          intro w' k
          have hB := bel_trans hbel k
          exact ⟨(hB.cell (p := ⟨b0, _, none⟩) hb).trans h1.1, (hB.cell (p := ⟨b0, _, none⟩) hb).trans h1.2.1, (hB.cell (p := ⟨b0, _, none⟩) hb).trans h1.2.2, (k.cell (p := ⟨_, _, none⟩) hsz).trans x0, (k.cell (p := ⟨_, _, none⟩) hsz).trans x1, (k.cell (p := ⟨_, _, none⟩) hsz).trans x2⟩
        have FF := Lib.hid ff
        have HF := Lib.hid hF0
        clear hc h1 ff hx hF0 hL H1 H2
        go_wp2
        refine wp_region_below (by kernel_rfl) (by kernel_rfl) ?_
        repeat (go_big_quiet_step ((intro hw; first | with_reducible rfl | (obtain ⟨f0, f1, f2, g0, g1, g2⟩ := FF.out _ hw; simp only [f0, f1, f2, g0, g1, g2, Result.andThen]; first | exact ⟨trivial, rfl⟩ | exact ⟨rfl, rfl⟩) | (go_at_call 58; exact quietB (compareEnds _ _ _ _ _ _ _) hw))))
        refine wpQuiet_nil ?_
        intro w1 hw1
        go_wp2
        go_ret2
        exact ⟨by rw [HL.out, HF.out]; simp [beq_iff_eq_decide], bel_trans hbel hw1⟩
      · have hin' : ¬ ((i : Int) < es.length) := by omega
        have HF : Hid (fdE es a b = false) := Lib.hid (by rw [hF0, decide_eq_false hin]; rfl)
        clear hF0 hL H1 H2
        go_wp2
        refine wp_region_below (by kernel_rfl) (by kernel_rfl) ?_
        repeat (go_big_quiet_step ((intro hw; first | with_reducible rfl | (obtain ⟨f0, f1, f2, g0, g1, g2⟩ := FF.out _ hw; simp only [f0, f1, f2, g0, g1, g2, Result.andThen]; first | exact ⟨trivial, rfl⟩ | exact ⟨rfl, rfl⟩) | (go_at_call 58; exact quietB (compareEnds _ _ _ _ _ _ _) hw))))
        refine wpQuiet_nil ?_
        intro w1 hw1
        go_wp2
        go_ret2
        exact ⟨by rw [HL.out, HF.out]; rfl, bel_trans hbel hw1⟩
end Go.Proofs.Ytdilimdicanbjaa
