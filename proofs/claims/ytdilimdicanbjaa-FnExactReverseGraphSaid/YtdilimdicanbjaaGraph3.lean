/- When a graph is valid, in the model. -/
import Derived.Test.YtdilimdicanbjaaGraph2
namespace Go.Proofs.Ytdilimdicanbjaa
open Go.RowKit Go.BigFrame
set_option linter.unusedVariables false
set_option linter.unusedSimpArgs false

/-- The model's order of edges. -/
def sLess (a b c d : Int) : Bool := decide (a < c) || (decide (a = c) && decide (b < d))
theorem sLess_eq (a b c d : Int) : sLess a b c d = decide (cEnds a b c d < 0) := by
  unfold sLess cEnds cOr cInt
  by_cases h1 : a < c
  · simp [h1]
  · by_cases h2 : c < a
    · have : ¬ a = c := by omega
      simp [h1, h2, this]
    · have : a = c := by omega
      subst this
      by_cases h3 : b < d
      · simp [h3]
      · by_cases h4 : d < b <;> simp [h3, h4]

theorem sWeightG (x : Int) (w : World) :
    Calls Try.prog 68 #[.int .i64 x] w fun e w' => e = .returned (.bool (decide (1 ≤ x) && decide (x ≤ 999))) ∧ Below w.heap.size w w' := by
  by_cases h : 1 ≤ x
  · have hd : decide (1 ≤ x) = true := by simpa using h
    rw [hd]
    go_enter Try.func68, Try.ntmps68
    go_wp2
    go_ret
    exact ⟨by simp, Below.refl _ _⟩
  · have hd : decide (1 ≤ x) = false := by simpa using h
    rw [hd]
    go_enter Try.func68, Try.ntmps68
    go_wp2
    go_ret
    exact ⟨by simp, Below.refl _ _⟩

theorem l2Less (a b p c d q : Int) (w : World) :
    Calls Try.prog 69 #[.agg #[.int .i64 a, .int .i64 b, .int .i64 p], .agg #[.int .i64 c, .int .i64 d, .int .i64 q]] w fun e w' => e = .returned (.bool (sLess a b c d)) ∧ Below w.heap.size w w' := by
  by_cases h : a < c
  · have e0 : sLess a b c d = true := by simp [sLess, h]
    rw [e0]
    clear e0
    go_enter Try.func69, Try.ntmps69
    go_wp2
    go_ret
    exact ⟨rfl, ((Below.refl _ _).alloc (Nat.le_refl _) _).alloc (by simp) _⟩
  · by_cases h2 : a = c
    · subst h2
      have e0 : sLess a b a d = decide (b < d) := by simp [sLess]
      rw [e0]
      clear e0 h
      go_enter Try.func69, Try.ntmps69
      go_wp2
      go_ret
      exact ⟨rfl, ((Below.refl _ _).alloc (Nat.le_refl _) _).alloc (by simp) _⟩
    · have e0 : sLess a b c d = false := by simp [sLess, h, h2]
      rw [e0]
      clear e0
      have hd : decide (a = c) = false := by simpa using h2
      go_enter Try.func69, Try.ntmps69
      go_wp2
      go_ret
      exact ⟨rfl, ((Below.refl _ _).alloc (Nat.le_refl _) _).alloc (by simp) _⟩

set_option maxHeartbeats 4000000 in
theorem sGraphValid (n : Int) (es : List Ed) (s : Value) (w : World) (hr : RowE w s es) (hl : es.length ≤ 281474976710656) :
    Calls Try.prog 45 #[.agg #[.int .i64 n, s]] w fun e w' => e = .returned (.bool (gVal n es)) ∧ Below w.heap.size w w' := by
  obtain ⟨a, cap, rfl, hz0⟩ := hr
  have hz := Lib.hid hz0
  clear hz0
  by_cases hn : n < 1 ∨ 12 < n ∨ 40 < (es.length : Int)
  · rw [gVal_small hn]
    by_cases hn1 : n < 1
    · go_enter Try.func45, Try.ntmps45
      go_wp2
      go_ret
      exact ⟨rfl, (Below.refl _ _).alloc (Nat.le_refl _) _⟩
    by_cases hn2 : 12 < n
    · go_enter Try.func45, Try.ntmps45
      go_wp2
      go_ret
      exact ⟨rfl, (Below.refl _ _).alloc (Nat.le_refl _) _⟩
    have hn3 : 40 < (es.length : Int) := by omega
    clear hn
    go_enter Try.func45, Try.ntmps45
    go_wp2
    go_ret
    exact ⟨rfl, (Below.refl _ _).alloc (Nat.le_refl _) _⟩
  have hn1 : ¬ n < 1 := by omega
  have hn2 : ¬ 12 < n := by omega
  have hn3 : ¬ 40 < (es.length : Int) := by omega
  clear hn
  have d1 : decide (n < 1) = false := by simpa using hn1
  have d2 : decide (12 < n) = false := by simpa using hn2
  have d3 : decide (40 < (es.length : Int)) = false := by simpa using hn3
  rw [gVal_mid hn1 hn2 hn3]
  clear hn1 hn2 hn3
  obtain ⟨R, hR⟩ : ∃ R, R = (List.range es.length).all (okAt n es) := ⟨_, rfl⟩
  rw [← hR]
  have HR := Lib.hid hR
  clear hR
  go_enter Try.func45, Try.ntmps45
  go_wp2
  go_loopw [3] (fun c wr => ∃ k : Nat, k ≤ es.length ∧ c = .int .i64 k ∧ (List.range k).all (okAt n es) = true ∧ Below w.heap.size w wr ∧ wr.cell? ⟨w.heap.size, 0, none⟩ = some (.int .i64 n) ∧ wr.cell? ⟨w.heap.size, 1, none⟩ = some (.slice a es.length cap) ∧ w.heap.size < wr.heap.size) (fun c _ => es.length - (intOf c).toNat)
  case atStart => exact ⟨0, Nat.zero_le _, rfl, rfl, (Below.refl _ _).alloc (Nat.le_refl _) _, by go_simp, by go_simp, by simp⟩
  case round =>
    obtain ⟨k, hk, rfl, hall, hbel, hn, hs, hsz⟩ := hrel
    by_cases hlt : k < es.length
    · have hlt' : (k : Int) < es.length := by omega
      rcases hz.out with h0 | ⟨b, off, rfl, hb, hc⟩
      · rw [h0] at hlt; simp at hlt
      obtain ⟨x, y, z, hx⟩ : ∃ x y z, (x, y, z) = es.getD k (0, 0, 0) := ⟨_, _, _, rfl⟩
      obtain ⟨c0, c1, c2⟩ := hc k hlt
      rw [← hbel.cell (p := ⟨b, _, none⟩) hb, ← hx] at c0 c1 c2
      simp only at c0 c1 c2
      have ff : ∀ w', Below (wr.alloc (Obj.cells #[.int .i64 x, .int .i64 y, .int .i64 z] 72)).heap.size (wr.alloc (Obj.cells #[.int .i64 x, .int .i64 y, .int .i64 z] 72)) w' → w'.cell? ⟨w.heap.size, 0, none⟩ = some (.int .i64 n) ∧ w'.cell? ⟨w.heap.size, 1, none⟩ = some (.slice (some ⟨b, off, none⟩) es.length cap) ∧
          w'.cell? ⟨wr.heap.size, 0, none⟩ = some (.int .i64 x) ∧ w'.cell? ⟨wr.heap.size, 1, none⟩ = some (.int .i64 y) ∧ w'.cell? ⟨wr.heap.size, 2, none⟩ = some (.int .i64 z) := by
        intro w' h
        refine ⟨(h.cell (by simp <;> omega)).trans ?_, (h.cell (by simp <;> omega)).trans ?_, (h.cell (by simp)).trans ?_, (h.cell (by simp)).trans ?_, (h.cell (by simp)).trans ?_⟩ <;> go_simp
      have FF := Lib.hid ff
      have hbW : Below w.heap.size w (wr.alloc (Obj.cells #[.int .i64 x, .int .i64 y, .int .i64 z] 72)) := hbel.alloc (by omega) _
      have hsW : w.heap.size < (wr.alloc (Obj.cells #[.int .i64 x, .int .i64 y, .int .i64 z] 72)).heap.size := by simp; omega
      have hf0 := fun w => sWeightG z w
      have HA := Lib.hid hall
      have HX := Lib.hid hx
      have HC := Lib.hid hc
      clear hc hall hx ff
      cases hf : eFits n x y z
      · have HO := Lib.hid (okAll_false hlt (okAt_fits HX.out hf))
        by_cases q0 : x < 0
        · have d4 : decide (x < 0) = true := by simpa using q0
          have HF := Lib.hid hf0
          clear hf0 hf q0
          go_wp2
          generalize (wr.alloc (Obj.cells #[.int .i64 x, .int .i64 y, .int .i64 z] 72)) = W1 at FF hbW hsW ⊢
          refine wp_region_below (by kernel_rfl) (by kernel_rfl) ?_
          repeat (go_big_quiet_step ((intro hw; first | with_reducible rfl | (obtain ⟨f0, f1, g0, g1, g2⟩ := FF.out _ hw; simp only [g0, Result.andThen]; first | exact ⟨trivial, rfl⟩ | exact ⟨rfl, rfl⟩) | (go_at_call 68; exact quietB (HF.out _) hw))))
          refine wpQuiet_nil ?_
          intro w1 hw1
          go_wp2
          go_ret
          exact ⟨by rw [HR.out, HO.out]; rfl, bel_trans hbW hw1⟩
        have d4 : decide (x < 0) = false := by simpa using q0
        by_cases q1 : n ≤ x
        · have d5 : decide (n ≤ x) = true := by simpa using q1
          have HF := Lib.hid hf0
          clear hf0 hf q1
          go_wp2
          generalize (wr.alloc (Obj.cells #[.int .i64 x, .int .i64 y, .int .i64 z] 72)) = W1 at FF hbW hsW ⊢
          refine wp_region_below (by kernel_rfl) (by kernel_rfl) ?_
          repeat (go_big_quiet_step ((intro hw; first | with_reducible rfl | (obtain ⟨f0, f1, g0, g1, g2⟩ := FF.out _ hw; simp only [f0, g0, Result.andThen]; first | exact ⟨trivial, rfl⟩ | exact ⟨rfl, rfl⟩) | (go_at_call 68; exact quietB (HF.out _) hw))))
          refine wpQuiet_nil ?_
          intro w1 hw1
          go_wp2
          go_ret
          exact ⟨by rw [HR.out, HO.out]; rfl, bel_trans hbW hw1⟩
        have d5 : decide (n ≤ x) = false := by simpa using q1
        by_cases q2 : y < 0
        · have d6 : decide (y < 0) = true := by simpa using q2
          have HF := Lib.hid hf0
          clear hf0 hf q2
          go_wp2
          generalize (wr.alloc (Obj.cells #[.int .i64 x, .int .i64 y, .int .i64 z] 72)) = W1 at FF hbW hsW ⊢
          refine wp_region_below (by kernel_rfl) (by kernel_rfl) ?_
          repeat (go_big_quiet_step ((intro hw; first | with_reducible rfl | (obtain ⟨f0, f1, g0, g1, g2⟩ := FF.out _ hw; simp only [f0, g0, g1, Result.andThen]; first | exact ⟨trivial, rfl⟩ | exact ⟨rfl, rfl⟩) | (go_at_call 68; exact quietB (HF.out _) hw))))
          refine wpQuiet_nil ?_
          intro w1 hw1
          go_wp2
          go_ret
          exact ⟨by rw [HR.out, HO.out]; rfl, bel_trans hbW hw1⟩
        have d6 : decide (y < 0) = false := by simpa using q2
        by_cases q3 : n ≤ y
        · have d7 : decide (n ≤ y) = true := by simpa using q3
          have HF := Lib.hid hf0
          clear hf0 hf q3
          go_wp2
          generalize (wr.alloc (Obj.cells #[.int .i64 x, .int .i64 y, .int .i64 z] 72)) = W1 at FF hbW hsW ⊢
          refine wp_region_below (by kernel_rfl) (by kernel_rfl) ?_
          repeat (go_big_quiet_step ((intro hw; first | with_reducible rfl | (obtain ⟨f0, f1, g0, g1, g2⟩ := FF.out _ hw; simp only [f0, g0, g1, Result.andThen]; first | exact ⟨trivial, rfl⟩ | exact ⟨rfl, rfl⟩) | (go_at_call 68; exact quietB (HF.out _) hw))))
          refine wpQuiet_nil ?_
          intro w1 hw1
          go_wp2
          go_ret
          exact ⟨by rw [HR.out, HO.out]; rfl, bel_trans hbW hw1⟩
        have d7 : decide (n ≤ y) = false := by simpa using q3
        by_cases q4 : x = y
        · have d8 : decide (x = y) = true := by simpa using q4
          have d9 : (x == y) = true := by simpa using q4
          have HF := Lib.hid hf0
          clear hf0 hf q4
          go_wp2
          generalize (wr.alloc (Obj.cells #[.int .i64 x, .int .i64 y, .int .i64 z] 72)) = W1 at FF hbW hsW ⊢
          refine wp_region_below (by kernel_rfl) (by kernel_rfl) ?_
          repeat (go_big_quiet_step ((intro hw; first | with_reducible rfl | (obtain ⟨f0, f1, g0, g1, g2⟩ := FF.out _ hw; simp only [f0, g0, g1, Result.andThen]; first | exact ⟨trivial, rfl⟩ | exact ⟨rfl, rfl⟩) | (go_at_call 68; exact quietB (HF.out _) hw))))
          refine wpQuiet_nil ?_
          intro w1 hw1
          go_wp2
          go_ret
          exact ⟨by rw [HR.out, HO.out]; rfl, bel_trans hbW hw1⟩
        have d8 : decide (x = y) = false := by simpa using q4
        have d9 : (x == y) = false := by simpa using q4
        have hw0 : (decide (1 ≤ z) && decide (z ≤ 999)) = false := by
          have e1 : decide (0 ≤ x) = true := by simp; omega
          have e2 : decide (x < n) = true := by simp; omega
          have e3 : decide (0 ≤ y) = true := by simp; omega
          have e4 : decide (y < n) = true := by simp; omega
          have e5 : decide (x ≠ y) = true := by simpa using q4
          unfold eFits at hf
          rw [e1, e2, e3, e4, e5] at hf
          simpa using hf
        rw [hw0] at hf0
        have HF := Lib.hid hf0
        clear hf0 hf q0 q1 q2 q3 q4 hw0
        go_wp2
        generalize (wr.alloc (Obj.cells #[.int .i64 x, .int .i64 y, .int .i64 z] 72)) = W1 at FF hbW hsW ⊢
        refine wp_region_below (by kernel_rfl) (by kernel_rfl) ?_
        repeat (go_big_quiet_step ((intro hw; first | with_reducible rfl | (obtain ⟨f0, f1, g0, g1, g2⟩ := FF.out _ hw; simp only [f0, g0, g1, g2, Result.andThen]; first | exact ⟨trivial, rfl⟩ | exact ⟨rfl, rfl⟩) | (go_at_call 68; exact quietB (HF.out _) hw))))
        refine wpQuiet_nil ?_
        intro w1 hw1
        go_wp2
        go_ret
        exact ⟨by rw [HR.out, HO.out]; rfl, bel_trans hbW hw1⟩
      · have hfits : x < n ∧ 0 ≤ x ∧ y < n ∧ 0 ≤ y ∧ x ≠ y ∧ (decide (1 ≤ z) && decide (z ≤ 999)) = true := by
          simp only [eFits, Bool.and_eq_true, decide_eq_true_eq] at hf ⊢
          omega
        obtain ⟨q0, q1, q2, q3, q4, q5⟩ := hfits
        have d4 : decide (x < 0) = false := by simp; omega
        have d5 : decide (n ≤ x) = false := by simp; omega
        have d6 : decide (y < 0) = false := by simp; omega
        have d7 : decide (n ≤ y) = false := by simp; omega
        have d8 : decide (x = y) = false := by simpa using q4
        have d9 : (x == y) = false := by simpa using q4
        rw [q5] at hf0
        have HF := Lib.hid hf0
        clear hf0 q0 q1 q2 q3 q4 q5
        match k, hk, HA, HX, hlt, hlt', c0, c1, c2 with
        | 0, hk, HA, HX, hlt, hlt', c0, c1, c2 =>
          have hok := Lib.hid (okAt_zero HX.out hf)
          simp only [Nat.zero_mul, Nat.add_zero] at c0 c1 c2
          clear hf
          go_wp2
          generalize (wr.alloc (Obj.cells #[.int .i64 x, .int .i64 y, .int .i64 z] 72)) = W1 at FF hbW hsW ⊢
          refine wp_region_below (by kernel_rfl) (by kernel_rfl) ?_
          repeat (go_big_quiet_step ((intro hw; first | with_reducible rfl | (obtain ⟨f0, f1, g0, g1, g2⟩ := FF.out _ hw; simp only [f0, g0, g1, g2, Result.andThen]; first | exact ⟨trivial, rfl⟩ | exact ⟨rfl, rfl⟩) | (go_at_call 68; exact quietB (HF.out _) hw))))
          refine wpQuiet_nil ?_
          intro w1 hw1
          obtain ⟨k0, k1, -⟩ := FF.out _ hw1
          have hsz1 : w.heap.size < w1.heap.size := Nat.lt_of_lt_of_le hsW hw1.size
          go_wp2
          go_roundw
          case rel => first | exact ⟨1, by omega, by go_num, by rw [okAll_snoc, HA.out, hok.out]; rfl, bel_trans hbW hw1, k0, k1, hsz1⟩ | ((repeat apply Exists.intro); exact ⟨⟨1, by omega, by go_num, by rw [okAll_snoc, HA.out, hok.out]; rfl, bel_trans hbW hw1, k0, k1, hsz1⟩, rfl⟩)
          case measure => simp [intOf]; omega
        | k + 1, hk, HA, HX, hlt, hlt', c0, c1, c2 =>
          obtain ⟨p, q, r, hp⟩ : ∃ p q r, (p, q, r) = es.getD k (0, 0, 0) := ⟨_, _, _, rfl⟩
          have hcp := HC.out k (by omega)
          rw [← hp] at hcp
          simp only at hcp
          have mm : ∀ w', Below (wr.alloc (Obj.cells #[.int .i64 x, .int .i64 y, .int .i64 z] 72)).heap.size (wr.alloc (Obj.cells #[.int .i64 x, .int .i64 y, .int .i64 z] 72)) w' → w'.cell? ⟨b, off + k * 3, none⟩ = some (.int .i64 p) ∧ w'.cell? ⟨b, off + k * 3 + 1, none⟩ = some (.int .i64 q) ∧ w'.cell? ⟨b, off + k * 3 + 2, none⟩ = some (.int .i64 r) := by
            intro w' h
            have hB := bel_trans hbW h
            exact ⟨(hB.cell (p := ⟨b, _, none⟩) hb).trans hcp.1, (hB.cell (p := ⟨b, _, none⟩) hb).trans hcp.2.1, (hB.cell (p := ⟨b, _, none⟩) hb).trans hcp.2.2⟩
          have MM := Lib.hid mm
          have ok := okAt_succ HX.out hp hf
          have HP := Lib.hid hp
          clear mm hcp hp
          by_cases hcm : cEnds p q x y < 0
          · have hl0 : ∀ w, Calls Try.prog 69 #[.agg #[.int .i64 p, .int .i64 q, .int .i64 r], .agg #[.int .i64 x, .int .i64 y, .int .i64 z]] w fun e w' => e = .returned (.bool true) ∧ Below w.heap.size w w' := fun w => by have h := l2Less p q r x y z w; rw [sLess_eq, decide_eq_true hcm] at h; exact h
            have HL := Lib.hid hl0
            clear hl0
            have hok : Hid (okAt n es (k + 1) = true) := Lib.hid (by rw [ok]; simpa using hcm)
            clear ok hcm hf
            go_wp2
            generalize (wr.alloc (Obj.cells #[.int .i64 x, .int .i64 y, .int .i64 z] 72)) = W1 at FF MM hbW hsW ⊢
            refine wp_region_below (by kernel_rfl) (by kernel_rfl) ?_
            repeat (go_big_quiet_step ((intro hw; first | with_reducible rfl | (obtain ⟨f0, f1, g0, g1, g2⟩ := FF.out _ hw; obtain ⟨m0, m1, m2⟩ := MM.out _ hw; simp only [f0, f1, g0, g1, g2, m0, m1, m2, Result.andThen]; first | exact ⟨trivial, rfl⟩ | exact ⟨rfl, rfl⟩) | (go_at_call 68; exact quietB (HF.out _) hw) | (go_at_call 69; exact quietB (HL.out _) hw))))
            refine wpQuiet_nil ?_
            intro w1 hw1
            obtain ⟨k0, k1, -⟩ := FF.out _ hw1
            have hsz1 : w.heap.size < w1.heap.size := Nat.lt_of_lt_of_le hsW hw1.size
            go_wp2
            go_roundw
            case rel => first | exact ⟨k + 2, by omega, by go_num, by rw [okAll_snoc, HA.out, hok.out]; rfl, bel_trans hbW hw1, k0, k1, hsz1⟩ | ((repeat apply Exists.intro); exact ⟨⟨k + 2, by omega, by go_num, by rw [okAll_snoc, HA.out, hok.out]; rfl, bel_trans hbW hw1, k0, k1, hsz1⟩, rfl⟩)
            case measure => simp [intOf]; omega
          · have hl0 : ∀ w, Calls Try.prog 69 #[.agg #[.int .i64 p, .int .i64 q, .int .i64 r], .agg #[.int .i64 x, .int .i64 y, .int .i64 z]] w fun e w' => e = .returned (.bool false) ∧ Below w.heap.size w w' := fun w => by have h := l2Less p q r x y z w; rw [sLess_eq, decide_eq_false hcm] at h; exact h
            have HL := Lib.hid hl0
            clear hl0
            have HO := Lib.hid (okAll_false hlt (by rw [ok]; simpa using hcm : okAt n es (k + 1) = false))
            clear ok hcm hf
            go_wp2
            generalize (wr.alloc (Obj.cells #[.int .i64 x, .int .i64 y, .int .i64 z] 72)) = W1 at FF MM hbW hsW ⊢
            refine wp_region_below (by kernel_rfl) (by kernel_rfl) ?_
            repeat (go_big_quiet_step ((intro hw; first | with_reducible rfl | (obtain ⟨f0, f1, g0, g1, g2⟩ := FF.out _ hw; obtain ⟨m0, m1, m2⟩ := MM.out _ hw; simp only [f0, f1, g0, g1, g2, m0, m1, m2, Result.andThen]; first | exact ⟨trivial, rfl⟩ | exact ⟨rfl, rfl⟩) | (go_at_call 68; exact quietB (HF.out _) hw) | (go_at_call 69; exact quietB (HL.out _) hw))))
            refine wpQuiet_nil ?_
            intro w1 hw1
            go_wp2
            go_ret
            exact ⟨by rw [HR.out, HO.out]; rfl, bel_trans hbW hw1⟩
    · have hke : k = es.length := by omega
      have hkk : ¬ ((k : Int) < es.length) := by omega
      have HO : Hid ((List.range es.length).all (okAt n es) = true) := Lib.hid (by rw [← hke]; exact hall)
      clear hall hke
      go_wp2
      go_ret
      exact ⟨by rw [HR.out, HO.out]; rfl, hbel⟩
end Go.Proofs.Ytdilimdicanbjaa
