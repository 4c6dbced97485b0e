/- When a graph is valid, in the program. -/
import Derived.Test.YtdilimdicanbjaaGraph
namespace Go.Proofs.Ytdilimdicanbjaa
open Go.RowKit Go.BigFrame
set_option linter.unusedVariables false
set_option linter.unusedSimpArgs false

/-- An edge: from, to, weight. -/
abbrev Ed := Int × Int × Int
/-- A slice of edges that reads as a list. -/
def RowE (w : World) (s : Value) (es : List Ed) : Prop :=
  ∃ a cap, s = .slice a es.length cap ∧ (es = [] ∨ ∃ b off, a = some ⟨b, off, none⟩ ∧ b < w.heap.size ∧ ∀ i, i < es.length →
    w.cell? ⟨b, off + i * 3, none⟩ = some (.int .i64 (es.getD i (0, 0, 0)).1) ∧ w.cell? ⟨b, off + i * 3 + 1, none⟩ = some (.int .i64 (es.getD i (0, 0, 0)).2.1) ∧ w.cell? ⟨b, off + i * 3 + 2, none⟩ = some (.int .i64 (es.getD i (0, 0, 0)).2.2))
/-- Does the edge at a place fit, and stand behind the one before it? -/
def okAt (n : Int) (es : List Ed) (i : Nat) : Bool :=
  let e := es.getD i (0, 0, 0)
  let d := es.getD (i - 1) (0, 0, 0)
  eFits n e.1 e.2.1 e.2.2 && (decide (i = 0) || decide (cEnds d.1 d.2.1 e.1 e.2.1 < 0))
/-- Is a graph valid? -/
def gVal (n : Int) (es : List Ed) : Bool := (decide (1 ≤ n) && decide (n ≤ 12)) && (decide (es.length ≤ 40) && (List.range es.length).all (okAt n es))

theorem gVal_small {n : Int} {es : List Ed} (h : n < 1 ∨ 12 < n ∨ 40 < (es.length : Int)) : gVal n es = false := by
  unfold gVal
  rcases h with h | h | h
  · have : decide (1 ≤ n) = false := by simp; omega
    rw [this]; rfl
  · have : decide (n ≤ 12) = false := by simp; omega
    rw [this]; simp
  · have : decide (es.length ≤ 40) = false := by simp; omega
    rw [this]; simp
theorem gVal_mid {n : Int} {es : List Ed} (hn1 : ¬ n < 1) (hn2 : ¬ 12 < n) (hn3 : ¬ 40 < (es.length : Int)) : gVal n es = (List.range es.length).all (okAt n es) := by
  have h1 : decide (1 ≤ n) = true := by simp; omega
  have h2 : decide (n ≤ 12) = true := by simp; omega
  have h3 : decide (es.length ≤ 40) = true := by simp; omega
  simp only [gVal, h1, h2, h3, Bool.true_and]
theorem okAll_snoc (n : Int) (es : List Ed) (k : Nat) : (List.range (k + 1)).all (okAt n es) = ((List.range k).all (okAt n es) && okAt n es k) := by
  rw [List.range_succ, List.all_append]; simp
theorem okAll_false {n : Int} {es : List Ed} {k : Nat} (hk : k < es.length) (h : okAt n es k = false) : (List.range es.length).all (okAt n es) = false := by
  apply Bool.eq_false_iff.2
  intro ha
  rw [List.all_eq_true] at ha
  rw [ha k (by simpa using hk)] at h
  cases h
theorem okAt_fits {n : Int} {es : List Ed} {k : Nat} {x y z : Int} (hx : (x, y, z) = es.getD k (0, 0, 0)) (h : eFits n x y z = false) : okAt n es k = false := by
  simp only [okAt, ← hx, h, Bool.false_and]
theorem okAt_zero {n : Int} {es : List Ed} {x y z : Int} (hx : (x, y, z) = es.getD 0 (0, 0, 0)) (h : eFits n x y z = true) : okAt n es 0 = true := by
  simp only [okAt, ← hx, h]; rfl
theorem okAt_succ {n : Int} {es : List Ed} {k : Nat} {x y z p q r : Int} (hx : (x, y, z) = es.getD (k + 1) (0, 0, 0)) (hp : (p, q, r) = es.getD k (0, 0, 0)) (h : eFits n x y z = true) :
    okAt n es (k + 1) = decide (cEnds p q x y < 0) := by
  have h0 : decide (k + 1 = 0) = false := by simp
  simp only [okAt, ← hx, h, Nat.add_sub_cancel, ← hp, h0, Bool.true_and, Bool.false_or]

set_option maxHeartbeats 1000000 in
theorem graphValid (n : Int) (es : List Ed) (s : Value) (w : World) (hr : RowE w s es) (hl : es.length ≤ 281474976710656) :
    Calls Try.prog 48 #[.agg #[.int .i64 n, s]] w fun e w' => e = .returned (.bool (gVal n es)) ∧ Below w.heap.size w w' := by
  obtain ⟨a, cap, rfl, hz0⟩ := hr
  have hz := Lib.hid hz0
  clear hz0
  by_cases hn : n < 1 ∨ 12 < n ∨ 40 < (es.length : Int)
  · rw [gVal_small hn]
    by_cases hn1 : n < 1
    · go_enter Try.func48, Try.ntmps48
      go_wp2
      go_ret
      exact ⟨rfl, (Below.refl _ _).alloc (Nat.le_refl _) _⟩
    by_cases hn2 : 12 < n
    · go_enter Try.func48, Try.ntmps48
      go_wp2
      go_ret
      exact ⟨rfl, (Below.refl _ _).alloc (Nat.le_refl _) _⟩
    have hn3 : 40 < (es.length : Int) := by omega
    clear hn
    go_enter Try.func48, Try.ntmps48
    go_wp2
    go_ret
    exact ⟨rfl, (Below.refl _ _).alloc (Nat.le_refl _) _⟩
  have hn1 : ¬ n < 1 := by omega
  have hn2 : ¬ 12 < n := by omega
  have hn3 : ¬ 40 < (es.length : Int) := by omega
  clear hn
  have d1 : decide (n < 1) = false := by simpa using hn1
  have d2 : decide (12 < n) = false := by simpa using hn2
  have d3 : decide (40 < (es.length : Int)) = false := by simpa using hn3
  rw [gVal_mid hn1 hn2 hn3]
  clear hn1 hn2 hn3
  obtain ⟨R, hR⟩ : ∃ R, R = (List.range es.length).all (okAt n es) := ⟨_, rfl⟩
  rw [← hR]
  have HR := Lib.hid hR
  clear hR
  go_enter Try.func48, Try.ntmps48
  go_wp2
  go_loopw [22] (fun c wr => ∃ k : Nat, k ≤ es.length ∧ c = .int .i64 k ∧ (List.range k).all (okAt n es) = true ∧ Below w.heap.size w wr ∧ wr.cell? ⟨w.heap.size, 0, none⟩ = some (.int .i64 n) ∧ wr.cell? ⟨w.heap.size, 1, none⟩ = some (.slice a es.length cap) ∧ w.heap.size < wr.heap.size) (fun c _ => es.length - (intOf c).toNat)
  case atStart => exact ⟨0, Nat.zero_le _, rfl, rfl, (Below.refl _ _).alloc (Nat.le_refl _) _, by go_simp, by go_simp, by simp⟩
  case round =>
    obtain ⟨k, hk, rfl, hall, hbel, hn, hs, hsz⟩ := hrel
    by_cases hlt : k < es.length
    · have hlt' : (k : Int) < es.length := by omega
      rcases hz.out with h0 | ⟨b, off, rfl, hb, hc⟩
      · rw [h0] at hlt; simp at hlt
      obtain ⟨x, y, z, hx⟩ : ∃ x y z, (x, y, z) = es.getD k (0, 0, 0) := ⟨_, _, _, rfl⟩
      obtain ⟨c0, c1, c2⟩ := hc k hlt
      rw [← hbel.cell (p := ⟨b, _, none⟩) hb, ← hx] at c0 c1 c2
      simp only at c0 c1 c2
      have ff : ∀ w', Below (wr.alloc (Obj.cells #[.int .i64 x, .int .i64 y, .int .i64 z] 72)).heap.size (wr.alloc (Obj.cells #[.int .i64 x, .int .i64 y, .int .i64 z] 72)) w' → w'.cell? ⟨w.heap.size, 0, none⟩ = some (.int .i64 n) ∧ w'.cell? ⟨w.heap.size, 1, none⟩ = some (.slice (some ⟨b, off, none⟩) es.length cap) ∧
          w'.cell? ⟨wr.heap.size, 0, none⟩ = some (.int .i64 x) ∧ w'.cell? ⟨wr.heap.size, 1, none⟩ = some (.int .i64 y) ∧ w'.cell? ⟨wr.heap.size, 2, none⟩ = some (.int .i64 z) := by
        intro w' h
        refine ⟨(h.cell (by simp <;> omega)).trans ?_, (h.cell (by simp <;> omega)).trans ?_, (h.cell (by simp)).trans ?_, (h.cell (by simp)).trans ?_, (h.cell (by simp)).trans ?_⟩ <;> go_simp
      have FF := Lib.hid ff
      have hbW : Below w.heap.size w (wr.alloc (Obj.cells #[.int .i64 x, .int .i64 y, .int .i64 z] 72)) := hbel.alloc (by omega) _
      have hsW : w.heap.size < (wr.alloc (Obj.cells #[.int .i64 x, .int .i64 y, .int .i64 z] 72)).heap.size := by simp; omega
      have hf0 := fun w => edgeFits n x y z (.slice (some ⟨b, off, none⟩) es.length cap) w
      have HA := Lib.hid hall
      have HX := Lib.hid hx
      have HC := Lib.hid hc
      clear hc hall hx ff
      cases hf : eFits n x y z
      · rw [hf] at hf0
        have HF := Lib.hid hf0
        have HO := Lib.hid (okAll_false hlt (okAt_fits HX.out hf))
        clear hf0 hf
        go_wp2
        generalize (wr.alloc (Obj.cells #[.int .i64 x, .int .i64 y, .int .i64 z] 72)) = W1 at FF hbW hsW ⊢
        refine wp_region_below (by kernel_rfl) (by kernel_rfl) ?_
        repeat (go_big_quiet_step ((intro hw; first | with_reducible rfl | (obtain ⟨f0, f1, g0, g1, g2⟩ := FF.out _ hw; simp only [f0, f1, g0, g1, g2, Result.andThen]; first | exact ⟨trivial, rfl⟩ | exact ⟨rfl, rfl⟩) | (go_at_call 71; exact quietB (HF.out _) hw))))
        refine wpQuiet_nil ?_
        intro w1 hw1
        go_wp2
        go_ret
        exact ⟨by rw [HR.out, HO.out]; rfl, bel_trans hbW hw1⟩
      · rw [hf] at hf0
        have HF := Lib.hid hf0
        clear hf0
        match k, hk, HA, HX, hlt, hlt', c0, c1, c2 with
        | 0, hk, HA, HX, hlt, hlt', c0, c1, c2 =>
          have hok := Lib.hid (okAt_zero HX.out hf)
          simp only [Nat.zero_mul, Nat.add_zero] at c0 c1 c2
          clear hf
          go_wp2
          generalize (wr.alloc (Obj.cells #[.int .i64 x, .int .i64 y, .int .i64 z] 72)) = W1 at FF hbW hsW ⊢
          refine wp_region_below (by kernel_rfl) (by kernel_rfl) ?_
          repeat (go_big_quiet_step ((intro hw; first | with_reducible rfl | (obtain ⟨f0, f1, g0, g1, g2⟩ := FF.out _ hw; simp only [f0, f1, g0, g1, g2, Result.andThen]; first | exact ⟨trivial, rfl⟩ | exact ⟨rfl, rfl⟩) | (go_at_call 71; exact quietB (HF.out _) hw))))
          refine wpQuiet_nil ?_
          intro w1 hw1
          obtain ⟨k0, k1, -⟩ := FF.out _ hw1
          have hsz1 : w.heap.size < w1.heap.size := Nat.lt_of_lt_of_le hsW hw1.size
          go_wp2
          go_roundw
          case rel => first | exact ⟨1, by omega, by go_num, by rw [okAll_snoc, HA.out, hok.out]; rfl, bel_trans hbW hw1, k0, k1, hsz1⟩ | ((repeat apply Exists.intro); exact ⟨⟨1, by omega, by go_num, by rw [okAll_snoc, HA.out, hok.out]; rfl, bel_trans hbW hw1, k0, k1, hsz1⟩, rfl⟩)
          case measure => simp [intOf]; omega
        | k + 1, hk, HA, HX, hlt, hlt', c0, c1, c2 =>
          obtain ⟨p, q, r, hp⟩ : ∃ p q r, (p, q, r) = es.getD k (0, 0, 0) := ⟨_, _, _, rfl⟩
          have hcp := HC.out k (by omega)
          rw [← hp] at hcp
          simp only at hcp
          have mm : ∀ w', Below (wr.alloc (Obj.cells #[.int .i64 x, .int .i64 y, .int .i64 z] 72)).heap.size (wr.alloc (Obj.cells #[.int .i64 x, .int .i64 y, .int .i64 z] 72)) w' → w'.cell? ⟨b, off + k * 3, none⟩ = some (.int .i64 p) ∧ w'.cell? ⟨b, off + k * 3 + 1, none⟩ = some (.int .i64 q) ∧ w'.cell? ⟨b, off + k * 3 + 2, none⟩ = some (.int .i64 r) := by
            intro w' h
            have hB := bel_trans hbW h
            exact ⟨(hB.cell (p := ⟨b, _, none⟩) hb).trans hcp.1, (hB.cell (p := ⟨b, _, none⟩) hb).trans hcp.2.1, (hB.cell (p := ⟨b, _, none⟩) hb).trans hcp.2.2⟩
          have MM := Lib.hid mm
          have ok := okAt_succ HX.out hp hf
          have HP := Lib.hid hp
          clear mm hcp hp
          by_cases hcm : cEnds p q x y < 0
          · have hd : decide (0 ≤ cEnds p q x y) = false := by simp; omega
            have hok : Hid (okAt n es (k + 1) = true) := Lib.hid (by rw [ok]; simpa using hcm)
            clear ok hcm hf
            go_wp2
            generalize (wr.alloc (Obj.cells #[.int .i64 x, .int .i64 y, .int .i64 z] 72)) = W1 at FF MM hbW hsW ⊢
            refine wp_region_below (by kernel_rfl) (by kernel_rfl) ?_
            repeat (go_big_quiet_step ((intro hw; first | with_reducible rfl | (obtain ⟨f0, f1, g0, g1, g2⟩ := FF.out _ hw; obtain ⟨m0, m1, m2⟩ := MM.out _ hw; simp only [f0, f1, g0, g1, g2, m0, m1, m2, Result.andThen]; first | exact ⟨trivial, rfl⟩ | exact ⟨rfl, rfl⟩) | (go_at_call 71; exact quietB (HF.out _) hw) | (go_at_call 58; exact quietB (compareEnds _ _ _ _ _ _ _) hw))))
            refine wpQuiet_nil ?_
            intro w1 hw1
            obtain ⟨k0, k1, -⟩ := FF.out _ hw1
            have hsz1 : w.heap.size < w1.heap.size := Nat.lt_of_lt_of_le hsW hw1.size
            go_wp2
            go_roundw
            case rel => first | exact ⟨k + 2, by omega, by go_num, by rw [okAll_snoc, HA.out, hok.out]; rfl, bel_trans hbW hw1, k0, k1, hsz1⟩ | ((repeat apply Exists.intro); exact ⟨⟨k + 2, by omega, by go_num, by rw [okAll_snoc, HA.out, hok.out]; rfl, bel_trans hbW hw1, k0, k1, hsz1⟩, rfl⟩)
            case measure => simp [intOf]; omega
          · have hd : decide (0 ≤ cEnds p q x y) = true := by simp; omega
            have HO := Lib.hid (okAll_false hlt (by rw [ok]; simpa using hcm : okAt n es (k + 1) = false))
            clear ok hcm hf
            go_wp2
            generalize (wr.alloc (Obj.cells #[.int .i64 x, .int .i64 y, .int .i64 z] 72)) = W1 at FF MM hbW hsW ⊢
            refine wp_region_below (by kernel_rfl) (by kernel_rfl) ?_
            repeat (go_big_quiet_step ((intro hw; first | with_reducible rfl | (obtain ⟨f0, f1, g0, g1, g2⟩ := FF.out _ hw; obtain ⟨m0, m1, m2⟩ := MM.out _ hw; simp only [f0, f1, g0, g1, g2, m0, m1, m2, Result.andThen]; first | exact ⟨trivial, rfl⟩ | exact ⟨rfl, rfl⟩) | (go_at_call 71; exact quietB (HF.out _) hw) | (go_at_call 58; exact quietB (compareEnds _ _ _ _ _ _ _) hw))))
            refine wpQuiet_nil ?_
            intro w1 hw1
            go_wp2
            go_ret
            exact ⟨by rw [HR.out, HO.out]; rfl, bel_trans hbW hw1⟩
    · have hke : k = es.length := by omega
      have hkk : ¬ ((k : Int) < es.length) := by omega
      have HO : Hid ((List.range es.length).all (okAt n es) = true) := Lib.hid (by rw [← hke]; exact hall)
      clear hall hke
      go_wp2
      go_ret
      exact ⟨by rw [HR.out, HO.out]; rfl, hbel⟩
end Go.Proofs.Ytdilimdicanbjaa
