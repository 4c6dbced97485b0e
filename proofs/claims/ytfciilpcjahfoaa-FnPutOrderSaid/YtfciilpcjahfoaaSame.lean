/- When two graphs are the same, in the program and in the model. -/
import Derived.Test.YtfciilpcjahfoaaGraph3
import Derived.Test.YtfciilpcjahfoaaRow
namespace Go.Proofs.Ytfciilpcjahfoaa
open Go.RowKit Go.BigFrame
set_option linter.unusedVariables false
set_option linter.unusedSimpArgs false

/-- Are two lists of edges the same? -/
def eSame (es fs : List Ed) : Bool := decide (es = fs)
theorem eSame_len {es fs : List Ed} (h : ¬ es.length = fs.length) : eSame es fs = false := by
  unfold eSame
  apply decide_eq_false
  intro e
  exact h (by rw [e])
theorem eSame_at {es fs : List Ed} {k : Nat} (h : es.getD k (0, 0, 0) ≠ fs.getD k (0, 0, 0)) : eSame es fs = false := by
  unfold eSame
  apply decide_eq_false
  intro e
  exact h (by rw [e])
theorem eSame_all {es fs : List Ed} (hl : es.length = fs.length) (h : ∀ i, i < es.length → es.getD i (0, 0, 0) = fs.getD i (0, 0, 0)) : eSame es fs = true := by
  unfold eSame
  apply decide_eq_true
  apply List.ext_getElem hl
  intro i h1 h2
  have := h i h1
  simpa [List.getD, h1, h2] using this

set_option maxHeartbeats 1000000 in
theorem edgesEqual (es fs : List Ed) (s t : Value) (w : World) (hs : RowE w s es) (ht : RowE w t fs) (hl : es.length ≤ 281474976710656) (hl2 : fs.length ≤ 281474976710656) :
    Calls Try.prog 57 #[s, t] w fun e w' => e = .returned (.bool (eSame es fs)) ∧ Below w.heap.size w w' := by
  obtain ⟨a, cap, rfl, hz0⟩ := hs
  have hz := Lib.hid hz0
  obtain ⟨a2, cap2, rfl, hy0⟩ := ht
  have hy := Lib.hid hy0
  clear hz0 hy0
  by_cases hlen : es.length = fs.length
  rotate_left
  · rw [eSame_len hlen]
    have d1 : decide ((es.length : Int) = fs.length) = false := by simp; omega
    have d2 : ((es.length : Int) != fs.length) = true := by simp; omega
    have d3 : ((es.length : Int) == fs.length) = false := by simp; omega
    have d4 : ¬ ((es.length : Int) = fs.length) := by omega
    go_enter Try.func57, Try.ntmps57
    go_wp2
    go_ret
    exact ⟨rfl, Below.refl _ _⟩
  obtain ⟨R, hR⟩ : ∃ R, R = eSame es fs := ⟨_, rfl⟩
  rw [← hR]
  have HR := Lib.hid hR
  have HL := Lib.hid hlen
  have hlen' : (fs.length : Int) = es.length := by omega
  clear hR
  go_enter Try.func57, Try.ntmps57
  go_wp2
  go_loopw [13] (fun c wr => ∃ k : Nat, k ≤ es.length ∧ c = .int .i64 k ∧ (∀ i, i < k → es.getD i (0, 0, 0) = fs.getD i (0, 0, 0)) ∧ Below w.heap.size w wr) (fun c _ => es.length - (intOf c).toNat)
  case atStart => exact ⟨0, Nat.zero_le _, rfl, fun i hi => absurd hi (Nat.not_lt_zero _), Below.refl _ _⟩
  case round =>
    obtain ⟨k, hk, rfl, hall, hbel⟩ := hrel
    have HA := Lib.hid hall
    clear hall
    by_cases hlt : k < es.length
    · have hlt' : (k : Int) < es.length := by omega
      have hlt2 : (k : Int) < fs.length := by have := HL.out; omega
      rcases hz.out with h0 | ⟨b, off, rfl, hb, hc⟩
      · rw [h0] at hlt; simp at hlt
      rcases hy.out with h0 | ⟨b2, off2, rfl, hb2, hc2⟩
      · have := HL.out; rw [h0] at this; simp at this; rw [this] at hlt; simp at hlt
      obtain ⟨x, y, z, hx⟩ : ∃ x y z, (x, y, z) = es.getD k (0, 0, 0) := ⟨_, _, _, rfl⟩
      obtain ⟨p, q, r, hp⟩ : ∃ x y z, (x, y, z) = fs.getD k (0, 0, 0) := ⟨_, _, _, rfl⟩
      have h1 := hc k hlt
      have h2 := hc2 k (by have := HL.out; omega)
      rw [← hx] at h1
      rw [← hp] at h2
      simp only at h1 h2
      have ff : ∀ w', Below wr.heap.size wr w' → w'.cell? ⟨b, off + k * 3, none⟩ = some (.int .i64 x) ∧ w'.cell? ⟨b, off + k * 3 + 1, none⟩ = some (.int .i64 y) ∧ w'.cell? ⟨b, off + k * 3 + 2, none⟩ = some (.int .i64 z) ∧
          w'.cell? ⟨b2, off2 + k * 3, none⟩ = some (.int .i64 p) ∧ w'.cell? ⟨b2, off2 + k * 3 + 1, none⟩ = some (.int .i64 q) ∧ w'.cell? ⟨b2, off2 + k * 3 + 2, none⟩ = some (.int .i64 r) := by
        intro w' h
        have hB := bel_trans hbel h
        exact ⟨(hB.cell (p := ⟨b, _, none⟩) hb).trans h1.1, (hB.cell (p := ⟨b, _, none⟩) hb).trans h1.2.1, (hB.cell (p := ⟨b, _, none⟩) hb).trans h1.2.2, (hB.cell (p := ⟨b2, _, none⟩) hb2).trans h2.1, (hB.cell (p := ⟨b2, _, none⟩) hb2).trans h2.2.1, (hB.cell (p := ⟨b2, _, none⟩) hb2).trans h2.2.2⟩
      have FF := Lib.hid ff
      have HX := Lib.hid hx
      have HP := Lib.hid hp
      clear hc hc2 h1 h2 ff hx hp
      by_cases he : x = p ∧ y = q ∧ z = r
      · obtain ⟨rfl, rfl, rfl⟩ := he
        have HN : Hid (∀ i, i < k + 1 → es.getD i (0, 0, 0) = fs.getD i (0, 0, 0)) := Lib.hid (fun i hi => by
          by_cases h : i = k
          · subst h; rw [← HX.out, ← HP.out]
          · exact HA.out i (by omega))
        go_wp2
        refine wp_region_below (by kernel_rfl) (by kernel_rfl) ?_
        repeat (go_big_quiet_step ((intro hw; first | with_reducible rfl | (obtain ⟨f0, f1, f2, g0, g1, g2⟩ := FF.out _ hw; simp only [f0, f1, f2, g0, g1, g2, Result.andThen]; first | exact ⟨trivial, rfl⟩ | exact ⟨rfl, rfl⟩))))
        refine wpQuiet_nil ?_
        intro w1 hw1
        go_wp2
        go_roundw
        case rel => first | exact ⟨k + 1, by omega, by go_num, HN.out, bel_trans hbel hw1⟩ | ((repeat apply Exists.intro); exact ⟨⟨k + 1, by omega, by go_num, HN.out, bel_trans hbel hw1⟩, rfl⟩)
        case measure => simp [intOf]; omega
      · have HO : Hid (eSame es fs = false) := Lib.hid (eSame_at (k := k) (by rw [← HX.out, ← HP.out]; intro h; injection h with h1 h2; injection h2 with h2 h3; exact he ⟨h1, h2, h3⟩))
        have NE := Lib.hid he
        clear he
        go_wp2
        refine wp_region_below (by kernel_rfl) (by kernel_rfl) ?_
        repeat (go_big_quiet_step ((intro hw; first | with_reducible rfl | (obtain ⟨f0, f1, f2, g0, g1, g2⟩ := FF.out _ hw; simp only [f0, f1, f2, g0, g1, g2, Result.andThen]; first | exact ⟨trivial, rfl⟩ | exact ⟨rfl, rfl⟩) | (by_cases e1 : x = p; (by_cases e2 : y = q; (by_cases e3 : z = r; (exact absurd ⟨e1, e2, e3⟩ NE.out); (rw [if_pos e1, if_pos e2, if_neg e3]; exact ⟨rfl, rfl⟩)); (rw [if_pos e1, if_neg e2]; exact ⟨rfl, rfl⟩)); (rw [if_neg e1]; exact ⟨rfl, rfl⟩)))))
        refine wpQuiet_nil ?_
        intro w1 hw1
        go_wp2
        go_ret
        exact ⟨by rw [HR.out, HO.out]; rfl, bel_trans hbel hw1⟩
    · have hke : k = es.length := by omega
      have hkk : ¬ ((k : Int) < es.length) := by omega
      have HO : Hid (eSame es fs = true) := Lib.hid (eSame_all HL.out (by rw [← hke]; exact HA.out))
      clear hke
      go_wp2
      go_ret
      exact ⟨by rw [HR.out, HO.out]; rfl, hbel⟩
/-- Are two graphs the same? -/
def gSame (n : Int) (es : List Ed) (m : Int) (fs : List Ed) : Bool := decide (n = m) && eSame es fs

theorem graphSame (n m : Int) (es fs : List Ed) (s t : Value) (w : World) (hs : RowE w s es) (ht : RowE w t fs) (hl : es.length ≤ 281474976710656) (hl2 : fs.length ≤ 281474976710656) :
    Calls Try.prog 16 #[.agg #[.int .i64 n, s], .agg #[.int .i64 m, t]] w fun e w' => e = .returned (.bool (gSame n es m fs)) ∧ Below w.heap.size w w' := by
  have hB : ∀ (A B : Obj), Below w.heap.size w ((w.alloc A).alloc B) := fun A B => ((Below.refl _ _).alloc (Nat.le_refl _) _).alloc (by simp) _
  have hc := fun A B => edgesEqual es fs s t ((w.alloc A).alloc B) (hs.keep (hB A B)) (ht.keep (hB A B)) hl hl2
  unfold gSame
  generalize eSame es fs = S at hc ⊢
  have HC := Lib.hid hc
  have HB := Lib.hid hB
  clear hc hB
  by_cases h : n = m
  · have d1 : decide (n = m) = true := by simpa using h
    have d2 : (n == m) = true := by simpa using h
    have d3 : (n != m) = false := by simpa using h
    rw [d1, Bool.true_and]
    clear h
    go_enter Try.func16, Try.ntmps16
    go_wp2_with (go_at_call 57; refine (HC.out _ _).mono ?_; rintro e w1 ⟨rfl, hb1⟩)
    go_ret
    exact ⟨rfl, bel_trans (HB.out _ _) hb1⟩
  · have d1 : decide (n = m) = false := by simpa using h
    have d2 : (n == m) = false := by simpa using h
    have d3 : (n != m) = true := by simpa using h
    rw [d1, Bool.false_and]
    go_enter Try.func16, Try.ntmps16
    go_wp2
    go_ret
    exact ⟨rfl, HB.out _ _⟩

end Go.Proofs.Ytfciilpcjahfoaa
