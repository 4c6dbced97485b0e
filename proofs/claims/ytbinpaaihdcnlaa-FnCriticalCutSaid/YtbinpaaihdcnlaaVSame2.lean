/- When two views are the same: in the model. -/
import Derived.Test.YtbinpaaihdcnlaaVEdges
namespace Go.Proofs.Ytbinpaaihdcnlaa
open Go.RowKit Go.BigFrame
set_option linter.unusedVariables false
set_option linter.unusedSimpArgs false

set_option maxHeartbeats 1000000 in
theorem sViewSame (m a m2 a2 : Int) (zs ys : List Int) (s t : Value) (w : World) (hs : Row w s zs) (ht : Row w t ys) (hl : zs.length ≤ 281474976710656) (hl2 : ys.length ≤ 281474976710656) :
    Calls Try.prog 47 #[.agg #[.int .i64 m, .int .i64 a, s], .agg #[.int .i64 m2, .int .i64 a2, t]] w fun e w' => e = .returned (.bool (vSame m a zs m2 a2 ys)) ∧ Below w.heap.size w w' := by
  have hB : ∀ (A B : Obj), Below w.heap.size w ((w.alloc A).alloc B) := fun A B => ((Below.refl _ _).alloc (Nat.le_refl _) _).alloc (by simp) _
  have HB := Lib.hid hB
  clear hB
  obtain ⟨ad, cap, rfl, hz0⟩ := hs
  have hz := Lib.hid hz0
  obtain ⟨ad2, cap2, rfl, hy0⟩ := ht
  have hy := Lib.hid hy0
  clear hz0 hy0
  by_cases hm : m = m2
  rotate_left
  · have e0 : vSame m a zs m2 a2 ys = false := by unfold vSame; rw [decide_eq_false hm]; rfl
    rw [e0]
    have d1 : decide (m = m2) = false := by simpa using hm
    have d2 : (m == m2) = false := by simpa using hm
    have d3 : (m != m2) = true := by simpa using hm
    go_enter Try.func47, Try.ntmps47
    go_wp2
    go_ret
    exact ⟨rfl, HB.out _ _⟩
  subst hm
  by_cases hm : a = a2
  rotate_left
  · have e0 : vSame m a zs m a2 ys = false := by unfold vSame; rw [decide_eq_false hm]; simp
    rw [e0]
    have d1 : decide (a = a2) = false := by simpa using hm
    have d2 : (a == a2) = false := by simpa using hm
    have d3 : (a != a2) = true := by simpa using hm
    go_enter Try.func47, Try.ntmps47
    go_wp2
    go_ret
    exact ⟨rfl, HB.out _ _⟩
  subst hm
  have e0 : vSame m a zs m a ys = iSame zs ys := by unfold vSame; simp
  rw [e0]
  clear e0
  by_cases hlen : zs.length = ys.length
  rotate_left
  · rw [iSame_len hlen]
    have d1 : decide ((zs.length : Int) = ys.length) = false := by simp; omega
    have d2 : ((zs.length : Int) != ys.length) = true := by simp; omega
    have d3 : ((zs.length : Int) == ys.length) = false := by simp; omega
    have d4 : ¬ ((zs.length : Int) = ys.length) := by omega
    go_enter Try.func47, Try.ntmps47
    go_wp2
    go_ret
    exact ⟨rfl, HB.out _ _⟩
  obtain ⟨R, hR⟩ : ∃ R, R = iSame zs ys := ⟨_, rfl⟩
  rw [← hR]
  have HR := Lib.hid hR
  have HL := Lib.hid hlen
  have hlen' : (ys.length : Int) = zs.length := by omega
  clear hR
  go_enter Try.func47, Try.ntmps47
  go_wp2
  go_loopw [5] (fun c wr => ∃ k : Nat, k ≤ zs.length ∧ c = .int .i64 k ∧ (∀ i, i < k → zs.getD i 0 = ys.getD i 0) ∧ Below w.heap.size w wr ∧ (wr.cell? ⟨w.heap.size, 2, none⟩ = some (.slice ad zs.length cap) ∧ wr.cell? ⟨w.heap.size + 1, 2, none⟩ = some (.slice ad2 ys.length cap2) ∧ w.heap.size + 1 < wr.heap.size)) (fun c _ => zs.length - (intOf c).toNat)
  case atStart => exact ⟨0, Nat.zero_le _, rfl, fun i hi => absurd hi (Nat.not_lt_zero _), HB.out _ _, by go_simp, by go_simp, by simp⟩
  case round =>
    obtain ⟨k, hk, rfl, hall, hbel, hx0, hx1, hsz⟩ := hrel
    have HA := Lib.hid hall
    clear hall
    by_cases hlt : k < zs.length
    · have hlt' : (k : Int) < zs.length := by omega
      have hlt2 : (k : Int) < ys.length := by have := HL.out; omega
      rcases hz.out with h0 | ⟨b, off, rfl, hb, hc⟩
      · rw [h0] at hlt; simp at hlt
      rcases hy.out with h0 | ⟨b2, off2, rfl, hb2, hc2⟩
      · have := HL.out; rw [h0] at this; simp at this; rw [this] at hlt; simp at hlt
      obtain ⟨x, hx⟩ : ∃ x, x = zs.getD k 0 := ⟨_, rfl⟩
      obtain ⟨p, hp⟩ : ∃ x, x = ys.getD k 0 := ⟨_, rfl⟩
      have h1 := hc k hlt
      have h2 := hc2 k (by have := HL.out; omega)
      rw [← hx] at h1
      rw [← hp] at h2
      have ff : ∀ w', Below wr.heap.size wr w' → w'.cell? ⟨b, off + k, none⟩ = some (.int .i64 x) ∧ w'.cell? ⟨b2, off2 + k, none⟩ = some (.int .i64 p) ∧ w'.cell? ⟨w.heap.size, 2, none⟩ = some (.slice (some ⟨b, off, none⟩) zs.length cap) ∧ w'.cell? ⟨w.heap.size + 1, 2, none⟩ = some (.slice (some ⟨b2, off2, none⟩) ys.length cap2) := by
        intro w' h
        have hB := bel_trans hbel h
        exact ⟨(hB.cell (p := ⟨b, _, none⟩) hb).trans h1, (hB.cell (p := ⟨b2, _, none⟩) hb2).trans h2, (h.cell (p := ⟨_, _, none⟩) (by simp only; omega)).trans hx0, (h.cell (p := ⟨_, _, none⟩) hsz).trans hx1⟩
      have FF := Lib.hid ff
      have HX := Lib.hid hx
      have HP := Lib.hid hp
      clear hc hc2 h1 h2 ff hx hp
      by_cases he : x = p
      · subst he
        have HN : Hid (∀ i, i < k + 1 → zs.getD i 0 = ys.getD i 0) := Lib.hid (fun i hi => by
          by_cases h : i = k
          · subst h; rw [← HX.out, ← HP.out]
          · exact HA.out i (by omega))
        go_wp2
        refine wp_region_below (by kernel_rfl) (by kernel_rfl) ?_
        repeat (go_big_quiet_step ((intro hw; first | with_reducible rfl | (obtain ⟨f0, g0, x0, x1⟩ := FF.out _ hw; simp only [f0, g0, x0, x1, Result.andThen]; first | exact ⟨trivial, rfl⟩ | exact ⟨rfl, rfl⟩))))
        refine wpQuiet_nil ?_
        intro w1 hw1
        obtain ⟨-, -, x0, x1⟩ := FF.out _ hw1
        go_wp2
        go_roundw
        case rel => first | exact ⟨k + 1, by omega, by go_num, HN.out, bel_trans hbel hw1, x0, x1, Nat.lt_of_lt_of_le hsz hw1.size⟩ | ((repeat apply Exists.intro); exact ⟨⟨k + 1, by omega, by go_num, HN.out, bel_trans hbel hw1, x0, x1, Nat.lt_of_lt_of_le hsz hw1.size⟩, rfl⟩)
        case measure => simp [intOf]; omega
      · have HO : Hid (iSame zs ys = false) := Lib.hid (iSame_at (k := k) (by rw [← HX.out, ← HP.out]; exact he))
        have b1 : (x == p) = false := by simpa using he
        have b2' : (x != p) = true := by simpa using he
        have b3 : decide (x = p) = false := by simpa using he
        have NE := Lib.hid he
        clear he
        go_wp2
        refine wp_region_below (by kernel_rfl) (by kernel_rfl) ?_
        repeat (go_big_quiet_step ((intro hw; first | with_reducible rfl | (obtain ⟨f0, g0, x0, x1⟩ := FF.out _ hw; simp only [f0, g0, x0, x1, Result.andThen]; first | exact ⟨trivial, rfl⟩ | exact ⟨rfl, rfl⟩) | (rw [if_neg NE.out]; exact ⟨rfl, rfl⟩))))
        refine wpQuiet_nil ?_
        intro w1 hw1
        obtain ⟨-, -, x0, x1⟩ := FF.out _ hw1
        go_wp2
        go_ret
        exact ⟨by rw [HR.out, HO.out]; rfl, bel_trans hbel hw1⟩
    · have hke : k = zs.length := by omega
      have hkk : ¬ ((k : Int) < zs.length) := by omega
      have HO : Hid (iSame zs ys = true) := Lib.hid (iSame_all HL.out (by rw [← hke]; exact HA.out))
      clear hke
      go_wp2
      go_ret
      exact ⟨by rw [HR.out, HO.out]; rfl, hbel⟩
end Go.Proofs.Ytbinpaaihdcnlaa
