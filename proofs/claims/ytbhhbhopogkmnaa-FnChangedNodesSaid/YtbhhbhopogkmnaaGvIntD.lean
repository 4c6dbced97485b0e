/- The comparison of lists of integers in the laws, whatever they are; the nodes whose values differ: mathematics. -/
import Derived.Test.YtbhhbhopogkmnaaChgN
import Derived.Test.YtbhhbhopogkmnaaGvInts
namespace Go.Proofs.Ytbhhbhopogkmnaa
open Go.RowKit Go.BigFrame
set_option linter.unusedVariables false
set_option linter.unusedSimpArgs false

theorem cnK_symm (zs ys : List Int) (k : Nat) : cnK ys zs k = cnK zs ys k := by
  unfold cnK
  rw [show (fun i : Nat => ys.getD i 0 != zs.getD i 0) = (fun i : Nat => zs.getD i 0 != ys.getD i 0) from funext fun i => bne_comm]
theorem cnK_nil {zs ys : List Int} (hl : zs.length = ys.length) : (cnK zs ys zs.length).length = 0 ↔ zs = ys := by
  unfold cnK
  rw [List.length_map, List.length_eq_zero_iff, List.filter_eq_nil_iff]
  constructor
  · intro h
    apply List.ext_getElem hl
    intro i h1 h2
    have := h i (List.mem_range.2 h1)
    simpa [List.getD, h1, h2] using this
  · rintro rfl i _
    simp

set_option maxHeartbeats 1000000 in
theorem gvIntsD (zs ys : List Int) (s t : Value) (w : World) (hs : Row w s zs) (ht : Row w t ys) (hl : zs.length ≤ 281474976710656) (hl2 : ys.length ≤ 281474976710656) :
    Calls Try.prog 14 #[s, t] w fun e w' => e = .returned (.bool (decide (zs = ys))) ∧ Below w.heap.size w w' := by
  obtain ⟨a, cap, rfl, hz0⟩ := hs
  have hz := Lib.hid hz0
  obtain ⟨a2, cap2, rfl, hy0⟩ := ht
  have hy := Lib.hid hy0
  clear hz0 hy0
  by_cases hlen : zs.length = ys.length
  rotate_left
  · rw [show decide (zs = ys) = false from decide_eq_false (fun e => hlen (by rw [e]))]
    have d1 : decide ((zs.length : Int) = ys.length) = false := by simp; omega
    have d2 : ((zs.length : Int) != ys.length) = true := by simp; omega
    have d3 : ((zs.length : Int) == ys.length) = false := by simp; omega
    have d4 : ¬ ((zs.length : Int) = ys.length) := by omega
    go_enter Try.func14, Try.ntmps14
    go_wp2
    go_ret
    exact ⟨rfl, Below.refl _ _⟩
  obtain ⟨R, hR⟩ : ∃ R, R = decide (zs = ys) := ⟨_, rfl⟩
  rw [← hR]
  have HR := Lib.hid hR
  have HL := Lib.hid hlen
  have hlen' : (ys.length : Int) = zs.length := by omega
  clear hR
  go_enter Try.func14, Try.ntmps14
  go_wp2
  go_loopw [5] (fun c wr => ∃ k : Nat, k ≤ zs.length ∧ c = .int .i64 k ∧ (∀ i, i < k → zs.getD i 0 = ys.getD i 0) ∧ Below w.heap.size w wr) (fun c _ => zs.length - (intOf c).toNat)
  case atStart => exact ⟨0, Nat.zero_le _, rfl, fun i hi => absurd hi (Nat.not_lt_zero _), Below.refl _ _⟩
  case round =>
    obtain ⟨k, hk, rfl, hall, hbel⟩ := hrel
    have HA := Lib.hid hall
    clear hall
    by_cases hlt : k < zs.length
    · have hlt' : (k : Int) < zs.length := by omega
      have hlt2 : (k : Int) < ys.length := by have := HL.out; omega
      rcases hz.out with h0 | ⟨b, off, rfl, hb, hc⟩
      · rw [h0] at hlt; simp at hlt
      rcases hy.out with h0 | ⟨b2, off2, rfl, hb2, hc2⟩
      · have := HL.out; rw [h0] at this; simp at this; rw [this] at hlt; simp at hlt
      obtain ⟨x, hx⟩ : ∃ x, x = zs.getD k 0 := ⟨_, rfl⟩
      obtain ⟨y, hy2⟩ : ∃ y, y = ys.getD k 0 := ⟨_, rfl⟩
      have h1 := hc k hlt
      have h2 := hc2 k (by have := HL.out; omega)
      rw [← hx] at h1
      rw [← hy2] at h2
      have ff : ∀ w', Below wr.heap.size wr w' → w'.cell? ⟨b, off + k, none⟩ = some (.int .i64 x) ∧ w'.cell? ⟨b2, off2 + k, none⟩ = some (.int .i64 y) := by
        intro w' h
        have hB := bel_trans hbel h
        exact ⟨(hB.cell (p := ⟨b, _, none⟩) hb).trans h1, (hB.cell (p := ⟨b2, _, none⟩) hb2).trans h2⟩
      have FF := Lib.hid ff
      have HX := Lib.hid hx
      have HY := Lib.hid hy2
      clear hc hc2 h1 h2 ff hx hy2
      by_cases he : x = y
      · subst he
        have HN : Hid (∀ i, i < k + 1 → zs.getD i 0 = ys.getD i 0) := Lib.hid (fun i hi => by
          by_cases h : i = k
          · subst h; rw [← HX.out, ← HY.out]
          · exact HA.out i (by omega))
        go_wp2
        refine wp_region_below (by kernel_rfl) (by kernel_rfl) ?_
        repeat (go_big_quiet_step ((intro hw; first | with_reducible rfl | (obtain ⟨f0, g0⟩ := FF.out _ hw; simp only [f0, g0, Result.andThen]; first | exact ⟨trivial, rfl⟩ | exact ⟨rfl, rfl⟩))))
        refine wpQuiet_nil ?_
        intro w1 hw1
        go_wp2
        go_roundw
        case rel => first | exact ⟨k + 1, by omega, by go_num, HN.out, bel_trans hbel hw1⟩ | ((repeat apply Exists.intro); exact ⟨⟨k + 1, by omega, by go_num, HN.out, bel_trans hbel hw1⟩, rfl⟩)
        case measure => simp [intOf]; omega
      · have HO : Hid (decide (zs = ys) = false) := Lib.hid (decide_eq_false (fun e => he (by rw [HX.out, HY.out, e])))
        have d1 : (x != y) = true := by simpa using he
        have d2 : (x == y) = false := by simpa using he
        go_wp2
        refine wp_region_below (by kernel_rfl) (by kernel_rfl) ?_
        repeat (go_big_quiet_step ((intro hw; first | with_reducible rfl | (obtain ⟨f0, g0⟩ := FF.out _ hw; simp only [f0, g0, Result.andThen]; first | exact ⟨trivial, rfl⟩ | exact ⟨rfl, rfl⟩))))
        refine wpQuiet_nil ?_
        intro w1 hw1
        go_wp2
        go_ret
        exact ⟨by rw [HR.out, HO.out]; rfl, bel_trans hbel hw1⟩
    · have hke : k = zs.length := by omega
      have hkk : ¬ ((k : Int) < zs.length) := by omega
      have HO : Hid (decide (zs = ys) = true) := Lib.hid (decide_eq_true (List.ext_getElem HL.out (fun i h1 h2 => by have := HA.out i (by omega); simpa [List.getD, h1, h2] using this)))
      clear hke
      go_wp2
      go_ret
      exact ⟨by rw [HR.out, HO.out]; rfl, hbel⟩
end Go.Proofs.Ytbhhbhopogkmnaa
