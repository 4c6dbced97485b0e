/- Lists of integers that the laws compare and search. -/
import Derived.Test.YtlgjcofpdaljnaaVEdges
namespace Go.Proofs.Ytlgjcofpdaljnaa
open Go.RowKit Go.BigFrame Go.Deep
set_option linter.unusedVariables false
set_option linter.unusedSimpArgs false

set_option maxHeartbeats 1000000 in
theorem gvInts (zs : List Int) (s t : Value) (w : World) (hs : Row w s zs) (ht : Row w t zs) (hl : zs.length ≤ 281474976710656) :
    Calls Try.prog 11 #[s, t] w fun e w' => e = .returned (.bool true) ∧ Below w.heap.size w w' := by
  obtain ⟨a, cap, rfl, hz0⟩ := hs
  have hz := Lib.hid hz0
  obtain ⟨a2, cap2, rfl, hy0⟩ := ht
  have hy := Lib.hid hy0
  clear hz0 hy0
  go_enter Try.func11, Try.ntmps11
  go_wp2
  go_loopw [5] (fun c wr => ∃ k : Nat, k ≤ zs.length ∧ c = .int .i64 k ∧ Below w.heap.size w wr) (fun c _ => zs.length - (intOf c).toNat)
  case atStart => exact ⟨0, Nat.zero_le _, rfl, Below.refl _ _⟩
  case round =>
    obtain ⟨k, hk, rfl, hbel⟩ := hrel
    by_cases hlt : k < zs.length
    · have hlt' : (k : Int) < zs.length := by omega
      rcases hz.out with h0 | ⟨b, off, rfl, hb, hc⟩
      · rw [h0] at hlt; simp at hlt
      rcases hy.out with h0 | ⟨b2, off2, rfl, hb2, hc2⟩
      · rw [h0] at hlt; simp at hlt
      obtain ⟨x, hx⟩ : ∃ x, x = zs.getD k 0 := ⟨_, rfl⟩
      have h1 := hc k hlt
      have h2 := hc2 k hlt
      rw [← hx] at h1 h2
      have ff : ∀ w', Below wr.heap.size wr w' → w'.cell? ⟨b, off + k, none⟩ = some (.int .i64 x) ∧ w'.cell? ⟨b2, off2 + k, none⟩ = some (.int .i64 x) := by
        intro w' h
        have hB := bel_trans hbel h
        exact ⟨(hB.cell (p := ⟨b, _, none⟩) hb).trans h1, (hB.cell (p := ⟨b2, _, none⟩) hb2).trans h2⟩
      have FF := Lib.hid ff
      clear hc hc2 h1 h2 ff hx
      go_wp2
      refine wp_region_below (by kernel_rfl) (by kernel_rfl) ?_
      repeat (go_big_quiet_step ((intro hw; first | with_reducible rfl | (obtain ⟨f0, g0⟩ := FF.out _ hw; simp only [f0, g0, Result.andThen]; first | exact ⟨trivial, rfl⟩ | exact ⟨rfl, rfl⟩))))
      refine wpQuiet_nil ?_
      intro w1 hw1
      go_wp2
      go_roundw
      case rel => first | exact ⟨k + 1, by omega, by go_num, bel_trans hbel hw1⟩ | ((repeat apply Exists.intro); exact ⟨⟨k + 1, by omega, by go_num, bel_trans hbel hw1⟩, rfl⟩)
      case measure => simp [intOf]; omega
    · have hke : k = zs.length := by omega
      have hkk : ¬ ((k : Int) < zs.length) := by omega
      clear hke
      go_wp2
      go_ret
      exact ⟨rfl, hbel⟩

/-- Is a number in a list? -/
def inL (zs : List Int) (x : Int) : Bool := decide (x ∈ zs)
set_option maxHeartbeats 1000000 in
theorem gvIn (zs : List Int) (x : Int) (s : Value) (w : World) (hs : Row w s zs) (hl : zs.length ≤ 281474976710656) :
    Calls Try.prog 12 #[s, .int .i64 x] w fun e w' => e = .returned (.bool (inL zs x)) ∧ Below w.heap.size w w' := by
  obtain ⟨a, cap, rfl, hz0⟩ := hs
  have hz := Lib.hid hz0
  clear hz0
  obtain ⟨R, hR⟩ : ∃ R, R = inL zs x := ⟨_, rfl⟩
  rw [← hR]
  have HR := Lib.hid hR
  clear hR
  go_enter Try.func12, Try.ntmps12
  go_wp2
  go_loop [5] (fun c => ∃ k : Nat, k ≤ zs.length ∧ c = .int .i64 k ∧ ∀ i, i < k → zs.getD i 0 ≠ x) (fun c => zs.length - (intOf c).toNat)
  case atStart => exact ⟨0, Nat.zero_le _, rfl, fun i hi => absurd hi (Nat.not_lt_zero _)⟩
  case round =>
    obtain ⟨k, hk, rfl, hall⟩ := hrel
    have HA := Lib.hid hall
    clear hall
    by_cases hlt : k < zs.length
    · have hlt' : (k : Int) < zs.length := by omega
      rcases hz.out with h0 | ⟨b, off, rfl, hb, hc⟩
      · rw [h0] at hlt; simp at hlt
      obtain ⟨y, hy⟩ : ∃ y, y = zs.getD k 0 := ⟨_, rfl⟩
      have h1 := hc k hlt
      rw [← hy] at h1
      have HY := Lib.hid hy
      clear hc hy
      by_cases he : y = x
      · have d1 : (y == x) = true := by simpa using he
        have HT : Hid (inL zs x = true) := Lib.hid (by
          unfold inL
          apply decide_eq_true
          rw [← he, HY.out]
          simp [List.getD, hlt])
        clear he
        go_wp2
        go_ret
        exact ⟨congrArg (fun b => Ending.returned (.bool b)) (by rw [HR.out, HT.out]), Below.refl _ _⟩
      · have d1 : (y == x) = false := by simpa using he
        have HN : Hid (∀ i, i < k + 1 → zs.getD i 0 ≠ x) := Lib.hid (fun i hi => by
          by_cases h : i = k
          · subst h; rw [← HY.out]; exact he
          · exact HA.out i (by omega))
        clear he
        go_wp2
        go_round
        case rel => exact ⟨k + 1, by omega, by go_num, HN.out⟩
        case measure => simp [intOf]; omega
    · have hke : k = zs.length := by omega
      have hkk : ¬ ((k : Int) < zs.length) := by omega
      have HT : Hid (inL zs x = false) := Lib.hid (by
        unfold inL
        apply decide_eq_false
        intro hx
        obtain ⟨i, hi, rfl⟩ := List.getElem_of_mem hx
        exact HA.out i (by omega) (by simp [List.getD, hi]))
      clear hke
      go_wp2
      go_ret
      exact ⟨congrArg (fun b => Ending.returned (.bool b)) (by rw [HR.out, HT.out]), Below.refl _ _⟩
end Go.Proofs.Ytlgjcofpdaljnaa
