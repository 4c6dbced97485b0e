/- Whether a number is in a list (slices.Index, slices.Contains; the model's l5In); lists of different nodes (areDifferentNodes). -/
import Derived.Test.YtneapbggnnndhaaGreatDerL
import Derived.Test.YtneapbggnnndhaaGreatGvInts
import Derived.Test.YtneapbggnnndhaaGreatBoxes
import Derived.Deep.RegionLaw
namespace Go.Proofs.YtneapbggnnndhaaGreat
open Go.RowKit Go.BigFrame Go.Deep
set_option linter.unusedVariables false
set_option linter.unusedSimpArgs false

set_option maxHeartbeats 1000000 in
theorem idxI (zs : List Int) (x : Int) (s : Value) (w : World) (hs : Row w s zs) (hl : zs.length ≤ 281474976710656) :
    Calls Tryz.prog 94 #[s, .int .i64 x] w fun e w' => ∃ k : Int, e = .returned (.int .i64 k) ∧ decide (0 ≤ k) = inL zs x ∧ Below w.heap.size w w' := by
  obtain ⟨a, cap, rfl, hz0⟩ := hs
  have hz := Lib.hid hz0
  clear hz0
  obtain ⟨R, hR⟩ : ∃ R, R = inL zs x := ⟨_, rfl⟩
  rw [← hR]
  have HR := Lib.hid hR
  clear hR
  go_enter Tryz.func94, Tryz.ntmps94
  go_wp2
  go_loop [8] (fun c => ∃ k : Nat, k ≤ zs.length ∧ c = .int .i64 k ∧ ∀ i, i < k → zs.getD i 0 ≠ x) (fun c => zs.length - (intOf c).toNat)
  case atStart => exact ⟨0, Nat.zero_le _, rfl, fun i hi => absurd hi (Nat.not_lt_zero _)⟩
  case round =>
    obtain ⟨k, hk, rfl, hall⟩ := hrel
    have HA := Lib.hid hall
    clear hall
    by_cases hlt : k < zs.length
    · have hlt' : (k : Int) < zs.length := by omega
      rcases hz.out with h0 | ⟨b, off, rfl, hb, hc⟩
      · rw [h0] at hlt; simp at hlt
      obtain ⟨y, hy⟩ : ∃ y, y = zs.getD k 0 := ⟨_, rfl⟩
      have h1 := hc k hlt
      rw [← hy] at h1
      have HY := Lib.hid hy
      clear hc hy
      by_cases he : x = y
      · have d1 : (x == y) = true := by simpa using he
        have HT : Hid (inL zs x = true) := Lib.hid (by
          unfold inL
          apply decide_eq_true
          rw [he, HY.out]
          simp [List.getD, hlt])
        clear he
        go_wp2
        go_ret
        exact ⟨(k : Int), rfl, by rw [HR.out, HT.out]; exact decide_eq_true (by omega), Below.refl _ _⟩
      · have d1 : (x == y) = false := by simpa using he
        have HN : Hid (∀ i, i < k + 1 → zs.getD i 0 ≠ x) := Lib.hid (fun i hi => by
          by_cases h : i = k
          · subst h; rw [← HY.out]; exact fun e => he e.symm
          · exact HA.out i (by omega))
        clear he
        go_wp2
        go_round
        case rel => exact ⟨k + 1, by omega, by go_num, HN.out⟩
        case measure => simp [intOf]; omega
    · have hke : k = zs.length := by omega
      have hkk : ¬ ((k : Int) < zs.length) := by omega
      have HT : Hid (inL zs x = false) := Lib.hid (by
        unfold inL
        apply decide_eq_false
        intro hm
        obtain ⟨i, hi, he⟩ := List.getElem_of_mem hm
        exact HA.out i (by omega) (by simpa [List.getD, hi] using he))
      clear hke
      go_wp2
      go_ret
      exact ⟨-1, rfl, by rw [HR.out, HT.out]; rfl, Below.refl _ _⟩

theorem containsI (zs : List Int) (x : Int) (s : Value) (w : World) (hs : Row w s zs) (hl : zs.length ≤ 281474976710656) :
    Calls Tryz.prog 78 #[s, .int .i64 x] w fun e w' => e = .returned (.bool (inL zs x)) ∧ Below w.heap.size w w' := by
  have h := idxI zs x s w hs hl
  obtain ⟨R, hR⟩ : ∃ R, R = inL zs x := ⟨_, rfl⟩
  rw [← hR] at h ⊢
  have H := Lib.hid h
  clear h hR
  go_enter Tryz.func78, Tryz.ntmps78
  go_wp2_with (go_at_call 94; refine H.out.mono ?_; rintro e w1 ⟨k, rfl, hk, hb1⟩; have HK := Lib.hid hk; clear hk)
  go_ret
  exact ⟨congrArg (fun b => Ending.returned (.bool b)) HK.out, hb1⟩

set_option maxHeartbeats 1000000 in
theorem l5In (zs : List Int) (x : Int) (s : Value) (w : World) (hs : Row w s zs) (hl : zs.length ≤ 281474976710656) :
    Calls Tryz.prog 55 #[s, .int .i64 x] w fun e w' => e = .returned (.bool (inL zs x)) ∧ Below w.heap.size w w' := by
  obtain ⟨a, cap, rfl, hz0⟩ := hs
  have hz := Lib.hid hz0
  clear hz0
  obtain ⟨R, hR⟩ : ∃ R, R = inL zs x := ⟨_, rfl⟩
  rw [← hR]
  have HR := Lib.hid hR
  clear hR
  go_enter Tryz.func55, Tryz.ntmps55
  go_wp2
  go_loop [5] (fun c => ∃ k : Nat, k ≤ zs.length ∧ c = .int .i64 k ∧ ∀ i, i < k → zs.getD i 0 ≠ x) (fun c => zs.length - (intOf c).toNat)
  case atStart => exact ⟨0, Nat.zero_le _, rfl, fun i hi => absurd hi (Nat.not_lt_zero _)⟩
  case round =>
    obtain ⟨k, hk, rfl, hall⟩ := hrel
    have HA := Lib.hid hall
    clear hall
    by_cases hlt : k < zs.length
    · have hlt' : (k : Int) < zs.length := by omega
      rcases hz.out with h0 | ⟨b, off, rfl, hb, hc⟩
      · rw [h0] at hlt; simp at hlt
      obtain ⟨y, hy⟩ : ∃ y, y = zs.getD k 0 := ⟨_, rfl⟩
      have h1 := hc k hlt
      rw [← hy] at h1
      have HY := Lib.hid hy
      clear hc hy
      by_cases he : y = x
      · have d1 : (y == x) = true := by simpa using he
        have HT : Hid (inL zs x = true) := Lib.hid (by
          unfold inL
          apply decide_eq_true
          rw [← he, HY.out]
          simp [List.getD, hlt])
        clear he
        go_wp2
        go_ret
        exact ⟨congrArg (fun b => Ending.returned (.bool b)) (by rw [HR.out, HT.out]), Below.refl _ _⟩
      · have d1 : (y == x) = false := by simpa using he
        have HN : Hid (∀ i, i < k + 1 → zs.getD i 0 ≠ x) := Lib.hid (fun i hi => by
          by_cases h : i = k
          · subst h; rw [← HY.out]; exact he
          · exact HA.out i (by omega))
        clear he
        go_wp2
        go_round
        case rel => exact ⟨k + 1, by omega, by go_num, HN.out⟩
        case measure => simp [intOf]; omega
    · have hke : k = zs.length := by omega
      have hkk : ¬ ((k : Int) < zs.length) := by omega
      have HT : Hid (inL zs x = false) := Lib.hid (by
        unfold inL
        apply decide_eq_false
        intro hm
        obtain ⟨i, hi, he⟩ := List.getElem_of_mem hm
        exact HA.out i (by omega) (by simpa [List.getD, hi] using he))
      clear hke
      go_wp2
      go_ret
      exact ⟨congrArg (fun b => Ending.returned (.bool b)) (by rw [HR.out, HT.out]), Below.refl _ _⟩

section
variable {w w' : World} {b : Nat} {f g : Nat → Bool}
end

end Go.Proofs.YtneapbggnnndhaaGreat
