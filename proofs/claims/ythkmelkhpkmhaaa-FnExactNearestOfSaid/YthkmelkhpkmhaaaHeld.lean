/- The laws' marks: rows that are written over and read again. -/
import Derived.Test.YthkmelkhpkmhaaaVEdges
namespace Go.Proofs.Ythkmelkhpkmhaaa
open Go.RowKit Go.BigFrame Go.Deep
set_option linter.unusedVariables false
set_option linter.unusedSimpArgs false

set_option maxHeartbeats 1000000 in
theorem heldEdgeS (k : Nat) (fz : Bool) (w : World) (lo hi n : Nat) (s : Value) (h : InR fz w lo hi s n 3 (marked k)) (hn : n ≤ 1398101) (hk : k ≤ 1073741824) :
    Calls Try.prog 38 #[s, .int .i64 (k : Int)] w fun e w' => e = .returned (.int .i64 ((k + n * 3 : Nat) : Int)) ∧ Below w.heap.size w w' := by
  obtain ⟨a, cap, rfl, hz0⟩ := h
  have hz := Lib.hid hz0
  clear hz0
  go_enter Try.func38, Try.ntmps38
  go_wp2
  go_loopw [5, 1] (fun c d wr => ∃ i : Nat, i ≤ n ∧ c = .int .i64 i ∧ d = .int .i64 ((k + i * 3 : Nat) : Int) ∧ Below w.heap.size w wr) (fun c _ _ => n - (intOf c).toNat)
  case atStart => exact ⟨0, Nat.zero_le _, rfl, rfl, Below.refl _ _⟩
  case round =>
    obtain ⟨i, hi, rfl, rfl, hbel⟩ := hrel
    by_cases hlt : i < n
    · have hlt' : (i : Int) < n := by omega
      rcases hz.out with h0 | ⟨b, off, rfl, hb1, hb2, hb3, hc⟩
      · omega
      have c0 := (hbel.cell (p := ⟨b, off + i * 3, none⟩) (by simp only; omega)).trans (hc (i * 3) (by omega)).1
      have c1 := (hbel.cell (p := ⟨b, off + (i * 3 + 1), none⟩) (by simp only; omega)).trans (hc (i * 3 + 1) (by omega)).1
      have c2 := (hbel.cell (p := ⟨b, off + (i * 3 + 2), none⟩) (by simp only; omega)).trans (hc (i * 3 + 2) (by omega)).1
      have e0 : ∀ x, marked k x = .int .i64 ((k + x : Nat) : Int) := fun x => by unfold marked; congr 1
      rw [e0] at c0 c1 c2
      rw [← Nat.add_assoc] at c1 c2
      clear hc e0
      go_wp2
      go_roundw
      case rel => exact ⟨i + 1, by omega, by go_num, by go_num, hbel⟩
      case measure => simp [intOf]; omega
    · have hke : i = n := by omega
      have hkk : ¬ ((i : Int) < n) := by omega
      have HK := Lib.hid hke
      clear hke
      go_wp2
      go_ret
      exact ⟨by rw [HK.out]; rfl, hbel⟩


theorem heldGraph (k : Nat) (N : Int) (w : World) (lo hi n : Nat) (s : Value) (fz : Bool) (h : InR fz w lo hi s n 3 (marked k)) (hn : n ≤ 1398101) (hk : k ≤ 1073741824) (hhi : hi ≤ w.heap.size) :
    Calls Try.prog 19 #[.agg #[.int .i64 N, s], .int .i64 (k : Int)] w fun e w' => e = .returned (.int .i64 ((k + n * 3 : Nat) : Int)) ∧ Below w.heap.size w w' := by
  obtain ⟨ad, cap, hs, hz0⟩ := id h
  subst hs
  clear hz0
  have hB : ∀ A, Below w.heap.size w (w.alloc A) := fun A => (Below.refl _ _).alloc (Nat.le_refl _) _
  have hc := fun A => heldEdgeS k fz (w.alloc A) lo hi n (.slice ad n cap) (h.keep (hB A)) hn hk
  have hnn : decide (((k + n * 3 : Nat) : Int) < 0) = false := decide_eq_false (by omega)
  have HC := Lib.hid hc
  have HB := Lib.hid hB
  clear hc hB
  go_enter Try.func19, Try.ntmps19
  go_wp2_with (go_at_call 38; refine (HC.out _).mono ?_; rintro e w1 ⟨rfl, hb1⟩)
  go_ret
  exact ⟨rfl, bel_trans (HB.out _) hb1⟩

end Go.Proofs.Ythkmelkhpkmhaaa
