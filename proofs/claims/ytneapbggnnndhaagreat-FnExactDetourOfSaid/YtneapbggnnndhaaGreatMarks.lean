/- The laws' marks: rows that are written over and read again. -/
import Derived.Test.YtneapbggnnndhaaGreatVEdges
namespace Go.Proofs.YtneapbggnnndhaaGreat
open Go.RowKit Go.BigFrame Go.Deep
set_option linter.unusedVariables false
set_option linter.unusedSimpArgs false

set_option maxHeartbeats 1000000 in
theorem markEdgeS (k : Nat) (w : World) (lo hi n : Nat) (s : Value) (cs : Nat → Value) (h : InR true w lo hi s n 3 cs) (hn : n ≤ 1398101) (hk : k ≤ 1073741824) :
    Calls Tryz.prog 27 #[s, .int .i64 (k : Int)] w fun e w' => e = .returned (.int .i64 ((k + n * 3 : Nat) : Int)) ∧ InR true w' lo hi s n 3 (marked k) ∧ Chg lo hi w w' := by
  obtain ⟨a, cap, rfl, hz0⟩ := h
  by_cases h0 : n = 0
  · subst h0
    clear hz0
    go_enter Tryz.func27, Tryz.ntmps27
    go_wp2
    go_loopw [5, 1] (fun c d wr => c = .int .i64 0 ∧ d = .int .i64 (k : Int) ∧ wr = w) (fun c _ _ => 0)
    case atStart => exact ⟨rfl, rfl, rfl⟩
    case round =>
      obtain ⟨rfl, rfl, rfl⟩ := hrel
      go_wp2
      go_ret
      exact ⟨by simp, ⟨a, cap, rfl, .inl rfl⟩, Chg.refl _ _ _⟩
  rcases hz0 with h1 | ⟨b, off, rfl, hb1, hb2, hb3, hc⟩
  · exact absurd h1 h0
  have hm : MidR w b off (n * 3) 0 k cs := MidR.of (fz := true) (lo := 0) (hi := 0) (cap := 0) k (by omega) hc
  have HM := Lib.hid hm
  clear hc hm
  go_enter Tryz.func27, Tryz.ntmps27
  go_wp2
  go_loopw [5, 1] (fun c d wr => ∃ i : Nat, i ≤ n ∧ c = .int .i64 i ∧ d = .int .i64 ((k + i * 3 : Nat) : Int) ∧ MidR wr b off (n * 3) (i * 3) k cs ∧ Chg lo hi w wr) (fun c _ _ => n - (intOf c).toNat)
  case atStart => exact ⟨0, Nat.zero_le _, rfl, rfl, HM.out, Chg.refl _ _ _⟩
  case round =>
    obtain ⟨i, hi, rfl, rfl, hmid, hchg⟩ := hrel
    have H1 := Lib.hid hmid
    by_cases hlt : i < n
    · have hlt' : (i : Int) < n := by omega
      have c0 := (hmid.2 (i * 3) (by omega)).1
      have f0 := (hmid.2 (i * 3) (by omega)).2
      have c1 := (hmid.2 (i * 3 + 1) (by omega)).1
      have f1 := (hmid.2 (i * 3 + 1) (by omega)).2
      have c2 := (hmid.2 (i * 3 + 2) (by omega)).1
      have f2 := (hmid.2 (i * 3 + 2) (by omega)).2
      rw [← Nat.add_assoc] at c1 f1 c2 f2
      clear hmid
      go_wp2
      go_roundw
      case rel => exact ⟨i + 1, by omega, by go_num, by go_num, by have := ((H1.out.set (show i * 3 < n * 3 by omega)).set (show i * 3 + 1 < n * 3 by omega)).set (show i * 3 + 1 + 1 < n * 3 by omega); simpa [Nat.add_mul, Nat.add_assoc, Int.add_assoc] using this, ((hchg.setCell (by omega) (by omega) _).setCell (by omega) (by omega) _).setCell (by omega) (by omega) _⟩
      case measure => simp [intOf]; omega
    · have hke : i = n := by omega
      have hkk : ¬ ((i : Int) < n) := by omega
      have HK := Lib.hid hke
      clear hke hmid
      go_wp2
      go_ret
      exact ⟨by rw [HK.out]; rfl, ⟨_, cap, rfl, .inr ⟨b, off, rfl, hb1, hb2, Nat.le_trans hb3 hchg.size, fun j hj => ⟨by rw [(H1.out.2 j hj).1, if_pos (by rw [HK.out]; omega)], fun _ => (H1.out.2 j hj).2⟩⟩⟩, hchg⟩

theorem markGraph (k : Nat) (N : Int) (w : World) (lo hi n : Nat) (s : Value) (cs : Nat → Value) (h : InR true w lo hi s n 3 cs) (hn : n ≤ 1398101) (hk : k ≤ 1073741824) (hhi : hi ≤ w.heap.size) :
    Calls Tryz.prog 13 #[.agg #[.int .i64 N, s], .int .i64 (k : Int)] w fun e w' => e = .returned (.int .i64 ((k + n * 3 : Nat) : Int)) ∧ InR true w' lo hi s n 3 (marked k) ∧ Chg lo hi w w' := by
  obtain ⟨ad, cap, hs, hz0⟩ := id h
  subst hs
  clear hz0
  have hB : ∀ A, Below w.heap.size w (w.alloc A) := fun A => (Below.refl _ _).alloc (Nat.le_refl _) _
  have hc := fun A => markEdgeS k (w.alloc A) lo hi n (.slice ad n cap) cs (h.keep (hB A)) hn hk
  have hnn : decide (((k + n * 3 : Nat) : Int) < 0) = false := decide_eq_false (by omega)
  have HC := Lib.hid hc
  have HB := Lib.hid hB
  clear hc hB
  go_enter Tryz.func13, Tryz.ntmps13
  go_wp2_with (go_at_call 27; refine (HC.out _).mono ?_; rintro e w1 ⟨rfl, hb1⟩)
  go_ret
  exact ⟨rfl, hb1.1, (Chg.of_below (HB.out _)).trans hb1.2⟩

end Go.Proofs.YtneapbggnnndhaaGreat
