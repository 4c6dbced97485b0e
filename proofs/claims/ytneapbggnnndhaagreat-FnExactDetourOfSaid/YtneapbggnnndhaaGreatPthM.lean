/- Paths that are marked, as the laws do. -/
import Derived.Test.YtneapbggnnndhaaGreatPathF
namespace Go.Proofs.YtneapbggnnndhaaGreat
open Go.RowKit Go.BigFrame Go.Deep Go.ChangeShapes Go.WideShapes Go.Joins
set_option linter.unusedVariables false
set_option linter.unusedSimpArgs false

set_option maxRecDepth 20000 in
set_option maxHeartbeats 2000000 in
theorem markPath (k : Nat) (X : Int) (w : World) (lo hi n : Nat) (s : Value) (cs : Nat → Value) (h : InR true w lo hi s n 1 cs) (hn : n ≤ 4194304) (hk : k ≤ 1073741824) (hhi : hi ≤ w.heap.size) :
    Calls Tryz.prog 14 #[.agg #[s, .int .i64 X], .int .i64 (k : Int)] w fun e w' => e = .returned (.int .i64 ((k + n : Nat) : Int)) ∧ InR true w' lo hi s n 1 (marked k) ∧ Chg lo hi w w' := by
  obtain ⟨ad, cap, hs, hz0⟩ := id h
  subst hs
  clear hz0
  have hB : ∀ A, Below w.heap.size w (w.alloc A) := fun A => (Below.refl _ _).alloc (Nat.le_refl _) _
  have hc := fun A => markIntS k (w.alloc A) lo hi n (.slice ad n cap) cs (h.keep (hB A)) hn hk
  have hnn : decide (((k + n : Nat) : Int) < 0) = false := decide_eq_false (by omega)
  have HC := Lib.hid hc
  have HB := Lib.hid hB
  clear hc hB
  go_enter Tryz.func14, Tryz.ntmps14
  go_wp2_with (go_at_call 28; refine (HC.out _).mono ?_; rintro e w1 ⟨rfl, hb1⟩)
  go_ret
  exact ⟨rfl, hb1.1, (Chg.of_below (HB.out _)).trans hb1.2⟩
set_option maxRecDepth 20000 in
set_option maxHeartbeats 2000000 in
theorem heldPath (k : Nat) (X : Int) (w : World) (lo hi n : Nat) (s : Value) (fz : Bool) (h : InR fz w lo hi s n 1 (marked k)) (hn : n ≤ 4194304) (hk : k ≤ 1073741824) (hhi : hi ≤ w.heap.size) :
    Calls Tryz.prog 15 #[.agg #[s, .int .i64 X], .int .i64 (k : Int)] w fun e w' => e = .returned (.int .i64 ((k + n : Nat) : Int)) ∧ Below w.heap.size w w' := by
  obtain ⟨ad, cap, hs, hz0⟩ := id h
  subst hs
  clear hz0
  have hB : ∀ A, Below w.heap.size w (w.alloc A) := fun A => (Below.refl _ _).alloc (Nat.le_refl _) _
  have hc := fun A => heldIntS k fz (w.alloc A) lo hi n (.slice ad n cap) (h.keep (hB A)) hn hk
  have hnn : decide (((k + n : Nat) : Int) < 0) = false := decide_eq_false (by omega)
  have HC := Lib.hid hc
  have HB := Lib.hid hB
  clear hc hB
  go_enter Tryz.func15, Tryz.ntmps15
  go_wp2_with (go_at_call 29; refine (HC.out _).mono ?_; rintro e w1 ⟨rfl, hb1⟩)
  go_ret
  exact ⟨rfl, bel_trans (HB.out _) hb1⟩
end Go.Proofs.YtneapbggnnndhaaGreat
