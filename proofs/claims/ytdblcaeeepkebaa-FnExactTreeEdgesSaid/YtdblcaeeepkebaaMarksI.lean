/- The laws' marks: rows that are written over and read again. The laws' marks: rows that are written over and read again. -/
import Derived.Test.YtdblcaeeepkebaaRow
namespace Go.Proofs.Ytdblcaeeepkebaa
open Go.RowKit Go.BigFrame Go.Deep
set_option linter.unusedVariables false
set_option linter.unusedSimpArgs false

/-- What a marked row holds. -/
def marked (k : Int) : Nat → Value := fun i => .int .i64 (k + i)
/-- A row that is being marked, in its block. -/
def MidR (w : World) (b off N c : Nat) (k : Int) (cs : Nat → Value) : Prop :=
  b < w.heap.size ∧ ∀ i, i < N → w.cell? ⟨b, off + i, none⟩ = some (if i < c then marked k i else cs i) ∧ w.frozen? ⟨b, off + i, none⟩ = false
theorem MidR.set {w : World} {b off N c : Nat} {k : Int} {cs : Nat → Value} (h : MidR w b off N c k cs) (hc : c < N) : MidR (w.setCell ⟨b, off + c, none⟩ (.int .i64 (k + c))) b off N (c + 1) k cs := by
  obtain ⟨hb, hh⟩ := h
  refine ⟨by simpa using hb, fun i hi => ?_⟩
  obtain ⟨h1, h2⟩ := hh i hi
  constructor
  · by_cases e : i = c
    · subst e
      rw [if_pos (by omega), World.cell?_setCell_same _ _ _ h1]
      rfl
    · have ne : (⟨b, off + c, none⟩ : Addr) ≠ ⟨b, off + i, none⟩ := by intro h; injection h with _ h _; omega
      rw [World.cell?_setCell_other _ _ _ _ ne, h1]
      by_cases h3 : i < c
      · rw [if_pos h3, if_pos (by omega)]
      · rw [if_neg h3, if_neg (by omega)]
  · rw [World.frozen?_setCell]; exact h2
theorem MidR.of {fz : Bool} {w : World} {lo hi b off cap n sz : Nat} {cs : Nat → Value} (k : Int) (hb : b < w.heap.size) (h : ∀ i, i < n * sz → w.cell? ⟨b, off + i, none⟩ = some (cs i) ∧ (true = true → w.frozen? ⟨b, off + i, none⟩ = false)) : MidR w b off (n * sz) 0 k cs :=
  ⟨hb, fun i hi => ⟨by rw [if_neg (by omega)]; exact (h i hi).1, (h i hi).2 rfl⟩⟩

end Go.Proofs.Ytdblcaeeepkebaa
namespace Go.Proofs.Ytdblcaeeepkebaa
open Go.RowKit Go.BigFrame Go.Deep
set_option linter.unusedVariables false
set_option linter.unusedSimpArgs false

set_option maxHeartbeats 1000000 in
theorem markIntS (k : Nat) (w : World) (lo hi n : Nat) (s : Value) (cs : Nat → Value) (h : InR true w lo hi s n 1 cs) (hn : n ≤ 4194304) (hk : k ≤ 1073741824) :
    Calls Try.prog 20 #[s, .int .i64 (k : Int)] w fun e w' => e = .returned (.int .i64 ((k + n : Nat) : Int)) ∧ InR true w' lo hi s n 1 (marked k) ∧ Chg lo hi w w' := by
  obtain ⟨a, cap, rfl, hz0⟩ := h
  by_cases h0 : n = 0
  · subst h0
    clear hz0
    go_enter Try.func20, Try.ntmps20
    go_wp2
    go_loopw [5, 1] (fun c d wr => c = .int .i64 0 ∧ d = .int .i64 (k : Int) ∧ wr = w) (fun c _ _ => 0)
    case atStart => exact ⟨rfl, rfl, rfl⟩
    case round =>
      obtain ⟨rfl, rfl, rfl⟩ := hrel
      go_wp2
      go_ret
      exact ⟨by simp, ⟨a, cap, rfl, .inl rfl⟩, Chg.refl _ _ _⟩
  rcases hz0 with h1 | ⟨b, off, rfl, hb1, hb2, hb3, hc⟩
  · exact absurd h1 h0
  have hm : MidR w b off (n * 1) 0 k cs := MidR.of (fz := true) (lo := 0) (hi := 0) (cap := 0) k (by omega) hc
  have HM := Lib.hid hm
  clear hc hm
  go_enter Try.func20, Try.ntmps20
  go_wp2
  go_loopw [5, 1] (fun c d wr => ∃ i : Nat, i ≤ n ∧ c = .int .i64 i ∧ d = .int .i64 ((k + i : Nat) : Int) ∧ MidR wr b off (n * 1) i k cs ∧ Chg lo hi w wr) (fun c _ _ => n - (intOf c).toNat)
  case atStart => exact ⟨0, Nat.zero_le _, rfl, rfl, HM.out, Chg.refl _ _ _⟩
  case round =>
    obtain ⟨i, hi, rfl, rfl, hmid, hchg⟩ := hrel
    have H1 := Lib.hid hmid
    by_cases hlt : i < n
    · have hlt' : (i : Int) < n := by omega
      have c0 := (hmid.2 i (by omega)).1
      have f0 := (hmid.2 i (by omega)).2
      clear hmid
      go_wp2
      go_roundw
      case rel => exact ⟨i + 1, by omega, by go_num, by go_num, by have := H1.out.set (show i < n * 1 by omega); simpa using this, hchg.setCell (by omega) (by omega) _⟩
      case measure => simp [intOf]; omega
    · have hke : i = n := by omega
      have hkk : ¬ ((i : Int) < n) := by omega
      have HK := Lib.hid hke
      clear hke hmid
      go_wp2
      go_ret
      exact ⟨by rw [HK.out]; rfl, ⟨_, cap, rfl, .inr ⟨b, off, rfl, hb1, hb2, Nat.le_trans hb3 hchg.size, fun j hj => ⟨by rw [(H1.out.2 j hj).1, if_pos (by rw [HK.out]; omega)], fun _ => (H1.out.2 j hj).2⟩⟩⟩, hchg⟩
set_option maxHeartbeats 1000000 in
theorem heldIntS (k : Nat) (fz : Bool) (w : World) (lo hi n : Nat) (s : Value) (h : InR fz w lo hi s n 1 (marked k)) (hn : n ≤ 4194304) (hk : k ≤ 1073741824) :
    Calls Try.prog 21 #[s, .int .i64 (k : Int)] w fun e w' => e = .returned (.int .i64 ((k + n : Nat) : Int)) ∧ Below w.heap.size w w' := by
  obtain ⟨a, cap, rfl, hz0⟩ := h
  have hz := Lib.hid hz0
  clear hz0
  go_enter Try.func21, Try.ntmps21
  go_wp2
  go_loopw [5, 1] (fun c d wr => ∃ i : Nat, i ≤ n ∧ c = .int .i64 i ∧ d = .int .i64 ((k + i : Nat) : Int) ∧ Below w.heap.size w wr) (fun c _ _ => n - (intOf c).toNat)
  case atStart => exact ⟨0, Nat.zero_le _, rfl, rfl, Below.refl _ _⟩
  case round =>
    obtain ⟨i, hi, rfl, rfl, hbel⟩ := hrel
    by_cases hlt : i < n
    · have hlt' : (i : Int) < n := by omega
      rcases hz.out with h0 | ⟨b, off, rfl, hb1, hb2, hb3, hc⟩
      · omega
      have c0 := (hbel.cell (p := ⟨b, off + i, none⟩) (by simp only; omega)).trans (hc i (by omega)).1
      have e0 : marked k i = .int .i64 ((k + i : Nat) : Int) := by unfold marked; congr 1
      rw [e0] at c0
      clear hc e0
      go_wp2
      go_roundw
      case rel => exact ⟨i + 1, by omega, by go_num, by go_num, hbel⟩
      case measure => simp [intOf]; omega
    · have hke : i = n := by omega
      have hkk : ¬ ((i : Int) < n) := by omega
      have HK := Lib.hid hke
      clear hke
      go_wp2
      go_ret
      exact ⟨by rw [HK.out]; rfl, hbel⟩

end Go.Proofs.Ytdblcaeeepkebaa
