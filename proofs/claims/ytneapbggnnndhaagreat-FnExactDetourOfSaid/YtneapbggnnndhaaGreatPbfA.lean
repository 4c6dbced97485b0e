/- The order of paths: of rows of nodes, of paths with their values; in the program and in the model. -/
import Derived.Test.YtneapbggnnndhaaGreatPathF
import Derived.Test.YtneapbggnnndhaaGreatCmpM
import Derived.Test.YtneapbggnnndhaaGreatEndV
import Derived.Test.YtneapbggnnndhaaGreatSpec2
namespace Go.Proofs.YtneapbggnnndhaaGreat
open Go.RowKit Go.BigFrame Go.Deep
set_option linter.unusedVariables false
set_option linter.unusedSimpArgs false

/-- The order of two rows of numbers. -/
def lexC : List Int → List Int → Int
  | [], [] => 0
  | [], _ :: _ => -1
  | _ :: _, [] => 1
  | a :: l, b :: r => if cInt a b ≠ 0 then cInt a b else lexC l r
def lexB (zs ys : List Int) : Bool := decide (lexC zs ys < 0)
def cOr3 (x y z : Int) : Int := if x ≠ 0 then x else if y ≠ 0 then y else z
/-- The order of two paths. -/
def cP (m : Int) (zs : List Int) (x : Int) (ys : List Int) (y : Int) : Int := cOr3 (cmpM m x y) (cInt zs.length ys.length) (lexC zs ys)
/-- Is a path in front of another one? -/
def bP (m : Int) (zs : List Int) (x : Int) (ys : List Int) (y : Int) : Bool := if x = y then (if zs.length = ys.length then lexB zs ys else decide (zs.length < ys.length)) else mBet m x y
theorem cInt_z {a b : Int} : cInt a b = 0 ↔ a = b := by
  unfold cInt
  split
  · omega
  · split <;> omega
theorem cInt_n {a b : Int} : cInt a b < 0 ↔ a < b := by
  unfold cInt
  split
  · omega
  · split <;> omega
theorem lexC_drop {zs ys : List Int} {k : Nat} (hz : k < zs.length) (hy : k < ys.length) : lexC (zs.drop k) (ys.drop k) = if cInt (zs.getD k 0) (ys.getD k 0) ≠ 0 then cInt (zs.getD k 0) (ys.getD k 0) else lexC (zs.drop (k + 1)) (ys.drop (k + 1)) := by
  rw [List.drop_eq_getElem_cons hz, List.drop_eq_getElem_cons hy]
  simp [lexC, List.getD, hz, hy]
theorem lexC_end1 {zs ys : List Int} {k : Nat} (hz : zs.length ≤ k) (hy : k < ys.length) : lexC (zs.drop k) (ys.drop k) = -1 := by
  rw [List.drop_eq_nil_of_le hz, List.drop_eq_getElem_cons hy]
  rfl
theorem lexC_end2 {zs ys : List Int} {k : Nat} (hz : k < zs.length) (hy : ys.length ≤ k) : lexC (zs.drop k) (ys.drop k) = 1 := by
  rw [List.drop_eq_nil_of_le hy, List.drop_eq_getElem_cons hz]
  rfl
theorem lexC_end3 {zs ys : List Int} {k : Nat} (hz : zs.length ≤ k) (hy : ys.length ≤ k) : lexC (zs.drop k) (ys.drop k) = 0 := by
  rw [List.drop_eq_nil_of_le hz, List.drop_eq_nil_of_le hy]
  rfl
theorem cmpM_lt {m x y : Int} (hm : mKind m = true) : cmpM m x y < 0 ↔ mBet m x y = true := by
  unfold cmpM
  cases h1 : mBet m x y
  · cases h2 : mBet m y x <;> simp
  · simp
theorem cmpM_z {m x y : Int} (hm : mKind m = true) : cmpM m x y = 0 ↔ x = y := by
  unfold cmpM
  constructor
  · intro h
    cases h1 : mBet m x y
    · cases h2 : mBet m y x
      · exact le_anti hm h2 h1
      · simp [h1, h2] at h
    · simp [h1] at h
  · rintro rfl
    rw [bet_irr]
    simp
/-- The program's order and the model's. -/
theorem cP_lt {m : Int} (hm : mKind m = true) (zs : List Int) (x : Int) (ys : List Int) (y : Int) : decide (cP m zs x ys y < 0) = bP m zs x ys y := by
  unfold cP cOr3 bP lexB
  by_cases h : x = y
  · rw [if_pos h, if_neg (by rw [ne_eq, Classical.not_not]; exact (cmpM_z hm).2 h)]
    by_cases h2 : zs.length = ys.length
    · rw [if_pos h2, if_neg (by rw [ne_eq, Classical.not_not, cInt_z]; omega)]
    · rw [if_neg h2, if_pos (by rw [ne_eq, cInt_z]; omega)]
      exact decide_eq_decide.2 (by rw [cInt_n]; omega)
  · rw [if_neg h, if_pos (by rw [ne_eq, cmpM_z hm]; exact h)]
    cases h3 : mBet m x y
    · exact decide_eq_false (by rw [cmpM_lt hm, h3]; decide)
    · exact decide_eq_true ((cmpM_lt hm).2 h3)

set_option maxHeartbeats 1000000 in
theorem compareInts (zs ys : List Int) (s t : Value) (w : World) (hs : Row w s zs) (ht : Row w t ys) (hl : zs.length ≤ 281474976710656) (hl2 : ys.length ≤ 281474976710656) :
    Calls Tryz.prog 69 #[s, t] w fun e w' => e = .returned (.int .i64 (lexC zs ys)) ∧ w' = w := by
  obtain ⟨a, cap, rfl, hz0⟩ := hs
  have hz := Lib.hid hz0
  obtain ⟨a2, cap2, rfl, hy0⟩ := ht
  have hy := Lib.hid hy0
  clear hz0 hy0
  obtain ⟨R, hR⟩ : ∃ R, R = lexC zs ys := ⟨_, rfl⟩
  rw [← hR]
  have HR := Lib.hid hR
  clear hR
  go_enter Tryz.func69, Tryz.ntmps69
  go_wp2
  go_loopw [11] (fun c wr => ∃ k : Nat, k ≤ zs.length ∧ c = .int .i64 k ∧ (0 < k → k ≤ ys.length) ∧ lexC (zs.drop k) (ys.drop k) = lexC zs ys ∧ wr = w) (fun c _ => zs.length - (intOf c).toNat)
  case atStart => exact ⟨0, Nat.zero_le _, rfl, fun h => absurd h (Nat.lt_irrefl _), rfl, rfl⟩
  case round =>
    obtain ⟨k, hk, rfl, hky, heq, rfl⟩ := hrel
    have HEQ := Lib.hid heq
    have HKY := Lib.hid hky
    clear heq hky
    by_cases hlt : k < zs.length
    · have hlt' : (k : Int) < zs.length := by omega
      rcases hz.out with h0 | ⟨b, off, rfl, hb, hc⟩
      · rw [h0] at hlt; simp at hlt
      have h1 := hc k hlt
      by_cases hly : k < ys.length
      · have hly' : (k : Int) < ys.length := by omega
        have hly2 : ¬ ((k : Int) ≥ ys.length) := by omega
        have hly3 : decide ((ys.length : Int) ≤ k) = false := decide_eq_false (by omega)
        rcases hy.out with h0 | ⟨b2, off2, rfl, hb2, hc2⟩
        · rw [h0] at hly; simp at hly
        have h2 := hc2 k hly
        have hstep := lexC_drop hlt hly
        obtain ⟨x, hx⟩ : ∃ x, x = zs.getD k 0 := ⟨_, rfl⟩
        obtain ⟨y, hy'⟩ : ∃ y, y = ys.getD k 0 := ⟨_, rfl⟩
        rw [← hx] at h1 hstep
        rw [← hy'] at h2 hstep
        have HSTEP := Lib.hid hstep
        clear hc hc2 hx hy' hstep
        have hcmp := fun w => cmpInt x y w
        obtain ⟨C, hC⟩ : ∃ C, C = cInt x y := ⟨_, rfl⟩
        rw [← hC] at hcmp
        have HC := Lib.hid hC
        have HCMP := Lib.hid hcmp
        clear hC hcmp
        by_cases h0 : C = 0
        · subst h0
          go_wp2_with (go_at_call 68; refine (HCMP.out _).mono ?_; rintro e w1 ⟨rfl, rfl⟩)
          have hn : lexC (zs.drop (k + 1)) (ys.drop (k + 1)) = lexC zs ys := by
            rw [← HEQ.out, HSTEP.out, if_neg (by rw [← HC.out]; simp)]
          have HN := Lib.hid hn
          clear hn
          go_roundw
          case rel => exact ⟨k + 1, by omega, by go_num, fun _ => by omega, HN.out, by first | rfl | trivial⟩
          case measure => simp [intOf]; omega
        · have hd : decide (C = 0) = false := decide_eq_false h0
          have hd2 : (C == 0) = false := by simpa using h0
          have hd3 : (C != 0) = true := by simpa using h0
          have HN0 := Lib.hid h0
          clear h0
          go_wp2_with (go_at_call 68; refine (HCMP.out _).mono ?_; rintro e w1 ⟨rfl, rfl⟩)
          go_ret
          refine ⟨?_, rfl⟩
          rw [HR.out, ← HEQ.out, HSTEP.out, ← HC.out, if_pos HN0.out]
          rfl
      · have hly' : ¬ ((k : Int) < ys.length) := by omega
        have hly2 : ((k : Int) ≥ ys.length) := by omega
        have hly3 : decide ((ys.length : Int) ≤ k) = true := decide_eq_true (by omega)
        go_wp2
        go_ret
        refine ⟨?_, rfl⟩
        rw [HR.out, ← HEQ.out, lexC_end2 hlt (by omega)]
        rfl
    · have hke : k = zs.length := by omega
      have hkk : ¬ ((k : Int) < zs.length) := by omega
      by_cases hly : zs.length < ys.length
      · have d1 : (zs.length : Int) < ys.length := by omega
        have HK := Lib.hid hke
        clear hke
        go_wp2
        go_ret
        refine ⟨?_, rfl⟩
        rw [HR.out, ← HEQ.out, lexC_end1 (by have := HK.out; omega) (by have := HK.out; omega)]
        rfl
      · have d1 : ¬ ((zs.length : Int) < ys.length) := by omega
        have HK := Lib.hid hke
        have hle : ys.length ≤ k := by omega
        clear hke
        by_cases h0 : k = ys.length
        · have HK2 := Lib.hid h0
          clear h0
          go_wp2
          go_ret
          refine ⟨?_, rfl⟩
          rw [HR.out, ← HEQ.out, lexC_end3 (by have := HK.out; omega) hle]
          rfl
        · exfalso
          have h1 := HKY.out
          have h2 := HK.out
          by_cases h3 : 0 < k
          · have := h1 h3
            omega
          · omega
end Go.Proofs.YtneapbggnnndhaaGreat
