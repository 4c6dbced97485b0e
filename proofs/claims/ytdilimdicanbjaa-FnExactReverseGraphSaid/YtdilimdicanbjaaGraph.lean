/- Edges and graphs: what the program's small functions on edges answer, and when a graph is valid. -/
import Derived.Test.YtdilimdicanbjaaBase
namespace Go.Proofs.Ytdilimdicanbjaa
open Go.RowKit Go.BigFrame
set_option linter.unusedVariables false
set_option linter.unusedSimpArgs false

/-- The order of two numbers. -/
def cInt (a b : Int) : Int := if a < b then -1 else if b < a then 1 else 0
/-- The first one that is not zero. -/
def cOr (x y : Int) : Int := if x ≠ 0 then x else y
/-- The order of two pairs of ends. -/
def cEnds (a b c d : Int) : Int := cOr (cInt a c) (cInt b d)

theorem isNaNInt (x : Int) (w : World) : Calls Try.prog 106 #[.int .i64 x] w fun e w' => e = .returned (.bool false) ∧ w' = w := by
  go_enter Try.func106, Try.ntmps106
  go_wp2
  go_ret
  exact ⟨by simp, rfl⟩

theorem cmpInt (x y : Int) (w : World) : Calls Try.prog 82 #[.int .i64 x, .int .i64 y] w fun e w' => e = .returned (.int .i64 (cInt x y)) ∧ w' = w := by
  by_cases h1 : x < y
  · have e0 : cInt x y = -1 := by simp [cInt, h1]
    rw [e0]
    clear e0
    go_enter Try.func82, Try.ntmps82
    go_wp2_with (go_at_call 106; refine (isNaNInt _ _).mono ?_; rintro e w1 ⟨rfl, rfl⟩)
    go_ret
    exact ⟨rfl, rfl⟩
  · by_cases h2 : y < x
    · have e0 : cInt x y = 1 := by simp [cInt, h1, h2]
      rw [e0]
      clear e0
      go_enter Try.func82, Try.ntmps82
      go_wp2_with (go_at_call 106; refine (isNaNInt _ _).mono ?_; rintro e w1 ⟨rfl, rfl⟩)
      go_ret
      exact ⟨rfl, rfl⟩
    · have e0 : cInt x y = 0 := by simp [cInt, h1, h2]
      rw [e0]
      clear e0
      go_enter Try.func82, Try.ntmps82
      go_wp2_with (go_at_call 106; refine (isNaNInt _ _).mono ?_; rintro e w1 ⟨rfl, rfl⟩)
      go_ret
      exact ⟨rfl, rfl⟩

/-- cmp.Or of two numbers. -/
theorem orTwo (x y : Int) (b : Nat) (cap : Nat) (w : World) (h0 : w.cell? ⟨b, 0, none⟩ = some (.int .i64 x)) (h1 : w.cell? ⟨b, 1, none⟩ = some (.int .i64 y)) :
    Calls Try.prog 81 #[.slice (some ⟨b, 0, none⟩) 2 cap] w fun e w' => e = .returned (.int .i64 (cOr x y)) ∧ w' = w := by
  obtain ⟨R, hR⟩ : ∃ R, R = if x ≠ 0 then x else y := ⟨_, rfl⟩
  have e0 : cOr x y = R := hR.symm
  rw [e0]
  clear e0
  have HR := Lib.hid hR
  clear hR
  go_enter Try.func81, Try.ntmps81
  go_wp2
  go_loopw [8] (fun c wr => wr = w ∧ ∃ k : Nat, k ≤ 2 ∧ c = .int .i64 k ∧ (0 < k → x = 0) ∧ (1 < k → y = 0)) (fun c _ => 2 - (intOf c).toNat)
  case atStart => exact ⟨rfl, 0, by omega, rfl, by omega, by omega⟩
  case round =>
    obtain ⟨rfl, k, hk, rfl, hx, hy⟩ := hrel
    have HX := Lib.hid hx
    have HY := Lib.hid hy
    clear hx hy
    match k, hk with
    | 0, _ =>
      by_cases hx : x = 0
      · subst hx
        go_wp2
        go_roundw
        case rel => exact ⟨trivial, 1, by omega, by go_num, by simp, by omega⟩
        case measure => simp [intOf]
      · have hd : decide (x = 0) = false := by simpa using hx
        go_wp2
        go_ret
        exact ⟨by rw [HR.out, if_pos hx]; rfl, rfl⟩
    | 1, _ =>
      have hx0 := HX.out (by omega)
      subst hx0
      by_cases hy : y = 0
      · subst hy
        go_wp2
        go_roundw
        case rel => exact ⟨trivial, 2, by omega, by go_num, by simp, by simp⟩
        case measure => simp [intOf]
      · have hd : decide (y = 0) = false := by simpa using hy
        go_wp2
        go_ret
        exact ⟨by rw [HR.out]; rfl, rfl⟩
    | 2, _ =>
      have hx0 := HX.out (by omega)
      have hy0 := HY.out (by omega)
      subst hx0 hy0
      go_wp2
      go_ret
      exact ⟨by rw [HR.out]; rfl, rfl⟩

/-- The order of the ends of two edges. -/
theorem compareEnds (a b p c d q : Int) (w : World) :
    Calls Try.prog 58 #[.agg #[.int .i64 a, .int .i64 b, .int .i64 p], .agg #[.int .i64 c, .int .i64 d, .int .i64 q]] w fun e w' => e = .returned (.int .i64 (cEnds a b c d)) ∧ Below w.heap.size w w' := by
  go_enter Try.func58, Try.ntmps58
  go_wp2
  refine wp_region_tail 10 (by kernel_rfl) (by kernel_rfl) ?_
  simp only [List.take_succ_cons, List.take_zero, List.drop_succ_cons, List.drop_zero]
  repeat (go_big_quiet_step (exact cmpInt _ _ _ _))
  refine wpQuiet_nil ?_
  go_wp2_with (go_at_call 81; (refine (orTwo (cInt a c) (cInt b d) (w.heap.size + 1 + 1) 2 _ (by go_simp) (by go_simp)).mono ?_); rintro e w1 ⟨rfl, rfl⟩)
  go_ret
  exact ⟨rfl, ((((Below.refl _ _).alloc (Nat.le_refl _) _).alloc (by simp) _).alloc (by simp <;> omega) _).drew⟩

theorem hasNode (n x : Int) (s : Value) (w : World) :
    Calls Try.prog 49 #[.agg #[.int .i64 n, s], .int .i64 x] w fun e w' => e = .returned (.bool (decide (0 ≤ x) && decide (x < n))) ∧ Below w.heap.size w w' := by
  by_cases h : 0 ≤ x
  · have hd : decide (0 ≤ x) = true := by simpa using h
    rw [hd]
    go_enter Try.func49, Try.ntmps49
    go_wp2
    go_ret
    exact ⟨by simp, (Below.refl _ _).alloc (Nat.le_refl _) _⟩
  · have hd : decide (0 ≤ x) = false := by simpa using h
    rw [hd]
    go_enter Try.func49, Try.ntmps49
    go_wp2
    go_ret
    exact ⟨by simp, (Below.refl _ _).alloc (Nat.le_refl _) _⟩

theorem gWeight (x : Int) (w : World) :
    Calls Try.prog 92 #[.int .i64 x] w fun e w' => e = .returned (.bool (decide (1 ≤ x) && decide (x ≤ 999))) ∧ w' = w := by
  by_cases h : 1 ≤ x
  · have hd : decide (1 ≤ x) = true := by simpa using h
    rw [hd]
    go_enter Try.func92, Try.ntmps92
    go_wp2
    go_ret
    exact ⟨by simp, rfl⟩
  · have hd : decide (1 ≤ x) = false := by simpa using h
    rw [hd]
    go_enter Try.func92, Try.ntmps92
    go_wp2
    go_ret
    exact ⟨by simp, rfl⟩

/-- An edge that a graph can have. -/
def eFits (n a b p : Int) : Bool := ((decide (0 ≤ a) && decide (a < n)) && ((decide (0 ≤ b) && decide (b < n)))) && (decide (a ≠ b) && (decide (1 ≤ p) && decide (p ≤ 999)))

theorem edgeFits (n a b p : Int) (s : Value) (w : World) :
    Calls Try.prog 71 #[.agg #[.int .i64 n, s], .agg #[.int .i64 a, .int .i64 b, .int .i64 p]] w fun e w' => e = .returned (.bool (eFits n a b p)) ∧ Below w.heap.size w w' := by
  have h1 := fun w => hasNode n a s w
  have h2 := fun w => hasNode n b s w
  have h3 := fun w => gWeight p w
  have e0 : eFits n a b p = (((decide (0 ≤ a) && decide (a < n)) && ((decide (0 ≤ b) && decide (b < n)))) && (decide (a ≠ b) && (decide (1 ≤ p) && decide (p ≤ 999)))) := rfl
  rw [e0]
  generalize (decide (0 ≤ a) && decide (a < n)) = A at h1 ⊢
  generalize (decide (0 ≤ b) && decide (b < n)) = B at h2 ⊢
  generalize (decide (1 ≤ p) && decide (p ≤ 999)) = C at h3 ⊢
  have H1 := Lib.hid h1
  have H2 := Lib.hid h2
  have H3 := Lib.hid h3
  clear h1 h2 h3 e0
  cases A
  · go_enter Try.func71, Try.ntmps71
    go_wp2_with (go_at_call 49; (with_reducible refine (H1.out _).mono ?_); rintro e w1 ⟨rfl, hb1⟩)
    go_ret
    exact ⟨by simp, bel_trans (((Below.refl _ _).alloc (Nat.le_refl _) _).alloc (by simp) _) hb1⟩
  cases B
  · go_enter Try.func71, Try.ntmps71
    go_wp2_with (first | (go_at_call 49; (with_reducible refine (H1.out _).mono ?_); rintro e w1 ⟨rfl, hb1⟩; have x100 := hb1.cell (p := ⟨w.heap.size, 0, none⟩) (by simp <;> omega); have x101 := hb1.cell (p := ⟨w.heap.size, 1, none⟩) (by simp <;> omega); have x110 := hb1.cell (p := ⟨w.heap.size + 1, 0, none⟩) (by simp <;> omega); have x111 := hb1.cell (p := ⟨w.heap.size + 1, 1, none⟩) (by simp <;> omega); have x112 := hb1.cell (p := ⟨w.heap.size + 1, 2, none⟩) (by simp <;> omega); skip) | (go_at_call 49; (with_reducible refine (H2.out _).mono ?_); rintro e w2 ⟨rfl, hb2⟩; have y00 := (hb2.cell (p := ⟨w.heap.size, 0, none⟩) (Nat.lt_of_lt_of_le (by simp <;> omega) hb1.size)).trans x100; have y01 := (hb2.cell (p := ⟨w.heap.size, 1, none⟩) (Nat.lt_of_lt_of_le (by simp <;> omega) hb1.size)).trans x101; have y10 := (hb2.cell (p := ⟨w.heap.size + 1, 0, none⟩) (Nat.lt_of_lt_of_le (by simp <;> omega) hb1.size)).trans x110; have y11 := (hb2.cell (p := ⟨w.heap.size + 1, 1, none⟩) (Nat.lt_of_lt_of_le (by simp <;> omega) hb1.size)).trans x111; have y12 := (hb2.cell (p := ⟨w.heap.size + 1, 2, none⟩) (Nat.lt_of_lt_of_le (by simp <;> omega) hb1.size)).trans x112; skip))
    go_ret
    exact ⟨by simp, bel_trans (bel_trans (((Below.refl _ _).alloc (Nat.le_refl _) _).alloc (by simp) _) hb1) hb2⟩
  by_cases hab : a = b
  · have hd : decide (a ≠ b) = false := by simpa using hab
    rw [hd]
    have hd' : decide (a = b) = true := by simpa using hab
    have hd2 : (a != b) = false := by simpa using hab
    have hd3 : (a == b) = true := by simpa using hab
    clear hab hd
    go_enter Try.func71, Try.ntmps71
    go_wp2_with (first | (go_at_call 49; (with_reducible refine (H1.out _).mono ?_); rintro e w1 ⟨rfl, hb1⟩; have x100 := hb1.cell (p := ⟨w.heap.size, 0, none⟩) (by simp <;> omega); have x101 := hb1.cell (p := ⟨w.heap.size, 1, none⟩) (by simp <;> omega); have x110 := hb1.cell (p := ⟨w.heap.size + 1, 0, none⟩) (by simp <;> omega); have x111 := hb1.cell (p := ⟨w.heap.size + 1, 1, none⟩) (by simp <;> omega); have x112 := hb1.cell (p := ⟨w.heap.size + 1, 2, none⟩) (by simp <;> omega); skip) | (go_at_call 49; (with_reducible refine (H2.out _).mono ?_); rintro e w2 ⟨rfl, hb2⟩; have y00 := (hb2.cell (p := ⟨w.heap.size, 0, none⟩) (Nat.lt_of_lt_of_le (by simp <;> omega) hb1.size)).trans x100; have y01 := (hb2.cell (p := ⟨w.heap.size, 1, none⟩) (Nat.lt_of_lt_of_le (by simp <;> omega) hb1.size)).trans x101; have y10 := (hb2.cell (p := ⟨w.heap.size + 1, 0, none⟩) (Nat.lt_of_lt_of_le (by simp <;> omega) hb1.size)).trans x110; have y11 := (hb2.cell (p := ⟨w.heap.size + 1, 1, none⟩) (Nat.lt_of_lt_of_le (by simp <;> omega) hb1.size)).trans x111; have y12 := (hb2.cell (p := ⟨w.heap.size + 1, 2, none⟩) (Nat.lt_of_lt_of_le (by simp <;> omega) hb1.size)).trans x112; skip))
    go_ret
    exact ⟨by simp, bel_trans (bel_trans (((Below.refl _ _).alloc (Nat.le_refl _) _).alloc (by simp) _) hb1) hb2⟩
  · have hd : decide (a ≠ b) = true := by simpa using hab
    rw [hd]
    have hd' : decide (a = b) = false := by simpa using hab
    have hd2 : (a != b) = true := by simpa using hab
    have hd3 : (a == b) = false := by simpa using hab
    have e1 : (true && true && (true && C)) = C := by cases C <;> rfl
    rw [e1]
    clear hab hd e1
    go_enter Try.func71, Try.ntmps71
    go_wp2_with (first | (go_at_call 49; (with_reducible refine (H1.out _).mono ?_); rintro e w1 ⟨rfl, hb1⟩; have x100 := hb1.cell (p := ⟨w.heap.size, 0, none⟩) (by simp <;> omega); have x101 := hb1.cell (p := ⟨w.heap.size, 1, none⟩) (by simp <;> omega); have x110 := hb1.cell (p := ⟨w.heap.size + 1, 0, none⟩) (by simp <;> omega); have x111 := hb1.cell (p := ⟨w.heap.size + 1, 1, none⟩) (by simp <;> omega); have x112 := hb1.cell (p := ⟨w.heap.size + 1, 2, none⟩) (by simp <;> omega); skip) | (go_at_call 49; (with_reducible refine (H2.out _).mono ?_); rintro e w2 ⟨rfl, hb2⟩; have y00 := (hb2.cell (p := ⟨w.heap.size, 0, none⟩) (Nat.lt_of_lt_of_le (by simp <;> omega) hb1.size)).trans x100; have y01 := (hb2.cell (p := ⟨w.heap.size, 1, none⟩) (Nat.lt_of_lt_of_le (by simp <;> omega) hb1.size)).trans x101; have y10 := (hb2.cell (p := ⟨w.heap.size + 1, 0, none⟩) (Nat.lt_of_lt_of_le (by simp <;> omega) hb1.size)).trans x110; have y11 := (hb2.cell (p := ⟨w.heap.size + 1, 1, none⟩) (Nat.lt_of_lt_of_le (by simp <;> omega) hb1.size)).trans x111; have y12 := (hb2.cell (p := ⟨w.heap.size + 1, 2, none⟩) (Nat.lt_of_lt_of_le (by simp <;> omega) hb1.size)).trans x112; skip) | (go_at_call 92; (with_reducible refine (H3.out _).mono ?_); rintro e w3 ⟨rfl, rfl⟩))
    go_ret
    exact ⟨rfl, bel_trans (bel_trans (((Below.refl _ _).alloc (Nat.le_refl _) _).alloc (by simp) _) hb1) hb2⟩
end Go.Proofs.Ytdilimdicanbjaa
