/- Edges and graphs: what the program's small functions on edges answer, and when a graph is valid. When a graph is valid, in the program. When a graph is valid, in the model. -/
import Derived.Test.YtlgjcofpdaljnaaBase
namespace Go.Proofs.Ytlgjcofpdaljnaa
open Go.RowKit Go.BigFrame
set_option linter.unusedVariables false
set_option linter.unusedSimpArgs false

/-- The order of two numbers. -/
def cInt (a b : Int) : Int := if a < b then -1 else if b < a then 1 else 0
/-- The first one that is not zero. -/
def cOr (x y : Int) : Int := if x ≠ 0 then x else y
/-- The order of two pairs of ends. -/
def cEnds (a b c d : Int) : Int := cOr (cInt a c) (cInt b d)

theorem isNaNInt (x : Int) (w : World) : Calls Try.prog 130 #[.int .i64 x] w fun e w' => e = .returned (.bool false) ∧ w' = w := by
  go_enter Try.func130, Try.ntmps130
  go_wp2
  go_ret
  exact ⟨by simp, rfl⟩

theorem cmpInt (x y : Int) (w : World) : Calls Try.prog 117 #[.int .i64 x, .int .i64 y] w fun e w' => e = .returned (.int .i64 (cInt x y)) ∧ w' = w := by
  by_cases h1 : x < y
  · have e0 : cInt x y = -1 := by simp [cInt, h1]
    rw [e0]
    clear e0
    go_enter Try.func117, Try.ntmps117
    go_wp2_with (go_at_call 130; refine (isNaNInt _ _).mono ?_; rintro e w1 ⟨rfl, rfl⟩)
    go_ret
    exact ⟨rfl, rfl⟩
  · by_cases h2 : y < x
    · have e0 : cInt x y = 1 := by simp [cInt, h1, h2]
      rw [e0]
      clear e0
      go_enter Try.func117, Try.ntmps117
      go_wp2_with (go_at_call 130; refine (isNaNInt _ _).mono ?_; rintro e w1 ⟨rfl, rfl⟩)
      go_ret
      exact ⟨rfl, rfl⟩
    · have e0 : cInt x y = 0 := by simp [cInt, h1, h2]
      rw [e0]
      clear e0
      go_enter Try.func117, Try.ntmps117
      go_wp2_with (go_at_call 130; refine (isNaNInt _ _).mono ?_; rintro e w1 ⟨rfl, rfl⟩)
      go_ret
      exact ⟨rfl, rfl⟩

/-- cmp.Or of two numbers. -/
theorem orTwo (x y : Int) (b : Nat) (cap : Nat) (w : World) (h0 : w.cell? ⟨b, 0, none⟩ = some (.int .i64 x)) (h1 : w.cell? ⟨b, 1, none⟩ = some (.int .i64 y)) :
    Calls Try.prog 116 #[.slice (some ⟨b, 0, none⟩) 2 cap] w fun e w' => e = .returned (.int .i64 (cOr x y)) ∧ w' = w := by
  obtain ⟨R, hR⟩ : ∃ R, R = if x ≠ 0 then x else y := ⟨_, rfl⟩
  have e0 : cOr x y = R := hR.symm
  rw [e0]
  clear e0
  have HR := Lib.hid hR
  clear hR
  go_enter Try.func116, Try.ntmps116
  go_wp2
  go_loopw [8] (fun c wr => wr = w ∧ ∃ k : Nat, k ≤ 2 ∧ c = .int .i64 k ∧ (0 < k → x = 0) ∧ (1 < k → y = 0)) (fun c _ => 2 - (intOf c).toNat)
  case atStart => exact ⟨rfl, 0, by omega, rfl, by omega, by omega⟩
  case round =>
    obtain ⟨rfl, k, hk, rfl, hx, hy⟩ := hrel
    have HX := Lib.hid hx
    have HY := Lib.hid hy
    clear hx hy
    match k, hk with
    | 0, _ =>
      by_cases hx : x = 0
      · subst hx
        go_wp2
        go_roundw
        case rel => exact ⟨trivial, 1, by omega, by go_num, by simp, by omega⟩
        case measure => simp [intOf]
      · have hd : decide (x = 0) = false := by simpa using hx
        go_wp2
        go_ret
        exact ⟨by rw [HR.out, if_pos hx]; rfl, rfl⟩
    | 1, _ =>
      have hx0 := HX.out (by omega)
      subst hx0
      by_cases hy : y = 0
      · subst hy
        go_wp2
        go_roundw
        case rel => exact ⟨trivial, 2, by omega, by go_num, by simp, by simp⟩
        case measure => simp [intOf]
      · have hd : decide (y = 0) = false := by simpa using hy
        go_wp2
        go_ret
        exact ⟨by rw [HR.out]; rfl, rfl⟩
    | 2, _ =>
      have hx0 := HX.out (by omega)
      have hy0 := HY.out (by omega)
      subst hx0 hy0
      go_wp2
      go_ret
      exact ⟨by rw [HR.out]; rfl, rfl⟩

/-- The order of the ends of two edges. -/
theorem compareEnds (a b p c d q : Int) (w : World) :
    Calls Try.prog 93 #[.agg #[.int .i64 a, .int .i64 b, .int .i64 p], .agg #[.int .i64 c, .int .i64 d, .int .i64 q]] w fun e w' => e = .returned (.int .i64 (cEnds a b c d)) ∧ Below w.heap.size w w' := by
  go_enter Try.func93, Try.ntmps93
  go_wp2
  refine wp_region_tail 10 (by kernel_rfl) (by kernel_rfl) ?_
  simp only [List.take_succ_cons, List.take_zero, List.drop_succ_cons, List.drop_zero]
  repeat (go_big_quiet_step (exact cmpInt _ _ _ _))
  refine wpQuiet_nil ?_
  go_wp2_with (go_at_call 116; (refine (orTwo (cInt a c) (cInt b d) (w.heap.size + 1 + 1) 2 _ (by go_simp) (by go_simp)).mono ?_); rintro e w1 ⟨rfl, rfl⟩)
  go_ret
  exact ⟨rfl, ((((Below.refl _ _).alloc (Nat.le_refl _) _).alloc (by simp) _).alloc (by simp <;> omega) _).drew⟩

theorem hasNode (n x : Int) (s : Value) (w : World) :
    Calls Try.prog 83 #[.agg #[.int .i64 n, s], .int .i64 x] w fun e w' => e = .returned (.bool (decide (0 ≤ x) && decide (x < n))) ∧ Below w.heap.size w w' := by
  by_cases h : 0 ≤ x
  · have hd : decide (0 ≤ x) = true := by simpa using h
    rw [hd]
    go_enter Try.func83, Try.ntmps83
    go_wp2
    go_ret
    exact ⟨by simp, (Below.refl _ _).alloc (Nat.le_refl _) _⟩
  · have hd : decide (0 ≤ x) = false := by simpa using h
    rw [hd]
    go_enter Try.func83, Try.ntmps83
    go_wp2
    go_ret
    exact ⟨by simp, (Below.refl _ _).alloc (Nat.le_refl _) _⟩

theorem gWeight (x : Int) (w : World) :
    Calls Try.prog 115 #[.int .i64 x] w fun e w' => e = .returned (.bool (decide (1 ≤ x) && decide (x ≤ 999))) ∧ w' = w := by
  by_cases h : 1 ≤ x
  · have hd : decide (1 ≤ x) = true := by simpa using h
    rw [hd]
    go_enter Try.func115, Try.ntmps115
    go_wp2
    go_ret
    exact ⟨by simp, rfl⟩
  · have hd : decide (1 ≤ x) = false := by simpa using h
    rw [hd]
    go_enter Try.func115, Try.ntmps115
    go_wp2
    go_ret
    exact ⟨by simp, rfl⟩

/-- An edge that a graph can have. -/
def eFits (n a b p : Int) : Bool := ((decide (0 ≤ a) && decide (a < n)) && ((decide (0 ≤ b) && decide (b < n)))) && (decide (a ≠ b) && (decide (1 ≤ p) && decide (p ≤ 999)))

theorem edgeFits (n a b p : Int) (s : Value) (w : World) :
    Calls Try.prog 92 #[.agg #[.int .i64 n, s], .agg #[.int .i64 a, .int .i64 b, .int .i64 p]] w fun e w' => e = .returned (.bool (eFits n a b p)) ∧ Below w.heap.size w w' := by
  have h1 := fun w => hasNode n a s w
  have h2 := fun w => hasNode n b s w
  have h3 := fun w => gWeight p w
  have e0 : eFits n a b p = (((decide (0 ≤ a) && decide (a < n)) && ((decide (0 ≤ b) && decide (b < n)))) && (decide (a ≠ b) && (decide (1 ≤ p) && decide (p ≤ 999)))) := rfl
  rw [e0]
  generalize (decide (0 ≤ a) && decide (a < n)) = A at h1 ⊢
  generalize (decide (0 ≤ b) && decide (b < n)) = B at h2 ⊢
  generalize (decide (1 ≤ p) && decide (p ≤ 999)) = C at h3 ⊢
  have H1 := Lib.hid h1
  have H2 := Lib.hid h2
  have H3 := Lib.hid h3
  clear h1 h2 h3 e0
  cases A
  · go_enter Try.func92, Try.ntmps92
    go_wp2_with (go_at_call 83; (with_reducible refine (H1.out _).mono ?_); rintro e w1 ⟨rfl, hb1⟩)
    go_ret
    exact ⟨by simp, bel_trans (((Below.refl _ _).alloc (Nat.le_refl _) _).alloc (by simp) _) hb1⟩
  cases B
  · go_enter Try.func92, Try.ntmps92
    go_wp2_with (first | (go_at_call 83; (with_reducible refine (H1.out _).mono ?_); rintro e w1 ⟨rfl, hb1⟩; have x100 := hb1.cell (p := ⟨w.heap.size, 0, none⟩) (by simp <;> omega); have x101 := hb1.cell (p := ⟨w.heap.size, 1, none⟩) (by simp <;> omega); have x110 := hb1.cell (p := ⟨w.heap.size + 1, 0, none⟩) (by simp <;> omega); have x111 := hb1.cell (p := ⟨w.heap.size + 1, 1, none⟩) (by simp <;> omega); have x112 := hb1.cell (p := ⟨w.heap.size + 1, 2, none⟩) (by simp <;> omega); skip) | (go_at_call 83; (with_reducible refine (H2.out _).mono ?_); rintro e w2 ⟨rfl, hb2⟩; have y00 := (hb2.cell (p := ⟨w.heap.size, 0, none⟩) (Nat.lt_of_lt_of_le (by simp <;> omega) hb1.size)).trans x100; have y01 := (hb2.cell (p := ⟨w.heap.size, 1, none⟩) (Nat.lt_of_lt_of_le (by simp <;> omega) hb1.size)).trans x101; have y10 := (hb2.cell (p := ⟨w.heap.size + 1, 0, none⟩) (Nat.lt_of_lt_of_le (by simp <;> omega) hb1.size)).trans x110; have y11 := (hb2.cell (p := ⟨w.heap.size + 1, 1, none⟩) (Nat.lt_of_lt_of_le (by simp <;> omega) hb1.size)).trans x111; have y12 := (hb2.cell (p := ⟨w.heap.size + 1, 2, none⟩) (Nat.lt_of_lt_of_le (by simp <;> omega) hb1.size)).trans x112; skip))
    go_ret
    exact ⟨by simp, bel_trans (bel_trans (((Below.refl _ _).alloc (Nat.le_refl _) _).alloc (by simp) _) hb1) hb2⟩
  by_cases hab : a = b
  · have hd : decide (a ≠ b) = false := by simpa using hab
    rw [hd]
    have hd' : decide (a = b) = true := by simpa using hab
    have hd2 : (a != b) = false := by simpa using hab
    have hd3 : (a == b) = true := by simpa using hab
    clear hab hd
    go_enter Try.func92, Try.ntmps92
    go_wp2_with (first | (go_at_call 83; (with_reducible refine (H1.out _).mono ?_); rintro e w1 ⟨rfl, hb1⟩; have x100 := hb1.cell (p := ⟨w.heap.size, 0, none⟩) (by simp <;> omega); have x101 := hb1.cell (p := ⟨w.heap.size, 1, none⟩) (by simp <;> omega); have x110 := hb1.cell (p := ⟨w.heap.size + 1, 0, none⟩) (by simp <;> omega); have x111 := hb1.cell (p := ⟨w.heap.size + 1, 1, none⟩) (by simp <;> omega); have x112 := hb1.cell (p := ⟨w.heap.size + 1, 2, none⟩) (by simp <;> omega); skip) | (go_at_call 83; (with_reducible refine (H2.out _).mono ?_); rintro e w2 ⟨rfl, hb2⟩; have y00 := (hb2.cell (p := ⟨w.heap.size, 0, none⟩) (Nat.lt_of_lt_of_le (by simp <;> omega) hb1.size)).trans x100; have y01 := (hb2.cell (p := ⟨w.heap.size, 1, none⟩) (Nat.lt_of_lt_of_le (by simp <;> omega) hb1.size)).trans x101; have y10 := (hb2.cell (p := ⟨w.heap.size + 1, 0, none⟩) (Nat.lt_of_lt_of_le (by simp <;> omega) hb1.size)).trans x110; have y11 := (hb2.cell (p := ⟨w.heap.size + 1, 1, none⟩) (Nat.lt_of_lt_of_le (by simp <;> omega) hb1.size)).trans x111; have y12 := (hb2.cell (p := ⟨w.heap.size + 1, 2, none⟩) (Nat.lt_of_lt_of_le (by simp <;> omega) hb1.size)).trans x112; skip))
    go_ret
    exact ⟨by simp, bel_trans (bel_trans (((Below.refl _ _).alloc (Nat.le_refl _) _).alloc (by simp) _) hb1) hb2⟩
  · have hd : decide (a ≠ b) = true := by simpa using hab
    rw [hd]
    have hd' : decide (a = b) = false := by simpa using hab
    have hd2 : (a != b) = true := by simpa using hab
    have hd3 : (a == b) = false := by simpa using hab
    have e1 : (true && true && (true && C)) = C := by cases C <;> rfl
    rw [e1]
    clear hab hd e1
    go_enter Try.func92, Try.ntmps92
    go_wp2_with (first | (go_at_call 83; (with_reducible refine (H1.out _).mono ?_); rintro e w1 ⟨rfl, hb1⟩; have x100 := hb1.cell (p := ⟨w.heap.size, 0, none⟩) (by simp <;> omega); have x101 := hb1.cell (p := ⟨w.heap.size, 1, none⟩) (by simp <;> omega); have x110 := hb1.cell (p := ⟨w.heap.size + 1, 0, none⟩) (by simp <;> omega); have x111 := hb1.cell (p := ⟨w.heap.size + 1, 1, none⟩) (by simp <;> omega); have x112 := hb1.cell (p := ⟨w.heap.size + 1, 2, none⟩) (by simp <;> omega); skip) | (go_at_call 83; (with_reducible refine (H2.out _).mono ?_); rintro e w2 ⟨rfl, hb2⟩; have y00 := (hb2.cell (p := ⟨w.heap.size, 0, none⟩) (Nat.lt_of_lt_of_le (by simp <;> omega) hb1.size)).trans x100; have y01 := (hb2.cell (p := ⟨w.heap.size, 1, none⟩) (Nat.lt_of_lt_of_le (by simp <;> omega) hb1.size)).trans x101; have y10 := (hb2.cell (p := ⟨w.heap.size + 1, 0, none⟩) (Nat.lt_of_lt_of_le (by simp <;> omega) hb1.size)).trans x110; have y11 := (hb2.cell (p := ⟨w.heap.size + 1, 1, none⟩) (Nat.lt_of_lt_of_le (by simp <;> omega) hb1.size)).trans x111; have y12 := (hb2.cell (p := ⟨w.heap.size + 1, 2, none⟩) (Nat.lt_of_lt_of_le (by simp <;> omega) hb1.size)).trans x112; skip) | (go_at_call 115; (with_reducible refine (H3.out _).mono ?_); rintro e w3 ⟨rfl, rfl⟩))
    go_ret
    exact ⟨rfl, bel_trans (bel_trans (((Below.refl _ _).alloc (Nat.le_refl _) _).alloc (by simp) _) hb1) hb2⟩
end Go.Proofs.Ytlgjcofpdaljnaa
namespace Go.Proofs.Ytlgjcofpdaljnaa
open Go.RowKit Go.BigFrame
set_option linter.unusedVariables false
set_option linter.unusedSimpArgs false

/-- An edge: from, to, weight. -/
abbrev Ed := Int × Int × Int
/-- A slice of edges that reads as a list. -/
def RowE (w : World) (s : Value) (es : List Ed) : Prop :=
  ∃ a cap, s = .slice a es.length cap ∧ (es = [] ∨ ∃ b off, a = some ⟨b, off, none⟩ ∧ b < w.heap.size ∧ ∀ i, i < es.length →
    w.cell? ⟨b, off + i * 3, none⟩ = some (.int .i64 (es.getD i (0, 0, 0)).1) ∧ w.cell? ⟨b, off + i * 3 + 1, none⟩ = some (.int .i64 (es.getD i (0, 0, 0)).2.1) ∧ w.cell? ⟨b, off + i * 3 + 2, none⟩ = some (.int .i64 (es.getD i (0, 0, 0)).2.2))
/-- Does the edge at a place fit, and stand behind the one before it? -/
def okAt (n : Int) (es : List Ed) (i : Nat) : Bool :=
  let e := es.getD i (0, 0, 0)
  let d := es.getD (i - 1) (0, 0, 0)
  eFits n e.1 e.2.1 e.2.2 && (decide (i = 0) || decide (cEnds d.1 d.2.1 e.1 e.2.1 < 0))
/-- Is a graph valid? -/
def gVal (n : Int) (es : List Ed) : Bool := (decide (1 ≤ n) && decide (n ≤ 12)) && (decide (es.length ≤ 40) && (List.range es.length).all (okAt n es))

theorem gVal_small {n : Int} {es : List Ed} (h : n < 1 ∨ 12 < n ∨ 40 < (es.length : Int)) : gVal n es = false := by
  unfold gVal
  rcases h with h | h | h
  · have : decide (1 ≤ n) = false := by simp; omega
    rw [this]; rfl
  · have : decide (n ≤ 12) = false := by simp; omega
    rw [this]; simp
  · have : decide (es.length ≤ 40) = false := by simp; omega
    rw [this]; simp
theorem gVal_mid {n : Int} {es : List Ed} (hn1 : ¬ n < 1) (hn2 : ¬ 12 < n) (hn3 : ¬ 40 < (es.length : Int)) : gVal n es = (List.range es.length).all (okAt n es) := by
  have h1 : decide (1 ≤ n) = true := by simp; omega
  have h2 : decide (n ≤ 12) = true := by simp; omega
  have h3 : decide (es.length ≤ 40) = true := by simp; omega
  simp only [gVal, h1, h2, h3, Bool.true_and]
theorem okAll_snoc (n : Int) (es : List Ed) (k : Nat) : (List.range (k + 1)).all (okAt n es) = ((List.range k).all (okAt n es) && okAt n es k) := by
  rw [List.range_succ, List.all_append]; simp
theorem okAll_false {n : Int} {es : List Ed} {k : Nat} (hk : k < es.length) (h : okAt n es k = false) : (List.range es.length).all (okAt n es) = false := by
  apply Bool.eq_false_iff.2
  intro ha
  rw [List.all_eq_true] at ha
  rw [ha k (by simpa using hk)] at h
  cases h
theorem okAt_fits {n : Int} {es : List Ed} {k : Nat} {x y z : Int} (hx : (x, y, z) = es.getD k (0, 0, 0)) (h : eFits n x y z = false) : okAt n es k = false := by
  simp only [okAt, ← hx, h, Bool.false_and]
theorem okAt_zero {n : Int} {es : List Ed} {x y z : Int} (hx : (x, y, z) = es.getD 0 (0, 0, 0)) (h : eFits n x y z = true) : okAt n es 0 = true := by
  simp only [okAt, ← hx, h]; rfl
theorem okAt_succ {n : Int} {es : List Ed} {k : Nat} {x y z p q r : Int} (hx : (x, y, z) = es.getD (k + 1) (0, 0, 0)) (hp : (p, q, r) = es.getD k (0, 0, 0)) (h : eFits n x y z = true) :
    okAt n es (k + 1) = decide (cEnds p q x y < 0) := by
  have h0 : decide (k + 1 = 0) = false := by simp
  simp only [okAt, ← hx, h, Nat.add_sub_cancel, ← hp, h0, Bool.true_and, Bool.false_or]

set_option maxHeartbeats 1000000 in
theorem graphValid (n : Int) (es : List Ed) (s : Value) (w : World) (hr : RowE w s es) (hl : es.length ≤ 281474976710656) :
    Calls Try.prog 60 #[.agg #[.int .i64 n, s]] w fun e w' => e = .returned (.bool (gVal n es)) ∧ Below w.heap.size w w' := by
  obtain ⟨a, cap, rfl, hz0⟩ := hr
  have hz := Lib.hid hz0
  clear hz0
  by_cases hn : n < 1 ∨ 12 < n ∨ 40 < (es.length : Int)
  · rw [gVal_small hn]
    by_cases hn1 : n < 1
    · go_enter Try.func60, Try.ntmps60
      go_wp2
      go_ret
      exact ⟨rfl, (Below.refl _ _).alloc (Nat.le_refl _) _⟩
    by_cases hn2 : 12 < n
    · go_enter Try.func60, Try.ntmps60
      go_wp2
      go_ret
      exact ⟨rfl, (Below.refl _ _).alloc (Nat.le_refl _) _⟩
    have hn3 : 40 < (es.length : Int) := by omega
    clear hn
    go_enter Try.func60, Try.ntmps60
    go_wp2
    go_ret
    exact ⟨rfl, (Below.refl _ _).alloc (Nat.le_refl _) _⟩
  have hn1 : ¬ n < 1 := by omega
  have hn2 : ¬ 12 < n := by omega
  have hn3 : ¬ 40 < (es.length : Int) := by omega
  clear hn
  have d1 : decide (n < 1) = false := by simpa using hn1
  have d2 : decide (12 < n) = false := by simpa using hn2
  have d3 : decide (40 < (es.length : Int)) = false := by simpa using hn3
  rw [gVal_mid hn1 hn2 hn3]
  clear hn1 hn2 hn3
  obtain ⟨R, hR⟩ : ∃ R, R = (List.range es.length).all (okAt n es) := ⟨_, rfl⟩
  rw [← hR]
  have HR := Lib.hid hR
  clear hR
  go_enter Try.func60, Try.ntmps60
  go_wp2
  go_loopw [22] (fun c wr => ∃ k : Nat, k ≤ es.length ∧ c = .int .i64 k ∧ (List.range k).all (okAt n es) = true ∧ Below w.heap.size w wr ∧ wr.cell? ⟨w.heap.size, 0, none⟩ = some (.int .i64 n) ∧ wr.cell? ⟨w.heap.size, 1, none⟩ = some (.slice a es.length cap) ∧ w.heap.size < wr.heap.size) (fun c _ => es.length - (intOf c).toNat)
  case atStart => exact ⟨0, Nat.zero_le _, rfl, rfl, (Below.refl _ _).alloc (Nat.le_refl _) _, by go_simp, by go_simp, by simp⟩
  case round =>
    obtain ⟨k, hk, rfl, hall, hbel, hn, hs, hsz⟩ := hrel
    by_cases hlt : k < es.length
    · have hlt' : (k : Int) < es.length := by omega
      rcases hz.out with h0 | ⟨b, off, rfl, hb, hc⟩
      · rw [h0] at hlt; simp at hlt
      obtain ⟨x, y, z, hx⟩ : ∃ x y z, (x, y, z) = es.getD k (0, 0, 0) := ⟨_, _, _, rfl⟩
      obtain ⟨c0, c1, c2⟩ := hc k hlt
      rw [← hbel.cell (p := ⟨b, _, none⟩) hb, ← hx] at c0 c1 c2
      simp only at c0 c1 c2
      have ff : ∀ w', Below (wr.alloc (Obj.cells #[.int .i64 x, .int .i64 y, .int .i64 z] 67)).heap.size (wr.alloc (Obj.cells #[.int .i64 x, .int .i64 y, .int .i64 z] 67)) w' → w'.cell? ⟨w.heap.size, 0, none⟩ = some (.int .i64 n) ∧ w'.cell? ⟨w.heap.size, 1, none⟩ = some (.slice (some ⟨b, off, none⟩) es.length cap) ∧
          w'.cell? ⟨wr.heap.size, 0, none⟩ = some (.int .i64 x) ∧ w'.cell? ⟨wr.heap.size, 1, none⟩ = some (.int .i64 y) ∧ w'.cell? ⟨wr.heap.size, 2, none⟩ = some (.int .i64 z) := by
        intro w' h
        refine ⟨(h.cell (by simp <;> omega)).trans ?_, (h.cell (by simp <;> omega)).trans ?_, (h.cell (by simp)).trans ?_, (h.cell (by simp)).trans ?_, (h.cell (by simp)).trans ?_⟩ <;> go_simp
      have FF := Lib.hid ff
      have hbW : Below w.heap.size w (wr.alloc (Obj.cells #[.int .i64 x, .int .i64 y, .int .i64 z] 67)) := hbel.alloc (by omega) _
      have hsW : w.heap.size < (wr.alloc (Obj.cells #[.int .i64 x, .int .i64 y, .int .i64 z] 67)).heap.size := by simp; omega
      have hf0 := fun w => edgeFits n x y z (.slice (some ⟨b, off, none⟩) es.length cap) w
      have HA := Lib.hid hall
      have HX := Lib.hid hx
      have HC := Lib.hid hc
      clear hc hall hx ff
      cases hf : eFits n x y z
      · rw [hf] at hf0
        have HF := Lib.hid hf0
        have HO := Lib.hid (okAll_false hlt (okAt_fits HX.out hf))
        clear hf0 hf
        go_wp2
        generalize (wr.alloc (Obj.cells #[.int .i64 x, .int .i64 y, .int .i64 z] 67)) = W1 at FF hbW hsW ⊢
        refine wp_region_below (by kernel_rfl) (by kernel_rfl) ?_
        repeat (go_big_quiet_step ((intro hw; first | with_reducible rfl | (obtain ⟨f0, f1, g0, g1, g2⟩ := FF.out _ hw; simp only [f0, f1, g0, g1, g2, Result.andThen]; first | exact ⟨trivial, rfl⟩ | exact ⟨rfl, rfl⟩) | (go_at_call 92; exact quietB (HF.out _) hw))))
        refine wpQuiet_nil ?_
        intro w1 hw1
        go_wp2
        go_ret
        exact ⟨by rw [HR.out, HO.out]; rfl, bel_trans hbW hw1⟩
      · rw [hf] at hf0
        have HF := Lib.hid hf0
        clear hf0
        match k, hk, HA, HX, hlt, hlt', c0, c1, c2 with
        | 0, hk, HA, HX, hlt, hlt', c0, c1, c2 =>
          have hok := Lib.hid (okAt_zero HX.out hf)
          simp only [Nat.zero_mul, Nat.add_zero] at c0 c1 c2
          clear hf
          go_wp2
          generalize (wr.alloc (Obj.cells #[.int .i64 x, .int .i64 y, .int .i64 z] 67)) = W1 at FF hbW hsW ⊢
          refine wp_region_below (by kernel_rfl) (by kernel_rfl) ?_
          repeat (go_big_quiet_step ((intro hw; first | with_reducible rfl | (obtain ⟨f0, f1, g0, g1, g2⟩ := FF.out _ hw; simp only [f0, f1, g0, g1, g2, Result.andThen]; first | exact ⟨trivial, rfl⟩ | exact ⟨rfl, rfl⟩) | (go_at_call 92; exact quietB (HF.out _) hw))))
          refine wpQuiet_nil ?_
          intro w1 hw1
          obtain ⟨k0, k1, -⟩ := FF.out _ hw1
          have hsz1 : w.heap.size < w1.heap.size := Nat.lt_of_lt_of_le hsW hw1.size
          go_wp2
          go_roundw
          case rel => first | exact ⟨1, by omega, by go_num, by rw [okAll_snoc, HA.out, hok.out]; rfl, bel_trans hbW hw1, k0, k1, hsz1⟩ | ((repeat apply Exists.intro); exact ⟨⟨1, by omega, by go_num, by rw [okAll_snoc, HA.out, hok.out]; rfl, bel_trans hbW hw1, k0, k1, hsz1⟩, rfl⟩)
          case measure => simp [intOf]; omega
        | k + 1, hk, HA, HX, hlt, hlt', c0, c1, c2 =>
          obtain ⟨p, q, r, hp⟩ : ∃ p q r, (p, q, r) = es.getD k (0, 0, 0) := ⟨_, _, _, rfl⟩
          have hcp := HC.out k (by omega)
          rw [← hp] at hcp
          simp only at hcp
          have mm : ∀ w', Below (wr.alloc (Obj.cells #[.int .i64 x, .int .i64 y, .int .i64 z] 67)).heap.size (wr.alloc (Obj.cells #[.int .i64 x, .int .i64 y, .int .i64 z] 67)) w' → w'.cell? ⟨b, off + k * 3, none⟩ = some (.int .i64 p) ∧ w'.cell? ⟨b, off + k * 3 + 1, none⟩ = some (.int .i64 q) ∧ w'.cell? ⟨b, off + k * 3 + 2, none⟩ = some (.int .i64 r) := by
            intro w' h
            have hB := bel_trans hbW h
            exact ⟨(hB.cell (p := ⟨b, _, none⟩) hb).trans hcp.1, (hB.cell (p := ⟨b, _, none⟩) hb).trans hcp.2.1, (hB.cell (p := ⟨b, _, none⟩) hb).trans hcp.2.2⟩
          have MM := Lib.hid mm
          have ok := okAt_succ HX.out hp hf
          have HP := Lib.hid hp
          clear mm hcp hp
          by_cases hcm : cEnds p q x y < 0
          · have hd : decide (0 ≤ cEnds p q x y) = false := by simp; omega
            have hok : Hid (okAt n es (k + 1) = true) := Lib.hid (by rw [ok]; simpa using hcm)
            clear ok hcm hf
            go_wp2
            generalize (wr.alloc (Obj.cells #[.int .i64 x, .int .i64 y, .int .i64 z] 67)) = W1 at FF MM hbW hsW ⊢
            refine wp_region_below (by kernel_rfl) (by kernel_rfl) ?_
            repeat (go_big_quiet_step ((intro hw; first | with_reducible rfl | (obtain ⟨f0, f1, g0, g1, g2⟩ := FF.out _ hw; obtain ⟨m0, m1, m2⟩ := MM.out _ hw; simp only [f0, f1, g0, g1, g2, m0, m1, m2, Result.andThen]; first | exact ⟨trivial, rfl⟩ | exact ⟨rfl, rfl⟩) | (go_at_call 92; exact quietB (HF.out _) hw) | (go_at_call 93; exact quietB (compareEnds _ _ _ _ _ _ _) hw))))
            refine wpQuiet_nil ?_
            intro w1 hw1
            obtain ⟨k0, k1, -⟩ := FF.out _ hw1
            have hsz1 : w.heap.size < w1.heap.size := Nat.lt_of_lt_of_le hsW hw1.size
            go_wp2
            go_roundw
            case rel => first | exact ⟨k + 2, by omega, by go_num, by rw [okAll_snoc, HA.out, hok.out]; rfl, bel_trans hbW hw1, k0, k1, hsz1⟩ | ((repeat apply Exists.intro); exact ⟨⟨k + 2, by omega, by go_num, by rw [okAll_snoc, HA.out, hok.out]; rfl, bel_trans hbW hw1, k0, k1, hsz1⟩, rfl⟩)
            case measure => simp [intOf]; omega
          · have hd : decide (0 ≤ cEnds p q x y) = true := by simp; omega
            have HO := Lib.hid (okAll_false hlt (by rw [ok]; simpa using hcm : okAt n es (k + 1) = false))
            clear ok hcm hf
            go_wp2
            generalize (wr.alloc (Obj.cells #[.int .i64 x, .int .i64 y, .int .i64 z] 67)) = W1 at FF MM hbW hsW ⊢
            refine wp_region_below (by kernel_rfl) (by kernel_rfl) ?_
            repeat (go_big_quiet_step ((intro hw; first | with_reducible rfl | (obtain ⟨f0, f1, g0, g1, g2⟩ := FF.out _ hw; obtain ⟨m0, m1, m2⟩ := MM.out _ hw; simp only [f0, f1, g0, g1, g2, m0, m1, m2, Result.andThen]; first | exact ⟨trivial, rfl⟩ | exact ⟨rfl, rfl⟩) | (go_at_call 92; exact quietB (HF.out _) hw) | (go_at_call 93; exact quietB (compareEnds _ _ _ _ _ _ _) hw))))
            refine wpQuiet_nil ?_
            intro w1 hw1
            go_wp2
            go_ret
            exact ⟨by rw [HR.out, HO.out]; rfl, bel_trans hbW hw1⟩
    · have hke : k = es.length := by omega
      have hkk : ¬ ((k : Int) < es.length) := by omega
      have HO : Hid ((List.range es.length).all (okAt n es) = true) := Lib.hid (by rw [← hke]; exact hall)
      clear hall hke
      go_wp2
      go_ret
      exact ⟨by rw [HR.out, HO.out]; rfl, hbel⟩
end Go.Proofs.Ytlgjcofpdaljnaa
namespace Go.Proofs.Ytlgjcofpdaljnaa
open Go.RowKit Go.BigFrame
set_option linter.unusedVariables false
set_option linter.unusedSimpArgs false

/-- The model's order of edges. -/
def sLess (a b c d : Int) : Bool := decide (a < c) || (decide (a = c) && decide (b < d))
theorem sLess_eq (a b c d : Int) : sLess a b c d = decide (cEnds a b c d < 0) := by
  unfold sLess cEnds cOr cInt
  by_cases h1 : a < c
  · simp [h1]
  · by_cases h2 : c < a
    · have : ¬ a = c := by omega
      simp [h1, h2, this]
    · have : a = c := by omega
      subst this
      by_cases h3 : b < d
      · simp [h3]
      · by_cases h4 : d < b <;> simp [h3, h4]

theorem sWeightG (x : Int) (w : World) :
    Calls Try.prog 113 #[.int .i64 x] w fun e w' => e = .returned (.bool (decide (1 ≤ x) && decide (x ≤ 999))) ∧ Below w.heap.size w w' := by
  by_cases h : 1 ≤ x
  · have hd : decide (1 ≤ x) = true := by simpa using h
    rw [hd]
    go_enter Try.func113, Try.ntmps113
    go_wp2
    go_ret
    exact ⟨by simp, Below.refl _ _⟩
  · have hd : decide (1 ≤ x) = false := by simpa using h
    rw [hd]
    go_enter Try.func113, Try.ntmps113
    go_wp2
    go_ret
    exact ⟨by simp, Below.refl _ _⟩

theorem l2Less (a b p c d q : Int) (w : World) :
    Calls Try.prog 114 #[.agg #[.int .i64 a, .int .i64 b, .int .i64 p], .agg #[.int .i64 c, .int .i64 d, .int .i64 q]] w fun e w' => e = .returned (.bool (sLess a b c d)) ∧ Below w.heap.size w w' := by
  by_cases h : a < c
  · have e0 : sLess a b c d = true := by simp [sLess, h]
    rw [e0]
    clear e0
    go_enter Try.func114, Try.ntmps114
    go_wp2
    go_ret
    exact ⟨rfl, ((Below.refl _ _).alloc (Nat.le_refl _) _).alloc (by simp) _⟩
  · by_cases h2 : a = c
    · subst h2
      have e0 : sLess a b a d = decide (b < d) := by simp [sLess]
      rw [e0]
      clear e0 h
      go_enter Try.func114, Try.ntmps114
      go_wp2
      go_ret
      exact ⟨rfl, ((Below.refl _ _).alloc (Nat.le_refl _) _).alloc (by simp) _⟩
    · have e0 : sLess a b c d = false := by simp [sLess, h, h2]
      rw [e0]
      clear e0
      have hd : decide (a = c) = false := by simpa using h2
      go_enter Try.func114, Try.ntmps114
      go_wp2
      go_ret
      exact ⟨rfl, ((Below.refl _ _).alloc (Nat.le_refl _) _).alloc (by simp) _⟩

set_option maxHeartbeats 4000000 in
theorem sGraphValid (n : Int) (es : List Ed) (s : Value) (w : World) (hr : RowE w s es) (hl : es.length ≤ 281474976710656) :
    Calls Try.prog 85 #[.agg #[.int .i64 n, s]] w fun e w' => e = .returned (.bool (gVal n es)) ∧ Below w.heap.size w w' := by
  obtain ⟨a, cap, rfl, hz0⟩ := hr
  have hz := Lib.hid hz0
  clear hz0
  by_cases hn : n < 1 ∨ 12 < n ∨ 40 < (es.length : Int)
  · rw [gVal_small hn]
    by_cases hn1 : n < 1
    · go_enter Try.func85, Try.ntmps85
      go_wp2
      go_ret
      exact ⟨rfl, (Below.refl _ _).alloc (Nat.le_refl _) _⟩
    by_cases hn2 : 12 < n
    · go_enter Try.func85, Try.ntmps85
      go_wp2
      go_ret
      exact ⟨rfl, (Below.refl _ _).alloc (Nat.le_refl _) _⟩
    have hn3 : 40 < (es.length : Int) := by omega
    clear hn
    go_enter Try.func85, Try.ntmps85
    go_wp2
    go_ret
    exact ⟨rfl, (Below.refl _ _).alloc (Nat.le_refl _) _⟩
  have hn1 : ¬ n < 1 := by omega
  have hn2 : ¬ 12 < n := by omega
  have hn3 : ¬ 40 < (es.length : Int) := by omega
  clear hn
  have d1 : decide (n < 1) = false := by simpa using hn1
  have d2 : decide (12 < n) = false := by simpa using hn2
  have d3 : decide (40 < (es.length : Int)) = false := by simpa using hn3
  rw [gVal_mid hn1 hn2 hn3]
  clear hn1 hn2 hn3
  obtain ⟨R, hR⟩ : ∃ R, R = (List.range es.length).all (okAt n es) := ⟨_, rfl⟩
  rw [← hR]
  have HR := Lib.hid hR
  clear hR
  go_enter Try.func85, Try.ntmps85
  go_wp2
  go_loopw [3] (fun c wr => ∃ k : Nat, k ≤ es.length ∧ c = .int .i64 k ∧ (List.range k).all (okAt n es) = true ∧ Below w.heap.size w wr ∧ wr.cell? ⟨w.heap.size, 0, none⟩ = some (.int .i64 n) ∧ wr.cell? ⟨w.heap.size, 1, none⟩ = some (.slice a es.length cap) ∧ w.heap.size < wr.heap.size) (fun c _ => es.length - (intOf c).toNat)
  case atStart => exact ⟨0, Nat.zero_le _, rfl, rfl, (Below.refl _ _).alloc (Nat.le_refl _) _, by go_simp, by go_simp, by simp⟩
  case round =>
    obtain ⟨k, hk, rfl, hall, hbel, hn, hs, hsz⟩ := hrel
    by_cases hlt : k < es.length
    · have hlt' : (k : Int) < es.length := by omega
      rcases hz.out with h0 | ⟨b, off, rfl, hb, hc⟩
      · rw [h0] at hlt; simp at hlt
      obtain ⟨x, y, z, hx⟩ : ∃ x y z, (x, y, z) = es.getD k (0, 0, 0) := ⟨_, _, _, rfl⟩
      obtain ⟨c0, c1, c2⟩ := hc k hlt
      rw [← hbel.cell (p := ⟨b, _, none⟩) hb, ← hx] at c0 c1 c2
      simp only at c0 c1 c2
      have ff : ∀ w', Below (wr.alloc (Obj.cells #[.int .i64 x, .int .i64 y, .int .i64 z] 67)).heap.size (wr.alloc (Obj.cells #[.int .i64 x, .int .i64 y, .int .i64 z] 67)) w' → w'.cell? ⟨w.heap.size, 0, none⟩ = some (.int .i64 n) ∧ w'.cell? ⟨w.heap.size, 1, none⟩ = some (.slice (some ⟨b, off, none⟩) es.length cap) ∧
          w'.cell? ⟨wr.heap.size, 0, none⟩ = some (.int .i64 x) ∧ w'.cell? ⟨wr.heap.size, 1, none⟩ = some (.int .i64 y) ∧ w'.cell? ⟨wr.heap.size, 2, none⟩ = some (.int .i64 z) := by
        intro w' h
        refine ⟨(h.cell (by simp <;> omega)).trans ?_, (h.cell (by simp <;> omega)).trans ?_, (h.cell (by simp)).trans ?_, (h.cell (by simp)).trans ?_, (h.cell (by simp)).trans ?_⟩ <;> go_simp
      have FF := Lib.hid ff
      have hbW : Below w.heap.size w (wr.alloc (Obj.cells #[.int .i64 x, .int .i64 y, .int .i64 z] 67)) := hbel.alloc (by omega) _
      have hsW : w.heap.size < (wr.alloc (Obj.cells #[.int .i64 x, .int .i64 y, .int .i64 z] 67)).heap.size := by simp; omega
      have hf0 := fun w => sWeightG z w
      have HA := Lib.hid hall
      have HX := Lib.hid hx
      have HC := Lib.hid hc
      clear hc hall hx ff
      cases hf : eFits n x y z
      · have HO := Lib.hid (okAll_false hlt (okAt_fits HX.out hf))
        by_cases q0 : x < 0
        · have d4 : decide (x < 0) = true := by simpa using q0
          have HF := Lib.hid hf0
          clear hf0 hf q0
          go_wp2
          generalize (wr.alloc (Obj.cells #[.int .i64 x, .int .i64 y, .int .i64 z] 67)) = W1 at FF hbW hsW ⊢
          refine wp_region_below (by kernel_rfl) (by kernel_rfl) ?_
          repeat (go_big_quiet_step ((intro hw; first | with_reducible rfl | (obtain ⟨f0, f1, g0, g1, g2⟩ := FF.out _ hw; simp only [g0, Result.andThen]; first | exact ⟨trivial, rfl⟩ | exact ⟨rfl, rfl⟩) | (go_at_call 113; exact quietB (HF.out _) hw))))
          refine wpQuiet_nil ?_
          intro w1 hw1
          go_wp2
          go_ret
          exact ⟨by rw [HR.out, HO.out]; rfl, bel_trans hbW hw1⟩
        have d4 : decide (x < 0) = false := by simpa using q0
        by_cases q1 : n ≤ x
        · have d5 : decide (n ≤ x) = true := by simpa using q1
          have HF := Lib.hid hf0
          clear hf0 hf q1
          go_wp2
          generalize (wr.alloc (Obj.cells #[.int .i64 x, .int .i64 y, .int .i64 z] 67)) = W1 at FF hbW hsW ⊢
          refine wp_region_below (by kernel_rfl) (by kernel_rfl) ?_
          repeat (go_big_quiet_step ((intro hw; first | with_reducible rfl | (obtain ⟨f0, f1, g0, g1, g2⟩ := FF.out _ hw; simp only [f0, g0, Result.andThen]; first | exact ⟨trivial, rfl⟩ | exact ⟨rfl, rfl⟩) | (go_at_call 113; exact quietB (HF.out _) hw))))
          refine wpQuiet_nil ?_
          intro w1 hw1
          go_wp2
          go_ret
          exact ⟨by rw [HR.out, HO.out]; rfl, bel_trans hbW hw1⟩
        have d5 : decide (n ≤ x) = false := by simpa using q1
        by_cases q2 : y < 0
        · have d6 : decide (y < 0) = true := by simpa using q2
          have HF := Lib.hid hf0
          clear hf0 hf q2
          go_wp2
          generalize (wr.alloc (Obj.cells #[.int .i64 x, .int .i64 y, .int .i64 z] 67)) = W1 at FF hbW hsW ⊢
          refine wp_region_below (by kernel_rfl) (by kernel_rfl) ?_
          repeat (go_big_quiet_step ((intro hw; first | with_reducible rfl | (obtain ⟨f0, f1, g0, g1, g2⟩ := FF.out _ hw; simp only [f0, g0, g1, Result.andThen]; first | exact ⟨trivial, rfl⟩ | exact ⟨rfl, rfl⟩) | (go_at_call 113; exact quietB (HF.out _) hw))))
          refine wpQuiet_nil ?_
          intro w1 hw1
          go_wp2
          go_ret
          exact ⟨by rw [HR.out, HO.out]; rfl, bel_trans hbW hw1⟩
        have d6 : decide (y < 0) = false := by simpa using q2
        by_cases q3 : n ≤ y
        · have d7 : decide (n ≤ y) = true := by simpa using q3
          have HF := Lib.hid hf0
          clear hf0 hf q3
          go_wp2
          generalize (wr.alloc (Obj.cells #[.int .i64 x, .int .i64 y, .int .i64 z] 67)) = W1 at FF hbW hsW ⊢
          refine wp_region_below (by kernel_rfl) (by kernel_rfl) ?_
          repeat (go_big_quiet_step ((intro hw; first | with_reducible rfl | (obtain ⟨f0, f1, g0, g1, g2⟩ := FF.out _ hw; simp only [f0, g0, g1, Result.andThen]; first | exact ⟨trivial, rfl⟩ | exact ⟨rfl, rfl⟩) | (go_at_call 113; exact quietB (HF.out _) hw))))
          refine wpQuiet_nil ?_
          intro w1 hw1
          go_wp2
          go_ret
          exact ⟨by rw [HR.out, HO.out]; rfl, bel_trans hbW hw1⟩
        have d7 : decide (n ≤ y) = false := by simpa using q3
        by_cases q4 : x = y
        · have d8 : decide (x = y) = true := by simpa using q4
          have d9 : (x == y) = true := by simpa using q4
          have HF := Lib.hid hf0
          clear hf0 hf q4
          go_wp2
          generalize (wr.alloc (Obj.cells #[.int .i64 x, .int .i64 y, .int .i64 z] 67)) = W1 at FF hbW hsW ⊢
          refine wp_region_below (by kernel_rfl) (by kernel_rfl) ?_
          repeat (go_big_quiet_step ((intro hw; first | with_reducible rfl | (obtain ⟨f0, f1, g0, g1, g2⟩ := FF.out _ hw; simp only [f0, g0, g1, Result.andThen]; first | exact ⟨trivial, rfl⟩ | exact ⟨rfl, rfl⟩) | (go_at_call 113; exact quietB (HF.out _) hw))))
          refine wpQuiet_nil ?_
          intro w1 hw1
          go_wp2
          go_ret
          exact ⟨by rw [HR.out, HO.out]; rfl, bel_trans hbW hw1⟩
        have d8 : decide (x = y) = false := by simpa using q4
        have d9 : (x == y) = false := by simpa using q4
        have hw0 : (decide (1 ≤ z) && decide (z ≤ 999)) = false := by
          have e1 : decide (0 ≤ x) = true := by simp; omega
          have e2 : decide (x < n) = true := by simp; omega
          have e3 : decide (0 ≤ y) = true := by simp; omega
          have e4 : decide (y < n) = true := by simp; omega
          have e5 : decide (x ≠ y) = true := by simpa using q4
          unfold eFits at hf
          rw [e1, e2, e3, e4, e5] at hf
          simpa using hf
        rw [hw0] at hf0
        have HF := Lib.hid hf0
        clear hf0 hf q0 q1 q2 q3 q4 hw0
        go_wp2
        generalize (wr.alloc (Obj.cells #[.int .i64 x, .int .i64 y, .int .i64 z] 67)) = W1 at FF hbW hsW ⊢
        refine wp_region_below (by kernel_rfl) (by kernel_rfl) ?_
        repeat (go_big_quiet_step ((intro hw; first | with_reducible rfl | (obtain ⟨f0, f1, g0, g1, g2⟩ := FF.out _ hw; simp only [f0, g0, g1, g2, Result.andThen]; first | exact ⟨trivial, rfl⟩ | exact ⟨rfl, rfl⟩) | (go_at_call 113; exact quietB (HF.out _) hw))))
        refine wpQuiet_nil ?_
        intro w1 hw1
        go_wp2
        go_ret
        exact ⟨by rw [HR.out, HO.out]; rfl, bel_trans hbW hw1⟩
      · have hfits : x < n ∧ 0 ≤ x ∧ y < n ∧ 0 ≤ y ∧ x ≠ y ∧ (decide (1 ≤ z) && decide (z ≤ 999)) = true := by
          simp only [eFits, Bool.and_eq_true, decide_eq_true_eq] at hf ⊢
          omega
        obtain ⟨q0, q1, q2, q3, q4, q5⟩ := hfits
        have d4 : decide (x < 0) = false := by simp; omega
        have d5 : decide (n ≤ x) = false := by simp; omega
        have d6 : decide (y < 0) = false := by simp; omega
        have d7 : decide (n ≤ y) = false := by simp; omega
        have d8 : decide (x = y) = false := by simpa using q4
        have d9 : (x == y) = false := by simpa using q4
        rw [q5] at hf0
        have HF := Lib.hid hf0
        clear hf0 q0 q1 q2 q3 q4 q5
        match k, hk, HA, HX, hlt, hlt', c0, c1, c2 with
        | 0, hk, HA, HX, hlt, hlt', c0, c1, c2 =>
          have hok := Lib.hid (okAt_zero HX.out hf)
          simp only [Nat.zero_mul, Nat.add_zero] at c0 c1 c2
          clear hf
          go_wp2
          generalize (wr.alloc (Obj.cells #[.int .i64 x, .int .i64 y, .int .i64 z] 67)) = W1 at FF hbW hsW ⊢
          refine wp_region_below (by kernel_rfl) (by kernel_rfl) ?_
          repeat (go_big_quiet_step ((intro hw; first | with_reducible rfl | (obtain ⟨f0, f1, g0, g1, g2⟩ := FF.out _ hw; simp only [f0, g0, g1, g2, Result.andThen]; first | exact ⟨trivial, rfl⟩ | exact ⟨rfl, rfl⟩) | (go_at_call 113; exact quietB (HF.out _) hw))))
          refine wpQuiet_nil ?_
          intro w1 hw1
          obtain ⟨k0, k1, -⟩ := FF.out _ hw1
          have hsz1 : w.heap.size < w1.heap.size := Nat.lt_of_lt_of_le hsW hw1.size
          go_wp2
          go_roundw
          case rel => first | exact ⟨1, by omega, by go_num, by rw [okAll_snoc, HA.out, hok.out]; rfl, bel_trans hbW hw1, k0, k1, hsz1⟩ | ((repeat apply Exists.intro); exact ⟨⟨1, by omega, by go_num, by rw [okAll_snoc, HA.out, hok.out]; rfl, bel_trans hbW hw1, k0, k1, hsz1⟩, rfl⟩)
          case measure => simp [intOf]; omega
        | k + 1, hk, HA, HX, hlt, hlt', c0, c1, c2 =>
          obtain ⟨p, q, r, hp⟩ : ∃ p q r, (p, q, r) = es.getD k (0, 0, 0) := ⟨_, _, _, rfl⟩
          have hcp := HC.out k (by omega)
          rw [← hp] at hcp
          simp only at hcp
          have mm : ∀ w', Below (wr.alloc (Obj.cells #[.int .i64 x, .int .i64 y, .int .i64 z] 67)).heap.size (wr.alloc (Obj.cells #[.int .i64 x, .int .i64 y, .int .i64 z] 67)) w' → w'.cell? ⟨b, off + k * 3, none⟩ = some (.int .i64 p) ∧ w'.cell? ⟨b, off + k * 3 + 1, none⟩ = some (.int .i64 q) ∧ w'.cell? ⟨b, off + k * 3 + 2, none⟩ = some (.int .i64 r) := by
            intro w' h
            have hB := bel_trans hbW h
            exact ⟨(hB.cell (p := ⟨b, _, none⟩) hb).trans hcp.1, (hB.cell (p := ⟨b, _, none⟩) hb).trans hcp.2.1, (hB.cell (p := ⟨b, _, none⟩) hb).trans hcp.2.2⟩
          have MM := Lib.hid mm
          have ok := okAt_succ HX.out hp hf
          have HP := Lib.hid hp
          clear mm hcp hp
          by_cases hcm : cEnds p q x y < 0
          · have hl0 : ∀ w, Calls Try.prog 114 #[.agg #[.int .i64 p, .int .i64 q, .int .i64 r], .agg #[.int .i64 x, .int .i64 y, .int .i64 z]] w fun e w' => e = .returned (.bool true) ∧ Below w.heap.size w w' := fun w => by have h := l2Less p q r x y z w; rw [sLess_eq, decide_eq_true hcm] at h; exact h
            have HL := Lib.hid hl0
            clear hl0
            have hok : Hid (okAt n es (k + 1) = true) := Lib.hid (by rw [ok]; simpa using hcm)
            clear ok hcm hf
            go_wp2
            generalize (wr.alloc (Obj.cells #[.int .i64 x, .int .i64 y, .int .i64 z] 67)) = W1 at FF MM hbW hsW ⊢
            refine wp_region_below (by kernel_rfl) (by kernel_rfl) ?_
            repeat (go_big_quiet_step ((intro hw; first | with_reducible rfl | (obtain ⟨f0, f1, g0, g1, g2⟩ := FF.out _ hw; obtain ⟨m0, m1, m2⟩ := MM.out _ hw; simp only [f0, f1, g0, g1, g2, m0, m1, m2, Result.andThen]; first | exact ⟨trivial, rfl⟩ | exact ⟨rfl, rfl⟩) | (go_at_call 113; exact quietB (HF.out _) hw) | (go_at_call 114; exact quietB (HL.out _) hw))))
            refine wpQuiet_nil ?_
            intro w1 hw1
            obtain ⟨k0, k1, -⟩ := FF.out _ hw1
            have hsz1 : w.heap.size < w1.heap.size := Nat.lt_of_lt_of_le hsW hw1.size
            go_wp2
            go_roundw
            case rel => first | exact ⟨k + 2, by omega, by go_num, by rw [okAll_snoc, HA.out, hok.out]; rfl, bel_trans hbW hw1, k0, k1, hsz1⟩ | ((repeat apply Exists.intro); exact ⟨⟨k + 2, by omega, by go_num, by rw [okAll_snoc, HA.out, hok.out]; rfl, bel_trans hbW hw1, k0, k1, hsz1⟩, rfl⟩)
            case measure => simp [intOf]; omega
          · have hl0 : ∀ w, Calls Try.prog 114 #[.agg #[.int .i64 p, .int .i64 q, .int .i64 r], .agg #[.int .i64 x, .int .i64 y, .int .i64 z]] w fun e w' => e = .returned (.bool false) ∧ Below w.heap.size w w' := fun w => by have h := l2Less p q r x y z w; rw [sLess_eq, decide_eq_false hcm] at h; exact h
            have HL := Lib.hid hl0
            clear hl0
            have HO := Lib.hid (okAll_false hlt (by rw [ok]; simpa using hcm : okAt n es (k + 1) = false))
            clear ok hcm hf
            go_wp2
            generalize (wr.alloc (Obj.cells #[.int .i64 x, .int .i64 y, .int .i64 z] 67)) = W1 at FF MM hbW hsW ⊢
            refine wp_region_below (by kernel_rfl) (by kernel_rfl) ?_
            repeat (go_big_quiet_step ((intro hw; first | with_reducible rfl | (obtain ⟨f0, f1, g0, g1, g2⟩ := FF.out _ hw; obtain ⟨m0, m1, m2⟩ := MM.out _ hw; simp only [f0, f1, g0, g1, g2, m0, m1, m2, Result.andThen]; first | exact ⟨trivial, rfl⟩ | exact ⟨rfl, rfl⟩) | (go_at_call 113; exact quietB (HF.out _) hw) | (go_at_call 114; exact quietB (HL.out _) hw))))
            refine wpQuiet_nil ?_
            intro w1 hw1
            go_wp2
            go_ret
            exact ⟨by rw [HR.out, HO.out]; rfl, bel_trans hbW hw1⟩
    · have hke : k = es.length := by omega
      have hkk : ¬ ((k : Int) < es.length) := by omega
      have HO : Hid ((List.range es.length).all (okAt n es) = true) := Lib.hid (by rw [← hke]; exact hall)
      clear hall hke
      go_wp2
      go_ret
      exact ⟨by rw [HR.out, HO.out]; rfl, hbel⟩
end Go.Proofs.Ytlgjcofpdaljnaa
