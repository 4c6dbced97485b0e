/- The product of two matrices: in the model. -/
import Derived.Test.YtjpikbbpmbeckaaMkG
import Derived.Test.YtjpikbbpmbeckaaMatW
namespace Go.Proofs.Ytjpikbbpmbeckaa
open Go.RowKit Go.BigFrame Go.Deep
set_option linter.unusedVariables false
set_option linter.unusedSimpArgs false

theorem box2 {w : World} {B : Nat} {t : TypeId} {x y : Value} (h : Box w B t #[x, y]) : w.cell? ⟨B, 0, none⟩ = some x ∧ w.cell? ⟨B, 1, none⟩ = some y ∧ w.frozen? ⟨B, 0, none⟩ = false ∧ w.frozen? ⟨B, 1, none⟩ = false ∧ B < w.heap.size :=
  ⟨by rw [h.cell]; rfl, by rw [h.cell]; rfl, h.frozen 0, h.frozen 1, h.lt⟩
theorem cells_new1' (w : World) (p : Value) (t : TypeId) : ∀ j u, [p][j]? = some u → (w.alloc (.cells #[p] t)).cell? (Addr.add ⟨w.heap.size, 0, none⟩ j) = some u := fun j u h => cells_new1 w p t j u h
/-- What holds at each row. -/
structure TInv (w : World) (bo : Nat) (m m2 : Int) (sa sb : Value) (Z : List (List Int)) (i : Nat) (wr : World) : Prop where
  bel : Below w.heap.size w wr
  a : Box wr w.heap.size 33 #[.int .i64 m, sa]
  b : Box wr (w.heap.size + 1) 33 #[.int .i64 m2, sb]
  r : Box wr (w.heap.size + 1 + 1) 33 #[.int .i64 0, .slice none 0 0]
  o : ∃ v, Box wr bo 33 #[.int .i64 m, v] ∧ MkG wr w.heap.size v Z i
theorem TInv.keep {w : World} {bo : Nat} {m m2 : Int} {sa sb : Value} {Z : List (List Int)} {i : Nat} {wr wr' : World} (h : TInv w bo m m2 sa sb Z i wr) (hb : Below wr.heap.size wr wr') : TInv w bo m m2 sa sb Z i wr' := by
  obtain ⟨v, h1, h2⟩ := h.o
  exact ⟨bel_trans h.bel hb, h.a.keep hb, h.b.keep hb, h.r.keep hb, v, h1.keep hb, h2.keep hb⟩
theorem tmRow_at (m : Int) (arow : List Int) (bz : List (List Int)) (N j : Nat) {k : Nat} (hk : k < N) : (tmRow m arow bz N (j + 1)).getD k 0 = mBest m ((tmRow m arow bz N j).getD k 0) (mJoin m (arow.getD j 0) ((bz.getD j []).getD k 0)) := by
  show (impr _ _ _ _).getD k 0 = _
  rw [impr_at _ _ _ _ (by rw [tmRow_len]; exact hk)]
theorem tmRow_at0 (m : Int) (arow : List Int) (bz : List (List Int)) (N : Nat) {k : Nat} (hk : k < N) : (tmRow m arow bz N 0).getD k 0 = mNone m := by simp [tmRow, List.getD, hk]

set_option maxRecDepth 20000 in
set_option maxHeartbeats 2000000 in
theorem sTimesMatrix (m m2 : Int) (z z2 : List (List Int)) (s t : Value) (w : World) (hs : Grid w s z) (ht : Grid w t z2) (hl : z.length ≤ 281474976710656) (hl2 : ∀ i, i < z.length → (z.getD i []).length ≤ 281474976710656) (hk : z2.length ≤ 281474976710656) (hk2 : ∀ i, i < z2.length → (z2.getD i []).length ≤ 281474976710656) :
    Calls Try.prog 31 #[.agg #[.int .i64 m, s], .agg #[.int .i64 m2, t]] w fun e w' => ∃ v, e = .returned (.tuple #[.agg #[.int .i64 (rM (tOk m z m2 z2) m), v], .bool (tOk m z m2 z2)]) ∧ OwnG w' w.heap.size w'.heap.size v (rL (tOk m z m2 z2) (tmL m z z2 z.length)) ∧ Below w.heap.size w w' := by
  have hB : ∀ (A B C : Obj), Below w.heap.size w (((w.alloc A).alloc B).alloc C) := fun A B C => (((Below.refl _ _).alloc (Nat.le_refl _) _).alloc (by simp) _).alloc (by simp; omega) _
  obtain ⟨ad, cap, rfl, hz0⟩ := id hs
  obtain ⟨ad2, cap2, rfl, hz02⟩ := id ht
  have hmv1 := fun w' (h : Below w.heap.size w w') => sMatrixValid m z _ w' (hs.keep h) hl hl2
  have hmv := fun w' (h : Below w.heap.size w w') => sMatrixValid m2 z2 _ w' (ht.keep h) hk hk2
  obtain ⟨V, hV⟩ : ∃ V, V = mVal m z := ⟨_, rfl⟩
  obtain ⟨V2, hV2⟩ : ∃ V, V = mVal m2 z2 := ⟨_, rfl⟩
  rw [← hV] at hmv1
  rw [← hV2] at hmv
  obtain ⟨R, hR⟩ : ∃ R, R = tOk m z m2 z2 := ⟨_, rfl⟩
  rw [← hR]
  have HR := Lib.hid hR
  have HO := Lib.hid hmv1
  have HMV := Lib.hid hmv
  have HB := Lib.hid hB
  have HV := Lib.hid hV
  have HV2 := Lib.hid hV2
  have hz := Lib.hid hz0
  have hy := Lib.hid hz02
  clear hz0 hz02 hs ht hl2 hk2 hmv1 hmv hB hV hV2 hR
  have e1 : rM false m = 0 := rfl
  have e2 : rL false (tmL m z z2 z.length) = [] := rfl
  cases V
  · have e0 : R = false := by rw [HR.out]; unfold tOk; rw [← HV.out]; rfl
    rw [e0, e1, e2]
    clear e0 e1 e2
    go_enter Try.func31, Try.ntmps31
    go_wp2_with (first | (go_at_call 28; with_reducible refine (HO.out _ (HB.out _ _ _)).mono ?_; rintro e w1 ⟨rfl, hb1⟩; have g1 : w.heap.size + 1 + 1 < w1.heap.size := Nat.lt_of_lt_of_le (by simp) hb1.size; have x00 := (hb1.cell (p := ⟨w.heap.size, 0, none⟩) (by simp <;> omega)); have x01 := (hb1.cell (p := ⟨w.heap.size, 1, none⟩) (by simp <;> omega)); have x10 := (hb1.cell (p := ⟨w.heap.size + 1, 0, none⟩) (by simp <;> omega)); have x11 := (hb1.cell (p := ⟨w.heap.size + 1, 1, none⟩) (by simp <;> omega)); have x20 := (hb1.cell (p := ⟨w.heap.size + 1 + 1, 0, none⟩) (by simp <;> omega)); have x21 := (hb1.cell (p := ⟨w.heap.size + 1 + 1, 1, none⟩) (by simp <;> omega)); have xf0 := (hb1.frozen (p := ⟨w.heap.size + 1 + 1, 0, none⟩) (by simp <;> omega)); have xf1 := (hb1.frozen (p := ⟨w.heap.size + 1 + 1, 1, none⟩) (by simp <;> omega))))
    try simp only [Exit.inBlock, Exit.then]
    refine bodyPost_ret (v := .tuple #[.agg #[.int .i64 0, .slice none 0 0], .bool false]) ?_ rfl ?_
    · rw [results_cell_tmp rfl]
      go_simp
    exact ⟨_, rfl, OwnG.nil _ _ _, ((bel_trans (HB.out _ _ _) hb1).setCell (by simp <;> omega) _).setCell (by simp <;> omega) _⟩
  cases V2
  · have e0 : R = false := by rw [HR.out]; unfold tOk; rw [← HV2.out]; simp
    rw [e0, e1, e2]
    clear e0 e1 e2
    go_enter Try.func31, Try.ntmps31
    go_wp2_with (first | (go_at_call 28; with_reducible refine (HO.out _ (HB.out _ _ _)).mono ?_; rintro e w1 ⟨rfl, hb1⟩; have g1 : w.heap.size + 1 + 1 < w1.heap.size := Nat.lt_of_lt_of_le (by simp) hb1.size; have x00 := (hb1.cell (p := ⟨w.heap.size, 0, none⟩) (by simp <;> omega)); have x01 := (hb1.cell (p := ⟨w.heap.size, 1, none⟩) (by simp <;> omega)); have x10 := (hb1.cell (p := ⟨w.heap.size + 1, 0, none⟩) (by simp <;> omega)); have x11 := (hb1.cell (p := ⟨w.heap.size + 1, 1, none⟩) (by simp <;> omega)); have x20 := (hb1.cell (p := ⟨w.heap.size + 1 + 1, 0, none⟩) (by simp <;> omega)); have x21 := (hb1.cell (p := ⟨w.heap.size + 1 + 1, 1, none⟩) (by simp <;> omega)); have xf0 := (hb1.frozen (p := ⟨w.heap.size + 1 + 1, 0, none⟩) (by simp <;> omega)); have xf1 := (hb1.frozen (p := ⟨w.heap.size + 1 + 1, 1, none⟩) (by simp <;> omega))) | (go_at_call 28; with_reducible refine (HMV.out _ (bel_trans (HB.out _ _ _) hb1)).mono ?_; rintro e w2 ⟨rfl, hb2⟩; have g2 : w.heap.size + 1 + 1 < w2.heap.size := Nat.lt_of_lt_of_le g1 hb2.size; have y00 := (hb2.cell (p := ⟨w.heap.size, 0, none⟩) (by simp only; omega)).trans x00; have y01 := (hb2.cell (p := ⟨w.heap.size, 1, none⟩) (by simp only; omega)).trans x01; have y10 := (hb2.cell (p := ⟨w.heap.size + 1, 0, none⟩) (by simp only; omega)).trans x10; have y11 := (hb2.cell (p := ⟨w.heap.size + 1, 1, none⟩) (by simp only; omega)).trans x11; have y20 := (hb2.cell (p := ⟨w.heap.size + 1 + 1, 0, none⟩) (by simp only; omega)).trans x20; have y21 := (hb2.cell (p := ⟨w.heap.size + 1 + 1, 1, none⟩) (by simp only; omega)).trans x21; have yf0 := (hb2.frozen (p := ⟨w.heap.size + 1 + 1, 0, none⟩) (by simp only; omega)).trans xf0; have yf1 := (hb2.frozen (p := ⟨w.heap.size + 1 + 1, 1, none⟩) (by simp only; omega)).trans xf1))
    try simp only [Exit.inBlock, Exit.then]
    refine bodyPost_ret (v := .tuple #[.agg #[.int .i64 0, .slice none 0 0], .bool false]) ?_ rfl ?_
    · rw [results_cell_tmp rfl]
      go_simp
    exact ⟨_, rfl, OwnG.nil _ _ _, ((bel_trans (bel_trans (HB.out _ _ _) hb1) hb2).setCell (by simp <;> omega) _).setCell (by simp <;> omega) _⟩
  by_cases hmm : m = m2
  rotate_left
  · have e0 : R = false := by rw [HR.out]; unfold tOk; have : decide (m = m2) = false := by simpa using hmm
                              rw [this]; simp
    have d1 : (m != m2) = true := by simpa using hmm
    have d2 : (m == m2) = false := by simpa using hmm
    rw [e0, e1, e2]
    clear e0 e1 e2
    go_enter Try.func31, Try.ntmps31
    go_wp2_with (first | (go_at_call 28; with_reducible refine (HO.out _ (HB.out _ _ _)).mono ?_; rintro e w1 ⟨rfl, hb1⟩; have g1 : w.heap.size + 1 + 1 < w1.heap.size := Nat.lt_of_lt_of_le (by simp) hb1.size; have x00 := (hb1.cell (p := ⟨w.heap.size, 0, none⟩) (by simp <;> omega)); have x01 := (hb1.cell (p := ⟨w.heap.size, 1, none⟩) (by simp <;> omega)); have x10 := (hb1.cell (p := ⟨w.heap.size + 1, 0, none⟩) (by simp <;> omega)); have x11 := (hb1.cell (p := ⟨w.heap.size + 1, 1, none⟩) (by simp <;> omega)); have x20 := (hb1.cell (p := ⟨w.heap.size + 1 + 1, 0, none⟩) (by simp <;> omega)); have x21 := (hb1.cell (p := ⟨w.heap.size + 1 + 1, 1, none⟩) (by simp <;> omega)); have xf0 := (hb1.frozen (p := ⟨w.heap.size + 1 + 1, 0, none⟩) (by simp <;> omega)); have xf1 := (hb1.frozen (p := ⟨w.heap.size + 1 + 1, 1, none⟩) (by simp <;> omega))) | (go_at_call 28; with_reducible refine (HMV.out _ (bel_trans (HB.out _ _ _) hb1)).mono ?_; rintro e w2 ⟨rfl, hb2⟩; have g2 : w.heap.size + 1 + 1 < w2.heap.size := Nat.lt_of_lt_of_le g1 hb2.size; have y00 := (hb2.cell (p := ⟨w.heap.size, 0, none⟩) (by simp only; omega)).trans x00; have y01 := (hb2.cell (p := ⟨w.heap.size, 1, none⟩) (by simp only; omega)).trans x01; have y10 := (hb2.cell (p := ⟨w.heap.size + 1, 0, none⟩) (by simp only; omega)).trans x10; have y11 := (hb2.cell (p := ⟨w.heap.size + 1, 1, none⟩) (by simp only; omega)).trans x11; have y20 := (hb2.cell (p := ⟨w.heap.size + 1 + 1, 0, none⟩) (by simp only; omega)).trans x20; have y21 := (hb2.cell (p := ⟨w.heap.size + 1 + 1, 1, none⟩) (by simp only; omega)).trans x21; have yf0 := (hb2.frozen (p := ⟨w.heap.size + 1 + 1, 0, none⟩) (by simp only; omega)).trans xf0; have yf1 := (hb2.frozen (p := ⟨w.heap.size + 1 + 1, 1, none⟩) (by simp only; omega)).trans xf1))
    try simp only [Exit.inBlock, Exit.then]
    refine bodyPost_ret (v := .tuple #[.agg #[.int .i64 0, .slice none 0 0], .bool false]) ?_ rfl ?_
    · rw [results_cell_tmp rfl]
      go_simp
    exact ⟨_, rfl, OwnG.nil _ _ _, ((bel_trans (bel_trans (HB.out _ _ _) hb1) hb2).setCell (by simp <;> omega) _).setCell (by simp <;> omega) _⟩
  by_cases hnn : z.length = z2.length
  rotate_left
  · have e0 : R = false := by rw [HR.out]; unfold tOk; have : decide (z.length = z2.length) = false := by simpa using hnn
                              rw [this]; simp
    have d1 : (m != m2) = false := by simpa using hmm
    have d2 : (m == m2) = true := by simpa using hmm
    have d3 : ((z.length : Int) != z2.length) = true := by simp; omega
    have d4 : ((z.length : Int) == z2.length) = false := by simp; omega
    have d5 : ¬ ((z.length : Int) = z2.length) := by omega
    have HNN := Lib.hid hnn
    clear hnn hmm
    rw [e0, e1, e2]
    clear e0 e1 e2
    go_enter Try.func31, Try.ntmps31
    go_wp2_with (first | (go_at_call 28; with_reducible refine (HO.out _ (HB.out _ _ _)).mono ?_; rintro e w1 ⟨rfl, hb1⟩; have g1 : w.heap.size + 1 + 1 < w1.heap.size := Nat.lt_of_lt_of_le (by simp) hb1.size; have x00 := (hb1.cell (p := ⟨w.heap.size, 0, none⟩) (by simp <;> omega)); have x01 := (hb1.cell (p := ⟨w.heap.size, 1, none⟩) (by simp <;> omega)); have x10 := (hb1.cell (p := ⟨w.heap.size + 1, 0, none⟩) (by simp <;> omega)); have x11 := (hb1.cell (p := ⟨w.heap.size + 1, 1, none⟩) (by simp <;> omega)); have x20 := (hb1.cell (p := ⟨w.heap.size + 1 + 1, 0, none⟩) (by simp <;> omega)); have x21 := (hb1.cell (p := ⟨w.heap.size + 1 + 1, 1, none⟩) (by simp <;> omega)); have xf0 := (hb1.frozen (p := ⟨w.heap.size + 1 + 1, 0, none⟩) (by simp <;> omega)); have xf1 := (hb1.frozen (p := ⟨w.heap.size + 1 + 1, 1, none⟩) (by simp <;> omega))) | (go_at_call 28; with_reducible refine (HMV.out _ (bel_trans (HB.out _ _ _) hb1)).mono ?_; rintro e w2 ⟨rfl, hb2⟩; have g2 : w.heap.size + 1 + 1 < w2.heap.size := Nat.lt_of_lt_of_le g1 hb2.size; have y00 := (hb2.cell (p := ⟨w.heap.size, 0, none⟩) (by simp only; omega)).trans x00; have y01 := (hb2.cell (p := ⟨w.heap.size, 1, none⟩) (by simp only; omega)).trans x01; have y10 := (hb2.cell (p := ⟨w.heap.size + 1, 0, none⟩) (by simp only; omega)).trans x10; have y11 := (hb2.cell (p := ⟨w.heap.size + 1, 1, none⟩) (by simp only; omega)).trans x11; have y20 := (hb2.cell (p := ⟨w.heap.size + 1 + 1, 0, none⟩) (by simp only; omega)).trans x20; have y21 := (hb2.cell (p := ⟨w.heap.size + 1 + 1, 1, none⟩) (by simp only; omega)).trans x21; have yf0 := (hb2.frozen (p := ⟨w.heap.size + 1 + 1, 0, none⟩) (by simp only; omega)).trans xf0; have yf1 := (hb2.frozen (p := ⟨w.heap.size + 1 + 1, 1, none⟩) (by simp only; omega)).trans xf1))
    try simp only [Exit.inBlock, Exit.then]
    refine bodyPost_ret (v := .tuple #[.agg #[.int .i64 0, .slice none 0 0], .bool false]) ?_ rfl ?_
    · rw [results_cell_tmp rfl]
      go_simp
    exact ⟨_, rfl, OwnG.nil _ _ _, ((bel_trans (bel_trans (HB.out _ _ _) hb1) hb2).setCell (by simp <;> omega) _).setCell (by simp <;> omega) _⟩
  have e0 : R = true := by
    rw [HR.out]; unfold tOk
    rw [← HV.out, ← HV2.out]
    have h1 : decide (m = m2) = true := by simpa using hmm
    have h2 : decide (z.length = z2.length) = true := by simpa using hnn
    rw [h1, h2]; rfl
  rw [e0]
  have e3 : rM true m = m := rfl
  have e4 : rL true (tmL m z z2 z.length) = tmL m z z2 z.length := rfl
  rw [e3, e4]
  have hlen := tmL_len m z z2 z.length
  obtain ⟨Z, hZ⟩ : ∃ Z, Z = tmL m z z2 z.length := ⟨_, rfl⟩
  rw [← hZ] at hlen ⊢
  have HZ := Lib.hid hZ
  clear hZ
  have hm : mKind m = true := (mVal_parts HV.out.symm).2.1
  have hsq := (mVal_parts HV.out.symm).1
  have hN12 := (mSq_parts hsq).2.1
  have hN1 := (mSq_parts hsq).1
  have ha := sq_of_val HV.out.symm
  have hb := sq_of_val HV2.out.symm
  rw [← hmm, ← hnn] at hb
  have d1 : (m != m2) = false := by simpa using hmm
  have d2 : (m == m2) = true := by simpa using hmm
  have d3 : ((z.length : Int) != z2.length) = false := by simp; omega
  have d4 : ((z.length : Int) == z2.length) = true := by simp; omega
  rcases hz.out with h0 | ⟨ab, aoff, TA, rfl, hab, hac⟩
  · rw [h0] at hN1; simp at hN1
  rcases hy.out with h0 | ⟨bb, boff, TB, rfl, hbb, hbc⟩
  · rw [hnn, h0] at hN1; simp at hN1
  have HAC := Lib.hid hac
  have HBC := Lib.hid hbc
  have HA := Lib.hid ha
  have HBQ := Lib.hid hb
  have hno := fun w => sNone hm w
  have HNO := Lib.hid hno
  have HM := Lib.hid hm
  have hbest := fun x y w => calls_below (sBest hm x y w)
  have HBEST := Lib.hid hbest
  have hjoin := fun x y w (h1 : mIn m x = true) (h2 : mIn m y = true) => calls_below (sJoin (bTwo_mk hm h1 h2) w)
  have HJOIN := Lib.hid hjoin
  have HNN := Lib.hid hnn
  have HMM := Lib.hid hmm
  have HLEN := Lib.hid hlen
  clear e0 e1 e2 e3 e4 hsq hm ha hb hnn hmm hac hbc hno hbest hjoin hz hy hlen
  go_enter Try.func31, Try.ntmps31
  go_wp2_with (first | (go_at_call 28; with_reducible refine (HO.out _ (HB.out _ _ _)).mono ?_; rintro e w1 ⟨rfl, hb1⟩; have g1 : w.heap.size + 1 + 1 < w1.heap.size := Nat.lt_of_lt_of_le (by simp) hb1.size; have x00 := (hb1.cell (p := ⟨w.heap.size, 0, none⟩) (by simp <;> omega)); have x01 := (hb1.cell (p := ⟨w.heap.size, 1, none⟩) (by simp <;> omega)); have x10 := (hb1.cell (p := ⟨w.heap.size + 1, 0, none⟩) (by simp <;> omega)); have x11 := (hb1.cell (p := ⟨w.heap.size + 1, 1, none⟩) (by simp <;> omega)); have x20 := (hb1.cell (p := ⟨w.heap.size + 1 + 1, 0, none⟩) (by simp <;> omega)); have x21 := (hb1.cell (p := ⟨w.heap.size + 1 + 1, 1, none⟩) (by simp <;> omega)); have xf0 := (hb1.frozen (p := ⟨w.heap.size + 1 + 1, 0, none⟩) (by simp <;> omega)); have xf1 := (hb1.frozen (p := ⟨w.heap.size + 1 + 1, 1, none⟩) (by simp <;> omega))) | (go_at_call 28; with_reducible refine (HMV.out _ (bel_trans (HB.out _ _ _) hb1)).mono ?_; rintro e w2 ⟨rfl, hb2⟩; have g2 : w.heap.size + 1 + 1 < w2.heap.size := Nat.lt_of_lt_of_le g1 hb2.size; have y00 := (hb2.cell (p := ⟨w.heap.size, 0, none⟩) (by simp only; omega)).trans x00; have y01 := (hb2.cell (p := ⟨w.heap.size, 1, none⟩) (by simp only; omega)).trans x01; have y10 := (hb2.cell (p := ⟨w.heap.size + 1, 0, none⟩) (by simp only; omega)).trans x10; have y11 := (hb2.cell (p := ⟨w.heap.size + 1, 1, none⟩) (by simp only; omega)).trans x11; have y20 := (hb2.cell (p := ⟨w.heap.size + 1 + 1, 0, none⟩) (by simp only; omega)).trans x20; have y21 := (hb2.cell (p := ⟨w.heap.size + 1 + 1, 1, none⟩) (by simp only; omega)).trans x21; have yf0 := (hb2.frozen (p := ⟨w.heap.size + 1 + 1, 0, none⟩) (by simp only; omega)).trans xf0; have yf1 := (hb2.frozen (p := ⟨w.heap.size + 1 + 1, 1, none⟩) (by simp only; omega)).trans xf1))
  have hw2 := bel_trans (bel_trans (HB.out _ _ _) hb1) hb2
  have hI0 : TInv w w2.heap.size m m2 (.slice (some ⟨ab, aoff, none⟩) z.length cap) (.slice (some ⟨bb, boff, none⟩) z2.length cap2) Z 0 (w2.alloc (.cells #[.int .i64 m, .slice none 0 0] 33)) := by
    have hA : Below (((w.alloc (.cells #[.int .i64 m, .slice (some ⟨ab, aoff, none⟩) z.length cap] 33)).alloc (.cells #[.int .i64 m2, .slice (some ⟨bb, boff, none⟩) z2.length cap2] 33)).alloc (.cells #[.int .i64 0, .slice none 0 0] 33)).heap.size (((w.alloc (.cells #[.int .i64 m, .slice (some ⟨ab, aoff, none⟩) z.length cap] 33)).alloc (.cells #[.int .i64 m2, .slice (some ⟨bb, boff, none⟩) z2.length cap2] 33)).alloc (.cells #[.int .i64 0, .slice none 0 0] 33)) w2 := bel_trans hb1 hb2
    have k0 := (((Box.new w 33 #[.int .i64 m, .slice (some ⟨ab, aoff, none⟩) z.length cap]).alloc (.cells #[.int .i64 m2, .slice (some ⟨bb, boff, none⟩) z2.length cap2] 33)).alloc (.cells #[.int .i64 0, .slice none 0 0] 33)).keep hA
    have k1 := ((Box.new (w.alloc (.cells #[.int .i64 m, .slice (some ⟨ab, aoff, none⟩) z.length cap] 33)) 33 #[.int .i64 m2, .slice (some ⟨bb, boff, none⟩) z2.length cap2]).alloc (.cells #[.int .i64 0, .slice none 0 0] 33)).keep hA
    have k2 := (Box.new ((w.alloc (.cells #[.int .i64 m, .slice (some ⟨ab, aoff, none⟩) z.length cap] 33)).alloc (.cells #[.int .i64 m2, .slice (some ⟨bb, boff, none⟩) z2.length cap2] 33)) 33 #[.int .i64 0, .slice none 0 0]).keep hA
    have hal : Below w2.heap.size w2 (w2.alloc (.cells #[.int .i64 m, .slice none 0 0] 33)) := (Below.refl _ _).alloc (Nat.le_refl _) _
    exact ⟨bel_trans hw2 hal, k0.alloc _, by simpa using k1.alloc _, by simpa using k2.alloc _, _, Box.new _ _ _, MkG.nil _ _ _⟩
  have HI0 := Lib.hid hI0
  clear hI0 x00 x01 x10 x11 x20 x21 xf0 xf1
  go_wp2
  clear y00 y01 y10 y11 y20 y21 yf0 yf1
  generalize (w2.alloc (.cells #[.int .i64 m, .slice none 0 0] 33)) = W3 at HI0 ⊢
  have hbo : w.heap.size + 1 + 1 < w2.heap.size := g2
  generalize w2.heap.size = bo at HI0 hbo ⊢
  obtain ⟨i0, hi, hz0, hz1, hz2⟩ := info_partsI info_int2
  have HI := Lib.hid (And.intro hi (And.intro hz0 (And.intro hz1 hz2)))
  clear hi hz0 hz1 hz2
  obtain ⟨i1, hi, hz0, hz1, hz2⟩ := info_partsI info_ints
  have HI1 := Lib.hid (And.intro hi (And.intro hz0 (And.intro hz1 hz2)))
  clear hi hz0 hz1 hz2
  go_loopw [8] (fun c wr => ∃ i : Nat, i ≤ z.length ∧ c = .int .i64 i ∧ Hid (TInv w bo m m2 (.slice (some ⟨ab, aoff, none⟩) z.length cap) (.slice (some ⟨bb, boff, none⟩) z2.length cap2) Z i wr)) (fun c _ => z.length - (intOf c).toNat)
  case atStart => exact ⟨0, Nat.zero_le _, rfl, HI0⟩
  case round =>
    obtain ⟨i, hile, rfl, HT⟩ := hrel
    obtain ⟨xa0, xa1, -, -, xal⟩ := box2 HT.out.a
    by_cases hlt : i < z.length
    · have hlt' : (i : Int) < z.length := by omega
      obtain ⟨c0, r0⟩ := HAC.out i hlt
      have hal := (HA.out.2 i hlt).1
      obtain ⟨pb, poff, pcap, hTA, hpb, hpc⟩ := r0.at (i := 0) (by omega)
      rw [hTA, hal] at c0
      rw [hal] at hpc
      have HC0 := Lib.hid c0
      have HPC := Lib.hid hpc
      have hrow : (Z.getD i []) = tmRow m (z.getD i []) z2 z.length z.length := by rw [HZ.out, tmL_at _ _ _ _ hlt]
      have HROW := Lib.hid hrow
      obtain ⟨ws, hws⟩ : ∃ ws, ws = wr := ⟨_, rfl⟩
      subst hws
      have hown0 : (ws.alloc (.cells #[] 3)).ownsRow ws.heap.size 3 1 (.slice (some ⟨ws.heap.size, 0, none⟩) 0 0) 0 [] := World.ownsRow_made ws #[] 0 (Nat.le_refl _) (by unfold maxLen; omega) rfl
      have HOWN0 := Lib.hid hown0
      clear c0 r0 hal hTA hpc hrow hown0
      go_wp2
      go_loopw [10, 9] (fun c d wk => ∃ k : Nat, k ≤ z.length ∧ c = .int .i64 k ∧ Hid (wk.ownsRow ws.heap.size 3 1 d k (cellsI ((Z.getD i []).take k))) ∧ Hid (Below ws.heap.size ws wk)) (fun c _ _ => z.length - (intOf c).toNat)
      case atStart => exact ⟨0, Nat.zero_le _, rfl, HOWN0, Lib.hid ((Below.refl _ _).alloc (Nat.le_refl _) _)⟩
      case round =>
        obtain ⟨k, hkle, rfl, HOW, HBK⟩ := hrel
        have hT2 := HT.out.keep HBK.out
        obtain ⟨xb0, xb1, -, -, xbl⟩ := box2 hT2.a
        clear xa0 xa1
        by_cases hkl : k < z.length
        · have hkl' : (k : Int) < z.length := by omega
          obtain ⟨wk, hwk⟩ : ∃ wk, wk = wr := ⟨_, rfl⟩
          subst hwk
          have HT2 := Lib.hid hT2
          clear hT2
          go_wp2_with (go_at_call 75; refine (HNO.out _).mono ?_; rintro e w4 ⟨rfl, rfl⟩)
          go_loopw [12, 11] (fun c d wn => ∃ n : Nat, n ≤ z.length ∧ c = .int .i64 n ∧ d = .int .i64 ((tmRow m (z.getD i []) z2 z.length n).getD k 0) ∧ Hid (Below wk.heap.size wk wn)) (fun c _ _ => z.length - (intOf c).toNat)
          case atStart => exact ⟨0, Nat.zero_le _, rfl, by rw [tmRow_at0 _ _ _ _ hkl], Lib.hid (Below.refl _ _)⟩
          case round =>
            obtain ⟨n, hnle, rfl, rfl, HBN⟩ := hrel
            have hT3 := HT2.out.keep HBN.out
            obtain ⟨xc0, xc1, -, -, xcl⟩ := box2 hT3.a
            clear xb0 xb1
            by_cases hnl : n < z.length
            · have hnl' : (n : Int) < z.length := by omega
              have hnl2 : n < z2.length := by rw [← HNN.out]; exact hnl
              have hnl2' : (n : Int) < z2.length := by omega
              obtain ⟨d0, q0⟩ := HBC.out n hnl2
              obtain ⟨hbl, hbi⟩ := HBQ.out.2 n hnl
              obtain ⟨qb, qoff, qcap, hTB, hqb, hqc⟩ := q0.at (i := 0) (by omega)
              rw [hTB, hbl] at d0
              rw [hbl] at hqc
              obtain ⟨x, hx⟩ : ∃ x, x = (z.getD i []).getD n 0 := ⟨_, rfl⟩
              obtain ⟨y, hy⟩ : ∃ y, y = (z2.getD n []).getD k 0 := ⟨_, rfl⟩
              have t0 := HPC.out n hnl
              have t1 := hqc k hkl
              rw [← hx] at t0
              rw [← hy] at t1
              have hxi := (HA.out.2 i hlt).2 n hnl
              rw [← hx] at hxi
              have hyi := hbi k hkl
              rw [← hy] at hyi
              have hst := tmRow_at m (z.getD i []) z2 z.length n hkl
              rw [← hx, ← hy] at hst
              obtain ⟨acc, hacc⟩ : ∃ acc, acc = (tmRow m (z.getD i []) z2 z.length n).getD k 0 := ⟨_, rfl⟩
              rw [← hacc] at hst ⊢
              have HST := Lib.hid hst
              have hxb := box2 hT3.b
              have gg : ∀ w', Below wr.heap.size wr w' → w'.cell? ⟨w.heap.size, 1, none⟩ = some (.slice (some ⟨ab, aoff, none⟩) z.length cap) ∧ w'.cell? ⟨w.heap.size + 1, 1, none⟩ = some (.slice (some ⟨bb, boff, none⟩) z2.length cap2) ∧ w'.cell? ⟨ab, aoff + i, none⟩ = some (.slice (some ⟨pb, poff, none⟩) z.length pcap) ∧ w'.cell? ⟨pb, poff + n, none⟩ = some (.int .i64 x) ∧ w'.cell? ⟨bb, boff + n, none⟩ = some (.slice (some ⟨qb, qoff, none⟩) z.length qcap) ∧ w'.cell? ⟨qb, qoff + k, none⟩ = some (.int .i64 y) := by
                intro w' h
                have h2 := bel_trans hT3.bel h
                exact ⟨(h.cell (p := ⟨_, 1, none⟩) xcl).trans xc1, (h.cell (p := ⟨_, 1, none⟩) hxb.2.2.2.2).trans hxb.2.1, (h2.cell (p := ⟨ab, _, none⟩) hab).trans HC0.out, (h2.cell (p := ⟨pb, _, none⟩) hpb).trans t0, (h2.cell (p := ⟨bb, _, none⟩) hbb).trans d0, (h2.cell (p := ⟨qb, _, none⟩) hqb).trans t1⟩
              have GG := Lib.hid gg
              have hj := fun w => HJOIN.out x y w hxi hyi
              have hbs := fun w => HBEST.out acc (mJoin m x y) w
              have HJ := Lib.hid hj
              have HBS := Lib.hid hbs
              clear d0 q0 hbl hbi hTB hqc hx hy t0 t1 hxi hyi hst hacc hxb gg hj hbs hT3
              go_wp2
              refine wp_region_below (by kernel_rfl) (by kernel_rfl) ?_
              repeat (go_big_quiet_step ((intro hw; first | with_reducible rfl | (obtain ⟨f0, f1, f2, f3, f4, f5⟩ := GG.out _ hw; simp only [f0, f1, f2, f3, f4, f5, Result.andThen]; first | exact ⟨trivial, rfl⟩ | exact ⟨rfl, rfl⟩) | (go_at_call 77; exact quietB (HJ.out _) hw) | (go_at_call 76; exact quietB (HBS.out _) hw))))
              refine wpQuiet_nil ?_
              intro w5 hw5
              go_wp2
              go_roundw
              case rel => exact ⟨n + 1, by omega, by go_num, by rw [HST.out], Lib.hid (bel_trans HBN.out hw5)⟩
              case measure => simp [intOf]; omega
            · have hne : n = z.length := by omega
              have hnn : ¬ ((n : Int) < z.length) := by omega
              have HNE := Lib.hid hne
              have hrk : k < (Z.getD i []).length := by rw [HROW.out, tmRow_len]; exact hkl
              have htk := cellsI_take (Z.getD i []) hrk
              have hac : (tmRow m (z.getD i []) z2 z.length n).getD k 0 = (Z.getD i []).getD k 0 := by rw [HROW.out, hne]
              rw [hac]
              obtain ⟨acc, hacc⟩ : ∃ acc, acc = (Z.getD i []).getD k 0 := ⟨_, rfl⟩
              rw [← hacc] at htk ⊢
              have HTK := Lib.hid htk
              have hoA : (wr.alloc (.cells #[.int .i64 acc] 3)).ownsRow ws.heap.size 3 1 _ k (cellsI ((Z.getD i []).take k)) := own_keepI (own_keepI HOW.out HBN.out) ((Below.refl _ _).alloc (Nat.le_refl _) _)
              have HOA := Lib.hid hoA
              have hsz : ws.heap.size ≤ (wr.alloc (.cells #[.int .i64 acc] 3)).heap.size := by have h1 := HBK.out.size; have h2 := HBN.out.size; simp; omega
              obtain ⟨hi, hz0, hz1, hz2⟩ := HI.out
              clear hne hrk htk hac hacc hoA hT3
              go_wp2_with (at_builtin; refine wpList_append_own _ rfl (.tmp 87) (.tmp 89) 23 rfl ws.heap.size 3 i0 (.int .i64 0) 1 8 Try.underlying23 hi hz0 hz1 hz2 rfl (by decide) _ _ _ rfl HOA.out ⟨wr.heap.size, 0, none⟩ 1 1 [.int .i64 acc] rfl rfl (cells_new1' _ _ _) (by simp [Value.oneCell']) (by unfold maxLen; omega) (by omega) hsz ?_)
              intro v' w6 hown6 hgrow6 _
              have H6 : Hid (w6.ownsRow ws.heap.size 3 1 v' (k + 1) (cellsI ((Z.getD i []).take (k + 1)))) := Lib.hid (by rw [HTK.out]; exact hown6)
              have H7 : Hid (Below ws.heap.size ws w6) := Lib.hid ((((bel_trans HBK.out HBN.out).alloc (by have h1 := HBK.out.size; have h2 := HBN.out.size; omega) _)).grown hgrow6 hsz (fun q hq => (HOA.out.lt q hq).1))
              clear hown6 hgrow6 hi hz0 hz1 hz2
              go_wp2
              go_roundw
              case rel => exact ⟨k + 1, by omega, by go_num, H6, H7⟩
              case measure => simp [intOf]; omega
        · have hke : k = z.length := by omega
          have hkk : ¬ ((k : Int) < z.length) := by omega
          have HKE := Lib.hid hke
          obtain ⟨v, hbx, hmk⟩ := HT.out.o
          obtain ⟨xo0, xo1, -, xof, xol⟩ := box2 (hbx.keep HBK.out)
          obtain ⟨Ts, hTs⟩ := hmk.slices
          have HTS := Lib.hid hTs
          have HBX := Lib.hid hbx
          obtain ⟨da, dc, rfl⟩ := own_slice HOW.out
          have hrl : (Z.getD i []).length = z.length := by rw [HROW.out, tmRow_len]
          have hfull : wr.ownsRow ws.heap.size 3 1 (.slice da k dc) (Z.getD i []).length (cellsI (Z.getD i [])) := by
            have h1 := HOW.out
            rw [List.take_of_length_le (by omega)] at h1
            rw [hrl, ← hke]
            exact h1
          have HFU := Lib.hid hfull
          have hoA : (wr.alloc (.cells #[.slice da k dc] 23)).ownsRow w.heap.size 23 1 v i Ts := own_keepI (own_keepI hTs.own HBK.out) ((Below.refl _ _).alloc (Nat.le_refl _) _)
          have HOA := Lib.hid hoA
          have hbw := bel_trans HT.out.bel HBK.out
          have hsz : w.heap.size ≤ (wr.alloc (.cells #[.slice da k dc] 23)).heap.size := by have := hbw.size; simp; omega
          have HRL := Lib.hid hrl
          obtain ⟨hi, hz0, hz1, hz2⟩ := HI1.out
          have i12 : i < 12 := by omega
          have HT4 := Lib.hid hT2
          clear hke hbx hmk hTs hfull hoA hrl hT2
          have hbr : ∀ w6, World.grownBy (wr.alloc (.cells #[.slice da k dc] 23)) w6 v.ownBlock → (Box w6 bo 33 #[.int .i64 m, v] ∧ Box w6 w.heap.size 33 #[.int .i64 m, (.slice (some ⟨ab, aoff, none⟩) z.length cap)] ∧ Box w6 (w.heap.size + 1) 33 #[.int .i64 m2, (.slice (some ⟨bb, boff, none⟩) z2.length cap2)] ∧ Box w6 (w.heap.size + 1 + 1) 33 #[.int .i64 0, .slice none 0 0]) := fun w6 h =>
            ⟨Box.grown (w := wr.alloc (.cells #[.slice da k dc] 23)) ((HBX.out.keep HBK.out).alloc _) h HOA.out (by decide), Box.grown (w := wr.alloc (.cells #[.slice da k dc] 23)) (HT4.out.a.alloc _) h HOA.out (by decide), Box.grown (w := wr.alloc (.cells #[.slice da k dc] 23)) (HT4.out.b.alloc _) h HOA.out (by decide), Box.grown (w := wr.alloc (.cells #[.slice da k dc] 23)) (HT4.out.r.alloc _) h HOA.out (by decide)⟩
          have HBR := Lib.hid hbr
          clear hbr
          go_wp2_with (at_builtin; refine wpList_append_own _ rfl (.tmp 92) (.tmp 94) 31 rfl w.heap.size 23 i1 (.slice none 0 0) 1 24 Try.underlying31 hi hz0 hz1 hz2 rfl (by decide) _ _ _ rfl HOA.out ⟨wr.heap.size, 0, none⟩ 1 1 [.slice da k dc] rfl rfl (cells_new1' _ _ _) (by simp [Value.oneCell']) (by unfold maxLen; omega) (by omega) hsz ?_)
          intro v' w6 hown6 hgrow6 _
          obtain ⟨va, vc, rfl⟩ := own_slice hown6
          have hmk6 := mk_step HTS.out HBK.out HFU.out (by rw [HRL.out]; omega) HT.out.bel.size ((Below.refl _ _).alloc (Nat.le_refl _) _) hown6 hgrow6
          obtain ⟨hX, hXa, hXb, hXr⟩ := HBR.out _ hgrow6
          have hb6 : Below w.heap.size w w6 := (hbw.alloc hbw.size _).grown hgrow6 hsz (fun q hq => (HOA.out.lt q hq).1)
          have hT6 : TInv w bo m m2 (.slice (some ⟨ab, aoff, none⟩) z.length cap) (.slice (some ⟨bb, boff, none⟩) z2.length cap2) Z (i + 1) (w6.setCell ⟨bo, 1, none⟩ (.slice va (i + 1) vc)) :=
            ⟨hb6.setCell (by simp only; omega) _, hXa.setOther (by omega) _ _, hXb.setOther (by omega) _ _, hXr.setOther (by omega) _ _, _, by have := hX.set 1 (.slice va (i + 1) vc); simpa using this, hmk6.box hX (by decide) (by decide) _⟩
          have HT6 := Lib.hid hT6
          obtain ⟨y0, y1, -, y3, y4⟩ := box2 hX
          clear hown6 hgrow6 hi hz0 hz1 hz2 hmk6 hX hXa hXb hXr hb6 hT6
          go_wp2
          go_roundw
          case rel => exact ⟨i + 1, by omega, by go_num, HT6⟩
          case measure => simp [intOf]; omega
    · have hie : i = z.length := by omega
      have hii : ¬ ((i : Int) < z.length) := by omega
      have HIE := Lib.hid hie
      obtain ⟨v, hbx, hmk⟩ := HT.out.o
      obtain ⟨da, dc, rfl⟩ := hmk.slice
      obtain ⟨xo0, xo1, -, -, xol⟩ := box2 hbx
      obtain ⟨xr0, xr1, xrf0, xrf1, xrl⟩ := box2 HT.out.r
      have HMK := Lib.hid hmk
      have hbx2 := HT.out.r
      have HBX := Lib.hid hbx2
      clear hie hbx hmk hbx2
      go_wp2
      try simp only [Exit.inBlock, Exit.then]
      refine bodyPost_ret (v := .tuple #[.agg #[.int .i64 m, .slice da i dc], .bool true]) ?_ rfl ?_
      · rw [results_cell_tmp rfl]
        go_simp
      have hmk2 : MkG ((wr.setCell ⟨w.heap.size + 1 + 1, 0, none⟩ (.int .i64 m)).setCell ⟨w.heap.size + 1 + 1, 1, none⟩ (.slice da i dc)) w.heap.size (.slice da i dc) Z i := (HMK.out.box HBX.out (by decide) (by decide) _).box (HBX.out.set 0 _) (by decide) (by decide) _
      refine ⟨_, rfl, ?_, (HT.out.bel.setCell (by simp only; omega) _).setCell (by simp only; omega) _⟩
      rw [show i = Z.length by rw [HLEN.out]; exact HIE.out] at hmk2 ⊢
      exact hmk2.all (fun j hj => by rw [HLEN.out] at hj; rw [HZ.out, tmL_at _ _ _ _ hj, tmRow_len]; omega)
end Go.Proofs.Ytjpikbbpmbeckaa
