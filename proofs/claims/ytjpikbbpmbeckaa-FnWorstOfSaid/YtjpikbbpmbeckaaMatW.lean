/- Matrices that are closed, multiplied, and changed by an edge: in the program. -/
import Derived.Test.YtjpikbbpmbeckaaRows8
import Derived.Test.YtjpikbbpmbeckaaMatV
import Derived.Laws.ResultCell
namespace Go.Proofs.Ytjpikbbpmbeckaa
open Go.RowKit Go.BigFrame Go.Deep
set_option linter.unusedVariables false
set_option linter.unusedSimpArgs false

/-- What is returned: something, or nothing. -/
def rM (b : Bool) (m : Int) : Int := if b = true then m else 0
def rL (b : Bool) (z : List (List Int)) : List (List Int) := if b = true then z else []
theorem sq_rows {m : Int} {N : Nat} {z : List (List Int)} (h : Sq m N z) (h0 : 1 ≤ N) (hN : N ≤ 12) : ∀ i, i < z.length → 0 < (z.getD i []).length ∧ (z.getD i []).length ≤ 1048576 := fun i hi => by
  have := (h.2 i (by rw [← h.1]; exact hi)).1
  omega
theorem GridAt.own {w : World} {lo hi g : Nat} {T : Nat → Value} {B : Nat → Nat} {z : List (List Int)} (h : GridAt w lo hi g T B z) {N cap : Nat} (hl : z.length = N) (hc : N ≤ cap) : OwnG w lo hi (.slice (some ⟨g, 0, none⟩) N cap) z :=
  .inr ⟨g, cap, T, B, by rw [hl], by rw [hl]; exact hc, h⟩

theorem OwnG.at {w : World} {lo hi : Nat} {s : Value} {z : List (List Int)} (h : OwnG w lo hi s z) (h0 : 1 ≤ z.length) : ∃ (g cap : Nat) (T : Nat → Value) (B : Nat → Nat), s = .slice (some ⟨g, 0, none⟩) z.length cap ∧ z.length ≤ cap ∧ GridAt w lo hi g T B z := by
  rcases h with ⟨_, hn⟩ | h
  · rw [hn] at h0; simp at h0
  · exact h

set_option maxRecDepth 20000 in
set_option maxHeartbeats 2000000 in
theorem closeMatrix (m : Int) (z : List (List Int)) (s : Value) (w : World) (hs : GridO w s z) (hl : z.length ≤ 281474976710656) (hl2 : ∀ i, i < z.length → (z.getD i []).length ≤ 281474976710656) :
    Calls Try.prog 85 #[.agg #[.int .i64 m, s]] w fun e w' => ∃ v, e = .returned (.tuple #[.agg #[.int .i64 (rM (mVal m z) m), v], .bool (mVal m z)]) ∧ OwnG w' w.heap.size w'.heap.size v (rL (mVal m z) (clOut m z z.length)) ∧ Below w.heap.size w w' := by
  have hB : ∀ (A B : Obj), Below w.heap.size w ((w.alloc A).alloc B) := fun A B => ((Below.refl _ _).alloc (Nat.le_refl _) _).alloc (by simp) _
  obtain ⟨ad, cap, rfl, hz0⟩ := id hs
  have hops := fun A B => opsOfMatrix m z _ ((w.alloc A).alloc B) (hs.keep (hB A B)) hl hl2
  obtain ⟨V, hV⟩ : ∃ V, V = mVal m z := ⟨_, rfl⟩
  rw [← hV] at hops ⊢
  have HO := Lib.hid hops
  have HB := Lib.hid hB
  have HV := Lib.hid hV
  have HS := Lib.hid hs
  clear hz0 hs hl2 hops hB hV
  cases V
  · have e1 : rM false m = 0 := rfl
    have e2 : rL false (clOut m z z.length) = [] := rfl
    rw [e1, e2]
    clear e1 e2
    go_enter Try.func85, Try.ntmps85
    go_wp2_with (go_at_call 63; refine (HO.out _ _).mono ?_; rintro e w1 ⟨rfl, hb1⟩; have x0 := hb1.cell (p := ⟨w.heap.size + 1, 0, none⟩) (by simp); have x1 := hb1.cell (p := ⟨w.heap.size + 1, 1, none⟩) (by simp); have f0 := hb1.frozen (p := ⟨w.heap.size + 1, 0, none⟩) (by simp); have f1 := hb1.frozen (p := ⟨w.heap.size + 1, 1, none⟩) (by simp))
    try simp only [Exit.inBlock, Exit.then]
    refine bodyPost_ret (v := .tuple #[.agg #[.int .i64 0, .slice none 0 0], .bool false]) ?_ rfl ?_
    · rw [results_cell_tmp rfl]
      go_simp
    exact ⟨_, rfl, OwnG.nil _ _ _, ((bel_trans (HB.out _ _) hb1).setCell (by simp) _).setCell (by simp) _⟩
  have e1 : rM true m = m := rfl
  have e2 : rL true (clOut m z z.length) = clOut m z z.length := rfl
  rw [e1, e2]
  have hm : mKind m = true := (mVal_parts HV.out.symm).2.1
  have hsq := (mVal_parts HV.out.symm).1
  have hN12 := (mSq_parts hsq).2.1
  have hN1 := (mSq_parts hsq).1
  have hop : opsR m true = opsV m := by unfold opsR; rw [if_pos rfl]
  rw [hop] at HO
  have hsqm := sq_of_val HV.out.symm
  have hcopy := fun w' (h : Below w.heap.size w w') => copyOfRows z _ w' (HS.out.keep h).grid (by omega) (sq_rows hsqm hN1 hN12)
  have hclose := fun cap lo hi g T B w' h => closeRows m z z.length cap lo hi g T B w' hm hsqm hN12 h
  have hlast := (clOut_sq hm hsqm z.length (Nat.le_refl _)).1
  have HCO := Lib.hid hcopy
  have HCL := Lib.hid hclose
  have HLA := Lib.hid hlast
  clear e1 e2 hop hsq hm hsqm hcopy hclose hlast
  go_enter Try.func85, Try.ntmps85
  go_wp2_with (first
    | (go_at_call 63; refine (HO.out _ _).mono ?_; rintro e w1 ⟨rfl, hb1⟩; have g0 : w.heap.size + 1 < w1.heap.size := Nat.lt_of_lt_of_le (by simp) hb1.size; have y0 := hb1.cell (p := ⟨w.heap.size, 0, none⟩) (by simp <;> omega); have y1 := hb1.cell (p := ⟨w.heap.size, 1, none⟩) (by simp <;> omega); have x0 := hb1.cell (p := ⟨w.heap.size + 1, 0, none⟩) (by simp); have x1 := hb1.cell (p := ⟨w.heap.size + 1, 1, none⟩) (by simp); have f0 := hb1.frozen (p := ⟨w.heap.size + 1, 0, none⟩) (by simp); have f1 := hb1.frozen (p := ⟨w.heap.size + 1, 1, none⟩) (by simp))
    | (go_at_call 89; refine (HCO.out _ (bel_trans (HB.out _ _) hb1)).mono ?_; rintro e w2 ⟨v2, rfl, hown, hb2⟩; obtain ⟨g, cp, T, B, rfl, hcp, hat⟩ := hown.at hN1; have k0 := (hb2.cell (p := ⟨w.heap.size, 0, none⟩) (by simp only; omega)).trans y0; have u0 := (hb2.cell (p := ⟨w.heap.size + 1, 0, none⟩) g0).trans x0; have u1 := (hb2.cell (p := ⟨w.heap.size + 1, 1, none⟩) g0).trans x1; have v0 := (hb2.frozen (p := ⟨w.heap.size + 1, 0, none⟩) g0).trans f0; have v1 := (hb2.frozen (p := ⟨w.heap.size + 1, 1, none⟩) g0).trans f1; have HAT := Lib.hid hat; clear hat)
    | (go_at_call 124; refine (HCL.out _ _ _ _ _ _ _ HAT.out).mono ?_; rintro e w3 ⟨rfl, hat3, hc3⟩; have g1 : w.heap.size + 1 < w2.heap.size := Nat.lt_of_lt_of_le g0 hb2.size; have k0 := (hc3.cell (p := ⟨w.heap.size, 0, none⟩) (by simp only; omega) (.inl (by simp only; omega))).trans k0; have u0 := (hc3.cell (p := ⟨w.heap.size + 1, 0, none⟩) g1 (.inl g0)).trans u0; have u1 := (hc3.cell (p := ⟨w.heap.size + 1, 1, none⟩) g1 (.inl g0)).trans u1; have v0 := (hc3.frozen (p := ⟨w.heap.size + 1, 0, none⟩) g1 (.inl g0)).trans v0; have v1 := (hc3.frozen (p := ⟨w.heap.size + 1, 1, none⟩) g1 (.inl g0)).trans v1; have HA3 := Lib.hid hat3; have HC3 := Lib.hid hc3; clear hat3 hc3))
  try simp only [Exit.inBlock, Exit.then]
  refine bodyPost_ret (v := .tuple #[.agg #[.int .i64 m, .slice (some ⟨g, 0, none⟩) z.length cp], .bool true]) ?_ rfl ?_
  · rw [results_cell_tmp rfl]
    go_simp
  have hB1 := bel_trans (HB.out _ _) hb1
  have hB2 := bel_trans hB1 hb2
  have hB3 := bel_chg hB2 HC3.out hB1.size
  have hch : ∀ u1 u2 : Value, Chg w.heap.size (w.heap.size + 2) w3 ((w3.setCell ⟨w.heap.size + 1, 0, none⟩ u1).setCell ⟨w.heap.size + 1, 1, none⟩ u2) := fun u1 u2 => ((Chg.refl _ _ _).setCell (by simp) (by simp) _).setCell (by simp) (by simp) _
  have hsz3 := HC3.out.size
  refine ⟨_, rfl, ((HA3.out.own HLA.out hcp).chg (hch _ _) (.inl (by omega))).wider hB1.size (by simp; exact hsz3) (Nat.le_refl _), (hB3.setCell (by simp) _).setCell (by simp) _⟩

/-- Can two matrices be multiplied? -/
def tOk (m : Int) (z : List (List Int)) (m2 : Int) (z2 : List (List Int)) : Bool := mVal m z && (mVal m2 z2 && (decide (m = m2) && decide (z.length = z2.length)))

set_option maxRecDepth 20000 in
set_option maxHeartbeats 4000000 in
theorem timesMatrix (m m2 : Int) (z z2 : List (List Int)) (s t : Value) (w : World) (hs : GridO w s z) (ht : GridO w t z2) (hl : z.length ≤ 281474976710656) (hl2 : ∀ i, i < z.length → (z.getD i []).length ≤ 281474976710656) (hk : z2.length ≤ 281474976710656) (hk2 : ∀ i, i < z2.length → (z2.getD i []).length ≤ 281474976710656) :
    Calls Try.prog 30 #[.agg #[.int .i64 m, s], .agg #[.int .i64 m2, t]] w fun e w' => ∃ v, e = .returned (.tuple #[.agg #[.int .i64 (rM (tOk m z m2 z2) m), v], .bool (tOk m z m2 z2)]) ∧ OwnG w' w.heap.size w'.heap.size v (rL (tOk m z m2 z2) (tmL m z z2 z.length)) ∧ Below w.heap.size w w' := by
  have hB : ∀ (A B C : Obj), Below w.heap.size w (((w.alloc A).alloc B).alloc C) := fun A B C => (((Below.refl _ _).alloc (Nat.le_refl _) _).alloc (by simp) _).alloc (by simp; omega) _
  obtain ⟨ad, cap, rfl, hz0⟩ := id hs
  obtain ⟨ad2, cap2, rfl, hz02⟩ := id ht
  have hops := fun A B C => opsOfMatrix m z _ (((w.alloc A).alloc B).alloc C) (hs.keep (hB A B C)) hl hl2
  have hmv := fun w' (h : Below w.heap.size w w') => matrixValid m2 z2 _ w' (ht.keep h) hk hk2
  obtain ⟨V, hV⟩ : ∃ V, V = mVal m z := ⟨_, rfl⟩
  obtain ⟨V2, hV2⟩ : ∃ V, V = mVal m2 z2 := ⟨_, rfl⟩
  rw [← hV] at hops
  rw [← hV2] at hmv
  obtain ⟨R, hR⟩ : ∃ R, R = tOk m z m2 z2 := ⟨_, rfl⟩
  rw [← hR]
  have HR := Lib.hid hR
  have HO := Lib.hid hops
  have HMV := Lib.hid hmv
  have HB := Lib.hid hB
  have HV := Lib.hid hV
  have HV2 := Lib.hid hV2
  have HS := Lib.hid hs
  have HT := Lib.hid ht
  clear hz0 hz02 hs ht hl2 hk2 hops hmv hB hV hV2 hR
  have e1 : rM false m = 0 := rfl
  have e2 : rL false (tmL m z z2 z.length) = [] := rfl
  cases V
  · have e0 : R = false := by rw [HR.out]; unfold tOk; rw [← HV.out]; rfl
    rw [e0, e1, e2]
    clear e0 e1 e2
    go_enter Try.func30, Try.ntmps30
    go_wp2_with (first | (go_at_call 63; refine (HO.out _ _ _).mono ?_; rintro e w1 ⟨rfl, hb1⟩; have g1 : w.heap.size + 1 + 1 < w1.heap.size := Nat.lt_of_lt_of_le (by simp) hb1.size; have x00 := (hb1.cell (p := ⟨w.heap.size, 0, none⟩) (by simp <;> omega)); have x01 := (hb1.cell (p := ⟨w.heap.size, 1, none⟩) (by simp <;> omega)); have x10 := (hb1.cell (p := ⟨w.heap.size + 1, 0, none⟩) (by simp <;> omega)); have x11 := (hb1.cell (p := ⟨w.heap.size + 1, 1, none⟩) (by simp <;> omega)); have x20 := (hb1.cell (p := ⟨w.heap.size + 1 + 1, 0, none⟩) (by simp <;> omega)); have x21 := (hb1.cell (p := ⟨w.heap.size + 1 + 1, 1, none⟩) (by simp <;> omega)); have xf0 := (hb1.frozen (p := ⟨w.heap.size + 1 + 1, 0, none⟩) (by simp <;> omega)); have xf1 := (hb1.frozen (p := ⟨w.heap.size + 1 + 1, 1, none⟩) (by simp <;> omega))))
    try simp only [Exit.inBlock, Exit.then]
    refine bodyPost_ret (v := .tuple #[.agg #[.int .i64 0, .slice none 0 0], .bool false]) ?_ rfl ?_
    · rw [results_cell_tmp rfl]
      go_simp
    exact ⟨_, rfl, OwnG.nil _ _ _, ((bel_trans (HB.out _ _ _) hb1).setCell (by simp <;> omega) _).setCell (by simp <;> omega) _⟩
  cases V2
  · have e0 : R = false := by rw [HR.out]; unfold tOk; rw [← HV2.out]; simp
    rw [e0, e1, e2]
    clear e0 e1 e2
    go_enter Try.func30, Try.ntmps30
    go_wp2_with (first | (go_at_call 63; refine (HO.out _ _ _).mono ?_; rintro e w1 ⟨rfl, hb1⟩; have g1 : w.heap.size + 1 + 1 < w1.heap.size := Nat.lt_of_lt_of_le (by simp) hb1.size; have x00 := (hb1.cell (p := ⟨w.heap.size, 0, none⟩) (by simp <;> omega)); have x01 := (hb1.cell (p := ⟨w.heap.size, 1, none⟩) (by simp <;> omega)); have x10 := (hb1.cell (p := ⟨w.heap.size + 1, 0, none⟩) (by simp <;> omega)); have x11 := (hb1.cell (p := ⟨w.heap.size + 1, 1, none⟩) (by simp <;> omega)); have x20 := (hb1.cell (p := ⟨w.heap.size + 1 + 1, 0, none⟩) (by simp <;> omega)); have x21 := (hb1.cell (p := ⟨w.heap.size + 1 + 1, 1, none⟩) (by simp <;> omega)); have xf0 := (hb1.frozen (p := ⟨w.heap.size + 1 + 1, 0, none⟩) (by simp <;> omega)); have xf1 := (hb1.frozen (p := ⟨w.heap.size + 1 + 1, 1, none⟩) (by simp <;> omega))) | (go_at_call 27; refine (HMV.out _ (bel_trans (HB.out _ _ _) hb1)).mono ?_; rintro e w2 ⟨rfl, hb2⟩; have g2 : w.heap.size + 1 + 1 < w2.heap.size := Nat.lt_of_lt_of_le g1 hb2.size; have p0 : w.heap.size < w2.heap.size := (by omega); have p1 : w.heap.size + 1 < w2.heap.size := (by omega); have y00 := (hb2.cell (p := ⟨w.heap.size, 0, none⟩) (by simp only; omega)).trans x00; have y01 := (hb2.cell (p := ⟨w.heap.size, 1, none⟩) (by simp only; omega)).trans x01; have y10 := (hb2.cell (p := ⟨w.heap.size + 1, 0, none⟩) (by simp only; omega)).trans x10; have y11 := (hb2.cell (p := ⟨w.heap.size + 1, 1, none⟩) (by simp only; omega)).trans x11; have y20 := (hb2.cell (p := ⟨w.heap.size + 1 + 1, 0, none⟩) (by simp only; omega)).trans x20; have y21 := (hb2.cell (p := ⟨w.heap.size + 1 + 1, 1, none⟩) (by simp only; omega)).trans x21; have yf0 := (hb2.frozen (p := ⟨w.heap.size + 1 + 1, 0, none⟩) (by simp only; omega)).trans xf0; have yf1 := (hb2.frozen (p := ⟨w.heap.size + 1 + 1, 1, none⟩) (by simp only; omega)).trans xf1))
    try simp only [Exit.inBlock, Exit.then]
    refine bodyPost_ret (v := .tuple #[.agg #[.int .i64 0, .slice none 0 0], .bool false]) ?_ rfl ?_
    · rw [results_cell_tmp rfl]
      go_simp
    exact ⟨_, rfl, OwnG.nil _ _ _, ((bel_trans (bel_trans (HB.out _ _ _) hb1) hb2).setCell (by simp <;> omega) _).setCell (by simp <;> omega) _⟩
  by_cases hmm : m = m2
  rotate_left
  · have e0 : R = false := by rw [HR.out]; unfold tOk; have : decide (m = m2) = false := by simpa using hmm
                              rw [this]; simp
    have d1 : (m != m2) = true := by simpa using hmm
    have d2 : (m == m2) = false := by simpa using hmm
    rw [e0, e1, e2]
    clear e0 e1 e2
    go_enter Try.func30, Try.ntmps30
    go_wp2_with (first | (go_at_call 63; refine (HO.out _ _ _).mono ?_; rintro e w1 ⟨rfl, hb1⟩; have g1 : w.heap.size + 1 + 1 < w1.heap.size := Nat.lt_of_lt_of_le (by simp) hb1.size; have x00 := (hb1.cell (p := ⟨w.heap.size, 0, none⟩) (by simp <;> omega)); have x01 := (hb1.cell (p := ⟨w.heap.size, 1, none⟩) (by simp <;> omega)); have x10 := (hb1.cell (p := ⟨w.heap.size + 1, 0, none⟩) (by simp <;> omega)); have x11 := (hb1.cell (p := ⟨w.heap.size + 1, 1, none⟩) (by simp <;> omega)); have x20 := (hb1.cell (p := ⟨w.heap.size + 1 + 1, 0, none⟩) (by simp <;> omega)); have x21 := (hb1.cell (p := ⟨w.heap.size + 1 + 1, 1, none⟩) (by simp <;> omega)); have xf0 := (hb1.frozen (p := ⟨w.heap.size + 1 + 1, 0, none⟩) (by simp <;> omega)); have xf1 := (hb1.frozen (p := ⟨w.heap.size + 1 + 1, 1, none⟩) (by simp <;> omega))) | (go_at_call 27; refine (HMV.out _ (bel_trans (HB.out _ _ _) hb1)).mono ?_; rintro e w2 ⟨rfl, hb2⟩; have g2 : w.heap.size + 1 + 1 < w2.heap.size := Nat.lt_of_lt_of_le g1 hb2.size; have p0 : w.heap.size < w2.heap.size := (by omega); have p1 : w.heap.size + 1 < w2.heap.size := (by omega); have y00 := (hb2.cell (p := ⟨w.heap.size, 0, none⟩) (by simp only; omega)).trans x00; have y01 := (hb2.cell (p := ⟨w.heap.size, 1, none⟩) (by simp only; omega)).trans x01; have y10 := (hb2.cell (p := ⟨w.heap.size + 1, 0, none⟩) (by simp only; omega)).trans x10; have y11 := (hb2.cell (p := ⟨w.heap.size + 1, 1, none⟩) (by simp only; omega)).trans x11; have y20 := (hb2.cell (p := ⟨w.heap.size + 1 + 1, 0, none⟩) (by simp only; omega)).trans x20; have y21 := (hb2.cell (p := ⟨w.heap.size + 1 + 1, 1, none⟩) (by simp only; omega)).trans x21; have yf0 := (hb2.frozen (p := ⟨w.heap.size + 1 + 1, 0, none⟩) (by simp only; omega)).trans xf0; have yf1 := (hb2.frozen (p := ⟨w.heap.size + 1 + 1, 1, none⟩) (by simp only; omega)).trans xf1))
    try simp only [Exit.inBlock, Exit.then]
    refine bodyPost_ret (v := .tuple #[.agg #[.int .i64 0, .slice none 0 0], .bool false]) ?_ rfl ?_
    · rw [results_cell_tmp rfl]
      go_simp
    exact ⟨_, rfl, OwnG.nil _ _ _, ((bel_trans (bel_trans (HB.out _ _ _) hb1) hb2).setCell (by simp <;> omega) _).setCell (by simp <;> omega) _⟩
  by_cases hnn : z.length = z2.length
  rotate_left
  · have e0 : R = false := by rw [HR.out]; unfold tOk; have : decide (z.length = z2.length) = false := by simpa using hnn
                              rw [this]; simp
    have d1 : (m != m2) = false := by simpa using hmm
    have d2 : (m == m2) = true := by simpa using hmm
    have d3 : ((z.length : Int) != z2.length) = true := by simp; omega
    have d4 : ((z.length : Int) == z2.length) = false := by simp; omega
    have d5 : ¬ ((z.length : Int) = z2.length) := by omega
    have HNN := Lib.hid hnn
    clear hnn hmm
    rw [e0, e1, e2]
    clear e0 e1 e2
    go_enter Try.func30, Try.ntmps30
    go_wp2_with (first | (go_at_call 63; refine (HO.out _ _ _).mono ?_; rintro e w1 ⟨rfl, hb1⟩; have g1 : w.heap.size + 1 + 1 < w1.heap.size := Nat.lt_of_lt_of_le (by simp) hb1.size; have x00 := (hb1.cell (p := ⟨w.heap.size, 0, none⟩) (by simp <;> omega)); have x01 := (hb1.cell (p := ⟨w.heap.size, 1, none⟩) (by simp <;> omega)); have x10 := (hb1.cell (p := ⟨w.heap.size + 1, 0, none⟩) (by simp <;> omega)); have x11 := (hb1.cell (p := ⟨w.heap.size + 1, 1, none⟩) (by simp <;> omega)); have x20 := (hb1.cell (p := ⟨w.heap.size + 1 + 1, 0, none⟩) (by simp <;> omega)); have x21 := (hb1.cell (p := ⟨w.heap.size + 1 + 1, 1, none⟩) (by simp <;> omega)); have xf0 := (hb1.frozen (p := ⟨w.heap.size + 1 + 1, 0, none⟩) (by simp <;> omega)); have xf1 := (hb1.frozen (p := ⟨w.heap.size + 1 + 1, 1, none⟩) (by simp <;> omega))) | (go_at_call 27; refine (HMV.out _ (bel_trans (HB.out _ _ _) hb1)).mono ?_; rintro e w2 ⟨rfl, hb2⟩; have g2 : w.heap.size + 1 + 1 < w2.heap.size := Nat.lt_of_lt_of_le g1 hb2.size; have p0 : w.heap.size < w2.heap.size := (by omega); have p1 : w.heap.size + 1 < w2.heap.size := (by omega); have y00 := (hb2.cell (p := ⟨w.heap.size, 0, none⟩) (by simp only; omega)).trans x00; have y01 := (hb2.cell (p := ⟨w.heap.size, 1, none⟩) (by simp only; omega)).trans x01; have y10 := (hb2.cell (p := ⟨w.heap.size + 1, 0, none⟩) (by simp only; omega)).trans x10; have y11 := (hb2.cell (p := ⟨w.heap.size + 1, 1, none⟩) (by simp only; omega)).trans x11; have y20 := (hb2.cell (p := ⟨w.heap.size + 1 + 1, 0, none⟩) (by simp only; omega)).trans x20; have y21 := (hb2.cell (p := ⟨w.heap.size + 1 + 1, 1, none⟩) (by simp only; omega)).trans x21; have yf0 := (hb2.frozen (p := ⟨w.heap.size + 1 + 1, 0, none⟩) (by simp only; omega)).trans xf0; have yf1 := (hb2.frozen (p := ⟨w.heap.size + 1 + 1, 1, none⟩) (by simp only; omega)).trans xf1))
    try simp only [Exit.inBlock, Exit.then]
    refine bodyPost_ret (v := .tuple #[.agg #[.int .i64 0, .slice none 0 0], .bool false]) ?_ rfl ?_
    · rw [results_cell_tmp rfl]
      go_simp
    exact ⟨_, rfl, OwnG.nil _ _ _, ((bel_trans (bel_trans (HB.out _ _ _) hb1) hb2).setCell (by simp <;> omega) _).setCell (by simp <;> omega) _⟩
  have e0 : R = true := by
    rw [HR.out]; unfold tOk
    rw [← HV.out, ← HV2.out]
    have h1 : decide (m = m2) = true := by simpa using hmm
    have h2 : decide (z.length = z2.length) = true := by simpa using hnn
    rw [h1, h2]; rfl
  rw [e0]
  have e3 : rM true m = m := rfl
  have e4 : rL true (tmL m z z2 z.length) = tmL m z z2 z.length := rfl
  rw [e3, e4]
  have hm : mKind m = true := (mVal_parts HV.out.symm).2.1
  have hsq := (mVal_parts HV.out.symm).1
  have hN12 := (mSq_parts hsq).2.1
  have hN1 := (mSq_parts hsq).1
  have hop : opsR m true = opsV m := by unfold opsR; rw [if_pos rfl]
  rw [hop] at HO
  have ha := sq_of_val HV.out.symm
  have hb := sq_of_val HV2.out.symm
  rw [← hmm, ← hnn] at hb
  have htr := fun w' (h : Below w.heap.size w w') => timesRows m z z2 z.length _ _ w' hm ha hb hN1 hN12 (HS.out.keep h).grid (HT.out.keep h).grid
  have HTR := Lib.hid htr
  have hlen := tmL_len m z z2 z.length
  have HLEN := Lib.hid hlen
  have d1 : (m != m2) = false := by simpa using hmm
  have d2 : (m == m2) = true := by simpa using hmm
  have d3 : ((z.length : Int) != z2.length) = false := by simp; omega
  have d4 : ((z.length : Int) == z2.length) = true := by simp; omega
  have HNN := Lib.hid hnn
  have HMM := Lib.hid hmm
  clear e0 e1 e2 e3 e4 hop hsq hm ha hb htr hlen hnn hmm
  go_enter Try.func30, Try.ntmps30
  go_wp2_with (first | (go_at_call 63; refine (HO.out _ _ _).mono ?_; rintro e w1 ⟨rfl, hb1⟩; have g1 : w.heap.size + 1 + 1 < w1.heap.size := Nat.lt_of_lt_of_le (by simp) hb1.size; have x00 := (hb1.cell (p := ⟨w.heap.size, 0, none⟩) (by simp <;> omega)); have x01 := (hb1.cell (p := ⟨w.heap.size, 1, none⟩) (by simp <;> omega)); have x10 := (hb1.cell (p := ⟨w.heap.size + 1, 0, none⟩) (by simp <;> omega)); have x11 := (hb1.cell (p := ⟨w.heap.size + 1, 1, none⟩) (by simp <;> omega)); have x20 := (hb1.cell (p := ⟨w.heap.size + 1 + 1, 0, none⟩) (by simp <;> omega)); have x21 := (hb1.cell (p := ⟨w.heap.size + 1 + 1, 1, none⟩) (by simp <;> omega)); have xf0 := (hb1.frozen (p := ⟨w.heap.size + 1 + 1, 0, none⟩) (by simp <;> omega)); have xf1 := (hb1.frozen (p := ⟨w.heap.size + 1 + 1, 1, none⟩) (by simp <;> omega))) | (go_at_call 27; refine (HMV.out _ (bel_trans (HB.out _ _ _) hb1)).mono ?_; rintro e w2 ⟨rfl, hb2⟩; have g2 : w.heap.size + 1 + 1 < w2.heap.size := Nat.lt_of_lt_of_le g1 hb2.size; have p0 : w.heap.size < w2.heap.size := (by omega); have p1 : w.heap.size + 1 < w2.heap.size := (by omega); have y00 := (hb2.cell (p := ⟨w.heap.size, 0, none⟩) (by simp only; omega)).trans x00; have y01 := (hb2.cell (p := ⟨w.heap.size, 1, none⟩) (by simp only; omega)).trans x01; have y10 := (hb2.cell (p := ⟨w.heap.size + 1, 0, none⟩) (by simp only; omega)).trans x10; have y11 := (hb2.cell (p := ⟨w.heap.size + 1, 1, none⟩) (by simp only; omega)).trans x11; have y20 := (hb2.cell (p := ⟨w.heap.size + 1 + 1, 0, none⟩) (by simp only; omega)).trans x20; have y21 := (hb2.cell (p := ⟨w.heap.size + 1 + 1, 1, none⟩) (by simp only; omega)).trans x21; have yf0 := (hb2.frozen (p := ⟨w.heap.size + 1 + 1, 0, none⟩) (by simp only; omega)).trans xf0; have yf1 := (hb2.frozen (p := ⟨w.heap.size + 1 + 1, 1, none⟩) (by simp only; omega)).trans xf1))
  go_region_law (go_simp; go_at_call 74; (with_reducible refine (HTR.out _ (bel_trans (bel_trans (bel_trans (HB.out _ _ _) hb1) hb2) ((Below.refl _ _).drew))).mono ?_); rintro e w3 ⟨v3, rfl, hown, hb3⟩; obtain ⟨va, vc, hv3⟩ := hown.slice; subst hv3; have u00 := (hb3.cell (p := ⟨w.heap.size, 0, none⟩) p0).trans y00; have u01 := (hb3.cell (p := ⟨w.heap.size, 1, none⟩) p0).trans y01; have u10 := (hb3.cell (p := ⟨w.heap.size + 1, 0, none⟩) p1).trans y10; have u11 := (hb3.cell (p := ⟨w.heap.size + 1, 1, none⟩) p1).trans y11; have u20 := (hb3.cell (p := ⟨w.heap.size + 1 + 1, 0, none⟩) g2).trans y20; have u21 := (hb3.cell (p := ⟨w.heap.size + 1 + 1, 1, none⟩) g2).trans y21; have uf0 := (hb3.frozen (p := ⟨w.heap.size + 1 + 1, 0, none⟩) g2).trans yf0; have uf1 := (hb3.frozen (p := ⟨w.heap.size + 1 + 1, 1, none⟩) g2).trans yf1; have HOWN := Lib.hid hown; clear hown)
  all_goals go_wp2
  all_goals try simp only [Exit.inBlock, Exit.then]
  all_goals refine bodyPost_ret (v := .tuple #[.agg #[.int .i64 m, .slice va (tmL m z z2 z.length).length vc], .bool true]) ?_ rfl ?_
  all_goals first
    | (rw [results_cell_tmp rfl]; go_simp; done)
    | (have hB2 := bel_trans (bel_trans (HB.out _ _ _) hb1) hb2
       have hB3 : Below w.heap.size w w3 := bel_trans (bel_trans hB2 (Below.refl _ _).drew) hb3
       have hch : ∀ u1 u2 : Value, Chg w.heap.size (w.heap.size + 3) w3 ((w3.setCell ⟨w.heap.size + 1 + 1, 0, none⟩ u1).setCell ⟨w.heap.size + 1 + 1, 1, none⟩ u2) := fun u1 u2 => ((Chg.refl _ _ _).setCell (by simp only; omega) (by simp only; omega) _).setCell (by simp only; omega) (by simp only; omega) _
       have hs3 : w2.heap.size ≤ w3.heap.size := hb3.size
       refine ⟨_, rfl, (HOWN.out.chg (hch _ _) (.inl (by show _ ≤ w2.heap.size; omega))).wider (by show _ ≤ w2.heap.size; omega) (by simp) (Nat.le_refl _), (hB3.setCell (by simp only; omega) _).setCell (by simp only; omega) _⟩)
end Go.Proofs.Ytjpikbbpmbeckaa
