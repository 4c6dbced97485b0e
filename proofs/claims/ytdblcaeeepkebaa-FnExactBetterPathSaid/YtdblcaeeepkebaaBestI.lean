/- BestFirst and StopAt, in the program: whole. -/
import Derived.Test.YtdblcaeeepkebaaBestZ
import Derived.Test.YtdblcaeeepkebaaRight
namespace Go.Proofs.Ytdblcaeeepkebaa
open Go.RowKit Go.BigFrame Go.Deep
set_option linter.unusedVariables false
set_option linter.unusedSimpArgs false

/-- What is answered: nothing, if the arguments are not valid. -/
def bfV (ok : Bool) (st : St) : St := if ok = true then st else ⟨[], [], [], 0, []⟩
theorem R3.nil (w : World) : R3 true true w w.heap.size w.heap.size (.slice none 0 0) (.slice none 0 0) (.slice none 0 0) 0 0 0 (cellI []) (cellI []) (cellI []) :=
  ⟨_, _, _, _, _, _, ⟨⟨none, 0, rfl, .inl rfl⟩, ⟨none, 0, rfl, .inl rfl⟩, ⟨none, 0, rfl, .inl rfl⟩⟩, ⟨Nat.le_refl _, Nat.le_refl _, Nat.le_refl _, Nat.le_refl _, Nat.le_refl _, Nat.le_refl _⟩, fun _ => ⟨.inl (Nat.le_refl _), .inl (Nat.le_refl _), .inl (Nat.le_refl _)⟩⟩
theorem R3.nil' (w : World) {lo : Nat} (h : lo ≤ w.heap.size) : R3 true true w lo w.heap.size (.slice none 0 0) (.slice none 0 0) (.slice none 0 0) 0 0 0 (cellI []) (cellI []) (cellI []) := (R3.nil w).wider h (Nat.le_refl _) (Nat.le_refl _)
theorem row_two2 (w : World) (A B : Obj) (a b : Int) : Row (((w.alloc A).alloc B).alloc (.cells #[.int .i64 a, .int .i64 b] 3)) (.slice (some ⟨w.heap.size + 1 + 1, 0, none⟩) 2 2) [a, b] := by
  refine ⟨_, 2, rfl, .inr ⟨w.heap.size + 1 + 1, 0, rfl, by simp, fun i hi => ?_⟩⟩
  have : i = 0 ∨ i = 1 := by simp at hi; omega
  rcases this with rfl | rfl <;> go_simp

set_option maxRecDepth 20000 in
set_option maxHeartbeats 8000000 in
theorem bestFirstO (n m a : Int) (es : List Ed) (s : Value) (w : World) (hs : RowE w s es) (hl : es.length ≤ 281474976710656) :
    Calls Try.prog 55 #[.agg #[.int .i64 n, s], .int .i64 m, .int .i64 a] w fun e w' => ∃ p q r, e = .returned (.tuple #[.agg #[p, q, r, .int .i64 (bfV (onOk n es m [a]) (bfR m (-1) es n.toNat a.toNat)).looks], .bool (onOk n es m [a])]) ∧ (R3 true true w' w.heap.size w'.heap.size p q r (bfV (onOk n es m [a]) (bfR m (-1) es n.toNat a.toNat)).ord.length (bfV (onOk n es m [a]) (bfR m (-1) es n.toNat a.toNat)).par.length (bfV (onOk n es m [a]) (bfR m (-1) es n.toNat a.toNat)).vals.length (cellI (bfV (onOk n es m [a]) (bfR m (-1) es n.toNat a.toNat)).ord) (cellI (bfV (onOk n es m [a]) (bfR m (-1) es n.toNat a.toNat)).par) (cellI (bfV (onOk n es m [a]) (bfR m (-1) es n.toNat a.toNat)).vals) ∧ okS p) ∧ Below w.heap.size w w' := by
  have hB : ∀ (A B C : Obj), Below w.heap.size w (((w.alloc A).alloc B).alloc C) := fun A B C => (((Below.refl _ _).alloc (Nat.le_refl _) _).alloc (by simp) _).alloc (by simp; omega) _
  have ho := fun A B => opsOn n m es [a] s _ _ (hs.keep (hB A B _)) (row_one2 w A B a) hl (by simp)
  have hR := Lib.hid hs
  obtain ⟨ad, cap, rfl, hz0⟩ := hs
  clear hz0
  have HB := Lib.hid hB
  obtain ⟨G, hG⟩ : ∃ G, G = onOk n es m [a] := ⟨_, rfl⟩
  rw [← hG] at ho ⊢
  have HO := Lib.hid ho
  have QG := Lib.hid hG
  clear ho hB hG
  cases G
  · unfold bfV
    rw [if_neg (by decide)]
    go_enter Try.func55, Try.ntmps55
    go_wp2_with (go_at_call 84; refine (HO.out _ _).mono ?_; rintro e w1 ⟨rfl, hb1⟩; have x0 := hb1.cell (p := ⟨w.heap.size + 1, 0, none⟩) (by simp <;> omega); have x1 := hb1.cell (p := ⟨w.heap.size + 1, 1, none⟩) (by simp <;> omega); have x2 := hb1.cell (p := ⟨w.heap.size + 1, 2, none⟩) (by simp <;> omega); have x3 := hb1.cell (p := ⟨w.heap.size + 1, 3, none⟩) (by simp <;> omega); have f0 := hb1.frozen (p := ⟨w.heap.size + 1, 0, none⟩) (by simp <;> omega); have f1 := hb1.frozen (p := ⟨w.heap.size + 1, 1, none⟩) (by simp <;> omega); have f2 := hb1.frozen (p := ⟨w.heap.size + 1, 2, none⟩) (by simp <;> omega); have f3 := hb1.frozen (p := ⟨w.heap.size + 1, 3, none⟩) (by simp <;> omega); have y0 := hb1.cell (p := ⟨w.heap.size, 0, none⟩) (by simp <;> omega); have y1 := hb1.cell (p := ⟨w.heap.size, 1, none⟩) (by simp <;> omega))
    try simp only [Exit.inBlock, Exit.then]
    refine bodyPost_ret (v := .tuple #[.agg #[.slice none 0 0, .slice none 0 0, .slice none 0 0, .int .i64 0], .bool false]) ?_ rfl ?_
    · rw [results_cell_tmp rfl]
      go_simp
    have hbw := bel_trans (HB.out _ _ _) hb1
    exact ⟨_, _, _, rfl, ⟨R3.nil' _ (by have := hbw.size; simp; omega), okS_nil⟩, (((hbw.setCell (by simp) _).setCell (by simp) _).setCell (by simp) _).setCell (by simp) _⟩
  · unfold bfV
    rw [if_pos rfl]
    have hp := onOk_parts QG.out.symm
    obtain ⟨g1, g2, g3, _⟩ := gVal_parts hp.1
    have ha := hp.2.1 a (by simp)
    have hm := hp.2.2
    obtain ⟨N, rfl⟩ := Int.eq_ofNat_of_zero_le (show 0 ≤ n by omega)
    obtain ⟨A, rfl⟩ := Int.eq_ofNat_of_zero_le ha.1
    rw [Int.toNat_natCast, Int.toNat_natCast]
    have hst := fun w' (h : Below w.heap.size w w') => settledUntilO (N := N) (src := A) (-1) hm (hR.out.keep h) hp.1 (by omega)
    have e1 : opsR m true = opsV m := rfl
    rw [e1] at HO
    generalize bfR m (-1) es N A = R at hst ⊢
    obtain ⟨O, hO⟩ : ∃ O, O = opsV m := ⟨_, rfl⟩
    rw [← hO] at hst HO
    have HST := Lib.hid hst
    clear hst hp ha e1 hO
    go_enter Try.func55, Try.ntmps55
    go_wp2_with (first | (go_at_call 84; refine (HO.out _ _).mono ?_; rintro e w1 ⟨rfl, hb1⟩; have x0 := hb1.cell (p := ⟨w.heap.size + 1, 0, none⟩) (by simp <;> omega); have x1 := hb1.cell (p := ⟨w.heap.size + 1, 1, none⟩) (by simp <;> omega); have x2 := hb1.cell (p := ⟨w.heap.size + 1, 2, none⟩) (by simp <;> omega); have x3 := hb1.cell (p := ⟨w.heap.size + 1, 3, none⟩) (by simp <;> omega); have f0 := hb1.frozen (p := ⟨w.heap.size + 1, 0, none⟩) (by simp <;> omega); have f1 := hb1.frozen (p := ⟨w.heap.size + 1, 1, none⟩) (by simp <;> omega); have f2 := hb1.frozen (p := ⟨w.heap.size + 1, 2, none⟩) (by simp <;> omega); have f3 := hb1.frozen (p := ⟨w.heap.size + 1, 3, none⟩) (by simp <;> omega); have y0 := hb1.cell (p := ⟨w.heap.size, 0, none⟩) (by simp <;> omega); have y1 := hb1.cell (p := ⟨w.heap.size, 1, none⟩) (by simp <;> omega)) | (go_at_call 68; refine (HST.out _ (bel_trans (HB.out _ _ _) hb1)).mono ?_; rintro e w2 ⟨p, q, r, rfl, ⟨hr3, hok3⟩, hb2⟩; have HR3 := Lib.hid hr3; have HOK3 := Lib.hid hok3; clear hok3; obtain ⟨pa, pc, qa, qc, ra, rc, rfl, rfl, rfl⟩ := hr3.slices; have z0 := (hb2.cell (p := ⟨w.heap.size + 1, 0, none⟩) (by have := hb1.size; simp at this; simp only; omega)).trans x0; have z1 := (hb2.cell (p := ⟨w.heap.size + 1, 1, none⟩) (by have := hb1.size; simp at this; simp only; omega)).trans x1; have z2 := (hb2.cell (p := ⟨w.heap.size + 1, 2, none⟩) (by have := hb1.size; simp at this; simp only; omega)).trans x2; have z3 := (hb2.cell (p := ⟨w.heap.size + 1, 3, none⟩) (by have := hb1.size; simp at this; simp only; omega)).trans x3; have g0 := (hb2.frozen (p := ⟨w.heap.size + 1, 0, none⟩) (by have := hb1.size; simp at this; simp only; omega)).trans f0; have g1 := (hb2.frozen (p := ⟨w.heap.size + 1, 1, none⟩) (by have := hb1.size; simp at this; simp only; omega)).trans f1; have g2 := (hb2.frozen (p := ⟨w.heap.size + 1, 2, none⟩) (by have := hb1.size; simp at this; simp only; omega)).trans f2; have g3 := (hb2.frozen (p := ⟨w.heap.size + 1, 3, none⟩) (by have := hb1.size; simp at this; simp only; omega)).trans f3))
    try simp only [Exit.inBlock, Exit.then]
    refine bodyPost_ret (v := .tuple #[.agg #[.slice pa R.ord.length pc, .slice qa R.par.length qc, .slice ra R.vals.length rc, .int .i64 R.looks], .bool true]) ?_ rfl ?_
    · rw [results_cell_tmp rfl]
      go_simp
    have hbw := bel_trans (HB.out _ _ _) hb1
    have hs1 : w.heap.size + 2 ≤ w1.heap.size := by have h2 := hb1.size; simp at h2; omega
    have hs2 := hb2.size
    have hch : ∀ x y z u, Chg (w.heap.size + 1) (w.heap.size + 2) w2 ((((w2.setCell ⟨w.heap.size + 1, 0, none⟩ x).setCell ⟨w.heap.size + 1, 1, none⟩ y).setCell ⟨w.heap.size + 1, 2, none⟩ z).setCell ⟨w.heap.size + 1, 3, none⟩ u) := fun x y z u => ((((Chg.refl _ _ _).setCell (by simp only; omega) (by simp only; omega) _).setCell (by simp only; omega) (by simp only; omega) _).setCell (by simp only; omega) (by simp only; omega) _).setCell (by simp only; omega) (by simp only; omega) _
    refine ⟨_, _, _, rfl, ⟨?_, HOK3.out⟩, bel_chg (bel_trans hbw hb2) (hch _ _ _ _) (by omega)⟩
    exact (R3.chg HR3.out (hch _ _ _ _) (.inl (by omega))).wider (by omega) (hch _ _ _ _).size (Nat.le_refl _)
theorem bestFirst (n m a : Int) (es : List Ed) (s : Value) (w : World) (hs : RowE w s es) (hl : es.length ≤ 281474976710656) :
    Calls Try.prog 55 #[.agg #[.int .i64 n, s], .int .i64 m, .int .i64 a] w fun e w' => ∃ p q r, e = .returned (.tuple #[.agg #[p, q, r, .int .i64 (bfV (onOk n es m [a]) (bfR m (-1) es n.toNat a.toNat)).looks], .bool (onOk n es m [a])]) ∧ R3 true true w' w.heap.size w'.heap.size p q r (bfV (onOk n es m [a]) (bfR m (-1) es n.toNat a.toNat)).ord.length (bfV (onOk n es m [a]) (bfR m (-1) es n.toNat a.toNat)).par.length (bfV (onOk n es m [a]) (bfR m (-1) es n.toNat a.toNat)).vals.length (cellI (bfV (onOk n es m [a]) (bfR m (-1) es n.toNat a.toNat)).ord) (cellI (bfV (onOk n es m [a]) (bfR m (-1) es n.toNat a.toNat)).par) (cellI (bfV (onOk n es m [a]) (bfR m (-1) es n.toNat a.toNat)).vals) ∧ Below w.heap.size w w' :=
  (bestFirstO n m a es s w hs hl).mono fun e w' ⟨p, q, r, h1, h2, h3⟩ => ⟨p, q, r, h1, h2.1, h3⟩

end Go.Proofs.Ytdblcaeeepkebaa
