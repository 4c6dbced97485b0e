/- RelaxAll: in the model. -/
import Derived.Test.YtbcbknebjbelmaaRelaxJ
import Derived.Test.YtbcbknebjbelmaaRelaxS
namespace Go.Proofs.Ytbcbknebjbelmaa
open Go.RowKit Go.BigFrame Go.Deep
set_option linter.unusedVariables false
set_option linter.unusedSimpArgs false

set_option maxRecDepth 20000 in
set_option maxHeartbeats 4000000 in
theorem sRelaxAll (n m a : Int) (es : List Ed) (zs : List Int) (s t : Value) (w : World) (hs : RowE w s es) (ht : Row w t zs) (hl : es.length ≤ 281474976710656) (hl2 : zs.length ≤ 281474976710656) :
    Calls Try.prog 30 #[.agg #[.int .i64 n, s], .agg #[.int .i64 m, .int .i64 a, t]] w fun e w' =>
      ∃ v, e = .returned (.tuple #[.agg #[.int .i64 (rxM n es m a zs), .int .i64 (rxA n es m a zs), v], .bool (vVal n es m a zs)]) ∧ OwnV w w' v (rxL n es m a zs) ∧ okS v ∧ Below w.heap.size w w' := by
  have hB : ∀ (A B C : Obj), Below w.heap.size w (((w.alloc A).alloc B).alloc C) := fun A B C => (((Below.refl _ _).alloc (Nat.le_refl _) _).alloc (by simp) _).alloc (by simp; omega) _
  have ho := fun A B C => sViewValid n m a es zs s t _ (hs.keep (hB A B C)) (ht.keep (hB A B C)) hl hl2
  have hR := Lib.hid hs
  have hT := Lib.hid ht
  obtain ⟨ad, cap, rfl, hz0⟩ := hs
  obtain ⟨ad2, cap2, rfl, hy0⟩ := ht
  clear hz0 hy0
  have HB := Lib.hid hB
  unfold rxM rxA rxL
  obtain ⟨G, hG⟩ : ∃ G, G = vVal n es m a zs := ⟨_, rfl⟩
  rw [← hG] at ho ⊢
  have HO := Lib.hid ho
  have QG := Lib.hid hG
  clear ho hB hG
  cases G
  · rw [if_neg (by decide), if_neg (by decide), if_neg (by decide)]
    go_enter Try.func30, Try.ntmps30
    go_wp2_with (go_at_call 17; refine (HO.out _ _ _).mono ?_; rintro e w1 ⟨rfl, hb1⟩; have xg0 := hb1.cell (p := ⟨w.heap.size, 0, none⟩) (by simp <;> omega); have xg1 := hb1.cell (p := ⟨w.heap.size, 1, none⟩) (by simp <;> omega); have xv0 := hb1.cell (p := ⟨w.heap.size + 1, 0, none⟩) (by simp <;> omega); have xv1 := hb1.cell (p := ⟨w.heap.size + 1, 1, none⟩) (by simp <;> omega); have xv2 := hb1.cell (p := ⟨w.heap.size + 1, 2, none⟩) (by simp <;> omega); have xr0 := hb1.cell (p := ⟨w.heap.size + 1 + 1, 0, none⟩) (by simp <;> omega); have xr1 := hb1.cell (p := ⟨w.heap.size + 1 + 1, 1, none⟩) (by simp <;> omega); have xr2 := hb1.cell (p := ⟨w.heap.size + 1 + 1, 2, none⟩) (by simp <;> omega); have fr0 := hb1.frozen (p := ⟨w.heap.size + 1 + 1, 0, none⟩) (by simp <;> omega); have fr1 := hb1.frozen (p := ⟨w.heap.size + 1 + 1, 1, none⟩) (by simp <;> omega); have fr2 := hb1.frozen (p := ⟨w.heap.size + 1 + 1, 2, none⟩) (by simp <;> omega))
    try simp only [Exit.inBlock, Exit.then]
    refine bodyPost_ret (v := .tuple #[.agg #[.int .i64 0, .int .i64 0, .slice none 0 0], .bool false]) ?_ rfl ?_
    · rw [results_cell_tmp rfl]
      go_simp
    exact ⟨_, rfl, OwnV.nil _ _, okS_nil, (((bel_trans (HB.out _ _ _) hb1).setCell (by simp; omega) _).setCell (by simp; omega) _).setCell (by simp; omega) _⟩
  · rw [if_pos rfl, if_pos rfl, if_pos rfl]
    have hu := vVal_use QG.out.symm
    have hrv := fun w' (h : Below w.heap.size w w') => l3Relax n m a es zs _ _ w' hu.1 (hR.out.keep h) (hT.out.keep h) (by omega) (by omega) hu.2.1 hu.2.2.2.2.1 hu.2.2.2.2.2
    obtain ⟨L, hL⟩ : ∃ L, L = vRelax m es zs := ⟨_, rfl⟩
    rw [← hL] at hrv ⊢
    have HRV := Lib.hid hrv
    clear hrv hu hL
    go_enter Try.func30, Try.ntmps30
    go_wp2_with (first | (go_at_call 17; refine (HO.out _ _ _).mono ?_; rintro e w1 ⟨rfl, hb1⟩; have xg0 := hb1.cell (p := ⟨w.heap.size, 0, none⟩) (by simp <;> omega); have xg1 := hb1.cell (p := ⟨w.heap.size, 1, none⟩) (by simp <;> omega); have xv0 := hb1.cell (p := ⟨w.heap.size + 1, 0, none⟩) (by simp <;> omega); have xv1 := hb1.cell (p := ⟨w.heap.size + 1, 1, none⟩) (by simp <;> omega); have xv2 := hb1.cell (p := ⟨w.heap.size + 1, 2, none⟩) (by simp <;> omega); have xr0 := hb1.cell (p := ⟨w.heap.size + 1 + 1, 0, none⟩) (by simp <;> omega); have xr1 := hb1.cell (p := ⟨w.heap.size + 1 + 1, 1, none⟩) (by simp <;> omega); have xr2 := hb1.cell (p := ⟨w.heap.size + 1 + 1, 2, none⟩) (by simp <;> omega); have fr0 := hb1.frozen (p := ⟨w.heap.size + 1 + 1, 0, none⟩) (by simp <;> omega); have fr1 := hb1.frozen (p := ⟨w.heap.size + 1 + 1, 1, none⟩) (by simp <;> omega); have fr2 := hb1.frozen (p := ⟨w.heap.size + 1 + 1, 2, none⟩) (by simp <;> omega)) | (go_at_call 63; refine (HRV.out _ (bel_trans (HB.out _ _ _) hb1)).mono ?_; rintro e w2 ⟨v, rfl, hown, hok, hb2⟩; obtain ⟨va, vc, rfl⟩ := hown.slice; have z0 := hb2.cell (p := ⟨w.heap.size + 1 + 1, 0, none⟩) (Nat.lt_of_lt_of_le (by simp <;> omega) hb1.size); have z1 := hb2.cell (p := ⟨w.heap.size + 1 + 1, 1, none⟩) (Nat.lt_of_lt_of_le (by simp <;> omega) hb1.size); have z2 := hb2.cell (p := ⟨w.heap.size + 1 + 1, 2, none⟩) (Nat.lt_of_lt_of_le (by simp <;> omega) hb1.size); have g0 := hb2.frozen (p := ⟨w.heap.size + 1 + 1, 0, none⟩) (Nat.lt_of_lt_of_le (by simp <;> omega) hb1.size); have g1 := hb2.frozen (p := ⟨w.heap.size + 1 + 1, 1, none⟩) (Nat.lt_of_lt_of_le (by simp <;> omega) hb1.size); have g2 := hb2.frozen (p := ⟨w.heap.size + 1 + 1, 2, none⟩) (Nat.lt_of_lt_of_le (by simp <;> omega) hb1.size); have HW := Lib.hid hown; have HOK := Lib.hid hok; clear hown hok))
    try simp only [Exit.inBlock, Exit.then]
    refine bodyPost_ret (v := .tuple #[.agg #[.int .i64 m, .int .i64 a, .slice va L.length vc], .bool true]) ?_ rfl ?_
    · rw [results_cell_tmp rfl]
      go_simp
    have hbw := bel_trans (HB.out _ _ _) hb1
    have hs1 : w.heap.size + 3 ≤ w1.heap.size := by have h2 := hb1.size; simp at h2; omega
    have hs2 : w1.heap.size ≤ w2.heap.size := hb2.size
    have hch : ∀ x y z, Chg (w.heap.size + 2) (w.heap.size + 3) w2 (((w2.setCell ⟨w.heap.size + 1 + 1, 0, none⟩ x).setCell ⟨w.heap.size + 1 + 1, 1, none⟩ y).setCell ⟨w.heap.size + 1 + 1, 2, none⟩ z) := fun x y z => (((Chg.refl _ _ _).setCell (by simp only; omega) (by simp only; omega) _).setCell (by simp only; omega) (by simp only; omega) _).setCell (by simp only; omega) (by simp only; omega) _
    refine ⟨_, rfl, ?_, HOK.out, bel_chg (bel_trans hbw hb2) (hch _ _ _) (by omega)⟩
    have h1 := InR.chg (InR.wider HW.out (l := w1.heap.size) (h := w2.heap.size) (Nat.le_refl _) (Nat.le_refl _) (Nat.le_refl _)) (hch (.int .i64 m) (.int .i64 a) (.slice va L.length vc)) (.inl (by omega))
    exact h1.wider (by omega) (hch _ _ _).size (Nat.le_refl _)
end Go.Proofs.Ytbcbknebjbelmaa
