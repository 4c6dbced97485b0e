/- ViewOf of the model, whole. -/
import Derived.Test.YtjcfefpcilhelaaViewS
namespace Go.Proofs.Ytjcfefpcilhelaa
open Go.RowKit Go.BigFrame Go.Deep
set_option linter.unusedVariables false
set_option linter.unusedSimpArgs false
set_option linter.unnecessarySimpa false

set_option maxRecDepth 20000 in
set_option maxHeartbeats 2000000 in
theorem sViewOf (n m a : Int) (es : List Ed) (s : Value) (w : World) (hs : RowE w s es) (hl : es.length ≤ 281474976710656) :
    Calls Try.prog 16 #[.agg #[.int .i64 n, s], .int .i64 m, .int .i64 a] w fun e w' =>
      ∃ v, e = .returned (.tuple #[.agg #[.int .i64 (stM n es m a), .int .i64 (stA n es m a), v], .bool (onOk n es m [a])]) ∧ OwnV w w' v (voL n es m a) ∧ okS v ∧ Below w.heap.size w w' := by
  have hB : ∀ (A B : Obj), Below w.heap.size w ((w.alloc A).alloc B) := fun A B => ((Below.refl _ _).alloc (Nat.le_refl _) _).alloc (by simp) _
  have hR := Lib.hid hs
  have ho := fun A B => l3Right n m a es s ((w.alloc A).alloc B) (hs.keep (hB A B)) hl
  obtain ⟨ad, cap, rfl, hz0⟩ := hs
  clear hz0
  have HB := Lib.hid hB
  unfold stM stA voL
  obtain ⟨G, hG⟩ : ∃ G, G = onOk n es m [a] := ⟨_, rfl⟩
  rw [← hG] at ho ⊢
  have HO := Lib.hid ho
  have QG := Lib.hid hG
  clear ho hB hG
  cases G
  · rw [if_neg (by decide), if_neg (by decide), if_neg (by decide)]
    go_enter Try.func16, Try.ntmps16
    go_wp2_with (go_at_call 57; refine (HO.out _ _).mono ?_; rintro e w1 ⟨rfl, hb1⟩; have x0 := hb1.cell (p := ⟨w.heap.size + 1, 0, none⟩) (by simp <;> omega); have x1 := hb1.cell (p := ⟨w.heap.size + 1, 1, none⟩) (by simp <;> omega); have x2 := hb1.cell (p := ⟨w.heap.size + 1, 2, none⟩) (by simp <;> omega); have f0 := hb1.frozen (p := ⟨w.heap.size + 1, 0, none⟩) (by simp <;> omega); have f1 := hb1.frozen (p := ⟨w.heap.size + 1, 1, none⟩) (by simp <;> omega); have f2 := hb1.frozen (p := ⟨w.heap.size + 1, 2, none⟩) (by simp <;> omega))
    try simp only [Exit.inBlock, Exit.then]
    refine bodyPost_ret (v := .tuple #[.agg #[.int .i64 0, .int .i64 0, .slice none 0 0], .bool false]) ?_ rfl ?_
    · rw [results_cell_tmp rfl]
      go_simp
    exact ⟨_, rfl, OwnV.nil _ _, okS_nil, (((bel_trans (HB.out _ _) hb1).setCell (by simp) _).setCell (by simp) _).setCell (by simp) _⟩
  · rw [if_pos rfl, if_pos rfl, if_pos rfl]
    have hp := onOk_parts QG.out.symm
    have hn := gVal_n hp.1
    have he := eAll_of hp.1
    have ha := hp.2.1 a (List.mem_singleton.2 rfl)
    have hm := hp.2.2
    obtain ⟨N, rfl⟩ := Int.eq_ofNat_of_zero_le (show 0 ≤ n by omega)
    obtain ⟨A, rfl⟩ := Int.eq_ofNat_of_zero_le ha.1
    rw [Int.toNat_natCast] at he
    rw [Int.toNat_natCast]
    have hst := fun w' (h : Below w.heap.size w w') => l3View m es N A _ w' hm (hR.out.keep h) (by omega) (by omega) (by omega) he
    obtain ⟨L, hL⟩ : ∃ L, L = vIter m es N (vStart m N A) := ⟨_, rfl⟩
    rw [← hL] at hst ⊢
    have HST := Lib.hid hst
    clear hst hp hn ha he hL
    go_enter Try.func16, Try.ntmps16
    go_wp2_with (first | (go_at_call 57; refine (HO.out _ _).mono ?_; rintro e w1 ⟨rfl, hb1⟩; have x0 := hb1.cell (p := ⟨w.heap.size + 1, 0, none⟩) (by simp <;> omega); have x1 := hb1.cell (p := ⟨w.heap.size + 1, 1, none⟩) (by simp <;> omega); have x2 := hb1.cell (p := ⟨w.heap.size + 1, 2, none⟩) (by simp <;> omega); have f0 := hb1.frozen (p := ⟨w.heap.size + 1, 0, none⟩) (by simp <;> omega); have f1 := hb1.frozen (p := ⟨w.heap.size + 1, 1, none⟩) (by simp <;> omega); have f2 := hb1.frozen (p := ⟨w.heap.size + 1, 2, none⟩) (by simp <;> omega); have y0 := hb1.cell (p := ⟨w.heap.size, 0, none⟩) (by simp <;> omega); have y1 := hb1.cell (p := ⟨w.heap.size, 1, none⟩) (by simp <;> omega)) | (go_at_call 58; refine (HST.out _ (bel_trans (HB.out _ _) hb1)).mono ?_; rintro e w2 ⟨v, rfl, hown, hok, hb2⟩; obtain ⟨va, vc, rfl⟩ := hown.slice; have z0 := hb2.cell (p := ⟨w.heap.size + 1, 0, none⟩) (Nat.lt_of_lt_of_le (by simp <;> omega) hb1.size); have z1 := hb2.cell (p := ⟨w.heap.size + 1, 1, none⟩) (Nat.lt_of_lt_of_le (by simp <;> omega) hb1.size); have z2 := hb2.cell (p := ⟨w.heap.size + 1, 2, none⟩) (Nat.lt_of_lt_of_le (by simp <;> omega) hb1.size); have g0 := hb2.frozen (p := ⟨w.heap.size + 1, 0, none⟩) (Nat.lt_of_lt_of_le (by simp <;> omega) hb1.size); have g1 := hb2.frozen (p := ⟨w.heap.size + 1, 1, none⟩) (Nat.lt_of_lt_of_le (by simp <;> omega) hb1.size); have g2 := hb2.frozen (p := ⟨w.heap.size + 1, 2, none⟩) (Nat.lt_of_lt_of_le (by simp <;> omega) hb1.size); have HW := Lib.hid hown; have HOK := Lib.hid hok; clear hown hok))
    try simp only [Exit.inBlock, Exit.then]
    refine bodyPost_ret (v := .tuple #[.agg #[.int .i64 m, .int .i64 A, .slice va L.length vc], .bool true]) ?_ rfl ?_
    · rw [results_cell_tmp rfl]
      go_simp
    have hB1 := bel_trans (HB.out _ _) hb1
    have hs1 : w.heap.size + 2 ≤ w1.heap.size := by have h2 := hb1.size; simp at h2; omega
    have hs2 := hb2.size
    have hch : ∀ x y z, Chg (w.heap.size + 1) (w.heap.size + 2) w2 (((w2.setCell ⟨w.heap.size + 1, 0, none⟩ x).setCell ⟨w.heap.size + 1, 1, none⟩ y).setCell ⟨w.heap.size + 1, 2, none⟩ z) := fun x y z => (((Chg.refl _ _ _).setCell (by simp only; omega) (by simp only; omega) _).setCell (by simp only; omega) (by simp only; omega) _).setCell (by simp only; omega) (by simp only; omega) _
    refine ⟨_, rfl, ?_, HOK.out, bel_chg (bel_trans hB1 hb2) (hch _ _ _) (by omega)⟩
    have h1 := InR.chg HW.out (hch (.int .i64 m) (.int .i64 A) (.slice va L.length vc)) (.inl (by omega))
    exact h1.wider (by omega) (hch _ _ _).size (Nat.le_refl _)
end Go.Proofs.Ytjcfefpcilhelaa
