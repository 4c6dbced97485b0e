/- AllPairs: in the model. -/
import Derived.Test.YtdpbmenjangpaaaCloseS
import Derived.Test.YtdpbmenjangpaaaEdgeS
namespace Go.Proofs.Ytdpbmenjangpaaa
open Go.RowKit Go.BigFrame Go.Deep
set_option linter.unusedVariables false
set_option linter.unusedSimpArgs false

theorem apL_sm {n : Int} {es : List Ed} {m : Int} (h : emOk n es m = true) : Sm (apL n es m) := (clOut_sq (emOk_parts h).2 (emL_sq h) _ (Nat.le_refl _)).sm (by have := gVal_n (emOk_parts h).1; omega)

set_option maxRecDepth 20000 in
set_option maxHeartbeats 2000000 in
theorem sAllPairs (n m : Int) (es : List Ed) (s : Value) (w : World) (hs : RowE w s es) (hl : es.length ≤ 281474976710656) :
    Calls Try.prog 32 #[.agg #[.int .i64 n, s], .int .i64 m] w fun e w' => ∃ v, e = .returned (.tuple #[.agg #[.int .i64 (rM (emOk n es m) m), v], .bool (emOk n es m)]) ∧ OwnG w' w.heap.size w'.heap.size v (rL (emOk n es m) (apL n es m)) ∧ Below w.heap.size w w' := by
  have hB : ∀ (A B : Obj), Below w.heap.size w ((w.alloc A).alloc B) := fun A B => ((Below.refl _ _).alloc (Nat.le_refl _) _).alloc (by simp) _
  have ho := fun A B => sEdgeMatrix n m es s ((w.alloc A).alloc B) (hs.keep (hB A B)) hl
  obtain ⟨ad, cap, rfl, hz0⟩ := id hs
  obtain ⟨V, hV⟩ : ∃ V, V = emOk n es m := ⟨_, rfl⟩
  rw [← hV] at ho ⊢
  have HV := Lib.hid hV
  have HB := Lib.hid hB
  clear hz0 hs hB hV
  cases V
  · have e1 : rM false m = 0 := rfl
    have e2 : rL false (apL n es m) = [] := rfl
    have e3 : rL false (emL n es m) = [] := rfl
    rw [e1, e2]
    rw [e1, e3] at ho
    have HO := Lib.hid ho
    clear e1 e2 e3 ho
    go_enter Try.func32, Try.ntmps32
    go_wp2_with (go_at_call 21; refine (HO.out _ _).mono ?_; rintro e w1 ⟨v1, rfl, hown, hb1⟩; have g1 : w.heap.size + 1 < w1.heap.size := Nat.lt_of_lt_of_le (by simp) hb1.size; obtain ⟨va, vc, hv1⟩ := hown.slice; subst hv1; have xr0 := (hb1.cell (p := ⟨w.heap.size + 1, 0, none⟩) (by simp <;> omega)); have xrf0 := (hb1.frozen (p := ⟨w.heap.size + 1, 0, none⟩) (by simp <;> omega)); have xr1 := (hb1.cell (p := ⟨w.heap.size + 1, 1, none⟩) (by simp <;> omega)); have xrf1 := (hb1.frozen (p := ⟨w.heap.size + 1, 1, none⟩) (by simp <;> omega)); have HOWN := Lib.hid hown; clear hown)
    try simp only [Exit.inBlock, Exit.then]
    refine bodyPost_ret (v := .tuple #[.agg #[.int .i64 0, .slice none 0 0], .bool false]) ?_ rfl ?_
    · rw [results_cell_tmp rfl]
      go_simp
    exact ⟨_, rfl, OwnG.nil _ _ _, by
      have h9 := bel_trans (HB.out _ _) hb1
      first | exact ((h9.alloc h9.size _).setCell (by simp) _).setCell (by simp) _ | exact (((h9.setCell (by simp) _).setCell (by simp) _).alloc (by simpa using h9.size) _)⟩
  have e1 : rM true m = m := rfl
  have e2 : rL true (apL n es m) = apL n es m := rfl
  have e3 : rL true (emL n es m) = emL n es m := rfl
  rw [e1, e2]
  rw [e1, e3] at ho
  have HO := Lib.hid ho
  obtain ⟨hg, hm⟩ := emOk_parts HV.out.symm
  have hn := gVal_n hg
  have hsq := emL_sq HV.out.symm
  have hlen : (emL n es m).length = n.toNat := hsq.1
  have hcl := fun s w (h : Grid w s (emL n es m)) => l8Close m (emL n es m) s w h hm (by rw [hlen]; exact hsq) (by omega) (by omega)
  have e4 : clOut m (emL n es m) (emL n es m).length = apL n es m := by unfold apL; rw [hlen]
  rw [e4] at hcl
  have HCL := Lib.hid hcl
  clear e1 e2 e3 e4 ho hg hm hn hsq hlen hcl
  go_enter Try.func32, Try.ntmps32
  go_wp2_with (first | (go_at_call 21; refine (HO.out _ _).mono ?_; rintro e w1 ⟨v1, rfl, hown, hb1⟩; have g1 : w.heap.size + 1 < w1.heap.size := Nat.lt_of_lt_of_le (by simp) hb1.size; obtain ⟨va, vc, hv1⟩ := hown.slice; subst hv1; have xr0 := (hb1.cell (p := ⟨w.heap.size + 1, 0, none⟩) (by simp <;> omega)); have xrf0 := (hb1.frozen (p := ⟨w.heap.size + 1, 0, none⟩) (by simp <;> omega)); have xr1 := (hb1.cell (p := ⟨w.heap.size + 1, 1, none⟩) (by simp <;> omega)); have xrf1 := (hb1.frozen (p := ⟨w.heap.size + 1, 1, none⟩) (by simp <;> omega)); have HOWN := Lib.hid hown; clear hown) | (go_at_call 63; refine (HCL.out _ _ (HOWN.out.keep ((Below.refl _ _).alloc (Nat.le_refl _) _)).grid).mono ?_; rintro e w2 ⟨v2, rfl, hown2, hb2⟩; have hbA := bel_trans ((Below.refl _ _).alloc (Nat.le_refl _) _) hb2; obtain ⟨vb, vd, hv2⟩ := hown2.slice; subst hv2; have yr0 := (hbA.cell (p := ⟨w.heap.size + 1, 0, none⟩) g1).trans xr0; have yrf0 := (hbA.frozen (p := ⟨w.heap.size + 1, 0, none⟩) g1).trans xrf0; have yr1 := (hbA.cell (p := ⟨w.heap.size + 1, 1, none⟩) g1).trans xr1; have yrf1 := (hbA.frozen (p := ⟨w.heap.size + 1, 1, none⟩) g1).trans xrf1; have HOWN2 := Lib.hid hown2; clear hown2))
  try simp only [Exit.inBlock, Exit.then]
  refine bodyPost_ret (v := .tuple #[.agg #[.int .i64 m, .slice vb (apL n es m).length vd], .bool true]) ?_ rfl ?_
  · rw [results_cell_tmp rfl]
    go_simp
  have hB1 := bel_trans (HB.out _ _) hb1
  have hB2 := bel_trans hB1 hbA
  have hch : ∀ u1 u2 : Value, Chg w.heap.size (w.heap.size + 2) w2 ((w2.setCell ⟨w.heap.size + 1, 0, none⟩ u1).setCell ⟨w.heap.size + 1, 1, none⟩ u2) := fun u1 u2 => ((Chg.refl _ _ _).setCell (by simp) (by simp) _).setCell (by simp) (by simp) _
  refine ⟨_, rfl, (HOWN2.out.chg (hch _ _) (.inl (by simp; omega))).wider (by have := hB1.size; simp; omega) (by simp) (Nat.le_refl _), (hB2.setCell (by simp) _).setCell (by simp) _⟩
end Go.Proofs.Ytdpbmenjangpaaa
