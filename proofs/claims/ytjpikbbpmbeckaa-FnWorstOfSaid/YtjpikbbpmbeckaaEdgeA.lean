/- EdgeMatrix and AllPairs: in the program. -/
import Derived.Test.YtjpikbbpmbeckaaEdgeR
namespace Go.Proofs.Ytjpikbbpmbeckaa
open Go.RowKit Go.BigFrame Go.Deep
set_option linter.unusedVariables false
set_option linter.unusedSimpArgs false

/-- A graph and a kind. -/
def emOk (n : Int) (es : List Ed) (m : Int) : Bool := onOk n es m []
def emL (n : Int) (es : List Ed) (m : Int) : List (List Int) := erU m n.toNat es es.length
theorem emOk_parts {n : Int} {es : List Ed} {m : Int} (h : emOk n es m = true) : gVal n es = true ∧ mKind m = true := ⟨(onOk_parts h).1, (onOk_parts h).2.2⟩
theorem emL_sq {n : Int} {es : List Ed} {m : Int} (h : emOk n es m = true) : Sq m n.toNat (emL n es m) := erU_sq (emOk_parts h).2 (gVal_eFit (emOk_parts h).1) _ (Nat.le_refl _)
theorem sq_val {m : Int} {N : Nat} {z : List (List Int)} (hm : mKind m = true) (h : Sq m N z) (h1 : 1 ≤ N) (h2 : N ≤ 12) : mVal m z = true := by
  obtain ⟨hl, hr⟩ := h
  subst hl
  unfold mVal mAll
  rw [mSq_mk h1 h2 (fun i hi => (hr i hi).1), hm, Bool.true_and, Bool.true_and, List.all_eq_true]
  intro x hx
  rw [List.mem_flatten] at hx
  obtain ⟨r, hrm, hx⟩ := hx
  obtain ⟨i, hi, rfl⟩ := List.getElem_of_mem hrm
  obtain ⟨k, hk, rfl⟩ := List.getElem_of_mem hx
  have e : z.getD i [] = z[i] := by simp [List.getD, hi]
  have h3 := hr i hi
  rw [e] at h3
  have := h3.2 k (by omega)
  rwa [getD_of hk] at this

set_option maxRecDepth 20000 in
set_option maxHeartbeats 2000000 in
theorem edgeMatrix (n m : Int) (es : List Ed) (s : Value) (w : World) (hs : RowE w s es) (hl : es.length ≤ 281474976710656) :
    Calls Try.prog 34 #[.agg #[.int .i64 n, s], .int .i64 m] w fun e w' => ∃ v, e = .returned (.tuple #[.agg #[.int .i64 (rM (emOk n es m) m), v], .bool (emOk n es m)]) ∧ OwnG w' w.heap.size w'.heap.size v (rL (emOk n es m) (emL n es m)) ∧ Below w.heap.size w w' := by
  have hB : ∀ (A B : Obj), Below w.heap.size w ((w.alloc A).alloc B) := fun A B => ((Below.refl _ _).alloc (Nat.le_refl _) _).alloc (by simp) _
  have ho := fun A B => opsOn n m es [] s (.slice none 0 0) ((w.alloc A).alloc B) (hs.keep (hB A B)) (Row.nil _) hl (by simp)
  obtain ⟨ad, cap, rfl, hz0⟩ := id hs
  obtain ⟨V, hV⟩ : ∃ V, V = emOk n es m := ⟨_, rfl⟩
  rw [show onOk n es m [] = emOk n es m from rfl, ← hV] at ho
  rw [← hV]
  have HO := Lib.hid ho
  have HB := Lib.hid hB
  have HV := Lib.hid hV
  have HS := Lib.hid hs
  clear hz0 hs ho hB hV
  cases V
  · have e1 : rM false m = 0 := rfl
    have e2 : rL false (emL n es m) = [] := rfl
    rw [e1, e2]
    clear e1 e2
    go_enter Try.func34, Try.ntmps34
    go_wp2_with (go_at_call 79; refine (HO.out _ _).mono ?_; rintro e w1 ⟨rfl, hb1⟩; have g1 : w.heap.size + 1 < w1.heap.size := Nat.lt_of_lt_of_le (by simp) hb1.size; have xg0 := (hb1.cell (p := ⟨w.heap.size, 0, none⟩) (by simp <;> omega)); have xg1 := (hb1.cell (p := ⟨w.heap.size, 1, none⟩) (by simp <;> omega)); have xr0 := (hb1.cell (p := ⟨w.heap.size + 1, 0, none⟩) (by simp <;> omega)); have xrf0 := (hb1.frozen (p := ⟨w.heap.size + 1, 0, none⟩) (by simp <;> omega)); have xr1 := (hb1.cell (p := ⟨w.heap.size + 1, 1, none⟩) (by simp <;> omega)); have xrf1 := (hb1.frozen (p := ⟨w.heap.size + 1, 1, none⟩) (by simp <;> omega)))
    try simp only [Exit.inBlock, Exit.then]
    refine bodyPost_ret (v := .tuple #[.agg #[.int .i64 0, .slice none 0 0], .bool false]) ?_ rfl ?_
    · rw [results_cell_tmp rfl]
      go_simp
    exact ⟨_, rfl, OwnG.nil _ _ _, ((bel_trans (HB.out _ _) hb1).setCell (by simp) _).setCell (by simp) _⟩
  have e1 : rM true m = m := rfl
  have e2 : rL true (emL n es m) = emL n es m := rfl
  rw [e1, e2]
  obtain ⟨hg, hm⟩ := emOk_parts HV.out.symm
  have hn := gVal_n hg
  obtain ⟨N, rfl⟩ := Int.eq_ofNat_of_zero_le (show 0 ≤ n by omega)
  have hop : opsR m true = opsV m := by unfold opsR; rw [if_pos rfl]
  rw [hop] at HO
  have hfit := gVal_eFit hg
  rw [Int.toNat_natCast] at hfit
  have her := fun w' (h : Below w.heap.size w w') => edgeRows m N es _ w' hm (by omega) (by omega) (HS.out.keep h) (by omega) hfit
  have hem : erU m N es es.length = emL (N : Nat) es m := by unfold emL; rw [Int.toNat_natCast]
  rw [hem] at her
  have HER := Lib.hid her
  clear e1 e2 hg hm hn hop hfit her hem
  go_enter Try.func34, Try.ntmps34
  go_wp2_with (first | (go_at_call 79; refine (HO.out _ _).mono ?_; rintro e w1 ⟨rfl, hb1⟩; have g1 : w.heap.size + 1 < w1.heap.size := Nat.lt_of_lt_of_le (by simp) hb1.size; have xg0 := (hb1.cell (p := ⟨w.heap.size, 0, none⟩) (by simp <;> omega)); have xg1 := (hb1.cell (p := ⟨w.heap.size, 1, none⟩) (by simp <;> omega)); have xr0 := (hb1.cell (p := ⟨w.heap.size + 1, 0, none⟩) (by simp <;> omega)); have xrf0 := (hb1.frozen (p := ⟨w.heap.size + 1, 0, none⟩) (by simp <;> omega)); have xr1 := (hb1.cell (p := ⟨w.heap.size + 1, 1, none⟩) (by simp <;> omega)); have xrf1 := (hb1.frozen (p := ⟨w.heap.size + 1, 1, none⟩) (by simp <;> omega))) | (go_at_call 80; refine (HER.out _ (bel_trans (HB.out _ _) hb1)).mono ?_; rintro e w2 ⟨v2, rfl, hown, hb2⟩; obtain ⟨va, vc, hv2⟩ := hown.slice; subst hv2; have yg0 := (hb2.cell (p := ⟨w.heap.size, 0, none⟩) (by simp only; omega)).trans xg0; have yg1 := (hb2.cell (p := ⟨w.heap.size, 1, none⟩) (by simp only; omega)).trans xg1; have yr0 := (hb2.cell (p := ⟨w.heap.size + 1, 0, none⟩) (by simp only; omega)).trans xr0; have yrf0 := (hb2.frozen (p := ⟨w.heap.size + 1, 0, none⟩) (by simp only; omega)).trans xrf0; have yr1 := (hb2.cell (p := ⟨w.heap.size + 1, 1, none⟩) (by simp only; omega)).trans xr1; have yrf1 := (hb2.frozen (p := ⟨w.heap.size + 1, 1, none⟩) (by simp only; omega)).trans xrf1; have HOWN := Lib.hid hown; clear hown))
  try simp only [Exit.inBlock, Exit.then]
  refine bodyPost_ret (v := .tuple #[.agg #[.int .i64 m, .slice va (emL (N : Nat) es m).length vc], .bool true]) ?_ rfl ?_
  · rw [results_cell_tmp rfl]
    go_simp
  have hB1 := bel_trans (HB.out _ _) hb1
  have hB2 := bel_trans hB1 hb2
  have hch : ∀ u1 u2 : Value, Chg w.heap.size (w.heap.size + 2) w2 ((w2.setCell ⟨w.heap.size + 1, 0, none⟩ u1).setCell ⟨w.heap.size + 1, 1, none⟩ u2) := fun u1 u2 => ((Chg.refl _ _ _).setCell (by simp) (by simp) _).setCell (by simp) (by simp) _
  refine ⟨_, rfl, (HOWN.out.chg (hch _ _) (.inl (by omega))).wider hB1.size (by simp) (Nat.le_refl _), (hB2.setCell (by simp) _).setCell (by simp) _⟩

def apL (n : Int) (es : List Ed) (m : Int) : List (List Int) := clOut m (emL n es m) n.toNat

set_option maxRecDepth 20000 in
set_option maxHeartbeats 2000000 in
theorem allPairs (n m : Int) (es : List Ed) (s : Value) (w : World) (hs : RowE w s es) (hl : es.length ≤ 281474976710656) :
    Calls Try.prog 38 #[.agg #[.int .i64 n, s], .int .i64 m] w fun e w' => ∃ v, e = .returned (.tuple #[.agg #[.int .i64 (rM (emOk n es m) m), v], .bool (emOk n es m)]) ∧ OwnG w' w.heap.size w'.heap.size v (rL (emOk n es m) (apL n es m)) ∧ Below w.heap.size w w' := by
  have hB : ∀ (A B : Obj), Below w.heap.size w ((w.alloc A).alloc B) := fun A B => ((Below.refl _ _).alloc (Nat.le_refl _) _).alloc (by simp) _
  have ho := fun A B => edgeMatrix n m es s ((w.alloc A).alloc B) (hs.keep (hB A B)) hl
  obtain ⟨ad, cap, rfl, hz0⟩ := id hs
  obtain ⟨V, hV⟩ : ∃ V, V = emOk n es m := ⟨_, rfl⟩
  rw [← hV] at ho ⊢
  have HV := Lib.hid hV
  have HB := Lib.hid hB
  clear hz0 hs hB hV
  cases V
  · have e1 : rM false m = 0 := rfl
    have e2 : rL false (apL n es m) = [] := rfl
    have e3 : rL false (emL n es m) = [] := rfl
    rw [e1, e2]
    rw [e1, e3] at ho
    have HO := Lib.hid ho
    clear e1 e2 e3 ho
    go_enter Try.func38, Try.ntmps38
    go_wp2_with (go_at_call 34; refine (HO.out _ _).mono ?_; rintro e w1 ⟨v1, rfl, hown, hb1⟩; have g1 : w.heap.size + 1 < w1.heap.size := Nat.lt_of_lt_of_le (by simp) hb1.size; obtain ⟨va, vc, hv1⟩ := hown.slice; subst hv1; have xr0 := (hb1.cell (p := ⟨w.heap.size + 1, 0, none⟩) (by simp <;> omega)); have xrf0 := (hb1.frozen (p := ⟨w.heap.size + 1, 0, none⟩) (by simp <;> omega)); have xr1 := (hb1.cell (p := ⟨w.heap.size + 1, 1, none⟩) (by simp <;> omega)); have xrf1 := (hb1.frozen (p := ⟨w.heap.size + 1, 1, none⟩) (by simp <;> omega)); have HOWN := Lib.hid hown; clear hown)
    try simp only [Exit.inBlock, Exit.then]
    refine bodyPost_ret (v := .tuple #[.agg #[.int .i64 0, .slice none 0 0], .bool false]) ?_ rfl ?_
    · rw [results_cell_tmp rfl]
      go_simp
    exact ⟨_, rfl, OwnG.nil _ _ _, by
      have h9 := bel_trans (HB.out _ _) hb1
      first | exact ((h9.alloc h9.size _).setCell (by simp) _).setCell (by simp) _ | exact (((h9.setCell (by simp) _).setCell (by simp) _).alloc (by simpa using h9.size) _)⟩
  have e1 : rM true m = m := rfl
  have e2 : rL true (apL n es m) = apL n es m := rfl
  have e3 : rL true (emL n es m) = emL n es m := rfl
  rw [e1, e2]
  rw [e1, e3] at ho
  have HO := Lib.hid ho
  obtain ⟨hg, hm⟩ := emOk_parts HV.out.symm
  have hn := gVal_n hg
  have hsq := emL_sq HV.out.symm
  have hv := sq_val hm hsq (by omega) (by omega)
  have hlen : (emL n es m).length = n.toNat := hsq.1
  have hcl := fun s w (h : GridO w s (emL n es m)) => closeMatrix m (emL n es m) s w h (by omega) (fun i hi => by have := (hsq.2 i (by omega)).1; omega)
  have e4 : rL true (clOut m (emL n es m) (emL n es m).length) = apL n es m := by unfold apL; rw [hlen]; rfl
  rw [hv, e1, e4] at hcl
  have HCL := Lib.hid hcl
  clear e1 e2 e3 e4 ho hg hm hn hsq hv hlen hcl
  go_enter Try.func38, Try.ntmps38
  go_wp2_with (first | (go_at_call 34; refine (HO.out _ _).mono ?_; rintro e w1 ⟨v1, rfl, hown, hb1⟩; have g1 : w.heap.size + 1 < w1.heap.size := Nat.lt_of_lt_of_le (by simp) hb1.size; obtain ⟨va, vc, hv1⟩ := hown.slice; subst hv1; have xr0 := (hb1.cell (p := ⟨w.heap.size + 1, 0, none⟩) (by simp <;> omega)); have xrf0 := (hb1.frozen (p := ⟨w.heap.size + 1, 0, none⟩) (by simp <;> omega)); have xr1 := (hb1.cell (p := ⟨w.heap.size + 1, 1, none⟩) (by simp <;> omega)); have xrf1 := (hb1.frozen (p := ⟨w.heap.size + 1, 1, none⟩) (by simp <;> omega)); have HOWN := Lib.hid hown; clear hown) | (go_at_call 85; refine (HCL.out _ _ (HOWN.out.keep ((Below.refl _ _).alloc (Nat.le_refl _) _)).gridO).mono ?_; rintro e w2 ⟨v2, rfl, hown2, hb2⟩; have hbA := bel_trans ((Below.refl _ _).alloc (Nat.le_refl _) _) hb2; obtain ⟨vb, vd, hv2⟩ := hown2.slice; subst hv2; have yr0 := (hbA.cell (p := ⟨w.heap.size + 1, 0, none⟩) g1).trans xr0; have yrf0 := (hbA.frozen (p := ⟨w.heap.size + 1, 0, none⟩) g1).trans xrf0; have yr1 := (hbA.cell (p := ⟨w.heap.size + 1, 1, none⟩) g1).trans xr1; have yrf1 := (hbA.frozen (p := ⟨w.heap.size + 1, 1, none⟩) g1).trans xrf1; have HOWN2 := Lib.hid hown2; clear hown2))
  try simp only [Exit.inBlock, Exit.then]
  refine bodyPost_ret (v := .tuple #[.agg #[.int .i64 m, .slice vb (apL n es m).length vd], .bool true]) ?_ rfl ?_
  · rw [results_cell_tmp rfl]
    go_simp
  have hB1 := bel_trans (HB.out _ _) hb1
  have hB2 := bel_trans hB1 hbA
  have hch : ∀ u1 u2 : Value, Chg w.heap.size (w.heap.size + 2) w2 ((w2.setCell ⟨w.heap.size + 1, 0, none⟩ u1).setCell ⟨w.heap.size + 1, 1, none⟩ u2) := fun u1 u2 => ((Chg.refl _ _ _).setCell (by simp) (by simp) _).setCell (by simp) (by simp) _
  refine ⟨_, rfl, (HOWN2.out.chg (hch _ _) (.inl (by simp; omega))).wider (by have := hB1.size; simp; omega) (by simp) (Nat.le_refl _), (hB2.setCell (by simp) _).setCell (by simp) _⟩
end Go.Proofs.Ytjpikbbpmbeckaa
