/- A matrix that is changed by an edge: in the model. -/
import Derived.Test.YtdpbmenjangpaaaCopyS
import Derived.Test.YtdpbmenjangpaaaPutPair
import Derived.Test.YtdpbmenjangpaaaMatL
namespace Go.Proofs.Ytdpbmenjangpaaa
open Go.RowKit Go.BigFrame Go.Deep
set_option linter.unusedVariables false
set_option linter.unusedSimpArgs false

theorem Box.chgP {w w' : World} {B lo hi : Nat} {t : TypeId} {cs : Array Value} (h : Box w B t cs) (c : Chg lo hi w w') (d : B < lo ∨ hi ≤ B) : Box w' B t cs := (c.block B h.lt d).trans h
theorem quietP {P : Program} {f : FuncId} {args : Array Value} {W w : World} {v : Value} (h : Calls P f args w fun e w' => e = .returned v ∧ w = w') (hw : w = W) :
    Calls P f args w fun e w' => e = .returned v ∧ w' = W := h.mono fun _ _ ⟨he, hb⟩ => ⟨he, by rw [← hb]; exact hw⟩
/-- Row i, of which k elements are changed. -/
def ppMid (m : Int) (z : List (List Int)) (X Y : Nat) (p : Int) (i k : Nat) : List (List Int) := (ppU m z X Y p i).set i (imU m (z.getD i []) (mJoin m ((z.getD i []).getD X 0) (mEdge m p)) (z.getD Y []) k)
theorem ppMid_zero (m : Int) (z : List (List Int)) (X Y : Nat) (p : Int) {i : Nat} (h : i < z.length) : ppMid m z X Y p i 0 = ppU m z X Y p i := by
  unfold ppMid
  rw [imU_zero]
  refine gl_ext (by rw [List.length_set]) (fun j hj => ?_)
  rw [List.length_set, ppU_len] at hj
  rw [getD_setL _ _ _ _ (by rw [ppU_len]; exact hj)]
  by_cases e : i = j
  · subst e; rw [if_pos rfl, ppU_at _ _ _ _ _ _ hj, if_neg (Nat.lt_irrefl _)]
  · rw [if_neg e]
theorem ppMid_last (m : Int) (z : List (List Int)) (X Y : Nat) (p : Int) {i N : Nat} (h : i < z.length) (hl : (z.getD i []).length = N) : ppMid m z X Y p i N = ppU m z X Y p (i + 1) := by
  rw [ppU_succ m z X Y p h, ← hl]
  rfl
theorem ppMid_len (m : Int) (z : List (List Int)) (X Y : Nat) (p : Int) (i k : Nat) : (ppMid m z X Y p i k).length = z.length := by unfold ppMid; rw [List.length_set, ppU_len]
theorem ppMid_row (m : Int) (z : List (List Int)) (X Y : Nat) (p : Int) {i : Nat} (k : Nat) (h : i < z.length) : (ppMid m z X Y p i k).getD i [] = imU m (z.getD i []) (mJoin m ((z.getD i []).getD X 0) (mEdge m p)) (z.getD Y []) k := by
  unfold ppMid
  rw [getD_setL _ _ _ _ (by rw [ppU_len]; exact h), if_pos rfl]
theorem ppMid_step (m : Int) (z : List (List Int)) (X Y : Nat) (p : Int) {i k : Nat} (h : i < z.length) (hk : k < (z.getD i []).length) :
    ppMid m z X Y p i (k + 1) = (ppMid m z X Y p i k).set i (((ppMid m z X Y p i k).getD i []).set k (mBest m ((z.getD i []).getD k 0) (mJoin m (mJoin m ((z.getD i []).getD X 0) (mEdge m p)) ((z.getD Y []).getD k 0)))) := by
  rw [ppMid_row _ _ _ _ _ _ h]
  unfold ppMid
  rw [imU_succ _ _ _ _ hk]
  refine gl_ext (by simp) (fun j hj => ?_)
  rw [List.length_set] at hj
  rw [getD_setL _ _ _ _ hj, getD_setL _ _ _ _ (by rw [List.length_set]; exact hj), getD_setL _ _ _ _ hj]
  by_cases e : i = j
  · rw [if_pos e, if_pos e]
  · rw [if_neg e, if_neg e, if_neg e]

set_option maxRecDepth 20000 in
set_option maxHeartbeats 4000000 in
theorem sPutPair (m x y p : Int) (z : List (List Int)) (s : Value) (w : World) (hs : Grid w s z) (hl : z.length ≤ 281474976710656) (hl2 : ∀ i, i < z.length → (z.getD i []).length ≤ 281474976710656) :
    Calls Try.prog 34 #[.agg #[.int .i64 m, s], .agg #[.int .i64 x, .int .i64 y, .int .i64 p]] w fun e w' => ∃ v, e = .returned (.tuple #[.agg #[.int .i64 (rM (pOk m z x y p) m), v], .bool (pOk m z x y p)]) ∧ OwnG w' w.heap.size w'.heap.size v (rL (pOk m z x y p) (ppL m z x y p)) ∧ Below w.heap.size w w' := by
  have hB : ∀ (A B C : Obj), Below w.heap.size w (((w.alloc A).alloc B).alloc C) := fun A B C => (((Below.refl _ _).alloc (Nat.le_refl _) _).alloc (by simp) _).alloc (by simp; omega) _
  obtain ⟨ad, cap, rfl, hz0⟩ := id hs
  have hv := fun A B C => sMatrixValid m z _ (((w.alloc A).alloc B).alloc C) (hs.keep (hB A B C)) hl hl2
  have hwt := fun w => sWeight p w
  obtain ⟨V, hV⟩ : ∃ V, V = mVal m z := ⟨_, rfl⟩
  obtain ⟨K, hK⟩ : ∃ K, K = mWeight p := ⟨_, rfl⟩
  rw [← hV] at hv
  rw [← hK] at hwt
  have hpb : ∀ w', Below (((w.alloc (.cells #[.int .i64 m, .slice ad z.length cap] 27)).alloc (.cells #[.int .i64 x, .int .i64 y, .int .i64 p] 55)).alloc (.cells #[.int .i64 0, .slice none 0 0] 27)).heap.size (((w.alloc (.cells #[.int .i64 m, .slice ad z.length cap] 27)).alloc (.cells #[.int .i64 x, .int .i64 y, .int .i64 p] 55)).alloc (.cells #[.int .i64 0, .slice none 0 0] 27)) w' → PBox w' w.heap.size m (.slice ad z.length cap) x y p := by
    intro w' h
    refine PBox.keep (w := (((w.alloc (.cells #[.int .i64 m, .slice ad z.length cap] 27)).alloc (.cells #[.int .i64 x, .int .i64 y, .int .i64 p] 55)).alloc (.cells #[.int .i64 0, .slice none 0 0] 27))) ?_ h
    refine ⟨by simp, ?_, ?_, ?_, ?_, ?_, ?_, ?_, ?_, ?_⟩ <;> go_simp
  have HPB := Lib.hid hpb
  have HO := Lib.hid hv
  have HWT := Lib.hid hwt
  have HB := Lib.hid hB
  have HV := Lib.hid hV
  have QK := Lib.hid hK
  have HS := Lib.hid hs
  have hz := Lib.hid hz0
  obtain ⟨R, hR⟩ : ∃ R, R = pOk m z x y p := ⟨_, rfl⟩
  rw [← hR]
  have HR := Lib.hid hR
  clear hz0 hs hl2 hv hwt hB hV hK hR hpb
  have e1 : rM false m = 0 := rfl
  have e2 : rL false (ppL m z x y p) = [] := rfl
  cases V
  · have e0 : R = false := by rw [HR.out]; unfold pOk; rw [← HV.out]; rfl
    rw [e0, e1, e2]
    clear e0 e1 e2
    go_enter Try.func34, Try.ntmps34
    go_wp2_with (first | (go_at_call 12; refine (HO.out _ _ _).mono ?_; rintro e w1 ⟨rfl, hb1⟩; obtain ⟨l9, b0, b1, b2, b3, b4, b5, b6, b7, b8⟩ := HPB.out w1 hb1) | (go_at_call 66; refine (HWT.out _).mono ?_; rintro e w2 ⟨rfl, rfl⟩))
    try simp only [Exit.inBlock, Exit.then]
    refine bodyPost_ret (v := .tuple #[.agg #[.int .i64 0, .slice none 0 0], .bool false]) ?_ rfl ?_
    · rw [results_cell_tmp rfl]
      go_simp
    exact ⟨_, rfl, OwnG.nil _ _ _, ((bel_trans (HB.out _ _ _) hb1).setCell (by simp <;> omega) _).setCell (by simp <;> omega) _⟩
  by_cases h1 : x < 0
  · have e0 : R = false := by rw [HR.out]; unfold pOk eFits; have : decide (0 ≤ x) = false := by simp; omega
                              rw [this]; simp
    rw [e0, e1, e2]
    clear e0 e1 e2
    go_enter Try.func34, Try.ntmps34
    go_wp2_with (first | (go_at_call 12; refine (HO.out _ _ _).mono ?_; rintro e w1 ⟨rfl, hb1⟩; obtain ⟨l9, b0, b1, b2, b3, b4, b5, b6, b7, b8⟩ := HPB.out w1 hb1) | (go_at_call 66; refine (HWT.out _).mono ?_; rintro e w2 ⟨rfl, rfl⟩))
    try simp only [Exit.inBlock, Exit.then]
    refine bodyPost_ret (v := .tuple #[.agg #[.int .i64 0, .slice none 0 0], .bool false]) ?_ rfl ?_
    · rw [results_cell_tmp rfl]
      go_simp
    exact ⟨_, rfl, OwnG.nil _ _ _, ((bel_trans (HB.out _ _ _) hb1).setCell (by simp <;> omega) _).setCell (by simp <;> omega) _⟩
  by_cases h2 : (z.length : Int) ≤ x
  · have e0 : R = false := by rw [HR.out]; unfold pOk eFits; have : decide (x < (z.length : Int)) = false := by simp; omega
                              rw [this]; simp
    have h2i : x ≥ (z.length : Int) := h2
    rw [e0, e1, e2]
    clear e0 e1 e2
    go_enter Try.func34, Try.ntmps34
    go_wp2_with (first | (go_at_call 12; refine (HO.out _ _ _).mono ?_; rintro e w1 ⟨rfl, hb1⟩; obtain ⟨l9, b0, b1, b2, b3, b4, b5, b6, b7, b8⟩ := HPB.out w1 hb1) | (go_at_call 66; refine (HWT.out _).mono ?_; rintro e w2 ⟨rfl, rfl⟩))
    try simp only [Exit.inBlock, Exit.then]
    refine bodyPost_ret (v := .tuple #[.agg #[.int .i64 0, .slice none 0 0], .bool false]) ?_ rfl ?_
    · rw [results_cell_tmp rfl]
      go_simp
    exact ⟨_, rfl, OwnG.nil _ _ _, ((bel_trans (HB.out _ _ _) hb1).setCell (by simp <;> omega) _).setCell (by simp <;> omega) _⟩
  by_cases h3 : y < 0
  · have e0 : R = false := by rw [HR.out]; unfold pOk eFits; have : decide (0 ≤ y) = false := by simp; omega
                              rw [this]; simp
    have h2i : ¬ (x ≥ (z.length : Int)) := h2
    rw [e0, e1, e2]
    clear e0 e1 e2
    go_enter Try.func34, Try.ntmps34
    go_wp2_with (first | (go_at_call 12; refine (HO.out _ _ _).mono ?_; rintro e w1 ⟨rfl, hb1⟩; obtain ⟨l9, b0, b1, b2, b3, b4, b5, b6, b7, b8⟩ := HPB.out w1 hb1) | (go_at_call 66; refine (HWT.out _).mono ?_; rintro e w2 ⟨rfl, rfl⟩))
    try simp only [Exit.inBlock, Exit.then]
    refine bodyPost_ret (v := .tuple #[.agg #[.int .i64 0, .slice none 0 0], .bool false]) ?_ rfl ?_
    · rw [results_cell_tmp rfl]
      go_simp
    exact ⟨_, rfl, OwnG.nil _ _ _, ((bel_trans (HB.out _ _ _) hb1).setCell (by simp <;> omega) _).setCell (by simp <;> omega) _⟩
  by_cases h4 : (z.length : Int) ≤ y
  · have e0 : R = false := by rw [HR.out]; unfold pOk eFits; have : decide (y < (z.length : Int)) = false := by simp; omega
                              rw [this]; simp
    have h2i : ¬ (x ≥ (z.length : Int)) := h2
    have h4i : y ≥ (z.length : Int) := h4
    rw [e0, e1, e2]
    clear e0 e1 e2
    go_enter Try.func34, Try.ntmps34
    go_wp2_with (first | (go_at_call 12; refine (HO.out _ _ _).mono ?_; rintro e w1 ⟨rfl, hb1⟩; obtain ⟨l9, b0, b1, b2, b3, b4, b5, b6, b7, b8⟩ := HPB.out w1 hb1) | (go_at_call 66; refine (HWT.out _).mono ?_; rintro e w2 ⟨rfl, rfl⟩))
    try simp only [Exit.inBlock, Exit.then]
    refine bodyPost_ret (v := .tuple #[.agg #[.int .i64 0, .slice none 0 0], .bool false]) ?_ rfl ?_
    · rw [results_cell_tmp rfl]
      go_simp
    exact ⟨_, rfl, OwnG.nil _ _ _, ((bel_trans (HB.out _ _ _) hb1).setCell (by simp <;> omega) _).setCell (by simp <;> omega) _⟩
  by_cases h5 : x = y
  · have e0 : R = false := by rw [HR.out]; unfold pOk eFits; have : decide (x ≠ y) = false := by simpa using h5
                              rw [this]; simp
    have h2i : ¬ (x ≥ (z.length : Int)) := h2
    have h4i : ¬ (y ≥ (z.length : Int)) := h4
    have d1 : (x == y) = true := by simpa using h5
    have d2 : decide (x = y) = true := by simpa using h5
    have HH5 := Lib.hid h5
    clear h5
    rw [e0, e1, e2]
    clear e0 e1 e2
    go_enter Try.func34, Try.ntmps34
    go_wp2_with (first | (go_at_call 12; refine (HO.out _ _ _).mono ?_; rintro e w1 ⟨rfl, hb1⟩; obtain ⟨l9, b0, b1, b2, b3, b4, b5, b6, b7, b8⟩ := HPB.out w1 hb1) | (go_at_call 66; refine (HWT.out _).mono ?_; rintro e w2 ⟨rfl, rfl⟩))
    try simp only [Exit.inBlock, Exit.then]
    refine bodyPost_ret (v := .tuple #[.agg #[.int .i64 0, .slice none 0 0], .bool false]) ?_ rfl ?_
    · rw [results_cell_tmp rfl]
      go_simp
    exact ⟨_, rfl, OwnG.nil _ _ _, ((bel_trans (HB.out _ _ _) hb1).setCell (by simp <;> omega) _).setCell (by simp <;> omega) _⟩
  cases K
  · have e0 : R = false := by
      rw [HR.out]; unfold pOk eFits
      have h9 : (decide (1 ≤ p) && decide (p ≤ 999)) = false := by have := QK.out; unfold mWeight at this; exact this.symm
      rw [h9]; simp
    have h2i : ¬ (x ≥ (z.length : Int)) := h2
    have h4i : ¬ (y ≥ (z.length : Int)) := h4
    have d1 : (x == y) = false := by simpa using h5
    have d2 : decide (x = y) = false := by simpa using h5
    rw [e0, e1, e2]
    clear e0 e1 e2
    go_enter Try.func34, Try.ntmps34
    go_wp2_with (first | (go_at_call 12; refine (HO.out _ _ _).mono ?_; rintro e w1 ⟨rfl, hb1⟩; obtain ⟨l9, b0, b1, b2, b3, b4, b5, b6, b7, b8⟩ := HPB.out w1 hb1) | (go_at_call 66; refine (HWT.out _).mono ?_; rintro e w2 ⟨rfl, rfl⟩))
    try simp only [Exit.inBlock, Exit.then]
    refine bodyPost_ret (v := .tuple #[.agg #[.int .i64 0, .slice none 0 0], .bool false]) ?_ rfl ?_
    · rw [results_cell_tmp rfl]
      go_simp
    exact ⟨_, rfl, OwnG.nil _ _ _, ((bel_trans (HB.out _ _ _) hb1).setCell (by simp <;> omega) _).setCell (by simp <;> omega) _⟩
  have e0 : R = true := by
    rw [HR.out]; unfold pOk eFits
    rw [← HV.out]
    have h9 : (decide (1 ≤ p) && decide (p ≤ 999)) = true := by have := QK.out; unfold mWeight at this; exact this.symm
    rw [h9]
    have k1 : decide (0 ≤ x) = true := by simp; omega
    have k2 : decide (x < (z.length : Int)) = true := by simp; omega
    have k3 : decide (0 ≤ y) = true := by simp; omega
    have k4 : decide (y < (z.length : Int)) = true := by simp; omega
    have k5 : decide (x ≠ y) = true := by simpa using h5
    rw [k1, k2, k3, k4, k5]; rfl
  rw [e0]
  have e3 : rM true m = m := rfl
  have e4 : rL true (ppL m z x y p) = ppL m z x y p := rfl
  rw [e3, e4]
  have hm : mKind m = true := (mVal_parts HV.out.symm).2.1
  have hn := mVal_n HV.out.symm
  have ha := sq_of_val HV.out.symm
  obtain ⟨X, rfl⟩ := Int.eq_ofNat_of_zero_le (show 0 ≤ x by omega)
  obtain ⟨Y, rfl⟩ := Int.eq_ofNat_of_zero_le (show 0 ≤ y by omega)
  have hX : X < z.length := by omega
  have hY : Y < z.length := by omega
  have hpp : ppL m z (X : Int) (Y : Int) p = ppU m z X Y p z.length := rfl
  rw [hpp]
  have hcp := fun w' (h : Below w.heap.size w w') => l8Copy m z _ w' (HS.out.keep h) hn.2 (fun i hi => by have := (ha.2 i hi).1; omega)
  have hse := fun w => sEdge hm p w
  have hwtt : mWeight p = true := QK.out.symm
  have hei := mEdge_in hm hwtt
  have HEI := Lib.hid hei
  have HCP := Lib.hid hcp
  have HSE := Lib.hid hse
  have HM := Lib.hid hm
  have HA := Lib.hid ha
  rcases hz.out with h0 | ⟨ab, aoff, TA, rfl, hab, hac⟩
  · rw [h0] at hX; simp at hX
  have HAC := Lib.hid hac
  have hN1 := hn.1
  have h2i : ¬ ((X : Int) ≥ (z.length : Int)) := h2
  have h4i : ¬ ((Y : Int) ≥ (z.length : Int)) := h4
  have d1 : ((X : Int) == Y) = false := by simpa using h5
  have d2 : decide ((X : Int) = Y) = false := by simpa using h5
  have HH5 := Lib.hid h5
  clear e0 e1 e2 e3 e4 hm hn ha hpp hcp hse hwtt hei hac hz h5
  go_enter Try.func34, Try.ntmps34
  go_wp2_with (first | (go_at_call 12; refine (HO.out _ _ _).mono ?_; rintro e w1 ⟨rfl, hb1⟩; obtain ⟨l9, b0, b1, b2, b3, b4, b5, b6, b7, b8⟩ := HPB.out w1 hb1) | (go_at_call 66; refine (HWT.out _).mono ?_; rintro e w2 ⟨rfl, rfl⟩) | (go_at_call 67; refine (HCP.out _ (bel_trans (HB.out _ _ _) hb1)).mono ?_; rintro e w3 ⟨v3, rfl, hown, hb3⟩; obtain ⟨g, cp, T, B, rfl, hcpp, hat⟩ := hown.at hN1; obtain ⟨m9, c0, c1, c2, c3, c4, -, -, -, -⟩ := (HPB.out w1 hb1).keep hb3; have q8 : w.heap.size < w3.heap.size := (by omega); have q9 : w.heap.size + 1 < w3.heap.size := (by omega); have HAT := Lib.hid hat; have HB3 := Lib.hid hb3; clear hat hown hb3) | (go_at_call 51; refine (HSE.out _).mono ?_; rintro e w4 ⟨rfl, rfl⟩))
  obtain ⟨hh, hhi⟩ : ∃ hh, hh = w3.heap.size := ⟨_, rfl⟩
  have hw3 : Below w.heap.size w w3 := bel_trans (bel_trans (HB.out _ _ _) hb1) HB3.out
  have P3 := (HPB.out w1 hb1).keep HB3.out
  have hl1 : w.heap.size + 1 + 1 < w1.heap.size := l9
  obtain ⟨lo, hlo⟩ : ∃ lo, lo = w1.heap.size := ⟨_, rfl⟩
  rw [← hlo] at hl1
  have hAB : Below w3.heap.size w3 (w3.alloc (.cells #[.int .i64 m, .slice (some ⟨g, 0, none⟩) z.length cp] 27)) := (Below.refl _ _).alloc (Nat.le_refl _) _
  have HAT4 : Hid (GridAt (w3.alloc (.cells #[.int .i64 m, .slice (some ⟨g, 0, none⟩) z.length cp] 27)) lo hh g T B (ppU m z X Y p 0)) := Lib.hid (by rw [hhi, hlo, ppU_zero]; exact HAT.out.keep hAB)
  have hlh : lo ≤ hh := by have := HAT4.out.place; omega
  have HKB : Hid (PBox (w3.alloc (.cells #[.int .i64 m, .slice (some ⟨g, 0, none⟩) z.length cp] 27)) w.heap.size m (.slice (some ⟨ab, aoff, none⟩) z.length cap) X Y p ∧ Box (w3.alloc (.cells #[.int .i64 m, .slice (some ⟨g, 0, none⟩) z.length cp] 27)) hh 27 #[.int .i64 m, .slice (some ⟨g, 0, none⟩) z.length cp] ∧ Below w.heap.size w (w3.alloc (.cells #[.int .i64 m, .slice (some ⟨g, 0, none⟩) z.length cp] 27))) := Lib.hid ⟨P3.keep hAB, by rw [hhi]; exact Box.new _ _ _, hw3.alloc hw3.size _⟩
  have hlw : w.heap.size + 1 + 1 < lo := hl1
  clear P3 hw3 HAT hAB hlo hl1 b0 b1 b2 b3 b4 b5 b6 b7 b8 c0 c1 c2 c3 c4 HB3 q8 q9 m9 l9
  rw [← hhi]
  clear hhi
  generalize (w3.alloc (.cells #[.int .i64 m, .slice (some ⟨g, 0, none⟩) z.length cp] 27)) = w4 at HAT4 HKB ⊢
  go_loopw [9] (fun c wr => ∃ i : Nat, i ≤ z.length ∧ c = .int .i64 i ∧ Hid (GridAt wr lo hh g T B (ppU m z X Y p i)) ∧ Hid (Chg lo hh w4 wr)) (fun c _ => z.length - (intOf c).toNat)
  case atStart => exact ⟨0, Nat.zero_le _, rfl, HAT4, Lib.hid (Chg.refl _ _ _)⟩
  case round =>
    obtain ⟨i, hile, rfl, HG, HC⟩ := hrel
    obtain ⟨ya, y0, y1, -, -, -, -, -, -, -⟩ := HKB.out.1.chg HC.out hlw
    by_cases hli : i < z.length
    · have hli' : (i : Int) < z.length := by omega
      have HG0 : Hid (GridAt wr lo hh g T B (ppMid m z X Y p i 0)) := Lib.hid (by rw [ppMid_zero m z X Y p hli]; exact HG.out)
      obtain ⟨hil, hiv⟩ := HA.out.2 i hli
      have HLM := Lib.hid (ppMid_last m z X Y p hli hil)
      obtain ⟨d0, r0⟩ := HAC.out i hli
      obtain ⟨pb, poff, pcap, hTA, hpb, hpc⟩ := r0.at (i := 0) (by omega)
      rw [hTA, hil] at d0
      rw [hil] at hpc
      obtain ⟨hyl, hyv⟩ := HA.out.2 Y hY
      obtain ⟨d1', r1⟩ := HAC.out Y hY
      obtain ⟨qb, qoff, qcap, hTY, hqb, hqc⟩ := r1.at (i := 0) (by omega)
      rw [hTY, hyl] at d1'
      rw [hyl] at hqc
      have HD0 := Lib.hid d0
      have HD1 := Lib.hid d1'
      have HPC := Lib.hid hpc
      have HQC := Lib.hid hqc
      have HIV := Lib.hid hiv
      have HYV := Lib.hid hyv
      have HIL := Lib.hid hil
      clear d0 r0 hTA hpc d1' r1 hTY hqc hiv hyv hyl hil
      go_wp2
      go_loopw [10] (fun c wt => ∃ k : Nat, k ≤ z.length ∧ c = .int .i64 k ∧ Hid (GridAt wt lo hh g T B (ppMid m z X Y p i k)) ∧ Hid (Chg lo hh w4 wt)) (fun c _ => z.length - (intOf c).toNat)
      case atStart => exact ⟨0, Nat.zero_le _, rfl, HG0, HC⟩
      case round =>
        obtain ⟨k, hk, rfl, HGK, HCK⟩ := hrel
        have hPB := HKB.out.1.chg HCK.out hlw
        have HPK := Lib.hid hPB
        obtain ⟨ya2, yy0, yy1, -, -, -, -, -, -, -⟩ := hPB
        clear y0 y1 ya
        by_cases hlk : k < z.length
        · have hlk' : (k : Int) < z.length := by omega
          have hstep := ppMid_step m z X Y p (i := i) (k := k) hli (by rw [HIL.out]; exact hlk)
          have hrow := ppMid_row m z X Y p k hli
          have hbs := bel_chg HKB.out.2.2 HCK.out (by omega)
          have hix : i < (ppMid m z X Y p i k).length := by rw [ppMid_len]; exact hli
          have hrl : ((ppMid m z X Y p i k).getD i []).length = z.length := by rw [hrow, imU_len]; exact HIL.out
          obtain ⟨oi, ci, hTi, hwi⟩ := HGK.out.wr hix (by omega)
          have e1 := (HGK.out.cell i hix).1
          rw [hTi, hrl] at e1
          have hblk := HGK.out.blk i hix
          have hgp := HGK.out.place
          obtain ⟨av, hav⟩ : ∃ av, av = (z.getD i []).getD k 0 := ⟨_, rfl⟩
          obtain ⟨fv, hfv⟩ : ∃ fv, fv = (z.getD i []).getD X 0 := ⟨_, rfl⟩
          obtain ⟨gv, hgv⟩ : ∃ gv, gv = (z.getD Y []).getD k 0 := ⟨_, rfl⟩
          have t0 := HPC.out k hlk
          have t1 := HPC.out X hX
          have t2 := HQC.out k hlk
          rw [← hav] at t0
          rw [← hfv] at t1
          rw [← hgv] at t2
          have hfi := HIV.out X hX
          rw [← hfv] at hfi
          have hgi := HYV.out k hlk
          rw [← hgv] at hgi
          rw [← hav, ← hfv, ← hgv] at hstep
          have hold : ∃ old, wr.cell? ⟨B i, oi + k, none⟩ = some (.int .i64 old) ∧ wr.frozen? ⟨B i, oi + k, none⟩ = false := ⟨_, hwi.2 k (by omega)⟩
          obtain ⟨old, hold⟩ := hold
          have hcells : ∀ w', Below wr.heap.size wr w' → PBox w' w.heap.size m (.slice (some ⟨ab, aoff, none⟩) z.length cap) X Y p ∧ w'.cell? ⟨ab, aoff + i, none⟩ = some (.slice (some ⟨pb, poff, none⟩) z.length pcap) ∧ w'.cell? ⟨pb, poff + X, none⟩ = some (.int .i64 fv) ∧ w'.cell? ⟨ab, aoff + Y, none⟩ = some (.slice (some ⟨qb, qoff, none⟩) z.length qcap) ∧ w'.cell? ⟨qb, qoff + k, none⟩ = some (.int .i64 gv) ∧ w'.cell? ⟨pb, poff + k, none⟩ = some (.int .i64 av) := by
            intro w' h
            have h2 := bel_trans hbs h
            exact ⟨HPK.out.keep h, (h2.cell (p := ⟨ab, _, none⟩) hab).trans HD0.out, (h2.cell (p := ⟨pb, _, none⟩) hpb).trans t1, (h2.cell (p := ⟨ab, _, none⟩) hab).trans HD1.out, (h2.cell (p := ⟨qb, _, none⟩) hqb).trans t2, (h2.cell (p := ⟨pb, _, none⟩) hpb).trans t0⟩
          have hnew : ∀ w', Below wr.heap.size wr w' → (w'.cell? ⟨hh, 1, none⟩ = some (.slice (some ⟨g, 0, none⟩) z.length cp) ∧ w'.cell? ⟨g, i, none⟩ = some (.slice (some ⟨B i, oi, none⟩) z.length ci) ∧ w'.cell? ⟨B i, oi + k, none⟩ = some (.int .i64 old) ∧ w'.frozen? ⟨B i, oi + k, none⟩ = false) ∧ GridAt (w'.setCell ⟨B i, oi + k, none⟩ (.int .i64 (mBest m av (mJoin m (mJoin m fv (mEdge m p)) gv)))) lo hh g T B (ppMid m z X Y p i (k + 1)) ∧ Chg lo hh w4 (w'.setCell ⟨B i, oi + k, none⟩ (.int .i64 (mBest m av (mJoin m (mJoin m fv (mEdge m p)) gv)))) := by
            intro w' h
            have ko := box2 (HKB.out.2.1.chgP HCK.out (.inr (Nat.le_refl _)))
            have hset := (hwi.keep h).set (k := k) (by omega) (mBest m av (mJoin m (mJoin m fv (mEdge m p)) gv))
            exact ⟨⟨(h.cell (p := ⟨hh, 1, none⟩) ko.2.2.2.2).trans ko.2.1, (h.cell (p := ⟨g, _, none⟩) (by simp only; omega)).trans e1, (h.cell (p := ⟨B i, _, none⟩) hwi.1).trans hold.1, (h.frozen (p := ⟨B i, _, none⟩) hwi.1).trans hold.2⟩,
              (HGK.out.keep h).keepG (k := i) (off := oi) hix hstep (by rw [List.length_set]) ⟨ci, by rw [List.length_set]; exact hTi⟩ hset (Chg.setCell (p := ⟨B i, oi + k, none⟩) (Chg.refl _ _ _) (Nat.le_refl _) (Nat.lt_succ_self _) _), (HCK.out.trans (Chg.of_below h)).setCell hblk.1 hblk.2.1 _⟩
          have HCE := Lib.hid hcells
          have HNEW := Lib.hid hnew
          have hj1 := fun w => calls_below (sJoin (bTwo_mk HM.out hfi HEI.out) w)
          have hj2 := fun w => calls_below (sJoin (bTwo_mk HM.out (mJoin_in HM.out hfi HEI.out) hgi) w)
          have HJ1 := Lib.hid hj1
          have HJ2 := Lib.hid hj2
          clear hstep hrow hbs hix hrl hTi hwi e1 hblk hgp hav hfv hgv t0 t1 t2 hfi hgi hold hcells hnew hj1 hj2
          have hXi : (X : Int) < z.length := by omega
          have hYi : (Y : Int) < z.length := by omega
          go_wp2
          refine wp_region_below (by kernel_rfl) (by kernel_rfl) ?_
          repeat (go_big_quiet_step ((intro hw; first | with_reducible rfl | (obtain ⟨⟨-, f0, f1, f2, f3, f4, -, -, -, -⟩, f5, f6, f7, f8, f9⟩ := HCE.out _ hw; simp only [f0, f1, f2, f3, f4, f5, f6, f7, f8, f9, Result.andThen]; first | exact ⟨trivial, rfl⟩ | exact ⟨rfl, rfl⟩) | (go_at_call 61; first | (with_reducible exact quietB (HJ1.out _) hw) | (with_reducible exact quietB (HJ2.out _) hw)))))
          refine wpQuiet_nil ?_
          intro w6 hw6
          obtain ⟨⟨-, f0, f1, -, -, -, -, -, -, -⟩, f5, -, -, -, f9⟩ := HCE.out _ hw6
          obtain ⟨⟨u0, u1, u2, u3⟩, -, -⟩ := HNEW.out _ hw6
          have HFIN := Lib.hid (HNEW.out _ (hw6.drew)).2
          have hbe := quietP (sBest HM.out av (mJoin m (mJoin m fv (mEdge m p)) gv) w6.drew) rfl
          go_wp2
          refine wp_region_tail 18 (by kernel_rfl) (by kernel_rfl) ?_
          simp only [List.take_succ_cons, List.take_zero, List.drop_succ_cons, List.drop_zero]
          repeat (go_big_quiet_step (exact hbe _))
          refine wpQuiet_nil ?_
          have v2 : w6.drew.cell? ⟨B i, oi + k, none⟩ = some (.int .i64 old) := u2
          have v3 : w6.drew.frozen? ⟨B i, oi + k, none⟩ = false := u3
          go_wp2
          go_roundw
          case rel => first | exact ⟨k + 1, by omega, by go_num, Lib.hid HFIN.out.1, Lib.hid HFIN.out.2⟩ | ((repeat apply Exists.intro); exact ⟨⟨k + 1, by omega, by go_num, Lib.hid HFIN.out.1, Lib.hid HFIN.out.2⟩, rfl⟩)
          case measure => simp [intOf]; omega
        · have hke : k = z.length := by omega
          have hkk : ¬ ((k : Int) < z.length) := by omega
          have HGE : Hid (GridAt wr lo hh g T B (ppU m z X Y p (i + 1))) := Lib.hid (by rw [← HLM.out, ← hke]; exact HGK.out)
          have HKE := Lib.hid hke
          clear hke
          go_wp2
          go_roundw
          case rel => exact ⟨i + 1, by omega, by go_num, HGE, HCK⟩
          case measure => simp [intOf]; omega
    · have hke : i = z.length := by omega
      have hkk : ¬ ((i : Int) < z.length) := by omega
      have HKE := Lib.hid hke
      have hbs := bel_chg HKB.out.2.2 HC.out (by omega)
      obtain ⟨xo0, xo1, -, -, xol⟩ := box2 (HKB.out.2.1.chgP HC.out (.inr (Nat.le_refl _)))
      obtain ⟨-, -, -, -, -, -, xr0, xr1, xrf0, xrf1⟩ := HKB.out.1.chg HC.out hlw
      clear hke
      go_wp2
      try simp only [Exit.inBlock, Exit.then]
      refine bodyPost_ret (v := .tuple #[.agg #[.int .i64 m, .slice (some ⟨g, 0, none⟩) z.length cp], .bool true]) ?_ rfl ?_
      · rw [results_cell_tmp rfl]
        go_simp
      have hG := HG.out
      rw [HKE.out] at hG
      have hch : ∀ u1 u2 : Value, Chg w.heap.size (w.heap.size + 3) wr ((wr.setCell ⟨w.heap.size + 1 + 1, 0, none⟩ u1).setCell ⟨w.heap.size + 1 + 1, 1, none⟩ u2) := fun u1 u2 => ((Chg.refl _ _ _).setCell (by simp only; omega) (by simp only; omega) _).setCell (by simp only; omega) (by simp only; omega) _
      have hp := hG.place
      refine ⟨_, rfl, ((hG.own (ppU_len _ _ _ _ _ _) hcpp).chg (hch _ _) (.inl (by omega))).wider (by omega) (by simp; omega) (Nat.le_refl _), (hbs.setCell (by simp only; omega) _).setCell (by simp only; omega) _⟩
theorem ppL_sm {m : Int} {z : List (List Int)} {x y p : Int} (h : pOk m z x y p = true) : Sm (ppL m z x y p) := by
  unfold pOk at h
  rw [Bool.and_eq_true] at h
  have hn := mVal_n h.1
  have ha := sq_of_val h.1
  refine ⟨by unfold ppL; rw [ppU_len]; exact hn.2, fun i hi => ?_⟩
  unfold ppL at hi ⊢
  rw [ppU_len] at hi
  rw [ppU_at _ _ _ _ _ _ hi, if_pos hi, impr_len, (ha.2 i hi).1]
  exact hn.2
end Go.Proofs.Ytdpbmenjangpaaa
