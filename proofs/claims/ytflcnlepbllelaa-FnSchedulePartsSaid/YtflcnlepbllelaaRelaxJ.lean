/- RelaxAll: in the program. -/
import Derived.Test.YtflcnlepbllelaaRelaxI
namespace Go.Proofs.Ytflcnlepbllelaa
open Go.RowKit Go.BigFrame Go.Deep
set_option linter.unusedVariables false
set_option linter.unusedSimpArgs false

def rxM (n : Int) (es : List Ed) (m a : Int) (zs : List Int) : Int := if vVal n es m a zs = true then m else 0
def rxA (n : Int) (es : List Ed) (m a : Int) (zs : List Int) : Int := if vVal n es m a zs = true then a else 0
def rxL (n : Int) (es : List Ed) (m a : Int) (zs : List Int) : List Int := if vVal n es m a zs = true then vRelax m es zs else []
theorem vVal_pts {n : Int} {es : List Ed} {m a : Int} {zs : List Int} (h : vVal n es m a zs = true) : gVal n es = true ∧ (0 ≤ a ∧ a < n) ∧ (zs.length : Int) = n ∧ mKind m = true ∧ zs.all (mIn m) = true := by
  simp only [vVal, vFit, mAll, Bool.and_eq_true, decide_eq_true_eq] at h
  exact ⟨h.1.1, h.1.2.1, h.1.2.2, h.2.1, h.2.2⟩
theorem vAll_of {m : Int} {zs : List Int} (h : zs.all (mIn m) = true) : vAll m zs := by
  intro i hi
  rw [getD_of hi]
  exact List.all_eq_true.1 h _ (List.getElem_mem hi)
/-- What relaxing needs. -/
theorem vVal_use {n : Int} {es : List Ed} {m a : Int} {zs : List Int} (h : vVal n es m a zs = true) : mKind m = true ∧ 0 < zs.length ∧ zs.length ≤ 12 ∧ es.length ≤ 40 ∧ vAll m zs ∧ eAll zs.length es := by
  have hp := vVal_pts h
  have hn := gVal_n hp.1
  have he := eAll_of hp.1
  rw [show n.toNat = zs.length by omega] at he
  exact ⟨hp.2.2.2.1, by omega, by omega, hn.2.2, vAll_of hp.2.2.2.2, he⟩

set_option maxRecDepth 20000 in
set_option maxHeartbeats 4000000 in
theorem relaxAll (n m a : Int) (es : List Ed) (zs : List Int) (s t : Value) (w : World) (hs : RowE w s es) (ht : Row w t zs) (hl : es.length ≤ 281474976710656) (hl2 : zs.length ≤ 281474976710656) :
    Calls Try.prog 60 #[.agg #[.int .i64 n, s], .agg #[.int .i64 m, .int .i64 a, t]] w fun e w' =>
      ∃ v, e = .returned (.tuple #[.agg #[.int .i64 (rxM n es m a zs), .int .i64 (rxA n es m a zs), v], .bool (vVal n es m a zs)]) ∧ OwnV w w' v (rxL n es m a zs) ∧ okS v ∧ Below w.heap.size w w' := by
  have hB : ∀ (A B C : Obj), Below w.heap.size w (((w.alloc A).alloc B).alloc C) := fun A B C => (((Below.refl _ _).alloc (Nat.le_refl _) _).alloc (by simp) _).alloc (by simp; omega) _
  have ho := fun A B C => opsOfView n m a es zs s t _ (hs.keep (hB A B C)) (ht.keep (hB A B C)) hl hl2
  have hR := Lib.hid hs
  have hT := Lib.hid ht
  obtain ⟨ad, cap, rfl, hz0⟩ := hs
  obtain ⟨ad2, cap2, rfl, hy0⟩ := ht
  clear hz0 hy0
  have HB := Lib.hid hB
  unfold rxM rxA rxL
  obtain ⟨G, hG⟩ : ∃ G, G = vVal n es m a zs := ⟨_, rfl⟩
  rw [← hG] at ho ⊢
  have HO := Lib.hid ho
  have QG := Lib.hid hG
  clear ho hB hG
  cases G
  · rw [if_neg (by decide), if_neg (by decide), if_neg (by decide)]
    go_enter Try.func60, Try.ntmps60
    go_wp2_with (go_at_call 48; refine (HO.out _ _ _).mono ?_; rintro e w1 ⟨rfl, hb1⟩; have xg1 := hb1.cell (p := ⟨w.heap.size, 1, none⟩) (by simp <;> omega); have xv0 := hb1.cell (p := ⟨w.heap.size + 1, 0, none⟩) (by simp <;> omega); have xv1 := hb1.cell (p := ⟨w.heap.size + 1, 1, none⟩) (by simp <;> omega); have xv2 := hb1.cell (p := ⟨w.heap.size + 1, 2, none⟩) (by simp <;> omega); have xr0 := hb1.cell (p := ⟨w.heap.size + 1 + 1, 0, none⟩) (by simp <;> omega); have xr1 := hb1.cell (p := ⟨w.heap.size + 1 + 1, 1, none⟩) (by simp <;> omega); have xr2 := hb1.cell (p := ⟨w.heap.size + 1 + 1, 2, none⟩) (by simp <;> omega); have fr0 := hb1.frozen (p := ⟨w.heap.size + 1 + 1, 0, none⟩) (by simp <;> omega); have fr1 := hb1.frozen (p := ⟨w.heap.size + 1 + 1, 1, none⟩) (by simp <;> omega); have fr2 := hb1.frozen (p := ⟨w.heap.size + 1 + 1, 2, none⟩) (by simp <;> omega))
    try simp only [Exit.inBlock, Exit.then]
    refine bodyPost_ret (v := .tuple #[.agg #[.int .i64 0, .int .i64 0, .slice none 0 0], .bool false]) ?_ rfl ?_
    · rw [results_cell_tmp rfl]
      go_simp
    exact ⟨_, rfl, OwnV.nil _ _, okS_nil, (((bel_trans (HB.out _ _ _) hb1).setCell (by simp; omega) _).setCell (by simp; omega) _).setCell (by simp; omega) _⟩
  · rw [if_pos rfl, if_pos rfl, if_pos rfl]
    have hu := vVal_use QG.out.symm
    have hrv := fun w' (h : Below w.heap.size w w') => relaxedValues m es zs _ _ w' hu.1 (hR.out.keep h) (hT.out.keep h) (by omega) (by omega) hu.2.1 hu.2.2.2.2.1 hu.2.2.2.2.2
    have e1 : opsR m true = opsV m := rfl
    rw [e1] at HO
    obtain ⟨O, hO⟩ : ∃ O, O = opsV m := ⟨_, rfl⟩
    rw [← hO] at HO hrv
    have hlen := vRelax_length m es zs
    obtain ⟨L, hL⟩ : ∃ L, L = vRelax m es zs := ⟨_, rfl⟩
    rw [← hL] at hrv hlen ⊢
    have HRV := Lib.hid hrv
    clear hrv hu e1 hO hL hlen
    go_enter Try.func60, Try.ntmps60
    go_wp2_with (go_at_call 48; refine (HO.out _ _ _).mono ?_; rintro e w1 ⟨rfl, hb1⟩; have xg1 := hb1.cell (p := ⟨w.heap.size, 1, none⟩) (by simp <;> omega); have xv0 := hb1.cell (p := ⟨w.heap.size + 1, 0, none⟩) (by simp <;> omega); have xv1 := hb1.cell (p := ⟨w.heap.size + 1, 1, none⟩) (by simp <;> omega); have xv2 := hb1.cell (p := ⟨w.heap.size + 1, 2, none⟩) (by simp <;> omega); have xr0 := hb1.cell (p := ⟨w.heap.size + 1 + 1, 0, none⟩) (by simp <;> omega); have xr1 := hb1.cell (p := ⟨w.heap.size + 1 + 1, 1, none⟩) (by simp <;> omega); have xr2 := hb1.cell (p := ⟨w.heap.size + 1 + 1, 2, none⟩) (by simp <;> omega); have fr0 := hb1.frozen (p := ⟨w.heap.size + 1 + 1, 0, none⟩) (by simp <;> omega); have fr1 := hb1.frozen (p := ⟨w.heap.size + 1 + 1, 1, none⟩) (by simp <;> omega); have fr2 := hb1.frozen (p := ⟨w.heap.size + 1 + 1, 2, none⟩) (by simp <;> omega))
    have hbw := bel_trans (HB.out _ _ _) hb1
    have hsz : w.heap.size + 1 + 1 < w1.heap.size := Nat.lt_of_lt_of_le (by simp) hb1.size
    have q1 : w1.cell? ⟨w.heap.size, 1, none⟩ = some (.slice ad es.length cap) := by rw [xg1]; go_simp
    have q2 : w1.cell? ⟨w.heap.size + 1, 0, none⟩ = some (.int .i64 m) := by rw [xv0]; go_simp
    have q3 : w1.cell? ⟨w.heap.size + 1, 1, none⟩ = some (.int .i64 a) := by rw [xv1]; go_simp
    have q4 : w1.cell? ⟨w.heap.size + 1, 2, none⟩ = some (.slice ad2 zs.length cap2) := by rw [xv2]; go_simp
    have q5 : w1.cell? ⟨w.heap.size + 1 + 1, 0, none⟩ = some (.int .i64 0) := by rw [xr0]; go_simp
    have q6 : w1.cell? ⟨w.heap.size + 1 + 1, 1, none⟩ = some (.int .i64 0) := by rw [xr1]; go_simp
    have q7 : w1.cell? ⟨w.heap.size + 1 + 1, 2, none⟩ = some (.slice none 0 0) := by rw [xr2]; go_simp
    have q8 : w1.frozen? ⟨w.heap.size + 1 + 1, 0, none⟩ = false := by rw [fr0]; go_simp
    have q9 : w1.frozen? ⟨w.heap.size + 1 + 1, 1, none⟩ = false := by rw [fr1]; go_simp
    have q10 : w1.frozen? ⟨w.heap.size + 1 + 1, 2, none⟩ = false := by rw [fr2]; go_simp
    have hhold : ∀ w', Below w1.heap.size w1 w' → w'.cell? ⟨w.heap.size, 1, none⟩ = some (.slice ad es.length cap) ∧ w'.cell? ⟨w.heap.size + 1, 0, none⟩ = some (.int .i64 m) ∧ w'.cell? ⟨w.heap.size + 1, 1, none⟩ = some (.int .i64 a) ∧ w'.cell? ⟨w.heap.size + 1, 2, none⟩ = some (.slice ad2 zs.length cap2) := fun w' h =>
      ⟨(h.cell (p := ⟨_, _, none⟩) (by simp only; omega)).trans q1, (h.cell (p := ⟨_, _, none⟩) (by simp only; omega)).trans q2, (h.cell (p := ⟨_, _, none⟩) (by simp only; omega)).trans q3, (h.cell (p := ⟨_, _, none⟩) (by simp only; omega)).trans q4⟩
    have hres : ∀ w', Below w1.heap.size w1 w' → (w'.cell? ⟨w.heap.size + 1 + 1, 0, none⟩ = some (.int .i64 0) ∧ w'.cell? ⟨w.heap.size + 1 + 1, 1, none⟩ = some (.int .i64 0) ∧ w'.cell? ⟨w.heap.size + 1 + 1, 2, none⟩ = some (.slice none 0 0)) ∧ (w'.frozen? ⟨w.heap.size + 1 + 1, 0, none⟩ = false ∧ w'.frozen? ⟨w.heap.size + 1 + 1, 1, none⟩ = false ∧ w'.frozen? ⟨w.heap.size + 1 + 1, 2, none⟩ = false) := fun w' h =>
      ⟨⟨(h.cell (p := ⟨_, _, none⟩) hsz).trans q5, (h.cell (p := ⟨_, _, none⟩) hsz).trans q6, (h.cell (p := ⟨_, _, none⟩) hsz).trans q7⟩, (h.frozen (p := ⟨_, _, none⟩) hsz).trans q8, (h.frozen (p := ⟨_, _, none⟩) hsz).trans q9, (h.frozen (p := ⟨_, _, none⟩) hsz).trans q10⟩
    have HOLD := Lib.hid hhold
    have HRES := Lib.hid hres
    clear hhold hres q1 q2 q3 q4 q5 q6 q7 q8 q9 q10 xg1 xv0 xv1 xv2 xr0 xr1 xr2 fr0 fr1 fr2
    go_region_held3 (fun w' : World => w'.cell? ⟨w.heap.size, 1, none⟩ = some (.slice ad es.length cap) ∧ w'.cell? ⟨w.heap.size + 1, 0, none⟩ = some (.int .i64 m) ∧ w'.cell? ⟨w.heap.size + 1, 1, none⟩ = some (.int .i64 a) ∧ w'.cell? ⟨w.heap.size + 1, 2, none⟩ = some (.slice ad2 zs.length cap2)) (first | exact HOLD.out _ ((Below.refl _ _).drew) | exact HOLD.out _ (bel_trans ((Below.refl _ _).drew) hb2) | (refine ⟨?_, ?_, ?_, ?_⟩ <;> go_simp)) (first | (go_at_call 85; (with_reducible refine (HRV.out _ (bel_trans hbw ((Below.refl _ _).drew))).mono ?_); rintro e w2 ⟨v, rfl, hown, hok, hb2⟩; obtain ⟨va, vc, rfl⟩ := hown.slice; obtain ⟨⟨r0, r1, r2⟩, s0, s1, s2⟩ := HRES.out _ (bel_trans ((Below.refl _ _).drew) hb2); have HW := Lib.hid hown; have HOK := Lib.hid hok; clear hown hok))
    all_goals
      go_wp2
      try simp only [Exit.inBlock, Exit.then]
      refine bodyPost_ret (v := .tuple #[.agg #[.int .i64 m, .int .i64 a, .slice va L.length vc], .bool true]) ?_ rfl ?_
      · rw [results_cell_tmp rfl]
        go_simp
      have hs1 : w.heap.size + 3 ≤ w1.heap.size := by omega
      have hs2 : w1.heap.size ≤ w2.heap.size := hb2.size
      have hch : ∀ x y z, Chg (w.heap.size + 2) (w.heap.size + 3) w2 (((w2.setCell ⟨w.heap.size + 1 + 1, 0, none⟩ x).setCell ⟨w.heap.size + 1 + 1, 1, none⟩ y).setCell ⟨w.heap.size + 1 + 1, 2, none⟩ z) := fun x y z => (((Chg.refl _ _ _).setCell (by simp only; omega) (by simp only; omega) _).setCell (by simp only; omega) (by simp only; omega) _).setCell (by simp only; omega) (by simp only; omega) _
      refine ⟨_, rfl, ?_, HOK.out, bel_chg (bel_trans hbw (bel_trans ((Below.refl _ _).drew) hb2)) (hch _ _ _) (by omega)⟩
      have h1 := InR.chg (InR.wider HW.out (l := w1.heap.size) (h := w2.heap.size) (Nat.le_refl _) (Nat.le_refl _) (Nat.le_refl _)) (hch (.int .i64 m) (.int .i64 a) (.slice va L.length vc)) (.inl (by omega))
      exact h1.wider (by omega) (hch _ _ _).size (Nat.le_refl _)
end Go.Proofs.Ytflcnlepbllelaa
