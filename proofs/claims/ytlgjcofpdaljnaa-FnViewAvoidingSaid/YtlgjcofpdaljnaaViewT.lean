/- ViewOf: in the model. ViewOf of the model, whole. -/
import Derived.Test.YtlgjcofpdaljnaaRelaxT
import Derived.Test.YtlgjcofpdaljnaaRight
import Derived.Test.YtlgjcofpdaljnaaVStartT
namespace Go.Proofs.Ytlgjcofpdaljnaa
open Go.RowKit Go.BigFrame Go.Deep
set_option linter.unusedVariables false
set_option linter.unusedSimpArgs false
set_option linter.unnecessarySimpa false

theorem rowOf {fz : Bool} {w : World} {lo hi n : Nat} {o : Value} {zs : List Int} (h : InR fz w lo hi o n 1 (cellI zs)) (hl : zs.length = n) : Row w o zs := by
  subst hl
  exact InR.rowI h
/-- The view behind k rounds, in a box. -/
def VMid (m A : Int) (es : List Ed) (Z : List Int) (base B : Nat) (wr : World) (k : Nat) : Prop :=
  ∃ (va : Option Addr) (vc lo hi : Nat), Box wr B 28 #[.int .i64 m, .int .i64 A, .slice va Z.length vc] ∧ InR true wr lo hi (.slice va Z.length vc) Z.length 1 (cellI (vIter m es k Z)) ∧ okS (.slice va Z.length vc) ∧ base ≤ lo ∧ hi ≤ wr.heap.size ∧ (hi ≤ B ∨ B + 1 ≤ lo)

set_option maxRecDepth 20000 in
set_option maxHeartbeats 4000000 in
theorem l3View (m : Int) (es : List Ed) (N A : Nat) (s : Value) (w : World) (hm : mKind m = true) (hs : RowE w s es) (hl : es.length ≤ 1048576) (hA : A < N) (h12 : N ≤ 12) (he : eAll N es) :
    Calls Try.prog 55 #[.agg #[.int .i64 N, s], .int .i64 m, .int .i64 A] w fun e w' => ∃ v, e = .returned (.agg #[.int .i64 m, .int .i64 A, v]) ∧ OwnV w w' v (vIter m es N (vStart m N A)) ∧ okS v ∧ Below w.heap.size w w' := by
  have hlen : (vStart m N A).length = N := by rw [vStart_length, Int.toNat_natCast]
  have hB : ∀ (A B : Obj), Below w.heap.size w ((w.alloc A).alloc B) := fun A B => ((Below.refl _ _).alloc (Nat.le_refl _) _).alloc (by simp) _
  have hvs := vStart_all (m := m) (n := (N : Int)) (src := (A : Int)) hm
  obtain ⟨Z, hZ⟩ : ∃ Z, Z = vStart m N A := ⟨_, rfl⟩
  have hst := fun ad len cap w => l3Start m N A hm h12 hA ad len cap w
  rw [← hZ] at hst hlen hvs ⊢
  have hrx := fun (k : Nat) (p : Value) (w' : World) (h : Below w.heap.size w w') (hp : Row w' p (vIter m es k Z)) => l3Relax N m A es (vIter m es k Z) s p w' hm (hs.keep h) hp hl (by rw [vIter_length]; omega) (by rw [vIter_length]; omega) (vIter_all hm hvs (by rw [hlen]; exact he) k) (by rw [vIter_length, hlen]; exact he)
  have HST := Lib.hid hst
  have HRX := Lib.hid hrx
  have HLEN := Lib.hid hlen
  have HB := Lib.hid hB
  obtain ⟨ad, cap, rfl, hz0⟩ := hs
  clear hst hrx hlen hz0 hZ hvs he hB
  go_enter Try.func55, Try.ntmps55
  go_wp2_with (go_at_call 81; refine (HST.out _ _ _ _).mono ?_; rintro e w1 ⟨v, rfl, hown, hok, hb1⟩; obtain ⟨va, vc, rfl⟩ := hown.slice; have HW := Lib.hid hown; have HOK := Lib.hid hok; clear hown hok)
  have hbw := bel_trans (HB.out _ _) hb1
  have hsz1 : w.heap.size + 2 ≤ w1.heap.size := by have h2 := hb1.size; simp at h2; omega
  have hbg : Box w1 w.heap.size 25 #[.int .i64 N, .slice ad es.length cap] := ((Box.new w 25 _).alloc _).keep hb1
  have hbr : Box w1 (w.heap.size + 1) 28 #[.int .i64 0, .int .i64 0, .slice none 0 0] := by
    have h2 := (Box.new (w.alloc (.cells #[.int .i64 N, .slice ad es.length cap] 25)) 28 #[.int .i64 0, .int .i64 0, .slice none 0 0])
    have h3 := h2.keep hb1
    simpa using h3
  have HBG := Lib.hid hbg
  have HBR := Lib.hid hbr
  clear hbg hbr
  go_loopw [8] (fun c wr => ∃ k : Nat, k ≤ N ∧ c = .int .i64 k ∧ Below w.heap.size w wr ∧ Hid (VMid m A es Z (w.heap.size + 2) w1.heap.size wr k) ∧ Hid (Box wr w.heap.size 25 #[.int .i64 N, .slice ad es.length cap] ∧ Box wr (w.heap.size + 1) 28 #[.int .i64 0, .int .i64 0, .slice none 0 0])) (fun c _ => N - (intOf c).toNat)
  case atStart =>
    refine ⟨0, Nat.zero_le _, rfl, hbw.alloc hbw.size _, Lib.hid ⟨va, vc, w.heap.size + 2, w1.heap.size, Box.new _ _ _, ?_, HOK.out, Nat.le_refl _, by simp, .inl (Nat.le_refl _)⟩, Lib.hid ⟨HBG.out.alloc _, HBR.out.alloc _⟩⟩
    have h1 := HW.out
    unfold OwnV at h1
    exact (h1.wider (by simp) (Nat.le_refl _) (Nat.le_refl _)).keep ((Below.refl _ _).alloc (Nat.le_refl _) _)
  case round =>
    obtain ⟨k, hk, rfl, hbel, HV, HBX⟩ := hrel
    obtain ⟨ua, uc, lo, hi, hbx, hrow, hok, hlo, hhi, hdj⟩ := HV.out
    have HX := Lib.hid hbx
    have HR := Lib.hid hrow
    have HO := Lib.hid hok
    have x0 := hbx.cell 0
    have x1 := hbx.cell 1
    have x2 := hbx.cell 2
    have g0 := HBX.out.1.cell 0
    have g1 := HBX.out.1.cell 1
    simp only [List.getElem?_toArray, List.getElem?_cons_succ, List.getElem?_cons_zero] at x0 x1 x2 g0 g1
    have hBlt : w1.heap.size < wr.heap.size := hbx.lt
    clear hbx hrow hok HV hbw
    by_cases hlt : k < N
    · have hlt' : (k : Int) < N := by omega
      go_wp2_with (go_at_call 82; refine (HRX.out k _ _ hbel (rowOf HR.out (vIter_length m es Z k))).mono ?_; rintro e w2 ⟨v, rfl, hown, hok, hb2⟩; obtain ⟨na, nc, rfl⟩ := hown.slice; have y0 := (HX.out.keep hb2).cell 0; have y1 := (HX.out.keep hb2).cell 1; have y2 := (HX.out.keep hb2).cell 2; have f0 := (HX.out.keep hb2).frozen 0; have f1 := (HX.out.keep hb2).frozen 1; have f2 := (HX.out.keep hb2).frozen 2; simp only [List.getElem?_toArray, List.getElem?_cons_succ, List.getElem?_cons_zero] at y0 y1 y2; have HW2 := Lib.hid hown; have HO2 := Lib.hid hok; clear hown hok)
      have hl1 : (vRelax m es (vIter m es k Z)).length = Z.length := by rw [vRelax_length, vIter_length]
      have hw2 := HW2.out
      have ho2 := HO2.out
      unfold OwnV at hw2
      rw [hl1] at hw2 ho2
      have hch : ∀ x y z, Chg w1.heap.size (w1.heap.size + 1) w2 (((w2.setCell ⟨w1.heap.size, 0, none⟩ x).setCell ⟨w1.heap.size, 1, none⟩ y).setCell ⟨w1.heap.size, 2, none⟩ z) := fun x y z => (((Chg.refl _ _ _).setCell (by simp only; omega) (by simp only; omega) _).setCell (by simp only; omega) (by simp only; omega) _).setCell (by simp only; omega) (by simp only; omega) _
      have hs2 := hb2.size
      have hs3 := (hch (.int .i64 m) (.int .i64 A) (.slice na (vRelax m es (vIter m es k Z)).length nc)).size
      have hnew : VMid m A es Z (w.heap.size + 2) w1.heap.size (((w2.setCell ⟨w1.heap.size, 0, none⟩ (.int .i64 m)).setCell ⟨w1.heap.size, 1, none⟩ (.int .i64 A)).setCell ⟨w1.heap.size, 2, none⟩ (.slice na (vRelax m es (vIter m es k Z)).length nc)) (k + 1) := by
        rw [hl1]
        rw [hl1] at hs3
        refine ⟨na, nc, wr.heap.size, w2.heap.size, ?_, InR.chg hw2 (hch _ _ _) (.inl (by omega)), ho2, by omega, hs3, .inr (by omega)⟩
        have h4 := (((HX.out.keep hb2).set 0 (.int .i64 m)).set 1 (.int .i64 A)).set 2 (.slice na Z.length nc)
        simpa using h4
      have hbn := bel_chg (bel_trans hbel hb2) (hch (.int .i64 m) (.int .i64 A) (.slice na (vRelax m es (vIter m es k Z)).length nc)) (by omega)
      have HNEW := Lib.hid hnew
      have HBN := Lib.hid hbn
      clear hnew hbn hw2 ho2 hch hs3 hl1
      go_roundw
      case rel => first | exact ⟨k + 1, by omega, by go_num, HBN.out, HNEW, Lib.hid ⟨(((HBX.out.1.keep hb2).setOther (by omega) _ _).setOther (by omega) _ _).setOther (by omega) _ _, (((HBX.out.2.keep hb2).setOther (by omega) _ _).setOther (by omega) _ _).setOther (by omega) _ _⟩⟩ | ((repeat apply Exists.intro); exact ⟨⟨k + 1, by omega, by go_num, HBN.out, HNEW, Lib.hid ⟨(((HBX.out.1.keep hb2).setOther (by omega) _ _).setOther (by omega) _ _).setOther (by omega) _ _, (((HBX.out.2.keep hb2).setOther (by omega) _ _).setOther (by omega) _ _).setOther (by omega) _ _⟩⟩, rfl⟩)
      case measure => simp [intOf]; omega
    · have hke : k = N := by omega
      have hkk : ¬ ((k : Int) < N) := by omega
      have HK := Lib.hid hke
      have r0 := HBX.out.2.cell 0
      have r1 := HBX.out.2.cell 1
      have r2 := HBX.out.2.cell 2
      have s0 := HBX.out.2.frozen 0
      have s1 := HBX.out.2.frozen 1
      have s2 := HBX.out.2.frozen 2
      simp only [List.getElem?_toArray, List.getElem?_cons_succ, List.getElem?_cons_zero] at r0 r1 r2
      clear hke
      go_wp2
      try simp only [Exit.inBlock, Exit.then]
      refine bodyPost_ret (v := .agg #[.int .i64 m, .int .i64 A, .slice ua Z.length uc]) ?_ rfl ?_
      · rw [results_cell1 rfl]
        go_simp
      have hch : ∀ x y z, Chg (w.heap.size + 1) (w.heap.size + 2) wr (((wr.setCell ⟨w.heap.size + 1, 0, none⟩ x).setCell ⟨w.heap.size + 1, 1, none⟩ y).setCell ⟨w.heap.size + 1, 2, none⟩ z) := fun x y z => (((Chg.refl _ _ _).setCell (by simp only; omega) (by simp only; omega) _).setCell (by simp only; omega) (by simp only; omega) _).setCell (by simp only; omega) (by simp only; omega) _
      refine ⟨_, rfl, ?_, HO.out, bel_chg hbel (hch _ _ _) (by omega)⟩
      have hr := HR.out
      rw [HK.out] at hr
      have h1 := (hr.wider (Nat.le_refl _) hhi (Nat.le_refl _)).chg (hch (.int .i64 m) (.int .i64 A) (.slice ua Z.length uc)) (.inl hlo)
      unfold OwnV
      rw [vIter_length]
      exact h1.wider (by omega) (hch _ _ _).size (Nat.le_refl _)
end Go.Proofs.Ytlgjcofpdaljnaa
namespace Go.Proofs.Ytlgjcofpdaljnaa
open Go.RowKit Go.BigFrame Go.Deep
set_option linter.unusedVariables false
set_option linter.unusedSimpArgs false
set_option linter.unnecessarySimpa false

set_option maxRecDepth 20000 in
set_option maxHeartbeats 2000000 in
theorem sViewOf (n m a : Int) (es : List Ed) (s : Value) (w : World) (hs : RowE w s es) (hl : es.length ≤ 281474976710656) :
    Calls Try.prog 77 #[.agg #[.int .i64 n, s], .int .i64 m, .int .i64 a] w fun e w' =>
      ∃ v, e = .returned (.tuple #[.agg #[.int .i64 (stM n es m a), .int .i64 (stA n es m a), v], .bool (onOk n es m [a])]) ∧ OwnV w w' v (voL n es m a) ∧ okS v ∧ Below w.heap.size w w' := by
  have hB : ∀ (A B : Obj), Below w.heap.size w ((w.alloc A).alloc B) := fun A B => ((Below.refl _ _).alloc (Nat.le_refl _) _).alloc (by simp) _
  have hR := Lib.hid hs
  have ho := fun A B => l3Right n m a es s ((w.alloc A).alloc B) (hs.keep (hB A B)) hl
  obtain ⟨ad, cap, rfl, hz0⟩ := hs
  clear hz0
  have HB := Lib.hid hB
  unfold stM stA voL
  obtain ⟨G, hG⟩ : ∃ G, G = onOk n es m [a] := ⟨_, rfl⟩
  rw [← hG] at ho ⊢
  have HO := Lib.hid ho
  have QG := Lib.hid hG
  clear ho hB hG
  cases G
  · rw [if_neg (by decide), if_neg (by decide), if_neg (by decide)]
    go_enter Try.func77, Try.ntmps77
    go_wp2_with (go_at_call 52; refine (HO.out _ _).mono ?_; rintro e w1 ⟨rfl, hb1⟩; have x0 := hb1.cell (p := ⟨w.heap.size + 1, 0, none⟩) (by simp <;> omega); have x1 := hb1.cell (p := ⟨w.heap.size + 1, 1, none⟩) (by simp <;> omega); have x2 := hb1.cell (p := ⟨w.heap.size + 1, 2, none⟩) (by simp <;> omega); have f0 := hb1.frozen (p := ⟨w.heap.size + 1, 0, none⟩) (by simp <;> omega); have f1 := hb1.frozen (p := ⟨w.heap.size + 1, 1, none⟩) (by simp <;> omega); have f2 := hb1.frozen (p := ⟨w.heap.size + 1, 2, none⟩) (by simp <;> omega))
    try simp only [Exit.inBlock, Exit.then]
    refine bodyPost_ret (v := .tuple #[.agg #[.int .i64 0, .int .i64 0, .slice none 0 0], .bool false]) ?_ rfl ?_
    · rw [results_cell_tmp rfl]
      go_simp
    exact ⟨_, rfl, OwnV.nil _ _, okS_nil, (((bel_trans (HB.out _ _) hb1).setCell (by simp) _).setCell (by simp) _).setCell (by simp) _⟩
  · rw [if_pos rfl, if_pos rfl, if_pos rfl]
    have hp := onOk_parts QG.out.symm
    have hn := gVal_n hp.1
    have he := eAll_of hp.1
    have ha := hp.2.1 a (List.mem_singleton.2 rfl)
    have hm := hp.2.2
    obtain ⟨N, rfl⟩ := Int.eq_ofNat_of_zero_le (show 0 ≤ n by omega)
    obtain ⟨A, rfl⟩ := Int.eq_ofNat_of_zero_le ha.1
    rw [Int.toNat_natCast] at he
    rw [Int.toNat_natCast]
    have hst := fun w' (h : Below w.heap.size w w') => l3View m es N A _ w' hm (hR.out.keep h) (by omega) (by omega) (by omega) he
    obtain ⟨L, hL⟩ : ∃ L, L = vIter m es N (vStart m N A) := ⟨_, rfl⟩
    rw [← hL] at hst ⊢
    have HST := Lib.hid hst
    clear hst hp hn ha he hL
    go_enter Try.func77, Try.ntmps77
    go_wp2_with (first | (go_at_call 52; refine (HO.out _ _).mono ?_; rintro e w1 ⟨rfl, hb1⟩; have x0 := hb1.cell (p := ⟨w.heap.size + 1, 0, none⟩) (by simp <;> omega); have x1 := hb1.cell (p := ⟨w.heap.size + 1, 1, none⟩) (by simp <;> omega); have x2 := hb1.cell (p := ⟨w.heap.size + 1, 2, none⟩) (by simp <;> omega); have f0 := hb1.frozen (p := ⟨w.heap.size + 1, 0, none⟩) (by simp <;> omega); have f1 := hb1.frozen (p := ⟨w.heap.size + 1, 1, none⟩) (by simp <;> omega); have f2 := hb1.frozen (p := ⟨w.heap.size + 1, 2, none⟩) (by simp <;> omega); have y0 := hb1.cell (p := ⟨w.heap.size, 0, none⟩) (by simp <;> omega); have y1 := hb1.cell (p := ⟨w.heap.size, 1, none⟩) (by simp <;> omega)) | (go_at_call 55; refine (HST.out _ (bel_trans (HB.out _ _) hb1)).mono ?_; rintro e w2 ⟨v, rfl, hown, hok, hb2⟩; obtain ⟨va, vc, rfl⟩ := hown.slice; have z0 := hb2.cell (p := ⟨w.heap.size + 1, 0, none⟩) (Nat.lt_of_lt_of_le (by simp <;> omega) hb1.size); have z1 := hb2.cell (p := ⟨w.heap.size + 1, 1, none⟩) (Nat.lt_of_lt_of_le (by simp <;> omega) hb1.size); have z2 := hb2.cell (p := ⟨w.heap.size + 1, 2, none⟩) (Nat.lt_of_lt_of_le (by simp <;> omega) hb1.size); have g0 := hb2.frozen (p := ⟨w.heap.size + 1, 0, none⟩) (Nat.lt_of_lt_of_le (by simp <;> omega) hb1.size); have g1 := hb2.frozen (p := ⟨w.heap.size + 1, 1, none⟩) (Nat.lt_of_lt_of_le (by simp <;> omega) hb1.size); have g2 := hb2.frozen (p := ⟨w.heap.size + 1, 2, none⟩) (Nat.lt_of_lt_of_le (by simp <;> omega) hb1.size); have HW := Lib.hid hown; have HOK := Lib.hid hok; clear hown hok))
    try simp only [Exit.inBlock, Exit.then]
    refine bodyPost_ret (v := .tuple #[.agg #[.int .i64 m, .int .i64 A, .slice va L.length vc], .bool true]) ?_ rfl ?_
    · rw [results_cell_tmp rfl]
      go_simp
    have hB1 := bel_trans (HB.out _ _) hb1
    have hs1 : w.heap.size + 2 ≤ w1.heap.size := by have h2 := hb1.size; simp at h2; omega
    have hs2 := hb2.size
    have hch : ∀ x y z, Chg (w.heap.size + 1) (w.heap.size + 2) w2 (((w2.setCell ⟨w.heap.size + 1, 0, none⟩ x).setCell ⟨w.heap.size + 1, 1, none⟩ y).setCell ⟨w.heap.size + 1, 2, none⟩ z) := fun x y z => (((Chg.refl _ _ _).setCell (by simp only; omega) (by simp only; omega) _).setCell (by simp only; omega) (by simp only; omega) _).setCell (by simp only; omega) (by simp only; omega) _
    refine ⟨_, rfl, ?_, HOK.out, bel_chg (bel_trans hB1 hb2) (hch _ _ _) (by omega)⟩
    have h1 := InR.chg HW.out (hch (.int .i64 m) (.int .i64 A) (.slice va L.length vc)) (.inl (by omega))
    exact h1.wider (by omega) (hch _ _ _).size (Nat.le_refl _)
end Go.Proofs.Ytlgjcofpdaljnaa
