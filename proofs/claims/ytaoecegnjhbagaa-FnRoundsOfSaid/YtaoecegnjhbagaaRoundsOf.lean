/- RoundsOf: in the program and in the model. -/
import Derived.Test.YtaoecegnjhbagaaViewT
import Derived.Test.YtaoecegnjhbagaaVSame2
namespace Go.Proofs.Ytaoecegnjhbagaa
open Go.RowKit Go.BigFrame Go.Deep
set_option linter.unusedVariables false
set_option linter.unusedSimpArgs false
set_option linter.unnecessarySimpa false

/-- The number of rounds that change something. -/
def vFirst (m : Int) (es : List Ed) : Nat → List Int → Nat
  | 0, _ => 0
  | k + 1, zs => if vRelax m es zs = zs then 0 else vFirst m es k (vRelax m es zs) + 1
theorem vIter_shift (m : Int) (es : List Ed) (zs : List Int) : ∀ k, vIter m es k (vRelax m es zs) = vIter m es (k + 1) zs
  | 0 => rfl
  | k + 1 => by
    show vRelax m es (vIter m es k (vRelax m es zs)) = _
    rw [vIter_shift m es zs k]
    rfl
theorem vFirst_eq {m : Int} {es : List Ed} : ∀ (k : Nat) (zs : List Int) (r : Nat), FirstStill m es zs r → r ≤ k → vFirst m es k zs = r
  | 0, zs, r, h, hr => by unfold vFirst; omega
  | k + 1, zs, r, h, hr => by
    unfold vFirst
    by_cases e : vRelax m es zs = zs
    · rw [if_pos e]
      apply Classical.byContradiction
      intro hne
      exact h.2 0 (by omega) e
    · rw [if_neg e]
      cases r with
      | zero => exact absurd h.1 e
      | succ r =>
        rw [vFirst_eq k (vRelax m es zs) r ⟨by rw [vIter_shift, vIter_shift]; exact h.1, fun j hj => by rw [vIter_shift, vIter_shift]; exact h.2 (j + 1) (by omega)⟩ (by omega)]
theorem least {P : Nat → Prop} : ∀ n, P n → ∃ r, r ≤ n ∧ P r ∧ ∀ j, j < r → ¬ P j := by
  intro n
  induction n using Nat.strongRecOn with
  | _ n ih =>
    intro hn
    by_cases h : ∃ j, j < n ∧ P j
    · obtain ⟨j, hj, hp⟩ := h
      obtain ⟨r, h1, h2, h3⟩ := ih j hj hp
      exact ⟨r, by omega, h2, h3⟩
    · exact ⟨n, Nat.le_refl _, hn, fun j hj hp => h ⟨j, hj, hp⟩⟩
theorem first_is {m : Int} {es : List Ed} {N A : Nat} (hm : mKind m = true) (he : eAll N es) (hA : A < N) : FirstStill m es (vStart m N A) (vFirst m es N (vStart m N A)) ∧ vFirst m es N (vStart m N A) + 1 ≤ N := by
  have h0 : vIter m es (N - 1 + 1) (vStart m N A) = vIter m es (N - 1) (vStart m N A) := vEnd hm (by simpa using he) (by omega) (by simpa using hA) (by simp only [Int.toNat_natCast]; omega)
  obtain ⟨r, h1, h2, h3⟩ := least (P := fun k => vIter m es (k + 1) (vStart m N A) = vIter m es k (vStart m N A)) (N - 1) h0
  have h4 : FirstStill m es (vStart m N A) r := ⟨h2, fun j hj => h3 j hj⟩
  rw [vFirst_eq N _ r h4 (by omega)]
  exact ⟨h4, by omega⟩
def roR (n : Int) (es : List Ed) (m a : Int) : Int := if onOk n es m [a] = true then ((vFirst m es n.toNat (vStart m n a) : Nat) : Int) else 0
theorem row_one1 (w : World) (A : Obj) (a : Int) : Row ((w.alloc A).alloc (.cells #[.int .i64 a] 3)) (.slice (some ⟨w.heap.size + 1, 0, none⟩) 1 1) [a] := by
  have := row_one (w.alloc A) a 3
  simpa using this

set_option maxRecDepth 20000 in
set_option maxHeartbeats 4000000 in
theorem roundsOf (n m a : Int) (es : List Ed) (s : Value) (w : World) (hs : RowE w s es) (hl : es.length ≤ 281474976710656) :
    Calls Try.prog 21 #[.agg #[.int .i64 n, s], .int .i64 m, .int .i64 a] w fun e w' => e = .returned (.tuple #[.int .i64 (roR n es m a), .bool (onOk n es m [a])]) ∧ Below w.heap.size w w' := by
  have hB : ∀ (A B : Obj), Below w.heap.size w ((w.alloc A).alloc B) := fun A B => ((Below.refl _ _).alloc (Nat.le_refl _) _).alloc (by simp) _
  have ho := fun A => opsOn n m es [a] s _ _ (hs.keep (hB A _)) (row_one1 w A a) hl (by simp)
  have hR := Lib.hid hs
  obtain ⟨ad, cap, rfl, hz0⟩ := hs
  clear hz0
  have HB := Lib.hid hB
  unfold roR
  obtain ⟨G, hG⟩ : ∃ G, G = onOk n es m [a] := ⟨_, rfl⟩
  rw [← hG] at ho ⊢
  have HO := Lib.hid ho
  have QG := Lib.hid hG
  clear ho hB hG
  cases G
  · rw [if_neg (by decide)]
    go_enter Try.func21, Try.ntmps21
    go_wp2_with (go_at_call 36; refine (HO.out _).mono ?_; rintro e w1 ⟨rfl, hb1⟩; have y0 := hb1.cell (p := ⟨w.heap.size, 0, none⟩) (by simp <;> omega); have y1 := hb1.cell (p := ⟨w.heap.size, 1, none⟩) (by simp <;> omega))
    go_ret2
    exact ⟨rfl, bel_trans (HB.out _ _) hb1⟩
  · rw [if_pos rfl]
    have hp := onOk_parts QG.out.symm
    have hn := gVal_n hp.1
    have he := eAll_of hp.1
    have ha := hp.2.1 a (List.mem_singleton.2 rfl)
    have hm := hp.2.2
    obtain ⟨N, rfl⟩ := Int.eq_ofNat_of_zero_le (show 0 ≤ n by omega)
    obtain ⟨A, rfl⟩ := Int.eq_ofNat_of_zero_le ha.1
    rw [Int.toNat_natCast] at he ⊢
    have hst := fun w' (h : Below w.heap.size w w') => rightValues m es N A _ w' hm (hR.out.keep h) (by omega) (by omega) (by omega) he
    have hf := first_is (m := m) (es := es) (N := N) (A := A) hm he (by omega)
    have HFI := Lib.hid hf
    have e1 : opsR m true = opsV m := rfl
    rw [e1] at HO
    obtain ⟨O, hO⟩ : ∃ O, O = opsV m := ⟨_, rfl⟩
    rw [← hO] at hst HO
    have HST := Lib.hid hst
    clear hst hp hn ha e1 he hO hf
    go_enter Try.func21, Try.ntmps21
    go_wp2_with (first | (go_at_call 36; refine (HO.out _).mono ?_; rintro e w1 ⟨rfl, hb1⟩; have y0 := hb1.cell (p := ⟨w.heap.size, 0, none⟩) (by simp <;> omega); have y1 := hb1.cell (p := ⟨w.heap.size, 1, none⟩) (by simp <;> omega)) | (go_at_call 37; refine (HST.out _ (bel_trans (HB.out _ _) hb1)).mono ?_; rintro e w2 ⟨v, r, rfl, hown, hok, hrr, hb2⟩; have HR := Lib.hid hrr; clear hown hok hrr))
    go_ret2
    exact ⟨by rw [HR.out.1.eq HFI.out.1]; rfl, bel_trans (bel_trans (HB.out _ _) hb1) hb2⟩

set_option maxRecDepth 20000 in
set_option maxHeartbeats 4000000 in
theorem sRoundsOf (n m a : Int) (es : List Ed) (s : Value) (w : World) (hs : RowE w s es) (hl : es.length ≤ 281474976710656) :
    Calls Try.prog 22 #[.agg #[.int .i64 n, s], .int .i64 m, .int .i64 a] w fun e w' => e = .returned (.tuple #[.int .i64 (roR n es m a), .bool (onOk n es m [a])]) ∧ Below w.heap.size w w' := by
  have hB : ∀ (A : Obj), Below w.heap.size w (w.alloc A) := fun A => (Below.refl _ _).alloc (Nat.le_refl _) _
  have ho := fun A => l3Right n m a es s (w.alloc A) (hs.keep (hB A)) hl
  have hR := Lib.hid hs
  obtain ⟨ad, cap, rfl, hz0⟩ := hs
  clear hz0
  have HB := Lib.hid hB
  unfold roR
  obtain ⟨G, hG⟩ : ∃ G, G = onOk n es m [a] := ⟨_, rfl⟩
  rw [← hG] at ho ⊢
  have HO := Lib.hid ho
  have QG := Lib.hid hG
  clear ho hB hG
  cases G
  · rw [if_neg (by decide)]
    go_enter Try.func22, Try.ntmps22
    go_wp2_with (go_at_call 38; refine (HO.out _).mono ?_; rintro e w1 ⟨rfl, hb1⟩)
    go_ret2
    exact ⟨rfl, bel_trans (HB.out _) hb1⟩
  · rw [if_pos rfl]
    have hp := onOk_parts QG.out.symm
    have hn := gVal_n hp.1
    have he := eAll_of hp.1
    have ha := hp.2.1 a (List.mem_singleton.2 rfl)
    have hm := hp.2.2
    obtain ⟨N, rfl⟩ := Int.eq_ofNat_of_zero_le (show 0 ≤ n by omega)
    obtain ⟨A, rfl⟩ := Int.eq_ofNat_of_zero_le ha.1
    rw [Int.toNat_natCast] at he ⊢
    have hN12 : N ≤ 12 := by omega
    have hf := first_is (m := m) (es := es) (N := N) (A := A) hm he (by omega)
    have hlen : (vStart m N A).length = N := by rw [vStart_length, Int.toNat_natCast]
    have hvs := vStart_all (m := m) (n := (N : Int)) (src := (A : Int)) hm
    have hst := fun w => l3Start m N A hm (by omega) (by omega) ad es.length cap w
    obtain ⟨R, hRR⟩ : ∃ R, R = vFirst m es N (vStart m N A) := ⟨_, rfl⟩
    rw [← hRR] at hf ⊢
    obtain ⟨Z, hZ⟩ : ∃ Z, Z = vStart m N A := ⟨_, rfl⟩
    rw [← hZ] at hst hlen hvs hf
    have hrx := fun (k : Nat) (p : Value) (w' : World) (h : Below w.heap.size w w') (hp : Row w' p (vIter m es k Z)) => l3Relax N m A es (vIter m es k Z) _ p w' hm (hR.out.keep h) hp (by omega) (by rw [vIter_length]; omega) (by rw [vIter_length]; omega) (vIter_all hm hvs (by rw [hlen]; exact he) k) (by rw [vIter_length, hlen]; exact he)
    have heq := fun (k : Nat) (p q : Value) w' (hp : Row w' p (vRelax m es (vIter m es k Z))) (hq : Row w' q (vIter m es k Z)) => sViewSame m A m A (vRelax m es (vIter m es k Z)) (vIter m es k Z) p q w' hp hq (by rw [vRelax_length, vIter_length]; omega) (by rw [vIter_length]; omega)
    have HST := Lib.hid hst
    have HRX := Lib.hid hrx
    have HEQ := Lib.hid heq
    have HFI := Lib.hid hf
    have HLEN := Lib.hid hlen
    clear hst hrx heq hp hn ha he hlen hvs hZ hRR hf
    go_enter Try.func22, Try.ntmps22
    go_wp2_with (first | (go_at_call 38; refine (HO.out _).mono ?_; rintro e w1 ⟨rfl, hb1⟩; have y0 := hb1.cell (p := ⟨w.heap.size, 0, none⟩) (by simp <;> omega); have y1 := hb1.cell (p := ⟨w.heap.size, 1, none⟩) (by simp <;> omega)) | (go_at_call 45; refine (HST.out _).mono ?_; rintro e w2 ⟨v, rfl, hown, hok, hb2⟩; obtain ⟨va, vc, rfl⟩ := hown.slice; have HW := Lib.hid hown; have HOK := Lib.hid hok; clear hown hok))
    have hbw1 := bel_trans (HB.out _) hb1
    have hbw := bel_trans hbw1 hb2
    have hbg : Box w2 w.heap.size 25 #[.int .i64 N, .slice ad es.length cap] := ((Box.new w 25 _).keep hb1).keep hb2
    have hsz1 : w.heap.size + 1 ≤ w1.heap.size := by have h2 := hb1.size; simpa using h2
    have hsz2 := hb2.size
    have HBG := Lib.hid hbg
    clear hbg
    go_loopw [9] (fun c wr => ∃ k : Nat, k ≤ R ∧ c = .int .i64 k ∧ Below w.heap.size w wr ∧ Hid (VMid m A es Z w.heap.size w2.heap.size wr k) ∧ Hid (Box wr w.heap.size 25 #[.int .i64 N, .slice ad es.length cap])) (fun c _ => R - (intOf c).toNat)
    case atStart =>
      refine ⟨0, Nat.zero_le _, rfl, hbw.alloc hbw.size _, Lib.hid ⟨va, vc, w1.heap.size, w2.heap.size, Box.new _ _ _, ?_, HOK.out, by omega, by simp, .inl (Nat.le_refl _)⟩, Lib.hid (HBG.out.alloc _)⟩
      have h1 := HW.out
      unfold OwnV at h1
      exact h1.keep ((Below.refl _ _).alloc (Nat.le_refl _) _)
    case round =>
      obtain ⟨k, hk, rfl, hbel, HV, HBX⟩ := hrel
      obtain ⟨ua, uc, lo, hi, hbx, hrow, hok, hlo, hhi, hdj⟩ := HV.out
      have HX := Lib.hid hbx
      have HR := Lib.hid hrow
      have hBlt : w2.heap.size < wr.heap.size := hbx.lt
      have hfacts : ∀ w', Below wr.heap.size wr w' → (w'.cell? ⟨w.heap.size, 0, none⟩ = some (.int .i64 N) ∧ w'.cell? ⟨w.heap.size, 1, none⟩ = some (.slice ad es.length cap) ∧ w'.cell? ⟨w2.heap.size, 0, none⟩ = some (.int .i64 m) ∧ w'.cell? ⟨w2.heap.size, 1, none⟩ = some (.int .i64 A) ∧ w'.cell? ⟨w2.heap.size, 2, none⟩ = some (.slice ua Z.length uc)) ∧ Below w.heap.size w w' ∧ Row w' (.slice ua Z.length uc) (vIter m es k Z) := fun w' h => by
        have b0 := HBX.out.keep h
        have b1 := HX.out.keep h
        have k0 := b0.cell 0
        have k1 := b0.cell 1
        have k2 := b1.cell 0
        have k3 := b1.cell 1
        have k4 := b1.cell 2
        simp only [List.getElem?_toArray, List.getElem?_cons_succ, List.getElem?_cons_zero] at k0 k1 k2 k3 k4
        exact ⟨⟨k0, k1, k2, k3, k4⟩, bel_trans hbel h, rowOf (HR.out.keep h) (vIter_length m es Z k)⟩
      have HF := Lib.hid hfacts
      clear hbx hrow hok HV hbw hfacts
      by_cases hlt : k < R
      · have hns := HFI.out.1.2 k hlt
        have hk12 : (k : Int) < 12 := by have := HFI.out.2; omega
        have hsame : vSame m A (vRelax m es (vIter m es k Z)) m A (vIter m es k Z) = false := by
          unfold vSame iSame
          have : ¬ vRelax m es (vIter m es k Z) = vIter m es k Z := hns
          simp [this]
        have HSA := Lib.hid hsame
        clear hns hsame
        go_wp2_with fail
        go_region_held3 (fun w' : World => w'.cell? ⟨w.heap.size, 0, none⟩ = some (.int .i64 N) ∧ w'.cell? ⟨w.heap.size, 1, none⟩ = some (.slice ad es.length cap) ∧ w'.cell? ⟨w2.heap.size, 0, none⟩ = some (.int .i64 m) ∧ w'.cell? ⟨w2.heap.size, 1, none⟩ = some (.int .i64 A) ∧ w'.cell? ⟨w2.heap.size, 2, none⟩ = some (.slice ua Z.length uc)) (first | exact (HF.out _ ((Below.refl _ _).drew)).1 | exact (HF.out _ (bel_trans ((Below.refl _ _).drew) hbA)).1 | exact (HF.out _ (bel_trans (bel_trans ((Below.refl _ _).drew) hbA) hbB)).1) (first | (go_at_call 47; (with_reducible refine (HRX.out k _ _ (HF.out _ ((Below.refl _ _).drew)).2.1 (HF.out _ ((Below.refl _ _).drew)).2.2).mono ?_); rintro e wA ⟨v, rfl, hown, hok, hbA⟩; obtain ⟨na, nc, rfl⟩ := hown.slice; have HRA := Lib.hid hown.row; clear hown hok) | (go_at_call 46; (with_reducible refine (HEQ.out k _ _ _ HRA.out (HF.out _ (bel_trans ((Below.refl _ _).drew) hbA)).2.2).mono ?_); rw [HSA.out]; rintro e wB ⟨rfl, hbB⟩))
        all_goals
          have HF3 := Lib.hid (HF.out _ (bel_trans (bel_trans ((Below.refl _ _).drew) hbA) hbB))
          obtain ⟨q0, q1, q2, q3, q4⟩ := HF3.out.1
          go_wp2_with (go_at_call 47; refine (HRX.out k _ _ HF3.out.2.1 HF3.out.2.2).mono ?_; rintro e w5 ⟨v, rfl, hown, hok, hb5⟩; obtain ⟨oa, oc, rfl⟩ := hown.slice; have y0 := (HX.out.keep (bel_trans (bel_trans (bel_trans ((Below.refl _ _).drew) hbA) hbB) hb5)).cell 0; have y1 := (HX.out.keep (bel_trans (bel_trans (bel_trans ((Below.refl _ _).drew) hbA) hbB) hb5)).cell 1; have y2 := (HX.out.keep (bel_trans (bel_trans (bel_trans ((Below.refl _ _).drew) hbA) hbB) hb5)).cell 2; have f0 := (HX.out.keep (bel_trans (bel_trans (bel_trans ((Below.refl _ _).drew) hbA) hbB) hb5)).frozen 0; have f1 := (HX.out.keep (bel_trans (bel_trans (bel_trans ((Below.refl _ _).drew) hbA) hbB) hb5)).frozen 1; have f2 := (HX.out.keep (bel_trans (bel_trans (bel_trans ((Below.refl _ _).drew) hbA) hbB) hb5)).frozen 2; simp only [List.getElem?_toArray, List.getElem?_cons_succ, List.getElem?_cons_zero] at y0 y1 y2; have HW5 := Lib.hid hown; have HO5 := Lib.hid hok; clear hown hok)
          have hb4 : Below wr.heap.size wr wB := (bel_trans (bel_trans ((Below.refl _ _).drew) hbA) hbB)
          have hs4 := hb4.size
          have hs5 := hb5.size
          have hl1 : (vRelax m es (vIter m es k Z)).length = Z.length := by rw [vRelax_length, vIter_length]
          have hw5 := HW5.out
          have ho5 := HO5.out
          unfold OwnV at hw5
          rw [hl1] at hw5 ho5
          have hch : ∀ x y z, Chg w2.heap.size (w2.heap.size + 1) w5 (((w5.setCell ⟨w2.heap.size, 0, none⟩ x).setCell ⟨w2.heap.size, 1, none⟩ y).setCell ⟨w2.heap.size, 2, none⟩ z) := fun x y z => (((Chg.refl _ _ _).setCell (by simp only; omega) (by simp only; omega) _).setCell (by simp only; omega) (by simp only; omega) _).setCell (by simp only; omega) (by simp only; omega) _
          have hs6 := (hch (.int .i64 m) (.int .i64 A) (.slice oa (vRelax m es (vIter m es k Z)).length oc)).size
          have hnew : VMid m A es Z w.heap.size w2.heap.size (((w5.setCell ⟨w2.heap.size, 0, none⟩ (.int .i64 m)).setCell ⟨w2.heap.size, 1, none⟩ (.int .i64 A)).setCell ⟨w2.heap.size, 2, none⟩ (.slice oa (vRelax m es (vIter m es k Z)).length oc)) (k + 1) := by
            rw [hl1]
            rw [hl1] at hs6
            refine ⟨oa, oc, wB.heap.size, w5.heap.size, ?_, InR.chg hw5 (hch _ _ _) (.inl (by omega)), ho5, by omega, hs6, .inr (by omega)⟩
            have h4 := (((HX.out.keep (bel_trans hb4 hb5)).set 0 (.int .i64 m)).set 1 (.int .i64 A)).set 2 (.slice oa Z.length oc)
            simpa using h4
          have hbn := bel_chg (bel_trans hbel (bel_trans hb4 hb5)) (hch (.int .i64 m) (.int .i64 A) (.slice oa (vRelax m es (vIter m es k Z)).length oc)) (by omega)
          have hgn := fun x y z => (((HBX.out.keep (bel_trans hb4 hb5)).setOther (B' := w2.heap.size) (by omega) 0 x).setOther (B' := w2.heap.size) (by omega) 1 y).setOther (B' := w2.heap.size) (by omega) 2 z
          have HNEW := Lib.hid hnew
          have HBN := Lib.hid hbn
          have HGN := Lib.hid hgn
          clear hnew hbn hw5 ho5 hch hs6 hl1 hgn
          go_roundw
        all_goals first | (simp [intOf]; omega) | exact ⟨k + 1, by omega, by go_num, HBN.out, HNEW, Lib.hid (HGN.out _ _ _)⟩ | ((repeat apply Exists.intro); exact ⟨⟨k + 1, by omega, by go_num, HBN.out, HNEW, Lib.hid (HGN.out _ _ _)⟩, rfl⟩)
      · have hke : k = R := by omega
        have hst := HFI.out.1.1
        rw [← hke] at hst
        have hsame : vSame m A (vRelax m es (vIter m es k Z)) m A (vIter m es k Z) = true := by
          unfold vSame iSame
          have : vRelax m es (vIter m es k Z) = vIter m es k Z := hst
          simp [this]
        have HSA := Lib.hid hsame
        have HK := Lib.hid hke
        clear hst hsame hke
        go_wp2_with fail
        go_region_held3 (fun w' : World => w'.cell? ⟨w.heap.size, 0, none⟩ = some (.int .i64 N) ∧ w'.cell? ⟨w.heap.size, 1, none⟩ = some (.slice ad es.length cap) ∧ w'.cell? ⟨w2.heap.size, 0, none⟩ = some (.int .i64 m) ∧ w'.cell? ⟨w2.heap.size, 1, none⟩ = some (.int .i64 A) ∧ w'.cell? ⟨w2.heap.size, 2, none⟩ = some (.slice ua Z.length uc)) (first | exact (HF.out _ ((Below.refl _ _).drew)).1 | exact (HF.out _ (bel_trans ((Below.refl _ _).drew) hbA)).1 | exact (HF.out _ (bel_trans (bel_trans ((Below.refl _ _).drew) hbA) hbB)).1) (first | (go_at_call 47; (with_reducible refine (HRX.out k _ _ (HF.out _ ((Below.refl _ _).drew)).2.1 (HF.out _ ((Below.refl _ _).drew)).2.2).mono ?_); rintro e wA ⟨v, rfl, hown, hok, hbA⟩; obtain ⟨na, nc, rfl⟩ := hown.slice; have HRA := Lib.hid hown.row; clear hown hok) | (go_at_call 46; (with_reducible refine (HEQ.out k _ _ _ HRA.out (HF.out _ (bel_trans ((Below.refl _ _).drew) hbA)).2.2).mono ?_); rw [HSA.out]; rintro e wB ⟨rfl, hbB⟩))
        all_goals
          have HF3 := Lib.hid (HF.out _ (bel_trans (bel_trans ((Below.refl _ _).drew) hbA) hbB)).2.1
          go_wp2
          go_ret2
          exact ⟨by rw [HK.out]; rfl, HF3.out⟩
end Go.Proofs.Ytaoecegnjhbagaa
