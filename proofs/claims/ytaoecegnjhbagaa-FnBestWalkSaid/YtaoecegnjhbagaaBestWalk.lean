/- BestWalk: in the program and in the model. -/
import Derived.Test.YtaoecegnjhbagaaViewT
namespace Go.Proofs.Ytaoecegnjhbagaa
open Go.RowKit Go.BigFrame Go.Deep
set_option linter.unusedVariables false
set_option linter.unusedSimpArgs false
set_option linter.unnecessarySimpa false

def bwB (n : Int) (es : List Ed) (m a b k : Int) : Bool := onOk n es m [a, b] && (decide (0 ≤ k) && decide (k ≤ 50))
def bwR (n : Int) (es : List Ed) (m a b k : Int) : Int := if bwB n es m a b k = true then (vIter m es k.toNat (vStart m n a)).getD b.toNat 0 else 0
theorem row_two1 (w : World) (A : Obj) (a b : Int) : Row ((w.alloc A).alloc (.cells #[.int .i64 a, .int .i64 b] 3)) (.slice (some ⟨w.heap.size + 1, 0, none⟩) 2 2) [a, b] := by
  have := row_two (w.alloc A) a b 3
  simpa using this
theorem bw_no {n : Int} {es : List Ed} {m a b k : Int} (h : bwB n es m a b k = false) : bwR n es m a b k = 0 := by unfold bwR; rw [if_neg (by rw [h]; decide)]
theorem onOk_pair (n : Int) (es : List Ed) (m a b : Int) : onOk n es m [a, b] = (onOk n es m [a] && inN n b) := by
  unfold onOk
  simp only [List.all_cons, List.all_nil, Bool.and_true]
  cases gVal n es <;> cases inN n a <;> cases inN n b <;> cases mKind m <;> rfl

set_option maxRecDepth 20000 in
set_option maxHeartbeats 4000000 in
theorem bestWalk (n m a b k : Int) (es : List Ed) (s : Value) (w : World) (hs : RowE w s es) (hl : es.length ≤ 281474976710656) :
    Calls Try.prog 23 #[.agg #[.int .i64 n, s], .int .i64 m, .int .i64 a, .int .i64 b, .int .i64 k] w fun e w' => e = .returned (.tuple #[.int .i64 (bwR n es m a b k), .bool (bwB n es m a b k)]) ∧ Below w.heap.size w w' := by
  have hB : ∀ (A B : Obj), Below w.heap.size w ((w.alloc A).alloc B) := fun A B => ((Below.refl _ _).alloc (Nat.le_refl _) _).alloc (by simp) _
  have ho := fun A => opsOn n m es [a, b] s _ _ (hs.keep (hB A _)) (row_two1 w A a b) hl (by simp)
  have hR := Lib.hid hs
  obtain ⟨ad, cap, rfl, hz0⟩ := hs
  clear hz0
  have HB := Lib.hid hB
  obtain ⟨G, hG⟩ : ∃ G, G = onOk n es m [a, b] := ⟨_, rfl⟩
  rw [← hG] at ho
  have HO := Lib.hid ho
  have QG := Lib.hid hG
  clear ho hB hG
  cases G
  · have e0 : bwB n es m a b k = false := by unfold bwB; rw [← QG.out]; rfl
    rw [bw_no e0, e0]
    clear e0
    go_enter Try.func23, Try.ntmps23
    go_wp2_with (go_at_call 36; refine (HO.out _).mono ?_; rintro e w1 ⟨rfl, hb1⟩; have y0 := hb1.cell (p := ⟨w.heap.size, 0, none⟩) (by simp <;> omega); have y1 := hb1.cell (p := ⟨w.heap.size, 1, none⟩) (by simp <;> omega))
    go_ret2
    exact ⟨rfl, bel_trans (HB.out _ _) hb1⟩
  by_cases h1 : k < 0
  · have e0 : bwB n es m a b k = false := by unfold bwB; simp; omega
    rw [bw_no e0, e0]
    clear e0
    go_enter Try.func23, Try.ntmps23
    go_wp2_with (go_at_call 36; refine (HO.out _).mono ?_; rintro e w1 ⟨rfl, hb1⟩; have y0 := hb1.cell (p := ⟨w.heap.size, 0, none⟩) (by simp <;> omega); have y1 := hb1.cell (p := ⟨w.heap.size, 1, none⟩) (by simp <;> omega))
    go_ret2
    exact ⟨rfl, bel_trans (HB.out _ _) hb1⟩
  by_cases h2 : 50 < k
  · have e0 : bwB n es m a b k = false := by unfold bwB; simp; omega
    rw [bw_no e0, e0]
    clear e0
    go_enter Try.func23, Try.ntmps23
    go_wp2_with (go_at_call 36; refine (HO.out _).mono ?_; rintro e w1 ⟨rfl, hb1⟩; have y0 := hb1.cell (p := ⟨w.heap.size, 0, none⟩) (by simp <;> omega); have y1 := hb1.cell (p := ⟨w.heap.size, 1, none⟩) (by simp <;> omega))
    go_ret2
    exact ⟨rfl, bel_trans (HB.out _ _) hb1⟩
  have hp := onOk_parts QG.out.symm
  have hn := gVal_n hp.1
  have he := eAll_of hp.1
  have ha := hp.2.1 a (by simp)
  have hb := hp.2.1 b (by simp)
  have hm := hp.2.2
  obtain ⟨N, rfl⟩ := Int.eq_ofNat_of_zero_le (show 0 ≤ n by omega)
  obtain ⟨A, rfl⟩ := Int.eq_ofNat_of_zero_le ha.1
  obtain ⟨B, rfl⟩ := Int.eq_ofNat_of_zero_le hb.1
  obtain ⟨K, rfl⟩ := Int.eq_ofNat_of_zero_le (show 0 ≤ k by omega)
  rw [Int.toNat_natCast] at he
  have e0 : bwB N es m A B K = true := by unfold bwB; rw [← QG.out]; simp; omega
  have e1 : bwR N es m A B K = (vIter m es K (vStart m N A)).getD B 0 := by unfold bwR; rw [if_pos e0, Int.toNat_natCast, Int.toNat_natCast]
  rw [e0, e1]
  have hlen : (vStart m N A).length = N := by rw [vStart_length, Int.toNat_natCast]
  have hst := fun w => startValues m N A hm (by omega) (by omega) w
  have hrr := fun (t : Value) (lo : Nat) (w' : World) (h : Below w.heap.size w w') (ht : MidV m es (vStart m N A) lo w' 0 t) (hlo : lo ≤ w'.heap.size) => relaxRounds m es (vStart m N A) _ t lo K w' hm (hR.out.keep h) ht hlo (by omega) (by omega) (by omega) (vStart_all hm) (by rw [hlen]; exact he) (by omega)
  obtain ⟨y, hy⟩ : ∃ y, y = (vIter m es K (vStart m N A)).getD B 0 := ⟨_, rfl⟩
  rw [← hy]
  have hfin : ∀ lo w' r o, RoundsTo m es (vStart m N A) lo K w' r o → ∃ bb off c, o = .slice (some ⟨bb, off, none⟩) N c ∧ w'.cell? ⟨bb, off + B, none⟩ = some (.int .i64 y) := fun lo w' r o h => by
    have h2 : vIter m es K (vStart m N A) = vIter m es r (vStart m N A) := by
      rcases h.2.2 with e | e
      · rw [e]
      · exact still_after e h.2.1
    obtain ⟨a9, c9, e9, h9⟩ := h.1.row
    rcases h9 with h9 | ⟨bb, off, h9a, h9b, h9c⟩
    · have h10 := congrArg List.length h9
      rw [vIter_length, hlen] at h10
      simp at h10
      omega
    · refine ⟨bb, off, c9, by rw [e9, h9a, vIter_length, hlen], ?_⟩
      rw [hy, h2]
      exact h9c B (by rw [vIter_length, hlen]; omega)
  have HST := Lib.hid hst
  have HRR := Lib.hid hrr
  have HFIN := Lib.hid hfin
  have hBN : (B : Int) < N := by omega
  obtain ⟨O, hO⟩ : ∃ O, O = opsV m := ⟨_, rfl⟩
  have eO : opsR m true = opsV m := rfl
  rw [eO] at HO
  rw [← hO] at HST HRR HO
  clear hst hrr hfin hp hn he ha hb e0 e1 hy hO eO hlen
  go_enter Try.func23, Try.ntmps23
  go_wp2_with (go_at_call 36; refine (HO.out _).mono ?_; rintro e w1 ⟨rfl, hb1⟩; have y0 := hb1.cell (p := ⟨w.heap.size, 0, none⟩) (by simp <;> omega); have y1 := hb1.cell (p := ⟨w.heap.size, 1, none⟩) (by simp <;> omega))
  have hbw := bel_trans (HB.out _ _) hb1
  have q0 : w1.cell? ⟨w.heap.size, 0, none⟩ = some (.int .i64 N) := y0.trans (by go_simp)
  have q1 : w1.cell? ⟨w.heap.size, 1, none⟩ = some (.slice ad es.length cap) := y1.trans (by go_simp)
  have hsz : w.heap.size < w1.heap.size := Nat.lt_of_lt_of_le (by simp <;> omega) hb1.size
  have hfacts : ∀ w', Below w1.heap.size w1 w' → (w'.cell? ⟨w.heap.size, 0, none⟩ = some (.int .i64 N) ∧ w'.cell? ⟨w.heap.size, 1, none⟩ = some (.slice ad es.length cap)) ∧ Below w.heap.size w w' := fun w' h =>
    ⟨⟨(h.cell (p := ⟨_, _, none⟩) hsz).trans q0, (h.cell (p := ⟨_, _, none⟩) hsz).trans q1⟩, bel_trans hbw h⟩
  have HF := Lib.hid hfacts
  clear hfacts q0 q1 y0 y1 hb1
  go_region_held3 (fun w' : World => w'.cell? ⟨w.heap.size, 0, none⟩ = some (.int .i64 N) ∧ w'.cell? ⟨w.heap.size, 1, none⟩ = some (.slice ad es.length cap)) (first | exact (HF.out _ ((Below.refl _ _).drew)).1 | exact (HF.out _ (bel_trans ((Below.refl _ _).drew) hbA)).1 | exact (HF.out _ (bel_trans (bel_trans ((Below.refl _ _).drew) hbA) hbB)).1) (first | (go_at_call 41; (with_reducible refine (HST.out _).mono ?_); rintro e wA ⟨v, rfl, hnew, hbA⟩; have hMA : MidV m es (vStart m N A) w.heap.size wA 0 v := ⟨by (have h1 := hnew.inR; have h2 := (HF.out _ ((Below.refl _ _).drew)).2.size; exact h1.wider (by simpa using h2) (Nat.le_refl _) (Nat.le_refl _)), hnew.ok, fun j hj => absurd hj (Nat.not_lt_zero _)⟩; have HMA := Lib.hid hMA; obtain ⟨a1, c1, rfl⟩ := hMA.slice; clear hnew hMA) | (go_at_call 48; (with_reducible refine (HRR.out _ _ _ (HF.out _ (bel_trans ((Below.refl _ _).drew) hbA)).2 HMA.out (HF.out _ (bel_trans ((Below.refl _ _).drew) hbA)).2.size).mono ?_); rintro e wB ⟨o, r, rfl, hto, hbB⟩; obtain ⟨bb, off, c9, rfl, hcell⟩ := HFIN.out _ _ _ _ hto; clear hto))
  all_goals
    have HB2 := Lib.hid (HF.out _ (bel_trans (bel_trans ((Below.refl _ _).drew) hbA) hbB)).2
    go_wp2
    go_ret2
    exact ⟨rfl, HB2.out⟩

set_option maxRecDepth 20000 in
set_option maxHeartbeats 4000000 in
theorem sBestWalk (n m a b k : Int) (es : List Ed) (s : Value) (w : World) (hs : RowE w s es) (hl : es.length ≤ 281474976710656) :
    Calls Try.prog 25 #[.agg #[.int .i64 n, s], .int .i64 m, .int .i64 a, .int .i64 b, .int .i64 k] w fun e w' => e = .returned (.tuple #[.int .i64 (bwR n es m a b k), .bool (bwB n es m a b k)]) ∧ Below w.heap.size w w' := by
  have hB : ∀ (A : Obj), Below w.heap.size w (w.alloc A) := fun A => (Below.refl _ _).alloc (Nat.le_refl _) _
  have ho := fun A => l3Right n m a es s (w.alloc A) (hs.keep (hB A)) hl
  have hR := Lib.hid hs
  obtain ⟨ad, cap, rfl, hz0⟩ := hs
  clear hz0
  have HB := Lib.hid hB
  obtain ⟨G, hG⟩ : ∃ G, G = onOk n es m [a] := ⟨_, rfl⟩
  rw [← hG] at ho
  have HO := Lib.hid ho
  have QG := Lib.hid hG
  clear ho hB hG
  cases G
  · have e0 : bwB n es m a b k = false := by unfold bwB; rw [onOk_pair, ← QG.out]; rfl
    rw [bw_no e0, e0]
    clear e0
    go_enter Try.func25, Try.ntmps25
    go_wp2_with (go_at_call 38; refine (HO.out _).mono ?_; rintro e w1 ⟨rfl, hb1⟩; have y0 := hb1.cell (p := ⟨w.heap.size, 0, none⟩) (by simp <;> omega); have y1 := hb1.cell (p := ⟨w.heap.size, 1, none⟩) (by simp <;> omega))
    go_ret2
    exact ⟨rfl, bel_trans (HB.out _) hb1⟩
  by_cases hb1 : b < 0
  · have e0 : bwB n es m a b k = false := by unfold bwB; rw [onOk_pair]; simp [inN]; omega
    rw [bw_no e0, e0]
    clear e0
    go_enter Try.func25, Try.ntmps25
    go_wp2_with (go_at_call 38; refine (HO.out _).mono ?_; rintro e w1 ⟨rfl, hc1⟩; have y0 := hc1.cell (p := ⟨w.heap.size, 0, none⟩) (by simp <;> omega); have y1 := hc1.cell (p := ⟨w.heap.size, 1, none⟩) (by simp <;> omega))
    go_ret2
    exact ⟨rfl, bel_trans (HB.out _) hc1⟩
  by_cases hb2 : n ≤ b
  · have e0 : bwB n es m a b k = false := by unfold bwB; rw [onOk_pair]; simp [inN]; omega
    rw [bw_no e0, e0]
    clear e0
    go_enter Try.func25, Try.ntmps25
    go_wp2_with (go_at_call 38; refine (HO.out _).mono ?_; rintro e w1 ⟨rfl, hc1⟩; have y0 := hc1.cell (p := ⟨w.heap.size, 0, none⟩) (by simp <;> omega); have y1 := hc1.cell (p := ⟨w.heap.size, 1, none⟩) (by simp <;> omega))
    go_ret2
    exact ⟨rfl, bel_trans (HB.out _) hc1⟩
  by_cases h1 : k < 0
  · have e0 : bwB n es m a b k = false := by unfold bwB; simp; omega
    rw [bw_no e0, e0]
    clear e0
    go_enter Try.func25, Try.ntmps25
    go_wp2_with (go_at_call 38; refine (HO.out _).mono ?_; rintro e w1 ⟨rfl, hc1⟩; have y0 := hc1.cell (p := ⟨w.heap.size, 0, none⟩) (by simp <;> omega); have y1 := hc1.cell (p := ⟨w.heap.size, 1, none⟩) (by simp <;> omega))
    go_ret2
    exact ⟨rfl, bel_trans (HB.out _) hc1⟩
  by_cases h2 : 50 < k
  · have e0 : bwB n es m a b k = false := by unfold bwB; simp; omega
    rw [bw_no e0, e0]
    clear e0
    go_enter Try.func25, Try.ntmps25
    go_wp2_with (go_at_call 38; refine (HO.out _).mono ?_; rintro e w1 ⟨rfl, hc1⟩; have y0 := hc1.cell (p := ⟨w.heap.size, 0, none⟩) (by simp <;> omega); have y1 := hc1.cell (p := ⟨w.heap.size, 1, none⟩) (by simp <;> omega))
    go_ret2
    exact ⟨rfl, bel_trans (HB.out _) hc1⟩
  have hp := onOk_parts QG.out.symm
  have hn := gVal_n hp.1
  have he := eAll_of hp.1
  have ha := hp.2.1 a (by simp)
  have hm := hp.2.2
  obtain ⟨N, rfl⟩ := Int.eq_ofNat_of_zero_le (show 0 ≤ n by omega)
  obtain ⟨A, rfl⟩ := Int.eq_ofNat_of_zero_le ha.1
  obtain ⟨B, rfl⟩ := Int.eq_ofNat_of_zero_le (show 0 ≤ b by omega)
  obtain ⟨K, rfl⟩ := Int.eq_ofNat_of_zero_le (show 0 ≤ k by omega)
  rw [Int.toNat_natCast] at he
  have e0 : bwB N es m A B K = true := by unfold bwB; rw [onOk_pair, ← QG.out]; simp [inN]; omega
  have e1 : bwR N es m A B K = (vIter m es K (vStart m N A)).getD B 0 := by unfold bwR; rw [if_pos e0, Int.toNat_natCast, Int.toNat_natCast]
  rw [e0, e1]
  have hlen : (vStart m N A).length = N := by rw [vStart_length, Int.toNat_natCast]
  have hvs := vStart_all (m := m) (n := (N : Int)) (src := (A : Int)) hm
  have hst := fun w => l3Start m N A hm (by omega) (by omega) ad es.length cap w
  obtain ⟨Z, hZ⟩ : ∃ Z, Z = vStart m N A := ⟨_, rfl⟩
  rw [← hZ] at hst hlen hvs ⊢
  have hrx := fun (k : Nat) (p : Value) (w' : World) (h : Below w.heap.size w w') (hp : Row w' p (vIter m es k Z)) => l3Relax N m A es (vIter m es k Z) _ p w' hm (hR.out.keep h) hp (by omega) (by rw [vIter_length]; omega) (by rw [vIter_length]; omega) (vIter_all hm hvs (by rw [hlen]; exact he) k) (by rw [vIter_length, hlen]; exact he)
  have HST := Lib.hid hst
  have HRX := Lib.hid hrx
  have HLEN := Lib.hid hlen
  have hBN : (B : Int) < N := by omega
  have hK50 : (K : Int) ≤ 50 := by omega
  have hN12 : N ≤ 12 := by omega
  obtain ⟨YY, hYY⟩ : ∃ YY, YY = (vIter m es K Z).getD B 0 := ⟨_, rfl⟩
  rw [← hYY]
  have HYY := Lib.hid hYY
  clear hYY
  clear hst hrx hp hn ha he hlen hvs hZ e0 e1
  go_enter Try.func25, Try.ntmps25
  go_wp2_with (first | (go_at_call 38; refine (HO.out _).mono ?_; rintro e w1 ⟨rfl, hc1⟩; have y0 := hc1.cell (p := ⟨w.heap.size, 0, none⟩) (by simp <;> omega); have y1 := hc1.cell (p := ⟨w.heap.size, 1, none⟩) (by simp <;> omega)) | (go_at_call 45; refine (HST.out _).mono ?_; rintro e w2 ⟨v, rfl, hown, hok, hc2⟩; obtain ⟨va, vc, rfl⟩ := hown.slice; have HW := Lib.hid hown; have HOK := Lib.hid hok; clear hown hok))
  have hbw1 := bel_trans (HB.out _) hc1
  have hbw := bel_trans hbw1 hc2
  have hbg : Box w2 w.heap.size 25 #[.int .i64 N, .slice ad es.length cap] := ((Box.new w 25 _).keep hc1).keep hc2
  have hsz1 : w.heap.size + 1 ≤ w1.heap.size := by have h2 := hc1.size; simpa using h2
  have hsz2 := hc2.size
  have HBG := Lib.hid hbg
  clear hbg
  go_loopw [13] (fun c wr => ∃ k : Nat, k ≤ K ∧ c = .int .i64 k ∧ Below w.heap.size w wr ∧ Hid (VMid m A es Z w.heap.size w2.heap.size wr k) ∧ Hid (Box wr w.heap.size 25 #[.int .i64 N, .slice ad es.length cap])) (fun c _ => K - (intOf c).toNat)
  case atStart =>
    refine ⟨0, Nat.zero_le _, rfl, hbw.alloc hbw.size _, Lib.hid ⟨va, vc, w1.heap.size, w2.heap.size, Box.new _ _ _, ?_, HOK.out, by omega, by simp, .inl (Nat.le_refl _)⟩, Lib.hid (HBG.out.alloc _)⟩
    have h1 := HW.out
    unfold OwnV at h1
    exact h1.keep ((Below.refl _ _).alloc (Nat.le_refl _) _)
  case round =>
    obtain ⟨k, hk, rfl, hbel, HV, HBX⟩ := hrel
    obtain ⟨ua, uc, lo, hi, hbx, hrow, hok, hlo, hhi, hdj⟩ := HV.out
    have HX := Lib.hid hbx
    have HR := Lib.hid hrow
    have x0 := hbx.cell 0
    have x1 := hbx.cell 1
    have x2 := hbx.cell 2
    have g0 := HBX.out.cell 0
    have g1 := HBX.out.cell 1
    simp only [List.getElem?_toArray, List.getElem?_cons_succ, List.getElem?_cons_zero] at x0 x1 x2 g0 g1
    have hBlt : w2.heap.size < wr.heap.size := hbx.lt
    have hrw := rowOf hrow (vIter_length m es Z k)
    have HRW := Lib.hid hrw
    clear hbx hrow hok HV hbw hrw
    by_cases hlt : k < K
    · have hlt' : (k : Int) < K := by omega
      go_wp2_with (go_at_call 47; refine (HRX.out k _ _ hbel HRW.out).mono ?_; rintro e w5 ⟨v, rfl, hown, hok, hb5⟩; obtain ⟨oa, oc, rfl⟩ := hown.slice; have y0 := (HX.out.keep hb5).cell 0; have y1 := (HX.out.keep hb5).cell 1; have y2 := (HX.out.keep hb5).cell 2; have f0 := (HX.out.keep hb5).frozen 0; have f1 := (HX.out.keep hb5).frozen 1; have f2 := (HX.out.keep hb5).frozen 2; simp only [List.getElem?_toArray, List.getElem?_cons_succ, List.getElem?_cons_zero] at y0 y1 y2; have HW5 := Lib.hid hown; have HO5 := Lib.hid hok; clear hown hok)
      have hs5 := hb5.size
      have hl1 : (vRelax m es (vIter m es k Z)).length = Z.length := by rw [vRelax_length, vIter_length]
      have hw5 := HW5.out
      have ho5 := HO5.out
      unfold OwnV at hw5
      rw [hl1] at hw5 ho5
      have hch : ∀ x y z, Chg w2.heap.size (w2.heap.size + 1) w5 (((w5.setCell ⟨w2.heap.size, 0, none⟩ x).setCell ⟨w2.heap.size, 1, none⟩ y).setCell ⟨w2.heap.size, 2, none⟩ z) := fun x y z => (((Chg.refl _ _ _).setCell (by simp only; omega) (by simp only; omega) _).setCell (by simp only; omega) (by simp only; omega) _).setCell (by simp only; omega) (by simp only; omega) _
      have hs6 := (hch (.int .i64 m) (.int .i64 A) (.slice oa (vRelax m es (vIter m es k Z)).length oc)).size
      have hnew : VMid m A es Z w.heap.size w2.heap.size (((w5.setCell ⟨w2.heap.size, 0, none⟩ (.int .i64 m)).setCell ⟨w2.heap.size, 1, none⟩ (.int .i64 A)).setCell ⟨w2.heap.size, 2, none⟩ (.slice oa (vRelax m es (vIter m es k Z)).length oc)) (k + 1) := by
        rw [hl1]
        rw [hl1] at hs6
        refine ⟨oa, oc, wr.heap.size, w5.heap.size, ?_, InR.chg hw5 (hch _ _ _) (.inl (by omega)), ho5, by have := hbel.size; omega, hs6, .inr (by omega)⟩
        have h4 := (((HX.out.keep hb5).set 0 (.int .i64 m)).set 1 (.int .i64 A)).set 2 (.slice oa Z.length oc)
        simpa using h4
      have hbn := bel_chg (bel_trans hbel hb5) (hch (.int .i64 m) (.int .i64 A) (.slice oa (vRelax m es (vIter m es k Z)).length oc)) (by omega)
      have hgn := fun x y z => (((HBX.out.keep hb5).setOther (B' := w2.heap.size) (by omega) 0 x).setOther (B' := w2.heap.size) (by omega) 1 y).setOther (B' := w2.heap.size) (by omega) 2 z
      have HNEW := Lib.hid hnew
      have HBN := Lib.hid hbn
      have HGN := Lib.hid hgn
      clear hnew hbn hw5 ho5 hch hs6 hl1 hgn
      go_roundw
      case rel => first | exact ⟨k + 1, by omega, by go_num, HBN.out, HNEW, Lib.hid (HGN.out _ _ _)⟩ | ((repeat apply Exists.intro); exact ⟨⟨k + 1, by omega, by go_num, HBN.out, HNEW, Lib.hid (HGN.out _ _ _)⟩, rfl⟩)
      case measure => simp [intOf]; omega
    · have hke : k = K := by omega
      have hkk : ¬ ((k : Int) < K) := by omega
      have HK := Lib.hid hke
      obtain ⟨y, hy⟩ : ∃ y, y = (vIter m es k Z).getD B 0 := ⟨_, rfl⟩
      have HY := Lib.hid hy
      obtain ⟨a9, c9, e9, h9⟩ := HRW.out
      injection e9 with e9a e9b e9c
      have hBZ : (B : Int) < Z.length := by have := HLEN.out; omega
      have hbig : Z.length ≤ 12 := by have := HLEN.out; omega
      rcases h9 with h9 | ⟨bb, off, h9a, h9b, h9c⟩
      · have h10 := congrArg List.length h9
        rw [vIter_length, HLEN.out] at h10
        simp at h10
        omega
      · have hcell := h9c B (by rw [vIter_length, HLEN.out]; omega)
        rw [← hy] at hcell
        rw [h9a] at e9a
        subst e9a
        have hyy : y = YY := by rw [HY.out, HYY.out, HK.out]
        clear h9c hke hy h9a e9b e9c HY
        subst hyy
        go_wp2
        go_ret2
        exact ⟨rfl, hbel⟩
end Go.Proofs.Ytaoecegnjhbagaa
