/- Rounds of relaxing: in the program. ViewOf: in the program. -/
import Derived.Test.YtlgjcofpdaljnaaRelaxJ
import Derived.Test.YtlgjcofpdaljnaaVStartT
namespace Go.Proofs.Ytlgjcofpdaljnaa
open Go.RowKit Go.BigFrame Go.Deep
set_option linter.unusedVariables false
set_option linter.unusedSimpArgs false
set_option linter.unnecessarySimpa false

theorem InR.slice' {fz : Bool} {w : World} {lo hi n sz : Nat} {v : Value} {cs : Nat → Value} (h : InR fz w lo hi v n sz cs) : ∃ a c, v = .slice a n c := by
  obtain ⟨a, c, h, _⟩ := h
  exact ⟨a, c, h⟩
/-- The values behind k rounds that all changed something, in memory from lo on. -/
def MidV (m : Int) (es : List Ed) (zs : List Int) (lo : Nat) (w : World) (k : Nat) (o : Value) : Prop :=
  InR true w lo w.heap.size o zs.length 1 (cellI (vIter m es k zs)) ∧ okS o ∧ ∀ j, j < k → vIter m es (j + 1) zs ≠ vIter m es j zs
theorem MidV.keep {m : Int} {es : List Ed} {zs : List Int} {lo k : Nat} {w w' : World} {o : Value} (h : MidV m es zs lo w k o) (hb : Below w.heap.size w w') : MidV m es zs lo w' k o :=
  ⟨(h.1.keep hb).wider (Nat.le_refl _) hb.size (Nat.le_refl _), h.2⟩
theorem MidV.row {m : Int} {es : List Ed} {zs : List Int} {lo k : Nat} {w : World} {o : Value} (h : MidV m es zs lo w k o) : Row w o (vIter m es k zs) := by
  have h1 := h.1
  have hl : (vIter m es k zs).length = zs.length := vIter_length m es zs k
  rw [← hl] at h1
  exact InR.rowI h1
theorem MidV.slice {m : Int} {es : List Ed} {zs : List Int} {lo k : Nat} {w : World} {o : Value} (h : MidV m es zs lo w k o) : ∃ a c, o = .slice a zs.length c := InR.slice' h.1
/-- What the rounds come to. -/
def RoundsTo (m : Int) (es : List Ed) (zs : List Int) (lo lim : Nat) (w : World) (r : Nat) (o : Value) : Prop :=
  MidV m es zs lo w r o ∧ r ≤ lim ∧ (r = lim ∨ vIter m es (r + 1) zs = vIter m es r zs)

set_option maxRecDepth 20000 in
set_option maxHeartbeats 4000000 in
theorem relaxRounds (m : Int) (es : List Ed) (zs : List Int) (s t : Value) (lo lim : Nat) (w : World) (hm : mKind m = true) (hs : RowE w s es) (ht : MidV m es zs lo w 0 t) (hlo : lo ≤ w.heap.size) (hl : es.length ≤ 1048576) (hl2 : zs.length ≤ 1048576) (h0 : 0 < zs.length) (hv : vAll m zs) (he : eAll zs.length es) (hlim : lim ≤ 1048576) :
    Calls Try.prog 90 #[opsV m, s, t, .int .i64 lim] w fun e w' => ∃ v r, e = .returned (.tuple #[v, .int .i64 (r : Nat)]) ∧ RoundsTo m es zs lo lim w' r v ∧ Below w.heap.size w w' := by
  have hlen : ∀ k, (vIter m es k zs).length = zs.length := vIter_length m es zs
  have hall : ∀ k, vAll m (vIter m es k zs) := vIter_all hm hv he
  have hrv := fun (k : Nat) (p : Value) w' (h : Below w.heap.size w w') (hp : Row w' p (vIter m es k zs)) => relaxedValues m es (vIter m es k zs) s p w' hm (hs.keep h) hp hl (by rw [hlen]; exact hl2) (by rw [hlen]; exact h0) (hall k) (by rw [hlen]; exact he)
  have heq := fun (j k : Nat) (p q : Value) w' (hp : Row w' p (vIter m es j zs)) (hq : Row w' q (vIter m es k zs)) => intsEqual (vIter m es j zs) (vIter m es k zs) p q w' hp hq (by rw [hlen]; omega) (by rw [hlen]; omega)
  have HRV := Lib.hid hrv
  have HEQ := Lib.hid heq
  have HT := Lib.hid ht
  have HLEN := Lib.hid hlen
  obtain ⟨ad, cap, rfl, hz0⟩ := hs
  obtain ⟨a0, c0, rfl⟩ := ht.slice
  obtain ⟨O, hO⟩ : ∃ O, O = opsV m := ⟨_, rfl⟩
  rw [← hO] at HRV ⊢
  clear hrv heq ht hlen hall hz0 hv he hO
  go_enter Try.func90, Try.ntmps90
  go_wp2
  go_loopw [13, 2] (fun c o wr => ∃ k : Nat, k ≤ lim ∧ c = .int .i64 k ∧ Hid (MidV m es zs lo wr k o) ∧ Below w.heap.size w wr) (fun c _ _ => lim - (intOf c).toNat)
  case atStart => exact ⟨0, Nat.zero_le _, rfl, HT, Below.refl _ _⟩
  case round =>
    obtain ⟨k, hk, rfl, HM, hbel⟩ := hrel
    clear HT
    by_cases hlt : k < lim
    · have hlt' : (k : Int) < lim := by omega
      obtain ⟨a1, c1, rfl⟩ := HM.out.slice
      have hn1 : (vRelax m es (vIter m es k zs)) = vIter m es (k + 1) zs := rfl
      have HN1 := Lib.hid hn1
      clear hn1
      by_cases hst : vIter m es (k + 1) zs = vIter m es k zs
      · have hsame : iSame (vIter m es (k + 1) zs) (vIter m es k zs) = true := decide_eq_true hst
        have HST := Lib.hid hst
        have HSA := Lib.hid hsame
        clear hst hsame
        go_wp2_with (first | (go_at_call 95; refine (HRV.out k _ _ hbel HM.out.row).mono ?_; rintro e w1 ⟨v, rfl, hown, hok, hb1⟩; have hrow := hown.row; rw [HN1.out] at hrow; have HROW := Lib.hid hrow; clear hown hok hrow) | (go_at_call 57; refine (HEQ.out (k + 1) k _ _ _ HROW.out (HM.out.keep hb1).row).mono ?_; rw [HSA.out]; rintro e w2 ⟨rfl, hb2⟩))
        go_ret2
        exact ⟨_, k, rfl, ⟨(HM.out.keep hb1).keep hb2, hk, .inr HST.out⟩, bel_trans (bel_trans hbel hb1) hb2⟩
      · have hsame : iSame (vIter m es (k + 1) zs) (vIter m es k zs) = false := decide_eq_false hst
        have HST := Lib.hid hst
        have HSA := Lib.hid hsame
        clear hst hsame
        go_wp2_with (first | (go_at_call 95; refine (HRV.out k _ _ hbel HM.out.row).mono ?_; rintro e w1 ⟨v, rfl, hown, hok, hb1⟩; have hrow := hown.row; rw [HN1.out] at hrow; have HROW := Lib.hid hrow; have HOWN := Lib.hid hown; have HOK := Lib.hid hok; clear hown hok hrow) | (go_at_call 57; refine (HEQ.out (k + 1) k _ _ _ HROW.out (HM.out.keep hb1).row).mono ?_; rw [HSA.out]; rintro e w2 ⟨rfl, hb2⟩))
        have hmid : MidV m es zs lo w2 (k + 1) v := by
          have h1 := HOWN.out
          unfold OwnV at h1
          rw [HN1.out, HLEN.out] at h1
          have h2 := hbel.size
          refine MidV.keep (w := w1) ⟨h1.wider (by omega) (Nat.le_refl _) (Nat.le_refl _), HOK.out, fun j hj => ?_⟩ hb2
          by_cases e : j = k
          · subst e; exact HST.out
          · exact HM.out.2.2 j (by omega)
        have HMID := Lib.hid hmid
        clear hmid
        go_roundw
        case rel => first | exact ⟨k + 1, by omega, by go_num, HMID, bel_trans (bel_trans hbel hb1) hb2⟩ | ((repeat apply Exists.intro); exact ⟨⟨k + 1, by omega, by go_num, HMID, bel_trans (bel_trans hbel hb1) hb2⟩, rfl⟩)
        case measure => simp [intOf]; omega
    · have hke : k = lim := by omega
      have hkk : ¬ ((k : Int) < lim) := by omega
      have HK := Lib.hid hke
      clear hke
      go_wp2
      go_ret2
      exact ⟨_, k, by rw [HK.out]; rfl, ⟨HM.out, hk, .inl HK.out⟩, hbel⟩
end Go.Proofs.Ytlgjcofpdaljnaa
namespace Go.Proofs.Ytlgjcofpdaljnaa
open Go.RowKit Go.BigFrame Go.Deep
set_option linter.unusedVariables false
set_option linter.unusedSimpArgs false
set_option linter.unnecessarySimpa false

/-- The first round that changes nothing. -/
def FirstStill (m : Int) (es : List Ed) (zs : List Int) (r : Nat) : Prop := vIter m es (r + 1) zs = vIter m es r zs ∧ ∀ j, j < r → vIter m es (j + 1) zs ≠ vIter m es j zs
theorem FirstStill.eq {m : Int} {es : List Ed} {zs : List Int} {r q : Nat} (h : FirstStill m es zs r) (k : FirstStill m es zs q) : r = q := by
  rcases Nat.lt_trichotomy r q with e | e | e
  · exact absurd h.1 (k.2 r e)
  · exact e
  · exact absurd k.1 (h.2 q e)
theorem still_after {m : Int} {es : List Ed} {zs : List Int} {r k : Nat} (h : vIter m es (r + 1) zs = vIter m es r zs) (hk : r ≤ k) : vIter m es k zs = vIter m es r zs := by
  obtain ⟨j, rfl⟩ : ∃ j, k = r + j := ⟨k - r, by omega⟩
  exact vIter_stop m es zs r h j
theorem RoundsTo.first {m : Int} {es : List Ed} {N A : Nat} {lo : Nat} {w : World} {r : Nat} {o : Value} (h : RoundsTo m es (vStart m N A) lo (N - 1) w r o) (hm : mKind m = true) (he : eAll N es) (hA : A < N) : FirstStill m es (vStart m N A) r := by
  refine ⟨?_, h.1.2.2⟩
  rcases h.2.2 with e | e
  · subst e
    exact vEnd hm (by simpa using he) (by omega) (by simpa using hA) (by simp only [Int.toNat_natCast]; omega)
  · exact e

set_option maxRecDepth 20000 in
set_option maxHeartbeats 4000000 in
theorem rightValues (m : Int) (es : List Ed) (N A : Nat) (s : Value) (w : World) (hm : mKind m = true) (hs : RowE w s es) (hl : es.length ≤ 1048576) (hA : A < N) (h12 : N ≤ 12) (he : eAll N es) :
    Calls Try.prog 59 #[opsV m, .agg #[.int .i64 N, s], .int .i64 A] w fun e w' => ∃ v r, e = .returned (.tuple #[v, .int .i64 (r : Nat)]) ∧ OwnV w w' v (vIter m es N (vStart m N A)) ∧ okS v ∧ (FirstStill m es (vStart m N A) r ∧ r + 1 ≤ N) ∧ Below w.heap.size w w' := by
  have hlen : (vStart m N A).length = N := by rw [vStart_length, Int.toNat_natCast]
  have hst := fun w => startValues m N A hm hA h12 w
  have hrr := fun (t : Value) (lo : Nat) (w' : World) (h : Below w.heap.size w w') (ht : MidV m es (vStart m N A) lo w' 0 t) (hlo : lo ≤ w'.heap.size) => relaxRounds m es (vStart m N A) s t lo (N - 1) w' hm (hs.keep h) ht hlo hl (by omega) (by omega) (vStart_all hm) (by rw [hlen]; exact he) (by omega)
  rw [show ((N - 1 : Nat) : Int) = (N : Int) - 1 by omega] at hrr
  have hfin : ∀ lo w' r o, RoundsTo m es (vStart m N A) lo (N - 1) w' r o → InR true w' lo w'.heap.size o (vIter m es N (vStart m N A)).length 1 (cellI (vIter m es N (vStart m N A))) ∧ okS o ∧ (FirstStill m es (vStart m N A) r ∧ r + 1 ≤ N) := fun lo w' r o h => by
    have h1 := h.first hm he hA
    have h2 : vIter m es N (vStart m N A) = vIter m es r (vStart m N A) := still_after h1.1 (by have := h.2.1; omega)
    have h3 := h.1.1
    rw [h2, vIter_length]
    exact ⟨h3, h.1.2.1, h1, by have := h.2.1; omega⟩
  have HST := Lib.hid hst
  have HRR := Lib.hid hrr
  have HFIN := Lib.hid hfin
  have HLEN := Lib.hid hlen
  have hwr : IntKind.i64.wrap ((N : Int) - 1) = (N : Int) - 1 := wrap_small (by omega) (by omega)
  obtain ⟨ad, cap, rfl, hz0⟩ := hs
  obtain ⟨O, hO⟩ : ∃ O, O = opsV m := ⟨_, rfl⟩
  rw [← hO] at HST HRR ⊢
  have hfacts : ∀ w', Below (w.alloc (.cells #[.int .i64 N, .slice ad es.length cap] 25)).heap.size (w.alloc (.cells #[.int .i64 N, .slice ad es.length cap] 25)) w' → (w'.cell? ⟨w.heap.size, 0, none⟩ = some (.int .i64 N) ∧ w'.cell? ⟨w.heap.size, 1, none⟩ = some (.slice ad es.length cap)) ∧ Below w.heap.size w w' := fun w' h =>
    ⟨⟨(h.cell (p := ⟨_, _, none⟩) (by simp)).trans (by go_simp), (h.cell (p := ⟨_, _, none⟩) (by simp)).trans (by go_simp)⟩, bel_trans ((Below.refl _ _).alloc (Nat.le_refl _) _) h⟩
  have HF := Lib.hid hfacts
  clear hst hrr hfin hlen hz0 hO hfacts he
  go_enter Try.func59, Try.ntmps59
  go_wp2
  generalize (w.alloc (.cells #[.int .i64 N, .slice ad es.length cap] 25)) = W1 at HF ⊢
  go_region_held3 (fun w' : World => w'.cell? ⟨w.heap.size, 0, none⟩ = some (.int .i64 N) ∧ w'.cell? ⟨w.heap.size, 1, none⟩ = some (.slice ad es.length cap)) (first | exact (HF.out _ ((Below.refl _ _).drew)).1 | exact (HF.out _ (bel_trans ((Below.refl _ _).drew) hbA)).1 | exact (HF.out _ (bel_trans (bel_trans ((Below.refl _ _).drew) hbA) hbB)).1) (first | (go_at_call 91; (with_reducible refine (HST.out _).mono ?_); rintro e wA ⟨v, rfl, hnew, hbA⟩; have hMA : MidV m es (vStart m N A) w.heap.size wA 0 v := ⟨by (have h1 := hnew.inR; have h2 := (HF.out _ ((Below.refl _ _).drew)).2.size; exact h1.wider (by simpa using h2) (Nat.le_refl _) (Nat.le_refl _)), hnew.ok, fun j hj => absurd hj (Nat.not_lt_zero _)⟩; have HMA := Lib.hid hMA; obtain ⟨a1, c1, rfl⟩ := hMA.slice; clear hnew hMA) | (go_at_call 90; (with_reducible refine (HRR.out _ _ _ (HF.out _ (bel_trans ((Below.refl _ _).drew) hbA)).2 HMA.out (HF.out _ (bel_trans ((Below.refl _ _).drew) hbA)).2.size).mono ?_); rintro e wB ⟨o, r, rfl, hto, hbB⟩; have HTO := Lib.hid (HFIN.out _ _ _ _ hto); clear hto))
  all_goals
    have HB2 := Lib.hid (HF.out _ (bel_trans (bel_trans ((Below.refl _ _).drew) hbA) hbB)).2
    go_wp2
    go_ret2
    exact ⟨o, r, rfl, HTO.out.1, HTO.out.2.1, HTO.out.2.2, HB2.out⟩

def voL (n : Int) (es : List Ed) (m a : Int) : List Int := if onOk n es m [a] = true then vIter m es n.toNat (vStart m n a) else []

set_option maxRecDepth 20000 in
set_option maxHeartbeats 4000000 in
theorem viewOf (n m a : Int) (es : List Ed) (s : Value) (w : World) (hs : RowE w s es) (hl : es.length ≤ 281474976710656) :
    Calls Try.prog 21 #[.agg #[.int .i64 n, s], .int .i64 m, .int .i64 a] w fun e w' =>
      ∃ v, e = .returned (.tuple #[.agg #[.int .i64 (stM n es m a), .int .i64 (stA n es m a), v], .bool (onOk n es m [a])]) ∧ OwnV w w' v (voL n es m a) ∧ okS v ∧ Below w.heap.size w w' := by
  have hB : ∀ (A B C : Obj), Below w.heap.size w (((w.alloc A).alloc B).alloc C) := fun A B C => (((Below.refl _ _).alloc (Nat.le_refl _) _).alloc (by simp) _).alloc (by simp; omega) _
  have ho := fun A B => opsOn n m es [a] s _ _ (hs.keep (hB A B _)) (row_one2 w A B a) hl (by simp)
  have hR := Lib.hid hs
  obtain ⟨ad, cap, rfl, hz0⟩ := hs
  clear hz0
  have HB := Lib.hid hB
  unfold stM stA voL
  obtain ⟨G, hG⟩ : ∃ G, G = onOk n es m [a] := ⟨_, rfl⟩
  rw [← hG] at ho ⊢
  have HO := Lib.hid ho
  have QG := Lib.hid hG
  clear ho hB hG
  cases G
  · rw [if_neg (by decide), if_neg (by decide), if_neg (by decide)]
    go_enter Try.func21, Try.ntmps21
    go_wp2_with (go_at_call 58; refine (HO.out _ _).mono ?_; rintro e w1 ⟨rfl, hb1⟩; have x0 := hb1.cell (p := ⟨w.heap.size + 1, 0, none⟩) (by simp <;> omega); have x1 := hb1.cell (p := ⟨w.heap.size + 1, 1, none⟩) (by simp <;> omega); have x2 := hb1.cell (p := ⟨w.heap.size + 1, 2, none⟩) (by simp <;> omega); have f0 := hb1.frozen (p := ⟨w.heap.size + 1, 0, none⟩) (by simp <;> omega); have f1 := hb1.frozen (p := ⟨w.heap.size + 1, 1, none⟩) (by simp <;> omega); have f2 := hb1.frozen (p := ⟨w.heap.size + 1, 2, none⟩) (by simp <;> omega); have y0 := hb1.cell (p := ⟨w.heap.size, 0, none⟩) (by simp <;> omega); have y1 := hb1.cell (p := ⟨w.heap.size, 1, none⟩) (by simp <;> omega))
    try simp only [Exit.inBlock, Exit.then]
    refine bodyPost_ret (v := .tuple #[.agg #[.int .i64 0, .int .i64 0, .slice none 0 0], .bool false]) ?_ rfl ?_
    · rw [results_cell_tmp rfl]
      go_simp
    exact ⟨_, rfl, OwnV.nil _ _, okS_nil, (((bel_trans (HB.out _ _ _) hb1).setCell (by simp) _).setCell (by simp) _).setCell (by simp) _⟩
  · rw [if_pos rfl, if_pos rfl, if_pos rfl]
    have hp := onOk_parts QG.out.symm
    have hn := gVal_n hp.1
    have he := eAll_of hp.1
    have ha := hp.2.1 a (List.mem_singleton.2 rfl)
    have hm := hp.2.2
    obtain ⟨N, rfl⟩ := Int.eq_ofNat_of_zero_le (show 0 ≤ n by omega)
    obtain ⟨A, rfl⟩ := Int.eq_ofNat_of_zero_le ha.1
    rw [Int.toNat_natCast] at he ⊢
    have hst := fun w' (h : Below w.heap.size w w') => rightValues m es N A _ w' hm (hR.out.keep h) (by omega) (by omega) (by omega) he
    have e1 : opsR m true = opsV m := rfl
    rw [e1] at HO
    obtain ⟨L, hL⟩ : ∃ L, L = vIter m es N (vStart m N A) := ⟨_, rfl⟩
    rw [← hL] at hst ⊢
    obtain ⟨O, hO⟩ : ∃ O, O = opsV m := ⟨_, rfl⟩
    rw [← hO] at hst HO
    have HST := Lib.hid hst
    clear hst hp hn ha e1 he hL hO
    go_enter Try.func21, Try.ntmps21
    go_wp2_with (first | (go_at_call 58; refine (HO.out _ _).mono ?_; rintro e w1 ⟨rfl, hb1⟩; have x0 := hb1.cell (p := ⟨w.heap.size + 1, 0, none⟩) (by simp <;> omega); have x1 := hb1.cell (p := ⟨w.heap.size + 1, 1, none⟩) (by simp <;> omega); have x2 := hb1.cell (p := ⟨w.heap.size + 1, 2, none⟩) (by simp <;> omega); have f0 := hb1.frozen (p := ⟨w.heap.size + 1, 0, none⟩) (by simp <;> omega); have f1 := hb1.frozen (p := ⟨w.heap.size + 1, 1, none⟩) (by simp <;> omega); have f2 := hb1.frozen (p := ⟨w.heap.size + 1, 2, none⟩) (by simp <;> omega); have y0 := hb1.cell (p := ⟨w.heap.size, 0, none⟩) (by simp <;> omega); have y1 := hb1.cell (p := ⟨w.heap.size, 1, none⟩) (by simp <;> omega)) | (go_at_call 59; refine (HST.out _ (bel_trans (HB.out _ _ _) hb1)).mono ?_; rintro e w2 ⟨v, r, rfl, hown, hok, hrr, hb2⟩; obtain ⟨va, vc, rfl⟩ := hown.slice; have z0 := hb2.cell (p := ⟨w.heap.size + 1, 0, none⟩) (Nat.lt_of_lt_of_le (by simp <;> omega) hb1.size); have z1 := hb2.cell (p := ⟨w.heap.size + 1, 1, none⟩) (Nat.lt_of_lt_of_le (by simp <;> omega) hb1.size); have z2 := hb2.cell (p := ⟨w.heap.size + 1, 2, none⟩) (Nat.lt_of_lt_of_le (by simp <;> omega) hb1.size); have g0 := hb2.frozen (p := ⟨w.heap.size + 1, 0, none⟩) (Nat.lt_of_lt_of_le (by simp <;> omega) hb1.size); have g1 := hb2.frozen (p := ⟨w.heap.size + 1, 1, none⟩) (Nat.lt_of_lt_of_le (by simp <;> omega) hb1.size); have g2 := hb2.frozen (p := ⟨w.heap.size + 1, 2, none⟩) (Nat.lt_of_lt_of_le (by simp <;> omega) hb1.size); have HW := Lib.hid hown; have HOK := Lib.hid hok; clear hown hok hrr))
    try simp only [Exit.inBlock, Exit.then]
    refine bodyPost_ret (v := .tuple #[.agg #[.int .i64 m, .int .i64 A, .slice va L.length vc], .bool true]) ?_ rfl ?_
    · rw [results_cell_tmp rfl]
      go_simp
    have hbw := bel_trans (HB.out _ _ _) hb1
    have hs1 : w.heap.size + 2 ≤ w1.heap.size := by have h2 := hb1.size; simp at h2; omega
    have hs2 := hb2.size
    have hch : ∀ x y z, Chg (w.heap.size + 1) (w.heap.size + 2) w2 (((w2.setCell ⟨w.heap.size + 1, 0, none⟩ x).setCell ⟨w.heap.size + 1, 1, none⟩ y).setCell ⟨w.heap.size + 1, 2, none⟩ z) := fun x y z => (((Chg.refl _ _ _).setCell (by simp only; omega) (by simp only; omega) _).setCell (by simp only; omega) (by simp only; omega) _).setCell (by simp only; omega) (by simp only; omega) _
    refine ⟨_, rfl, ?_, HOK.out, bel_chg (bel_trans hbw hb2) (hch _ _ _) (by omega)⟩
    have h1 := InR.chg (InR.wider HW.out (l := w1.heap.size) (h := w2.heap.size) (Nat.le_refl _) (Nat.le_refl _) (Nat.le_refl _)) (hch (.int .i64 m) (.int .i64 A) (.slice va L.length vc)) (.inl (by omega))
    exact h1.wider (by omega) (hch _ _ _).size (Nat.le_refl _)
end Go.Proofs.Ytlgjcofpdaljnaa
