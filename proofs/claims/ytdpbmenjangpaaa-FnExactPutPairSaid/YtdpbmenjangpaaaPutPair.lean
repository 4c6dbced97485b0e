/- A matrix that is changed by an edge: in the program. -/
import Derived.Test.YtdpbmenjangpaaaMatW
import Derived.Test.YtdpbmenjangpaaaQuietT
namespace Go.Proofs.Ytdpbmenjangpaaa
open Go.RowKit Go.BigFrame Go.Deep
set_option linter.unusedVariables false
set_option linter.unusedSimpArgs false

/-- Can an edge be put into a matrix? -/
def pOk (m : Int) (z : List (List Int)) (x y p : Int) : Bool := mVal m z && eFits z.length x y p
/-- The rows, the first k of them changed by an edge. -/
def ppU (m : Int) (z : List (List Int)) (X Y : Nat) (p : Int) (k : Nat) : List (List Int) := (List.range z.length).map fun i => if i < k then impr m (z.getD i []) (mJoin m ((z.getD i []).getD X 0) (mEdge m p)) (z.getD Y []) else z.getD i []
def ppL (m : Int) (z : List (List Int)) (x y p : Int) : List (List Int) := ppU m z x.toNat y.toNat p z.length
theorem ppU_len (m : Int) (z : List (List Int)) (X Y : Nat) (p : Int) (k : Nat) : (ppU m z X Y p k).length = z.length := by simp [ppU]
theorem ppU_at (m : Int) (z : List (List Int)) (X Y : Nat) (p : Int) (k : Nat) {i : Nat} (h : i < z.length) : (ppU m z X Y p k).getD i [] = if i < k then impr m (z.getD i []) (mJoin m ((z.getD i []).getD X 0) (mEdge m p)) (z.getD Y []) else z.getD i [] := by
  unfold ppU
  simp only [List.getD, List.getElem?_map, List.getElem?_range h, Option.map_some, Option.getD_some]
theorem ppU_zero (m : Int) (z : List (List Int)) (X Y : Nat) (p : Int) : ppU m z X Y p 0 = z :=
  gl_ext (ppU_len _ _ _ _ _ _) (fun i hi => by rw [ppU_len] at hi; rw [ppU_at _ _ _ _ _ _ hi, if_neg (Nat.not_lt_zero _)])
theorem eFits_parts {n a b p : Int} (h : eFits n a b p = true) : (0 ≤ a ∧ a < n) ∧ (0 ≤ b ∧ b < n) ∧ a ≠ b ∧ mWeight p = true := by
  simp only [eFits, mWeight, Bool.and_eq_true, decide_eq_true_eq] at *
  exact ⟨h.1.1, h.1.2, h.2.1, h.2.2⟩
theorem ppU_succ (m : Int) (z : List (List Int)) (X Y : Nat) (p : Int) {k : Nat} (h : k < z.length) : ppU m z X Y p (k + 1) = (ppU m z X Y p k).set k (impr m (z.getD k []) (mJoin m ((z.getD k []).getD X 0) (mEdge m p)) (z.getD Y [])) := by
  refine gl_ext (by rw [List.length_set, ppU_len, ppU_len]) (fun i hi => ?_)
  rw [ppU_len] at hi
  rw [ppU_at _ _ _ _ _ _ hi, getD_setL _ _ _ _ (by rw [ppU_len]; exact hi), ppU_at _ _ _ _ _ _ hi]
  by_cases e : k = i
  · subst e; rw [if_pos (Nat.lt_succ_self _), if_pos rfl]
  · rw [if_neg e]
    by_cases h2 : i < k
    · rw [if_pos h2, if_pos (by omega)]
    · rw [if_neg h2, if_neg (by omega)]

/-- The blocks of a call of PutPair. -/
structure PBox (w : World) (b : Nat) (m : Int) (s : Value) (x y p : Int) : Prop where
  lt : b + 1 + 1 < w.heap.size
  x0 : w.cell? ⟨b, 0, none⟩ = some (.int .i64 m)
  x1 : w.cell? ⟨b, 1, none⟩ = some s
  e0 : w.cell? ⟨b + 1, 0, none⟩ = some (.int .i64 x)
  e1 : w.cell? ⟨b + 1, 1, none⟩ = some (.int .i64 y)
  e2 : w.cell? ⟨b + 1, 2, none⟩ = some (.int .i64 p)
  r0 : w.cell? ⟨b + 1 + 1, 0, none⟩ = some (.int .i64 0)
  r1 : w.cell? ⟨b + 1 + 1, 1, none⟩ = some (.slice none 0 0)
  f0 : w.frozen? ⟨b + 1 + 1, 0, none⟩ = false
  f1 : w.frozen? ⟨b + 1 + 1, 1, none⟩ = false
theorem PBox.chg {w w' : World} {b lo hi : Nat} {m : Int} {s : Value} {x y p : Int} (h : PBox w b m s x y p) (c : Chg lo hi w w') (hlo : b + 1 + 1 < lo) : PBox w' b m s x y p := by
  have hl := h.lt
  have a0 : b < w.heap.size := by omega
  have a1 : b + 1 < w.heap.size := by omega
  have l0 : b < lo := by omega
  have l1 : b + 1 < lo := by omega
  exact ⟨Nat.lt_of_lt_of_le hl c.size, (c.cell (p := ⟨b, 0, none⟩) a0 (.inl l0)).trans h.x0, (c.cell (p := ⟨b, 1, none⟩) a0 (.inl l0)).trans h.x1,
    (c.cell (p := ⟨b + 1, 0, none⟩) a1 (.inl l1)).trans h.e0, (c.cell (p := ⟨b + 1, 1, none⟩) a1 (.inl l1)).trans h.e1, (c.cell (p := ⟨b + 1, 2, none⟩) a1 (.inl l1)).trans h.e2,
    (c.cell (p := ⟨b + 1 + 1, 0, none⟩) hl (.inl hlo)).trans h.r0, (c.cell (p := ⟨b + 1 + 1, 1, none⟩) hl (.inl hlo)).trans h.r1,
    (c.frozen (p := ⟨b + 1 + 1, 0, none⟩) hl (.inl hlo)).trans h.f0, (c.frozen (p := ⟨b + 1 + 1, 1, none⟩) hl (.inl hlo)).trans h.f1⟩
theorem PBox.keep {w w' : World} {b : Nat} {m : Int} {s : Value} {x y p : Int} (h : PBox w b m s x y p) (hb : Below w.heap.size w w') : PBox w' b m s x y p := h.chg (lo := w.heap.size) (hi := w.heap.size) (Chg.of_below hb) h.lt

set_option maxRecDepth 20000 in
set_option maxHeartbeats 8000000 in
theorem putPair (m x y p : Int) (z : List (List Int)) (s : Value) (w : World) (hs : GridO w s z) (hl : z.length ≤ 281474976710656) (hl2 : ∀ i, i < z.length → (z.getD i []).length ≤ 281474976710656) :
    Calls Try.prog 36 #[.agg #[.int .i64 m, s], .agg #[.int .i64 x, .int .i64 y, .int .i64 p]] w fun e w' => ∃ v, e = .returned (.tuple #[.agg #[.int .i64 (rM (pOk m z x y p) m), v], .bool (pOk m z x y p)]) ∧ OwnG w' w.heap.size w'.heap.size v (rL (pOk m z x y p) (ppL m z x y p)) ∧ Below w.heap.size w w' := by
  have hB : ∀ (A B C : Obj), Below w.heap.size w (((w.alloc A).alloc B).alloc C) := fun A B C => (((Below.refl _ _).alloc (Nat.le_refl _) _).alloc (by simp) _).alloc (by simp; omega) _
  obtain ⟨ad, cap, rfl, hz0⟩ := id hs
  have hops := fun A B C => opsOfMatrix m z _ (((w.alloc A).alloc B).alloc C) (hs.keep (hB A B C)) hl hl2
  have hn := fun w => nodesOf m ad z.length cap w
  have he := fun w => edgeFits (z.length : Nat) x y p (.slice none 0 0) w
  obtain ⟨V, hV⟩ : ∃ V, V = mVal m z := ⟨_, rfl⟩
  obtain ⟨E, hE⟩ : ∃ E, E = eFits (z.length : Nat) x y p := ⟨_, rfl⟩
  rw [← hV] at hops
  rw [← hE] at he
  have hpb : ∀ w', Below (((w.alloc (.cells #[.int .i64 m, .slice ad z.length cap] 27)).alloc (.cells #[.int .i64 x, .int .i64 y, .int .i64 p] 55)).alloc (.cells #[.int .i64 0, .slice none 0 0] 27)).heap.size (((w.alloc (.cells #[.int .i64 m, .slice ad z.length cap] 27)).alloc (.cells #[.int .i64 x, .int .i64 y, .int .i64 p] 55)).alloc (.cells #[.int .i64 0, .slice none 0 0] 27)) w' → PBox w' w.heap.size m (.slice ad z.length cap) x y p := by
    intro w' h
    refine PBox.keep (w := ((w.alloc (.cells #[.int .i64 m, .slice ad z.length cap] 27)).alloc (.cells #[.int .i64 x, .int .i64 y, .int .i64 p] 55)).alloc (.cells #[.int .i64 0, .slice none 0 0] 27)) ?_ h
    refine ⟨by simp, ?_, ?_, ?_, ?_, ?_, ?_, ?_, ?_, ?_⟩ <;> go_simp
  have HPB := Lib.hid hpb
  have HO := Lib.hid hops
  have HN := Lib.hid hn
  have HE := Lib.hid he
  have HB := Lib.hid hB
  have HV := Lib.hid hV
  have HEE := Lib.hid hE
  have HS := Lib.hid hs
  have hz := Lib.hid hz0
  obtain ⟨R, hR⟩ : ∃ R, R = pOk m z x y p := ⟨_, rfl⟩
  rw [← hR]
  have HR := Lib.hid hR
  clear hz0 hs hl2 hops hn he hB hV hE hR hpb
  have e1 : rM false m = 0 := rfl
  have e2 : rL false (ppL m z x y p) = [] := rfl
  cases V
  · have e0 : R = false := by rw [HR.out]; unfold pOk; rw [← HV.out]; rfl
    rw [e0, e1, e2]
    clear e0 e1 e2
    go_enter Try.func36, Try.ntmps36
    go_wp2_with (go_at_call 41; refine (HO.out _ _ _).mono ?_; rintro e w1 ⟨rfl, hb1⟩; obtain ⟨-, b0, b1, b2, b3, b4, b5, b6, b7, b8⟩ := HPB.out w1 hb1)
    go_region_law (go_simp; done)
    all_goals go_wp2
    all_goals try simp only [Exit.inBlock, Exit.then]
    all_goals refine bodyPost_ret (v := .tuple #[.agg #[.int .i64 0, .slice none 0 0], .bool false]) ?_ rfl ?_
    all_goals first
      | (rw [results_cell_tmp rfl]; go_simp; done)
      | (exact ⟨_, rfl, OwnG.nil _ _ _, (((bel_trans (HB.out _ _ _) hb1).drew).setCell (by simp <;> omega) _).setCell (by simp <;> omega) _⟩)
  cases E
  · have e0 : R = false := by rw [HR.out]; unfold pOk; rw [← HEE.out, Bool.and_false]
    rw [e0, e1, e2]
    clear e0 e1 e2
    go_enter Try.func36, Try.ntmps36
    go_wp2_with (go_at_call 41; refine (HO.out _ _ _).mono ?_; rintro e w1 ⟨rfl, hb1⟩; obtain ⟨-, b0, b1, b2, b3, b4, b5, b6, b7, b8⟩ := HPB.out w1 hb1)
    go_region_law (first | (go_simp; go_at_call 45; (with_reducible refine (HN.out _).mono ?_); rintro e w2 ⟨rfl, hb2⟩; obtain ⟨-, c0, c1, c2, c3, c4, c5, c6, c7, c8⟩ := (HPB.out w1 hb1).keep (bel_trans ((Below.refl _ _).drew) hb2)) | (go_simp; go_at_call 68; (with_reducible refine (HE.out _).mono ?_); rintro e w3 ⟨rfl, hb3⟩; have H3 : Hid (Below w1.heap.size w1 w3) := Lib.hid (bel_trans (bel_trans ((Below.refl _ _).drew) hb2) hb3); obtain ⟨-, d0, d1, d2, d3, d4, d5, d6, d7, d8⟩ := (HPB.out w1 hb1).keep H3.out))
    all_goals go_wp2
    all_goals try simp only [Exit.inBlock, Exit.then]
    all_goals refine bodyPost_ret (v := .tuple #[.agg #[.int .i64 0, .slice none 0 0], .bool false]) ?_ rfl ?_
    all_goals first
      | (rw [results_cell_tmp rfl]; go_simp; done)
      | (exact ⟨_, rfl, OwnG.nil _ _ _, ((bel_trans (bel_trans (HB.out _ _ _) hb1) H3.out).setCell (by simp <;> omega) _).setCell (by simp <;> omega) _⟩)
  have e0 : R = true := by rw [HR.out]; unfold pOk; rw [← HV.out, ← HEE.out]; rfl
  rw [e0]
  have e3 : rM true m = m := rfl
  have e4 : rL true (ppL m z x y p) = ppL m z x y p := rfl
  rw [e3, e4]
  have hm : mKind m = true := (mVal_parts HV.out.symm).2.1
  have hsq := (mVal_parts HV.out.symm).1
  have hN12 := (mSq_parts hsq).2.1
  have hN1 := (mSq_parts hsq).1
  have ha := sq_of_val HV.out.symm
  obtain ⟨hx, hy, -, hwt⟩ := eFits_parts HEE.out.symm
  obtain ⟨X, rfl⟩ := Int.eq_ofNat_of_zero_le hx.1
  obtain ⟨Y, rfl⟩ := Int.eq_ofNat_of_zero_le hy.1
  have hX : X < z.length := by have := hx.2; omega
  have hY : Y < z.length := by have := hy.2; omega
  have hpp : ppL m z (X : Int) (Y : Int) p = ppU m z X Y p z.length := rfl
  rw [hpp]
  have hop : opsR m true = opsV m := by unfold opsR; rw [if_pos rfl]
  rw [hop] at HO
  have himp := fun (first : Int) (row rest : List Int) (b off cap b2 off2 cap2 : Nat) (w : World) hw hr hl hlr hf hin => improve m first row rest b off cap b2 off2 cap2 w hm hw hr hl hlr hf hin
  obtain ⟨TT, rv, fn, fe, fb, fo, fj, rn, re, rb, ro, rj, D⟩ := disp hm
  rw [D.val] at himp HO
  have ho1 := D.mo.run
  have ho2 := D.mo.ahead
  have ho3 := D.mo.enter
  have hj1 := D.mj.run
  have hj2 := D.mj.ahead
  have hj3 := D.mj.enter
  have HCO := Lib.hid (D.co p)
  have hcj := fun v w (hv : mIn m v = true) => D.cj v (mEdge m p) w hv (mEdge_in hm hwt)
  have HCJ := Lib.hid hcj
  have HDD := Lib.hid D
  have HIM := Lib.hid himp
  have hcopy := fun w' (h : Below w.heap.size w w') => copyOfRows z _ w' (HS.out.keep h).grid (by omega) (sq_rows ha hN1 hN12)
  have HCP := Lib.hid hcopy
  rcases hz.out with h0 | ⟨ab, aoff, TA, rfl, hab, hac⟩
  · rw [h0] at hX; simp at hX
  obtain ⟨d0, q0, -⟩ := hac Y hY
  have hyl := (ha.2 Y hY).1
  obtain ⟨qb, qoff, qcap, hTY, hqb, hqc⟩ := q0.at (i := 0) (by omega)
  rw [hTY, hyl] at d0
  rw [hyl] at hqc
  have HD0 := Lib.hid d0
  have HQC := Lib.hid hqc
  have HA := Lib.hid ha
  have HM := Lib.hid hm
  have HW := Lib.hid hwt
  clear e0 e1 e2 e3 e4 hop hsq hm ha himp D hcj hcopy hac d0 q0 hTY hqc hwt hpp hz
  go_enter Try.func36, Try.ntmps36
  go_wp2_with (go_at_call 41; refine (HO.out _ _ _).mono ?_; rintro e w1 ⟨rfl, hb1⟩; obtain ⟨-, b0, b1, b2, b3, b4, b5, b6, b7, b8⟩ := HPB.out w1 hb1)
  have hbw1 := bel_trans (HB.out _ _ _) hb1
  have HP1 := Lib.hid (HPB.out w1 hb1)
  clear b0 b1 b2 b3 b4 b5 b6 b7 b8
  refine wp_region_below (by kernel_rfl) (by kernel_rfl) ?_
  repeat (go_big_quiet_step ((intro hw; first | with_reducible rfl | (obtain ⟨-, b0, b1, b2, b3, b4, -, -, -, -⟩ := HP1.out.keep hw; simp only [b0, b1, b2, b3, b4, Result.andThen]; first | exact ⟨trivial, rfl⟩ | exact ⟨rfl, rfl⟩) | (go_at_call 45; exact quietB (HN.out _) hw) | (go_at_call 68; exact quietB (HE.out _) hw))))
  refine wpQuiet_nil ?_
  intro w3 hb3
  have HP3 := Lib.hid (HP1.out.keep hb3)
  have hbw3 := bel_trans hbw1 hb3
  obtain ⟨-, b0, b1, -, -, -, -, -, -, -⟩ := HP3.out
  go_wp2_with (go_at_call 64; refine (HCP.out _ hbw3).mono ?_; rintro e w4 ⟨v4, rfl, hown, hb4⟩; obtain ⟨g, cp, T, B, rfl, hcp, hat⟩ := hown.at hN1; have HAT := Lib.hid hat; clear hat)
  have HP4 := Lib.hid (HP3.out.keep hb4)
  have hbw4 := bel_trans hbw3 hb4
  have hlo := HP3.out.lt
  clear b0 b1
  go_loopw [31] (fun c wr => ∃ k : Nat, k ≤ z.length ∧ c = .int .i64 k ∧ Hid (GridAt wr w3.heap.size w4.heap.size g T B (ppU m z X Y p k)) ∧ Hid (Chg w3.heap.size w4.heap.size w4 wr)) (fun c _ => z.length - (intOf c).toNat)
  case atStart => exact ⟨0, Nat.zero_le _, rfl, Lib.hid (by rw [ppU_zero]; exact HAT.out), Lib.hid (Chg.refl _ _ _)⟩
  case round =>
    obtain ⟨k, hk, rfl, HG, HC⟩ := hrel
    have HPK := Lib.hid (HP4.out.chg HC.out hlo)
    have hbk := bel_chg hbw4 HC.out hbw3.size
    by_cases hlt : k < z.length
    · have hlt' : (k : Int) < z.length := by omega
      have hku : k < (ppU m z X Y p k).length := by rw [ppU_len]; exact hlt
      have hrow := ppU_at m z X Y p k hlt
      rw [if_neg (Nat.lt_irrefl _)] at hrow
      obtain ⟨hkl, hkv⟩ := HA.out.2 k hlt
      obtain ⟨offk, capk, hTk, hwk⟩ := HG.out.wr hku (by rw [hrow]; omega)
      rw [hrow] at hTk hwk
      rw [hkl] at hTk
      have hck := (HG.out.cell k hku).1
      rw [hTk] at hck
      have hblk := HG.out.blk k hku
      have hcx : wr.cell? ⟨B k, offk + X, none⟩ = some (.int .i64 ((z.getD k []).getD X 0)) := (hwk.2 X (by omega)).1
      have hxv := hkv X hX
      obtain ⟨f, hf⟩ : ∃ f, f = (z.getD k []).getD X 0 := ⟨_, rfl⟩
      rw [← hf] at hcx hxv
      obtain ⟨hyl, hyv⟩ := HA.out.2 Y hY
      have hcall : ∀ w', Below wr.heap.size wr w' → Calls Try.prog 69 #[.iface TT rv, .slice (some ⟨B k, offk, none⟩) z.length capk, .int .i64 (mJoin m f (mEdge m p)), .slice (some ⟨qb, qoff, none⟩) z.length qcap] w' fun e w'' => e = .returned (.tuple #[]) ∧ GridAt w'' w3.heap.size w4.heap.size g T B (ppU m z X Y p (k + 1)) ∧ Chg w3.heap.size w4.heap.size w4 w'' := by
        intro w' h
        have hc := HIM.out (mJoin m f (mEdge m p)) (z.getD k []) (z.getD Y []) (B k) offk capk qb qoff qcap w' (hwk.keep h) (.inl ⟨by have := hbw3.size; omega, Nat.lt_of_lt_of_le hqb (Nat.le_trans hbk.size h.size), fun i hi => ((bel_trans hbk h).cell (p := ⟨qb, _, none⟩) hqb).trans (HQC.out i (by omega))⟩) (by omega) (by omega) (mJoin_in HM.out hxv (mEdge_in HM.out HW.out)) (fun i hi => hyv i (by omega))
        rw [hkl, hyl] at hc
        refine hc.mono ?_
        rintro e w'' ⟨rfl, hw2, hch⟩
        refine ⟨rfl, (HG.out.keep h).keepG (k := k) (off := offk) hku (by rw [ppU_succ m z X Y p hlt, ← hf]) (by rw [impr_len, hrow]) ⟨capk, by rw [impr_len, hkl]; exact hTk⟩ hw2 hch, (HC.out.trans (Chg.of_below h)).trans (hch.wider hblk.1 (by omega))⟩
      have hmain : ∀ w', Below wr.heap.size wr w' → PBox w' w.heap.size m (.slice (some ⟨ab, aoff, none⟩) z.length cap) X Y p ∧ w'.cell? ⟨B k, offk + X, none⟩ = some (.int .i64 f) ∧ w'.cell? ⟨ab, aoff + Y, none⟩ = some (.slice (some ⟨qb, qoff, none⟩) z.length qcap) := fun w' h =>
        ⟨HPK.out.keep h, (h.cell (p := ⟨B k, _, none⟩) hwk.1).trans hcx, ((bel_trans hbk h).cell (p := ⟨ab, _, none⟩) hab).trans HD0.out⟩
      have HCALL := Lib.hid hcall
      have HMAIN := Lib.hid hmain
      have HXV := Lib.hid hxv
      clear hku hrow hkl hkv hTk hwk hblk hcx hxv hf hyl hyv hcall hmain
      have hXi : (X : Int) < z.length := by omega
      have hYi : (Y : Int) < z.length := by omega
      go_wp2
      refine wp_region_last (C := fun w' => Below wr.heap.size wr w') 22 _ rfl rfl (by kernel_rfl) (by kernel_rfl) (by kernel_rfl) (by kernel_rfl) (by kernel_rfl) ((Below.refl _ _).drew) ?_
      simp only [List.set_cons_succ, List.set_cons_zero, idle]
      repeat (go_big_quiet_step ((intro hw; first | with_reducible rfl | (obtain ⟨⟨-, b0, b1, b2, b3, b4, -, -, -, -⟩, bx, b9⟩ := HMAIN.out _ hw; simp only [b0, b1, b2, b3, b4, bx, b9, Result.andThen]; first | exact ⟨trivial, rfl⟩ | exact ⟨rfl, rfl⟩) | (with_reducible exact quietB (HCO.out _) hw) | (with_reducible exact quietB (HCJ.out _ _ HXV.out) hw))))
      refine wpQuiet_nil ?_
      intro w9 hb9
      simp only [List.getElem_toArray, List.getElem_cons_succ, List.getElem_cons_zero]
      have hc9 := HCALL.out w9 hb9
      have HC9 := Lib.hid hc9
      clear hc9
      go_wp2_with (go_at_call 69; (with_reducible refine HC9.out.mono ?_); rintro e wF ⟨rfl, hgF, hcF⟩; have HGF := Lib.hid hgF; have HCF := Lib.hid hcF; clear hgF hcF)
      go_roundw
      case rel => exact ⟨k + 1, by omega, by go_num, HGF, HCF⟩
      case measure => simp [intOf]; omega
    · have hke : k = z.length := by omega
      have hkk : ¬ ((k : Int) < z.length) := by omega
      have HK := Lib.hid hke
      clear hke
      obtain ⟨-, b0, b1, b2, b3, b4, b5, b6, b7, b8⟩ := HPK.out
      go_wp2
      try simp only [Exit.inBlock, Exit.then]
      refine bodyPost_ret (v := .tuple #[.agg #[.int .i64 m, .slice (some ⟨g, 0, none⟩) z.length cp], .bool true]) ?_ rfl ?_
      · rw [results_cell_tmp rfl]
        go_simp
      have hG := HG.out
      rw [HK.out] at hG
      have hch : ∀ u1 u2 : Value, Chg w.heap.size (w.heap.size + 3) wr ((wr.setCell ⟨w.heap.size + 1 + 1, 0, none⟩ u1).setCell ⟨w.heap.size + 1 + 1, 1, none⟩ u2) := fun u1 u2 => ((Chg.refl _ _ _).setCell (by simp only; omega) (by simp only; omega) _).setCell (by simp only; omega) (by simp only; omega) _
      have hs4 := HC.out.size
      refine ⟨_, rfl, ((hG.own (ppU_len _ _ _ _ _ _) hcp).chg (hch _ _) (.inl (by omega))).wider (by omega) (by simp; exact hs4) (Nat.le_refl _), (hbk.setCell (by simp only; omega) _).setCell (by simp only; omega) _⟩
end Go.Proofs.Ytdpbmenjangpaaa
