/- Edges relaxed one by one: in the program. Edges relaxed one by one: in the model. -/
import Derived.Test.YtnomlefjldfgiaaRelaxJ
import Derived.Test.YtnomlefjldfgiaaEndV
import Derived.Test.YtnomlefjldfgiaaVValS
import Derived.Deep.RegionHeld3
import Derived.Test.YtnomlefjldfgiaaRelaxT
namespace Go.Proofs.Ytnomlefjldfgiaa
open Go.RowKit Go.BigFrame Go.Deep
set_option linter.unusedVariables false
set_option linter.unusedSimpArgs false

set_option maxRecDepth 20000 in
set_option maxHeartbeats 2000000 in
theorem isLoose (m : Int) (zs : List Int) (s : Value) (X Y : Nat) (z : Int) (w : World) (hm : mKind m = true) (hr : Row w s zs) (hX : X < zs.length) (hY : Y < zs.length) (hl : zs.length ≤ 1048576) (hv : vAll m zs) (hw : mWeight z = true) :
    Calls Try.prog 40 #[opsV m, s, .agg #[.int .i64 X, .int .i64 Y, .int .i64 z]] w fun e w' => e = .returned (.bool (vLo m zs (X, Y, z))) ∧ Below w.heap.size w w' := by
  have hev := fun (w' : World) (hb : Below w.heap.size w w') => edgeValue m zs s X Y z w' hm (hr.keep hb) hX hl hv hw
  obtain ⟨T, rv, fn, fe, fb, fo, fj, rn, re, rb, ro, rj, D⟩ := disp hm
  rw [D.val] at hev ⊢
  have hn1 := D.mb.run
  have hn2 := D.mb.ahead
  have hn3 := D.mb.enter
  obtain ⟨a, cap, rfl, hz⟩ := hr
  rcases hz with hz | ⟨b, off, rfl, hb, hc⟩
  · rw [hz] at hX; simp at hX
  obtain ⟨x, hx⟩ : ∃ x, x = zs.getD Y 0 := ⟨_, rfl⟩
  obtain ⟨q, hq⟩ : ∃ q, q = vGive m zs ((X : Int), (Y : Int), z) := ⟨_, rfl⟩
  have h1 := hc Y hY
  rw [← hx] at h1
  have hcb := D.cb q x
  have e0 : vLo m zs ((X : Int), (Y : Int), z) = mBet m q x := by unfold vLo; rw [hq, hx]; rfl
  rw [e0]
  rw [← hq] at hev
  have HCB := Lib.hid hcb
  have HEV := Lib.hid hev
  have hY' : (Y : Int) < zs.length := by omega
  have ff : ∀ w', Below (w.alloc (.cells #[.int .i64 X, .int .i64 Y, .int .i64 z] 56)).heap.size (w.alloc (.cells #[.int .i64 X, .int .i64 Y, .int .i64 z] 56)) w' →
      w'.cell? ⟨b, off + Y, none⟩ = some (.int .i64 x) ∧ w'.cell? ⟨w.heap.size, 0, none⟩ = some (.int .i64 X) ∧ w'.cell? ⟨w.heap.size, 1, none⟩ = some (.int .i64 Y) ∧ w'.cell? ⟨w.heap.size, 2, none⟩ = some (.int .i64 z) ∧ Below w.heap.size w w' := by
    intro w' h
    have hB := bel_trans ((Below.refl _ w).alloc (Nat.le_refl _) (.cells #[.int .i64 X, .int .i64 Y, .int .i64 z] 56)) h
    exact ⟨(hB.cell (p := ⟨b, _, none⟩) hb).trans h1, (h.cell (p := ⟨_, _, none⟩) (by simp)).trans (by go_simp), (h.cell (p := ⟨_, _, none⟩) (by simp)).trans (by go_simp), (h.cell (p := ⟨_, _, none⟩) (by simp)).trans (by go_simp), hB⟩
  have FF := Lib.hid ff
  have HD := Lib.hid D
  clear D hc h1 hx hq hcb hev e0 ff hv
  go_enter Try.func40, Try.ntmps40
  go_wp2
  generalize (w.alloc (.cells #[.int .i64 X, .int .i64 Y, .int .i64 z] 56)) = W1 at FF ⊢
  refine wp_region_below (by kernel_rfl) (by kernel_rfl) ?_
  repeat (go_big_quiet_step ((intro hw1; first | with_reducible rfl | (obtain ⟨f0, f1, f2, f3, -⟩ := FF.out _ hw1; simp only [f0, f1, f2, f3, Result.andThen]; first | exact ⟨trivial, rfl⟩ | exact ⟨rfl, rfl⟩) | (go_at_call 41; exact quietB (HEV.out _ (FF.out _ hw1).2.2.2.2) hw1) | (with_reducible exact quietB (HCB.out _) hw1))))
  refine wpQuiet_nil ?_
  intro w2 hw2
  obtain ⟨-, -, -, -, hB⟩ := FF.out _ hw2
  go_wp2
  go_ret
  exact ⟨rfl, hB⟩

set_option maxRecDepth 20000 in
set_option maxHeartbeats 4000000 in
theorem relax (m : Int) (zs : List Int) (b off cap X Y : Nat) (z : Int) (w : World) (hm : mKind m = true) (hr : Wr w b off zs) (hX : X < zs.length) (hY : Y < zs.length) (hl : zs.length ≤ 1048576) (hv : vAll m zs) (hw : mWeight z = true) :
    Calls Try.prog 23 #[opsV m, .slice (some ⟨b, off, none⟩) zs.length cap, .agg #[.int .i64 X, .int .i64 Y, .int .i64 z]] w fun e w' => e = .returned (.bool (vLo m zs (X, Y, z))) ∧ Wr w' b off (vOne m zs (X, Y, z)) ∧ Chg b (b + 1) w w' := by
  have hlo := fun (w' : World) (hb : Below w.heap.size w w') => isLoose m zs (.slice (some ⟨b, off, none⟩) zs.length cap) X Y z w' hm ((hr.keep hb).row) hX hY hl hv hw
  have hev := fun (w' : World) (hb : Below w.heap.size w w') => edgeValue m zs (.slice (some ⟨b, off, none⟩) zs.length cap) X Y z w' hm ((hr.keep hb).row) hX hl hv hw
  obtain ⟨O, hO⟩ : ∃ O, O = opsV m := ⟨_, rfl⟩
  rw [← hO] at hlo hev ⊢
  have hbn := hr.1
  have HR := Lib.hid hr
  cases hL : vLo m zs ((X : Int), (Y : Int), z)
  · have h1 := vOne_still hL hY
    rw [h1]
    rw [hL] at hlo
    have HLO := Lib.hid hlo
    clear hlo hev hO hL h1 hr
    go_enter Try.func23, Try.ntmps23
    go_wp2_with (go_at_call 40; (with_reducible refine (HLO.out _ ((Below.refl _ _).alloc (Nat.le_refl _) _)).mono ?_); rintro e w1 ⟨rfl, hb1⟩)
    go_ret
    have hB := bel_trans ((Below.refl _ w).alloc (Nat.le_refl _) (.cells #[.int .i64 X, .int .i64 Y, .int .i64 z] 56)) hb1
    exact ⟨rfl, HR.out.keep hB, Chg.of_below hB⟩
  · have h1 := vOne_loose hL
    rw [h1]
    simp only [Int.toNat_natCast]
    obtain ⟨q, hq⟩ : ∃ q, q = vGive m zs ((X : Int), (Y : Int), z) := ⟨_, rfl⟩
    rw [← hq] at hev ⊢
    rw [hL] at hlo
    have HLO := Lib.hid hlo
    have HEV := Lib.hid hev
    have hY' : (Y : Int) < zs.length := by omega
    obtain ⟨x, hx⟩ : ∃ x, x = zs.getD Y 0 := ⟨_, rfl⟩
    have hcell := hr.2 Y hY
    rw [← hx] at hcell
    clear hlo hev hO hL h1 hr hq hx
    go_enter Try.func23, Try.ntmps23
    go_wp2_with (go_at_call 40; (with_reducible refine (HLO.out _ ((Below.refl _ _).alloc (Nat.le_refl _) _)).mono ?_); rintro e w1 ⟨rfl, hb1⟩)
    have hhold : ∀ w', Below w1.heap.size w1 w' → w'.cell? ⟨w.heap.size, 0, none⟩ = some (.int .i64 X) ∧ w'.cell? ⟨w.heap.size, 1, none⟩ = some (.int .i64 Y) ∧ w'.cell? ⟨w.heap.size, 2, none⟩ = some (.int .i64 z) := fun w' h => by
      have hs := hb1.size
      simp at hs
      exact ⟨((h.cell (p := ⟨_, _, none⟩) (by simp only; omega)).trans (hb1.cell (p := ⟨_, _, none⟩) (by simp))).trans (by go_simp), ((h.cell (p := ⟨_, _, none⟩) (by simp only; omega)).trans (hb1.cell (p := ⟨_, _, none⟩) (by simp))).trans (by go_simp), ((h.cell (p := ⟨_, _, none⟩) (by simp only; omega)).trans (hb1.cell (p := ⟨_, _, none⟩) (by simp))).trans (by go_simp)⟩
    have hrel : ∀ w', Below w1.heap.size w1 w' → w'.cell? ⟨b, off + Y, none⟩ = some (.int .i64 x) ∧ w'.frozen? ⟨b, off + Y, none⟩ = false ∧ Below w.heap.size w w' ∧ Wr w' b off zs := fun w' h => by
      have hB := bel_trans (bel_trans ((Below.refl _ w).alloc (Nat.le_refl _) (.cells #[.int .i64 X, .int .i64 Y, .int .i64 z] 56)) hb1) h
      exact ⟨(hB.cell (p := ⟨b, _, none⟩) hbn).trans hcell.1, (hB.frozen (p := ⟨b, _, none⟩) hbn).trans hcell.2, hB, HR.out.keep hB⟩
    have HOLD := Lib.hid hhold
    have HREL := Lib.hid hrel
    clear hhold hrel hb1 hcell
    obtain ⟨e0, e1, e2⟩ := HOLD.out _ (Below.refl _ _)
    have q0 := (HREL.out _ (Below.refl _ _)).1
    go_region_law (first | (go_simp; go_at_call 41; (with_reducible refine (HEV.out _ (HREL.out _ ((Below.refl _ _).drew)).2.2.1).mono ?_); rintro e wE ⟨rfl, hbE⟩; obtain ⟨m0, m1, m2⟩ := HOLD.out _ (bel_trans ((Below.refl _ _).drew) hbE); have HRE := Lib.hid (HREL.out _ (bel_trans ((Below.refl _ _).drew) hbE)); have qE := HRE.out.1; have fE := HRE.out.2.1))
    all_goals go_wp2
    all_goals go_ret
    all_goals exact ⟨rfl, HRE.out.2.2.2.set hY _, (Chg.of_below HRE.out.2.2.1).setCell (p := ⟨b, off + Y, none⟩) (Nat.le_refl _) (Nat.lt_succ_self _) _⟩

/-- Is it an order: in the program. -/
theorem orderValid (n : Int) (es : List Ed) (os : List Int) (a : Option Addr) (cap : Nat) (t : Value) (w : World) (ht : Row w t os) (hl : es.length ≤ 281474976710656) (hl2 : os.length ≤ 281474976710656) :
    Calls Try.prog 15 #[.agg #[.int .i64 n, .slice a es.length cap], t] w fun e w' => e = .returned (.bool (oOk es.length os)) ∧ Below w.heap.size w w' := by
  obtain ⟨a2, cap2, rfl, hz0⟩ := ht
  have hz := Lib.hid hz0
  clear hz0
  obtain ⟨R, hR⟩ : ∃ R, R = oOk es.length os := ⟨_, rfl⟩
  rw [← hR]
  have HR := Lib.hid hR
  clear hR
  by_cases h5 : 500 < os.length
  · have h5' : (500 : Int) < os.length := by omega
    go_enter Try.func15, Try.ntmps15
    go_wp2
    go_ret
    exact ⟨by rw [HR.out]; unfold oOk; rw [decide_eq_false (by omega)]; rfl, (Below.refl _ _).alloc (Nat.le_refl _) _⟩
  have h5' : ¬ ((500 : Int) < os.length) := by omega
  have H5 := Lib.hid h5
  clear h5
  go_enter Try.func15, Try.ntmps15
  go_wp2
  go_loop [12] (fun c => ∃ k : Nat, k ≤ os.length ∧ c = .int .i64 k ∧ ∀ i, i < k → oIn es.length (os.getD i 0) = true) (fun c => os.length - (intOf c).toNat)
  case atStart => exact ⟨0, Nat.zero_le _, rfl, fun i hi => absurd hi (Nat.not_lt_zero _)⟩
  case round =>
    obtain ⟨k, hk, rfl, hall⟩ := hrel
    have HA := Lib.hid hall
    clear hall
    by_cases hlt : k < os.length
    · have hlt' : (k : Int) < os.length := by omega
      rcases hz.out with h0 | ⟨b, off, rfl, hb, hc⟩
      · rw [h0] at hlt; simp at hlt
      obtain ⟨x, hx⟩ : ∃ x, x = os.getD k 0 := ⟨_, rfl⟩
      have h1 := hc k hlt
      rw [← hx] at h1
      have h2 : (w.alloc (.cells #[.int .i64 n, .slice a es.length cap] 25)).cell? ⟨b, off + k, none⟩ = some (.int .i64 x) := (((Below.refl _ w).alloc (Nat.le_refl _) _).cell (p := ⟨b, _, none⟩) hb).trans h1
      have HX := Lib.hid hx
      clear hc h1 hx
      by_cases hx0 : x < 0
      · have d0 : decide (x < 0) = true := by simpa using hx0
        go_wp2
        go_ret
        refine ⟨?_, (Below.refl _ _).alloc (Nat.le_refl _) _⟩
        rw [HR.out]
        refine congrArg (fun b => Ending.returned (.bool b)) ?_
        cases h : oOk es.length os with
        | false => rfl
        | true =>
          have h3 := oOk_at h (k := k) (by omega)
          rw [← HX.out] at h3
          simp [oIn] at h3
          omega
      · have d0 : decide (x < 0) = false := by simpa using hx0
        by_cases hx1 : x < es.length
        · have d1 : decide ((es.length : Int) ≤ x) = false := by simp; omega
          have hn : Hid (∀ i, i < k + 1 → oIn es.length (os.getD i 0) = true) := Lib.hid (fun i hi => by
            by_cases h : i = k
            · subst h
              rw [← HX.out]
              simp [oIn]
              omega
            · exact HA.out i (by omega))
          go_wp2
          go_round
          case rel => exact ⟨k + 1, by omega, by go_num, hn.out⟩
          case measure => simp [intOf]; omega
        · have d1 : decide ((es.length : Int) ≤ x) = true := by simp; omega
          go_wp2
          go_ret
          refine ⟨?_, (Below.refl _ _).alloc (Nat.le_refl _) _⟩
          rw [HR.out]
          refine congrArg (fun b => Ending.returned (.bool b)) ?_
          cases h : oOk es.length os with
          | false => rfl
          | true =>
            have h3 := oOk_at h (k := k) (by omega)
            rw [← HX.out] at h3
            simp [oIn] at h3
            omega
    · have hke : k = os.length := by omega
      have hkk : ¬ ((k : Int) < os.length) := by omega
      have HK := Lib.hid hke
      clear hke
      go_wp2
      go_ret
      refine ⟨?_, (Below.refl _ _).alloc (Nat.le_refl _) _⟩
      rw [HR.out]
      refine congrArg (fun b => Ending.returned (.bool b)) ?_
      symm
      unfold oOk
      rw [decide_eq_true (by have := H5.out; omega), Bool.true_and, List.all_eq_true]
      intro x hx
      obtain ⟨i, hi, rfl⟩ := List.getElem_of_mem hx
      have := HA.out i (by rw [HK.out]; exact hi)
      simpa [List.getD, hi] using this
end Go.Proofs.Ytnomlefjldfgiaa
namespace Go.Proofs.Ytnomlefjldfgiaa
open Go.RowKit Go.BigFrame Go.Deep
set_option linter.unusedVariables false
set_option linter.unusedSimpArgs false

theorem Wr.chg {w w' : World} {b off lo hi : Nat} {zs : List Int} (h : Wr w b off zs) (c : Chg lo hi w w') (d : b < lo ∨ hi ≤ b) : Wr w' b off zs :=
  ⟨Nat.lt_of_lt_of_le h.1 c.size, fun i hi => ⟨(c.cell (p := ⟨b, _, none⟩) h.1 d).trans (h.2 i hi).1, (c.frozen (p := ⟨b, _, none⟩) h.1 d).trans (h.2 i hi).2⟩⟩

/-- Is it an order: in the model. -/
theorem l5Order (n : Int) (es : List Ed) (os : List Int) (a : Option Addr) (cap : Nat) (t : Value) (w : World) (ht : Row w t os) (hl : es.length ≤ 281474976710656) (hl2 : os.length ≤ 281474976710656) :
    Calls Try.prog 17 #[.agg #[.int .i64 n, .slice a es.length cap], t] w fun e w' => e = .returned (.bool (oOk es.length os)) ∧ Below w.heap.size w w' := by
  obtain ⟨a2, cap2, rfl, hz0⟩ := ht
  have hz := Lib.hid hz0
  clear hz0
  obtain ⟨R, hR⟩ : ∃ R, R = oOk es.length os := ⟨_, rfl⟩
  rw [← hR]
  have HR := Lib.hid hR
  clear hR
  have hbA : Below w.heap.size w (w.alloc (.cells #[.int .i64 n, .slice a es.length cap] 25)) := (Below.refl _ _).alloc (Nat.le_refl _) _
  have hbx := Box.new w 25 #[.int .i64 n, .slice a es.length cap]
  go_enter Try.func17, Try.ntmps17
  go_wp2
  generalize (w.alloc (.cells #[.int .i64 n, .slice a es.length cap] 25)) = W1 at hbA hbx ⊢
  have HW := Lib.hid (And.intro hbA hbx)
  clear hbA hbx
  go_loopw [5] (fun c wr => ∃ k : Nat, k ≤ os.length ∧ k ≤ 501 ∧ c = .int .i64 k ∧ (∀ i, i < k → oIn es.length (os.getD i 0) = true) ∧ Hid (Below W1.heap.size W1 wr)) (fun c _ => os.length - (intOf c).toNat)
  case atStart => exact ⟨0, Nat.zero_le _, by omega, rfl, fun i hi => absurd hi (Nat.not_lt_zero _), Lib.hid (Below.refl _ _)⟩
  case round =>
    obtain ⟨k, hk, hk5, rfl, hall, HB⟩ := hrel
    have HA := Lib.hid hall
    clear hall
    by_cases hlt : k < os.length
    · have hlt' : (k : Int) < os.length := by omega
      by_cases h5 : k ≤ 500
      · have h5' : (k : Int) ≤ 500 := by omega
        rcases hz.out with h0 | ⟨b, off, rfl, hb, hc⟩
        · rw [h0] at hlt; simp at hlt
        obtain ⟨x, hx⟩ : ∃ x, x = os.getD k 0 := ⟨_, rfl⟩
        have h1 := hc k hlt
        rw [← hx] at h1
        have h2 : wr.cell? ⟨b, off + k, none⟩ = some (.int .i64 x) := ((bel_trans HW.out.1 HB.out).cell (p := ⟨b, _, none⟩) hb).trans h1
        have h3 : wr.cell? ⟨w.heap.size, 1, none⟩ = some (.slice a es.length cap) := by simpa using (HW.out.2.keep HB.out).cell 1
        have HX := Lib.hid hx
        clear hc h1 hx
        by_cases hx0 : x < 0
        · have d0 : decide (x < 0) = true := by simpa using hx0
          go_wp2
          go_quiet (fail)
          go_wp2
          go_ret
          refine ⟨?_, below_drewN0 (bel_trans HW.out.1 HB.out) _⟩
          rw [HR.out]
          refine congrArg (fun b => Ending.returned (.bool b)) ?_
          cases h : oOk es.length os with
          | false => rfl
          | true =>
            have h3 := oOk_at h (k := k) (by omega)
            rw [← HX.out] at h3
            simp [oIn] at h3
            omega
        · have d0 : decide (x < 0) = false := by simpa using hx0
          by_cases hx1 : x < es.length
          · have d1 : decide ((es.length : Int) ≤ x) = false := by simp; omega
            have hn : Hid (∀ i, i < k + 1 → oIn es.length (os.getD i 0) = true) := Lib.hid (fun i hi => by
              by_cases h : i = k
              · subst h
                rw [← HX.out]
                simp [oIn]
                omega
              · exact HA.out i (by omega))
            go_wp2
            go_quiet (fail)
            go_wp2
            go_roundw
            case rel => exact ⟨k + 1, by omega, by omega, by go_num, hn.out, Lib.hid (below_drewN0 HB.out _)⟩
            case measure => simp [intOf]; omega
          · have d1 : decide ((es.length : Int) ≤ x) = true := by simp; omega
            go_wp2
            go_quiet (fail)
            go_wp2
            go_ret
            refine ⟨?_, below_drewN0 (bel_trans HW.out.1 HB.out) _⟩
            rw [HR.out]
            refine congrArg (fun b => Ending.returned (.bool b)) ?_
            cases h : oOk es.length os with
            | false => rfl
            | true =>
              have h3 := oOk_at h (k := k) (by omega)
              rw [← HX.out] at h3
              simp [oIn] at h3
              omega
      · have h5' : ¬ (k : Int) ≤ 500 := by omega
        have h6 : ¬ (os.length : Int) ≤ 500 := by omega
        go_wp2
        go_ret
        refine ⟨?_, bel_trans HW.out.1 HB.out⟩
        rw [HR.out]
        unfold oOk
        rw [decide_eq_false (by omega)]
        first | rfl | simp
    · have hke : k = os.length := by omega
      have hkk : ¬ ((k : Int) < os.length) := by omega
      have HK := Lib.hid hke
      clear hke
      go_wp2
      go_ret
      refine ⟨?_, bel_trans HW.out.1 HB.out⟩
      rw [HR.out]
      refine congrArg (fun b => Ending.returned (.bool b)) ?_
      unfold oOk
      have h9 : os.all (oIn es.length) = true := by
        rw [List.all_eq_true]
        intro x hx
        obtain ⟨i, hi, rfl⟩ := List.getElem_of_mem hx
        have := HA.out i (by rw [HK.out]; exact hi)
        simpa [List.getD, hi] using this
      rw [h9, Bool.and_true]
      have := HK.out
      first | rfl | (apply decide_eq_decide.2; omega) | (simp; omega)
end Go.Proofs.Ytnomlefjldfgiaa
