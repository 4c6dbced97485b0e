/- The worst measures of a matrix and its center: in the model. -/
import Derived.Test.YtjpikbbpmbeckaaMatS
namespace Go.Proofs.Ytjpikbbpmbeckaa
open Go.RowKit Go.BigFrame Go.Deep
set_option linter.unusedVariables false
set_option linter.unusedSimpArgs false

set_option maxRecDepth 20000 in
set_option maxHeartbeats 2000000 in
theorem l8Worst (m : Int) (zss : List (List Int)) (s : Value) (a : Nat) (w : World) (hs : Grid w s zss) (hm : mKind m = true) (hN : zss.length ≤ 1048576) (ha : a < zss.length) (hrl : (zss.getD a []).length = zss.length) :
    Calls Try.prog 67 #[.agg #[.int .i64 m, s], .int .i64 a] w fun e w' => e = .returned (.int .i64 (wst m (zss.getD a []) a)) ∧ Below w.heap.size w w' := by
  have hB : ∀ (A : Obj), Below w.heap.size w (w.alloc A) := fun A => (Below.refl _ _).alloc (Nat.le_refl _) _
  obtain ⟨ad, cap, rfl, hz0⟩ := id hs
  rcases hz0 with h0 | ⟨b, off, T, rfl, hb, hc⟩
  · rw [h0] at ha; simp at ha
  obtain ⟨c0, r0⟩ := hc a ha
  obtain ⟨zs, hzs⟩ : ∃ zs, zs = zss.getD a [] := ⟨_, rfl⟩
  rw [← hzs] at r0 hrl ⊢
  obtain ⟨tb, to, tc, hT, htb, htc⟩ := r0.at (i := 0) (by omega)
  rw [hT] at c0
  have HT := Lib.hid htc
  have ho := fun w => sOne hm w
  have HO := Lib.hid ho
  have HM := Lib.hid hm
  have HRL := Lib.hid hrl
  have HB := Lib.hid hB
  have HC0 := Lib.hid c0
  obtain ⟨R, hR⟩ : ∃ R, R = wst m zs a := ⟨_, rfl⟩
  rw [← hR]
  have HR := Lib.hid hR
  have hkey : ∀ k : Nat, k < zs.length ↔ k < zss.length := fun k => by rw [hrl]
  have HKEY := Lib.hid hkey
  clear hc r0 hT htc ho hm hB c0 hzs hR hkey
  have hrl2 : zs.length = zss.length := hrl
  clear hrl
  have HRL2 := Lib.hid hrl2
  rw [hrl2] at HC0
  clear hrl2
  go_enter Try.func67, Try.ntmps67
  go_wp2_with (go_at_call 114; refine (HO.out _).mono ?_; rintro e w2 ⟨rfl, rfl⟩)
  go_loopw [6, 5] (fun c d wr => ∃ k : Nat, k ≤ zss.length ∧ c = .int .i64 k ∧ d = .int .i64 (wstTo m zs a k) ∧ Below w.heap.size w wr ∧ (wr.cell? ⟨w.heap.size, 0, none⟩ = some (.int .i64 m) ∧ wr.cell? ⟨w.heap.size, 1, none⟩ = some (.slice (some ⟨b, off, none⟩) zss.length cap) ∧ w.heap.size < wr.heap.size)) (fun c _ _ => zss.length - (intOf c).toNat)
  case atStart => exact ⟨0, Nat.zero_le _, rfl, rfl, HB.out _, by go_simp, by go_simp, by simp⟩
  case round =>
    obtain ⟨k, hk, rfl, rfl, hbel, hx0, hx1, hsz⟩ := hrel
    by_cases hlt : k < zss.length
    · have hlt' : (k : Int) < zss.length := by omega
      obtain ⟨x, hx⟩ : ∃ x, x = zs.getD k 0 := ⟨_, rfl⟩
      have t0 := HT.out k ((HKEY.out k).2 hlt)
      rw [← hx] at t0
      have gg : ∀ w', Below wr.heap.size wr w' → w'.cell? ⟨tb, to + k, none⟩ = some (.int .i64 x) ∧ w'.cell? ⟨b, off + a, none⟩ = some (.slice (some ⟨tb, to, none⟩) zss.length tc) ∧ w'.cell? ⟨w.heap.size, 0, none⟩ = some (.int .i64 m) ∧ w'.cell? ⟨w.heap.size, 1, none⟩ = some (.slice (some ⟨b, off, none⟩) zss.length cap) := by
        intro w' h
        have h2 := bel_trans hbel h
        exact ⟨(h2.cell (p := ⟨tb, _, none⟩) htb).trans t0, (h2.cell (p := ⟨b, _, none⟩) hb).trans HC0.out, (h.cell (p := ⟨_, _, none⟩) hsz).trans hx0, (h.cell (p := ⟨_, _, none⟩) hsz).trans hx1⟩
      have GG := Lib.hid gg
      have hst : wstTo m zs a (k + 1) = if (decide ((k : Int) ≠ a) && mBet m (wstTo m zs a k) x) = true then x else wstTo m zs a k := by rw [hx]; rfl
      obtain ⟨y, hy⟩ : ∃ y, y = wstTo m zs a k := ⟨_, rfl⟩
      rw [← hy] at hst ⊢
      have HST := Lib.hid hst
      clear t0 hx gg hst hy
      by_cases he : (k : Int) = a
      · have d1 : ((k : Int) != a) = false := by simpa using he
        have d0 : ((k : Int) == a) = true := by simpa using he
        have d2 : decide ((k : Int) ≠ a) = false := by simpa using he
        have HW : Hid (wstTo m zs a (k + 1) = y) := Lib.hid (by rw [HST.out, d2, Bool.false_and, if_neg (by decide)])
        have d3 : k = a := by omega
        have HK := Lib.hid he
        have HK3 := Lib.hid d3
        clear HST d2 he d3
        go_wp2
        refine wp_region_below (by kernel_rfl) (by kernel_rfl) ?_
        repeat (go_big_quiet_step ((intro hw; first | with_reducible rfl | (obtain ⟨f0, f1, x0, x1⟩ := GG.out _ hw; simp only [f0, f1, x0, x1, Result.andThen]; first | exact ⟨trivial, rfl⟩ | exact ⟨rfl, rfl⟩))))
        refine wpQuiet_nil ?_
        intro w3 hw3
        obtain ⟨f0, f1, x0, x1⟩ := GG.out _ hw3
        go_wp2
        go_roundw
        case rel => exact ⟨k + 1, by omega, by go_num, by rw [HW.out], bel_trans hbel hw3, x0, x1, Nat.lt_of_lt_of_le hsz hw3.size⟩
        case measure => simp [intOf]; omega
      · have d1 : ((k : Int) != a) = true := by simpa using he
        have d0 : ((k : Int) == a) = false := by simpa using he
        have d2 : decide ((k : Int) ≠ a) = true := by simpa using he
        rw [d2, Bool.true_and] at HST
        have hcb := fun w => calls_below (sBet HM.out y x w)
        obtain ⟨Bb, hBb⟩ : ∃ Bb, Bb = mBet m y x := ⟨_, rfl⟩
        rw [← hBb] at hcb HST
        have HCB := Lib.hid hcb
        have HK := Lib.hid he
        clear hcb hBb d2 he
        cases Bb
        · have HW : Hid (wstTo m zs a (k + 1) = y) := Lib.hid (by rw [HST.out, if_neg (by decide)])
          clear HST
          go_wp2
          refine wp_region_below (by kernel_rfl) (by kernel_rfl) ?_
          repeat (go_big_quiet_step ((intro hw; first | with_reducible rfl | (obtain ⟨f0, f1, x0, x1⟩ := GG.out _ hw; simp only [f0, f1, x0, x1, Result.andThen]; first | exact ⟨trivial, rfl⟩ | exact ⟨rfl, rfl⟩) | (go_at_call 69; exact quietB (HCB.out _) hw))))
          refine wpQuiet_nil ?_
          intro w3 hw3
          obtain ⟨f0, f1, x0, x1⟩ := GG.out _ hw3
          go_wp2
          go_roundw
          case rel => exact ⟨k + 1, by omega, by go_num, by rw [HW.out], bel_trans hbel hw3, x0, x1, Nat.lt_of_lt_of_le hsz hw3.size⟩
          case measure => simp [intOf]; omega
        · have HW : Hid (wstTo m zs a (k + 1) = x) := Lib.hid (by rw [HST.out, if_pos rfl])
          clear HST
          go_wp2
          refine wp_region_below (by kernel_rfl) (by kernel_rfl) ?_
          repeat (go_big_quiet_step ((intro hw; first | with_reducible rfl | (obtain ⟨f0, f1, x0, x1⟩ := GG.out _ hw; simp only [f0, f1, x0, x1, Result.andThen]; first | exact ⟨trivial, rfl⟩ | exact ⟨rfl, rfl⟩) | (go_at_call 69; exact quietB (HCB.out _) hw))))
          refine wpQuiet_nil ?_
          intro w3 hw3
          obtain ⟨f0, f1, x0, x1⟩ := GG.out _ hw3
          go_wp2
          go_roundw
          case rel => exact ⟨k + 1, by omega, by go_num, by rw [HW.out], bel_trans hbel hw3, x0, x1, Nat.lt_of_lt_of_le hsz hw3.size⟩
          case measure => simp [intOf]; omega
    · have hke : k = zss.length := by omega
      have hkk : ¬ ((k : Int) < zss.length) := by omega
      have HKE := Lib.hid hke
      clear hke
      go_wp2
      go_ret
      exact ⟨by rw [HR.out, HKE.out, ← HRL2.out]; rfl, hbel⟩

set_option maxRecDepth 20000 in
set_option maxHeartbeats 2000000 in
theorem sWorstOf (m a : Int) (zss : List (List Int)) (s : Value) (w : World) (hs : Grid w s zss) (hl : zss.length ≤ 281474976710656) (hl2 : ∀ i, i < zss.length → (zss.getD i []).length ≤ 281474976710656) :
    Calls Try.prog 21 #[.agg #[.int .i64 m, s], .int .i64 a] w fun e w' => e = .returned (.tuple #[.int .i64 (wVal m zss a), .bool (wOk m zss a)]) ∧ Below w.heap.size w w' := by
  have hB : ∀ (A : Obj), Below w.heap.size w (w.alloc A) := fun A => (Below.refl _ _).alloc (Nat.le_refl _) _
  obtain ⟨ad, cap, rfl, hz0⟩ := id hs
  have hv := fun A => sMatrixValid m zss _ (w.alloc A) (hs.keep (hB A)) hl hl2
  obtain ⟨V, hV⟩ : ∃ V, V = mVal m zss := ⟨_, rfl⟩
  rw [← hV] at hv
  have HMV := Lib.hid hv
  have HV := Lib.hid hV
  have HB := Lib.hid hB
  have HS := Lib.hid hs
  clear hz0 hv hV hB hs hl2
  cases V
  · have e1 : wOk m zss a = false := by unfold wOk; rw [← HV.out]; rfl
    have e2 : wVal m zss a = 0 := by unfold wVal; rw [if_neg (by rw [e1]; decide)]
    rw [e1, e2]
    clear e1 e2
    go_enter Try.func21, Try.ntmps21
    go_wp2_with (go_at_call 28; refine (HMV.out _).mono ?_; rintro e w1 ⟨rfl, hb1⟩)
    go_ret2
    exact ⟨rfl, bel_trans (HB.out _) hb1⟩
  by_cases h1 : a < 0
  · have e1 : wOk m zss a = false := by unfold wOk; have : decide (0 ≤ a) = false := by simp; omega
                                        rw [this]; simp
    have e2 : wVal m zss a = 0 := by unfold wVal; rw [if_neg (by rw [e1]; decide)]
    rw [e1, e2]
    clear e1 e2
    go_enter Try.func21, Try.ntmps21
    go_wp2_with (go_at_call 28; refine (HMV.out _).mono ?_; rintro e w1 ⟨rfl, hb1⟩)
    go_ret2
    exact ⟨rfl, bel_trans (HB.out _) hb1⟩
  by_cases h2 : (zss.length : Int) ≤ a
  · have e1 : wOk m zss a = false := by unfold wOk; have : decide (a < (zss.length : Int)) = false := by simp; omega
                                        rw [this]; simp
    have e2 : wVal m zss a = 0 := by unfold wVal; rw [if_neg (by rw [e1]; decide)]
    rw [e1, e2]
    clear e1 e2
    have h2' : a ≥ (zss.length : Int) := h2
    go_enter Try.func21, Try.ntmps21
    go_wp2_with (go_at_call 28; refine (HMV.out _).mono ?_; rintro e w1 ⟨rfl, hb1⟩; have x1 := hb1.cell (p := ⟨w.heap.size, 1, none⟩) (by simp))
    go_ret2
    exact ⟨rfl, bel_trans (HB.out _) hb1⟩
  have hsq := (mVal_parts HV.out.symm).1
  have hm := (mVal_parts HV.out.symm).2.1
  have hN12 := (mSq_parts hsq).2.1
  obtain ⟨k, rfl⟩ : ∃ k : Nat, a = k := ⟨a.toNat, by omega⟩
  have hk : k < zss.length := by omega
  have e1 : wOk m zss k = true := by
    unfold wOk
    rw [← HV.out]
    have d1 : decide ((0 : Int) ≤ k) = true := by simp
    have d2 : decide ((k : Int) < zss.length) = true := by simp; omega
    rw [d1, d2]; rfl
  have e2 : wVal m zss k = wst m (zss.getD k []) k := by unfold wVal; rw [if_pos e1, Int.toNat_natCast]
  rw [e1, e2]
  have hw := fun w' (h : Below w.heap.size w w') => l8Worst m zss _ k w' (HS.out.keep h) hm (by omega) hk ((mSq_parts hsq).2.2 k hk)
  obtain ⟨R, hR⟩ : ∃ R, R = wst m (zss.getD k []) k := ⟨_, rfl⟩
  rw [← hR] at hw ⊢
  have HW := Lib.hid hw
  have h2' : ¬ ((k : Int) ≥ (zss.length : Int)) := by omega
  have hk0 : ¬ ((k : Int) < 0) := by omega
  clear e1 e2 hsq hm hw hR h1 h2
  go_enter Try.func21, Try.ntmps21
  go_wp2_with (first | (go_at_call 28; refine (HMV.out _).mono ?_; rintro e w1 ⟨rfl, hb1⟩; have x0 := hb1.cell (p := ⟨w.heap.size, 0, none⟩) (by simp); have x1 := hb1.cell (p := ⟨w.heap.size, 1, none⟩) (by simp); have g1 : w.heap.size < w1.heap.size := Nat.lt_of_lt_of_le (by simp) hb1.size) | (go_at_call 67; refine (HW.out _ (bel_trans (HB.out _) hb1)).mono ?_; rintro e w2 ⟨rfl, hb2⟩))
  go_ret2
  exact ⟨rfl, bel_trans (bel_trans (HB.out _) hb1) hb2⟩

end Go.Proofs.Ytjpikbbpmbeckaa
