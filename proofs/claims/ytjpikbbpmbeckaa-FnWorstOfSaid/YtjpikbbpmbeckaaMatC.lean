/- The center of a matrix: in the model. -/
import Derived.Test.YtjpikbbpmbeckaaMatT
namespace Go.Proofs.Ytjpikbbpmbeckaa
open Go.RowKit Go.BigFrame Go.Deep
set_option linter.unusedVariables false
set_option linter.unusedSimpArgs false

/-- The model's center of the first k rows. -/
def cenS (m : Int) (zss : List (List Int)) : Nat → Nat
  | 0 => 0
  | 1 => 0
  | k + 2 => if mBet m (wst m (zss.getD (k + 1) []) ((k + 1 : Nat) : Int)) (wst m (zss.getD (cenS m zss (k + 1)) []) (cenS m zss (k + 1) : Nat)) = true then k + 1 else cenS m zss (k + 1)
theorem wst_in {m : Int} {zs : List Int} {but : Int} (hm : mKind m = true) (h : ∀ k, k < zs.length → mIn m (zs.getD k 0) = true) : ∀ k, k ≤ zs.length → mIn m (wstTo m zs but k) = true
  | 0, _ => mOne_in hm
  | k + 1, hk => by
    unfold wstTo
    split
    · exact h k (by omega)
    · exact wst_in hm h k (by omega)
theorem mBet_none {m v : Int} (h : mIn m v = true) (hb : mBet m v (mNone m) = false) : v = mNone m := by
  unfold mIn mBet at *
  split at h <;> simp_all <;> omega
theorem cenS_lt {m : Int} {zss : List (List Int)} : ∀ k, 1 ≤ k → cenS m zss k < k
  | 0, h => by omega
  | 1, _ => by show (0 : Nat) < 1; decide
  | k + 2, _ => by
    have := cenS_lt (m := m) (zss := zss) (k + 1) (by omega)
    unfold cenS
    split <;> omega
theorem cen_same {m : Int} {zss : List (List Int)} (hv : mVal m zss = true) : ∀ k, 1 ≤ k → k ≤ zss.length → cenTo m zss k = ((cenS m zss k : Int), wst m (zss.getD (cenS m zss k) []) (cenS m zss k : Nat))
  | 0, h, _ => by omega
  | 1, _, h => by
    have hm := (mVal_parts hv).2.1
    have hsq := (mVal_parts hv).1
    have hin : mIn m (wst m (zss.getD 0 []) ((0 : Nat) : Int)) = true := wst_in hm (fun k hk => mVal_in hv (by omega) (by rw [← (mSq_parts hsq).2.2 0 (by omega)]; exact hk)) _ (Nat.le_refl _)
    show (if mBet m (wst m (zss.getD 0 []) ((0 : Nat) : Int)) (mNone m) = true then (((0 : Nat) : Int), wst m (zss.getD 0 []) ((0 : Nat) : Int)) else (0, mNone m)) = _
    by_cases hb : mBet m (wst m (zss.getD 0 []) ((0 : Nat) : Int)) (mNone m) = true
    · rw [if_pos hb]; rfl
    · rw [if_neg hb]
      have := mBet_none hin (by simpa using hb)
      show _ = (((0 : Nat) : Int), wst m (zss.getD 0 []) ((0 : Nat) : Int))
      rw [this]; rfl
  | k + 2, _, h => by
    have ih := cen_same hv (k + 1) (by omega) (by omega)
    show (if mBet m (wst m (zss.getD (k + 1) []) ((k + 1 : Nat) : Int)) (cenTo m zss (k + 1)).2 = true then (((k + 1 : Nat) : Int), wst m (zss.getD (k + 1) []) ((k + 1 : Nat) : Int)) else cenTo m zss (k + 1)) = _
    rw [ih]
    simp only
    conv => rhs; unfold cenS
    split
    · rfl
    · rfl

set_option maxRecDepth 20000 in
set_option maxHeartbeats 2000000 in
theorem sCenterOf (m : Int) (zss : List (List Int)) (s : Value) (w : World) (hs : Grid w s zss) (hl : zss.length ≤ 281474976710656) (hl2 : ∀ i, i < zss.length → (zss.getD i []).length ≤ 281474976710656) :
    Calls Try.prog 26 #[.agg #[.int .i64 m, s]] w fun e w' => e = .returned (.tuple #[.int .i64 (cenVal m zss), .bool (mVal m zss)]) ∧ Below w.heap.size w w' := by
  have hB : ∀ (A : Obj), Below w.heap.size w (w.alloc A) := fun A => (Below.refl _ _).alloc (Nat.le_refl _) _
  obtain ⟨ad, cap, rfl, hz0⟩ := id hs
  have hv := fun A => sMatrixValid m zss _ (w.alloc A) (hs.keep (hB A)) hl hl2
  unfold cenVal
  obtain ⟨V, hV⟩ : ∃ V, V = mVal m zss := ⟨_, rfl⟩
  rw [← hV] at hv ⊢
  have HMV := Lib.hid hv
  have HV := Lib.hid hV
  have HB := Lib.hid hB
  have HS := Lib.hid hs
  clear hz0 hv hV hB hs hl2
  cases V
  · rw [if_neg (by decide)]
    go_enter Try.func26, Try.ntmps26
    go_wp2_with (go_at_call 28; refine (HMV.out _).mono ?_; rintro e w1 ⟨rfl, hb1⟩)
    go_ret2
    exact ⟨rfl, bel_trans (HB.out _) hb1⟩
  rw [if_pos rfl]
  have hsq := (mVal_parts HV.out.symm).1
  have hm := (mVal_parts HV.out.symm).2.1
  have hN12 := (mSq_parts hsq).2.1
  have hN1 := (mSq_parts hsq).1
  obtain ⟨W, hW⟩ : ∃ W : Nat → Int, W = fun k => wst m (zss.getD k []) (k : Nat) := ⟨_, rfl⟩
  have hw : ∀ (k : Nat) (w' : World), k < zss.length → Below w.heap.size w w' → Calls Try.prog 67 #[.agg #[.int .i64 m, .slice ad zss.length cap], .int .i64 k] w' fun e w'' => e = .returned (.int .i64 (W k)) ∧ Below w'.heap.size w' w'' := by
    intro k w' hk h
    rw [hW]
    exact l8Worst m zss _ k w' (HS.out.keep h) hm (by omega) hk ((mSq_parts hsq).2.2 k hk)
  have hbt := fun x y w => calls_below (sBet hm x y w)
  have HW := Lib.hid hw
  have HBT := Lib.hid hbt
  have HWW := Lib.hid hW
  have HSQ := Lib.hid hsq
  clear hsq hm hw hbt hW
  go_enter Try.func26, Try.ntmps26
  go_wp2_with (go_at_call 28; refine (HMV.out _).mono ?_; rintro e w1 ⟨rfl, hb1⟩; have x0 := hb1.cell (p := ⟨w.heap.size, 0, none⟩) (by simp); have x1 := hb1.cell (p := ⟨w.heap.size, 1, none⟩) (by simp); have g1 : w.heap.size < w1.heap.size := Nat.lt_of_lt_of_le (by simp) hb1.size)
  have hbel1 := bel_trans (HB.out _) hb1
  have q0 : w1.cell? ⟨w.heap.size, 0, none⟩ = some (.int .i64 m) := by rw [x0]; go_simp
  have q1 : w1.cell? ⟨w.heap.size, 1, none⟩ = some (.slice ad zss.length cap) := by rw [x1]; go_simp
  clear x0 x1
  go_loopw [5, 4] (fun c d wr => ∃ k : Nat, (1 ≤ k ∧ k ≤ zss.length) ∧ c = .int .i64 k ∧ d = .int .i64 (cenS m zss k : Nat) ∧ Below w.heap.size w wr ∧ (wr.cell? ⟨w.heap.size, 0, none⟩ = some (.int .i64 m) ∧ wr.cell? ⟨w.heap.size, 1, none⟩ = some (.slice ad zss.length cap) ∧ w.heap.size < wr.heap.size)) (fun c _ _ => zss.length - (intOf c).toNat)
  case atStart => exact ⟨1, ⟨Nat.le_refl _, hN1⟩, rfl, rfl, hbel1, q0, q1, g1⟩
  case round =>
    obtain ⟨k, ⟨hk1, hk⟩, rfl, rfl, hbel, hx0, hx1, hsz⟩ := hrel
    clear q0 q1 hbel1
    by_cases hlt : k < zss.length
    · have hlt' : (k : Int) < zss.length := by omega
      have hcl := cenS_lt (m := m) (zss := zss) k hk1
      have hst : cenS m zss (k + 1) = if mBet m (W k) (W (cenS m zss k)) = true then k else cenS m zss k := by
        obtain ⟨j, rfl⟩ : ∃ j, k = j + 1 := ⟨k - 1, by omega⟩
        rw [HWW.out]
        rfl
      obtain ⟨c, hc⟩ : ∃ c, c = cenS m zss k := ⟨_, rfl⟩
      rw [← hc] at hst hcl ⊢
      have hlw : ∀ (j : Nat) (w' : World), (j = k ∨ j = c) → Below wr.heap.size wr w' → Calls Try.prog 67 #[.agg #[.int .i64 m, .slice ad zss.length cap], .int .i64 j] w' fun e w'' => e = .returned (.int .i64 (W j)) ∧ Below w'.heap.size w' w'' := fun j w' hj h => HW.out j w' (by omega) (bel_trans hbel h)
      have HLW := Lib.hid hlw
      have hcb := fun w => HBT.out (W k) (W c) w
      obtain ⟨Bb, hBb⟩ : ∃ Bb, Bb = mBet m (W k) (W c) := ⟨_, rfl⟩
      rw [← hBb] at hcb hst
      have HCB := Lib.hid hcb
      have HST := Lib.hid hst
      have gg : ∀ w', Below wr.heap.size wr w' → w'.cell? ⟨w.heap.size, 0, none⟩ = some (.int .i64 m) ∧ w'.cell? ⟨w.heap.size, 1, none⟩ = some (.slice ad zss.length cap) := fun w' h => ⟨(h.cell (p := ⟨_, _, none⟩) hsz).trans hx0, (h.cell (p := ⟨_, _, none⟩) hsz).trans hx1⟩
      have GG := Lib.hid gg
      clear hlw hcb hBb hst hc gg hcl
      have hload : ∀ w' : World, Below wr.heap.size wr w' → (loadVar 33 ⟨w.heap.size, 0, none⟩).run Try.prog w' = .ok (.agg #[.int .i64 m, .slice ad zss.length cap]) w' := by
        intro w' h
        obtain ⟨f0, f1⟩ := GG.out w' h
        go_simp
      have HLOAD := Lib.hid hload
      clear hload
      cases Bb
      · rw [if_neg (by decide)] at HST
        go_wp2
        refine wp_region_below (by kernel_rfl) (by kernel_rfl) ?_
        repeat (go_big_quiet_step ((intro hw; first | with_reducible rfl | (obtain ⟨f0, f1⟩ := GG.out _ hw; simp only [f0, f1, Result.andThen]; first | exact ⟨trivial, rfl⟩ | exact ⟨rfl, rfl⟩) | (go_at_call 67; with_reducible refine quietB (HLW.out _ _ ?_ hw) hw; first | exact .inl rfl | exact .inr rfl) | (go_at_call 69; exact quietB (HCB.out _) hw))))
        refine wpQuiet_nil ?_
        intro w3 hw3
        obtain ⟨x0, x1⟩ := GG.out _ hw3
        go_wp2
        go_roundw
        case rel => exact ⟨k + 1, ⟨by omega, by omega⟩, by go_num, by rw [HST.out], bel_trans hbel hw3, x0, x1, Nat.lt_of_lt_of_le hsz hw3.size⟩
        case measure => simp [intOf]; omega
      · rw [if_pos rfl] at HST
        go_wp2
        refine wp_region_below (by kernel_rfl) (by kernel_rfl) ?_
        repeat (go_big_quiet_step ((intro hw; first | with_reducible rfl | (obtain ⟨f0, f1⟩ := GG.out _ hw; simp only [f0, f1, Result.andThen]; first | exact ⟨trivial, rfl⟩ | exact ⟨rfl, rfl⟩) | (go_at_call 67; with_reducible refine quietB (HLW.out _ _ ?_ hw) hw; first | exact .inl rfl | exact .inr rfl) | (go_at_call 69; exact quietB (HCB.out _) hw))))
        refine wpQuiet_nil ?_
        intro w3 hw3
        obtain ⟨x0, x1⟩ := GG.out _ hw3
        go_wp2
        go_roundw
        case rel => exact ⟨k + 1, ⟨by omega, by omega⟩, by go_num, by rw [HST.out], bel_trans hbel hw3, x0, x1, Nat.lt_of_lt_of_le hsz hw3.size⟩
        case measure => simp [intOf]; omega
    · have hke : k = zss.length := by omega
      have hkk : ¬ ((k : Int) < zss.length) := by omega
      have hcs := cen_same HV.out.symm k hk1 hk
      have HKE := Lib.hid hke
      have HCS := Lib.hid hcs
      clear hke hcs
      go_wp2
      go_ret2
      exact ⟨by rw [← HKE.out, HCS.out]; rfl, hbel⟩
end Go.Proofs.Ytjpikbbpmbeckaa
