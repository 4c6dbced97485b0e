/- Matrices in the model: is one valid, its worst measures, its center. -/
import Derived.Test.YtjpikbbpmbeckaaMatV
import Derived.Test.YtjpikbbpmbeckaaSpec
namespace Go.Proofs.Ytjpikbbpmbeckaa
open Go.RowKit Go.BigFrame Go.Deep
set_option linter.unusedVariables false
set_option linter.unusedSimpArgs false

theorem mVal_no {m : Int} {zss : List (List Int)} (hm : mKind m = true) {i k : Nat} (hi : i < zss.length) (hk : k < (zss.getD i []).length) (h : mIn m ((zss.getD i []).getD k 0) = false) : mVal m zss = false := by
  apply Bool.eq_false_iff.2
  intro hv
  have hsq := (mVal_parts hv).1
  have := mVal_in hv hi (k := k) (by rw [← (mSq_parts hsq).2.2 i hi]; exact hk)
  rw [h] at this
  cases this
theorem mVal_mk {m : Int} {zss : List (List Int)} (hm : mKind m = true) (hs : mSq zss = true) (h : ∀ i k, i < zss.length → k < (zss.getD i []).length → mIn m ((zss.getD i []).getD k 0) = true) : mVal m zss = true := by
  unfold mVal mAll
  rw [hs, hm, Bool.true_and, Bool.true_and, List.all_eq_true]
  intro x hx
  rw [List.mem_flatten] at hx
  obtain ⟨r, hr, hx⟩ := hx
  obtain ⟨i, hi, rfl⟩ := List.getElem_of_mem hr
  obtain ⟨k, hk, rfl⟩ := List.getElem_of_mem hx
  have e : zss.getD i [] = zss[i] := by simp [List.getD, hi]
  have := h i k hi (by rw [e]; exact hk)
  rw [e, getD_of hk] at this
  exact this

set_option maxRecDepth 20000 in
set_option maxHeartbeats 2000000 in
theorem sMatrixValid (m : Int) (zss : List (List Int)) (s : Value) (w : World) (hs : Grid w s zss) (hl : zss.length ≤ 281474976710656) (hl2 : ∀ i, i < zss.length → (zss.getD i []).length ≤ 281474976710656) :
    Calls Try.prog 28 #[.agg #[.int .i64 m, s]] w fun e w' => e = .returned (.bool (mVal m zss)) ∧ Below w.heap.size w w' := by
  have hB : ∀ (A : Obj), Below w.heap.size w (w.alloc A) := fun A => (Below.refl _ _).alloc (Nat.le_refl _) _
  obtain ⟨ad, cap, rfl, hz0⟩ := id hs
  have hk := fun w => sKind m w
  have hz := Lib.hid hz0
  obtain ⟨V, hV⟩ : ∃ V, V = mVal m zss := ⟨_, rfl⟩
  obtain ⟨K, hK⟩ : ∃ K, K = mKind m := ⟨_, rfl⟩
  rw [← hK] at hk
  rw [← hV]
  have HB := Lib.hid hB
  have HV := Lib.hid hV
  have HK := Lib.hid hk
  have QK := Lib.hid hK
  have HL2 := Lib.hid hl2
  clear hz0 hs hl2 hB hV hk hK
  cases K
  · have e0 : V = false := by rw [HV.out]; unfold mVal mAll; rw [← QK.out]; simp
    subst e0
    go_enter Try.func28, Try.ntmps28
    go_wp2_with (go_at_call 70; refine (HK.out _).mono ?_; rintro e w2 ⟨rfl, rfl⟩)
    go_ret
    exact ⟨rfl, HB.out _⟩
  by_cases h1 : zss.length < 1
  · have e0 : V = false := by rw [HV.out]; unfold mVal mSq; simp; omega
    subst e0
    have h1' : ((zss.length : Int) < 1) := by omega
    go_enter Try.func28, Try.ntmps28
    go_wp2_with (go_at_call 70; refine (HK.out _).mono ?_; rintro e w2 ⟨rfl, rfl⟩)
    go_ret
    exact ⟨rfl, HB.out _⟩
  by_cases h2 : zss.length > 12
  · have e0 : V = false := by rw [HV.out]; unfold mVal mSq; simp; omega
    subst e0
    have h1' : ¬ ((zss.length : Int) < 1) := by omega
    have h2' : ((zss.length : Int) > 12) := by omega
    go_enter Try.func28, Try.ntmps28
    go_wp2_with (go_at_call 70; refine (HK.out _).mono ?_; rintro e w2 ⟨rfl, rfl⟩)
    go_ret
    exact ⟨rfl, HB.out _⟩
  have h1' : ¬ ((zss.length : Int) < 1) := by omega
  have h2' : ¬ ((zss.length : Int) > 12) := by omega
  rcases hz.out with h0 | ⟨b, off, T, rfl, hb, hc⟩
  · rw [h0] at h1; simp at h1
  have HC := Lib.hid hc
  have hm := QK.out.symm
  have his := fun x w => calls_below (sIs hm x w)
  have HIS := Lib.hid his
  have HM := Lib.hid hm
  clear hc hz hm his
  go_enter Try.func28, Try.ntmps28
  go_wp2_with (go_at_call 70; refine (HK.out _).mono ?_; rintro e w2 ⟨rfl, rfl⟩)
  go_loopw [3] (fun c wr => ∃ i : Nat, i ≤ zss.length ∧ c = .int .i64 i ∧ Hid (∀ j, j < i → (zss.getD j []).length = zss.length ∧ ∀ k, k < (zss.getD j []).length → mIn m ((zss.getD j []).getD k 0) = true) ∧ Below w.heap.size w wr ∧ (wr.cell? ⟨w.heap.size, 0, none⟩ = some (.int .i64 m) ∧ wr.cell? ⟨w.heap.size, 1, none⟩ = some (.slice (some ⟨b, off, none⟩) zss.length cap) ∧ w.heap.size < wr.heap.size)) (fun c _ => zss.length - (intOf c).toNat)
  case atStart => exact ⟨0, Nat.zero_le _, rfl, Lib.hid (fun i hi => absurd hi (Nat.not_lt_zero _)), HB.out _, by go_simp, by go_simp, by simp⟩
  case round =>
    obtain ⟨i, hi, rfl, hall, hbel, hx0, hx1, hsz⟩ := hrel
    by_cases hlt : i < zss.length
    · have hlt' : (i : Int) < zss.length := by omega
      obtain ⟨c0, r0⟩ := HC.out i hlt
      obtain ⟨ta, tc, hT, hzr0⟩ := id r0
      have hl3 := HL2.out i hlt
      obtain ⟨zs, hzs⟩ : ∃ zs, zs = zss.getD i [] := ⟨_, rfl⟩
      rw [← hzs] at hT hzr0 hl3
      rw [hT] at c0
      have HZS := Lib.hid hzs
      have hzr := Lib.hid hzr0
      have ff : ∀ w', Below wr.heap.size wr w' → w'.cell? ⟨b, off + i, none⟩ = some (.slice ta zs.length tc) ∧ w'.cell? ⟨w.heap.size, 0, none⟩ = some (.int .i64 m) ∧ w'.cell? ⟨w.heap.size, 1, none⟩ = some (.slice (some ⟨b, off, none⟩) zss.length cap) := by
        intro w' h
        have hB := bel_trans hbel h
        exact ⟨(hB.cell (p := ⟨b, _, none⟩) hb).trans c0, (h.cell (p := ⟨_, _, none⟩) hsz).trans hx0, (h.cell (p := ⟨_, _, none⟩) hsz).trans hx1⟩
      have FF := Lib.hid ff
      clear c0 r0 hT hzr0 hzs ff
      by_cases hLn : zs.length = zss.length
      rotate_left
      · have d1 : ((zs.length : Int) != zss.length) = true := by simp; omega
        have d2 : ((zs.length : Int) == zss.length) = false := by simp; omega
        have d3 : ¬ ((zs.length : Int) = zss.length) := by omega
        have e0 : V = false := by rw [HV.out]; unfold mVal; rw [mSq_row hlt (by rw [← HZS.out]; exact hLn), Bool.false_and]
        subst e0
        have HLN := Lib.hid hLn
        clear hLn
        go_wp2
        refine wp_region_below (by kernel_rfl) (by kernel_rfl) ?_
        repeat (go_big_quiet_step ((intro hw; first | with_reducible rfl | (obtain ⟨f0, x0, x1⟩ := FF.out _ hw; simp only [f0, x0, x1, Result.andThen]; first | exact ⟨trivial, rfl⟩ | exact ⟨rfl, rfl⟩))))
        refine wpQuiet_nil ?_
        intro w2 hw2
        go_wp2
        go_ret
        exact ⟨rfl, bel_trans hbel hw2⟩
      have d1 : ((zs.length : Int) != zss.length) = false := by simp; omega
      have d2 : ((zs.length : Int) == zss.length) = true := by simp; omega
      have d3 : ((zs.length : Int) = zss.length) := by omega
      have HLN := Lib.hid hLn
      have HD3 := Lib.hid d3
      have hzl : zs.length ≤ 12 := by omega
      clear hLn d3
      go_wp2
      refine wp_region_below (by kernel_rfl) (by kernel_rfl) ?_
      repeat (go_big_quiet_step ((intro hw; first | with_reducible rfl | (obtain ⟨f0, x0, x1⟩ := FF.out _ hw; simp only [f0, x0, x1, Result.andThen]; first | exact ⟨trivial, rfl⟩ | exact ⟨rfl, rfl⟩))))
      refine wpQuiet_nil ?_
      intro w2 hw2
      obtain ⟨f0, x0, x1⟩ := FF.out _ hw2
      have hbel2 := bel_trans hbel hw2
      have hsz2 : w.heap.size < w2.heap.size := Nat.lt_of_lt_of_le hsz hw2.size
      have hb2 : b < w2.heap.size := Nat.lt_of_lt_of_le hb hbel2.size
      clear hx0 hx1
      go_wp2
      go_loopw [4] (fun c ws => ∃ k : Nat, k ≤ zs.length ∧ c = .int .i64 k ∧ Hid (∀ j, j < k → mIn m (zs.getD j 0) = true) ∧ Below w2.heap.size w2 ws) (fun c _ => zs.length - (intOf c).toNat)
      case atStart => exact ⟨0, Nat.zero_le _, rfl, Lib.hid (fun i hi => absurd hi (Nat.not_lt_zero _)), Below.refl _ _⟩
      case round =>
        obtain ⟨k, hk, rfl, hin, hbs⟩ := hrel
        have hbw := bel_trans hw2 hbs
        obtain ⟨y2, y0, y1⟩ := FF.out _ hbw
        have hszs : w.heap.size < wr.heap.size := Nat.lt_of_lt_of_le hsz2 hbs.size
        by_cases hkl : k < zs.length
        · have hkl' : (k : Int) < zs.length := by omega
          rcases hzr.out with h0 | ⟨tb, to, rfl, htb, htc⟩
          · rw [h0] at hkl; simp at hkl
          obtain ⟨x, hx⟩ : ∃ x, x = zs.getD k 0 := ⟨_, rfl⟩
          have t0 := htc k hkl
          rw [← hx] at t0
          have HX := Lib.hid hx
          have gg : ∀ w', Below wr.heap.size wr w' → w'.cell? ⟨tb, to + k, none⟩ = some (.int .i64 x) ∧ w'.cell? ⟨b, off + i, none⟩ = some (.slice (some ⟨tb, to, none⟩) zs.length tc) ∧ w'.cell? ⟨w.heap.size, 0, none⟩ = some (.int .i64 m) ∧ w'.cell? ⟨w.heap.size, 1, none⟩ = some (.slice (some ⟨b, off, none⟩) zss.length cap) := by
            intro w' h
            have h2 := bel_trans hbw h
            exact ⟨((bel_trans hbel h2).cell (p := ⟨tb, _, none⟩) htb).trans t0, FF.out _ h2⟩
          have GG := Lib.hid gg
          have hcon := fun w => HIS.out x w
          clear htc t0 hx gg
          obtain ⟨I, hI⟩ : ∃ I, I = mIn m x := ⟨_, rfl⟩
          rw [← hI] at hcon
          have HCO := Lib.hid hcon
          have HI := Lib.hid hI
          clear hcon hI
          cases I
          · have e0 : V = false := by rw [HV.out]; exact mVal_no HM.out hlt (k := k) (by rw [← HZS.out]; exact hkl) (by rw [← HZS.out, ← HX.out]; exact HI.out.symm)
            subst e0
            go_wp2
            refine wp_region_below (by kernel_rfl) (by kernel_rfl) ?_
            repeat (go_big_quiet_step ((intro hw; first | with_reducible rfl | (obtain ⟨f0, f1, x0, x1⟩ := GG.out _ hw; simp only [f0, f1, x0, x1, Result.andThen]; first | exact ⟨trivial, rfl⟩ | exact ⟨rfl, rfl⟩) | (go_at_call 71; exact quietB (HCO.out _) hw))))
            refine wpQuiet_nil ?_
            intro w3 hw3
            go_wp2
            go_ret
            exact ⟨rfl, bel_trans (bel_trans hbel hbw) hw3⟩
          · go_wp2
            refine wp_region_below (by kernel_rfl) (by kernel_rfl) ?_
            repeat (go_big_quiet_step ((intro hw; first | with_reducible rfl | (obtain ⟨f0, f1, x0, x1⟩ := GG.out _ hw; simp only [f0, f1, x0, x1, Result.andThen]; first | exact ⟨trivial, rfl⟩ | exact ⟨rfl, rfl⟩) | (go_at_call 71; exact quietB (HCO.out _) hw))))
            refine wpQuiet_nil ?_
            intro w3 hw3
            go_wp2
            go_roundw
            case rel => exact ⟨k + 1, by omega, by go_num, Lib.hid (fun j hj => by
              by_cases e : j = k
              · subst e; rw [← HX.out]; exact HI.out.symm
              · exact hin.out j (by omega)), bel_trans hbs hw3⟩
            case measure => simp [intOf]; omega
        · have hke : k = zs.length := by omega
          have hkk : ¬ ((k : Int) < zs.length) := by omega
          have HKE := Lib.hid hke
          clear hke
          go_wp2
          go_roundw
          case rel => exact ⟨i + 1, by omega, by go_num, Lib.hid (fun j hj => by
            by_cases e : j = i
            · subst e; rw [← HZS.out]; exact ⟨HLN.out, fun k' hk' => hin.out k' (by rw [HKE.out]; exact hk')⟩
            · exact hall.out j (by omega)), bel_trans hbel hbw, y0, y1, hszs⟩
          case measure => simp [intOf]; omega
    · have hke : i = zss.length := by omega
      have hkk : ¬ ((i : Int) < zss.length) := by omega
      have e0 : V = true := by
        rw [HV.out]
        exact mVal_mk HM.out (mSq_mk (by omega) (by omega) (fun j hj => (hall.out j (by omega)).1)) (fun j k hj hk => (hall.out j (by omega)).2 k hk)
      subst e0
      have HKE := Lib.hid hke
      clear hke
      go_wp2
      go_ret
      exact ⟨rfl, hbel⟩
end Go.Proofs.Ytjpikbbpmbeckaa
