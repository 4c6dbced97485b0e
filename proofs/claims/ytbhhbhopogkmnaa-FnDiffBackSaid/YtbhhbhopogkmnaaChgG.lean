/- DiffGraphs, NetChanges and UndoChanges, in the model. -/
import Derived.Test.YtbhhbhopogkmnaaChgF
import Derived.Test.YtbhhbhopogkmnaaChgM
namespace Go.Proofs.Ytbhhbhopogkmnaa
open Go.RowKit Go.BigFrame Go.Deep
set_option linter.unusedVariables false
set_option linter.unusedSimpArgs false

theorem lfE_neg {n : Int} {es : List Ed} (hg : gVal n es = true) (d : Ed) : decide (lfE es d.1 d.2.1 < 0) = !(hasE es d) := by
  rw [hasE_find hg, lfE_val hg]
  cases fdE es d.1 d.2.1
  · rfl
  · simp
theorem isE_lfE {n : Int} {es : List Ed} (hg : gVal n es = true) (e : Ed) : (lfE es e.1 e.2.1 < 0 ∧ isE es e = false) ∨ (∃ k, k < es.length ∧ lfE es e.1 e.2.1 = (k : Int) ∧ isE es e = decide ((es.getD k (0, 0, 0)).2.2 = e.2.2)) := by
  rw [lfE_val hg, isE_find hg]
  cases hf : fdE es e.1 e.2.1
  · left; simp
  · right
    refine ⟨lbE es e.1 e.2.1, ?_, by simp, by simp⟩
    unfold fdE at hf
    rw [Bool.and_eq_true, decide_eq_true_eq] at hf
    exact hf.1

set_option maxRecDepth 20000 in
set_option maxHeartbeats 8000000 in
theorem l9Diff (n : Int) (xs ys : List Ed) (s t : Value) (w : World) (hs : RowE w s xs) (ht : RowE w t ys) (ha : gVal n xs = true) (hb : gVal n ys = true) :
    Calls Try.prog 51 #[.agg #[.int .i64 n, s], .agg #[.int .i64 n, t]] w fun e w' => ∃ v, e = .returned v ∧ OwnCh w w' v (dfL xs ys) ∧ okS v ∧ Below w.heap.size w w' := by
  have hxl := (gVal_iff.1 ha).1.2.2
  have hyl := (gVal_iff.1 hb).1.2.2
  have hfx := fun x y w' (h : Below w.heap.size w w') => l2Find n xs x y s w' (hs.keep h) (by omega)
  have hfy := fun x y w' (h : Below w.heap.size w w') => l2Find n ys x y t w' (ht.keep h) (by omega)
  obtain ⟨ad, cap, rfl, hz0⟩ := hs
  obtain ⟨ad2, cap2, rfl, hy0⟩ := ht
  have HZ := Lib.hid hz0
  have HY := Lib.hid hy0
  have HFX := Lib.hid hfx
  have HFY := Lib.hid hfy
  have HVA := Lib.hid ha
  have HVB := Lib.hid hb
  have hb3 : Below w.heap.size w (((w.alloc (.cells #[.int .i64 n, .slice ad xs.length cap] 34)).alloc (.cells #[.int .i64 n, .slice ad2 ys.length cap2] 34)).alloc (.cells #[] 51)) := (((Below.refl _ _).alloc (Nat.le_refl _) _).alloc (by simp) _).alloc (by simp <;> omega) _
  have hx0 : Box (((w.alloc (.cells #[.int .i64 n, .slice ad xs.length cap] 34)).alloc (.cells #[.int .i64 n, .slice ad2 ys.length cap2] 34)).alloc (.cells #[] 51)) w.heap.size 34 #[.int .i64 n, .slice ad xs.length cap] := ((Box.new w _ _).alloc _).alloc _
  have hx1 : Box (((w.alloc (.cells #[.int .i64 n, .slice ad xs.length cap] 34)).alloc (.cells #[.int .i64 n, .slice ad2 ys.length cap2] 34)).alloc (.cells #[] 51)) (w.heap.size + 1) 34 #[.int .i64 n, .slice ad2 ys.length cap2] := by
    have := (Box.new (w.alloc (.cells #[.int .i64 n, .slice ad xs.length cap] 34)) 34 #[.int .i64 n, .slice ad2 ys.length cap2]).alloc (.cells #[] 51)
    simpa using this
  have HX3 := Lib.hid (And.intro hb3 (And.intro hx0 hx1))
  obtain ⟨i0, hi, hz0', hz1, hz2⟩ := info_parts info_change
  have HI : Hid (Try.prog.info? 51 = some i0 ∧ i0.zero = some (.agg #[.bool false, .int .i64 0, .int .i64 0, .int .i64 0]) ∧ i0.size = 4 ∧ i0.bytes = 32) := Lib.hid ⟨hi, hz0', hz1, hz2⟩
  clear hz0 hy0 hfx hfy ha hb hb3 hx0 hx1 hi hz0' hz1 hz2
  go_enter Try.func51, Try.ntmps51
  go_wp2
  go_loopw [6, 5] (fun c v wr => ∃ k : Nat, k ≤ xs.length ∧ c = .int .i64 k ∧ wr.ownsRow (w.heap.size + 2) 51 4 v (mC xs ys k).length (cellsCh (mC xs ys k)) ∧ Hid (Below w.heap.size w wr ∧ Box wr w.heap.size 34 #[.int .i64 n, .slice ad xs.length cap] ∧ Box wr (w.heap.size + 1) 34 #[.int .i64 n, .slice ad2 ys.length cap2])) (fun c _ _ => xs.length - (intOf c).toNat)
  case atStart => exact ⟨0, Nat.zero_le _, rfl, by have := own_empty3 ((w.alloc (Obj.cells #[.int .i64 n, .slice ad xs.length cap] 34)).alloc (.cells #[.int .i64 n, .slice ad2 ys.length cap2] 34)) 51 4 (w.heap.size + 2) (by simp); simpa [mC_zero, cellsCh_nil] using this, HX3⟩
  case round =>
    obtain ⟨k, hk, rfl, hown, HX⟩ := hrel
    have x0 : wr.cell? ⟨w.heap.size, 0, none⟩ = some (.int .i64 n) := by simpa using HX.out.2.1.cell 0
    have x1 : wr.cell? ⟨w.heap.size, 1, none⟩ = some (.slice ad xs.length cap) := by simpa using HX.out.2.1.cell 1
    have y0 : wr.cell? ⟨w.heap.size + 1, 0, none⟩ = some (.int .i64 n) := by simpa using HX.out.2.2.cell 0
    have y1 : wr.cell? ⟨w.heap.size + 1, 1, none⟩ = some (.slice ad2 ys.length cap2) := by simpa using HX.out.2.2.cell 1
    have hla := HX.out.2.1.lt
    have hlb := HX.out.2.2.lt
    have HOW := Lib.hid hown
    by_cases hlt : k < xs.length
    · have hlt' : (k : Int) < xs.length := by omega
      rcases HZ.out with h0' | ⟨b, off, rfl, hbb, hc⟩
      · rw [h0'] at hlt; simp at hlt
      obtain ⟨x, y, z, hx⟩ : ∃ x y z, (x, y, z) = xs.getD k (0, 0, 0) := ⟨_, _, _, rfl⟩
      have h1 := hc k hlt
      rw [← hx] at h1
      simp only at h1
      have hst := mC_succ (ys := ys) hlt
      rw [← hx] at hst
      have hne := lfE_neg HVB.out (x, y, z)
      simp only at hne
      have hfi := HFY.out x y
      generalize lfE ys x y = q at hfi hne
      have HFI := Lib.hid hfi
      have ff : ∀ w', Below wr.heap.size wr w' → w'.cell? ⟨w.heap.size, 1, none⟩ = some (.slice (some ⟨b, off, none⟩) xs.length cap) ∧ w'.cell? ⟨w.heap.size + 1, 0, none⟩ = some (.int .i64 n) ∧ w'.cell? ⟨w.heap.size + 1, 1, none⟩ = some (.slice ad2 ys.length cap2) ∧ w'.cell? ⟨b, off + k * 3, none⟩ = some (.int .i64 x) ∧ w'.cell? ⟨b, off + k * 3 + 1, none⟩ = some (.int .i64 y) ∧ w'.cell? ⟨b, off + k * 3 + 2, none⟩ = some (.int .i64 z) ∧ True := fun w' h =>
        ⟨(h.cell (p := ⟨_, _, none⟩) hla).trans x1, (h.cell (p := ⟨_, _, none⟩) hlb).trans y0, (h.cell (p := ⟨_, _, none⟩) hlb).trans y1, ((bel_trans HX.out.1 h).cell (p := ⟨b, _, none⟩) hbb).trans h1.1, ((bel_trans HX.out.1 h).cell (p := ⟨b, _, none⟩) hbb).trans h1.2.1, ((bel_trans HX.out.1 h).cell (p := ⟨b, _, none⟩) hbb).trans h1.2.2, trivial⟩
      have FF := Lib.hid ff
      have hln : (mC xs ys k).length ≤ 40 := Nat.le_trans (dfC_len _ _) (by simp; omega)
      clear hc h1 hx hfi ff hown
      by_cases hq : q < 0
      · rw [decide_eq_true hq] at hne
        have hhe : hasE ys (x, y, z) = false := by simpa using hne.symm
        rw [hhe, if_neg (by decide)] at hst
        have HT := Lib.hid hst
        clear hst hne hhe
        go_wp2
        clear x0 x1 y0 y1
        refine wp_region_below (by kernel_rfl) (by kernel_rfl) ?_
        repeat (go_big_quiet_step ((intro hw; first | with_reducible rfl | (obtain ⟨f0, f1, f2, f3, f4, f5, f6⟩ := FF.out _ hw; simp only [f0, f1, f2, f3, f4, f5, f6, Result.andThen]; first | exact ⟨trivial, rfl⟩ | exact ⟨rfl, rfl⟩) | (go_at_call 74; with_reducible exact quietB (HFI.out _ (bel_trans HX.out.1 hw)) hw))))
        refine wpQuiet_nil ?_
        intro w2 hw2
        have HX2 := Lib.hid (And.intro (bel_trans HX.out.1 hw2) (And.intro (HX.out.2.1.keep hw2) (HX.out.2.2.keep hw2)))
        have HOW2 := Lib.hid (own_keep3 HOW.out hw2)
        obtain ⟨f0, -, -, f3, f4, f5, -⟩ := FF.out _ hw2
        have hl2 := HX2.out.2.1.lt
        have hbb2 : b < w2.heap.size := Nat.lt_of_lt_of_le hbb HX2.out.1.size
        have hs2 : w.heap.size + 2 ≤ w2.heap.size := HX2.out.2.2.lt
        clear hw2
        obtain ⟨hi, hz0, hz1, hz2⟩ := HI.out
        go_wp2
        go_region_law (first | (refine step_append_lies _ rfl (.tmp 32) (.tmp 47) 35 rfl (w.heap.size + 2) 51 i0 (.agg #[.bool false, .int .i64 0, .int .i64 0, .int .i64 0]) 4 32 Try.underlying35 hi hz0 hz1 hz2 rfl (by decide) _ _ _ rfl (own_drew (HOW2.out.alloc _)) ⟨w2.heap.size, 0, none⟩ 1 1 [.bool true, .int .i64 x, .int .i64 y, .int .i64 0] rfl rfl (cells_new4 _ _ _ _ _ _) (by simp [Value.oneCell']) (by decide) (by unfold maxLen; omega) (by omega) (by simp; omega) (w2.heap.size + 1) (by simp) ?_; intro g cap6 w6 hown6 hgrow6 hat6 hlt6; have H6 : Hid (w6.ownsRow (w.heap.size + 2) 51 4 (.slice (some ⟨g, 0, none⟩) ((mC xs ys k).length + 1) cap6) ((mC xs ys k).length + 1) (cellsCh (mC xs ys k) ++ [.bool true, .int .i64 x, .int .i64 y, .int .i64 0]) ∧ World.grownBy ((w2.alloc (.cells #[.bool true, .int .i64 x, .int .i64 y, .int .i64 0] 51)).drew) w6 u5.ownBlock) := Lib.hid ⟨hown6, hgrow6⟩; clear hown6 hgrow6 hat6))
        all_goals
          have H7 : Hid (w6.ownsRow (w.heap.size + 2) 51 4 (.slice (some ⟨g, 0, none⟩) ((mC xs ys k).length + 1) cap6) (mC xs ys (k + 1)).length (cellsCh (mC xs ys (k + 1)))) := Lib.hid (by rw [HT.out, List.length_append, cellsCh_app]; show w6.ownsRow _ _ _ _ ((mC xs ys k).length + 1) (cellsCh (mC xs ys k) ++ cellsCh [(true, x, y, 0)]); rw [cellsCh_one1]; exact H6.out.1)
          have H8 := Lib.hid (And.intro (((HX2.out.1.alloc HX2.out.1.size _).drew).grown H6.out.2 (by have := HX2.out.1.size; simp; omega) (fun q hq => by have := (HOW2.out.lt q hq).1; omega)) (And.intro (Box.grown (w := (w2.alloc (.cells #[.bool true, .int .i64 x, .int .i64 y, .int .i64 0] 51)).drew) (HX2.out.2.1.alloc (.cells #[.bool true, .int .i64 x, .int .i64 y, .int .i64 0] 51)) H6.out.2 (own_drew (HOW2.out.alloc (.cells #[.bool true, .int .i64 x, .int .i64 y, .int .i64 0] 51))) (by decide)) (Box.grown (w := (w2.alloc (.cells #[.bool true, .int .i64 x, .int .i64 y, .int .i64 0] 51)).drew) (HX2.out.2.2.alloc (.cells #[.bool true, .int .i64 x, .int .i64 y, .int .i64 0] 51)) H6.out.2 (own_drew (HOW2.out.alloc (.cells #[.bool true, .int .i64 x, .int .i64 y, .int .i64 0] 51))) (by decide))))
          clear H6
          go_wp2
        all_goals exact ⟨⟨k + 1, by omega, by go_num, H7.out, H8⟩, by simp [intOf]; omega⟩
      · rw [decide_eq_false hq] at hne
        have hhe : hasE ys (x, y, z) = true := by simpa using hne.symm
        rw [hhe, if_pos rfl, List.append_nil] at hst
        have HT := Lib.hid hst
        clear hst hne hhe
        go_wp2
        clear x0 x1 y0 y1
        refine wp_region_below (by kernel_rfl) (by kernel_rfl) ?_
        repeat (go_big_quiet_step ((intro hw; first | with_reducible rfl | (obtain ⟨f0, f1, f2, f3, f4, f5, f6⟩ := FF.out _ hw; simp only [f0, f1, f2, f3, f4, f5, f6, Result.andThen]; first | exact ⟨trivial, rfl⟩ | exact ⟨rfl, rfl⟩) | (go_at_call 74; with_reducible exact quietB (HFI.out _ (bel_trans HX.out.1 hw)) hw))))
        refine wpQuiet_nil ?_
        intro w2 hw2
        have HX2 := Lib.hid (And.intro (bel_trans HX.out.1 hw2) (And.intro (HX.out.2.1.keep hw2) (HX.out.2.2.keep hw2)))
        have HOW2 := Lib.hid (own_keep3 HOW.out hw2)
        clear hw2
        go_wp2
        go_roundw
        case rel => first | exact ⟨k + 1, by omega, by go_num, by rw [HT.out]; exact HOW2.out, HX2⟩ | exact ⟨_, ⟨k + 1, by omega, by go_num, by rw [HT.out]; exact HOW2.out, HX2⟩, rfl⟩ | ((repeat apply Exists.intro); exact ⟨⟨k + 1, by omega, by go_num, by rw [HT.out]; exact HOW2.out, HX2⟩, rfl⟩)
        case measure => simp [intOf]; omega
    · have hke : k = xs.length := by omega
      have hkk : ¬ ((k : Int) < xs.length) := by omega
      have hall : mC xs ys k = dfC xs ys := mC_all (by omega)
      rw [hall] at HOW
      clear hke hall hown
      go_wp2
      clear x0 x1 y0 y1
      go_loopw [7, 5] (fun c v ws => ∃ j : Nat, j ≤ ys.length ∧ c = .int .i64 j ∧ ws.ownsRow (w.heap.size + 2) 51 4 v (dfC xs ys ++ mP xs ys j).length (cellsCh (dfC xs ys ++ mP xs ys j)) ∧ Hid (Below w.heap.size w ws ∧ Box ws w.heap.size 34 #[.int .i64 n, .slice ad xs.length cap] ∧ Box ws (w.heap.size + 1) 34 #[.int .i64 n, .slice ad2 ys.length cap2])) (fun c _ _ => ys.length - (intOf c).toNat)
      case atStart => exact ⟨0, Nat.zero_le _, rfl, by rw [mP_zero, List.append_nil]; exact HOW.out, HX⟩
      case round =>
        clear HX HOW
        obtain ⟨j, hj, rfl, hown, HX⟩ := hrel
        have x0 : wr.cell? ⟨w.heap.size, 0, none⟩ = some (.int .i64 n) := by simpa using HX.out.2.1.cell 0
        have x1 : wr.cell? ⟨w.heap.size, 1, none⟩ = some (.slice ad xs.length cap) := by simpa using HX.out.2.1.cell 1
        have y0 : wr.cell? ⟨w.heap.size + 1, 0, none⟩ = some (.int .i64 n) := by simpa using HX.out.2.2.cell 0
        have y1 : wr.cell? ⟨w.heap.size + 1, 1, none⟩ = some (.slice ad2 ys.length cap2) := by simpa using HX.out.2.2.cell 1
        have hla := HX.out.2.1.lt
        have hlb := HX.out.2.2.lt
        have HOW := Lib.hid hown
        clear hown
        by_cases hlt : j < ys.length
        · have hlt' : (j : Int) < ys.length := by omega
          rcases HY.out with h0' | ⟨b2, off2, rfl, hbb, hc⟩
          · rw [h0'] at hlt; simp at hlt
          obtain ⟨x, y, z, hx⟩ : ∃ x y z, (x, y, z) = ys.getD j (0, 0, 0) := ⟨_, _, _, rfl⟩
          have h1 := hc j hlt
          rw [← hx] at h1
          simp only at h1
          have hst0 := mP_succ (xs := xs) hlt
          rw [← hx] at hst0
          have hln : (dfC xs ys ++ mP xs ys j).length ≤ 80 := by
            rw [List.length_append]
            have h1 := dfC_len xs ys
            have h2 : (mP xs ys j).length ≤ 40 := Nat.le_trans (dfP_len _ _) (by simp; omega)
            omega
          generalize hL : dfC xs ys ++ mP xs ys j = L at HOW hln
          have hst : dfC xs ys ++ mP xs ys (j + 1) = L ++ (if isE xs (x, y, z) = true then [] else [putC (x, y, z)]) := by rw [hst0, ← hL, List.append_assoc]
          have hcase := isE_lfE HVA.out (x, y, z)
          simp only at hcase
          have hfi := HFX.out x y
          generalize lfE xs x y = q at hfi hcase
          have HFI := Lib.hid hfi
          have ff : ∀ w', Below wr.heap.size wr w' → w'.cell? ⟨w.heap.size, 0, none⟩ = some (.int .i64 n) ∧ w'.cell? ⟨w.heap.size, 1, none⟩ = some (.slice ad xs.length cap) ∧ w'.cell? ⟨w.heap.size + 1, 1, none⟩ = some (.slice (some ⟨b2, off2, none⟩) ys.length cap2) ∧ w'.cell? ⟨b2, off2 + j * 3, none⟩ = some (.int .i64 x) ∧ w'.cell? ⟨b2, off2 + j * 3 + 1, none⟩ = some (.int .i64 y) ∧ w'.cell? ⟨b2, off2 + j * 3 + 2, none⟩ = some (.int .i64 z) ∧ True := fun w' h =>
            ⟨(h.cell (p := ⟨_, _, none⟩) hla).trans x0, (h.cell (p := ⟨_, _, none⟩) hla).trans x1, (h.cell (p := ⟨_, _, none⟩) hlb).trans y1, ((bel_trans HX.out.1 h).cell (p := ⟨b2, _, none⟩) hbb).trans h1.1, ((bel_trans HX.out.1 h).cell (p := ⟨b2, _, none⟩) hbb).trans h1.2.1, ((bel_trans HX.out.1 h).cell (p := ⟨b2, _, none⟩) hbb).trans h1.2.2, trivial⟩
          have FF := Lib.hid ff
          clear hc h1 hx hfi ff hst0 hL
          rcases hcase with ⟨hq, hie⟩ | ⟨k2, hk2, hq, hie⟩
          · rw [hie, if_neg (by decide)] at hst
            have HT := Lib.hid hst
            clear hst hie
            go_wp2
            clear x0 x1 y0 y1
            refine wp_region_below (by kernel_rfl) (by kernel_rfl) ?_
            repeat (go_big_quiet_step ((intro hw; first | with_reducible rfl | (obtain ⟨f0, f1, f2, f3, f4, f5, f6⟩ := FF.out _ hw; simp only [f0, f1, f2, f3, f4, f5, f6, Result.andThen]; first | exact ⟨trivial, rfl⟩ | exact ⟨rfl, rfl⟩) | (go_at_call 74; with_reducible exact quietB (HFI.out _ (bel_trans HX.out.1 hw)) hw))))
            refine wpQuiet_nil ?_
            intro w2 hw2
            have HX2 := Lib.hid (And.intro (bel_trans HX.out.1 hw2) (And.intro (HX.out.2.1.keep hw2) (HX.out.2.2.keep hw2)))
            have HOW2 := Lib.hid (own_keep3 HOW.out hw2)
            go_wp2
            refine wp_region_below (by kernel_rfl) (by kernel_rfl) ?_
            repeat (go_big_quiet_step ((intro hw; first | with_reducible rfl | (obtain ⟨f0, f1, f2, f3, f4, f5, f6⟩ := FF.out _ (bel_trans hw2 hw); simp only [f0, f1, f2, f3, f4, f5, f6, Result.andThen]; first | exact ⟨trivial, rfl⟩ | exact ⟨rfl, rfl⟩))))
            refine wpQuiet_nil ?_
            intro w3 hw3
            have HX3 := Lib.hid (And.intro (bel_trans HX2.out.1 hw3) (And.intro (HX2.out.2.1.keep hw3) (HX2.out.2.2.keep hw3)))
            have HOW3 := Lib.hid (own_keep3 HOW2.out hw3)
            obtain ⟨-, f1, -, f3, f4, f5, -⟩ := FF.out _ (bel_trans hw2 hw3)
            have y1 : w3.cell? ⟨w.heap.size + 1, 1, none⟩ = some (.slice (some ⟨b2, off2, none⟩) ys.length cap2) := by simpa using HX3.out.2.2.cell 1
            have hl3 := HX3.out.2.2.lt
            have hbb3 : b2 < w3.heap.size := Nat.lt_of_lt_of_le hbb HX3.out.1.size
            clear hw2 hw3
            obtain ⟨hi, hz0, hz1, hz2⟩ := HI.out
            go_wp2_with (at_builtin; refine wpList_append_lies _ rfl (.tmp 87) (.tmp 94) 35 rfl (w.heap.size + 2) 51 i0 (.agg #[.bool false, .int .i64 0, .int .i64 0, .int .i64 0]) 4 32 Try.underlying35 hi hz0 hz1 hz2 rfl (by decide) _ _ _ rfl (HOW3.out.alloc _) ⟨w3.heap.size, 0, none⟩ 1 1 [.bool false, .int .i64 x, .int .i64 y, .int .i64 z] rfl rfl (cells_new4' _ _ _ _ _ _) (by simp [Value.oneCell']) (by decide) (by unfold maxLen; omega) (by omega) (by simp; omega) (w3.heap.size + 1) (by simp) ?_; intro g cap6 w6 hown6 hgrow6 hat6 hlt6; have H6 : Hid (w6.ownsRow (w.heap.size + 2) 51 4 (.slice (some ⟨g, 0, none⟩) (L.length + 1) cap6) (L.length + 1) (cellsCh L ++ [.bool false, .int .i64 x, .int .i64 y, .int .i64 z]) ∧ World.grownBy (w3.alloc (.cells #[.bool false, .int .i64 x, .int .i64 y, .int .i64 z] 51)) w6 u5.ownBlock) := Lib.hid ⟨hown6, hgrow6⟩; clear hown6 hgrow6 hat6)
            have H7 : Hid (w6.ownsRow (w.heap.size + 2) 51 4 (.slice (some ⟨g, 0, none⟩) (L.length + 1) cap6) (dfC xs ys ++ mP xs ys (j + 1)).length (cellsCh (dfC xs ys ++ mP xs ys (j + 1)))) := Lib.hid (by have h := H6.out.1; rw [← cellsCh_one1 false x y z] at h; rw [HT.out, List.length_append, cellsCh_app]; exact h)
            have H8 := Lib.hid (And.intro ((HX3.out.1.alloc HX3.out.1.size _).grown H6.out.2 (by have := HX3.out.1.size; simp; omega) (fun q hq => by have := (HOW3.out.lt q hq).1; omega)) (And.intro (Box.grown (w := w3.alloc (.cells #[.bool false, .int .i64 x, .int .i64 y, .int .i64 z] 51)) (HX3.out.2.1.alloc (.cells #[.bool false, .int .i64 x, .int .i64 y, .int .i64 z] 51)) H6.out.2 (HOW3.out.alloc (.cells #[.bool false, .int .i64 x, .int .i64 y, .int .i64 z] 51)) (by decide)) (Box.grown (w := w3.alloc (.cells #[.bool false, .int .i64 x, .int .i64 y, .int .i64 z] 51)) (HX3.out.2.2.alloc (.cells #[.bool false, .int .i64 x, .int .i64 y, .int .i64 z] 51)) H6.out.2 (HOW3.out.alloc (.cells #[.bool false, .int .i64 x, .int .i64 y, .int .i64 z] 51)) (by decide))))
            clear H6
            go_wp2
            go_roundw
            case rel => first | exact ⟨j + 1, by omega, by go_num, H7.out, H8⟩ | exact ⟨_, ⟨j + 1, by omega, by go_num, H7.out, H8⟩, rfl⟩ | ((repeat apply Exists.intro); exact ⟨⟨j + 1, by omega, by go_num, H7.out, H8⟩, rfl⟩)
            case measure => simp [intOf]; omega
          · have hq4 : q < xs.length := by omega
            have hq2 : ¬ (q < 0) := by omega
            have hq3 : 0 ≤ q := by omega
            have hqd : decide (q < 0) = false := decide_eq_false hq2
            have hqt : k2 = q.toNat := by omega
            subst hqt
            rcases HZ.out with h0' | ⟨b, off, rfl, hba, hca⟩
            · rw [h0'] at hk2; simp at hk2
            obtain ⟨z2, hz2'⟩ : ∃ z2, z2 = (xs.getD q.toNat (0, 0, 0)).2.2 := ⟨_, rfl⟩
            have hcz := (hca q.toNat hk2).2.2
            rw [← hz2'] at hcz hie
            have fz : ∀ w', Below wr.heap.size wr w' → w'.cell? ⟨b, off + q.toNat * 3 + 2, none⟩ = some (.int .i64 z2) := fun w' h => ((bel_trans HX.out.1 h).cell (p := ⟨b, _, none⟩) hba).trans hcz
            have FZ := Lib.hid fz
            clear hca hcz fz hz2' hq hk2
            rw [hie] at hst
            by_cases hzz : z2 = z
            · rw [decide_eq_true hzz, if_pos rfl, List.append_nil] at hst
              have HT := Lib.hid hst
              have zb : (z2 == z) = true := by simpa using hzz
              have zn : (z2 != z) = false := by simpa using hzz
              clear hst hie
              go_wp2
              clear x0 x1 y0 y1
              refine wp_region_below (by kernel_rfl) (by kernel_rfl) ?_
              repeat (go_big_quiet_step ((intro hw; first | with_reducible rfl | (obtain ⟨f0, f1, f2, f3, f4, f5, f6⟩ := FF.out _ hw; simp only [f0, f1, f2, f3, f4, f5, f6, Result.andThen]; first | exact ⟨trivial, rfl⟩ | exact ⟨rfl, rfl⟩) | (go_at_call 74; with_reducible exact quietB (HFI.out _ (bel_trans HX.out.1 hw)) hw))))
              refine wpQuiet_nil ?_
              intro w2 hw2
              have HX2 := Lib.hid (And.intro (bel_trans HX.out.1 hw2) (And.intro (HX.out.2.1.keep hw2) (HX.out.2.2.keep hw2)))
              have HOW2 := Lib.hid (own_keep3 HOW.out hw2)
              go_wp2
              refine wp_region_below (by kernel_rfl) (by kernel_rfl) ?_
              repeat (go_big_quiet_step ((intro hw; first | with_reducible rfl | (obtain ⟨f0, f1, f2, f3, f4, f5, f6⟩ := FF.out _ (bel_trans hw2 hw); have f7 := FZ.out _ (bel_trans hw2 hw); simp only [f0, f1, f2, f3, f4, f5, f6, f7, Result.andThen]; first | exact ⟨trivial, rfl⟩ | exact ⟨rfl, rfl⟩))))
              refine wpQuiet_nil ?_
              intro w3 hw3
              have HX3 := Lib.hid (And.intro (bel_trans HX2.out.1 hw3) (And.intro (HX2.out.2.1.keep hw3) (HX2.out.2.2.keep hw3)))
              have HOW3 := Lib.hid (own_keep3 HOW2.out hw3)
              clear hw2 hw3
              go_wp2
              go_roundw
              case rel => first | exact ⟨j + 1, by omega, by go_num, by rw [HT.out]; exact HOW3.out, HX3⟩ | exact ⟨_, ⟨j + 1, by omega, by go_num, by rw [HT.out]; exact HOW3.out, HX3⟩, rfl⟩ | ((repeat apply Exists.intro); exact ⟨⟨j + 1, by omega, by go_num, by rw [HT.out]; exact HOW3.out, HX3⟩, rfl⟩)
              case measure => simp [intOf]; omega
            · rw [decide_eq_false hzz, if_neg (by decide)] at hst
              have HT := Lib.hid hst
              have zb : (z2 == z) = false := by simpa using hzz
              have zn : (z2 != z) = true := by simpa using hzz
              clear hst hie
              go_wp2
              clear x0 x1 y0 y1
              refine wp_region_below (by kernel_rfl) (by kernel_rfl) ?_
              repeat (go_big_quiet_step ((intro hw; first | with_reducible rfl | (obtain ⟨f0, f1, f2, f3, f4, f5, f6⟩ := FF.out _ hw; simp only [f0, f1, f2, f3, f4, f5, f6, Result.andThen]; first | exact ⟨trivial, rfl⟩ | exact ⟨rfl, rfl⟩) | (go_at_call 74; with_reducible exact quietB (HFI.out _ (bel_trans HX.out.1 hw)) hw))))
              refine wpQuiet_nil ?_
              intro w2 hw2
              have HX2 := Lib.hid (And.intro (bel_trans HX.out.1 hw2) (And.intro (HX.out.2.1.keep hw2) (HX.out.2.2.keep hw2)))
              have HOW2 := Lib.hid (own_keep3 HOW.out hw2)
              go_wp2
              refine wp_region_below (by kernel_rfl) (by kernel_rfl) ?_
              repeat (go_big_quiet_step ((intro hw; first | with_reducible rfl | (obtain ⟨f0, f1, f2, f3, f4, f5, f6⟩ := FF.out _ (bel_trans hw2 hw); have f7 := FZ.out _ (bel_trans hw2 hw); simp only [f0, f1, f2, f3, f4, f5, f6, f7, Result.andThen]; first | exact ⟨trivial, rfl⟩ | exact ⟨rfl, rfl⟩))))
              refine wpQuiet_nil ?_
              intro w3 hw3
              have HX3 := Lib.hid (And.intro (bel_trans HX2.out.1 hw3) (And.intro (HX2.out.2.1.keep hw3) (HX2.out.2.2.keep hw3)))
              have HOW3 := Lib.hid (own_keep3 HOW2.out hw3)
              obtain ⟨-, f1, -, f3, f4, f5, -⟩ := FF.out _ (bel_trans hw2 hw3)
              have y1 : w3.cell? ⟨w.heap.size + 1, 1, none⟩ = some (.slice (some ⟨b2, off2, none⟩) ys.length cap2) := by simpa using HX3.out.2.2.cell 1
              have hl3 := HX3.out.2.2.lt
              have hbb3 : b2 < w3.heap.size := Nat.lt_of_lt_of_le hbb HX3.out.1.size
              clear hw2 hw3
              obtain ⟨hi, hz0, hz1, hz2⟩ := HI.out
              go_wp2_with (at_builtin; refine wpList_append_lies _ rfl (.tmp 87) (.tmp 94) 35 rfl (w.heap.size + 2) 51 i0 (.agg #[.bool false, .int .i64 0, .int .i64 0, .int .i64 0]) 4 32 Try.underlying35 hi hz0 hz1 hz2 rfl (by decide) _ _ _ rfl (HOW3.out.alloc _) ⟨w3.heap.size, 0, none⟩ 1 1 [.bool false, .int .i64 x, .int .i64 y, .int .i64 z] rfl rfl (cells_new4' _ _ _ _ _ _) (by simp [Value.oneCell']) (by decide) (by unfold maxLen; omega) (by omega) (by simp; omega) (w3.heap.size + 1) (by simp) ?_; intro g cap6 w6 hown6 hgrow6 hat6 hlt6; have H6 : Hid (w6.ownsRow (w.heap.size + 2) 51 4 (.slice (some ⟨g, 0, none⟩) (L.length + 1) cap6) (L.length + 1) (cellsCh L ++ [.bool false, .int .i64 x, .int .i64 y, .int .i64 z]) ∧ World.grownBy (w3.alloc (.cells #[.bool false, .int .i64 x, .int .i64 y, .int .i64 z] 51)) w6 u5.ownBlock) := Lib.hid ⟨hown6, hgrow6⟩; clear hown6 hgrow6 hat6)
              have H7 : Hid (w6.ownsRow (w.heap.size + 2) 51 4 (.slice (some ⟨g, 0, none⟩) (L.length + 1) cap6) (dfC xs ys ++ mP xs ys (j + 1)).length (cellsCh (dfC xs ys ++ mP xs ys (j + 1)))) := Lib.hid (by have h := H6.out.1; rw [← cellsCh_one1 false x y z] at h; rw [HT.out, List.length_append, cellsCh_app]; exact h)
              have H8 := Lib.hid (And.intro ((HX3.out.1.alloc HX3.out.1.size _).grown H6.out.2 (by have := HX3.out.1.size; simp; omega) (fun q hq => by have := (HOW3.out.lt q hq).1; omega)) (And.intro (Box.grown (w := w3.alloc (.cells #[.bool false, .int .i64 x, .int .i64 y, .int .i64 z] 51)) (HX3.out.2.1.alloc (.cells #[.bool false, .int .i64 x, .int .i64 y, .int .i64 z] 51)) H6.out.2 (HOW3.out.alloc (.cells #[.bool false, .int .i64 x, .int .i64 y, .int .i64 z] 51)) (by decide)) (Box.grown (w := w3.alloc (.cells #[.bool false, .int .i64 x, .int .i64 y, .int .i64 z] 51)) (HX3.out.2.2.alloc (.cells #[.bool false, .int .i64 x, .int .i64 y, .int .i64 z] 51)) H6.out.2 (HOW3.out.alloc (.cells #[.bool false, .int .i64 x, .int .i64 y, .int .i64 z] 51)) (by decide))))
              clear H6
              go_wp2
              go_roundw
              case rel => first | exact ⟨j + 1, by omega, by go_num, H7.out, H8⟩ | exact ⟨_, ⟨j + 1, by omega, by go_num, H7.out, H8⟩, rfl⟩ | ((repeat apply Exists.intro); exact ⟨⟨j + 1, by omega, by go_num, H7.out, H8⟩, rfl⟩)
              case measure => simp [intOf]; omega
        · have hje : j = ys.length := by omega
          have hjj : ¬ ((j : Int) < ys.length) := by omega
          have hall2 : dfC xs ys ++ mP xs ys j = dfL xs ys := by rw [mP_all (by omega)]; rfl
          rw [hall2] at HOW
          clear hje
          go_wp2
          go_ret
          exact ⟨_, rfl, OwnCh.of HOW.out (show w.heap.size ≤ w.heap.size + 2 by omega), own_ok HOW.out, HX.out.1⟩
end Go.Proofs.Ytbhhbhopogkmnaa
