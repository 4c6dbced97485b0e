/- Paths sorted by the library: what the comparison does to the world, and what the row holds behind it. -/
import Derived.Test.YtneapbggnnndhaaGreatPbfB
import Derived.Test.YtneapbggnnndhaaGreatSrcA
import Derived.Test.YtneapbggnnndhaaGreatSrtM
import Derived.Test.YtneapbggnnndhaaGreatShP
import Derived.Sort.Lot0
namespace Go.Proofs.YtneapbggnnndhaaGreat
open Go.RowKit Go.BigFrame Go.Deep Go.Lib Go.Sort
set_option linter.unusedVariables false
set_option linter.unusedSimpArgs false

/-- A world that has grown, and drawn no less. -/
structure Gr (w w' : World) : Prop where
  b : Below w.heap.size w w'
  d : w.drawn ≤ w'.drawn
theorem Gr.trans {a b c : World} (h : Gr a b) (k : Gr b c) : Gr a c := ⟨bel_trans h.b k.b, Nat.le_trans h.d k.d⟩
theorem Gr.grow {w w' : World} (h : Gr w w') : ∃ n os, w' = grow (w.drewN n) os := by
  refine ⟨w'.drawn - w.drawn, w'.heap.extract w.heap.size w'.heap.size, ?_⟩
  obtain ⟨⟨h1, h2, h3, h4, h5⟩, h6⟩ := h
  obtain ⟨heap, tape, drawn, os, output⟩ := w
  obtain ⟨heap', tape', drawn', os', output'⟩ := w'
  simp only at h1 h2 h3 h4 h5 h6
  subst h1 h2 h3
  unfold Go.Sort.grow World.drewN
  simp only
  congr 1
  · apply Array.ext
    · simp
      omega
    · intro i hi1 hi2
      by_cases hi : i < heap.size
      · rw [Array.getElem_append_left hi]
        have := h5 i hi
        rw [Array.getElem?_eq_getElem hi1, Array.getElem?_eq_getElem hi] at this
        exact Option.some.inj this
      · rw [Array.getElem_append_right (by omega)]
        simp only [Array.getElem_extract]
        congr 1
        omega
  · omega

theorem less_betterG (a b : Int) (w : World) : Calls Tryz.prog 118 #[.agg #[], .int .i64 a, .int .i64 b] w fun e w' => e = .returned (.bool (decide (a < b))) ∧ Gr w w' := by
  go_enter Tryz.func118, Tryz.ntmps118
  go_wp2
  go_ret
  exact ⟨rfl, (Below.refl _ _).alloc (Nat.le_refl _) _, Nat.le_refl _⟩
theorem more_betterG (x a b : Int) (w : World) : Calls Tryz.prog 123 #[.agg #[.int .i64 x], .int .i64 a, .int .i64 b] w fun e w' => e = .returned (.bool (decide (b < a))) ∧ Gr w w' := by
  go_enter Tryz.func123, Tryz.ntmps123
  go_wp2
  go_ret
  exact ⟨rfl, (Below.refl _ _).alloc (Nat.le_refl _) _, Nat.le_refl _⟩
theorem dispG {m : Int} (hm : mKind m = true) : ∃ T rv fb rb, opsV m = .iface T rv ∧ Meth T rv "loop.example/graphviews/impl.better" fb rb ∧ ∀ a b w, Calls Tryz.prog fb #[rb, .int .i64 a, .int .i64 b] w fun e w' => e = .returned (.bool (mBet m a b)) ∧ Gr w w' := by
  rcases mKind_cases hm with rfl | rfl | rfl | rfl | rfl
  · exact ⟨_, _, _, _, disp1.val, disp1.mb, fun a b w => less_betterG a b w⟩
  · exact ⟨_, _, _, _, disp2.val, disp2.mb, fun a b w => more_betterG _ a b w⟩
  · exact ⟨_, _, _, _, disp3.val, disp3.mb, fun a b w => less_betterG a b w⟩
  · exact ⟨_, _, _, _, disp4.val, disp4.mb, fun a b w => more_betterG _ a b w⟩
  · exact ⟨_, _, _, _, disp5.val, disp5.mb, fun a b w => less_betterG a b w⟩

set_option maxRecDepth 20000 in
set_option maxHeartbeats 1000000 in
theorem compareMeasuresG (m a b : Int) (hm : mKind m = true) (w : World) :
    Calls Tryz.prog 67 #[opsV m, .int .i64 a, .int .i64 b] w fun e w' => e = .returned (.int .i64 (cmpM m a b)) ∧ Gr w w' := by
  obtain ⟨T, rv, fb, rb, hv, mb, cb⟩ := dispG hm
  rw [hv]
  have hn1 := mb.run
  have hn2 := mb.ahead
  have hn3 := mb.enter
  have hc1 := cb a b
  have hc2 := cb b a
  unfold cmpM
  generalize mBet m a b = P at hc1 ⊢
  generalize mBet m b a = Q at hc2 ⊢
  have H1 := Lib.hid hc1
  have H2 := Lib.hid hc2
  clear cb mb hc1 hc2 hv
  cases P
  · go_enter Tryz.func67, Tryz.ntmps67
    go_wp2_with fail
    refine (H1.out _).mono ?_
    rintro e w1 ⟨rfl, hb1⟩
    cases Q
    · go_wp2_with fail
      refine (H2.out _).mono ?_
      rintro e w2 ⟨rfl, hb2⟩
      go_wp2
      go_ret
      exact ⟨rfl, hb1.trans hb2⟩
    · go_wp2_with fail
      refine (H2.out _).mono ?_
      rintro e w2 ⟨rfl, hb2⟩
      go_wp2
      go_ret
      exact ⟨rfl, hb1.trans hb2⟩
  · go_enter Tryz.func67, Tryz.ntmps67
    go_wp2_with fail
    refine (H1.out _).mono ?_
    rintro e w1 ⟨rfl, hb1⟩
    go_wp2
    go_ret
    exact ⟨rfl, hb1⟩

set_option maxRecDepth 20000 in
set_option maxHeartbeats 4000000 in
theorem comparePathsG (m x y : Int) (zs ys : List Int) (s t : Value) (w : World) (hm : mKind m = true) (hs : Row w s zs) (ht : Row w t ys) (hl : zs.length ≤ 281474976710656) (hl2 : ys.length ≤ 281474976710656) :
    Calls Tryz.prog 51 #[opsV m, .agg #[s, .int .i64 x], .agg #[t, .int .i64 y]] w fun e w' => e = .returned (.int .i64 (cP m zs x ys y)) ∧ Gr w w' := by
  obtain ⟨ad, c, rfl, hz0⟩ := id hs
  obtain ⟨ad2, c2, rfl, hz1⟩ := id ht
  clear hz0 hz1
  obtain ⟨T, rv, fn, fe, fb, fo, fj, rn, re, rb, ro, rj, D⟩ := disp hm
  have hcm := fun w => compareMeasuresG m x y hm w
  have hv : opsV m = .iface T rv := D.val
  rw [hv] at hcm ⊢
  have hb0 : Below w.heap.size w ((w.alloc (.cells #[.slice ad zs.length c, .int .i64 x] 30)).alloc (.cells #[.slice ad2 ys.length c2, .int .i64 y] 30)) := ((Below.refl _ _).alloc (Nat.le_refl _) _).alloc (by simp) _
  have HX := Lib.hid ((Box.new w 30 #[.slice ad zs.length c, .int .i64 x]).alloc (.cells #[.slice ad2 ys.length c2, .int .i64 y] 30))
  have HY : Hid (Box ((w.alloc (.cells #[.slice ad zs.length c, .int .i64 x] 30)).alloc (.cells #[.slice ad2 ys.length c2, .int .i64 y] 30)) (w.heap.size + 1) 30 #[.slice ad2 ys.length c2, .int .i64 y]) := Lib.hid (by
    have := Box.new (w.alloc (.cells #[.slice ad zs.length c, .int .i64 x] 30)) 30 #[.slice ad2 ys.length c2, .int .i64 y]
    simpa using this)
  have hci := fun w' (h : Below w.heap.size w w') => compareInts zs ys (.slice ad zs.length c) (.slice ad2 ys.length c2) w' (hs.keep h) (ht.keep h) hl hl2
  have hci := fun w' h => (hci w' h).mono (fun e w'' k => (⟨k.1, k.2.symm⟩ : _ ∧ w' = w''))
  have hcl := fun w' => (cmpInt zs.length ys.length w').mono (fun e w'' k => (⟨k.1, k.2.symm⟩ : _ ∧ w' = w''))
  unfold cP
  generalize cmpM m x y = C1 at hcm ⊢
  generalize cInt zs.length ys.length = C2 at hcl ⊢
  generalize lexC zs ys = C3 at hci ⊢
  have HCM := Lib.hid hcm
  have HCL := Lib.hid hcl
  have HCI := Lib.hid hci
  have HB0 := Lib.hid hb0
  have HDR : Hid (w.drawn ≤ ((w.alloc (.cells #[.slice ad zs.length c, .int .i64 x] 30)).alloc (.cells #[.slice ad2 ys.length c2, .int .i64 y] 30)).drawn) := Lib.hid (Nat.le_refl _)
  clear hcm hcl hci hb0 hs ht D hv
  go_enter Tryz.func51, Tryz.ntmps51
  go_wp2
  generalize ((w.alloc (.cells #[.slice ad zs.length c, .int .i64 x] 30)).alloc (.cells #[.slice ad2 ys.length c2, .int .i64 y] 30)) = w1 at HX HY HB0 HDR ⊢
  have hold : ∀ w' : World, Below w1.heap.size w1 w' → (w'.cell? ⟨w.heap.size, 0, none⟩ = some (.slice ad zs.length c) ∧ w'.cell? ⟨w.heap.size, 1, none⟩ = some (.int .i64 x) ∧ w'.cell? ⟨w.heap.size + 1, 0, none⟩ = some (.slice ad2 ys.length c2) ∧ w'.cell? ⟨w.heap.size + 1, 1, none⟩ = some (.int .i64 y)) := fun w' h => ⟨by simpa using (HX.out.keep h).cell 0, by simpa using (HX.out.keep h).cell 1, by simpa using (HY.out.keep h).cell 0, by simpa using (HY.out.keep h).cell 1⟩
  have HOLD := Lib.hid hold
  have hor : ∀ W : World, Calls Tryz.prog 66 #[.slice (some ⟨W.heap.size, 0, none⟩) 3 3] (W.alloc (.cells #[.int .i64 C1, .int .i64 C2, .int .i64 C3] 3)) fun e w' => e = .returned (.int .i64 (cOr3 C1 C2 C3)) ∧ W.alloc (.cells #[.int .i64 C1, .int .i64 C2, .int .i64 C3] 3) = w' := fun W => (orThree C1 C2 C3 W.heap.size 3 _ (by go_simp) (by go_simp) (by go_simp)).mono (fun e w'' k => ⟨k.1, k.2.symm⟩)
  have HOR := Lib.hid hor
  clear hold hor
  have dr : Hid (Below w1.heap.size w1 w1.drew) := Lib.hid ((Below.refl _ _).drew)
  go_region_held3 (fun w' : World => w'.cell? ⟨w.heap.size, 0, none⟩ = some (.slice ad zs.length c) ∧ w'.cell? ⟨w.heap.size, 1, none⟩ = some (.int .i64 x) ∧ w'.cell? ⟨w.heap.size + 1, 0, none⟩ = some (.slice ad2 ys.length c2) ∧ w'.cell? ⟨w.heap.size + 1, 1, none⟩ = some (.int .i64 y)) (first | with_reducible exact HOLD.out _ dr.out | with_reducible exact HOLD.out _ (bel_trans dr.out hb2.b) | with_reducible exact HOLD.out _ ((bel_trans dr.out hb2.b).alloc (bel_trans dr.out hb2.b).size _))
    (first | (go_at_call 67; (with_reducible refine (HCM.out _).mono ?_); rintro e w2 ⟨rfl, hb2⟩) | (go_at_call 68; (with_reducible refine (HCL.out _).mono ?_); rintro e w9 ⟨rfl, rfl⟩) | (go_at_call 69; (with_reducible refine (HCI.out _ (bel_trans HB0.out dr.out)).mono ?_); rintro e w9 ⟨rfl, rfl⟩) | (go_at_call 69; (with_reducible refine (HCI.out _ (bel_trans HB0.out (bel_trans dr.out hb2.b))).mono ?_); rintro e w9 ⟨rfl, rfl⟩) | (go_at_call 66; (with_reducible refine (HOR.out w2).mono ?_); rintro e w9 ⟨rfl, rfl⟩))
  all_goals
    have hfin := bel_trans HB0.out (bel_trans dr.out hb2.b)
    have hdr := hb2.d
    clear hb2
    go_wp2
    go_ret
    exact ⟨rfl, hfin.alloc hfin.size _, by have := HDR.out; have h2 : w1.drawn + 1 ≤ w2.drawn := hdr; show w.drawn ≤ w2.drawn; omega⟩

set_option maxRecDepth 20000 in
/-- The comparison that the program hands to the sort. -/
theorem cmpClosure (m x y : Int) (zs ys : List Int) (s t : Value) (B : Nat) (w : World) (hm : mKind m = true) (hB : w.cell? ⟨B, 0, none⟩ = some (opsV m)) (hBl : B < w.heap.size) (hs : Row w s zs) (ht : Row w t ys) (hl : zs.length ≤ 281474976710656) (hl2 : ys.length ≤ 281474976710656) :
    Calls Tryz.prog 50 #[.agg #[s, .int .i64 x], .agg #[t, .int .i64 y], .pointer (some ⟨B, 0, none⟩)] w fun e w' => e = .returned (.int .i64 (cP m zs x ys y)) ∧ Gr w w' := by
  obtain ⟨ad, c, rfl, hz0⟩ := id hs
  obtain ⟨ad2, c2, rfl, hz1⟩ := id ht
  clear hz0 hz1
  have hb0 : Below w.heap.size w ((w.alloc (.cells #[.slice ad zs.length c, .int .i64 x] 30)).alloc (.cells #[.slice ad2 ys.length c2, .int .i64 y] 30)) := ((Below.refl _ _).alloc (Nat.le_refl _) _).alloc (by simp) _
  have hcp := fun w' (h : Below w.heap.size w w') => comparePathsG m x y zs ys (.slice ad zs.length c) (.slice ad2 ys.length c2) w' hm (hs.keep h) (ht.keep h) hl hl2
  obtain ⟨T, rv, fb, rb, hv, -, -⟩ := dispG hm
  rw [hv] at hcp hB
  have x0 := (hb0.cell (p := ⟨B, 0, none⟩) hBl).trans hB
  generalize cP m zs x ys y = C at hcp ⊢
  have HB0 := Lib.hid (show Gr w _ from ⟨hb0, Nat.le_refl _⟩)
  have HX := Lib.hid ((Box.new w 30 #[.slice ad zs.length c, .int .i64 x]).alloc (.cells #[.slice ad2 ys.length c2, .int .i64 y] 30))
  have HCP := Lib.hid hcp
  clear hcp hs ht hb0 hv hB
  go_enter Tryz.func50, Tryz.ntmps50
  go_wp2_with fail
  refine (HCP.out _ HB0.out.b).mono ?_
  rintro e w1 ⟨rfl, hb1⟩
  go_wp2
  go_ret
  exact ⟨rfl, HB0.out.trans hb1⟩
end Go.Proofs.YtneapbggnnndhaaGreat
