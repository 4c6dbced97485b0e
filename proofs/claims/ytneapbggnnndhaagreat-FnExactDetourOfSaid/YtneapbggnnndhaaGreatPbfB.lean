/- Is a path in front of another one: the program. -/
import Derived.Test.YtneapbggnnndhaaGreatPbfA
import Derived.Test.YtneapbggnnndhaaGreatDisp
namespace Go.Proofs.YtneapbggnnndhaaGreat
open Go.RowKit Go.BigFrame Go.Deep
set_option linter.unusedVariables false
set_option linter.unusedSimpArgs false

/-- cmp.Or of three numbers. -/
theorem orThree (x y z : Int) (b : Nat) (cap : Nat) (w : World) (h0 : w.cell? ⟨b, 0, none⟩ = some (.int .i64 x)) (h1 : w.cell? ⟨b, 1, none⟩ = some (.int .i64 y)) (h2 : w.cell? ⟨b, 2, none⟩ = some (.int .i64 z)) :
    Calls Tryz.prog 66 #[.slice (some ⟨b, 0, none⟩) 3 cap] w fun e w' => e = .returned (.int .i64 (cOr3 x y z)) ∧ w' = w := by
  obtain ⟨R, hR⟩ : ∃ R, R = cOr3 x y z := ⟨_, rfl⟩
  rw [← hR]
  have HR := Lib.hid hR
  clear hR
  go_enter Tryz.func66, Tryz.ntmps66
  go_wp2
  go_loopw [8] (fun c wr => wr = w ∧ ∃ k : Nat, k ≤ 3 ∧ c = .int .i64 k ∧ (0 < k → x = 0) ∧ (1 < k → y = 0) ∧ (2 < k → z = 0)) (fun c _ => 3 - (intOf c).toNat)
  case atStart => exact ⟨rfl, 0, by omega, rfl, by omega, by omega, by omega⟩
  case round =>
    obtain ⟨rfl, k, hk, rfl, hx, hy, hz⟩ := hrel
    have HX := Lib.hid hx
    have HY := Lib.hid hy
    have HZ := Lib.hid hz
    clear hx hy hz
    match k, hk with
    | 0, _ =>
      by_cases hx : x = 0
      · subst hx
        go_wp2
        go_roundw
        case rel => exact ⟨trivial, 1, by omega, by go_num, by simp, by omega, by omega⟩
        case measure => simp [intOf]
      · have hd : decide (x = 0) = false := by simpa using hx
        go_wp2
        go_ret
        exact ⟨by rw [HR.out]; unfold cOr3; rw [if_pos hx]; rfl, rfl⟩
    | 1, _ =>
      have hx0 := HX.out (by omega)
      subst hx0
      by_cases hy : y = 0
      · subst hy
        go_wp2
        go_roundw
        case rel => exact ⟨trivial, 2, by omega, by go_num, by simp, by simp, by omega⟩
        case measure => simp [intOf]
      · have hd : decide (y = 0) = false := by simpa using hy
        go_wp2
        go_ret
        exact ⟨by rw [HR.out]; unfold cOr3; rw [if_neg (by simp), if_pos hy]; rfl, rfl⟩
    | 2, _ =>
      have hx0 := HX.out (by omega)
      have hy0 := HY.out (by omega)
      subst hx0 hy0
      by_cases hz : z = 0
      · subst hz
        go_wp2
        go_roundw
        case rel => exact ⟨trivial, 3, by omega, by go_num, by simp, by simp, by simp⟩
        case measure => simp [intOf]
      · have hd : decide (z = 0) = false := by simpa using hz
        go_wp2
        go_ret
        exact ⟨by rw [HR.out]; unfold cOr3; rw [if_neg (by simp), if_neg (by simp)]; rfl, rfl⟩
    | 3, _ =>
      have hx0 := HX.out (by omega)
      have hy0 := HY.out (by omega)
      have hz0 := HZ.out (by omega)
      subst hx0 hy0 hz0
      go_wp2
      go_ret
      exact ⟨by rw [HR.out]; rfl, rfl⟩

set_option maxRecDepth 20000 in
set_option maxHeartbeats 4000000 in
theorem comparePaths (m x y : Int) (zs ys : List Int) (s t : Value) (w : World) (hm : mKind m = true) (hs : Row w s zs) (ht : Row w t ys) (hl : zs.length ≤ 281474976710656) (hl2 : ys.length ≤ 281474976710656) :
    Calls Tryz.prog 51 #[opsV m, .agg #[s, .int .i64 x], .agg #[t, .int .i64 y]] w fun e w' => e = .returned (.int .i64 (cP m zs x ys y)) ∧ Below w.heap.size w w' := by
  obtain ⟨ad, c, rfl, hz0⟩ := id hs
  obtain ⟨ad2, c2, rfl, hz1⟩ := id ht
  clear hz0 hz1
  obtain ⟨T, rv, fn, fe, fb, fo, fj, rn, re, rb, ro, rj, D⟩ := disp hm
  have hcm := fun w => compareMeasures m x y hm w
  have hv : opsV m = .iface T rv := D.val
  rw [hv] at hcm ⊢
  have hb0 : Below w.heap.size w ((w.alloc (.cells #[.slice ad zs.length c, .int .i64 x] 30)).alloc (.cells #[.slice ad2 ys.length c2, .int .i64 y] 30)) := ((Below.refl _ _).alloc (Nat.le_refl _) _).alloc (by simp) _
  have HX := Lib.hid ((Box.new w 30 #[.slice ad zs.length c, .int .i64 x]).alloc (.cells #[.slice ad2 ys.length c2, .int .i64 y] 30))
  have HY : Hid (Box ((w.alloc (.cells #[.slice ad zs.length c, .int .i64 x] 30)).alloc (.cells #[.slice ad2 ys.length c2, .int .i64 y] 30)) (w.heap.size + 1) 30 #[.slice ad2 ys.length c2, .int .i64 y]) := Lib.hid (by
    have := Box.new (w.alloc (.cells #[.slice ad zs.length c, .int .i64 x] 30)) 30 #[.slice ad2 ys.length c2, .int .i64 y]
    simpa using this)
  have hci := fun w' (h : Below w.heap.size w w') => compareInts zs ys (.slice ad zs.length c) (.slice ad2 ys.length c2) w' (hs.keep h) (ht.keep h) hl hl2
  have hci := fun w' h => (hci w' h).mono (fun e w'' k => (⟨k.1, k.2.symm⟩ : _ ∧ w' = w''))
  have hcl := fun w' => (cmpInt zs.length ys.length w').mono (fun e w'' k => (⟨k.1, k.2.symm⟩ : _ ∧ w' = w''))
  unfold cP
  generalize cmpM m x y = C1 at hcm ⊢
  generalize cInt zs.length ys.length = C2 at hcl ⊢
  generalize lexC zs ys = C3 at hci ⊢
  have HCM := Lib.hid hcm
  have HCL := Lib.hid hcl
  have HCI := Lib.hid hci
  have HB0 := Lib.hid hb0
  clear hcm hcl hci hb0 hs ht D hv
  go_enter Tryz.func51, Tryz.ntmps51
  go_wp2
  generalize ((w.alloc (.cells #[.slice ad zs.length c, .int .i64 x] 30)).alloc (.cells #[.slice ad2 ys.length c2, .int .i64 y] 30)) = w1 at HX HY HB0 ⊢
  have hold : ∀ w' : World, Below w1.heap.size w1 w' → (w'.cell? ⟨w.heap.size, 0, none⟩ = some (.slice ad zs.length c) ∧ w'.cell? ⟨w.heap.size, 1, none⟩ = some (.int .i64 x) ∧ w'.cell? ⟨w.heap.size + 1, 0, none⟩ = some (.slice ad2 ys.length c2) ∧ w'.cell? ⟨w.heap.size + 1, 1, none⟩ = some (.int .i64 y)) := fun w' h => ⟨by simpa using (HX.out.keep h).cell 0, by simpa using (HX.out.keep h).cell 1, by simpa using (HY.out.keep h).cell 0, by simpa using (HY.out.keep h).cell 1⟩
  have HOLD := Lib.hid hold
  have hor : ∀ W : World, Calls Tryz.prog 66 #[.slice (some ⟨W.heap.size, 0, none⟩) 3 3] (W.alloc (.cells #[.int .i64 C1, .int .i64 C2, .int .i64 C3] 3)) fun e w' => e = .returned (.int .i64 (cOr3 C1 C2 C3)) ∧ W.alloc (.cells #[.int .i64 C1, .int .i64 C2, .int .i64 C3] 3) = w' := fun W => (orThree C1 C2 C3 W.heap.size 3 _ (by go_simp) (by go_simp) (by go_simp)).mono (fun e w'' k => ⟨k.1, k.2.symm⟩)
  have HOR := Lib.hid hor
  clear hold hor
  have dr : Hid (Below w1.heap.size w1 w1.drew) := Lib.hid ((Below.refl _ _).drew)
  go_region_held3 (fun w' : World => w'.cell? ⟨w.heap.size, 0, none⟩ = some (.slice ad zs.length c) ∧ w'.cell? ⟨w.heap.size, 1, none⟩ = some (.int .i64 x) ∧ w'.cell? ⟨w.heap.size + 1, 0, none⟩ = some (.slice ad2 ys.length c2) ∧ w'.cell? ⟨w.heap.size + 1, 1, none⟩ = some (.int .i64 y)) (first | with_reducible exact HOLD.out _ dr.out | with_reducible exact HOLD.out _ (bel_trans dr.out hb2) | with_reducible exact HOLD.out _ ((bel_trans dr.out hb2).alloc (bel_trans dr.out hb2).size _))
    (first | (go_at_call 67; (with_reducible refine (HCM.out _).mono ?_); rintro e w2 ⟨rfl, hb2⟩) | (go_at_call 68; (with_reducible refine (HCL.out _).mono ?_); rintro e w9 ⟨rfl, rfl⟩) | (go_at_call 69; (with_reducible refine (HCI.out _ (bel_trans HB0.out dr.out)).mono ?_); rintro e w9 ⟨rfl, rfl⟩) | (go_at_call 69; (with_reducible refine (HCI.out _ (bel_trans HB0.out (bel_trans dr.out hb2))).mono ?_); rintro e w9 ⟨rfl, rfl⟩) | (go_at_call 66; (with_reducible refine (HOR.out w2).mono ?_); rintro e w9 ⟨rfl, rfl⟩))
  all_goals
    have hfin := bel_trans HB0.out (bel_trans dr.out hb2)
    clear hb2
    go_wp2
    go_ret
    exact ⟨rfl, hfin.alloc hfin.size _⟩
end Go.Proofs.YtneapbggnnndhaaGreat
