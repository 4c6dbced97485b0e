/- MeetInMiddle, in the program. MeetInMiddle, in the model. -/
import Derived.Test.YtaoecegnjhbagaaRevI
import Derived.Test.YtaoecegnjhbagaaRight
import Derived.OwnWalk
import Derived.Test.YtaoecegnjhbagaaRevS
import Derived.Test.YtaoecegnjhbagaaViewS
import Derived.Test.YtaoecegnjhbagaaVStartT
namespace Go.Proofs.Ytaoecegnjhbagaa
open Go.RowKit Go.BigFrame Go.Deep
set_option linter.unusedVariables false
set_option linter.unusedSimpArgs false

/-- One node more: the best measure so far, and where it is. -/
def mmS (m : Int) (xs ys : List Int) (p : Int × Int) (i : Nat) : Int × Int := if mBet m (mJoin m (xs.getD i 0) (ys.getD i 0)) p.1 = true then (mJoin m (xs.getD i 0) (ys.getD i 0), (i : Int)) else p
def mmK (m : Int) (xs ys : List Int) (k : Nat) : Int × Int := (List.range k).foldl (mmS m xs ys) (mNone m, -1)
theorem mmK_succ (m : Int) (xs ys : List Int) (k : Nat) : mmK m xs ys (k + 1) = mmS m xs ys (mmK m xs ys k) k := by unfold mmK; rw [List.range_succ, List.foldl_append]; rfl
/-- The right values from a node, in a graph and in the turned one. -/
def rtV (n : Int) (es : List Ed) (m a : Int) : List Int := vIter m es n.toNat (vStart m n a)
def mmR (n : Int) (es : List Ed) (m a b : Int) : Int × Int := if onOk n es m [a, b] = true then mmK m (rtV n es m a) (rtV n (rvL es) m b) n.toNat else (0, 0)
theorem onOk_two {n m a b : Int} {es : List Ed} (h : onOk n es m [a, b] = true) : gVal n es = true ∧ (0 ≤ a ∧ a < n) ∧ (0 ≤ b ∧ b < n) ∧ mKind m = true := by
  unfold onOk inN at h
  simp only [List.all_cons, List.all_nil, Bool.and_eq_true, Bool.and_true, decide_eq_true_eq] at h
  exact ⟨h.1.1, h.1.2.1, h.1.2.2, h.2⟩
theorem rtV_length (n : Int) (es : List Ed) (m a : Int) : (rtV n es m a).length = n.toNat := by unfold rtV; rw [vIter_length, vStart_length]
theorem rtV_all {n m a : Int} {es : List Ed} (hm : mKind m = true) (he : eAll n.toNat es) : vAll m (rtV n es m a) := by
  unfold rtV
  exact vIter_all hm (vStart_all hm) (by rw [vStart_length]; exact he) _
theorem row_keep {w w' : World} {t : Value} {zs : List Int} (h : Row w t zs) (hb : Below w.heap.size w w') : Row w' t zs := h.keep hb

set_option maxRecDepth 20000 in
set_option maxHeartbeats 4000000 in
theorem meetInMiddle (n m a b : Int) (es : List Ed) (s : Value) (w : World) (hs : RowE w s es) (hl : es.length ≤ 1048576) :
    Calls Try.prog 31 #[.agg #[.int .i64 n, s], .int .i64 m, .int .i64 a, .int .i64 b] w fun e w' => e = .returned (.tuple #[.int .i64 (mmR n es m a b).1, .int .i64 (mmR n es m a b).2, .bool (onOk n es m [a, b])]) ∧ Below w.heap.size w w' := by
  obtain ⟨ad, cap, hs0, hz0⟩ := id hs
  subst hs0
  clear hz0
  have hb2 : Below w.heap.size w ((w.alloc (.cells #[.int .i64 n, .slice ad es.length cap] 25)).alloc (.cells #[.int .i64 a, .int .i64 b] 3)) := ((Below.refl _ _).alloc (Nat.le_refl _) _).alloc (by simp) _
  have hx0 : Box ((w.alloc (.cells #[.int .i64 n, .slice ad es.length cap] 25)).alloc (.cells #[.int .i64 a, .int .i64 b] 3)) w.heap.size 25 #[.int .i64 n, .slice ad es.length cap] := (Box.new w _ _).alloc _
  have hx1 : Box ((w.alloc (.cells #[.int .i64 n, .slice ad es.length cap] 25)).alloc (.cells #[.int .i64 a, .int .i64 b] 3)) (w.heap.size + 1) 3 #[.int .i64 a, .int .i64 b] := by
    have := Box.new (w.alloc (.cells #[.int .i64 n, .slice ad es.length cap] 25)) 3 #[.int .i64 a, .int .i64 b]
    simpa using this
  have hrow : Row ((w.alloc (.cells #[.int .i64 n, .slice ad es.length cap] 25)).alloc (.cells #[.int .i64 a, .int .i64 b] 3)) (.slice (some ⟨w.heap.size + 1, 0, none⟩) 2 2) [a, b] := by
    refine ⟨_, 2, rfl, .inr ⟨w.heap.size + 1, 0, rfl, hx1.lt, fun i hi => ?_⟩⟩
    rw [hx1.cell]
    match i, hi with
    | 0, _ => rfl
    | 1, _ => rfl
  have hop := opsOn n m es [a, b] (.slice ad es.length cap) (.slice (some ⟨w.heap.size + 1, 0, none⟩) 2 2) _ (hs.keep hb2) hrow (by omega) (by simp)
  have K0 := Lib.hid (And.intro hb2 hx0)
  have HS := Lib.hid hs
  clear hb2 hx0 hx1 hrow hs
  cases hok : onOk n es m [a, b]
  · have e1 : mmR n es m a b = (0, 0) := by unfold mmR; rw [hok]; rfl
    rw [e1]
    rw [hok] at hop
    have HOP := Lib.hid hop
    clear hop e1 hok
    go_enter Try.func31, Try.ntmps31
    go_wp2_with fail
    generalize ((w.alloc (.cells #[.int .i64 n, .slice ad es.length cap] 25)).alloc (.cells #[.int .i64 a, .int .i64 b] 3)) = v0 at K0 HOP ⊢
    refine HOP.out.mono ?_
    rintro e v1 ⟨rfl, hb1⟩
    have HB1 := Lib.hid (bel_trans K0.out.1 hb1)
    clear hb1
    go_wp2
    go_ret3
    exact ⟨rfl, HB1.out⟩
  have e1 : mmR n es m a b = mmK m (rtV n es m a) (rtV n (rvL es) m b) n.toNat := by unfold mmR; rw [if_pos hok]
  rw [e1]
  rw [hok] at hop
  obtain ⟨hg, ha, hb, hm⟩ := onOk_two hok
  have h12 := (gVal_iff.1 hg).1.2.1
  have h40 := (gVal_iff.1 hg).1.2.2
  obtain ⟨N, rfl⟩ : ∃ N : Nat, n = N := ⟨n.toNat, by omega⟩
  obtain ⟨A, rfl⟩ : ∃ A : Nat, a = A := ⟨a.toNat, by omega⟩
  obtain ⟨B, rfl⟩ : ∃ B : Nat, b = B := ⟨b.toNat, by omega⟩
  have hea := eAll_of hg
  have hgr := (rvL_val hg).1
  have hlr := (rvL_val hg).2.2
  have her := eAll_of hgr
  rw [Int.toNat_natCast] at hea her ⊢
  obtain ⟨T, rv, fn, fe, fb, fo, fj, rn, re, rb, ro, rj, D⟩ := disp hm
  have e3 : opsR m true = .iface T rv := by rw [← D.val]; rfl
  rw [e3] at hop
  have hrt := fun w' (h : Below w.heap.size w w') => rightValues m es N A (.slice ad es.length cap) w' hm (HS.out.keep h) hl (by omega) (by omega) hea
  have hru := fun t w' (h : RowE w' t (rvL es)) => rightValues m (rvL es) N B t w' hm h (by omega) (by omega) (by omega) her
  rw [D.val] at hrt hru
  have hre := fun w' (h : Below w.heap.size w w') => reverseGraph N es (.slice ad es.length cap) w' (HS.out.keep h) hl
  rw [hg, show rgN (N : Int) es = N by unfold rgN; rw [if_pos hg], show rgL (N : Int) es = rvL es by unfold rgL; rw [if_pos hg]] at hre
  obtain ⟨X, hX⟩ : ∃ X, X = rtV (N : Int) es m A := ⟨_, rfl⟩
  obtain ⟨Y, hY⟩ : ∃ Y, Y = rtV (N : Int) (rvL es) m B := ⟨_, rfl⟩
  have eX : vIter m es N (vStart m N A) = X := by rw [hX]; unfold rtV; rw [Int.toNat_natCast]
  have eY : vIter m (rvL es) N (vStart m N B) = Y := by rw [hY]; unfold rtV; rw [Int.toNat_natCast]
  rw [eX] at hrt
  rw [eY] at hru
  have hlX : X.length = N := by rw [hX, rtV_length, Int.toNat_natCast]
  have hlY : Y.length = N := by rw [hY, rtV_length, Int.toNat_natCast]
  have haX : vAll m X := by rw [hX]; exact rtV_all hm (by rw [Int.toNat_natCast]; exact hea)
  have haY : vAll m Y := by rw [hY]; exact rtV_all hm (by rw [Int.toNat_natCast]; exact her)
  rw [← hX, ← hY]
  have hn1 := D.mn.run
  have hn2 := D.mn.ahead
  have hn3 := D.mn.enter
  have hb1' := D.mb.run
  have hb2' := D.mb.ahead
  have hb3' := D.mb.enter
  have hj1 := D.mj.run
  have hj2 := D.mj.ahead
  have hj3 := D.mj.enter
  have HN := Lib.hid D.cn
  have HB := Lib.hid D.cb
  have HJ := Lib.hid D.cj
  have HOP := Lib.hid hop
  have HRT := Lib.hid hrt
  have HRU := Lib.hid hru
  have HRE := Lib.hid hre
  have HLX := Lib.hid (And.intro hlX hlY)
  have HAX := Lib.hid (And.intro haX haY)
  have hN : 1 ≤ N := by omega
  have hN12 : N ≤ 12 := by omega
  clear hop hrt hru hre hlX hlY haX haY eX eY hX hY e3 e1 hok hg ha hb hm h12 h40 hea hgr hlr her D
  go_enter Try.func31, Try.ntmps31
  go_wp2_with fail
  generalize ((w.alloc (.cells #[.int .i64 (N : Int), .slice ad es.length cap] 25)).alloc (.cells #[.int .i64 (A : Int), .int .i64 (B : Int)] 3)) = v0 at K0 HOP ⊢
  refine HOP.out.mono ?_
  rintro e v1 ⟨rfl, hb1⟩
  have K1 := Lib.hid (And.intro (bel_trans K0.out.1 hb1) (K0.out.2.keep hb1))
  have x0 : v1.cell? ⟨w.heap.size, 0, none⟩ = some (.int .i64 N) := by simpa using K1.out.2.cell 0
  have x1 : v1.cell? ⟨w.heap.size, 1, none⟩ = some (.slice ad es.length cap) := by simpa using K1.out.2.cell 1
  clear hb1
  go_wp2_with fail
  refine (HRE.out _ K1.out.1).mono ?_
  rintro e v2 ⟨v, rfl, hown, hokv, hb2⟩
  obtain ⟨ua, uc, rfl, hz9⟩ := id hown
  clear hz9 x0 x1
  have K2 := Lib.hid (And.intro (bel_trans K1.out.1 hb2) (And.intro (K1.out.2.keep hb2) (InR.edges hown)))
  have x0 : v2.cell? ⟨w.heap.size, 0, none⟩ = some (.int .i64 N) := by simpa using K2.out.2.1.cell 0
  have x1 : v2.cell? ⟨w.heap.size, 1, none⟩ = some (.slice ad es.length cap) := by simpa using K2.out.2.1.cell 1
  have hlt2 : w.heap.size < v2.heap.size := K2.out.2.1.lt
  clear hb2 hown hokv
  have hb3 : Below v2.heap.size v2 (v2.alloc (.cells #[.int .i64 (N : Int), .slice ua (rvL es).length uc] 25)) := (Below.refl _ _).alloc (Nat.le_refl _) _
  have K3 := Lib.hid (And.intro (bel_trans K2.out.1 hb3) (And.intro (K2.out.2.1.keep hb3) (And.intro (K2.out.2.2.keep hb3) (Box.new v2 25 #[.int .i64 (N : Int), .slice ua (rvL es).length uc]))))
  clear hb3
  go_wp2_with fail
  generalize (v2.alloc (.cells #[.int .i64 (N : Int), .slice ua (rvL es).length uc] 25)) = v3 at K3 ⊢
  refine (HRT.out _ K3.out.1).mono ?_
  rintro e v4 ⟨vx, r, rfl, hown, hokv, hfs, hb4⟩
  have K4 := Lib.hid (And.intro (bel_trans K3.out.1 hb4) (And.intro (K3.out.2.1.keep hb4) (And.intro (K3.out.2.2.1.keep hb4) (And.intro (K3.out.2.2.2.keep hb4) (OwnV.row hown)))))
  have y0 : v4.cell? ⟨v2.heap.size, 0, none⟩ = some (.int .i64 N) := by simpa using K4.out.2.2.2.1.cell 0
  have y1 : v4.cell? ⟨v2.heap.size, 1, none⟩ = some (.slice ua (rvL es).length uc) := by simpa using K4.out.2.2.2.1.cell 1
  clear hb4 hown hokv hfs x0 x1
  go_wp2_with fail
  refine (HRU.out _ _ K4.out.2.2.1).mono ?_
  rintro e v5 ⟨vy, r2, rfl, hown, hokv, hfs, hb5⟩
  have K5 := Lib.hid (And.intro (bel_trans K4.out.1 hb5) (And.intro (K4.out.2.1.keep hb5) (And.intro (K4.out.2.2.2.2.keep hb5) (OwnV.row hown))))
  clear hb5 hown hokv hfs y0 y1
  go_wp2_with fail
  refine (HN.out _).mono ?_
  rintro e v6 ⟨rfl, hb6⟩
  have K6 := Lib.hid (And.intro (bel_trans K5.out.1 hb6) (And.intro (K5.out.2.1.keep hb6) (And.intro (K5.out.2.2.1.keep hb6) (K5.out.2.2.2.keep hb6))))
  have x0 : v6.cell? ⟨w.heap.size, 0, none⟩ = some (.int .i64 N) := by simpa using K6.out.2.1.cell 0
  clear hb6
  obtain ⟨xa, xc, rfl, hxz⟩ := id K6.out.2.2.1
  obtain ⟨ya, yc, rfl, hyz⟩ := id K6.out.2.2.2
  have hXne : X ≠ [] := by intro h; have := HLX.out.1; rw [h] at this; simp at this; omega
  have hYne : Y ≠ [] := by intro h; have := HLX.out.2; rw [h] at this; simp at this; omega
  rcases hxz with h0 | ⟨xb, xo, rfl, hxb, hxc⟩
  · exact absurd h0 hXne
  rcases hyz with h0 | ⟨yb, yo, rfl, hyb, hyc⟩
  · exact absurd h0 hYne
  have HXC := Lib.hid hxc
  have HYC := Lib.hid hyc
  clear hxc hyc hXne hYne
  go_wp2
  clear x0
  go_loopw [58, 18, 19] (fun c bst mid wr => ∃ k : Nat, k ≤ N ∧ c = .int .i64 k ∧ bst = .int .i64 (mmK m X Y k).1 ∧ mid = .int .i64 (mmK m X Y k).2 ∧ Hid (Below v6.heap.size v6 wr)) (fun c _ _ _ => N - (intOf c).toNat)
  case atStart => exact ⟨0, Nat.zero_le _, rfl, rfl, rfl, Lib.hid (Below.refl _ _)⟩
  case round =>
    obtain ⟨k, hk, rfl, rfl, rfl, HX⟩ := hrel
    by_cases hlt : k < N
    · have hlt' : (k : Int) < N := by omega
      obtain ⟨x, hx⟩ : ∃ x, x = X.getD k 0 := ⟨_, rfl⟩
      obtain ⟨y, hy⟩ : ∃ y, y = Y.getD k 0 := ⟨_, rfl⟩
      have hcx := HXC.out k (by rw [HLX.out.1]; exact hlt)
      have hcy := HYC.out k (by rw [HLX.out.2]; exact hlt)
      have hix := HAX.out.1 k (by rw [HLX.out.1]; exact hlt)
      have hiy := HAX.out.2 k (by rw [HLX.out.2]; exact hlt)
      rw [← hx] at hcx hix
      rw [← hy] at hcy hiy
      have hsucc := mmK_succ m X Y k
      unfold mmS at hsucc
      rw [← hx, ← hy] at hsucc
      generalize mmK m X Y k = p at hsucc ⊢
      obtain ⟨p1, p2⟩ := p
      simp only at hsucc
      have hff : ∀ w', Below wr.heap.size wr w' → w'.cell? ⟨xb, xo + k, none⟩ = some (.int .i64 x) ∧ w'.cell? ⟨yb, yo + k, none⟩ = some (.int .i64 y) := fun w' h =>
        ⟨((bel_trans HX.out h).cell (p := ⟨xb, xo + k, none⟩) hxb).trans hcx, ((bel_trans HX.out h).cell (p := ⟨yb, yo + k, none⟩) hyb).trans hcy⟩
      have FF := Lib.hid hff
      have hjj := fun w' => HJ.out x y w' hix hiy
      obtain ⟨J, hJ⟩ : ∃ J, J = mJoin m x y := ⟨_, rfl⟩
      rw [← hJ] at hjj hsucc
      have HJJ := Lib.hid hjj
      have hlx : k < X.length := by rw [HLX.out.1]; exact hlt
      have hly : k < Y.length := by rw [HLX.out.2]; exact hlt
      have hlx' : (k : Int) < X.length := by omega
      have hly' : (k : Int) < Y.length := by omega
      have hbb := fun w' => HB.out J p1 w'
      have HSU := Lib.hid hsucc
      clear hx hy hcx hcy hix hiy hsucc hff hjj hJ
      cases hbt : mBet m J p1
      · rw [hbt] at hbb
        have HBB := Lib.hid hbb
        have hs2 := HSU.out
        rw [hbt, if_neg (by decide)] at hs2
        have HS2 := Lib.hid hs2
        clear hbb hbt hs2
        go_wp2
        refine wp_region_below (by kernel_rfl) (by kernel_rfl) ?_
        repeat (go_big_quiet_step ((intro hw1; first | with_reducible rfl | (obtain ⟨f0, f1⟩ := FF.out _ hw1; simp only [f0, f1, Result.andThen]; first | exact ⟨trivial, rfl⟩ | exact ⟨rfl, rfl⟩) | (with_reducible exact quietB (HJJ.out _) hw1))))
        refine wpQuiet_nil ?_
        intro w2 hw2
        go_wp2_with (with_reducible refine (HBB.out _).mono ?_; rintro e w3 ⟨rfl, hb3⟩)
        go_roundw
        case rel => first | exact ⟨k + 1, by omega, by go_num, by rw [HS2.out], by rw [HS2.out], Lib.hid (bel_trans (bel_trans HX.out hw2) hb3)⟩ | ((repeat apply Exists.intro); exact ⟨⟨k + 1, by omega, by go_num, by rw [HS2.out], by rw [HS2.out], Lib.hid (bel_trans (bel_trans HX.out hw2) hb3)⟩, rfl⟩)
        case measure => simp [intOf]; omega
      · rw [hbt] at hbb
        have HBB := Lib.hid hbb
        have hs2 := HSU.out
        rw [hbt, if_pos rfl] at hs2
        have HS2 := Lib.hid hs2
        clear hbb hbt hs2
        go_wp2
        refine wp_region_below (by kernel_rfl) (by kernel_rfl) ?_
        repeat (go_big_quiet_step ((intro hw1; first | with_reducible rfl | (obtain ⟨f0, f1⟩ := FF.out _ hw1; simp only [f0, f1, Result.andThen]; first | exact ⟨trivial, rfl⟩ | exact ⟨rfl, rfl⟩) | (with_reducible exact quietB (HJJ.out _) hw1))))
        refine wpQuiet_nil ?_
        intro w2 hw2
        go_wp2_with (with_reducible refine (HBB.out _).mono ?_; rintro e w3 ⟨rfl, hb3⟩)
        go_roundw
        case rel => first | exact ⟨k + 1, by omega, by go_num, by rw [HS2.out], by rw [HS2.out], Lib.hid (bel_trans (bel_trans HX.out hw2) hb3)⟩ | ((repeat apply Exists.intro); exact ⟨⟨k + 1, by omega, by go_num, by rw [HS2.out], by rw [HS2.out], Lib.hid (bel_trans (bel_trans HX.out hw2) hb3)⟩, rfl⟩)
        case measure => simp [intOf]; omega
    · have hke : k = N := by omega
      have hkk : ¬ ((k : Int) < N) := by omega
      have HK := Lib.hid hke
      clear hke
      go_wp2
      go_ret3
      exact ⟨by rw [HK.out]; rfl, bel_trans K6.out.1 HX.out⟩
end Go.Proofs.Ytaoecegnjhbagaa
namespace Go.Proofs.Ytaoecegnjhbagaa
open Go.RowKit Go.BigFrame Go.Deep
set_option linter.unusedVariables false
set_option linter.unusedSimpArgs false

theorem onOk_cons (n : Int) (es : List Ed) (m a b : Int) : onOk n es m [a, b] = (onOk n es m [a] && inN n b) := by
  unfold onOk
  simp only [List.all_cons, List.all_nil, Bool.and_true]
  cases gVal n es <;> cases inN n a <;> cases inN n b <;> cases mKind m <;> rfl
set_option maxRecDepth 20000 in
set_option maxHeartbeats 4000000 in
theorem sMeetInMiddle (n m a b : Int) (es : List Ed) (s : Value) (w : World) (hs : RowE w s es) (hl : es.length ≤ 1048576) :
    Calls Try.prog 32 #[.agg #[.int .i64 n, s], .int .i64 m, .int .i64 a, .int .i64 b] w fun e w' => e = .returned (.tuple #[.int .i64 (mmR n es m a b).1, .int .i64 (mmR n es m a b).2, .bool (onOk n es m [a, b])]) ∧ Below w.heap.size w w' := by
  obtain ⟨ad, cap, hs0, hz0⟩ := id hs
  subst hs0
  clear hz0
  have hb2 : Below w.heap.size w (w.alloc (.cells #[.int .i64 n, .slice ad es.length cap] 25)) := (Below.refl _ _).alloc (Nat.le_refl _) _
  have hx0 : Box (w.alloc (.cells #[.int .i64 n, .slice ad es.length cap] 25)) w.heap.size 25 #[.int .i64 n, .slice ad es.length cap] := Box.new w _ _
  have hop := fun w' (h : Below w.heap.size w w') => l3Right n m a es (.slice ad es.length cap) w' (hs.keep h) (by omega)
  have K0 := Lib.hid (And.intro hb2 hx0)
  have HS := Lib.hid hs
  clear hb2 hx0 hs
  cases ho1 : onOk n es m [a]
  · have e0 : onOk n es m [a, b] = false := by rw [onOk_cons, ho1]; rfl
    have e1 : mmR n es m a b = (0, 0) := by unfold mmR; rw [e0]; rfl
    rw [e1, e0]
    rw [ho1] at hop
    have HOP := Lib.hid hop
    clear hop e1 e0 ho1
    go_enter Try.func32, Try.ntmps32
    go_wp2_with fail
    generalize (w.alloc (.cells #[.int .i64 n, .slice ad es.length cap] 25)) = v0 at K0 ⊢
    refine (HOP.out _ K0.out.1).mono ?_
    rintro e v1 ⟨rfl, hb1⟩
    have HB1 := Lib.hid (bel_trans K0.out.1 hb1)
    clear hb1
    go_wp2
    go_ret3
    exact ⟨rfl, HB1.out⟩
  rw [ho1] at hop
  have HOP := Lib.hid hop
  by_cases hneg : b < 0
  · have e0 : onOk n es m [a, b] = false := by rw [onOk_cons, ho1]; unfold inN; rw [decide_eq_false (show ¬ (0 ≤ b) by omega)]; rfl
    have e1 : mmR n es m a b = (0, 0) := by unfold mmR; rw [e0]; rfl
    rw [e1, e0]
    clear hop e1 e0 ho1
    go_enter Try.func32, Try.ntmps32
    go_wp2_with fail
    generalize (w.alloc (.cells #[.int .i64 n, .slice ad es.length cap] 25)) = v0 at K0 ⊢
    refine (HOP.out _ K0.out.1).mono ?_
    rintro e v1 ⟨rfl, hb1⟩
    have HB1 := Lib.hid (bel_trans K0.out.1 hb1)
    clear hb1
    go_wp2
    go_ret3
    exact ⟨rfl, HB1.out⟩
  have d0 : decide (b < 0) = false := decide_eq_false hneg
  by_cases hbig : n ≤ b
  · have e0 : onOk n es m [a, b] = false := by rw [onOk_cons, ho1]; unfold inN; rw [decide_eq_false (show ¬ (b < n) by omega), Bool.and_false]; rfl
    have e1 : mmR n es m a b = (0, 0) := by unfold mmR; rw [e0]; rfl
    rw [e1, e0]
    clear hop e1 e0 ho1 hneg
    go_enter Try.func32, Try.ntmps32
    go_wp2_with fail
    generalize (w.alloc (.cells #[.int .i64 n, .slice ad es.length cap] 25)) = v0 at K0 ⊢
    refine (HOP.out _ K0.out.1).mono ?_
    rintro e v1 ⟨rfl, hb1⟩
    have K1 := Lib.hid (And.intro (bel_trans K0.out.1 hb1) (K0.out.2.keep hb1))
    have x0 : v1.cell? ⟨w.heap.size, 0, none⟩ = some (.int .i64 n) := by simpa using K1.out.2.cell 0
    clear hb1
    go_wp2
    go_ret3
    exact ⟨rfl, K1.out.1⟩
  have d1 : decide (n ≤ b) = false := decide_eq_false hbig
  have hok : onOk n es m [a, b] = true := by rw [onOk_cons, ho1]; unfold inN; rw [decide_eq_true (show 0 ≤ b by omega), decide_eq_true (show b < n by omega)]; rfl
  have e1 : mmR n es m a b = mmK m (rtV n es m a) (rtV n (rvL es) m b) n.toNat := by unfold mmR; rw [if_pos hok]
  rw [e1, hok]
  obtain ⟨hg, ha, hb, hm⟩ := onOk_two hok
  have h12 := (gVal_iff.1 hg).1.2.1
  have h40 := (gVal_iff.1 hg).1.2.2
  obtain ⟨N, rfl⟩ : ∃ N : Nat, n = N := ⟨n.toNat, by omega⟩
  obtain ⟨A, rfl⟩ : ∃ A : Nat, a = A := ⟨a.toNat, by omega⟩
  obtain ⟨B, rfl⟩ : ∃ B : Nat, b = B := ⟨b.toNat, by omega⟩
  have hea := eAll_of hg
  have hgr := (rvL_val hg).1
  have hlr := (rvL_val hg).2.2
  have her := eAll_of hgr
  rw [Int.toNat_natCast] at hea her ⊢
  have hrt := fun w' (h : Below w.heap.size w w') => l3View m es N A (.slice ad es.length cap) w' hm (HS.out.keep h) hl (by omega) (by omega) hea
  have hru := fun t w' (h : RowE w' t (rvL es)) => l3View m (rvL es) N B t w' hm h (by omega) (by omega) (by omega) her
  have hre := fun w' (h : Below w.heap.size w w') => l2Reverse N es (.slice ad es.length cap) w' (HS.out.keep h) hl hg
  obtain ⟨X, hX⟩ : ∃ X, X = rtV (N : Int) es m A := ⟨_, rfl⟩
  obtain ⟨Y, hY⟩ : ∃ Y, Y = rtV (N : Int) (rvL es) m B := ⟨_, rfl⟩
  have eX : vIter m es N (vStart m N A) = X := by rw [hX]; unfold rtV; rw [Int.toNat_natCast]
  have eY : vIter m (rvL es) N (vStart m N B) = Y := by rw [hY]; unfold rtV; rw [Int.toNat_natCast]
  rw [eX] at hrt
  rw [eY] at hru
  have hlX : X.length = N := by rw [hX, rtV_length, Int.toNat_natCast]
  have hlY : Y.length = N := by rw [hY, rtV_length, Int.toNat_natCast]
  have haX : vAll m X := by rw [hX]; exact rtV_all hm (by rw [Int.toNat_natCast]; exact hea)
  have haY : vAll m Y := by rw [hY]; exact rtV_all hm (by rw [Int.toNat_natCast]; exact her)
  rw [← hX, ← hY]
  have hmi : ∀ v, mIn m v = true → mIs m v = true := fun v h => by unfold mIs; rw [hm, h]; rfl
  have hjo := fun x y w (h1 : mIn m x = true) (h2 : mIn m y = true) => calls_below (sJoin (m := m) (a := x) (b := y) (by unfold bTwo; rw [hmi x h1, hmi y h2]; rfl) w)
  have hbe := fun x y w => calls_below (sBet hm x y w)
  have hno := fun w => calls_below (sNone hm w)
  have HN := Lib.hid hno
  have HB := Lib.hid hbe
  have HJ := Lib.hid hjo
  have HRT := Lib.hid hrt
  have HRU := Lib.hid hru
  have HRE := Lib.hid hre
  have HLX := Lib.hid (And.intro hlX hlY)
  have HAX := Lib.hid (And.intro haX haY)
  have hN : 1 ≤ N := by omega
  have hN12 : N ≤ 12 := by omega
  have d2 : decide (N ≤ B) = false := decide_eq_false (by omega)
  have d3 : ¬ (N ≤ B) := by omega
  clear d1
  clear hop hrt hru hre hlX hlY haX haY eX eY hX hY e1 hok hg ha hb hm h12 h40 hea hgr hlr her hmi hjo hbe hno ho1 hneg hbig
  go_enter Try.func32, Try.ntmps32
  go_wp2_with fail
  generalize (w.alloc (.cells #[.int .i64 (N : Int), .slice ad es.length cap] 25)) = v0 at K0 ⊢
  refine (HOP.out _ K0.out.1).mono ?_
  rintro e v1 ⟨rfl, hb1⟩
  have K1 := Lib.hid (And.intro (bel_trans K0.out.1 hb1) (K0.out.2.keep hb1))
  have x0 : v1.cell? ⟨w.heap.size, 0, none⟩ = some (.int .i64 N) := by simpa using K1.out.2.cell 0
  have x1 : v1.cell? ⟨w.heap.size, 1, none⟩ = some (.slice ad es.length cap) := by simpa using K1.out.2.cell 1
  clear hb1
  go_wp2_with fail
  refine (HRT.out _ K1.out.1).mono ?_
  rintro e v2 ⟨vx, rfl, hown, hokv, hb2⟩
  obtain ⟨xa, xc, rfl, hz9⟩ := id hown
  clear hz9 x0 x1
  have hb3 : Below v2.heap.size v2 (v2.alloc (.cells #[.int .i64 m, .int .i64 (A : Int), .slice xa X.length xc] 30)) := (Below.refl _ _).alloc (Nat.le_refl _) _
  have hb23 := bel_trans hb2 hb3
  have K3 := Lib.hid (And.intro (bel_trans K1.out.1 hb23) (And.intro (K1.out.2.keep hb23) (And.intro ((OwnV.row hown).keep hb3) (Box.new v2 30 #[.int .i64 m, .int .i64 (A : Int), .slice xa X.length xc]))))
  have hlt2 : w.heap.size < v2.heap.size := Nat.lt_of_lt_of_le K1.out.2.lt hb2.size
  have z0 : v2.cell? ⟨w.heap.size, 0, none⟩ = some (.int .i64 N) := by simpa using (K1.out.2.keep hb2).cell 0
  have z1 : v2.cell? ⟨w.heap.size, 1, none⟩ = some (.slice ad es.length cap) := by simpa using (K1.out.2.keep hb2).cell 1
  clear hb2 hb3 hb23 hown hokv
  go_wp2_with fail
  generalize (v2.alloc (.cells #[.int .i64 m, .int .i64 (A : Int), .slice xa X.length xc] 30)) = v3 at K3 ⊢
  clear z0 z1
  refine (HRE.out _ K3.out.1).mono ?_
  rintro e v4 ⟨vr, rfl, hown, hokv, hb4⟩
  have K4 := Lib.hid (And.intro (bel_trans K3.out.1 hb4) (And.intro (K3.out.2.1.keep hb4) (And.intro (K3.out.2.2.1.keep hb4) (And.intro (K3.out.2.2.2.keep hb4) (InR.edges hown)))))
  clear hb4 hown hokv
  go_wp2_with fail
  refine (HRU.out _ _ K4.out.2.2.2.2).mono ?_
  rintro e v5 ⟨vy, rfl, hown, hokv, hb5⟩
  obtain ⟨ya, yc, rfl, hz9⟩ := id hown
  clear hz9
  have hb6 : Below v5.heap.size v5 (v5.alloc (.cells #[.int .i64 m, .int .i64 (B : Int), .slice ya Y.length yc] 30)) := (Below.refl _ _).alloc (Nat.le_refl _) _
  have hb56 := bel_trans hb5 hb6
  have K6 := Lib.hid (And.intro (bel_trans K4.out.1 hb56) (And.intro (K4.out.2.1.keep hb56) (And.intro (K4.out.2.2.1.keep hb56) (And.intro (K4.out.2.2.2.1.keep hb56) (And.intro ((OwnV.row hown).keep hb6) (Box.new v5 30 #[.int .i64 m, .int .i64 (B : Int), .slice ya Y.length yc]))))))
  clear hb5 hb6 hb56 hown hokv
  go_wp2_with fail
  generalize (v5.alloc (.cells #[.int .i64 m, .int .i64 (B : Int), .slice ya Y.length yc] 30)) = v6 at K6 ⊢
  refine (HN.out _).mono ?_
  rintro e v7 ⟨rfl, hb7⟩
  have K7 := Lib.hid (And.intro (bel_trans K6.out.1 hb7) (And.intro (K6.out.2.1.keep hb7) (And.intro (K6.out.2.2.1.keep hb7) (And.intro (K6.out.2.2.2.1.keep hb7) (And.intro (K6.out.2.2.2.2.1.keep hb7) (K6.out.2.2.2.2.2.keep hb7))))))
  clear hb7
  obtain ⟨xa', xc', exx, hxz⟩ := id K7.out.2.2.1
  obtain ⟨ya', yc', eyy, hyz⟩ := id K7.out.2.2.2.2.1
  injection exx with ex1 ex2 ex3
  injection eyy with ey1 ey2 ey3
  subst ex1 ex3 ey1 ey3
  have hXne : X ≠ [] := by intro h; have := HLX.out.1; rw [h] at this; simp at this; omega
  have hYne : Y ≠ [] := by intro h; have := HLX.out.2; rw [h] at this; simp at this; omega
  rcases hxz with h0 | ⟨xb, xo, rfl, hxb, hxc⟩
  · exact absurd h0 hXne
  rcases hyz with h0 | ⟨yb, yo, rfl, hyb, hyc⟩
  · exact absurd h0 hYne
  have HXC := Lib.hid hxc
  have HYC := Lib.hid hyc
  clear hxc hyc hXne hYne ex2 ey2
  go_wp2
  go_loopw [15, 13, 14] (fun c bst mid wr => ∃ k : Nat, k ≤ N ∧ c = .int .i64 k ∧ bst = .int .i64 (mmK m X Y k).1 ∧ mid = .int .i64 (mmK m X Y k).2 ∧ Hid (Below v7.heap.size v7 wr)) (fun c _ _ _ => N - (intOf c).toNat)
  case atStart => exact ⟨0, Nat.zero_le _, rfl, rfl, rfl, Lib.hid (Below.refl _ _)⟩
  case round =>
    obtain ⟨k, hk, rfl, rfl, rfl, HX⟩ := hrel
    have x0 : wr.cell? ⟨w.heap.size, 0, none⟩ = some (.int .i64 N) := by simpa using (K7.out.2.1.keep HX.out).cell 0
    by_cases hlt : k < N
    · have hlt' : (k : Int) < N := by omega
      obtain ⟨x, hx⟩ : ∃ x, x = X.getD k 0 := ⟨_, rfl⟩
      obtain ⟨y, hy⟩ : ∃ y, y = Y.getD k 0 := ⟨_, rfl⟩
      have hcx := HXC.out k (by rw [HLX.out.1]; exact hlt)
      have hcy := HYC.out k (by rw [HLX.out.2]; exact hlt)
      have hix := HAX.out.1 k (by rw [HLX.out.1]; exact hlt)
      have hiy := HAX.out.2 k (by rw [HLX.out.2]; exact hlt)
      rw [← hx] at hcx hix
      rw [← hy] at hcy hiy
      have hsucc := mmK_succ m X Y k
      unfold mmS at hsucc
      rw [← hx, ← hy] at hsucc
      generalize mmK m X Y k = p at hsucc ⊢
      obtain ⟨p1, p2⟩ := p
      simp only at hsucc
      have hff : ∀ w', Below wr.heap.size wr w' → w'.cell? ⟨xb, xo + k, none⟩ = some (.int .i64 x) ∧ w'.cell? ⟨yb, yo + k, none⟩ = some (.int .i64 y) ∧ w'.cell? ⟨v2.heap.size, 2, none⟩ = some (.slice (some ⟨xb, xo, none⟩) X.length xc) ∧ w'.cell? ⟨v5.heap.size, 2, none⟩ = some (.slice (some ⟨yb, yo, none⟩) Y.length yc) := fun w' h =>
        ⟨((bel_trans HX.out h).cell (p := ⟨xb, xo + k, none⟩) hxb).trans hcx, ((bel_trans HX.out h).cell (p := ⟨yb, yo + k, none⟩) hyb).trans hcy, by simpa using (K7.out.2.2.2.1.keep (bel_trans HX.out h)).cell 2, by simpa using (K7.out.2.2.2.2.2.keep (bel_trans HX.out h)).cell 2⟩
      have FF := Lib.hid hff
      have hjj := fun w' => HJ.out x y w' hix hiy
      obtain ⟨J, hJ⟩ : ∃ J, J = mJoin m x y := ⟨_, rfl⟩
      rw [← hJ] at hjj hsucc
      have HJJ := Lib.hid hjj
      have hlx : k < X.length := by rw [HLX.out.1]; exact hlt
      have hly : k < Y.length := by rw [HLX.out.2]; exact hlt
      have hlx' : (k : Int) < X.length := by omega
      have hly' : (k : Int) < Y.length := by omega
      have hbb := fun w' => HB.out J p1 w'
      have HSU := Lib.hid hsucc
      clear hx hy hcx hcy hix hiy hsucc hff hjj hJ
      cases hbt : mBet m J p1
      · rw [hbt] at hbb
        have HBB := Lib.hid hbb
        have hs2 := HSU.out
        rw [hbt, if_neg (by decide)] at hs2
        have HS2 := Lib.hid hs2
        clear hbb hbt hs2
        go_wp2
        refine wp_region_below (by kernel_rfl) (by kernel_rfl) ?_
        repeat (go_big_quiet_step ((intro hw1; first | with_reducible rfl | (obtain ⟨f0, f1, f2, f3⟩ := FF.out _ hw1; simp only [f0, f1, f2, f3, Result.andThen]; first | exact ⟨trivial, rfl⟩ | exact ⟨rfl, rfl⟩) | (go_at_call 62; exact quietB (HJJ.out _) hw1))))
        refine wpQuiet_nil ?_
        intro w2 hw2
        go_wp2_with (go_at_call 63; refine (HBB.out _).mono ?_; rintro e w3 ⟨rfl, hb3⟩)
        go_roundw
        case rel => first | exact ⟨k + 1, by omega, by go_num, by rw [HS2.out], by rw [HS2.out], Lib.hid (bel_trans (bel_trans HX.out hw2) hb3)⟩ | ((repeat apply Exists.intro); exact ⟨⟨k + 1, by omega, by go_num, by rw [HS2.out], by rw [HS2.out], Lib.hid (bel_trans (bel_trans HX.out hw2) hb3)⟩, rfl⟩)
        case measure => simp [intOf]; omega
      · rw [hbt] at hbb
        have HBB := Lib.hid hbb
        have hs2 := HSU.out
        rw [hbt, if_pos rfl] at hs2
        have HS2 := Lib.hid hs2
        clear hbb hbt hs2
        go_wp2
        refine wp_region_below (by kernel_rfl) (by kernel_rfl) ?_
        repeat (go_big_quiet_step ((intro hw1; first | with_reducible rfl | (obtain ⟨f0, f1, f2, f3⟩ := FF.out _ hw1; simp only [f0, f1, f2, f3, Result.andThen]; first | exact ⟨trivial, rfl⟩ | exact ⟨rfl, rfl⟩) | (go_at_call 62; exact quietB (HJJ.out _) hw1))))
        refine wpQuiet_nil ?_
        intro w2 hw2
        go_wp2_with (go_at_call 63; refine (HBB.out _).mono ?_; rintro e w3 ⟨rfl, hb3⟩)
        go_roundw
        case rel => first | exact ⟨k + 1, by omega, by go_num, by rw [HS2.out], by rw [HS2.out], Lib.hid (bel_trans (bel_trans HX.out hw2) hb3)⟩ | ((repeat apply Exists.intro); exact ⟨⟨k + 1, by omega, by go_num, by rw [HS2.out], by rw [HS2.out], Lib.hid (bel_trans (bel_trans HX.out hw2) hb3)⟩, rfl⟩)
        case measure => simp [intOf]; omega
    · have hke : k = N := by omega
      have hkk : ¬ ((k : Int) < N) := by omega
      have HK := Lib.hid hke
      clear hke
      go_wp2
      go_ret3
      exact ⟨by rw [HK.out]; rfl, bel_trans K7.out.1 HX.out⟩
end Go.Proofs.Ytaoecegnjhbagaa
