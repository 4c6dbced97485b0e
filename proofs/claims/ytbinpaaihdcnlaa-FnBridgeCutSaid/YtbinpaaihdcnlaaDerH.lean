/- BridgeNodes of the model. -/
import Derived.Test.YtbinpaaihdcnlaaDerG
namespace Go.Proofs.Ytbinpaaihdcnlaa
open Go.RowKit Go.BigFrame Go.Deep
set_option linter.unusedVariables false
set_option linter.unusedSimpArgs false

theorem run_fieldV (x y : Int) (a : Option Addr) (n c : Nat) (w : World) : (Instr.field 28 (.agg #[.int .i64 x, .int .i64 y, .slice a n c]) 2).run Try.prog w = .ok (.slice a n c) w := by kernel_rfl
theorem onOk_two (n m a x : Int) (es : List Ed) : onOk n es m [a, x] = (onOk n es m [a] && inN n x) := by
  unfold onOk
  simp only [List.all_cons, List.all_nil, Bool.and_true]
  cases gVal n es <;> cases inN n a <;> cases inN n x <;> cases mKind m <;> rfl

set_option maxRecDepth 20000 in
set_option maxHeartbeats 4000000 in
theorem sBridgeNodes (n a x : Int) (es : List Ed) (s : Value) (w : World) (hs : RowE w s es) (hl : es.length ≤ 281474976710656) :
    Calls Try.prog 37 #[.agg #[.int .i64 n, s], .int .i64 a, .int .i64 x] w fun e w' => ∃ v, e = .returned (.tuple #[v, .bool (brB n es a x)]) ∧ OwnI w w' v (brR n es a x) ∧ Below w.heap.size w w' := by
  obtain ⟨ad, cap, rfl, hz0⟩ := id hs
  clear hz0
  have hfd := run_fieldV
  obtain ⟨W, hW⟩ : ∃ W, W = ((w.alloc (.cells #[.int .i64 n, .slice ad es.length cap] 25)).alloc (.cells #[] 3)) := ⟨_, rfl⟩
  have hbW : Below w.heap.size w W := by rw [hW]; exact ((Below.refl _ _).alloc (Nat.le_refl _) _).alloc (by simp) _
  have hsz : W.heap.size = w.heap.size + 2 := by rw [hW]; simp
  have hres : ∀ w', Below W.heap.size W w' → w'.cell? ⟨w.heap.size, 0, none⟩ = some (.int .i64 n) ∧ w'.cell? ⟨w.heap.size, 1, none⟩ = some (.slice ad es.length cap) := fun w' h =>
    ⟨(h.cell (p := ⟨w.heap.size, 0, none⟩) (by simp only; omega)).trans (by rw [hW]; go_simp), (h.cell (p := ⟨w.heap.size, 1, none⟩) (by simp only; omega)).trans (by rw [hW]; go_simp)⟩
  have how : W.ownsRow w.heap.size 3 1 (.slice (some ⟨w.heap.size + 1, 0, none⟩) 0 0) 0 [] := by rw [hW]; simpa using own_empty (w.alloc (.cells #[.int .i64 n, .slice ad es.length cap] 25)) 3 w.heap.size (by simp)
  have HBOX : Hid (Box W w.heap.size 25 #[.int .i64 n, .slice ad es.length cap]) := Lib.hid (by rw [hW]; exact (Box.new w _ _).alloc _)
  have hr3 := fun w' (h : Below W.heap.size W w') => l3Right n 4 a es _ w' (hs.keep (bel_trans hbW h)) hl
  have HRES := Lib.hid hres
  have HBW := Lib.hid hbW
  have HSZ := Lib.hid hsz
  have HWE := Lib.hid hW
  have HS := Lib.hid hs
  have HOW := Lib.hid how
  clear hres hbW hsz hs how
  unfold brR
  obtain ⟨Gv, hG⟩ : ∃ G, G = onOk n es 4 [a] := ⟨_, rfl⟩
  rw [← hG] at hr3
  have HR3 := Lib.hid hr3
  clear hr3
  cases Gv
  · rw [show brB n es a x = false by unfold brB; rw [onOk_two, ← hG]; rfl, if_neg (by decide)]
    clear hG
    go_enter Try.func37, Try.ntmps37
    go_wp2_with fail
    rw [← hW]
    clear hW
    obtain ⟨j0, j1⟩ := HRES.out _ (Below.refl _ _)
    go_wp2_with (first | (go_at_call 72; refine (HR3.out _ (Below.refl _ _)).mono ?_; rintro e w1 ⟨rfl, hb1⟩; have HB1 := Lib.hid hb1; clear hb1; clear j0 j1; obtain ⟨j0, j1⟩ := HRES.out _ HB1.out))
    go_ret2
    exact ⟨_, rfl, OwnI.of (own_keep (own_keep HOW.out (Below.refl _ _)) HB1.out) (Nat.le_refl _), bel_trans HBW.out HB1.out⟩
  by_cases hx0 : x < 0
  · rw [show brB n es a x = false by unfold brB; rw [onOk_two, show inN n x = false by simp [inN]; omega]; simp, if_neg (by decide)]
    clear hG
    go_enter Try.func37, Try.ntmps37
    go_wp2_with fail
    rw [← hW]
    clear hW
    obtain ⟨j0, j1⟩ := HRES.out _ (Below.refl _ _)
    go_wp2_with (first | (go_at_call 72; refine (HR3.out _ (Below.refl _ _)).mono ?_; rintro e w1 ⟨rfl, hb1⟩; have HB1 := Lib.hid hb1; clear hb1; clear j0 j1; obtain ⟨j0, j1⟩ := HRES.out _ HB1.out))
    go_ret2
    exact ⟨_, rfl, OwnI.of (own_keep (own_keep HOW.out (Below.refl _ _)) HB1.out) (Nat.le_refl _), bel_trans HBW.out HB1.out⟩
  by_cases hxn : n ≤ x
  · rw [show brB n es a x = false by unfold brB; rw [onOk_two, show inN n x = false by simp [inN]; omega]; simp, if_neg (by decide)]
    clear hG
    go_enter Try.func37, Try.ntmps37
    go_wp2_with fail
    rw [← hW]
    clear hW
    obtain ⟨j0, j1⟩ := HRES.out _ (Below.refl _ _)
    go_wp2_with (first | (go_at_call 72; refine (HR3.out _ (Below.refl _ _)).mono ?_; rintro e w1 ⟨rfl, hb1⟩; have HB1 := Lib.hid hb1; clear hb1; clear j0 j1; obtain ⟨j0, j1⟩ := HRES.out _ HB1.out))
    go_ret2
    exact ⟨_, rfl, OwnI.of (own_keep (own_keep HOW.out (Below.refl _ _)) HB1.out) (Nat.le_refl _), bel_trans HBW.out HB1.out⟩
  have hp := onOk_parts hG.symm
  have hn := gVal_n hp.1
  have ha := hp.2.1 a (by simp)
  have h40 := (gVal_parts hp.1).2.2.1
  have he := eAll_of hp.1
  obtain ⟨N, rfl⟩ := Int.eq_ofNat_of_zero_le (show 0 ≤ n by omega)
  obtain ⟨A, rfl⟩ := Int.eq_ofNat_of_zero_le ha.1
  obtain ⟨X, rfl⟩ := Int.eq_ofNat_of_zero_le (show 0 ≤ x by omega)
  have g0 : decide ((X : Int) < 0) = false := decide_eq_false (by omega)
  have g1 : decide ((N : Int) ≤ (X : Int)) = false := decide_eq_false (by omega)
  have g2 : decide (N ≤ X) = false := decide_eq_false (by omega)
  have hA : A < N := by omega
  have hX : X < N := by omega
  rw [Int.toNat_natCast] at he
  have e0 : brB N es A X = rcB 4 es N A X := by unfold brB; rw [onOk_two, ← hG, show inN (N : Int) (X : Int) = true by simp [inN]; omega]; simp
  rw [e0, Int.toNat_natCast, Int.toNat_natCast, Int.toNat_natCast]
  have hlv := fun w' (h : Below W.heap.size W w') => l3View 4 es N A (.slice ad es.length cap) w' (by decide) (HS.out.keep (bel_trans HBW.out h)) (by omega) hA (by omega) he
  have hlen : X < (vIter 4 es N (vStart 4 N A)).length := by rw [vIter_length, vStart_length, Int.toNat_natCast]; exact hX
  obtain ⟨z, hz⟩ : ∃ z, z = (vIter 4 es N (vStart 4 N A)).getD X 0 := ⟨_, rfl⟩
  have erc : rcB 4 es N A X = (z != 0) := by unfold rcB; rw [hz]; rfl
  obtain ⟨VL, hVL⟩ : ∃ L, L = vIter 4 es N (vStart 4 N A) := ⟨_, rfl⟩
  rw [← hVL] at hlv hlen hz
  have hX' : (X : Int) < VL.length := by omega
  have HAT : Hid (∀ (w1 w2 : World) (u : Value), OwnV w1 w2 u VL → ∃ b o c, u = .slice (some ⟨b, o, none⟩) VL.length c ∧ b < w2.heap.size ∧ w2.cell? ⟨b, o + X, none⟩ = some (.int .i64 z)) := Lib.hid (fun w1 w2 u h => by
    obtain ⟨b, o, c, h1, h2, h3⟩ := (InR.rowI h).at hlen
    exact ⟨b, o, c, h1, h2, by rw [hz]; exact h3 X hlen⟩)
  have HLV := Lib.hid hlv
  have HG := Lib.hid hp.1
  rw [erc]
  clear hlv hz hVL erc e0 hp hG ha
  by_cases hz0 : z = 0
  · have dz : (z == 0) = true := by simpa using hz0
    rw [show (z != 0) = false by simpa using hz0, if_neg (by decide)]
    clear hz0
    go_enter Try.func37, Try.ntmps37
    go_wp2_with fail
    rw [← hW]
    clear hW
    obtain ⟨j0, j1⟩ := HRES.out _ (Below.refl _ _)
    go_wp2_with (first | (go_at_call 72; refine (HR3.out _ (Below.refl _ _)).mono ?_; rintro e w1 ⟨rfl, hb1⟩; have HB1 := Lib.hid hb1; clear hb1; clear j0 j1; obtain ⟨j0, j1⟩ := HRES.out _ HB1.out) | (go_at_call 69; (with_reducible refine (HLV.out _ HB1.out).mono ?_); rintro e w2 ⟨u, rfl, hown2, hok2, hb2⟩; obtain ⟨bu, ou, cu, rfl, hbu, hcu⟩ := HAT.out _ _ _ hown2; have HU := Lib.hid hown2; have HB2 := Lib.hid (bel_trans HB1.out hb2); clear hown2 hok2 hb2; clear j0 j1; obtain ⟨j0, j1⟩ := HRES.out _ HB2.out))
    go_ret2
    exact ⟨_, rfl, OwnI.of (own_keep (own_keep HOW.out (Below.refl _ _)) HB2.out) (Nat.le_refl _), bel_trans HBW.out HB2.out⟩
  have dz : (z == 0) = false := by simpa using hz0
  rw [show (z != 0) = true by simpa using hz0, if_pos rfl]
  clear hz0
  obtain ⟨i0, hi, hz0', hz1, hz2⟩ := info_parts info_int2
  have HI : Hid (Try.prog.info? 3 = some i0 ∧ i0.zero = some (.int .i64 0) ∧ i0.size = 1 ∧ i0.bytes = 8) := Lib.hid ⟨hi, hz0', hz1, hz2⟩
  clear hi hz0' hz1 hz2
  go_enter Try.func37, Try.ntmps37
  go_wp2_with fail
  rw [← hW]
  clear hW
  obtain ⟨j0, j1⟩ := HRES.out _ (Below.refl _ _)
  go_wp2_with (first | (go_at_call 72; refine (HR3.out _ (Below.refl _ _)).mono ?_; rintro e w1 ⟨rfl, hb1⟩; have HB1 := Lib.hid hb1; clear hb1; clear j0 j1; obtain ⟨j0, j1⟩ := HRES.out _ HB1.out) | (go_at_call 69; (with_reducible refine (HLV.out _ HB1.out).mono ?_); rintro e w2 ⟨u, rfl, hown2, hok2, hb2⟩; obtain ⟨bu, ou, cu, rfl, hbu, hcu⟩ := HAT.out _ _ _ hown2; have HU := Lib.hid hown2; have HB2 := Lib.hid (bel_trans HB1.out hb2); clear hown2 hok2 hb2; clear j0 j1; obtain ⟨j0, j1⟩ := HRES.out _ HB2.out))
  clear j0 j1 hcu hbu
  go_loopw [10, 8] (fun c v wr => ∃ k : Nat, k ≤ N ∧ c = .int .i64 k ∧ Below w.heap.size w wr ∧ Box wr w.heap.size 25 #[.int .i64 N, .slice ad es.length cap] ∧ wr.ownsRow w.heap.size 3 1 v (nwL k (brP es N A X)).length ((nwL k (brP es N A X)).map (Value.int .i64))) (fun c _ _ => N - (intOf c).toNat)
  case atStart => exact ⟨0, Nat.zero_le _, rfl, bel_trans HBW.out HB2.out, HBOX.out.keep HB2.out, own_keep (own_keep HOW.out (Below.refl _ _)) HB2.out⟩
  case round =>
    obtain ⟨k, hk, rfl, hbel, hbx, hown⟩ := hrel
    have HO := Lib.hid hown
    have HL := Lib.hid hbel
    have HX := Lib.hid hbx
    have x0 : wr.cell? ⟨w.heap.size, 0, none⟩ = some (.int .i64 N) := by simpa using hbx.cell 0
    have x1 : wr.cell? ⟨w.heap.size, 1, none⟩ = some (.slice ad es.length cap) := by simpa using hbx.cell 1
    have hwr := hbel.size
    clear hown hbx hbel
    by_cases hlt : k < N
    · have hlt' : (k : Int) < N := by omega
      have ht := nwL_succ k (brP es N A X)
      have hln := nwL_len k (brP es N A X)
      by_cases hkA : (k : Int) = A
      · have d1 : ((k : Int) == A) = true := by simpa using hkA
        rw [show brP es N A X (k : Int) = false by unfold brP; rw [show ((k : Int) != A) = false by simpa using hkA]; rfl, if_neg (by decide), List.append_nil] at ht
        have HTT := Lib.hid ht
        clear ht hkA
        go_wp2
        go_roundw
        case rel => first | exact ⟨k + 1, by omega, by go_num, HL.out, HX.out, by rw [HTT.out]; exact HO.out⟩ | ((repeat apply Exists.intro); exact ⟨⟨k + 1, by omega, by go_num, HL.out, HX.out, by rw [HTT.out]; exact HO.out⟩, rfl⟩)
        case measure => simp [intOf]; omega
      have d1 : ((k : Int) == A) = false := by simpa using hkA
      by_cases hkX : (k : Int) = X
      · have d2 : ((k : Int) == X) = true := by simpa using hkX
        rw [show brP es N A X (k : Int) = false by unfold brP; rw [show ((k : Int) != X) = false by simpa using hkX]; simp, if_neg (by decide), List.append_nil] at ht
        have HTT := Lib.hid ht
        clear ht hkA hkX
        go_wp2
        go_roundw
        case rel => first | exact ⟨k + 1, by omega, by go_num, HL.out, HX.out, by rw [HTT.out]; exact HO.out⟩ | ((repeat apply Exists.intro); exact ⟨⟨k + 1, by omega, by go_num, HL.out, HX.out, by rw [HTT.out]; exact HO.out⟩, rfl⟩)
        case measure => simp [intOf]; omega
      have d2 : ((k : Int) == X) = false := by simpa using hkX
      have HA : Hid (Below wr.heap.size wr (wr.alloc (.cells #[.int .i64 k] 3))) := Lib.hid ((Below.refl _ _).alloc (Nat.le_refl _) _)
      have HR1 : Hid (Row (wr.alloc (.cells #[.int .i64 k] 3)) (.slice (some ⟨wr.heap.size, 0, none⟩) 1 1) [(k : Int)]) := Lib.hid (row_one wr k _)
      have hwi := fun w'' (h : Below w.heap.size w w'') (ht : Row w'' (.slice (some ⟨wr.heap.size, 0, none⟩) 1 1) [(k : Int)]) => l10Without N es [(k : Int)] _ _ w'' (HS.out.keep h) ht (by omega) (by simp)
      have hlw := fun (v : Value) w'' (h : RowE w'' v (woL es [(k : Int)])) => l3View 4 (woL es [(k : Int)]) N A v w'' (by decide) h (Nat.le_trans (filter_lenE _ _) (by omega)) hA (by omega) (by have := eAll_of (gVal_filter (woP [(k : Int)]) HG.out); rwa [Int.toNat_natCast] at this)
      have hlen2 : X < (vIter 4 (woL es [(k : Int)]) N (vStart 4 N A)).length := by rw [vIter_length, vStart_length, Int.toNat_natCast]; exact hX
      obtain ⟨y, hy⟩ : ∃ y, y = (vIter 4 (woL es [(k : Int)]) N (vStart 4 N A)).getD X 0 := ⟨_, rfl⟩
      have ebr : brP es N A X (k : Int) = (y == 0) := by
        unfold brP rcB
        rw [show ((k : Int) != A) = true by simpa using hkA, show ((k : Int) != X) = true by simpa using hkX, ← hy, show mNone 4 = 0 from rfl, Bool.true_and, Bool.true_and]
        exact Bool.not_not _
      obtain ⟨YL, hYL⟩ : ∃ L, L = vIter 4 (woL es [(k : Int)]) N (vStart 4 N A) := ⟨_, rfl⟩
      rw [← hYL] at hlw hlen2 hy
      have hX2 : (X : Int) < YL.length := by omega
      have HAT2 : Hid (∀ (w1 w2 : World) (u : Value), OwnV w1 w2 u YL → ∃ b o c, u = .slice (some ⟨b, o, none⟩) YL.length c ∧ b < w2.heap.size ∧ w2.cell? ⟨b, o + X, none⟩ = some (.int .i64 y)) := Lib.hid (fun w1 w2 u h => by
        obtain ⟨b, o, c, h1, h2, h3⟩ := (InR.rowI h).at hlen2
        exact ⟨b, o, c, h1, h2, by rw [hy]; exact h3 X hlen2⟩)
      generalize woL es [(k : Int)] = L at hwi hlw
      have HWI := Lib.hid hwi
      have HLW := Lib.hid hlw
      rw [ebr] at ht
      clear hwi hlw hy hYL ebr hkA hkX
      by_cases hy0 : y = 0
      · have dy : (y == 0) = true := by simpa using hy0
        rw [dy, if_pos rfl] at ht
        have HTT := Lib.hid ht
        clear ht hy0
        obtain ⟨hi, hz0, hz1, hz2⟩ := HI.out
        go_wp2_with (first | (go_at_call 74; (with_reducible refine (HWI.out _ (bel_trans HL.out HA.out) HR1.out).mono ?_); rintro e w3 ⟨v3, rfl, hown3, hok3, hb3⟩; have HO3 := Lib.hid hown3; have HB3 := Lib.hid (bel_trans HA.out hb3); clear hown3 hok3 hb3) | (go_at_call 69; (with_reducible refine (HLW.out _ _ (OwnE.rowD HO3.out)).mono ?_); rintro e w4 ⟨u4, rfl, hown4, hok4, hb4⟩; obtain ⟨b4, o4, c4, rfl, hb4l, hc4⟩ := HAT2.out _ _ _ hown4; have HB4 := Lib.hid (bel_trans HB3.out hb4); clear hown4 hok4 hb4) | (at_builtin; refine wpList_append_own _ rfl (.tmp 65) (.tmp 67) 26 rfl w.heap.size 3 i0 (.int .i64 0) 1 8 Try.underlying26 hi hz0 hz1 hz2 rfl (by decide) _ _ _ rfl ((own_keep HO.out HB4.out).alloc _) ⟨w4.heap.size, 0, none⟩ 1 1 [.int .i64 (k : Int)] rfl rfl ?c1 ?c2 ?c3 ?c4 ?c5 ?_))
        case c1 => exact fun j u hj => by simpa using cell_one_new w4 (.int .i64 (k : Int)) 3 j u hj
        case c2 => simp [Value.oneCell']
        case c3 => unfold maxLen; omega
        case c4 => omega
        case c5 => have := (bel_trans HL.out HB4.out).size; simp; omega
        intro v' w6 hown6 hgrow6 _
        have hown6' : w6.ownsRow w.heap.size 3 1 v' (nwL (k + 1) (brP es N A X)).length ((nwL (k + 1) (brP es N A X)).map (Value.int .i64)) := by rw [HTT.out]; simpa using hown6
        have H7 := Lib.hid hown6'
        have HX6 := Lib.hid (Box.grown ((HX.out.keep HB4.out).alloc _) hgrow6 ((own_keep HO.out HB4.out).alloc _) (by decide))
        have H8 : Hid (Below w.heap.size w w6) := Lib.hid (((bel_trans HL.out HB4.out).alloc (bel_trans HL.out HB4.out).size _).grown hgrow6 (by have := (bel_trans HL.out HB4.out).size; simp; omega) (fun q hq => ((own_keep HO.out HB4.out).lt q hq).1))
        clear hown6 hown6' hgrow6 hi hz0 hz1 hz2 x0 x1
        go_wp2
        go_roundw
        case rel => first | exact ⟨k + 1, by omega, by go_num, H8.out, HX6.out, H7.out⟩ | ((repeat apply Exists.intro); exact ⟨⟨k + 1, by omega, by go_num, H8.out, HX6.out, H7.out⟩, rfl⟩)
        case measure => simp [intOf]; omega
      · have dy : (y == 0) = false := by simpa using hy0
        rw [dy, if_neg (by decide), List.append_nil] at ht
        have HTT := Lib.hid ht
        clear ht hy0
        go_wp2_with (first | (go_at_call 74; (with_reducible refine (HWI.out _ (bel_trans HL.out HA.out) HR1.out).mono ?_); rintro e w3 ⟨v3, rfl, hown3, hok3, hb3⟩; have HO3 := Lib.hid hown3; have HB3 := Lib.hid (bel_trans HA.out hb3); clear hown3 hok3 hb3) | (go_at_call 69; (with_reducible refine (HLW.out _ _ (OwnE.rowD HO3.out)).mono ?_); rintro e w4 ⟨u4, rfl, hown4, hok4, hb4⟩; obtain ⟨b4, o4, c4, rfl, hb4l, hc4⟩ := HAT2.out _ _ _ hown4; have HB4 := Lib.hid (bel_trans HB3.out hb4); clear hown4 hok4 hb4))
        go_roundw
        case rel => first | exact ⟨k + 1, by omega, by go_num, bel_trans HL.out HB4.out, HX.out.keep HB4.out, by rw [HTT.out]; exact own_keep HO.out HB4.out⟩ | ((repeat apply Exists.intro); exact ⟨⟨k + 1, by omega, by go_num, bel_trans HL.out HB4.out, HX.out.keep HB4.out, by rw [HTT.out]; exact own_keep HO.out HB4.out⟩, rfl⟩)
        case measure => simp [intOf]; omega
    · have hke : k = N := by omega
      have hkk : ¬ ((k : Int) < N) := by omega
      rw [hke] at HO
      have HKE := Lib.hid hke
      clear hke
      go_wp2
      go_ret2
      exact ⟨_, rfl, OwnI.of HO.out (Nat.le_refl _), HL.out⟩
end Go.Proofs.Ytbinpaaihdcnlaa
