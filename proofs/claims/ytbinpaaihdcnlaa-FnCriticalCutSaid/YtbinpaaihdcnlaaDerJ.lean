/- CriticalEdges of the model. -/
import Derived.Test.YtbinpaaihdcnlaaDerI
import Derived.Test.YtbinpaaihdcnlaaOwnX
import Derived.Test.YtbinpaaihdcnlaaVSame2
import Derived.Deep.RegionHeld3
namespace Go.Proofs.Ytbinpaaihdcnlaa
open Go.RowKit Go.BigFrame Go.Deep
set_option linter.unusedVariables false
set_option linter.unusedSimpArgs false

set_option maxRecDepth 20000 in
set_option maxHeartbeats 4000000 in
theorem sCriticalEdges (n m a : Int) (es : List Ed) (s : Value) (w : World) (hs : RowE w s es) (hl : es.length ≤ 281474976710656) :
    Calls Try.prog 42 #[.agg #[.int .i64 n, s], .int .i64 m, .int .i64 a] w fun e w' => ∃ v, e = .returned (.tuple #[v, .bool (onOk n es m [a])]) ∧ OwnE w w' v (ceR n es m a) ∧ Below w.heap.size w w' := by
  obtain ⟨ad, cap, rfl, hz0⟩ := id hs
  have hz := Lib.hid hz0
  clear hz0
  obtain ⟨W, hW⟩ : ∃ W, W = ((w.alloc (.cells #[.int .i64 n, .slice ad es.length cap] 25)).alloc (.cells #[] 71)) := ⟨_, rfl⟩
  have hbW : Below w.heap.size w W := by rw [hW]; exact ((Below.refl _ _).alloc (Nat.le_refl _) _).alloc (by simp) _
  have hsz : W.heap.size = w.heap.size + 2 := by rw [hW]; simp
  have hres : ∀ w', Below W.heap.size W w' → w'.cell? ⟨w.heap.size, 0, none⟩ = some (.int .i64 n) ∧ w'.cell? ⟨w.heap.size, 1, none⟩ = some (.slice ad es.length cap) := fun w' h =>
    ⟨(h.cell (p := ⟨w.heap.size, 0, none⟩) (by simp only; omega)).trans (by rw [hW]; go_simp), (h.cell (p := ⟨w.heap.size, 1, none⟩) (by simp only; omega)).trans (by rw [hW]; go_simp)⟩
  have how : W.ownsRow w.heap.size 71 3 (.slice (some ⟨w.heap.size + 1, 0, none⟩) 0 0) 0 [] := by rw [hW]; simpa using own_empty3 (w.alloc (.cells #[.int .i64 n, .slice ad es.length cap] 25)) 71 3 w.heap.size (by simp)
  have HBOX : Hid (Box W w.heap.size 25 #[.int .i64 n, .slice ad es.length cap]) := Lib.hid (by rw [hW]; exact (Box.new w _ _).alloc _)
  have hr3 := fun w' (h : Below W.heap.size W w') => l3Right n m a es _ w' (hs.keep (bel_trans hbW h)) hl
  have HRES := Lib.hid hres
  have HBW := Lib.hid hbW
  have HSZ := Lib.hid hsz
  have HWE := Lib.hid hW
  have HS := Lib.hid hs
  have HOW := Lib.hid how
  clear hres hbW hsz hs how
  unfold ceR
  obtain ⟨Gv, hG⟩ : ∃ G, G = onOk n es m [a] := ⟨_, rfl⟩
  rw [← hG] at hr3 ⊢
  have HR3 := Lib.hid hr3
  clear hr3
  cases Gv
  · rw [if_neg (by decide)]
    clear hG
    go_enter Try.func42, Try.ntmps42
    go_wp2_with fail
    rw [← hW]
    clear hW
    obtain ⟨j0, j1⟩ := HRES.out _ (Below.refl _ _)
    go_wp2_with (go_at_call 72; refine (HR3.out _ (Below.refl _ _)).mono ?_; rintro e w1 ⟨rfl, hb1⟩; have HB1 := Lib.hid hb1; clear hb1; clear j0 j1; obtain ⟨j0, j1⟩ := HRES.out _ HB1.out)
    go_ret2
    exact ⟨_, rfl, OwnE.of (own_keep3 (own_keep3 HOW.out (Below.refl _ _)) HB1.out) (Nat.le_refl _), bel_trans HBW.out HB1.out⟩
  rw [if_pos rfl]
  have hp := onOk_parts hG.symm
  have hm := hp.2.2
  have hn := gVal_n hp.1
  have ha := hp.2.1 a (by simp)
  have h40 := (gVal_parts hp.1).2.2.1
  have he := eAll_of hp.1
  obtain ⟨N, rfl⟩ := Int.eq_ofNat_of_zero_le (show 0 ≤ n by omega)
  obtain ⟨A, rfl⟩ := Int.eq_ofNat_of_zero_le ha.1
  have hA : A < N := by omega
  rw [Int.toNat_natCast] at he
  rw [Int.toNat_natCast, Int.toNat_natCast]
  have hlv := fun w' (h : Below W.heap.size W w') => l3View m es N A (.slice ad es.length cap) w' hm (HS.out.keep (bel_trans HBW.out h)) (by omega) hA (by omega) he
  obtain ⟨R, hR⟩ : ∃ R, R = vIter m es N (vStart m N A) := ⟨_, rfl⟩
  have hRl : R.length ≤ 281474976710656 := by rw [hR, vIter_length, vStart_length]; omega
  rw [← hR] at hlv
  have HLV := Lib.hid hlv
  have HG := Lib.hid hp.1
  have HR := Lib.hid hR
  clear hlv hG hp ha he hR
  obtain ⟨i0, hi, hz0', hz1, hz2⟩ := info_parts info_edge
  have HI : Hid (Try.prog.info? 71 = some i0 ∧ i0.zero = some (.agg #[.int .i64 0, .int .i64 0, .int .i64 0]) ∧ i0.size = 3 ∧ i0.bytes = 24) := Lib.hid ⟨hi, hz0', hz1, hz2⟩
  clear hi hz0' hz1 hz2
  go_enter Try.func42, Try.ntmps42
  go_wp2_with fail
  rw [← hW]
  clear hW
  obtain ⟨j0, j1⟩ := HRES.out _ (Below.refl _ _)
  go_wp2_with (first | (go_at_call 72; refine (HR3.out _ (Below.refl _ _)).mono ?_; rintro e w1 ⟨rfl, hb1⟩; have HB1 := Lib.hid hb1; clear hb1; clear j0 j1; obtain ⟨j0, j1⟩ := HRES.out _ HB1.out) | (go_at_call 69; (with_reducible refine (HLV.out _ HB1.out).mono ?_); rintro e w2 ⟨u, rfl, hown2, hok2, hb2⟩; obtain ⟨ua, uc, rfl⟩ := hown2.slice; have HU := Lib.hid (InR.rowI hown2); have HB2 := Lib.hid (bel_trans HB1.out hb2); clear hown2 hok2 hb2))
  clear j0 j1
  have HV0 : Hid (Below w2.heap.size w2 (w2.alloc (.cells #[.int .i64 m, .int .i64 A, .slice ua R.length uc] 28))) := Lib.hid ((Below.refl _ _).alloc (Nat.le_refl _) _)
  have HVB : Hid (Box (w2.alloc (.cells #[.int .i64 m, .int .i64 A, .slice ua R.length uc] 28)) w2.heap.size 28 #[.int .i64 m, .int .i64 A, .slice ua R.length uc]) := Lib.hid (Box.new w2 _ _)
  have hs2 := HB2.out.size
  have hsW := HSZ.out
  have HUU : Hid (Row (w2.alloc (.cells #[.int .i64 m, .int .i64 A, .slice ua R.length uc] 28)) (.slice ua R.length uc) R) := Lib.hid (HU.out.keep HV0.out)
  have HG2 : Hid (Box (w2.alloc (.cells #[.int .i64 m, .int .i64 A, .slice ua R.length uc] 28)) w.heap.size 25 #[.int .i64 N, .slice ad es.length cap]) := Lib.hid ((HBOX.out.keep HB2.out).keep HV0.out)
  have HO2 : Hid ((w2.alloc (.cells #[.int .i64 m, .int .i64 A, .slice ua R.length uc] 28)).ownsRow w.heap.size 71 3 (.slice (some ⟨w.heap.size + 1, 0, none⟩) 0 0) 0 []) := Lib.hid (own_keep3 (own_keep3 HOW.out HB2.out) HV0.out)
  have HBV : Hid (Below w.heap.size w (w2.alloc (.cells #[.int .i64 m, .int .i64 A, .slice ua R.length uc] 28))) := Lib.hid (bel_trans HBW.out (bel_trans HB2.out HV0.out))
  have hsv : (w2.alloc (.cells #[.int .i64 m, .int .i64 A, .slice ua R.length uc] 28)).heap.size = w2.heap.size + 1 := by simp
  generalize (w2.alloc (.cells #[.int .i64 m, .int .i64 A, .slice ua R.length uc] 28)) = VX at HV0 HVB HUU HG2 HO2 HBV hsv ⊢
  have HSV := Lib.hid hsv
  clear hsv
  go_loopw [10, 8] (fun c v wr => ∃ k : Nat, k ≤ es.length ∧ c = .int .i64 k ∧ Below VX.heap.size VX wr ∧ OwnOr wr w.heap.size VX.heap.size 71 3 v ((es.take k).filter (ceP m es N A)).length (cellsE ((es.take k).filter (ceP m es N A)))) (fun c _ _ => es.length - (intOf c).toNat)
  case atStart => exact ⟨0, Nat.zero_le _, rfl, Below.refl _ _, .inr ⟨⟨_, rfl⟩, rfl, rfl, HO2.out⟩⟩
  case round =>
    obtain ⟨k, hk, rfl, hbel, hown⟩ := hrel
    have HO := Lib.hid hown
    have HL := Lib.hid hbel
    have hg2 := HG2.out.keep hbel
    have x0 : wr.cell? ⟨w.heap.size, 0, none⟩ = some (.int .i64 N) := by simpa using hg2.cell 0
    have x1 : wr.cell? ⟨w.heap.size, 1, none⟩ = some (.slice ad es.length cap) := by simpa using hg2.cell 1
    have hwr := hbel.size
    clear hown
    by_cases hlt : k < es.length
    · have hlt' : (k : Int) < es.length := by omega
      rcases hz.out with h0 | ⟨b0, off, rfl, hb, hc⟩
      · rw [h0] at hlt; simp at hlt
      obtain ⟨x, y, z, hx⟩ : ∃ x y z, (x, y, z) = es.getD k (0, 0, 0) := ⟨_, _, _, rfl⟩
      have h1 := hc k hlt
      rw [← hx] at h1
      simp only at h1
      have ff : ∀ q, Below wr.heap.size wr q → q.cell? ⟨w.heap.size, 0, none⟩ = some (.int .i64 N) ∧ q.cell? ⟨w.heap.size, 1, none⟩ = some (.slice (some ⟨b0, off, none⟩) es.length cap) ∧ q.cell? ⟨b0, off + k * 3, none⟩ = some (.int .i64 x) ∧ q.cell? ⟨b0, off + k * 3 + 1, none⟩ = some (.int .i64 y) ∧ q.cell? ⟨w2.heap.size, 0, none⟩ = some (.int .i64 m) ∧ q.cell? ⟨w2.heap.size, 1, none⟩ = some (.int .i64 A) ∧ q.cell? ⟨w2.heap.size, 2, none⟩ = some (.slice ua R.length uc) := fun q h => by
        have hb' := bel_trans hbel h
        have hbw := bel_trans HBV.out hb'
        exact ⟨by simpa using (HG2.out.keep hb').cell 0, by simpa using (HG2.out.keep hb').cell 1, (hbw.cell (p := ⟨b0, off + k * 3, none⟩) hb).trans h1.1, (hbw.cell (p := ⟨b0, off + k * 3 + 1, none⟩) hb).trans h1.2.1, by simpa using (HVB.out.keep hb').cell 0, by simpa using (HVB.out.keep hb').cell 1, by simpa using (HVB.out.keep hb').cell 2⟩
      have ht := filter_takeE (ceP m es N A) es hlt
      rw [← hx] at ht
      have hc3 : ∀ q, Below wr.heap.size wr q → q.cell? ⟨b0, off + k * 3 + 2, none⟩ = some (.int .i64 z) := fun q h => ((bel_trans HBV.out (bel_trans hbel h)).cell (p := ⟨b0, off + k * 3 + 2, none⟩) hb).trans h1.2.2
      have hln : ((es.take k).filter (ceP m es N A)).length ≤ k := Nat.le_trans (filter_lenE _ _) (by simp; omega)
      have hcu := fun q (h : Below wr.heap.size wr q) => l2Cut N es x y _ q (HS.out.keep (bel_trans HBV.out (bel_trans hbel h))) (by omega)
      have hec : eAll N (cutL es x y) := by have := eAll_of (gVal_filter (fun e => !(eBe x y e)) HG.out); rwa [Int.toNat_natCast] at this
      have hlc : (cutL es x y).length ≤ 1048576 := Nat.le_trans (cutL_len _ _ _) (by omega)
      have hlw := fun (v : Value) q (h : RowE q v (cutL es x y)) => l3View m (cutL es x y) N A v q hm h hlc hA (by omega) hec
      have hYl : (vIter m (cutL es x y) N (vStart m N A)).length ≤ 281474976710656 := by rw [vIter_length, vStart_length]; omega
      have hvs := fun (u : Value) q (h : Below wr.heap.size wr q) (hu : Row q u (vIter m (cutL es x y) N (vStart m N A))) => sViewSame m A m A _ _ u _ q hu (HUU.out.keep (bel_trans hbel h)) hYl hRl
      have ecp : ceP m es N A (x, y, z) = !(vSame m A (vIter m (cutL es x y) N (vStart m N A)) m A R) := by unfold ceP vSame; rw [HR.out]; simp
      rw [ecp] at ht
      generalize vSame m A (vIter m (cutL es x y) N (vStart m N A)) m A R = P at hvs ht
      generalize vIter m (cutL es x y) N (vStart m N A) = Y at hlw hvs
      generalize cutL es x y = L at hcu hlw
      have FF := Lib.hid ff
      have HC3 := Lib.hid hc3
      have HCU := Lib.hid hcu
      have HLW := Lib.hid hlw
      have HVS := Lib.hid hvs
      clear hc h1 hx ff hc3 hcu hlw hvs hec hlc hYl ecp hg2 hbel x0 x1
      cases P
      · rw [if_pos (by decide)] at ht
        have HT := Lib.hid ht
        clear ht
        obtain ⟨j0, j1, j2, j3, j4, j5, j6⟩ := FF.out _ (Below.refl _ _)
        go_wp2_with fail
        go_region_held3 (fun q : World => q.cell? ⟨w.heap.size, 0, none⟩ = some (.int .i64 N) ∧ q.cell? ⟨w.heap.size, 1, none⟩ = some (.slice (some ⟨b0, off, none⟩) es.length cap) ∧ q.cell? ⟨b0, off + k * 3, none⟩ = some (.int .i64 x) ∧ q.cell? ⟨b0, off + k * 3 + 1, none⟩ = some (.int .i64 y) ∧ q.cell? ⟨w2.heap.size, 0, none⟩ = some (.int .i64 m) ∧ q.cell? ⟨w2.heap.size, 1, none⟩ = some (.int .i64 A) ∧ q.cell? ⟨w2.heap.size, 2, none⟩ = some (.slice ua R.length uc)) (first | (with_reducible exact FF.out _ (Below.refl _ _)) | (with_reducible exact FF.out _ (Below.refl _ _).drew) | (with_reducible exact FF.out _ (bel_trans (Below.refl _ _).drew hbA)) | (with_reducible exact FF.out _ (bel_trans (bel_trans (Below.refl _ _).drew hbA) hbB)) | (with_reducible exact FF.out _ (bel_trans (bel_trans (bel_trans (Below.refl _ _).drew hbA) hbB) hbC))) (first | (go_at_call 88; (with_reducible refine (HCU.out _ (Below.refl _ _).drew).mono ?_); rintro e wA ⟨v1, rfl, hown1, hok1, hbA⟩; have HO1 := Lib.hid (OwnE.rowD hown1); clear hown1 hok1) | (go_at_call 69; (with_reducible refine (HLW.out _ _ HO1.out).mono ?_); rintro e wB ⟨u1, rfl, hownB, hokB, hbB⟩; obtain ⟨uaB, ucB, rfl⟩ := hownB.slice; have HUB := Lib.hid (InR.rowI hownB); clear hownB hokB) | (go_at_call 47; (with_reducible refine (HVS.out _ _ (bel_trans (bel_trans (Below.refl _ _).drew hbA) hbB) HUB.out).mono ?_); rintro e wC ⟨rfl, hbC⟩))
        obtain ⟨hi, hz0, hz1, hz2⟩ := HI.out
        have HBC : Hid (Below wr.heap.size wr wC) := Lib.hid (bel_trans (bel_trans (bel_trans (Below.refl _ _).drew hbA) hbB) hbC)
        clear j0 j1 j2 j3 j4 j5 j6
        clear hbA hbB hbC
        obtain ⟨j0, j1, j2, j3, j4, j5, j6⟩ := FF.out _ HBC.out
        have j7 := HC3.out _ HBC.out
        go_wp2_with (at_builtin; refine wpList_append_x rfl (.tmp 49) (.tmp 55) 23 rfl w.heap.size VX.heap.size 71 i0 (.agg #[.int .i64 0, .int .i64 0, .int .i64 0]) 3 24 Try.underlying23 hi hz0 hz1 hz2 rfl (by decide) _ _ _ rfl ((HO.out.keep HBC.out).keep ((Below.refl _ _).alloc (Nat.le_refl _) _)) ⟨wC.heap.size, 0, none⟩ 1 1 [.int .i64 x, .int .i64 y, .int .i64 z] (by decide) rfl rfl ?c1 ?c2 ?c3 ?c4 ?c6 ?c5 ?_)
        case c1 => exact cells_new3 _ _ _ _ _
        case c2 => simp [Value.oneCell']
        case c3 => unfold maxLen; omega
        case c4 => omega
        case c6 => have h1 := HBV.out.size; have h2 := (bel_trans HL.out HBC.out).size; simp; omega
        case c5 => have := (bel_trans HL.out HBC.out).size; simp; omega
        intro v' w6 r6 hown6 hgrow6 hr6
        have H7 : Hid (OwnOr w6 w.heap.size VX.heap.size 71 3 v' ((es.take (k + 1)).filter (ceP m es N A)).length (cellsE ((es.take (k + 1)).filter (ceP m es N A)))) := Lib.hid (.inl (by rw [HT.out, List.length_append, cellsE_app, cellsE_one1]; exact hown6))
        have H8 : Hid (Below VX.heap.size VX w6) := Lib.hid (((bel_trans HL.out HBC.out).alloc (bel_trans HL.out HBC.out).size _).grown hgrow6 (by have := (bel_trans HL.out HBC.out).size; simp; omega) (fun q hq => (hr6 q hq).1))
        clear hown6 hgrow6 hr6 hi hz0 hz1 hz2 j0 j1 j2 j3 j4 j5 j6 j7
        go_wp2
        go_roundw
        case rel => first | exact ⟨k + 1, by omega, by go_num, H8.out, H7.out⟩ | ((repeat apply Exists.intro); exact ⟨⟨k + 1, by omega, by go_num, H8.out, H7.out⟩, rfl⟩)
        case measure => simp [intOf]; omega
      · rw [if_neg (by decide), List.append_nil] at ht
        have HT := Lib.hid ht
        clear ht
        obtain ⟨j0, j1, j2, j3, j4, j5, j6⟩ := FF.out _ (Below.refl _ _)
        go_wp2_with fail
        go_region_held3 (fun q : World => q.cell? ⟨w.heap.size, 0, none⟩ = some (.int .i64 N) ∧ q.cell? ⟨w.heap.size, 1, none⟩ = some (.slice (some ⟨b0, off, none⟩) es.length cap) ∧ q.cell? ⟨b0, off + k * 3, none⟩ = some (.int .i64 x) ∧ q.cell? ⟨b0, off + k * 3 + 1, none⟩ = some (.int .i64 y) ∧ q.cell? ⟨w2.heap.size, 0, none⟩ = some (.int .i64 m) ∧ q.cell? ⟨w2.heap.size, 1, none⟩ = some (.int .i64 A) ∧ q.cell? ⟨w2.heap.size, 2, none⟩ = some (.slice ua R.length uc)) (first | (with_reducible exact FF.out _ (Below.refl _ _)) | (with_reducible exact FF.out _ (Below.refl _ _).drew) | (with_reducible exact FF.out _ (bel_trans (Below.refl _ _).drew hbA)) | (with_reducible exact FF.out _ (bel_trans (bel_trans (Below.refl _ _).drew hbA) hbB)) | (with_reducible exact FF.out _ (bel_trans (bel_trans (bel_trans (Below.refl _ _).drew hbA) hbB) hbC))) (first | (go_at_call 88; (with_reducible refine (HCU.out _ (Below.refl _ _).drew).mono ?_); rintro e wA ⟨v1, rfl, hown1, hok1, hbA⟩; have HO1 := Lib.hid (OwnE.rowD hown1); clear hown1 hok1) | (go_at_call 69; (with_reducible refine (HLW.out _ _ HO1.out).mono ?_); rintro e wB ⟨u1, rfl, hownB, hokB, hbB⟩; obtain ⟨uaB, ucB, rfl⟩ := hownB.slice; have HUB := Lib.hid (InR.rowI hownB); clear hownB hokB) | (go_at_call 47; (with_reducible refine (HVS.out _ _ (bel_trans (bel_trans (Below.refl _ _).drew hbA) hbB) HUB.out).mono ?_); rintro e wC ⟨rfl, hbC⟩))
        have HBC : Hid (Below wr.heap.size wr wC) := Lib.hid (bel_trans (bel_trans (bel_trans (Below.refl _ _).drew hbA) hbB) hbC)
        clear hbA hbB hbC
        go_wp2
        go_roundw
        case rel => first | exact ⟨k + 1, by omega, by go_num, bel_trans HL.out HBC.out, by rw [HT.out]; exact HO.out.keep HBC.out⟩ | ((repeat apply Exists.intro); exact ⟨⟨k + 1, by omega, by go_num, bel_trans HL.out HBC.out, by rw [HT.out]; exact HO.out.keep HBC.out⟩, rfl⟩)
        case measure => simp [intOf]; omega
    · have hke : k = es.length := by omega
      have hkk : ¬ ((k : Int) < es.length) := by omega
      have ht : es.take k = es := by rw [hke, List.take_length]
      rw [ht] at HO
      have HKE := Lib.hid hke
      clear hke ht hg2
      go_wp2
      go_ret2
      refine ⟨_, rfl, ?_, bel_trans HBV.out hbel⟩
      rcases HO.out with h | ⟨-, -, -, h⟩
      · exact OwnE.of h HBV.out.size
      · exact OwnE.of h (Nat.le_refl _)
end Go.Proofs.Ytbinpaaihdcnlaa
