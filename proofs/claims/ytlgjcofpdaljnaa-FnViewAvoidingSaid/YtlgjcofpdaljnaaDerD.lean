/- l10Nodes, l10Without and WithoutNodes of the model. -/
import Derived.Test.YtlgjcofpdaljnaaDerC
import Derived.Test.YtlgjcofpdaljnaaGvInts
namespace Go.Proofs.Ytlgjcofpdaljnaa
open Go.RowKit Go.BigFrame Go.Deep
set_option linter.unusedVariables false
set_option linter.unusedSimpArgs false

set_option maxRecDepth 20000 in
set_option maxHeartbeats 4000000 in
theorem l10Nodes (n : Int) (ns : List Int) (s t : Value) (w : World) (hn : n ≤ 12) (ht : Row w t ns) (hok : okS t) (hl : ns.length ≤ 281474976710656) :
    Calls Try.prog 53 #[.agg #[.int .i64 n, s], t] w fun e w' => e = .returned (.bool (ndB n ns)) ∧ Below w.heap.size w w' := by
  obtain ⟨a, cap, rfl, hz0⟩ := ht
  have hz := Lib.hid hz0
  have hcap : ns.length ≤ cap := (hok _ _ _ rfl).1
  clear hz0 hok
  obtain ⟨R, hR⟩ : ∃ R, R = ndB n ns := ⟨_, rfl⟩
  rw [← hR]
  have HR := Lib.hid hR
  clear hR
  go_enter Try.func53, Try.ntmps53
  go_wp2
  go_loopw [5] (fun c wr => ∃ k : Nat, k ≤ ns.length ∧ c = .int .i64 k ∧ Below w.heap.size w wr ∧ Box wr w.heap.size 25 #[.int .i64 n, s] ∧ ndB n (ns.take k) = true) (fun c _ => ns.length - (intOf c).toNat)
  case atStart => exact ⟨0, Nat.zero_le _, rfl, (Below.refl _ _).alloc (Nat.le_refl _) _, Box.new w _ _, ndB_nil n⟩
  case round =>
    obtain ⟨k, hk, rfl, hbel, hbx, hnd⟩ := hrel
    have hk12 : k ≤ 12 := by have := ndB_len12 hnd hn; rw [List.length_take] at this; omega
    have hk12' : (k : Int) ≤ 12 := by omega
    have HB := Lib.hid (And.intro hbel (And.intro hbx hnd))
    by_cases hlt : k < ns.length
    · have hlt' : (k : Int) < ns.length := by omega
      rcases hz.out with h0 | ⟨b, off, rfl, hb, hc⟩
      · rw [h0] at hlt; simp at hlt
      obtain ⟨x, hx⟩ : ∃ x, x = ns.getD k 0 := ⟨_, rfl⟩
      have ff : ∀ w', Below wr.heap.size wr w' → w'.cell? ⟨b, off + k, none⟩ = some (.int .i64 x) ∧ w'.cell? ⟨w.heap.size, 0, none⟩ = some (.int .i64 n) := by
        intro w' h
        refine ⟨((bel_trans hbel h).cell (p := ⟨b, _, none⟩) hb).trans (by rw [hx]; exact hc k hlt), by simpa using (hbx.keep h).cell 0⟩
      have FF := Lib.hid ff
      have hst := ndB_take (n := n) hlt
      rw [← hx, hnd, Bool.true_and] at hst
      have hrw : ∀ w', Below wr.heap.size wr w' → Row w' (.slice (some ⟨b, off, none⟩) k cap) (ns.take k) := fun w' h => by
        have hln : (ns.take k).length = k := by rw [List.length_take]; omega
        refine ⟨some ⟨b, off, none⟩, cap, by rw [hln], .inr ⟨b, off, rfl, Nat.lt_of_lt_of_le hb (bel_trans hbel h).size, fun i hi => ?_⟩⟩
        rw [hln] at hi
        rw [((bel_trans hbel h).cell (p := ⟨b, _, none⟩) hb).trans (hc i (by omega))]
        simp [List.getD, List.getElem?_take, hi]
      have hll := fun w' (h : Below wr.heap.size wr w') => l5In (ns.take k) x (.slice (some ⟨b, off, none⟩) k cap) w' (hrw w' h) (by rw [List.length_take]; omega)
      clear hc hx hbel hbx hnd ff hrw
      rw [show decide (x ∈ ns.take k) = inL (ns.take k) x from rfl] at hst
      generalize inL (ns.take k) x = Bq at hll hst
      have HL := Lib.hid hll
      clear hll
      by_cases h0 : x < 0
      · have HF : Hid (ndB n ns = false) := Lib.hid (ndB_bad (by rw [hst, show inN n x = false from by simp [inN]; omega]; rfl))
        have g0 : decide (x < 0) = true := decide_eq_true h0
        clear hst
        go_wp2_with fail
        refine wp_region_below (by kernel_rfl) (by kernel_rfl) ?_
        repeat (go_big_quiet_step ((intro hw; first | with_reducible rfl | (obtain ⟨f0, f1⟩ := FF.out _ hw; simp only [f0, f1, Result.andThen]; first | exact ⟨trivial, rfl⟩ | exact ⟨rfl, rfl⟩))))
        refine wpQuiet_nil ?_
        intro w1 hw1
        have H1 := Lib.hid hw1
        clear hw1
        go_wp2
        go_ret
        exact ⟨congrArg (fun b => Ending.returned (.bool b)) (by rw [HR.out, HF.out]), bel_trans HB.out.1 H1.out⟩
      have g0 : decide (x < 0) = false := decide_eq_false h0
      by_cases h1 : n ≤ x
      · have HF : Hid (ndB n ns = false) := Lib.hid (ndB_bad (by rw [hst, show inN n x = false from by simp [inN]; omega]; rfl))
        have g1 : decide (n ≤ x) = true := decide_eq_true h1
        clear hst
        go_wp2_with fail
        refine wp_region_below (by kernel_rfl) (by kernel_rfl) ?_
        repeat (go_big_quiet_step ((intro hw; first | with_reducible rfl | (obtain ⟨f0, f1⟩ := FF.out _ hw; simp only [f0, f1, Result.andThen]; first | exact ⟨trivial, rfl⟩ | exact ⟨rfl, rfl⟩))))
        refine wpQuiet_nil ?_
        intro w1 hw1
        have H1 := Lib.hid hw1
        clear hw1
        go_wp2
        go_ret
        exact ⟨congrArg (fun b => Ending.returned (.bool b)) (by rw [HR.out, HF.out]), bel_trans HB.out.1 H1.out⟩
      have g1 : decide (n ≤ x) = false := decide_eq_false h1
      rw [show inN n x = true from by simp [inN]; omega, Bool.true_and] at hst
      have hkc : k ≤ cap := by omega
      cases Bq
      · have HN : Hid (ndB n (ns.take (k + 1)) = true) := Lib.hid hst
        clear hst
        go_wp2_with fail
        refine wp_region_below (by kernel_rfl) (by kernel_rfl) ?_
        repeat (go_big_quiet_step ((intro hw; first | with_reducible rfl | (obtain ⟨f0, f1⟩ := FF.out _ hw; simp only [f0, f1, Result.andThen]; first | exact ⟨trivial, rfl⟩ | exact ⟨rfl, rfl⟩) | (go_at_call 54; with_reducible exact quietB (HL.out _ hw) hw))))
        refine wpQuiet_nil ?_
        intro w1 hw1
        have H1 := Lib.hid hw1
        clear hw1
        go_wp2
        go_roundw
        case rel => first | exact ⟨k + 1, by omega, by go_num, bel_trans HB.out.1 H1.out, HB.out.2.1.keep H1.out, HN.out⟩ | ((repeat apply Exists.intro); exact ⟨⟨k + 1, by omega, by go_num, bel_trans HB.out.1 H1.out, HB.out.2.1.keep H1.out, HN.out⟩, rfl⟩)
        case measure => simp [intOf]; omega
      · have HF : Hid (ndB n ns = false) := Lib.hid (ndB_bad hst)
        clear hst
        go_wp2_with fail
        refine wp_region_below (by kernel_rfl) (by kernel_rfl) ?_
        repeat (go_big_quiet_step ((intro hw; first | with_reducible rfl | (obtain ⟨f0, f1⟩ := FF.out _ hw; simp only [f0, f1, Result.andThen]; first | exact ⟨trivial, rfl⟩ | exact ⟨rfl, rfl⟩) | (go_at_call 54; with_reducible exact quietB (HL.out _ hw) hw))))
        refine wpQuiet_nil ?_
        intro w1 hw1
        have H1 := Lib.hid hw1
        clear hw1
        go_wp2
        go_ret
        exact ⟨congrArg (fun b => Ending.returned (.bool b)) (by rw [HR.out, HF.out]), bel_trans HB.out.1 H1.out⟩
    · have hke : k = ns.length := by omega
      have hkk : ¬ ((k : Int) < ns.length) := by omega
      have h12 : (ns.length : Int) ≤ 12 := by omega
      have HT : Hid (ndB n ns = true) := Lib.hid (by rw [hke, List.take_length] at hnd; exact hnd)
      clear hke hnd
      go_wp2
      go_ret
      exact ⟨congrArg (fun b => Ending.returned (.bool b)) (by rw [HR.out, HT.out]), HB.out.1⟩

set_option maxRecDepth 100000 in
set_option maxHeartbeats 2000000 in
theorem l10Without (n : Int) (es : List Ed) (ns : List Int) (s t : Value) (w : World) (hs : RowE w s es) (ht : Row w t ns) (hl : es.length ≤ 1048576) (hl2 : ns.length ≤ 281474976710656) :
    Calls Try.prog 56 #[.agg #[.int .i64 n, s], t] w fun e w' => ∃ v, e = .returned (.agg #[.int .i64 n, v]) ∧ OwnE w w' v (woL es ns) ∧ okS v ∧ Below w.heap.size w w' := by
  obtain ⟨ad, cap, rfl, hz0⟩ := hs
  have hz := Lib.hid hz0
  obtain ⟨i0, hi, hz0', hz1, hz2⟩ := info_parts info_edge
  have HI : Hid (Try.prog.info? 67 = some i0 ∧ i0.zero = some (.agg #[.int .i64 0, .int .i64 0, .int .i64 0]) ∧ i0.size = 3 ∧ i0.bytes = 24) := Lib.hid ⟨hi, hz0', hz1, hz2⟩
  have hh := fun (x : Int) w' (h : Below w.heap.size w w') => l5In ns x t w' (ht.keep h) hl2
  have HH := Lib.hid hh
  clear hz0 hi hz0' hz1 hz2 hh ht
  unfold woL
  go_enter Try.func56, Try.ntmps56
  go_wp2
  go_loopw [6] (fun c wr => ∃ k : Nat, k ≤ es.length ∧ c = .int .i64 k ∧ Below w.heap.size w wr ∧ (∃ v, BoxG wr (w.heap.size + 1 + 1 + 1) 25 n v ∧ wr.ownsRow w.heap.size 67 3 v ((es.take k).filter (woP ns)).length (cellsE ((es.take k).filter (woP ns)))) ∧ BoxG wr w.heap.size 25 n (.slice ad es.length cap) ∧ BoxG wr (w.heap.size + 1) 25 0 (.slice none 0 0)) (fun c _ => es.length - (intOf c).toNat)
  case atStart => exact ⟨0, Nat.zero_le _, rfl, ((((Below.refl _ _).alloc (Nat.le_refl _) _).alloc (by simp) _).alloc (by simp; omega) _).alloc (by simp; omega) _, ⟨_, by have := BoxG.new (((w.alloc (Obj.cells #[.int .i64 n, .slice ad es.length cap] 25)).alloc (Obj.cells #[.int .i64 0, .slice none 0 0] 25)).alloc (Obj.cells #[] 67)) 25 n (.slice (some ⟨w.heap.size + 1 + 1, 0, none⟩) 0 0); simpa using this, by have := (own_empty3 ((w.alloc (Obj.cells #[.int .i64 n, .slice ad es.length cap] 25)).alloc (Obj.cells #[.int .i64 0, .slice none 0 0] 25)) 67 3 w.heap.size (by simp; omega)).alloc (Obj.cells #[.int .i64 n, .slice (some ⟨w.heap.size + 1 + 1, 0, none⟩) 0 0] 25); simpa [cutL, cellsE] using this⟩, (((BoxG.new _ _ _ _).alloc _).alloc _).alloc _, by have := ((BoxG.new (w.alloc (Obj.cells #[.int .i64 n, .slice ad es.length cap] 25)) 25 0 (.slice none 0 0)).alloc (Obj.cells #[] 67)).alloc (Obj.cells #[.int .i64 n, .slice (some ⟨w.heap.size + 1 + 1, 0, none⟩) 0 0] 25); simpa using this⟩
  case round =>
    obtain ⟨k, hk, rfl, hbel, ⟨v, hbx, hown⟩, hbg, hbr⟩ := hrel
    have HX := Lib.hid hbx
    have HO := Lib.hid hown
    have HG := Lib.hid hbg
    have HR := Lib.hid hbr
    have HL := Lib.hid hbel
    by_cases hlt : k < es.length
    · have hlt' : (k : Int) < es.length := by omega
      rcases hz.out with h0 | ⟨b0, off, rfl, hb, hc⟩
      · rw [h0] at hlt; simp at hlt
      obtain ⟨x, y, z, hx⟩ : ∃ x y z, (x, y, z) = es.getD k (0, 0, 0) := ⟨_, _, _, rfl⟩
      have h1 := hc k hlt
      rw [← hx] at h1
      simp only at h1
      have cc : ∀ w', Below w.heap.size w w' → w'.cell? ⟨b0, off + k * 3, none⟩ = some (.int .i64 x) ∧ w'.cell? ⟨b0, off + k * 3 + 1, none⟩ = some (.int .i64 y) ∧ w'.cell? ⟨b0, off + k * 3 + 2, none⟩ = some (.int .i64 z) := fun w' h => ⟨(h.cell (p := ⟨b0, off + k * 3, none⟩) hb).trans h1.1, (h.cell (p := ⟨b0, off + k * 3 + 1, none⟩) hb).trans h1.2.1, (h.cell (p := ⟨b0, off + k * 3 + 2, none⟩) hb).trans h1.2.2⟩
      have CC := Lib.hid cc
      have ht := filter_takeE (woP ns) es hlt
      rw [← hx, show woP ns (x, y, z) = (!(inL ns x) && !(inL ns y)) from rfl] at ht
      have hln : ((es.take k).filter (woP ns)).length ≤ k := Nat.le_trans (filter_lenE _ _) (by simp; omega)
      have h0 := HH.out x
      have h1' := HH.out y
      generalize inL ns x = P at h0 ht
      generalize inL ns y = Q at h1' ht
      have H0 := Lib.hid h0
      have H1 := Lib.hid h1'
      obtain ⟨c0, c1, c2⟩ := CC.out _ hbel
      obtain ⟨g0, g1, -, -, g4⟩ := hbg.cells
      clear hc h1 hx cc h0 h1' hbx hown hbr hbel hbg
      cases P
      · cases Q
        · rw [if_pos (by decide)] at ht
          have HT := Lib.hid ht
          clear ht
          obtain ⟨hi, hz0, hz1, hz2⟩ := HI.out
          go_wp2_with (go_at_call 54; first | (with_reducible refine (H0.out _ HL.out).mono ?_; rintro e w1 ⟨rfl, hb1⟩; have HB1 := Lib.hid hb1; clear hb1 c0 c1 c2 g0 g1; obtain ⟨c0, c1, c2⟩ := CC.out _ (bel_trans HL.out HB1.out); obtain ⟨g0, g1, -, -, -⟩ := (HG.out.keep HB1.out).cells) | (with_reducible refine (H1.out _ (bel_trans HL.out HB1.out)).mono ?_; rintro e w2 ⟨rfl, hb2⟩; have HB2 := Lib.hid (bel_trans HB1.out hb2); clear hb2 c0 c1 c2 g0 g1; obtain ⟨c0, c1, c2⟩ := CC.out _ (bel_trans HL.out HB2.out); obtain ⟨g0, g1, -, -, g4⟩ := (HG.out.keep HB2.out).cells; have HX2 := Lib.hid (HX.out.keep HB2.out); have HO2 := Lib.hid (own_keep3 HO.out HB2.out); have HG2 := Lib.hid (HG.out.keep HB2.out); have HR2 := Lib.hid (HR.out.keep HB2.out); have HL2 := Lib.hid (bel_trans HL.out HB2.out); obtain ⟨k0, k1, k2, k3, k4⟩ := HX2.out.cells))
          have hwr := HL2.out.size
          go_region_law (first | (refine step_append_own rfl (.tmp 39) (.tmp 45) 23 rfl w.heap.size 67 i0 (.agg #[.int .i64 0, .int .i64 0, .int .i64 0]) 3 24 Try.underlying23 hi hz0 hz1 hz2 rfl (by decide) _ _ _ rfl (own_drew (HO2.out.alloc _)) ⟨w2.heap.size, 0, none⟩ 1 1 [.int .i64 x, .int .i64 y, .int .i64 z] rfl rfl (cells_new3 _ _ _ _ _) (by simp [Value.oneCell']) (by unfold maxLen; omega) (by omega) (by simp; omega) ?_; intro v' w6 hown6 hgrow6; obtain ⟨va, vc, rfl⟩ := own_slice hown6; have HX6 : Hid (BoxG w6 (w.heap.size + 1 + 1 + 1) 25 n v) := Lib.hid (BoxG.grown (w := (w2.alloc _).drew) (HX2.out.alloc _) hgrow6 (own_drew (HO2.out.alloc _)) (by decide)); have HG6 : Hid (BoxG w6 w.heap.size 25 n (.slice (some ⟨b0, off, none⟩) es.length cap)) := Lib.hid (BoxG.grown (w := (w2.alloc _).drew) (HG2.out.alloc _) hgrow6 (own_drew (HO2.out.alloc _)) (by decide)); have HR6 : Hid (BoxG w6 (w.heap.size + 1) 25 0 (.slice none 0 0)) := Lib.hid (BoxG.grown (w := (w2.alloc _).drew) (HR2.out.alloc _) hgrow6 (own_drew (HO2.out.alloc _)) (by decide)); obtain ⟨-, y1, -, y3, -⟩ := HX6.out.cells))
          all_goals go_wp2
          all_goals go_roundw
          all_goals first | (simp [intOf]; omega) | exact ⟨k + 1, by omega, by go_num, ((((HL2.out.alloc hwr _).drew).grown hgrow6 (by simp; omega) (fun q hq => (HO2.out.lt q hq).1)).setCell (by simp; omega) _), ⟨_, HX6.out.set _, own_more hown6 HT.out HX6.out (by decide) _⟩, HG6.out.setOther (by omega) 1 _, HR6.out.setOther (by omega) 1 _⟩ | ((repeat apply Exists.intro); exact ⟨⟨k + 1, by omega, by go_num, ((((HL2.out.alloc hwr _).drew).grown hgrow6 (by simp; omega) (fun q hq => (HO2.out.lt q hq).1)).setCell (by simp; omega) _), ⟨_, HX6.out.set _, own_more hown6 HT.out HX6.out (by decide) _⟩, HG6.out.setOther (by omega) 1 _, HR6.out.setOther (by omega) 1 _⟩, rfl⟩)
        · rw [if_neg (by decide), List.append_nil] at ht
          have HT := Lib.hid ht
          clear ht
          go_wp2_with (go_at_call 54; first | (with_reducible refine (H0.out _ HL.out).mono ?_; rintro e w1 ⟨rfl, hb1⟩; have HB1 := Lib.hid hb1; clear hb1 c0 c1 c2 g0 g1; obtain ⟨c0, c1, c2⟩ := CC.out _ (bel_trans HL.out HB1.out); obtain ⟨g0, g1, -, -, -⟩ := (HG.out.keep HB1.out).cells) | (with_reducible refine (H1.out _ (bel_trans HL.out HB1.out)).mono ?_; rintro e w2 ⟨rfl, hb2⟩; have HB2 := Lib.hid (bel_trans HB1.out hb2); clear hb2))
          go_roundw
          case rel => first | exact ⟨k + 1, by omega, by go_num, bel_trans HL.out HB2.out, ⟨v, HX.out.keep HB2.out, by rw [HT.out]; exact own_keep3 HO.out HB2.out⟩, HG.out.keep HB2.out, HR.out.keep HB2.out⟩ | ((repeat apply Exists.intro); exact ⟨⟨k + 1, by omega, by go_num, bel_trans HL.out HB2.out, ⟨v, HX.out.keep HB2.out, by rw [HT.out]; exact own_keep3 HO.out HB2.out⟩, HG.out.keep HB2.out, HR.out.keep HB2.out⟩, rfl⟩)
          case measure => simp [intOf]; omega
      · rw [if_neg (by cases Q <;> decide), List.append_nil] at ht
        have HT := Lib.hid ht
        clear ht
        go_wp2_with (go_at_call 54; (with_reducible refine (H0.out _ HL.out).mono ?_); rintro e w2 ⟨rfl, hb2⟩; have HB2 := Lib.hid hb2; clear hb2)
        go_roundw
        case rel => first | exact ⟨k + 1, by omega, by go_num, bel_trans HL.out HB2.out, ⟨v, HX.out.keep HB2.out, by rw [HT.out]; exact own_keep3 HO.out HB2.out⟩, HG.out.keep HB2.out, HR.out.keep HB2.out⟩ | ((repeat apply Exists.intro); exact ⟨⟨k + 1, by omega, by go_num, bel_trans HL.out HB2.out, ⟨v, HX.out.keep HB2.out, by rw [HT.out]; exact own_keep3 HO.out HB2.out⟩, HG.out.keep HB2.out, HR.out.keep HB2.out⟩, rfl⟩)
        case measure => simp [intOf]; omega
    · have hke : k = es.length := by omega
      have hkk : ¬ ((k : Int) < es.length) := by omega
      have ht : es.take k = es := by rw [hke, List.take_length]
      rw [ht] at HO
      have HKE := Lib.hid hke
      obtain ⟨x0, x1, x2, x3, x4⟩ := hbx.cells
      obtain ⟨g0, g1, -, -, g4⟩ := hbg.cells
      obtain ⟨r0, r1, r2, r3, r4⟩ := hbr.cells
      clear hke ht hbx hown hbg hbr
      obtain ⟨va, vc, rfl⟩ := own_slice HO.out
      go_wp2
      try simp only [Exit.inBlock, Exit.then]
      refine bodyPost_ret (v := .agg #[.int .i64 n, .slice va (es.filter (woP ns)).length vc]) ?_ rfl ?_
      · rw [results_cell1 rfl]
        go_simp
      exact ⟨_, rfl, OwnE.of (own_setCell (HR.out.set0 n) (own_setCell HR.out HO.out (by decide)) (by decide)) (Nat.le_refl _), own_ok HO.out, (HL.out.setCell (by simp) _).setCell (by simp) _⟩

end Go.Proofs.Ytlgjcofpdaljnaa
