/- A round of relaxing: in the model. The value that an edge gives, in the model of kept views. RelaxAll: in the model. -/
import Derived.Test.YtlgjcofpdaljnaaRelaxJ
namespace Go.Proofs.Ytlgjcofpdaljnaa
open Go.RowKit Go.BigFrame Go.Deep
set_option linter.unusedVariables false
set_option linter.unusedSimpArgs false

theorem quietS {P : Program} {f : FuncId} {args : Array Value} {W w : World} {v : Value} (h : Calls P f args w fun e w' => e = .returned v ∧ w = w') (hw : w = W) :
    Calls P f args w fun e w'' => e = .returned v ∧ w'' = W := h.mono fun e w' ⟨a, b⟩ => ⟨a, b ▸ hw⟩

set_option maxRecDepth 20000 in
set_option maxHeartbeats 4000000 in
theorem l3Relax (n m a : Int) (es : List Ed) (zs : List Int) (s t : Value) (w : World) (hm : mKind m = true) (hs : RowE w s es) (ht : Row w t zs) (hl : es.length ≤ 1048576) (hl2 : zs.length ≤ 1048576) (h0 : 0 < zs.length) (hv : vAll m zs) (he : eAll zs.length es) :
    Calls Try.prog 82 #[.agg #[.int .i64 n, s], .agg #[.int .i64 m, .int .i64 a, t]] w fun e w' => ∃ v, e = .returned (.agg #[.int .i64 m, .int .i64 a, v]) ∧ OwnV w w' v (vRelax m es zs) ∧ okS v ∧ Below w.heap.size w w' := by
  have hB : ∀ (A B C : Obj), Below w.heap.size w (((w.alloc A).alloc B).alloc C) := fun A B C => (((Below.refl _ _).alloc (Nat.le_refl _) _).alloc (by simp) _).alloc (by simp; omega) _
  have hcl := fun A B C => l3Copy m a zs t _ (ht.keep (hB A B C)) h0 hl2
  have HCL := Lib.hid hcl
  have hse := fun x w => sEdge hm x w
  have hsb := fun a b w => sBest hm a b w
  have hsj := fun a b (h : bTwo m a b = true) w => sJoin h w
  have HSE := Lib.hid hse
  have HSB := Lib.hid hsb
  have HSJ := Lib.hid hsj
  have HE := Lib.hid he
  have HV := Lib.hid hv
  have HB := Lib.hid hB
  obtain ⟨ad, cap, rfl, hz0⟩ := hs
  have hz := Lib.hid hz0
  obtain ⟨t1, cap2, rfl, htz⟩ := ht
  rcases htz with htz | ⟨b2, off2, rfl, hb2, hc2⟩
  · rw [htz] at h0; simp at h0
  have HC2 := Lib.hid hc2
  clear hz0 hcl hse hsb hsj he hv hB hc2
  go_enter Try.func82, Try.ntmps82
  go_wp2_with (go_at_call 107; refine (HCL.out _ _ _).mono ?_; rintro e w1 ⟨v, rfl, hown, hok, hb1⟩; obtain ⟨b, off, cp, rfl, hbb, hwr⟩ := hown.wr h0; have HW1 := Lib.hid hwr; have HOKV := Lib.hid hok; clear hown hwr hok)
  have hbox : Box w1 w.heap.size 25 #[.int .i64 n, .slice ad es.length cap] ∧ Box w1 (w.heap.size + 1) 28 #[.int .i64 m, .int .i64 a, .slice (some ⟨b2, off2, none⟩) zs.length cap2] ∧ Box w1 (w.heap.size + 1 + 1) 28 #[.int .i64 0, .int .i64 0, .slice none 0 0] := ⟨(((Box.new w 25 _).alloc _).alloc _).keep hb1, (Box.alloc (by have := Box.new (w.alloc (.cells #[.int .i64 n, .slice ad es.length cap] 25)) 28 #[.int .i64 m, .int .i64 a, .slice (some ⟨b2, off2, none⟩) zs.length cap2]; simpa using this) _).keep hb1, (by have := Box.new ((w.alloc (.cells #[.int .i64 n, .slice ad es.length cap] 25)).alloc (.cells #[.int .i64 m, .int .i64 a, .slice (some ⟨b2, off2, none⟩) zs.length cap2] 28)) 28 #[.int .i64 0, .int .i64 0, .slice none 0 0]; simpa using this : Box _ _ _ _).keep hb1⟩
  have hbw := bel_trans (HB.out _ _ _) hb1
  have hb3 : w.heap.size + 3 ≤ b := by simpa using hbb
  have hbw1 : b < w1.heap.size := HW1.out.1
  have HBOX := Lib.hid hbox
  clear hbox hb1 hbb
  go_loopw [6] (fun c wr => ∃ k : Nat, k ≤ es.length ∧ c = .int .i64 k ∧ Below w.heap.size w wr ∧ Hid (Wr wr b off (vMid m es zs k)) ∧ Hid (Box wr w.heap.size 25 #[.int .i64 n, .slice ad es.length cap] ∧ Box wr (w.heap.size + 1) 28 #[.int .i64 m, .int .i64 a, .slice (some ⟨b2, off2, none⟩) zs.length cap2] ∧ Box wr (w.heap.size + 1 + 1) 28 #[.int .i64 0, .int .i64 0, .slice none 0 0] ∧ Box wr w1.heap.size 28 #[.int .i64 m, .int .i64 a, .slice (some ⟨b, off, none⟩) zs.length cp])) (fun c _ => es.length - (intOf c).toNat)
  case atStart => exact ⟨0, Nat.zero_le _, rfl, hbw.alloc hbw.size _, Lib.hid (HW1.out.keep ((Below.refl _ _).alloc (Nat.le_refl _) _)), Lib.hid ⟨HBOX.out.1.alloc _, HBOX.out.2.1.alloc _, HBOX.out.2.2.alloc _, Box.new _ _ _⟩⟩
  case round =>
    obtain ⟨k, hk, rfl, hbel, HWR, HBX⟩ := hrel
    clear HW1 hbw HBOX
    have x1 := HBX.out.1.cell 1
    simp only [List.getElem?_toArray, List.getElem?_cons_succ, List.getElem?_cons_zero] at x1
    by_cases hlt : k < es.length
    · have hlt' : (k : Int) < es.length := by omega
      rcases hz.out with h00 | ⟨b0, off0, rfl, hb0, hc⟩
      · rw [h00] at hlt; simp at hlt
      obtain ⟨x, y, z, hx⟩ : ∃ x y z, (x, y, z) = es.getD k (0, 0, 0) := ⟨_, _, _, rfl⟩
      have hin : es.getD k (0, 0, 0) ∈ es := by simp [List.getD, hlt]
      have hea := HE.out _ hin
      rw [← hx] at hea
      simp only at hea
      obtain ⟨X, rfl⟩ := Int.eq_ofNat_of_zero_le hea.1.1
      obtain ⟨Y, rfl⟩ := Int.eq_ofNat_of_zero_le hea.2.1.1
      have hX : X < zs.length := by have := hea.1.2; simpa using this
      have hY : Y < zs.length := by have := hea.2.1.2; simpa using this
      have hwz := hea.2.2
      have h1 := hc k hlt
      rw [← hx] at h1
      simp only at h1
      have c0 := (hbel.cell (p := ⟨b0, off0 + k * 3, none⟩) hb0).trans h1.1
      have c1 := (hbel.cell (p := ⟨b0, off0 + k * 3 + 1, none⟩) hb0).trans h1.2.1
      have c2 := (hbel.cell (p := ⟨b0, off0 + k * 3 + 2, none⟩) hb0).trans h1.2.2
      have hsucc := vMid_succ m es zs hlt hx
      obtain ⟨r, hr⟩ : ∃ r, r = (vMid m es zs k).getD Y 0 := ⟨_, rfl⟩
      rw [← hr] at hsucc
      obtain ⟨u, hu⟩ : ∃ u, u = zs.getD X 0 := ⟨_, rfl⟩
      have hui : mIn m u = true := by rw [hu]; exact HV.out X hX
      have hgive : vGive m zs ((X : Int), (Y : Int), z) = mJoin m u (mEdge m z) := by unfold vGive; rw [hu]; rfl
      rw [hgive] at hsucc
      have HS := Lib.hid hsucc
      have hsj := fun w => HSJ.out u (mEdge m z) (bTwo_mk hm hui (mEdge_in hm hwz)) w
      have HJ := Lib.hid hsj
      have hYl : Y < (vMid m es zs k).length := by rw [vMid_len]; exact hY
      have hcell := HWR.out.2 Y hYl
      rw [← hr] at hcell
      have hucell := HC2.out X hX
      rw [← hu] at hucell
      have hY' : (Y : Int) < zs.length := by omega
      have hX' : (X : Int) < zs.length := by omega
      have hbn : b < wr.heap.size := HWR.out.1
      have hfacts : ∀ w', Below (wr.alloc (.cells #[.int .i64 X, .int .i64 Y, .int .i64 z] 67)).heap.size (wr.alloc (.cells #[.int .i64 X, .int .i64 Y, .int .i64 z] 67)) w' →
          (w'.cell? ⟨wr.heap.size, 0, none⟩ = some (.int .i64 X) ∧ w'.cell? ⟨wr.heap.size, 1, none⟩ = some (.int .i64 Y) ∧ w'.cell? ⟨wr.heap.size, 2, none⟩ = some (.int .i64 z) ∧ w'.cell? ⟨b2, off2 + X, none⟩ = some (.int .i64 u)) ∧
          (w'.cell? ⟨b, off + Y, none⟩ = some (.int .i64 r) ∧ w'.frozen? ⟨b, off + Y, none⟩ = false) ∧ Below w.heap.size w w' ∧ Wr w' b off (vMid m es zs k) ∧ (Box w' w.heap.size 25 #[.int .i64 n, .slice (some ⟨b0, off0, none⟩) es.length cap] ∧ Box w' (w.heap.size + 1) 28 #[.int .i64 m, .int .i64 a, .slice (some ⟨b2, off2, none⟩) zs.length cap2] ∧ Box w' (w.heap.size + 1 + 1) 28 #[.int .i64 0, .int .i64 0, .slice none 0 0] ∧ Box w' w1.heap.size 28 #[.int .i64 m, .int .i64 a, .slice (some ⟨b, off, none⟩) zs.length cp]) := fun w' h => by
        have hB := bel_trans ((Below.refl _ wr).alloc (Nat.le_refl _) (.cells #[.int .i64 X, .int .i64 Y, .int .i64 z] 67)) h
        have hBw := bel_trans hbel hB
        exact ⟨⟨(h.cell (p := ⟨_, _, none⟩) (by simp)).trans (by go_simp), (h.cell (p := ⟨_, _, none⟩) (by simp)).trans (by go_simp), (h.cell (p := ⟨_, _, none⟩) (by simp)).trans (by go_simp), (hBw.cell (p := ⟨b2, _, none⟩) hb2).trans hucell⟩, ⟨(hB.cell (p := ⟨b, _, none⟩) hbn).trans hcell.1, (hB.frozen (p := ⟨b, _, none⟩) hbn).trans hcell.2⟩, hBw, HWR.out.keep hB, HBX.out.1.keep hB, HBX.out.2.1.keep hB, HBX.out.2.2.1.keep hB, HBX.out.2.2.2.keep hB⟩
      have HF := Lib.hid hfacts
      have hflat : ∀ w', Below (wr.alloc (.cells #[.int .i64 X, .int .i64 Y, .int .i64 z] 67)).heap.size (wr.alloc (.cells #[.int .i64 X, .int .i64 Y, .int .i64 z] 67)) w' →
          w'.cell? ⟨wr.heap.size, 0, none⟩ = some (.int .i64 X) ∧ w'.cell? ⟨wr.heap.size, 1, none⟩ = some (.int .i64 Y) ∧ w'.cell? ⟨wr.heap.size, 2, none⟩ = some (.int .i64 z) ∧ w'.cell? ⟨b2, off2 + X, none⟩ = some (.int .i64 u) ∧ w'.cell? ⟨b, off + Y, none⟩ = some (.int .i64 r) ∧ w'.cell? ⟨w.heap.size + 1, 0, none⟩ = some (.int .i64 m) ∧ w'.cell? ⟨w.heap.size + 1, 2, none⟩ = some (.slice (some ⟨b2, off2, none⟩) zs.length cap2) ∧ w'.cell? ⟨w1.heap.size, 2, none⟩ = some (.slice (some ⟨b, off, none⟩) zs.length cp) := fun w' h => by
        obtain ⟨⟨k0, k1, k2, k3⟩, ⟨k4, -⟩, -, -, -, j1, -, j3⟩ := HF.out w' h
        refine ⟨k0, k1, k2, k3, k4, ?_, ?_, ?_⟩
        · have := j1.cell 0; simpa using this
        · have := j1.cell 2; simpa using this
        · have := j3.cell 2; simpa using this
      have FF := Lib.hid hflat
      clear hc h1 hx hin hea hsucc hr hcell hfacts hflat hwz hgive hui hu hucell hsj
      go_wp2
      generalize (wr.alloc (.cells #[.int .i64 X, .int .i64 Y, .int .i64 z] 67)) = W1 at HF FF ⊢
      refine wp_region_below (by kernel_rfl) (by kernel_rfl) ?_
      repeat (go_big_quiet_step ((intro hw; first | with_reducible rfl | (obtain ⟨f0, f1, f2, f3, f4, f5, f6, f7⟩ := FF.out _ hw; simp only [f0, f1, f2, f3, f4, f5, f6, f7, Result.andThen]; first | exact ⟨trivial, rfl⟩ | exact ⟨rfl, rfl⟩) | (go_at_call 109; exact quietB (calls_below (HSE.out _ _)) hw) | (go_at_call 108; exact quietB (calls_below (HJ.out _)) hw))))
      refine wpQuiet_nil ?_
      intro w2 hw2
      have HF2 := Lib.hid (HF.out _ hw2)
      have HFF2 := Lib.hid (FF.out _ hw2)
      go_wp2
      refine wp_region_tail 15 (by kernel_rfl) (by kernel_rfl) ?_
      simp only [List.take_succ_cons, List.take_zero, List.drop_succ_cons, List.drop_zero]
      have p0 : w2.cell? ⟨wr.heap.size, 1, none⟩ = some (.int .i64 Y) := HFF2.out.2.1
      have p1 : w2.cell? ⟨b, off + Y, none⟩ = some (.int .i64 r) := HFF2.out.2.2.2.2.1
      have p2 : w2.cell? ⟨w.heap.size + 1, 0, none⟩ = some (.int .i64 m) := HFF2.out.2.2.2.2.2.1
      have p3 : w2.cell? ⟨w1.heap.size, 2, none⟩ = some (.slice (some ⟨b, off, none⟩) zs.length cp) := HFF2.out.2.2.2.2.2.2.2
      have hsb2 := fun a b => quietS (HSB.out a b w2.drew) rfl
      repeat (go_big_quiet_step (exact hsb2 _ _ _))
      refine wpQuiet_nil ?_
      have g1 : w2.drew.cell? ⟨b, off + Y, none⟩ = some (.int .i64 r) := p1
      have g2 : w2.drew.frozen? ⟨b, off + Y, none⟩ = false := HF2.out.2.1.2
      go_wp2
      go_roundw
      case rel => first | exact ⟨k + 1, by omega, by go_num, (HF2.out.2.2.1.setCell (by simp only; omega) _).drew, Lib.hid (by rw [HS.out]; exact Wr.set HF2.out.2.2.2.1 hYl _), Lib.hid ⟨HF2.out.2.2.2.2.1.setOther (by omega) _ _, HF2.out.2.2.2.2.2.1.setOther (by omega) _ _, HF2.out.2.2.2.2.2.2.1.setOther (by omega) _ _, HF2.out.2.2.2.2.2.2.2.setOther (by omega) _ _⟩⟩ | ((repeat apply Exists.intro); exact ⟨⟨k + 1, by omega, by go_num, (HF2.out.2.2.1.setCell (by simp only; omega) _).drew, Lib.hid (by rw [HS.out]; exact Wr.set HF2.out.2.2.2.1 hYl _), Lib.hid ⟨HF2.out.2.2.2.2.1.setOther (by omega) _ _, HF2.out.2.2.2.2.2.1.setOther (by omega) _ _, HF2.out.2.2.2.2.2.2.1.setOther (by omega) _ _, HF2.out.2.2.2.2.2.2.2.setOther (by omega) _ _⟩⟩, rfl⟩)
      case measure => simp [intOf]; omega
    · have hke : k = es.length := by omega
      have hkk : ¬ ((k : Int) < es.length) := by omega
      have hall := vMid_all m es zs
      rw [← hke] at hall
      have HA := Lib.hid hall
      have hln := Lib.hid (vMid_len m es zs k)
      have r0 := HBX.out.2.2.1.cell 0
      have r1 := HBX.out.2.2.1.cell 1
      have r2 := HBX.out.2.2.1.cell 2
      have s0 := HBX.out.2.2.1.frozen 0
      have s1 := HBX.out.2.2.1.frozen 1
      have s2 := HBX.out.2.2.1.frozen 2
      have o0 := HBX.out.2.2.2.cell 0
      have o1 := HBX.out.2.2.2.cell 1
      have o2 := HBX.out.2.2.2.cell 2
      simp only [List.getElem?_toArray, List.getElem?_cons_succ, List.getElem?_cons_zero] at r0 r1 r2 o0 o1 o2
      clear hke hall
      go_wp2
      try simp only [Exit.inBlock, Exit.then]
      refine bodyPost_ret (v := .agg #[.int .i64 m, .int .i64 a, .slice (some ⟨b, off, none⟩) zs.length cp]) ?_ rfl ?_
      · rw [results_cell1 rfl]
        go_simp
      have hw := HWR.out.own (cap := cp) (show w.heap.size ≤ b by omega)
      rw [hln.out] at hw
      rw [HA.out] at hw
      have hch : ∀ x y z, Chg (w.heap.size + 2) (w.heap.size + 3) wr (((wr.setCell ⟨w.heap.size + 1 + 1, 0, none⟩ x).setCell ⟨w.heap.size + 1 + 1, 1, none⟩ y).setCell ⟨w.heap.size + 1 + 1, 2, none⟩ z) := fun x y z => (((Chg.refl _ _ _).setCell (by simp only; omega) (by simp only; omega) _).setCell (by simp only; omega) (by simp only; omega) _).setCell (by simp only; omega) (by simp only; omega) _
      have hbl := HWR.out.1
      refine ⟨_, rfl, ?_, HOKV.out, bel_chg hbel (hch _ _ _) (by omega)⟩
      have h1 : InR true wr (w.heap.size + 3) wr.heap.size (.slice (some ⟨b, off, none⟩) zs.length cp) (vRelax m es zs).length 1 (cellI (vRelax m es zs)) := by
        obtain ⟨a9, c9, e9, h9⟩ := hw
        have hl9 := vRelax_length m es zs
        refine ⟨some ⟨b, off, none⟩, cp, by rw [hl9], ?_⟩
        rcases h9 with h9 | ⟨b8, off8, e8, l1, l2, l3, l4⟩
        · exact .inl h9
        · rw [e8] at e9
          injection e9 with e9a e9b e9c
          injection e9a with e9d
          injection e9d with e9e e9f
          subst e9e e9f
          exact .inr ⟨b, off, rfl, by omega, l2, l3, l4⟩
      exact (h1.chg (hch (.int .i64 m) (.int .i64 a) (.slice (some ⟨b, off, none⟩) zs.length cp)) (.inl (by omega))).wider (by omega) (hch _ _ _).size (Nat.le_refl _)
end Go.Proofs.Ytlgjcofpdaljnaa
namespace Go.Proofs.Ytlgjcofpdaljnaa
open Go.RowKit Go.BigFrame Go.Deep
set_option linter.unusedVariables false
set_option linter.unusedSimpArgs false

end Go.Proofs.Ytlgjcofpdaljnaa
namespace Go.Proofs.Ytlgjcofpdaljnaa
open Go.RowKit Go.BigFrame Go.Deep
set_option linter.unusedVariables false
set_option linter.unusedSimpArgs false

end Go.Proofs.Ytlgjcofpdaljnaa
