/- Edges relaxed one by one: in the model. -/
import Derived.Test.YtflcnlepbllelaaRelaxS
import Derived.Test.YtflcnlepbllelaaLoose
namespace Go.Proofs.Ytflcnlepbllelaa
open Go.RowKit Go.BigFrame Go.Deep
set_option linter.unusedVariables false
set_option linter.unusedSimpArgs false

theorem Wr.chg {w w' : World} {b off lo hi : Nat} {zs : List Int} (h : Wr w b off zs) (c : Chg lo hi w w') (d : b < lo ∨ hi ≤ b) : Wr w' b off zs :=
  ⟨Nat.lt_of_lt_of_le h.1 c.size, fun i hi => ⟨(c.cell (p := ⟨b, _, none⟩) h.1 d).trans (h.2 i hi).1, (c.frozen (p := ⟨b, _, none⟩) h.1 d).trans (h.2 i hi).2⟩⟩

set_option maxRecDepth 20000 in
set_option maxHeartbeats 2000000 in
theorem l5Edge (m a : Int) (zs : List Int) (s : Value) (X : Nat) (y z : Int) (w : World) (hm : mKind m = true) (hr : Row w s zs) (hX : X < zs.length) (hl : zs.length ≤ 1048576) (hv : vAll m zs) (hw : mWeight z = true) :
    Calls Try.prog 83 #[.agg #[.int .i64 m, .int .i64 a, s], .agg #[.int .i64 X, .int .i64 y, .int .i64 z]] w fun e w' => e = .returned (.int .i64 (vGive m zs (X, y, z))) ∧ Below w.heap.size w w' := by
  have hse := fun x w => calls_below (sEdge hm x w)
  obtain ⟨x, hx⟩ : ∃ x, x = zs.getD X 0 := ⟨_, rfl⟩
  have hxi : mIn m x = true := by rw [hx]; exact hv X hX
  have hsj := fun w => calls_below (sJoin (bTwo_mk hm hxi (mEdge_in hm hw)) w)
  have e0 : vGive m zs ((X : Int), y, z) = mJoin m x (mEdge m z) := by unfold vGive; rw [hx]; rfl
  rw [e0]
  obtain ⟨ad, cap, rfl, hz⟩ := hr
  rcases hz with hz | ⟨b, off, rfl, hb, hc⟩
  · rw [hz] at hX; simp at hX
  have h1 := hc X hX
  rw [← hx] at h1
  have HSE := Lib.hid hse
  have HSJ := Lib.hid hsj
  have hX' : (X : Int) < zs.length := by omega
  have ff : ∀ w', Below ((w.alloc (.cells #[.int .i64 m, .int .i64 a, .slice (some ⟨b, off, none⟩) zs.length cap] 28)).alloc (.cells #[.int .i64 X, .int .i64 y, .int .i64 z] 79)).heap.size ((w.alloc (.cells #[.int .i64 m, .int .i64 a, .slice (some ⟨b, off, none⟩) zs.length cap] 28)).alloc (.cells #[.int .i64 X, .int .i64 y, .int .i64 z] 79)) w' →
      w'.cell? ⟨b, off + X, none⟩ = some (.int .i64 x) ∧ w'.cell? ⟨w.heap.size, 0, none⟩ = some (.int .i64 m) ∧ w'.cell? ⟨w.heap.size, 2, none⟩ = some (.slice (some ⟨b, off, none⟩) zs.length cap) ∧ w'.cell? ⟨w.heap.size + 1, 0, none⟩ = some (.int .i64 X) ∧ w'.cell? ⟨w.heap.size + 1, 2, none⟩ = some (.int .i64 z) ∧ Below w.heap.size w w' := by
    intro w' h
    have hB := bel_trans (((Below.refl _ w).alloc (Nat.le_refl _) (.cells #[.int .i64 m, .int .i64 a, .slice (some ⟨b, off, none⟩) zs.length cap] 28)).alloc (by simp) (.cells #[.int .i64 X, .int .i64 y, .int .i64 z] 79)) h
    exact ⟨(hB.cell (p := ⟨b, _, none⟩) hb).trans h1, (h.cell (p := ⟨_, _, none⟩) (by simp <;> omega)).trans (by go_simp), (h.cell (p := ⟨_, _, none⟩) (by simp <;> omega)).trans (by go_simp), (h.cell (p := ⟨_, _, none⟩) (by simp <;> omega)).trans (by go_simp), (h.cell (p := ⟨_, _, none⟩) (by simp <;> omega)).trans (by go_simp), hB⟩
  have FF := Lib.hid ff
  clear hc h1 hx hxi hse hsj e0 ff hv
  go_enter Try.func83, Try.ntmps83
  go_wp2
  generalize ((w.alloc (.cells #[.int .i64 m, .int .i64 a, .slice (some ⟨b, off, none⟩) zs.length cap] 28)).alloc (.cells #[.int .i64 X, .int .i64 y, .int .i64 z] 79)) = W1 at FF ⊢
  refine wp_region_below (by kernel_rfl) (by kernel_rfl) ?_
  repeat (go_big_quiet_step ((intro hw1; first | with_reducible rfl | (obtain ⟨f0, f1, f2, f3, f4, -⟩ := FF.out _ hw1; simp only [f0, f1, f2, f3, f4, Result.andThen]; first | exact ⟨trivial, rfl⟩ | exact ⟨rfl, rfl⟩) | (go_at_call 105; exact quietB (HSE.out _ _) hw1) | (go_at_call 104; exact quietB (HSJ.out _) hw1))))
  refine wpQuiet_nil ?_
  intro w2 hw2
  obtain ⟨-, -, -, -, -, hB⟩ := FF.out _ hw2
  go_wp2
  go_ret
  exact ⟨rfl, hB⟩

set_option maxRecDepth 20000 in
set_option maxHeartbeats 4000000 in
theorem l5Relax (m a : Int) (zs : List Int) (s : Value) (X Y : Nat) (z : Int) (w : World) (hm : mKind m = true) (hr : Row w s zs) (hX : X < zs.length) (hY : Y < zs.length) (hl : zs.length ≤ 1048576) (hv : vAll m zs) (hw : mWeight z = true) :
    Calls Try.prog 56 #[.agg #[.int .i64 m, .int .i64 a, s], .agg #[.int .i64 X, .int .i64 Y, .int .i64 z]] w fun e w' => ∃ v, e = .returned (.agg #[.int .i64 m, .int .i64 a, v]) ∧ OwnV w w' v (vOne m zs (X, Y, z)) ∧ okS v ∧ Below w.heap.size w w' := by
  have h0 : 0 < zs.length := by omega
  have hB : ∀ (A B C : Obj), Below w.heap.size w (((w.alloc A).alloc B).alloc C) := fun A B C => (((Below.refl _ _).alloc (Nat.le_refl _) _).alloc (by simp) _).alloc (by simp; omega) _
  have hcl := fun A B C => l3Copy m a zs s _ (hr.keep (hB A B C)) h0 hl
  have hed := fun w' (h : Below w.heap.size w w') => l5Edge m a zs s X Y z w' hm (hr.keep h) hX hl hv hw
  obtain ⟨q, hq⟩ : ∃ q, q = vGive m zs ((X : Int), (Y : Int), z) := ⟨_, rfl⟩
  rw [← hq] at hed
  obtain ⟨x, hx⟩ : ∃ x, x = zs.getD Y 0 := ⟨_, rfl⟩
  have e0 : vOne m zs ((X : Int), (Y : Int), z) = zs.set Y (mBest m x q) := by unfold vOne vUp; rw [hq, hx]; rfl
  rw [e0]
  have hsb := fun w => calls_below (sBest hm x q w)
  obtain ⟨ad, cap, rfl, hz⟩ := hr
  rcases hz with hz | ⟨b2, off2, rfl, hb2, hc2⟩
  · rw [hz] at hX; simp at hX
  have h1 := hc2 Y hY
  rw [← hx] at h1
  generalize mBest m x q = r at hsb ⊢
  have HCL := Lib.hid hcl
  have HED := Lib.hid hed
  have HSB := Lib.hid hsb
  have HB := Lib.hid hB
  have hY' : (Y : Int) < zs.length := by omega
  have HX := Lib.hid hx
  clear hcl hed hsb hB hc2 hx hq e0 hv hm
  go_enter Try.func56, Try.ntmps56
  go_wp2_with (go_at_call 55; refine (HCL.out _ _ _).mono ?_; rintro e w1 ⟨v, rfl, hown, hok, hb1⟩; obtain ⟨b, off, cp, rfl, hbb, hwr⟩ := hown.wr h0; have HW1 := Lib.hid hwr; have HOKV := Lib.hid hok; clear hown hwr hok)
  have hbox : Box w1 w.heap.size 28 #[.int .i64 m, .int .i64 a, .slice (some ⟨b2, off2, none⟩) zs.length cap] ∧ Box w1 (w.heap.size + 1) 79 #[.int .i64 X, .int .i64 Y, .int .i64 z] ∧ Box w1 (w.heap.size + 1 + 1) 28 #[.int .i64 0, .int .i64 0, .slice none 0 0] := ⟨(((Box.new w 28 _).alloc _).alloc _).keep hb1, (Box.alloc (by have := Box.new (w.alloc (.cells #[.int .i64 m, .int .i64 a, .slice (some ⟨b2, off2, none⟩) zs.length cap] 28)) 79 #[.int .i64 X, .int .i64 Y, .int .i64 z]; simpa using this) _).keep hb1, (by have := Box.new ((w.alloc (.cells #[.int .i64 m, .int .i64 a, .slice (some ⟨b2, off2, none⟩) zs.length cap] 28)).alloc (.cells #[.int .i64 X, .int .i64 Y, .int .i64 z] 79)) 28 #[.int .i64 0, .int .i64 0, .slice none 0 0]; simpa using this : Box _ _ _ _).keep hb1⟩
  have hbw := bel_trans (HB.out _ _ _) hb1
  have hb3 : w.heap.size + 3 ≤ b := by simpa using hbb
  have hbw1 : b < w1.heap.size := HW1.out.1
  have hbA : Below w1.heap.size w1 (w1.alloc (.cells #[.int .i64 m, .int .i64 a, .slice (some ⟨b, off, none⟩) zs.length cp] 28)) := (Below.refl _ _).alloc (Nat.le_refl _) _
  have hfull : Below w.heap.size w (w1.alloc (.cells #[.int .i64 m, .int .i64 a, .slice (some ⟨b, off, none⟩) zs.length cp] 28)) ∧ Wr (w1.alloc (.cells #[.int .i64 m, .int .i64 a, .slice (some ⟨b, off, none⟩) zs.length cp] 28)) b off zs ∧ Box (w1.alloc (.cells #[.int .i64 m, .int .i64 a, .slice (some ⟨b, off, none⟩) zs.length cp] 28)) w.heap.size 28 #[.int .i64 m, .int .i64 a, .slice (some ⟨b2, off2, none⟩) zs.length cap] ∧ Box (w1.alloc (.cells #[.int .i64 m, .int .i64 a, .slice (some ⟨b, off, none⟩) zs.length cp] 28)) (w.heap.size + 1) 79 #[.int .i64 X, .int .i64 Y, .int .i64 z] ∧ Box (w1.alloc (.cells #[.int .i64 m, .int .i64 a, .slice (some ⟨b, off, none⟩) zs.length cp] 28)) (w.heap.size + 1 + 1) 28 #[.int .i64 0, .int .i64 0, .slice none 0 0] ∧ Box (w1.alloc (.cells #[.int .i64 m, .int .i64 a, .slice (some ⟨b, off, none⟩) zs.length cp] 28)) w1.heap.size 28 #[.int .i64 m, .int .i64 a, .slice (some ⟨b, off, none⟩) zs.length cp] ∧ w1.heap.size < (w1.alloc (.cells #[.int .i64 m, .int .i64 a, .slice (some ⟨b, off, none⟩) zs.length cp] 28)).heap.size :=
    ⟨bel_trans hbw hbA, HW1.out.keep hbA, hbox.1.keep hbA, hbox.2.1.keep hbA, hbox.2.2.keep hbA, Box.new _ _ _, by simp⟩
  generalize (w1.alloc (.cells #[.int .i64 m, .int .i64 a, .slice (some ⟨b, off, none⟩) zs.length cp] 28)) = W1 at hfull ⊢
  have HF := Lib.hid hfull
  have hs1 := HF.out.2.2.2.2.2.2
  clear hfull hbox hbA hbw hb1 hbb HW1
  have hn1 : ¬ b = w.heap.size := by omega
  have hn2 : ¬ b = w.heap.size + 1 := by omega
  have hn3 : ¬ b = w.heap.size + 1 + 1 := by omega
  have hn4 : ¬ b = w1.heap.size := by omega
  have hn5 : ¬ b = b2 := by omega
  have hflat : ∀ w', Below W1.heap.size W1 w' → w'.cell? ⟨w.heap.size, 0, none⟩ = some (.int .i64 m) ∧ w'.cell? ⟨w.heap.size, 1, none⟩ = some (.int .i64 a) ∧ w'.cell? ⟨w.heap.size, 2, none⟩ = some (.slice (some ⟨b2, off2, none⟩) zs.length cap) ∧ w'.cell? ⟨w.heap.size + 1, 0, none⟩ = some (.int .i64 X) ∧ w'.cell? ⟨w.heap.size + 1, 1, none⟩ = some (.int .i64 Y) ∧ w'.cell? ⟨w.heap.size + 1, 2, none⟩ = some (.int .i64 z) ∧ w'.cell? ⟨w1.heap.size, 2, none⟩ = some (.slice (some ⟨b, off, none⟩) zs.length cp) ∧ w'.cell? ⟨b2, off2 + Y, none⟩ = some (.int .i64 x) := fun w' h => by
    have g0 := HF.out.2.2.1.keep h
    have g1 := HF.out.2.2.2.1.keep h
    have g3 := HF.out.2.2.2.2.2.1.keep h
    exact ⟨by simpa using g0.cell 0, by simpa using g0.cell 1, by simpa using g0.cell 2, by simpa using g1.cell 0, by simpa using g1.cell 1, by simpa using g1.cell 2, by simpa using g3.cell 2, ((bel_trans HF.out.1 h).cell (p := ⟨b2, _, none⟩) hb2).trans h1⟩
  have hend : ∀ w', Below W1.heap.size W1 w' → w'.frozen? ⟨b, off + Y, none⟩ = false ∧ w'.cell? ⟨b, off + Y, none⟩ = some (.int .i64 x) := fun w' h => by
    have g := (HF.out.2.1.keep h).2 Y hY
    exact ⟨g.2, by rw [HX.out]; exact g.1⟩
  have HFL := Lib.hid hflat
  have HEN := Lib.hid hend
  clear hflat hend
  go_region_held3 (fun w' : World => w'.cell? ⟨w.heap.size, 0, none⟩ = some (.int .i64 m) ∧ w'.cell? ⟨w.heap.size, 1, none⟩ = some (.int .i64 a) ∧ w'.cell? ⟨w.heap.size, 2, none⟩ = some (.slice (some ⟨b2, off2, none⟩) zs.length cap) ∧ w'.cell? ⟨w.heap.size + 1, 0, none⟩ = some (.int .i64 X) ∧ w'.cell? ⟨w.heap.size + 1, 1, none⟩ = some (.int .i64 Y) ∧ w'.cell? ⟨w.heap.size + 1, 2, none⟩ = some (.int .i64 z) ∧ w'.cell? ⟨w1.heap.size, 2, none⟩ = some (.slice (some ⟨b, off, none⟩) zs.length cp) ∧ w'.cell? ⟨b2, off2 + Y, none⟩ = some (.int .i64 x)) (first | exact HFL.out _ ((Below.refl _ _).drew) | exact HFL.out _ (bel_trans ((Below.refl _ _).drew) hbE) | exact HFL.out _ (bel_trans (bel_trans ((Below.refl _ _).drew) hbE) hbB) | (refine ⟨?_, ?_, ?_, ?_, ?_, ?_, ?_, ?_⟩ <;> go_simp)) (first | (go_at_call 83; (with_reducible refine (HED.out _ (bel_trans HF.out.1 ((Below.refl _ _).drew))).mono ?_); rintro e wE ⟨rfl, hbE⟩) | (go_at_call 82; (with_reducible refine (HSB.out _).mono ?_); rintro e wB ⟨rfl, hbB⟩; have HBB := Lib.hid (bel_trans (bel_trans ((Below.refl _ _).drew) hbE) hbB); obtain ⟨g0, g1, g2, g3, g4, g5, g6, g7⟩ := HFL.out _ HBB.out; obtain ⟨gf, gx⟩ := HEN.out _ HBB.out))
  all_goals
    have j3 := HF.out.2.2.2.2.2.1.keep HBB.out
    have j2 := HF.out.2.2.2.2.1.keep HBB.out
    have x0 : wB.cell? ⟨w1.heap.size, 0, none⟩ = some (.int .i64 m) := by simpa using j3.cell 0
    have x1 : wB.cell? ⟨w1.heap.size, 1, none⟩ = some (.int .i64 a) := by simpa using j3.cell 1
    have r0 : wB.cell? ⟨w.heap.size + 1 + 1, 0, none⟩ = some (.int .i64 0) := by simpa using j2.cell 0
    have r1 : wB.cell? ⟨w.heap.size + 1 + 1, 1, none⟩ = some (.int .i64 0) := by simpa using j2.cell 1
    have r2 : wB.cell? ⟨w.heap.size + 1 + 1, 2, none⟩ = some (.slice none 0 0) := by simpa using j2.cell 2
    have s0 := j2.frozen 0
    have s1 := j2.frozen 1
    have s2 := j2.frozen 2
    have hne : ¬ w1.heap.size = w.heap.size + 1 + 1 := by omega
    have hne' : ¬ w.heap.size + 1 + 1 = w1.heap.size := by omega
    have hsz9 := HBB.out.size
    clear j3 j2 hbE hbB g0 g1 g2 g3 g4 g5 g7
    go_wp2
    try simp only [Exit.inBlock, Exit.then]
    refine bodyPost_ret (v := .agg #[.int .i64 m, .int .i64 a, .slice (some ⟨b, off, none⟩) zs.length cp]) ?_ rfl ?_
    · rw [results_cell1 rfl]
      go_simp
    have hW := (HF.out.2.1.keep HBB.out).set hY r
    have hch : ∀ x y z, Chg (w.heap.size + 2) (w.heap.size + 3) (wB.setCell ⟨b, off + Y, none⟩ (.int .i64 r)) ((((wB.setCell ⟨b, off + Y, none⟩ (.int .i64 r)).setCell ⟨w.heap.size + 1 + 1, 0, none⟩ x).setCell ⟨w.heap.size + 1 + 1, 1, none⟩ y).setCell ⟨w.heap.size + 1 + 1, 2, none⟩ z) := fun x y z => (((Chg.refl _ _ _).setCell (by simp only; omega) (by simp only; omega) _).setCell (by simp only; omega) (by simp only; omega) _).setCell (by simp only; omega) (by simp only; omega) _
    have hbel : Below w.heap.size w (wB.setCell ⟨b, off + Y, none⟩ (.int .i64 r)) := (bel_trans HF.out.1 HBB.out).setCell (by simp only; omega) _
    refine ⟨_, rfl, ?_, HOKV.out, bel_chg hbel (hch _ _ _) (by omega)⟩
    have h2 := (hW.chg (hch (.int .i64 m) (.int .i64 a) (.slice (some ⟨b, off, none⟩) zs.length cp)) (.inr (by omega))).own (w := w) (cap := cp) (by omega)
    rw [show (zs.set Y r).length = zs.length by simp] at h2
    exact h2

/-- Is it an order: in the model. -/
theorem l5Order (n : Int) (es : List Ed) (os : List Int) (a : Option Addr) (cap : Nat) (t : Value) (w : World) (ht : Row w t os) (hl : es.length ≤ 281474976710656) (hl2 : os.length ≤ 281474976710656) :
    Calls Try.prog 54 #[.agg #[.int .i64 n, .slice a es.length cap], t] w fun e w' => e = .returned (.bool (oOk es.length os)) ∧ Below w.heap.size w w' := by
  obtain ⟨a2, cap2, rfl, hz0⟩ := ht
  have hz := Lib.hid hz0
  clear hz0
  obtain ⟨R, hR⟩ : ∃ R, R = oOk es.length os := ⟨_, rfl⟩
  rw [← hR]
  have HR := Lib.hid hR
  clear hR
  have hbA : Below w.heap.size w (w.alloc (.cells #[.int .i64 n, .slice a es.length cap] 25)) := (Below.refl _ _).alloc (Nat.le_refl _) _
  have hbx := Box.new w 25 #[.int .i64 n, .slice a es.length cap]
  go_enter Try.func54, Try.ntmps54
  go_wp2
  generalize (w.alloc (.cells #[.int .i64 n, .slice a es.length cap] 25)) = W1 at hbA hbx ⊢
  have HW := Lib.hid (And.intro hbA hbx)
  clear hbA hbx
  go_loopw [5] (fun c wr => ∃ k : Nat, k ≤ os.length ∧ k ≤ 501 ∧ c = .int .i64 k ∧ (∀ i, i < k → oIn es.length (os.getD i 0) = true) ∧ Hid (Below W1.heap.size W1 wr)) (fun c _ => os.length - (intOf c).toNat)
  case atStart => exact ⟨0, Nat.zero_le _, by omega, rfl, fun i hi => absurd hi (Nat.not_lt_zero _), Lib.hid (Below.refl _ _)⟩
  case round =>
    obtain ⟨k, hk, hk5, rfl, hall, HB⟩ := hrel
    have HA := Lib.hid hall
    clear hall
    by_cases hlt : k < os.length
    · have hlt' : (k : Int) < os.length := by omega
      by_cases h5 : k ≤ 500
      · have h5' : (k : Int) ≤ 500 := by omega
        rcases hz.out with h0 | ⟨b, off, rfl, hb, hc⟩
        · rw [h0] at hlt; simp at hlt
        obtain ⟨x, hx⟩ : ∃ x, x = os.getD k 0 := ⟨_, rfl⟩
        have h1 := hc k hlt
        rw [← hx] at h1
        have h2 : wr.cell? ⟨b, off + k, none⟩ = some (.int .i64 x) := ((bel_trans HW.out.1 HB.out).cell (p := ⟨b, _, none⟩) hb).trans h1
        have h3 : wr.cell? ⟨w.heap.size, 1, none⟩ = some (.slice a es.length cap) := by simpa using (HW.out.2.keep HB.out).cell 1
        have HX := Lib.hid hx
        clear hc h1 hx
        by_cases hx0 : x < 0
        · have d0 : decide (x < 0) = true := by simpa using hx0
          go_wp2
          go_quiet (fail)
          go_wp2
          go_ret
          refine ⟨?_, below_drewN0 (bel_trans HW.out.1 HB.out) _⟩
          rw [HR.out]
          refine congrArg (fun b => Ending.returned (.bool b)) ?_
          cases h : oOk es.length os with
          | false => rfl
          | true =>
            have h3 := oOk_at h (k := k) (by omega)
            rw [← HX.out] at h3
            simp [oIn] at h3
            omega
        · have d0 : decide (x < 0) = false := by simpa using hx0
          by_cases hx1 : x < es.length
          · have d1 : decide ((es.length : Int) ≤ x) = false := by simp; omega
            have hn : Hid (∀ i, i < k + 1 → oIn es.length (os.getD i 0) = true) := Lib.hid (fun i hi => by
              by_cases h : i = k
              · subst h
                rw [← HX.out]
                simp [oIn]
                omega
              · exact HA.out i (by omega))
            go_wp2
            go_quiet (fail)
            go_wp2
            go_roundw
            case rel => exact ⟨k + 1, by omega, by omega, by go_num, hn.out, Lib.hid (below_drewN0 HB.out _)⟩
            case measure => simp [intOf]; omega
          · have d1 : decide ((es.length : Int) ≤ x) = true := by simp; omega
            go_wp2
            go_quiet (fail)
            go_wp2
            go_ret
            refine ⟨?_, below_drewN0 (bel_trans HW.out.1 HB.out) _⟩
            rw [HR.out]
            refine congrArg (fun b => Ending.returned (.bool b)) ?_
            cases h : oOk es.length os with
            | false => rfl
            | true =>
              have h3 := oOk_at h (k := k) (by omega)
              rw [← HX.out] at h3
              simp [oIn] at h3
              omega
      · have h5' : ¬ (k : Int) ≤ 500 := by omega
        have h6 : ¬ (os.length : Int) ≤ 500 := by omega
        go_wp2
        go_ret
        refine ⟨?_, bel_trans HW.out.1 HB.out⟩
        rw [HR.out]
        unfold oOk
        rw [decide_eq_false (by omega)]
        first | rfl | simp
    · have hke : k = os.length := by omega
      have hkk : ¬ ((k : Int) < os.length) := by omega
      have HK := Lib.hid hke
      clear hke
      go_wp2
      go_ret
      refine ⟨?_, bel_trans HW.out.1 HB.out⟩
      rw [HR.out]
      refine congrArg (fun b => Ending.returned (.bool b)) ?_
      unfold oOk
      have h9 : os.all (oIn es.length) = true := by
        rw [List.all_eq_true]
        intro x hx
        obtain ⟨i, hi, rfl⟩ := List.getElem_of_mem hx
        have := HA.out i (by rw [HK.out]; exact hi)
        simpa [List.getD, hi] using this
      rw [h9, Bool.and_true]
      have := HK.out
      first | rfl | (apply decide_eq_decide.2; omega) | (simp; omega)
end Go.Proofs.Ytflcnlepbllelaa
