/- RelaxEdge and RunSchedule: in the program and in the model. -/
import Derived.Test.YtgfipdompmkjiaaRunI
namespace Go.Proofs.Ytgfipdompmkjiaa
open Go.RowKit Go.BigFrame Go.Deep
set_option linter.unusedVariables false
set_option linter.unusedSimpArgs false

theorem B3.chgK {w w1 w2 : World} {n m a : Int} {s t : Value} {lo hi : Nat} (h : B3 w n s m a t w1) (c : Chg lo hi w1 w2) (hlo : w.heap.size + 3 ≤ lo) : B3 w n s m a t w2 := by
  have hl := h.lt
  exact ⟨bel_chg h.bel c (by omega), (c.block _ h.g.lt (.inl (by omega))).trans h.g, (c.block _ h.v.lt (.inl (by omega))).trans h.v, (c.block _ h.r.lt (.inl (by omega))).trans h.r⟩
theorem oOk_one (l : Nat) (i : Int) : oOk l [i] = oIn l i := by simp [oOk]
theorem vRun_one (m : Int) (es : List Ed) (zs : List Int) (i : Int) : vRun m es zs [i] = vOne m zs (eAt es i) := rfl
theorem runPost_yes {w w' : World} {n m a : Int} {es : List Ed} {zs os : List Int} {v : Value} (h : rsB n es m a zs os = true) (h1 : OwnV w w' v (vRun m es zs os)) (h2 : okS v) (h3 : Below w.heap.size w w') :
    RunPost w n m a es zs os (.returned (.tuple #[.agg #[.int .i64 m, .int .i64 a, v], .bool true])) w' := by
  unfold RunPost rsM rsA rsL
  rw [h, if_pos rfl, if_pos rfl, if_pos rfl]
  exact ⟨_, rfl, h1, h2, h3⟩

set_option maxRecDepth 20000 in
set_option maxHeartbeats 2000000 in
theorem relaxEdge (n m a i : Int) (es : List Ed) (zs : List Int) (s t : Value) (w : World) (hs : RowE w s es) (ht : Row w t zs) (hl : es.length ≤ 281474976710656) (hl2 : zs.length ≤ 281474976710656) :
    Calls Try.prog 16 #[.agg #[.int .i64 n, s], .agg #[.int .i64 m, .int .i64 a, t], .int .i64 i] w (RunPost w n m a es zs [i]) := by
  have hrs := fun (o : Value) w' (h : Below w.heap.size w w') (hq : Row w' o [i]) => runSchedule n m a es zs [i] s t o w' (hs.keep h) (ht.keep h) hq hl hl2 (by simp)
  unfold RunPost at hrs ⊢
  generalize rsM n es m a zs [i] = M at hrs ⊢
  generalize rsA n es m a zs [i] = A at hrs ⊢
  generalize rsB n es m a zs [i] = B at hrs ⊢
  generalize rsL n es m a zs [i] = L at hrs ⊢
  have HRS := Lib.hid hrs
  obtain ⟨ad, cap, rfl, hz0⟩ := hs
  obtain ⟨ad2, cap2, rfl, hy0⟩ := ht
  have hb0 := B3.new w n (.slice ad es.length cap) m a (.slice ad2 zs.length cap2)
  clear hz0 hy0 hrs
  go_enter Try.func16, Try.ntmps16
  go_wp2_with fail
  have hA := hb0.keep ((Below.refl _ (((w.alloc (.cells #[.int .i64 n, .slice ad es.length cap] 35)).alloc (.cells #[.int .i64 m, .int .i64 a, .slice ad2 zs.length cap2] 30)).alloc (.cells #[.int .i64 0, .int .i64 0, .slice none 0 0] 30))).alloc (Nat.le_refl _) (.cells #[.int .i64 i] 3))
  have hrow := row_one2 w (.cells #[.int .i64 n, .slice ad es.length cap] 35) (.cells #[.int .i64 m, .int .i64 a, .slice ad2 zs.length cap2] 30)
  have hrw : Row ((((w.alloc (.cells #[.int .i64 n, .slice ad es.length cap] 35)).alloc (.cells #[.int .i64 m, .int .i64 a, .slice ad2 zs.length cap2] 30)).alloc (.cells #[.int .i64 0, .int .i64 0, .slice none 0 0] 30)).alloc (.cells #[.int .i64 i] 3)) (.slice (some ⟨w.heap.size + 1 + 1 + 1, 0, none⟩) 1 1) [i] := by
    have := row_one (((w.alloc (.cells #[.int .i64 n, .slice ad es.length cap] 35)).alloc (.cells #[.int .i64 m, .int .i64 a, .slice ad2 zs.length cap2] 30)).alloc (.cells #[.int .i64 0, .int .i64 0, .slice none 0 0] 30)) i 3
    simpa using this
  clear hrow hb0
  generalize ((((w.alloc (.cells #[.int .i64 n, .slice ad es.length cap] 35)).alloc (.cells #[.int .i64 m, .int .i64 a, .slice ad2 zs.length cap2] 30)).alloc (.cells #[.int .i64 0, .int .i64 0, .slice none 0 0] 30)).alloc (.cells #[.int .i64 i] 3)) = W1 at hA hrw ⊢
  refine (HRS.out _ _ hA.bel hrw).mono ?_
  rintro e w1 ⟨v, rfl, hown, hok, hb1⟩
  have h1 := hA.keep hb1
  obtain ⟨va, vc, rfl⟩ := hown.slice
  have HH := Lib.hid (And.intro h1 (And.intro hown (And.intro hok hA.lt)))
  obtain ⟨-, -, ⟨r0, r1, r2⟩, q0, q1, q2⟩ := h1.cells
  clear hA h1 hb1 hown hok hrw
  go_wp2
  try simp only [Exit.inBlock, Exit.then]
  refine bodyPost_ret (v := .tuple #[.agg #[.int .i64 M, .int .i64 A, .slice va L.length vc], .bool B]) ?_ rfl ?_
  · rw [results_cell_tmp rfl]
    go_simp
  have hout := HH.out.1.out HH.out.2.1 HH.out.2.2.2 (Nat.le_refl _) (.int .i64 M) (.int .i64 A) (.slice va L.length vc)
  exact ⟨_, rfl, hout.1, HH.out.2.2.1, hout.2⟩

set_option maxRecDepth 20000 in
set_option maxHeartbeats 4000000 in
theorem sRelaxEdge (n m a i : Int) (es : List Ed) (zs : List Int) (s t : Value) (w : World) (hs : RowE w s es) (ht : Row w t zs) (hl : es.length ≤ 281474976710656) (hl2 : zs.length ≤ 281474976710656) :
    Calls Try.prog 13 #[.agg #[.int .i64 n, s], .agg #[.int .i64 m, .int .i64 a, t], .int .i64 i] w (RunPost w n m a es zs [i]) := by
  have ho := fun w' (h : Below w.heap.size w w') => sViewValid n m a es zs s t w' (hs.keep h) (ht.keep h) hl hl2
  have hrb : rsB n es m a zs [i] = (vVal n es m a zs && oIn es.length i) := by unfold rsB; rw [oOk_one]
  have HP := Lib.hid (fun w' (hf : rsB n es m a zs [i] = false) h => runPost_no (w := w) (w' := w') (n := n) (m := m) (a := a) (es := es) (zs := zs) (os := [i]) hf h)
  have HY := Lib.hid (fun w' v (hf : rsB n es m a zs [i] = true) h1 h2 h3 => runPost_yes (w := w) (w' := w') (n := n) (m := m) (a := a) (es := es) (zs := zs) (os := [i]) (v := v) hf h1 h2 h3)
  have HRB := Lib.hid hrb
  have HT := Lib.hid ht
  obtain ⟨ad, cap, rfl, hz0⟩ := hs
  obtain ⟨ad2, cap2, rfl, hy0⟩ := ht
  have HZ := Lib.hid hz0
  have hb0 := B3.new w n (.slice ad es.length cap) m a (.slice ad2 zs.length cap2)
  clear hz0 hy0 hrb
  cases hV : vVal n es m a zs
  · rw [hV] at ho
    have HF := Lib.hid (show rsB n es m a zs [i] = false by rw [HRB.out, hV]; rfl)
    have HO := Lib.hid ho
    clear ho hV
    go_enter Try.func13, Try.ntmps13
    go_wp2_with fail
    generalize (((w.alloc (.cells #[.int .i64 n, .slice ad es.length cap] 35)).alloc (.cells #[.int .i64 m, .int .i64 a, .slice ad2 zs.length cap2] 30)).alloc (.cells #[.int .i64 0, .int .i64 0, .slice none 0 0] 30)) = W1 at hb0 ⊢
    refine (HO.out _ hb0.bel).mono ?_
    rintro e w1 ⟨rfl, hb1⟩
    have h1 := hb0.keep hb1
    have HA := Lib.hid h1
    obtain ⟨-, -, ⟨r0, r1, r2⟩, q0, q1, q2⟩ := h1.cells
    clear hb0 h1 hb1
    go_wp2
    try simp only [Exit.inBlock, Exit.then]
    refine bodyPost_ret (v := .tuple #[.agg #[.int .i64 0, .int .i64 0, .slice none 0 0], .bool false]) ?_ rfl ?_
    · rw [results_cell_tmp rfl]
      go_simp
    exact HP.out _ HF.out (HA.out.out0 _ _ _)
  rw [hV] at ho
  have HO := Lib.hid ho
  clear ho
  by_cases hi0 : i < 0
  · have d0 : decide (i < 0) = true := by simpa using hi0
    have HF := Lib.hid (show rsB n es m a zs [i] = false by rw [HRB.out, hV]; simp [oIn]; omega)
    clear hV hi0
    go_enter Try.func13, Try.ntmps13
    go_wp2_with fail
    generalize (((w.alloc (.cells #[.int .i64 n, .slice ad es.length cap] 35)).alloc (.cells #[.int .i64 m, .int .i64 a, .slice ad2 zs.length cap2] 30)).alloc (.cells #[.int .i64 0, .int .i64 0, .slice none 0 0] 30)) = W1 at hb0 ⊢
    refine (HO.out _ hb0.bel).mono ?_
    rintro e w1 ⟨rfl, hb1⟩
    have h1 := hb0.keep hb1
    have HA := Lib.hid h1
    obtain ⟨-, -, ⟨r0, r1, r2⟩, q0, q1, q2⟩ := h1.cells
    clear hb0 h1 hb1
    go_wp2
    try simp only [Exit.inBlock, Exit.then]
    refine bodyPost_ret (v := .tuple #[.agg #[.int .i64 0, .int .i64 0, .slice none 0 0], .bool false]) ?_ rfl ?_
    · rw [results_cell_tmp rfl]
      go_simp
    exact HP.out _ HF.out (HA.out.out0 _ _ _)
  have d0 : decide (i < 0) = false := by simpa using hi0
  by_cases hi1 : i < es.length
  rotate_left
  · have d1 : decide ((es.length : Int) ≤ i) = true := by simp; omega
    have HF := Lib.hid (show rsB n es m a zs [i] = false by rw [HRB.out, hV]; simp [oIn]; omega)
    clear hV hi0 hi1
    go_enter Try.func13, Try.ntmps13
    go_wp2_with fail
    generalize (((w.alloc (.cells #[.int .i64 n, .slice ad es.length cap] 35)).alloc (.cells #[.int .i64 m, .int .i64 a, .slice ad2 zs.length cap2] 30)).alloc (.cells #[.int .i64 0, .int .i64 0, .slice none 0 0] 30)) = W1 at hb0 ⊢
    refine (HO.out _ hb0.bel).mono ?_
    rintro e w1 ⟨rfl, hb1⟩
    have h1 := hb0.keep hb1
    have HA := Lib.hid h1
    obtain ⟨⟨g0, g1⟩, -, ⟨r0, r1, r2⟩, q0, q1, q2⟩ := h1.cells
    clear hb0 h1 hb1
    go_wp2
    try simp only [Exit.inBlock, Exit.then]
    refine bodyPost_ret (v := .tuple #[.agg #[.int .i64 0, .int .i64 0, .slice none 0 0], .bool false]) ?_ rfl ?_
    · rw [results_cell_tmp rfl]
      go_simp
    exact HP.out _ HF.out (HA.out.out0 _ _ _)
  have d1 : decide ((es.length : Int) ≤ i) = false := by simp; omega
  have HF := Lib.hid (show rsB n es m a zs [i] = true by rw [HRB.out, hV]; simp [oIn]; omega)
  obtain ⟨J, rfl⟩ : ∃ J : Nat, i = J := ⟨i.toNat, by omega⟩
  have hJ : J < es.length := by omega
  obtain ⟨hm, h0, h12, h40, hv, he⟩ := vVal_use hV
  obtain ⟨x, y, z, hx⟩ : ∃ x y z, (x, y, z) = es.getD J (0, 0, 0) := ⟨_, _, _, rfl⟩
  obtain ⟨X, Y, rfl, rfl, hX, hY, hwz⟩ := edge_nat he hJ hx
  have hrx := fun w' (h : Below w.heap.size w w') => l5Relax m a zs (.slice ad2 zs.length cap2) X Y z w' hm (HT.out.keep h) hX hY (by omega) hv hwz
  have hvr : vRun m es zs [(J : Int)] = vOne m zs ((X : Int), (Y : Int), z) := by rw [vRun_one]; unfold eAt; rw [Int.toNat_natCast, ← hx]
  rw [← hvr] at hrx
  rcases HZ.out with h00 | ⟨b, off, rfl, hb, hc⟩
  · rw [h00] at hJ; simp at hJ
  have hc1 := hc J hJ
  rw [← hx] at hc1
  simp only at hc1
  have hlen : (vRun m es zs [(J : Int)]).length = zs.length := vRun_length m es _ zs
  generalize vRun m es zs [(J : Int)] = L at hrx HY hlen
  have HRX := Lib.hid hrx
  have HC1 := Lib.hid hc1
  clear hrx hvr hx hc hc1 hV hi0 hv he hm
  go_enter Try.func13, Try.ntmps13
  go_wp2_with fail
  generalize (((w.alloc (.cells #[.int .i64 n, .slice (some ⟨b, off, none⟩) es.length cap] 35)).alloc (.cells #[.int .i64 m, .int .i64 a, .slice ad2 zs.length cap2] 30)).alloc (.cells #[.int .i64 0, .int .i64 0, .slice none 0 0] 30)) = W1 at hb0 ⊢
  refine (HO.out _ hb0.bel).mono ?_
  rintro e w1 ⟨rfl, hb1⟩
  have h1 := hb0.keep hb1
  have HA := Lib.hid h1
  have hflat : ∀ w', Below w1.heap.size w1 w' → w'.cell? ⟨w.heap.size, 1, none⟩ = some (.slice (some ⟨b, off, none⟩) es.length cap) ∧ w'.cell? ⟨w.heap.size + 1, 0, none⟩ = some (.int .i64 m) ∧ w'.cell? ⟨w.heap.size + 1, 1, none⟩ = some (.int .i64 a) ∧ w'.cell? ⟨w.heap.size + 1, 2, none⟩ = some (.slice ad2 zs.length cap2) ∧ w'.cell? ⟨b, off + J * 3, none⟩ = some (.int .i64 X) ∧ w'.cell? ⟨b, off + J * 3 + 1, none⟩ = some (.int .i64 Y) ∧ w'.cell? ⟨b, off + J * 3 + 2, none⟩ = some (.int .i64 z) := fun w' h => by
    have h2 := HA.out.keep h
    obtain ⟨⟨g0, g1⟩, ⟨v0, v1, v2⟩, -, -⟩ := h2.cells
    exact ⟨g1, v0, v1, v2, (h2.bel.cell (p := ⟨b, _, none⟩) hb).trans HC1.out.1, (h2.bel.cell (p := ⟨b, _, none⟩) hb).trans HC1.out.2.1, (h2.bel.cell (p := ⟨b, _, none⟩) hb).trans HC1.out.2.2⟩
  have HFL := Lib.hid hflat
  obtain ⟨⟨g0, g1⟩, -, ⟨r0, r1, r2⟩, q0, q1, q2⟩ := h1.cells
  have hbn : ¬ b = w.heap.size + 1 + 1 := by omega
  have hbn' : ¬ w.heap.size + 1 + 1 = b := by omega
  clear hb0 h1 hb1 hflat
  go_wp2
  go_region_held3 (fun w' : World => w'.cell? ⟨w.heap.size, 1, none⟩ = some (.slice (some ⟨b, off, none⟩) es.length cap) ∧ w'.cell? ⟨w.heap.size + 1, 0, none⟩ = some (.int .i64 m) ∧ w'.cell? ⟨w.heap.size + 1, 1, none⟩ = some (.int .i64 a) ∧ w'.cell? ⟨w.heap.size + 1, 2, none⟩ = some (.slice ad2 zs.length cap2) ∧ w'.cell? ⟨b, off + J * 3, none⟩ = some (.int .i64 X) ∧ w'.cell? ⟨b, off + J * 3 + 1, none⟩ = some (.int .i64 Y) ∧ w'.cell? ⟨b, off + J * 3 + 2, none⟩ = some (.int .i64 z)) (first | exact HFL.out _ ((Below.refl _ _).drew) | exact HFL.out _ (bel_trans ((Below.refl _ _).drew) hb2) | (refine ⟨?_, ?_, ?_, ?_, ?_, ?_, ?_⟩ <;> go_simp)) (first | (go_at_call 46; (with_reducible refine (HRX.out _ (HA.out.keep ((Below.refl _ _).drew)).bel).mono ?_); rintro e w2 ⟨v, rfl, hown, hok, hb2⟩; obtain ⟨va, vc, rfl⟩ := hown.slice; rw [hlen]; have HH := Lib.hid (And.intro (HA.out.keep (bel_trans ((Below.refl _ _).drew) hb2)) (And.intro hown hok)); obtain ⟨-, -, ⟨t0, t1, t2⟩, u0, u1, u2⟩ := HH.out.1.cells; obtain ⟨c0, c1, c2, c3, c4, c5, c6⟩ := HFL.out _ (bel_trans ((Below.refl _ _).drew) hb2); clear hown hok))
  all_goals
    go_wp2
    try simp only [Exit.inBlock, Exit.then]
    refine bodyPost_ret (v := .tuple #[.agg #[.int .i64 m, .int .i64 a, .slice va zs.length vc], .bool true]) ?_ rfl ?_
    · rw [results_cell_tmp rfl]
      go_simp
    have hlt9 := HA.out.lt
    have hown9 := HH.out.2.1
    have hout := HH.out.1.out hown9 (by simpa using hlt9) (Nat.le_refl _) (.int .i64 m) (.int .i64 a) (.slice va zs.length vc)
    have hv9 := hout.1
    rw [hlen] at hv9
    have hok9 := HH.out.2.2
    rw [hlen] at hok9
    exact HY.out _ _ HF.out hv9 hok9 hout.2
end Go.Proofs.Ytgfipdompmkjiaa
