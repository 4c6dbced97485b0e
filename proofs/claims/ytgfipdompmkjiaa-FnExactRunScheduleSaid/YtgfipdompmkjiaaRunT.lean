/- RunSchedule: in the model. -/
import Derived.Test.YtgfipdompmkjiaaRunS
namespace Go.Proofs.Ytgfipdompmkjiaa
open Go.RowKit Go.BigFrame Go.Deep
set_option linter.unusedVariables false
set_option linter.unusedSimpArgs false

/-- The view that is being relaxed: in a box at B, its values in memory of their own. -/
def OutV (w : World) (n : Int) (s : Value) (m a : Int) (t : Value) (B : Nat) (len : Nat) (zs : List Int) (wr : World) : Prop :=
  B3 w n s m a t wr ∧ ∃ va vc lo hi, Box wr B 30 #[.int .i64 m, .int .i64 a, .slice va len vc] ∧ InR true wr lo hi (.slice va len vc) len 1 (cellI zs) ∧ zs.length = len ∧ (w.heap.size + 3 ≤ lo ∧ w.heap.size + 3 ≤ B ∧ hi ≤ wr.heap.size ∧ (hi ≤ B ∨ B + 1 ≤ lo)) ∧ okS (.slice va len vc)

set_option maxRecDepth 20000 in
set_option maxHeartbeats 4000000 in
theorem sRunSchedule (n m a : Int) (es : List Ed) (zs os : List Int) (s t o : Value) (w : World) (hs : RowE w s es) (ht : Row w t zs) (hq : Row w o os) (hl : es.length ≤ 281474976710656) (hl2 : zs.length ≤ 281474976710656) (hl3 : os.length ≤ 281474976710656) :
    Calls Try.prog 22 #[.agg #[.int .i64 n, s], .agg #[.int .i64 m, .int .i64 a, t], o] w (RunPost w n m a es zs os) := by
  have ho := fun w' (h : Below w.heap.size w w') => sViewValid n m a es zs s t w' (hs.keep h) (ht.keep h) hl hl2
  have HP := Lib.hid (fun w' (hf : rsB n es m a zs os = false) h => runPost_no (w := w) (w' := w') (n := n) (m := m) (a := a) (es := es) (zs := zs) (os := os) hf h)
  have HY := Lib.hid (fun w' v (hf : rsB n es m a zs os = true) h1 h2 h3 => runPost_yes (w := w) (w' := w') (n := n) (m := m) (a := a) (es := es) (zs := zs) (os := os) (v := v) hf h1 h2 h3)
  have HT := Lib.hid ht
  obtain ⟨ad, cap, rfl, hz0⟩ := hs
  obtain ⟨ad2, cap2, rfl, hy0⟩ := ht
  have HZ := Lib.hid hz0
  have hov := fun w' (h : Below w.heap.size w w') => l5Order n es os ad cap o w' (hq.keep h) hl hl3
  obtain ⟨ad3, cap3, rfl, hx0⟩ := hq
  have HX0 := Lib.hid hx0
  have hb0 := B3.new w n (.slice ad es.length cap) m a (.slice ad2 zs.length cap2)
  clear hz0 hy0 hx0
  cases hV : vVal n es m a zs
  · rw [hV] at ho
    have HF := Lib.hid (show rsB n es m a zs os = false by unfold rsB; rw [hV]; rfl)
    have HO := Lib.hid ho
    clear ho hV hov
    go_enter Try.func22, Try.ntmps22
    go_wp2_with fail
    generalize (((w.alloc (.cells #[.int .i64 n, .slice ad es.length cap] 35)).alloc (.cells #[.int .i64 m, .int .i64 a, .slice ad2 zs.length cap2] 30)).alloc (.cells #[.int .i64 0, .int .i64 0, .slice none 0 0] 30)) = W1 at hb0 ⊢
    refine (HO.out _ hb0.bel).mono ?_
    rintro e w1 ⟨rfl, hb1⟩
    have h1 := hb0.keep hb1
    have HA := Lib.hid h1
    obtain ⟨-, -, ⟨r0, r1, r2⟩, q0, q1, q2⟩ := h1.cells
    clear hb0 h1 hb1
    go_wp2
    try simp only [Exit.inBlock, Exit.then]
    refine bodyPost_ret (v := .tuple #[.agg #[.int .i64 0, .int .i64 0, .slice none 0 0], .bool false]) ?_ rfl ?_
    · rw [results_cell_tmp rfl]
      go_simp
    exact HP.out _ HF.out (HA.out.out0 _ _ _)
  rw [hV] at ho
  have HO := Lib.hid ho
  clear ho
  cases hO : oOk es.length os
  · rw [hO] at hov
    have HF := Lib.hid (show rsB n es m a zs os = false by unfold rsB; rw [hV, hO]; rfl)
    have HOV := Lib.hid hov
    clear hV hO hov
    go_enter Try.func22, Try.ntmps22
    go_wp2_with fail
    generalize (((w.alloc (.cells #[.int .i64 n, .slice ad es.length cap] 35)).alloc (.cells #[.int .i64 m, .int .i64 a, .slice ad2 zs.length cap2] 30)).alloc (.cells #[.int .i64 0, .int .i64 0, .slice none 0 0] 30)) = W1 at hb0 ⊢
    refine (HO.out _ hb0.bel).mono ?_
    rintro e w1 ⟨rfl, hb1⟩
    have h1 := hb0.keep hb1
    have HA := Lib.hid h1
    obtain ⟨⟨g0, g1⟩, -, -, -⟩ := h1.cells
    clear hb0 h1 hb1
    go_wp2_with fail
    refine (HOV.out _ HA.out.bel).mono ?_
    rintro e w2 ⟨rfl, hb2⟩
    have h2 := HA.out.keep hb2
    have HA2 := Lib.hid h2
    obtain ⟨-, -, ⟨r0, r1, r2⟩, q0, q1, q2⟩ := h2.cells
    clear h2 hb2 g0 g1
    go_wp2
    try simp only [Exit.inBlock, Exit.then]
    refine bodyPost_ret (v := .tuple #[.agg #[.int .i64 0, .int .i64 0, .slice none 0 0], .bool false]) ?_ rfl ?_
    · rw [results_cell_tmp rfl]
      go_simp
    exact HP.out _ HF.out (HA2.out.out0 _ _ _)
  rw [hO] at hov
  have HF := Lib.hid (show rsB n es m a zs os = true by unfold rsB; rw [hV, hO]; rfl)
  have HOV := Lib.hid hov
  obtain ⟨hm, h0, h12, h40, hv, he⟩ := vVal_use hV
  have HOA := Lib.hid (oOk_all hO)
  have h500 := oOk_len hO
  have hcp := fun w' (h : Below w.heap.size w w') => l3Copy m a zs (.slice ad2 zs.length cap2) w' (HT.out.keep h) h0 (by omega)
  have HCP := Lib.hid hcp
  have hrx : ∀ (L : List Int) (u : Value) (X Y : Nat) (z : Int) w', L.length = zs.length → Row w' u L → X < zs.length → Y < zs.length → vAll m L → mWeight z = true → Calls Try.prog 46 #[.agg #[.int .i64 m, .int .i64 a, u], .agg #[.int .i64 X, .int .i64 Y, .int .i64 z]] w' fun e w'' => ∃ v, e = .returned (.agg #[.int .i64 m, .int .i64 a, v]) ∧ OwnV w' w'' v (vOne m L (X, Y, z)) ∧ okS v ∧ Below w'.heap.size w' w'' :=
    fun L u X Y z w' hL h1 hX hY h2 h3 => l5Relax m a L u X Y z w' hm h1 (by omega) (by omega) (by omega) h2 h3
  have HRX := Lib.hid hrx
  have HE := Lib.hid he
  have HVR := Lib.hid (fun k => (vRun_step hm (os.take k) zs he hv (fun i hi => oOk_all hO i (List.mem_of_mem_take hi))).1)
  clear hV hO hov he hv hm hcp hrx
  go_enter Try.func22, Try.ntmps22
  go_wp2_with fail
  generalize (((w.alloc (.cells #[.int .i64 n, .slice ad es.length cap] 35)).alloc (.cells #[.int .i64 m, .int .i64 a, .slice ad2 zs.length cap2] 30)).alloc (.cells #[.int .i64 0, .int .i64 0, .slice none 0 0] 30)) = W1 at hb0 ⊢
  refine (HO.out _ hb0.bel).mono ?_
  rintro e w1 ⟨rfl, hb1⟩
  have h1 := hb0.keep hb1
  have HA := Lib.hid h1
  obtain ⟨⟨g0, g1⟩, -, -, -⟩ := h1.cells
  clear hb0 h1 hb1
  go_wp2_with fail
  refine (HOV.out _ HA.out.bel).mono ?_
  rintro e w2 ⟨rfl, hb2⟩
  have h2 := HA.out.keep hb2
  have HA2 := Lib.hid h2
  obtain ⟨-, ⟨v0, v1, v2⟩, -, -⟩ := h2.cells
  have hlt2 := h2.lt
  clear h2 hb2 g0 g1
  go_wp2_with fail
  refine (HCP.out _ HA2.out.bel).mono ?_
  rintro e w3 ⟨v, rfl, hown, hok, hb3⟩
  obtain ⟨va, vc, rfl⟩ := hown.slice
  have hs23 := hb3.size
  have hbA : Below w3.heap.size w3 (w3.alloc (.cells #[.int .i64 m, .int .i64 a, .slice va zs.length vc] 30)) := (Below.refl _ _).alloc (Nat.le_refl _) _
  have hOV : OutV w n (.slice ad es.length cap) m a (.slice ad2 zs.length cap2) w3.heap.size zs.length (vRun m es zs (os.take 0)) (w3.alloc (.cells #[.int .i64 m, .int .i64 a, .slice va zs.length vc] 30)) :=
    ⟨(HA2.out.keep hb3).keep hbA, va, vc, w2.heap.size, w3.heap.size, Box.new _ _ _, InR.keep hown hbA, rfl, ⟨by omega, by omega, by simp, .inl (Nat.le_refl _)⟩, hok⟩
  have HOVV := Lib.hid hOV
  clear hown hok hb3 hbA hOV v0 v1 v2
  go_wp2
  generalize (w3.alloc (.cells #[.int .i64 m, .int .i64 a, .slice va zs.length vc] 30)) = W3 at HOVV ⊢
  go_loopw [9] (fun c wr => ∃ k : Nat, k ≤ os.length ∧ c = .int .i64 k ∧ Hid (OutV w n (.slice ad es.length cap) m a (.slice ad2 zs.length cap2) w3.heap.size zs.length (vRun m es zs (os.take k)) wr)) (fun c _ => os.length - (intOf c).toNat)
  case atStart => exact ⟨0, Nat.zero_le _, rfl, HOVV⟩
  case round =>
    obtain ⟨k, hk, rfl, HK⟩ := hrel
    obtain ⟨hb3, va1, vc1, lo, hi, hbx, hrow, hlen, ⟨hlo, hB, hhi, hdj⟩, hok⟩ := HK.out
    have HKK := Lib.hid (And.intro hb3 (And.intro hbx (And.intro hrow (And.intro hlen hok))))
    have hltr := hb3.lt
    clear HK
    by_cases hlt : k < os.length
    · have hlt' : (k : Int) < os.length := by omega
      rcases HX0.out with h00 | ⟨p, q, rfl, hp, hpc⟩
      · rw [h00] at hlt; simp at hlt
      obtain ⟨J, hJ0, hJ⟩ := oIn_nat (HOA.out (os.getD k 0) (by simp [List.getD, hlt]))
      have hpk := hpc k hlt
      rw [hJ0] at hpk
      obtain ⟨x, y, z, hx⟩ : ∃ x y z, (x, y, z) = es.getD J (0, 0, 0) := ⟨_, _, _, rfl⟩
      obtain ⟨X, Y, rfl, rfl, hX, hY, hwz⟩ := edge_nat HE.out hJ hx
      have hsucc := vRun_take m es zs os k hlt
      rw [hJ0] at hsucc
      unfold eAt at hsucc
      rw [Int.toNat_natCast, ← hx] at hsucc
      rcases HZ.out with h00 | ⟨b, off, rfl, hb, hc⟩
      · rw [h00] at hJ; simp at hJ
      have hc1 := hc J hJ
      rw [← hx] at hc1
      simp only at hc1
      have hJ' : (J : Int) < es.length := by omega
      have hall := HVR.out k
      have hlen2 : (vRun m es zs (os.take (k + 1))).length = zs.length := vRun_length m es _ zs
      obtain ⟨L2, hL2⟩ : ∃ L2, L2 = vRun m es zs (os.take (k + 1)) := ⟨_, rfl⟩
      rw [← hL2] at hsucc hlen2
      have HL2 := Lib.hid hL2
      generalize vRun m es zs (os.take k) = L at hsucc hrow hlen HKK hall
      have hcall := fun w' (h : Row w' (.slice va1 zs.length vc1) L) => HRX.out L (.slice va1 zs.length vc1) X Y z w' hlen h hX hY hall hwz
      rw [← hsucc] at hcall
      have HC := Lib.hid hcall
      have hflat : ∀ w', Below wr.heap.size wr w' → w'.cell? ⟨w.heap.size, 1, none⟩ = some (.slice (some ⟨b, off, none⟩) es.length cap) ∧ w'.cell? ⟨w3.heap.size, 0, none⟩ = some (.int .i64 m) ∧ w'.cell? ⟨w3.heap.size, 1, none⟩ = some (.int .i64 a) ∧ w'.cell? ⟨w3.heap.size, 2, none⟩ = some (.slice va1 zs.length vc1) ∧ w'.cell? ⟨b, off + J * 3, none⟩ = some (.int .i64 X) ∧ w'.cell? ⟨b, off + J * 3 + 1, none⟩ = some (.int .i64 Y) ∧ w'.cell? ⟨b, off + J * 3 + 2, none⟩ = some (.int .i64 z) ∧ w'.cell? ⟨p, q + k, none⟩ = some (.int .i64 J) := fun w' h => by
        have h2 := HKK.out.1.keep h
        have hx2 := HKK.out.2.1.keep h
        obtain ⟨⟨g0, g1⟩, -, -, -⟩ := h2.cells
        exact ⟨g1, by simpa using hx2.cell 0, by simpa using hx2.cell 1, by simpa using hx2.cell 2, (h2.bel.cell (p := ⟨b, _, none⟩) hb).trans hc1.1, (h2.bel.cell (p := ⟨b, _, none⟩) hb).trans hc1.2.1, (h2.bel.cell (p := ⟨b, _, none⟩) hb).trans hc1.2.2, (h2.bel.cell (p := ⟨p, _, none⟩) hp).trans hpk⟩
      have HFL := Lib.hid hflat
      have hrw : Row wr (.slice va1 zs.length vc1) L := by
        have h9 := HKK.out.2.2.1
        rw [← hlen] at h9
        have h8 := InR.rowI h9
        rw [hlen] at h8
        exact h8
      have HRW := Lib.hid hrw
      have hBl := hbx.lt
      have f0 := hbx.frozen 0
      have f1 := hbx.frozen 1
      have f2 := hbx.frozen 2
      obtain ⟨c0, c1, c2, c3, c4, c5, c6, c7⟩ := HFL.out _ (Below.refl _ _)
      have hn1 : ¬ b = w3.heap.size := by omega
      have hn2 : ¬ w3.heap.size = b := by omega
      clear hpc hpk hx hc hc1 hsucc hcall hflat hrow hbx hb3 hall hJ0 hlen hok hrw hL2
      go_wp2
      go_region_law (first | (go_simp; go_at_call 46; (with_reducible refine (HC.out _ (HRW.out.keep ((Below.refl _ _).drew))).mono ?_); rintro e w5 ⟨v5, rfl, how5, hok5, hb5⟩; obtain ⟨va5, vc5, rfl⟩ := how5.slice; rw [hlen2]; have HBB := Lib.hid (bel_trans ((Below.refl _ _).drew) hb5); have H5 := Lib.hid (And.intro how5 hok5); obtain ⟨d0, d1, d2, d3, d4, d5, d6, d7⟩ := HFL.out _ HBB.out; have e0 := (HKK.out.2.1.keep HBB.out).frozen 0; have e1 := (HKK.out.2.1.keep HBB.out).frozen 1; have e2 := (HKK.out.2.1.keep HBB.out).frozen 2; clear how5 hok5))
      all_goals go_wp2
      all_goals go_roundw
      all_goals first | (simp [intOf]; omega) | skip
      all_goals
        have hch : ∀ x y z, Chg w3.heap.size (w3.heap.size + 1) w5 (((w5.setCell ⟨w3.heap.size, 0, none⟩ x).setCell ⟨w3.heap.size, 1, none⟩ y).setCell ⟨w3.heap.size, 2, none⟩ z) := fun x y z => (((Chg.refl _ _ _).setCell (by simp only; omega) (by simp only; omega) _).setCell (by simp only; omega) (by simp only; omega) _).setCell (by simp only; omega) (by simp only; omega) _
        have hbx9 := (((HKK.out.2.1.keep HBB.out).set 0 (.int .i64 m)).set 1 (.int .i64 a)).set 2 (.slice va5 zs.length vc5)
        have hrow5 : InR true w5 wr.heap.size w5.heap.size (.slice va5 L2.length vc5) L2.length 1 (cellI L2) := H5.out.1
        have hok5 := H5.out.2
        rw [hlen2] at hrow5 hok5
        have hrow9 := hrow5.chg (hch (.int .i64 m) (.int .i64 a) (.slice va5 zs.length vc5)) (.inl (by omega))
        have h39 := (HKK.out.1.keep HBB.out).chgK (hch (.int .i64 m) (.int .i64 a) (.slice va5 zs.length vc5)) hB
        have hs59 := (hch (.int .i64 m) (.int .i64 a) (.slice va5 zs.length vc5)).size
        have hs5 := HBB.out.size
        have hfin : OutV w n (.slice (some ⟨b, off, none⟩) es.length cap) m a (.slice ad2 zs.length cap2) w3.heap.size zs.length L2 (((w5.setCell ⟨w3.heap.size, 0, none⟩ (.int .i64 m)).setCell ⟨w3.heap.size, 1, none⟩ (.int .i64 a)).setCell ⟨w3.heap.size, 2, none⟩ (.slice va5 zs.length vc5)) :=
          ⟨h39, va5, vc5, wr.heap.size, w5.heap.size, by unfold Box at hbx9 ⊢; simpa using hbx9, hrow9, hlen2, ⟨by omega, hB, hs59, .inr (by omega)⟩, hok5⟩
        rw [HL2.out] at hfin
        first | exact ⟨k + 1, by omega, by go_num, Lib.hid hfin⟩ | exact ⟨_, ⟨k + 1, by omega, by go_num, Lib.hid hfin⟩, rfl⟩ | ((repeat apply Exists.intro); exact ⟨⟨k + 1, by omega, by go_num, Lib.hid hfin⟩, rfl⟩)
    · have hke : k = os.length := by omega
      have hkk : ¬ ((k : Int) < os.length) := by omega
      have HKE := Lib.hid hke
      clear hke
      obtain ⟨-, -, ⟨r0, r1, r2⟩, q0, q1, q2⟩ := hb3.cells
      have x0 : wr.cell? ⟨w3.heap.size, 0, none⟩ = some (.int .i64 m) := by simpa using hbx.cell 0
      have x1 : wr.cell? ⟨w3.heap.size, 1, none⟩ = some (.int .i64 a) := by simpa using hbx.cell 1
      have x2 : wr.cell? ⟨w3.heap.size, 2, none⟩ = some (.slice va1 zs.length vc1) := by simpa using hbx.cell 2
      have hne : ¬ w3.heap.size = w.heap.size + 1 + 1 := by omega
      clear hbx hrow hlen hb3
      go_wp2
      try simp only [Exit.inBlock, Exit.then]
      refine bodyPost_ret (v := .tuple #[.agg #[.int .i64 m, .int .i64 a, .slice va1 zs.length vc1], .bool true]) ?_ rfl ?_
      · rw [results_cell_tmp rfl]
        go_simp
      have hL : vRun m es zs (os.take k) = vRun m es zs os := by rw [HKE.out, List.take_length]
      have h9 := HKK.out.2.2.1
      have hlen9 := HKK.out.2.2.2.1
      rw [hL] at h9 hlen9
      rw [← hlen9] at h9
      have hout := HKK.out.1.out h9 hlo hhi (.int .i64 m) (.int .i64 a) (.slice va1 zs.length vc1)
      have ho1 := hout.1
      rw [hlen9] at ho1
      exact HY.out _ _ HF.out ho1 HKK.out.2.2.2.2 hout.2
end Go.Proofs.Ytgfipdompmkjiaa
