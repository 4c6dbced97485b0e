/- Kept views, in the model: which of them are valid. -/
import Derived.Test.YtdblcaeeepkebaaKeptI
import Derived.Test.YtdblcaeeepkebaaRelaxS
import Derived.Test.YtdblcaeeepkebaaViewS
import Derived.Test.YtdblcaeeepkebaaVSame2
namespace Go.Proofs.Ytdblcaeeepkebaa
open Go.RowKit Go.BigFrame Go.Deep
set_option linter.unusedVariables false
set_option linter.unusedSimpArgs false

set_option maxRecDepth 20000 in
set_option maxHeartbeats 2000000 in
theorem l5Value (m a : Int) (zs : List Int) (s : Value) (X : Nat) (y z : Int) (w : World) (hm : mKind m = true) (hr : Row w s zs) (hX : X < zs.length) (hl : zs.length ≤ 1048576) (hv : vAll m zs) (hw : mWeight z = true) :
    Calls Try.prog 59 #[.agg #[.int .i64 m, .int .i64 a, s], .agg #[.int .i64 X, .int .i64 y, .int .i64 z]] w fun e w' => e = .returned (.int .i64 (vGive m zs (X, y, z))) ∧ Below w.heap.size w w' := by
  have hse := fun x w => calls_below (sEdge hm x w)
  obtain ⟨x, hx⟩ : ∃ x, x = zs.getD X 0 := ⟨_, rfl⟩
  have hxi : mIn m x = true := by rw [hx]; exact hv X hX
  have hsj := fun w => calls_below (sJoin (bTwo_mk hm hxi (mEdge_in hm hw)) w)
  have e0 : vGive m zs ((X : Int), y, z) = mJoin m x (mEdge m z) := by unfold vGive; rw [hx]; rfl
  rw [e0]
  obtain ⟨ad, cap, rfl, hz⟩ := hr
  rcases hz with hz | ⟨b, off, rfl, hb, hc⟩
  · rw [hz] at hX; simp at hX
  have h1 := hc X hX
  rw [← hx] at h1
  have HSE := Lib.hid hse
  have HSJ := Lib.hid hsj
  have hX' : (X : Int) < zs.length := by omega
  have ff : ∀ w', Below ((w.alloc (.cells #[.int .i64 m, .int .i64 a, .slice (some ⟨b, off, none⟩) zs.length cap] 42)).alloc (.cells #[.int .i64 X, .int .i64 y, .int .i64 z] 79)).heap.size ((w.alloc (.cells #[.int .i64 m, .int .i64 a, .slice (some ⟨b, off, none⟩) zs.length cap] 42)).alloc (.cells #[.int .i64 X, .int .i64 y, .int .i64 z] 79)) w' →
      w'.cell? ⟨b, off + X, none⟩ = some (.int .i64 x) ∧ w'.cell? ⟨w.heap.size, 0, none⟩ = some (.int .i64 m) ∧ w'.cell? ⟨w.heap.size, 2, none⟩ = some (.slice (some ⟨b, off, none⟩) zs.length cap) ∧ w'.cell? ⟨w.heap.size + 1, 0, none⟩ = some (.int .i64 X) ∧ w'.cell? ⟨w.heap.size + 1, 2, none⟩ = some (.int .i64 z) ∧ Below w.heap.size w w' := by
    intro w' h
    have hB := bel_trans (((Below.refl _ w).alloc (Nat.le_refl _) (.cells #[.int .i64 m, .int .i64 a, .slice (some ⟨b, off, none⟩) zs.length cap] 42)).alloc (by simp) (.cells #[.int .i64 X, .int .i64 y, .int .i64 z] 79)) h
    exact ⟨(hB.cell (p := ⟨b, _, none⟩) hb).trans h1, (h.cell (p := ⟨_, _, none⟩) (by simp <;> omega)).trans (by go_simp), (h.cell (p := ⟨_, _, none⟩) (by simp <;> omega)).trans (by go_simp), (h.cell (p := ⟨_, _, none⟩) (by simp <;> omega)).trans (by go_simp), (h.cell (p := ⟨_, _, none⟩) (by simp <;> omega)).trans (by go_simp), hB⟩
  have FF := Lib.hid ff
  clear hc h1 hx hxi hse hsj e0 ff hv
  go_enter Try.func59, Try.ntmps59
  go_wp2
  generalize ((w.alloc (.cells #[.int .i64 m, .int .i64 a, .slice (some ⟨b, off, none⟩) zs.length cap] 42)).alloc (.cells #[.int .i64 X, .int .i64 y, .int .i64 z] 79)) = W1 at FF ⊢
  refine wp_region_below (by kernel_rfl) (by kernel_rfl) ?_
  repeat (go_big_quiet_step ((intro hw1; first | with_reducible rfl | (obtain ⟨f0, f1, f2, f3, f4, -⟩ := FF.out _ hw1; simp only [f0, f1, f2, f3, f4, Result.andThen]; first | exact ⟨trivial, rfl⟩ | exact ⟨rfl, rfl⟩) | (go_at_call 89; exact quietB (HSE.out _ _) hw1) | (go_at_call 88; exact quietB (HSJ.out _) hw1))))
  refine wpQuiet_nil ?_
  intro w2 hw2
  obtain ⟨-, -, -, -, -, hB⟩ := FF.out _ hw2
  go_wp2
  go_ret
  exact ⟨rfl, hB⟩


set_option maxRecDepth 20000 in
set_option maxHeartbeats 4000000 in
theorem l6Tight (n m A : Int) (es : List Ed) (zs ps : List Int) (s v p : Value) (i : Nat) (w : World) (hm : mKind m = true) (hg : gVal n es = true) (hs : RowE w s es) (hv : Row w v zs) (hp : Row w p ps) (hz : (zs.length : Int) = n) (hn : (ps.length : Int) = n) (hA : vAll m zs) (hi : i < ps.length) :
    Calls Try.prog 74 #[.agg (kC n m A s v p), .int .i64 (i : Int)] w fun e w' => e = .returned (.bool (tightK m es zs ps i)) ∧ Below w.heap.size w w' := by
  obtain ⟨g1, g2, g3, _⟩ := gVal_parts hg
  have hi2 : i < zs.length := by omega
  obtain ⟨vb, vo, vc, rfl, hvb, hvc⟩ := hv.at hi2
  obtain ⟨pb, po, pc, rfl, hpb, hpc⟩ := hp.at hi
  obtain ⟨sa, sc, hse, hs2⟩ := id hs
  subst hse
  clear hs2
  have b0 := Box.new w 57 (kC n m A (.slice sa es.length sc) (.slice (some ⟨vb, vo, none⟩) zs.length vc) (.slice (some ⟨pb, po, none⟩) ps.length pc))
  have hb0 : Below w.heap.size w (w.alloc (.cells (kC n m A (.slice sa es.length sc) (.slice (some ⟨vb, vo, none⟩) zs.length vc) (.slice (some ⟨pb, po, none⟩) ps.length pc)) 57)) := (Below.refl _ _).alloc (Nat.le_refl _) _
  have K0 := Lib.hid (And.intro hb0 b0)
  have fx : ∀ w', Box w' w.heap.size 57 (kC n m A (.slice sa es.length sc) (.slice (some ⟨vb, vo, none⟩) zs.length vc) (.slice (some ⟨pb, po, none⟩) ps.length pc)) → w'.cell? ⟨w.heap.size, 0, none⟩ = some (.int .i64 n) ∧ w'.cell? ⟨w.heap.size, 1, none⟩ = some (.slice sa es.length sc) ∧ w'.cell? ⟨w.heap.size, 2, none⟩ = some (.int .i64 m) ∧ w'.cell? ⟨w.heap.size, 3, none⟩ = some (.int .i64 A) ∧ w'.cell? ⟨w.heap.size, 4, none⟩ = some (.slice (some ⟨vb, vo, none⟩) zs.length vc) ∧ w'.cell? ⟨w.heap.size, 5, none⟩ = some (.slice (some ⟨pb, po, none⟩) ps.length pc) :=
    fun w' hb => ⟨by simpa using hb.cell 0, by simpa using hb.cell 1, by simpa using hb.cell 2, by simpa using hb.cell 3, by simpa using hb.cell 4, by simpa using hb.cell 5⟩
  have FX := Lib.hid fx
  clear b0 hb0 fx
  obtain ⟨P, hP⟩ : ∃ P, P = ps.getD i 0 := ⟨_, rfl⟩
  obtain ⟨Z, hZ⟩ : ∃ Z, Z = zs.getD i 0 := ⟨_, rfl⟩
  have hpi := hpc i hi
  have hvi := hvc i hi2
  unfold tightK
  rw [← hP] at hpi ⊢
  rw [← hZ] at hvi ⊢
  have hi' : (i : Int) < ps.length := by omega
  have hi2' : (i : Int) < zs.length := by omega
  have HV := Lib.hid hv
  have HS := Lib.hid hs
  have HG := Lib.hid hg
  have HL := Lib.hid (And.intro hz hn)
  have fr : ∀ w', Below w.heap.size w w' → w'.cell? ⟨vb, vo + i, none⟩ = some (.int .i64 Z) ∧ w'.cell? ⟨pb, po + i, none⟩ = some (.int .i64 P) := fun w' h => ⟨(h.cell (p := ⟨vb, _, none⟩) hvb).trans hvi, (h.cell (p := ⟨pb, _, none⟩) hpb).trans hpi⟩
  have FR := Lib.hid fr
  have hlf := fun w' (h : Below w.heap.size w w') => l2Find n es P i (.slice sa es.length sc) w' (hs.keep h) (by omega)
  have hlv := lfE_val hg P i
  rw [hlv] at hlf
  clear hp hv hs hg hpi hvi fr hP hZ hvc hpc hz hn hlv
  have HZA := Lib.hid hA
  clear hA
  cases hfd : fdE es P i
  · rw [hfd, if_neg (by decide)] at hlf
    rw [Bool.false_and]
    have HLF := Lib.hid hlf
    clear hlf hfd
    go_enter Try.func74, Try.ntmps74
    go_wp2_with fail
    generalize (w.alloc (.cells (kC n m A (.slice sa es.length sc) (.slice (some ⟨vb, vo, none⟩) zs.length vc) (.slice (some ⟨pb, po, none⟩) ps.length pc)) 57)) = w0 at K0 ⊢
    obtain ⟨x0, x1, x2, x3, x4, x5⟩ := FX.out _ K0.out.2
    refine wp_region_below (by kernel_rfl) (by kernel_rfl) ?_
    repeat (go_big_quiet_step ((intro hw; first | with_reducible rfl | (obtain ⟨f0, f1, f2, f3, f4, f5⟩ := FX.out _ (K0.out.2.keep hw); obtain ⟨r0, r1⟩ := FR.out _ (bel_trans K0.out.1 hw); simp only [f0, f1, f2, f3, f4, f5, r0, r1, Result.andThen]; first | exact ⟨trivial, rfl⟩ | exact ⟨rfl, rfl⟩) | (go_at_call 103; exact quietB (HLF.out _ (bel_trans K0.out.1 hw)) hw))))
    refine wpQuiet_nil ?_
    intro w1 hw1
    have K1 := Lib.hid (And.intro (bel_trans K0.out.1 hw1) (K0.out.2.keep hw1))
    clear x0 x1 x2 x3 x4 x5
    obtain ⟨x0, x1, x2, x3, x4, x5⟩ := FX.out _ K1.out.2
    go_wp2_with fail
    refine wp_region_below (by kernel_rfl) (by kernel_rfl) ?_
    repeat (go_big_quiet_step ((intro hw; first | with_reducible rfl | (obtain ⟨f0, f1, f2, f3, f4, f5⟩ := FX.out _ (K1.out.2.keep hw); obtain ⟨r0, r1⟩ := FR.out _ (bel_trans K1.out.1 hw); simp only [f0, f1, f2, f3, f4, f5, r0, r1, Result.andThen]; first | exact ⟨trivial, rfl⟩ | exact ⟨rfl, rfl⟩))))
    refine wpQuiet_nil ?_
    intro w2 hw2
    have K2 := Lib.hid (And.intro (bel_trans K1.out.1 hw2) (K1.out.2.keep hw2))
    clear x0 x1 x2 x3 x4 x5
    obtain ⟨x0, x1, x2, x3, x4, x5⟩ := FX.out _ K2.out.2
    go_wp2
    go_ret
    exact ⟨rfl, K2.out.1⟩
  rw [hfd, if_pos rfl] at hlf
  rw [Bool.true_and]
  have HLF := Lib.hid hlf
  clear hlf
  obtain ⟨l1, l2, l3⟩ := fd_ends HG.out hfd
  have lr := fd_range HG.out hfd
  obtain ⟨L, hL⟩ : ∃ L, L = lbE es P i := ⟨_, rfl⟩
  rw [← hL] at l1 l2 l3 HLF ⊢
  obtain ⟨X, rfl⟩ : ∃ X : Nat, P = X := ⟨P.toNat, by omega⟩
  obtain ⟨W, hW⟩ : ∃ W, W = (es.getD L (0, 0, 0)).2.2 := ⟨_, rfl⟩
  have hWw : mWeight W = true := by
    have := eAll_of HG.out _ (List.getElem_mem l1)
    rw [hW]; simpa [List.getD, l1] using this.2.2
  have eL : es.getD L (0, 0, 0) = ((X : Int), (i : Int), W) := by rw [hW]; exact Prod.ext l2 (Prod.ext l3 rfl)
  rw [eL]
  obtain ⟨sb, so, sc2, hse, hsb, hsc⟩ := HS.out.at l1
  injection hse with hsa _ hsc2
  subst hsa hsc2
  have hx := hsc L l1
  rw [eL] at hx
  have hev := fun w' (h : Below w.heap.size w w') => l5Value m A zs (.slice (some ⟨vb, vo, none⟩) zs.length vc) X i W w' hm (HV.out.keep h) (by have := HL.out; omega) (by have := HL.out; omega) HZA.out hWw
  have fy : ∀ w', Below w.heap.size w w' → w'.cell? ⟨sb, so + L * 3, none⟩ = some (.int .i64 X) ∧ w'.cell? ⟨sb, so + L * 3 + 1, none⟩ = some (.int .i64 i) ∧ w'.cell? ⟨sb, so + L * 3 + 2, none⟩ = some (.int .i64 W) := fun w' h => ⟨(h.cell (p := ⟨sb, _, none⟩) hsb).trans hx.1, (h.cell (p := ⟨sb, _, none⟩) hsb).trans hx.2.1, (h.cell (p := ⟨sb, _, none⟩) hsb).trans hx.2.2⟩
  have FY := Lib.hid fy
  have l1' : (L : Int) < es.length := by omega
  obtain ⟨G, hG⟩ : ∃ G, G = vGive m zs ((X : Int), (i : Int), W) := ⟨_, rfl⟩
  rw [← hG] at hev ⊢
  have HEV := Lib.hid hev
  have HLL := Lib.hid hL
  have d0 : decide ((L : Int) ≥ 0) = true := decide_eq_true (by omega)
  have d1 : decide ((0 : Int) ≤ L) = true := decide_eq_true (by omega)
  obtain ⟨B, hB⟩ : ∃ B, B = decide (G = Z) := ⟨_, rfl⟩
  have d2 : (G == Z) = B := by rw [hB]; rfl
  rw [← hB]
  have HBB := Lib.hid hB
  clear hev fy hx hsc l2 l3 eL hW hWw hG hL hfd l1 lr hB
  go_enter Try.func74, Try.ntmps74
  go_wp2_with fail
  generalize (w.alloc (.cells (kC n m A (.slice (some ⟨sb, so, none⟩) es.length sc) (.slice (some ⟨vb, vo, none⟩) zs.length vc) (.slice (some ⟨pb, po, none⟩) ps.length pc)) 57)) = w0 at K0 ⊢
  obtain ⟨x0, x1, x2, x3, x4, x5⟩ := FX.out _ K0.out.2
  refine wp_region_below (by kernel_rfl) (by kernel_rfl) ?_
  repeat (go_big_quiet_step ((intro hw; first | with_reducible rfl | (obtain ⟨f0, f1, f2, f3, f4, f5⟩ := FX.out _ (K0.out.2.keep hw); obtain ⟨r0, r1⟩ := FR.out _ (bel_trans K0.out.1 hw); simp only [f0, f1, f2, f3, f4, f5, r0, r1, Result.andThen]; first | exact ⟨trivial, rfl⟩ | exact ⟨rfl, rfl⟩) | (go_at_call 103; exact quietB (HLF.out _ (bel_trans K0.out.1 hw)) hw))))
  refine wpQuiet_nil ?_
  intro w1 hw1
  have K1 := Lib.hid (And.intro (bel_trans K0.out.1 hw1) (K0.out.2.keep hw1))
  clear x0 x1 x2 x3 x4 x5
  obtain ⟨x0, x1, x2, x3, x4, x5⟩ := FX.out _ K1.out.2
  go_wp2_with fail
  refine wp_region_below (by kernel_rfl) (by kernel_rfl) ?_
  repeat (go_big_quiet_step ((intro hw; first | with_reducible rfl | (obtain ⟨f0, f1, f2, f3, f4, f5⟩ := FX.out _ (K1.out.2.keep hw); obtain ⟨r0, r1⟩ := FR.out _ (bel_trans K1.out.1 hw); simp only [f0, f1, f2, f3, f4, f5, r0, r1, Result.andThen]; first | exact ⟨trivial, rfl⟩ | exact ⟨rfl, rfl⟩) | (obtain ⟨g0, g1, g2⟩ := FY.out _ (bel_trans K1.out.1 hw); simp only [g0, g1, g2, Result.andThen]; first | exact ⟨trivial, rfl⟩ | exact ⟨rfl, rfl⟩) | (go_at_call 59; exact quietB (HEV.out _ (bel_trans K1.out.1 hw)) hw))))
  refine wpQuiet_nil ?_
  intro w2 hw2
  have K2 := Lib.hid (And.intro (bel_trans K1.out.1 hw2) (K1.out.2.keep hw2))
  clear x0 x1 x2 x3 x4 x5
  obtain ⟨x0, x1, x2, x3, x4, x5⟩ := FX.out _ K2.out.2
  go_wp2
  go_ret
  exact ⟨by first | rfl | (rw [d2]), K2.out.1⟩

set_option maxRecDepth 20000 in
set_option maxHeartbeats 4000000 in
theorem l6Up (n m A : Int) (es : List Ed) (zs ps : List Int) (s v p : Value) (x : Int) (w : World) (hs : RowE w s es) (hv : Row w v zs) (hp : Row w p ps) (hl3 : ps.length ≤ 1048576) (hpo : parOk ps) (hx0 : 0 ≤ x) (hx1 : x < ps.length) :
    Calls Try.prog 75 #[.agg (kC n m A s v p), .int .i64 x] w fun e w' => e = .returned (.bool (upL ps A (ps.length + 1) x)) ∧ Below w.heap.size w w' := by
  obtain ⟨sa, sc, rfl, hz0⟩ := id hs
  obtain ⟨va, vc, rfl, hz1⟩ := id hv
  obtain ⟨pa, pc, rfl, hz2⟩ := id hp
  clear hz0 hz1 hz2
  have b0 := Box.new w 57 (kC n m A (.slice sa es.length sc) (.slice va zs.length vc) (.slice pa ps.length pc))
  have hb0 : Below w.heap.size w (w.alloc (.cells (kC n m A (.slice sa es.length sc) (.slice va zs.length vc) (.slice pa ps.length pc)) 57)) := (Below.refl _ _).alloc (Nat.le_refl _) _
  have K0 := Lib.hid (And.intro hb0 b0)
  have fx : ∀ w', Box w' w.heap.size 57 (kC n m A (.slice sa es.length sc) (.slice va zs.length vc) (.slice pa ps.length pc)) → w'.cell? ⟨w.heap.size, 0, none⟩ = some (.int .i64 n) ∧ w'.cell? ⟨w.heap.size, 1, none⟩ = some (.slice sa es.length sc) ∧ w'.cell? ⟨w.heap.size, 2, none⟩ = some (.int .i64 m) ∧ w'.cell? ⟨w.heap.size, 3, none⟩ = some (.int .i64 A) ∧ w'.cell? ⟨w.heap.size, 4, none⟩ = some (.slice va zs.length vc) ∧ w'.cell? ⟨w.heap.size, 5, none⟩ = some (.slice pa ps.length pc) :=
    fun w' hb => ⟨by simpa using hb.cell 0, by simpa using hb.cell 1, by simpa using hb.cell 2, by simpa using hb.cell 3, by simpa using hb.cell 4, by simpa using hb.cell 5⟩
  have FX := Lib.hid fx
  clear b0 hb0 fx
  have HP := Lib.hid hp
  have HO := Lib.hid hpo
  obtain ⟨R, hR⟩ : ∃ R, R = upL ps A (ps.length + 1) x := ⟨_, rfl⟩
  rw [← hR]
  have HR := Lib.hid hR
  clear hs hv hp hpo hR
  go_enter Try.func75, Try.ntmps75
  go_wp2_with fail
  generalize (w.alloc (.cells (kC n m A (.slice sa es.length sc) (.slice va zs.length vc) (.slice pa ps.length pc)) 57)) = w0 at K0 ⊢
  obtain ⟨x0, x1, x2, x3, x4, x5⟩ := FX.out _ K0.out.2
  go_wp2
  go_loopw [5, 1] (fun c nd wr => ∃ (k : Nat) (y : Nat), k ≤ ps.length + 1 ∧ c = .int .i64 k ∧ nd = .int .i64 (y : Int) ∧ y < ps.length ∧ Hid (R = upL ps A (ps.length + 1 - k) y) ∧ Hid (Below w.heap.size w wr ∧ Box wr w.heap.size 57 (kC n m A (.slice sa es.length sc) (.slice va zs.length vc) (.slice pa ps.length pc)))) (fun c _ _ => ps.length + 1 - (intOf c).toNat)
  case atStart => exact ⟨0, x.toNat, Nat.zero_le _, rfl, by rw [show ((x.toNat : Nat) : Int) = x by omega], by omega, Lib.hid (by rw [HR.out, show ((x.toNat : Nat) : Int) = x by omega]; rfl), K0⟩
  case round =>
    obtain ⟨k, y, hk, rfl, rfl, hy, HE, HK⟩ := hrel
    clear x0 x1 x2 x3 x4 x5
    obtain ⟨x0, x1, x2, x3, x4, x5⟩ := FX.out _ HK.out.2
    by_cases hlt : k ≤ ps.length
    · have hlt' : (k : Int) ≤ (ps.length : Int) := by omega
      have hst : R = upL ps A ((ps.length - k) + 1) y := by rw [HE.out]; congr 1; omega
      rw [upL] at hst
      by_cases he : (y : Int) = A
      · rw [if_pos he] at hst
        have d1 : ((y : Int) == A) = true := by simpa using he
        have HST := Lib.hid hst
        clear hst he
        go_wp2
        go_ret
        exact ⟨by rw [HST.out]; rfl, HK.out.1⟩
      · rw [if_neg he, Int.toNat_natCast] at hst
        have d1 : ((y : Int) == A) = false := by simpa using he
        obtain ⟨pb, po, pc2, hpe, hpb, hpc⟩ := HP.out.at hy
        injection hpe with hpa _ hpc2
        subst hpa hpc2
        have hy' : (y : Int) < ps.length := by omega
        obtain ⟨q, hq⟩ : ∃ q, q = ps.getD y 0 := ⟨_, rfl⟩
        have h3 := hpc y hy
        have h4 := HO.out y hy
        rw [← hq] at h3 h4 hst
        have c3 := (HK.out.1.cell (p := ⟨pb, po + y, none⟩) hpb).trans h3
        clear hpc h3 hq
        by_cases hq0 : q < 0
        · rw [if_pos hq0] at hst
          have HST := Lib.hid hst
          clear hst he h4
          go_wp2
          go_ret
          exact ⟨by rw [HST.out]; rfl, HK.out.1⟩
        · rw [if_neg hq0] at hst
          obtain ⟨Q, rfl⟩ : ∃ Q : Nat, q = Q := ⟨q.toNat, by omega⟩
          have d2 : decide ((Q : Int) < 0) = false := decide_eq_false hq0
          have HST := Lib.hid hst
          have hQ : Q < ps.length := by omega
          clear hst he h4 hq0
          go_wp2
          go_roundw
          case rel => first | exact ⟨k + 1, Q, by omega, by go_num, rfl, hQ, Lib.hid (by rw [HST.out]; congr 1; omega), HK⟩ | ((repeat apply Exists.intro); exact ⟨⟨k + 1, Q, by omega, by go_num, rfl, hQ, Lib.hid (by rw [HST.out]; congr 1; omega), HK⟩, rfl⟩)
          case measure => simp [intOf]; omega
    · have hkk : ¬ ((k : Int) ≤ (ps.length : Int)) := by omega
      have hst : R = false := by rw [HE.out, show ps.length + 1 - k = 0 by omega]; rfl
      have HST := Lib.hid hst
      clear hst
      go_wp2
      go_ret
      exact ⟨by rw [HST.out]; rfl, HK.out.1⟩

set_option maxRecDepth 20000 in
set_option maxHeartbeats 4000000 in
theorem l6Below (n m A : Int) (es : List Ed) (zs ps : List Int) (s v p : Value) (x top : Int) (w : World) (hs : RowE w s es) (hv : Row w v zs) (hp : Row w p ps) (hl3 : ps.length ≤ 1048576) (hpo : parOk ps) (hx1 : x < ps.length) :
    Calls Try.prog 77 #[.agg (kC n m A s v p), .int .i64 x, .int .i64 top] w fun e w' => e = .returned (.bool (belowL ps top (ps.length + 1) x)) ∧ Below w.heap.size w w' := by
  obtain ⟨sa, sc, rfl, hz0⟩ := id hs
  obtain ⟨va, vc, rfl, hz1⟩ := id hv
  obtain ⟨pa, pc, rfl, hz2⟩ := id hp
  clear hz0 hz1 hz2
  have b0 := Box.new w 57 (kC n m A (.slice sa es.length sc) (.slice va zs.length vc) (.slice pa ps.length pc))
  have hb0 : Below w.heap.size w (w.alloc (.cells (kC n m A (.slice sa es.length sc) (.slice va zs.length vc) (.slice pa ps.length pc)) 57)) := (Below.refl _ _).alloc (Nat.le_refl _) _
  have K0 := Lib.hid (And.intro hb0 b0)
  have fx : ∀ w', Box w' w.heap.size 57 (kC n m A (.slice sa es.length sc) (.slice va zs.length vc) (.slice pa ps.length pc)) → w'.cell? ⟨w.heap.size, 0, none⟩ = some (.int .i64 n) ∧ w'.cell? ⟨w.heap.size, 1, none⟩ = some (.slice sa es.length sc) ∧ w'.cell? ⟨w.heap.size, 2, none⟩ = some (.int .i64 m) ∧ w'.cell? ⟨w.heap.size, 3, none⟩ = some (.int .i64 A) ∧ w'.cell? ⟨w.heap.size, 4, none⟩ = some (.slice va zs.length vc) ∧ w'.cell? ⟨w.heap.size, 5, none⟩ = some (.slice pa ps.length pc) :=
    fun w' hb => ⟨by simpa using hb.cell 0, by simpa using hb.cell 1, by simpa using hb.cell 2, by simpa using hb.cell 3, by simpa using hb.cell 4, by simpa using hb.cell 5⟩
  have FX := Lib.hid fx
  clear b0 hb0 fx
  have HP := Lib.hid hp
  have HO := Lib.hid hpo
  obtain ⟨R, hR⟩ : ∃ R, R = belowL ps top (ps.length + 1) x := ⟨_, rfl⟩
  rw [← hR]
  have HR := Lib.hid hR
  clear hs hv hp hpo hR
  go_enter Try.func77, Try.ntmps77
  go_wp2_with fail
  generalize (w.alloc (.cells (kC n m A (.slice sa es.length sc) (.slice va zs.length vc) (.slice pa ps.length pc)) 57)) = w0 at K0 ⊢
  obtain ⟨x0, x1, x2, x3, x4, x5⟩ := FX.out _ K0.out.2
  go_wp2
  go_loopw [7, 1] (fun c nd wr => ∃ (k : Nat) (y : Int), k ≤ ps.length + 1 ∧ c = .int .i64 k ∧ nd = .int .i64 y ∧ y < ps.length ∧ Hid (R = belowL ps top (ps.length + 1 - k) y) ∧ Hid (Below w.heap.size w wr ∧ Box wr w.heap.size 57 (kC n m A (.slice sa es.length sc) (.slice va zs.length vc) (.slice pa ps.length pc)))) (fun c _ _ => ps.length + 1 - (intOf c).toNat)
  case atStart => exact ⟨0, x, Nat.zero_le _, rfl, rfl, hx1, HR, K0⟩
  case round =>
    obtain ⟨k, y, hk, rfl, rfl, hy, HE, HK⟩ := hrel
    clear x0 x1 x2 x3 x4 x5
    obtain ⟨x0, x1, x2, x3, x4, x5⟩ := FX.out _ HK.out.2
    by_cases hlt : k ≤ ps.length
    · have hlt' : (k : Int) ≤ (ps.length : Int) := by omega
      have d0 : decide ((k : Int) ≤ (ps.length : Int)) = true := decide_eq_true hlt'
      have hst : R = belowL ps top ((ps.length - k) + 1) y := by rw [HE.out]; congr 1; omega
      rw [belowL] at hst
      by_cases h0 : y < 0
      · rw [if_pos h0] at hst
        have HST := Lib.hid hst
        have d1 : decide (y ≥ 0) = false := decide_eq_false (by omega)
        have d2 : decide (0 ≤ y) = false := decide_eq_false (by omega)
        clear hst
        go_wp2
        go_ret
        exact ⟨by rw [HST.out]; rfl, HK.out.1⟩
      rw [if_neg h0] at hst
      obtain ⟨Y, rfl⟩ : ∃ Y : Nat, y = Y := ⟨y.toNat, by omega⟩
      have d2 : decide ((0 : Int) ≤ (Y : Int)) = true := decide_eq_true (by omega)
      clear h0
      by_cases he : (Y : Int) = top
      · rw [if_pos he] at hst
        have d1 : ((Y : Int) == top) = true := by simpa using he
        have HST := Lib.hid hst
        clear hst he
        go_wp2
        go_ret
        exact ⟨by rw [HST.out]; rfl, HK.out.1⟩
      · rw [if_neg he, Int.toNat_natCast] at hst
        have d1 : ((Y : Int) == top) = false := by simpa using he
        have hyN : Y < ps.length := by omega
        obtain ⟨pb, po, pc2, hpe, hpb, hpc⟩ := HP.out.at hyN
        injection hpe with hpa _ hpc2
        subst hpa hpc2
        obtain ⟨q, hq⟩ : ∃ q, q = ps.getD Y 0 := ⟨_, rfl⟩
        have h3 := hpc Y hyN
        have h4 := (HO.out Y hyN).2
        rw [← hq] at h3 h4 hst
        have c3 := (HK.out.1.cell (p := ⟨pb, po + Y, none⟩) hpb).trans h3
        have HST := Lib.hid hst
        have H4 := Lib.hid h4
        clear hpc h3 hq hst he h4
        go_wp2
        go_roundw
        case rel => first | exact ⟨k + 1, q, by omega, by go_num, rfl, H4.out, Lib.hid (by rw [HST.out]; congr 1; omega), HK⟩ | ((repeat apply Exists.intro); exact ⟨⟨k + 1, q, by omega, by go_num, rfl, H4.out, Lib.hid (by rw [HST.out]; congr 1; omega), HK⟩, rfl⟩)
        case measure => simp [intOf]; omega
    · have hkk : ¬ ((k : Int) ≤ (ps.length : Int)) := by omega
      have d0 : decide ((k : Int) ≤ (ps.length : Int)) = false := decide_eq_false hkk
      have hst : R = false := by rw [HE.out, show ps.length + 1 - k = 0 by omega]; rfl
      have HST := Lib.hid hst
      clear hst
      go_wp2
      go_ret
      exact ⟨by rw [HST.out]; rfl, HK.out.1⟩
end Go.Proofs.Ytdblcaeeepkebaa
