/- Kept views, in the program: which parents fit; which go round. -/
import Derived.Test.YtbhhbhopogkmnaaKeptI
import Derived.Test.YtbhhbhopogkmnaaRelaxJ
namespace Go.Proofs.Ytbhhbhopogkmnaa
open Go.RowKit Go.BigFrame Go.Deep
set_option linter.unusedVariables false
set_option linter.unusedSimpArgs false

theorem box2_keep {w w' : World} {a b : Nat} {t u : TypeId} {c d : Array Value} (h : Box w a t c ∧ Box w b u d) (k : Below w.heap.size w w') : Box w' a t c ∧ Box w' b u d := ⟨h.1.keep k, h.2.keep k⟩
set_option maxRecDepth 20000 in
set_option maxHeartbeats 8000000 in
theorem parentFits (n m A : Int) (es : List Ed) (zs ps : List Int) (s v p : Value) (i : Nat) (w : World) (hm : mKind m = true) (hg : gVal n es = true) (hs : RowE w s es) (hv : Row w v zs) (hp : Row w p ps) (hz : (zs.length : Int) = n) (hn : (ps.length : Int) = n) (hA : vAll m zs) (hi : i < ps.length) :
    Calls Try.prog 86 #[opsV m, .agg #[.int .i64 n, s], .agg #[.int .i64 m, .int .i64 A, v], p, .int .i64 (i : Int)] w fun e w' => e = .returned (.bool (fit1K m A es zs ps i)) ∧ Below w.heap.size w w' := by
  obtain ⟨g1, g2, g3, _⟩ := gVal_parts hg
  have hmono := gVal_mono hg (ps.getD i 0) i
  have hi2 : i < zs.length := by omega
  obtain ⟨vb, vo, vc, rfl, hvb, hvc⟩ := hv.at hi2
  obtain ⟨pb, po, pc, rfl, hpb, hpc⟩ := hp.at hi
  obtain ⟨sa, sc, hse, hs2⟩ := id hs
  subst hse
  clear hs2
  have b0 : (Box ((w.alloc (.cells #[.int .i64 n, (.slice sa es.length sc)] 34)).alloc (.cells #[.int .i64 m, .int .i64 A, (.slice (some ⟨vb, vo, none⟩) zs.length vc)] 25)) w.heap.size 34 #[.int .i64 n, (.slice sa es.length sc)] ∧ Box ((w.alloc (.cells #[.int .i64 n, (.slice sa es.length sc)] 34)).alloc (.cells #[.int .i64 m, .int .i64 A, (.slice (some ⟨vb, vo, none⟩) zs.length vc)] 25)) (w.heap.size + 1) 25 #[.int .i64 m, .int .i64 A, (.slice (some ⟨vb, vo, none⟩) zs.length vc)]) := ⟨(Box.new w _ _).alloc _, by have := Box.new (w.alloc (.cells #[.int .i64 n, (.slice sa es.length sc)] 34)) 25 #[.int .i64 m, .int .i64 A, (.slice (some ⟨vb, vo, none⟩) zs.length vc)]; simpa using this⟩
  have hb0 : Below w.heap.size w ((w.alloc (.cells #[.int .i64 n, (.slice sa es.length sc)] 34)).alloc (.cells #[.int .i64 m, .int .i64 A, (.slice (some ⟨vb, vo, none⟩) zs.length vc)] 25)) := ((Below.refl _ _).alloc (Nat.le_refl _) _).alloc (by simp) _
  have K0 := Lib.hid (And.intro hb0 b0)
  clear b0 hb0
  obtain ⟨P, hP⟩ : ∃ P, P = ps.getD i 0 := ⟨_, rfl⟩
  obtain ⟨Z, hZ⟩ : ∃ Z, Z = zs.getD i 0 := ⟨_, rfl⟩
  have hpi := hpc i hi
  have hvi := hvc i hi2
  unfold fit1K tightK freeK
  rw [← hP] at hpi hmono ⊢
  rw [← hZ] at hvi ⊢
  have hi' : (i : Int) < ps.length := by omega
  have hi2' : (i : Int) < zs.length := by omega
  have HP := Lib.hid hp
  have HV := Lib.hid hv
  have HS := Lib.hid hs
  have HM := Lib.hid hmono
  have HG := Lib.hid hg
  have HL := Lib.hid (And.intro hz hn)
  have fx : ∀ w', Below w.heap.size w w' → (Box w' w.heap.size 34 #[.int .i64 n, (.slice sa es.length sc)] ∧ Box w' (w.heap.size + 1) 25 #[.int .i64 m, .int .i64 A, (.slice (some ⟨vb, vo, none⟩) zs.length vc)]) → w'.cell? ⟨w.heap.size, 0, none⟩ = some (.int .i64 n) ∧ w'.cell? ⟨w.heap.size, 1, none⟩ = some (.slice sa es.length sc) ∧ w'.cell? ⟨w.heap.size + 1, 0, none⟩ = some (.int .i64 m) ∧ w'.cell? ⟨w.heap.size + 1, 1, none⟩ = some (.int .i64 A) ∧ w'.cell? ⟨w.heap.size + 1, 2, none⟩ = some (.slice (some ⟨vb, vo, none⟩) zs.length vc) ∧ w'.cell? ⟨vb, vo + i, none⟩ = some (.int .i64 Z) ∧ w'.cell? ⟨pb, po + i, none⟩ = some (.int .i64 P) :=
    fun w' h hb => ⟨by simpa using hb.1.cell 0, by simpa using hb.1.cell 1, by simpa using hb.2.cell 0, by simpa using hb.2.cell 1, by simpa using hb.2.cell 2, (h.cell (p := ⟨vb, _, none⟩) hvb).trans hvi, (h.cell (p := ⟨pb, _, none⟩) hpb).trans hpi⟩
  have FX := Lib.hid fx
  clear hp hv hs hmono hg hpi hvi fx hP hZ hvc hpc hz hn
  obtain ⟨T, rv, fn, fe, fb, fo, fj, rn, re, rb, ro, rj, D⟩ := disp hm
  have hval := D.val
  have hn1 := D.mn.run
  have hn2 := D.mn.ahead
  have hn3 := D.mn.enter
  have HN := Lib.hid D.cn
  clear D
  have HVAL := Lib.hid hval
  rw [hval]
  clear hval
  have HZA := Lib.hid hA
  clear hA
  by_cases ha : (i : Int) = A
  · have d0 : decide ((i : Int) = A) = true := decide_eq_true ha
    have d1 : ((i : Int) == A) = true := by simpa using ha
    rw [d0, Bool.true_or, if_pos rfl]
    clear hn1 hn2 hn3 ha
    go_enter Try.func86, Try.ntmps86
    go_wp2_with fail
    generalize ((w.alloc (.cells #[.int .i64 n, (.slice sa es.length sc)] 34)).alloc (.cells #[.int .i64 m, .int .i64 A, (.slice (some ⟨vb, vo, none⟩) zs.length vc)] 25)) = w0 at K0 ⊢
    refine wp_region_below (by kernel_rfl) (by kernel_rfl) ?_
    repeat (go_big_quiet_step ((intro hw; first | with_reducible rfl | (obtain ⟨f0, f1, f2, f3, f4, f5, f6⟩ := FX.out _ (bel_trans K0.out.1 hw) (box2_keep K0.out.2 hw); simp only [f0, f1, f2, f3, f4, f5, f6, Result.andThen]; first | exact ⟨trivial, rfl⟩ | exact ⟨rfl, rfl⟩))))
    refine wpQuiet_nil ?_
    intro w1 hw1
    have K1 := Lib.hid (And.intro (bel_trans K0.out.1 hw1) (box2_keep K0.out.2 hw1))
    obtain ⟨x0, x1, x2, x3, x4, y0, y1⟩ := FX.out _ K1.out.1 K1.out.2
    go_wp2
    go_ret
    exact ⟨rfl, K1.out.1⟩
  have d0 : decide ((i : Int) = A) = false := decide_eq_false ha
  have d1 : ((i : Int) == A) = false := by simpa using ha
  rw [d0, Bool.false_or]
  by_cases hzn : Z = mNone m
  · have d2 : decide (Z = mNone m) = true := decide_eq_true hzn
    have d3 : (Z == mNone m) = true := by simpa using hzn
    rw [d2, if_pos rfl]
    have HZN := Lib.hid hzn
    clear hzn
    go_enter Try.func86, Try.ntmps86
    go_wp2_with fail
    generalize ((w.alloc (.cells #[.int .i64 n, (.slice sa es.length sc)] 34)).alloc (.cells #[.int .i64 m, .int .i64 A, (.slice (some ⟨vb, vo, none⟩) zs.length vc)] 25)) = w0 at K0 ⊢
    refine wp_region_below (by kernel_rfl) (by kernel_rfl) ?_
    repeat (go_big_quiet_step ((intro hw; first | with_reducible rfl | (obtain ⟨f0, f1, f2, f3, f4, f5, f6⟩ := FX.out _ (bel_trans K0.out.1 hw) (box2_keep K0.out.2 hw); simp only [f0, f1, f2, f3, f4, f5, f6, Result.andThen]; first | exact ⟨trivial, rfl⟩ | exact ⟨rfl, rfl⟩))))
    refine wpQuiet_nil ?_
    intro w1 hw1
    have K1 := Lib.hid (And.intro (bel_trans K0.out.1 hw1) (box2_keep K0.out.2 hw1))
    obtain ⟨x0, x1, x2, x3, x4, y0, y1⟩ := FX.out _ K1.out.1 K1.out.2
    go_wp2_with (with_reducible refine (HN.out _).mono ?_; rintro e w2 ⟨rfl, hb2⟩; have K2 := Lib.hid (And.intro (bel_trans K1.out.1 hb2) (box2_keep K1.out.2 hb2)); clear x0 x1 x2 x3 x4 y0 y1; obtain ⟨x0, x1, x2, x3, x4, y0, y1⟩ := FX.out _ K2.out.1 K2.out.2)
    go_ret
    exact ⟨rfl, K2.out.1⟩
  have d2 : decide (Z = mNone m) = false := decide_eq_false hzn
  have d3 : (Z == mNone m) = false := by simpa using hzn
  rw [d2, if_neg (by decide)]
  have HZN := Lib.hid hzn
  clear hzn
  have hfe := fun w' (h : Below w.heap.size w w') => findEdge n es P i (.slice sa es.length sc) w' (HS.out.keep h) (by omega) HM.out
  cases hfd : fdE es P i
  · rw [hfd] at hfe
    rw [Bool.false_and]
    have HFE := Lib.hid hfe
    clear hfe hfd
    go_enter Try.func86, Try.ntmps86
    go_wp2_with fail
    generalize ((w.alloc (.cells #[.int .i64 n, (.slice sa es.length sc)] 34)).alloc (.cells #[.int .i64 m, .int .i64 A, (.slice (some ⟨vb, vo, none⟩) zs.length vc)] 25)) = w0 at K0 ⊢
    refine wp_region_below (by kernel_rfl) (by kernel_rfl) ?_
    repeat (go_big_quiet_step ((intro hw; first | with_reducible rfl | (obtain ⟨f0, f1, f2, f3, f4, f5, f6⟩ := FX.out _ (bel_trans K0.out.1 hw) (box2_keep K0.out.2 hw); simp only [f0, f1, f2, f3, f4, f5, f6, Result.andThen]; first | exact ⟨trivial, rfl⟩ | exact ⟨rfl, rfl⟩))))
    refine wpQuiet_nil ?_
    intro w1 hw1
    have K1 := Lib.hid (And.intro (bel_trans K0.out.1 hw1) (box2_keep K0.out.2 hw1))
    obtain ⟨x0, x1, x2, x3, x4, y0, y1⟩ := FX.out _ K1.out.1 K1.out.2
    go_wp2_with (first | (with_reducible refine (HN.out _).mono ?_; rintro e w2 ⟨rfl, hb2⟩; have K2 := Lib.hid (And.intro (bel_trans K1.out.1 hb2) (box2_keep K1.out.2 hb2)); clear x0 x1 x2 x3 x4 y0 y1; obtain ⟨x0, x1, x2, x3, x4, y0, y1⟩ := FX.out _ K2.out.1 K2.out.2) | (go_at_call 109; (with_reducible refine (HFE.out _ K2.out.1).mono ?_); rintro e w3 ⟨rfl, hb3⟩; have K3 := Lib.hid (And.intro (bel_trans K2.out.1 hb3) (box2_keep K2.out.2 hb3)); clear x0 x1 x2 x3 x4 y0 y1; obtain ⟨x0, x1, x2, x3, x4, y0, y1⟩ := FX.out _ K3.out.1 K3.out.2))
    refine wp_region_below (by kernel_rfl) (by kernel_rfl) ?_
    repeat (go_big_quiet_step ((intro hw; first | with_reducible rfl | (obtain ⟨f0, f1, f2, f3, f4, f5, f6⟩ := FX.out _ (bel_trans K3.out.1 hw) (box2_keep K3.out.2 hw); simp only [f0, f1, f2, f3, f4, f5, f6, Result.andThen]; first | exact ⟨trivial, rfl⟩ | exact ⟨rfl, rfl⟩))))
    refine wpQuiet_nil ?_
    intro w4 hw4
    have K4 := Lib.hid (And.intro (bel_trans K3.out.1 hw4) (box2_keep K3.out.2 hw4))
    go_wp2
    go_ret
    exact ⟨rfl, K4.out.1⟩
  rw [hfd] at hfe
  rw [Bool.true_and]
  have HFE := Lib.hid hfe
  clear hfe
  obtain ⟨l1, l2, l3⟩ := fd_ends HG.out hfd
  have lr := fd_range HG.out hfd
  obtain ⟨L, hL⟩ : ∃ L, L = lbE es P i := ⟨_, rfl⟩
  rw [← hL] at l1 l2 l3 HFE ⊢
  obtain ⟨X, rfl⟩ : ∃ X : Nat, P = X := ⟨P.toNat, by omega⟩
  obtain ⟨W, hW⟩ : ∃ W, W = (es.getD L (0, 0, 0)).2.2 := ⟨_, rfl⟩
  have hWw : mWeight W = true := by
    have := eAll_of HG.out _ (List.getElem_mem l1)
    rw [hW]; simpa [List.getD, l1] using this.2.2
  have eL : es.getD L (0, 0, 0) = ((X : Int), (i : Int), W) := by rw [hW]; exact Prod.ext l2 (Prod.ext l3 rfl)
  rw [eL]
  obtain ⟨sb, so, sc2, hse, hsb, hsc⟩ := HS.out.at l1
  injection hse with hsa _ hsc2
  subst hsa hsc2
  have hx := hsc L l1
  rw [eL] at hx
  have HX := Lib.hid hx
  have hev := fun w' (h : Below w.heap.size w w') => edgeValue m zs (.slice (some ⟨vb, vo, none⟩) zs.length vc) X i W w' hm (HV.out.keep h) (by have := HL.out; omega) (by have := HL.out; omega) HZA.out hWw
  rw [HVAL.out] at hev
  have fy : ∀ w', Below w.heap.size w w' → w'.cell? ⟨sb, so + L * 3, none⟩ = some (.int .i64 X) ∧ w'.cell? ⟨sb, so + L * 3 + 1, none⟩ = some (.int .i64 i) ∧ w'.cell? ⟨sb, so + L * 3 + 2, none⟩ = some (.int .i64 W) := fun w' h => ⟨(h.cell (p := ⟨sb, _, none⟩) hsb).trans hx.1, (h.cell (p := ⟨sb, _, none⟩) hsb).trans hx.2.1, (h.cell (p := ⟨sb, _, none⟩) hsb).trans hx.2.2⟩
  have FY := Lib.hid fy
  have l1' : (L : Int) < es.length := by omega
  obtain ⟨G, hG⟩ : ∃ G, G = vGive m zs ((X : Int), (i : Int), W) := ⟨_, rfl⟩
  rw [← hG] at hev ⊢
  have HEV := Lib.hid hev
  have HLL := Lib.hid hL
  clear hev fy hx hsc l2 l3 eL hW hWw hG hL hfd l1 lr
  by_cases hq : G = Z
  · have d4 : decide (G = Z) = true := decide_eq_true hq
    have d5 : (G == Z) = true := by simpa using hq
    rw [d4]
    have HQ := Lib.hid hq
    clear hq
    go_enter Try.func86, Try.ntmps86
    go_wp2_with fail
    generalize ((w.alloc (.cells #[.int .i64 n, (.slice (some ⟨sb, so, none⟩) es.length sc)] 34)).alloc (.cells #[.int .i64 m, .int .i64 A, (.slice (some ⟨vb, vo, none⟩) zs.length vc)] 25)) = w0 at K0 ⊢
    refine wp_region_below (by kernel_rfl) (by kernel_rfl) ?_
    repeat (go_big_quiet_step ((intro hw; first | with_reducible rfl | (obtain ⟨f0, f1, f2, f3, f4, f5, f6⟩ := FX.out _ (bel_trans K0.out.1 hw) (box2_keep K0.out.2 hw); simp only [f0, f1, f2, f3, f4, f5, f6, Result.andThen]; first | exact ⟨trivial, rfl⟩ | exact ⟨rfl, rfl⟩))))
    refine wpQuiet_nil ?_
    intro w1 hw1
    have K1 := Lib.hid (And.intro (bel_trans K0.out.1 hw1) (box2_keep K0.out.2 hw1))
    obtain ⟨x0, x1, x2, x3, x4, y0, y1⟩ := FX.out _ K1.out.1 K1.out.2
    go_wp2_with (first | (with_reducible refine (HN.out _).mono ?_; rintro e w2 ⟨rfl, hb2⟩; have K2 := Lib.hid (And.intro (bel_trans K1.out.1 hb2) (box2_keep K1.out.2 hb2)); clear x0 x1 x2 x3 x4 y0 y1; obtain ⟨x0, x1, x2, x3, x4, y0, y1⟩ := FX.out _ K2.out.1 K2.out.2) | (go_at_call 109; (with_reducible refine (HFE.out _ K2.out.1).mono ?_); rintro e w3 ⟨rfl, hb3⟩; have K3 := Lib.hid (And.intro (bel_trans K2.out.1 hb3) (box2_keep K2.out.2 hb3)); clear x0 x1 x2 x3 x4 y0 y1; obtain ⟨x0, x1, x2, x3, x4, y0, y1⟩ := FX.out _ K3.out.1 K3.out.2))
    refine wp_region_below (by kernel_rfl) (by kernel_rfl) ?_
    repeat (go_big_quiet_step ((intro hw; first | with_reducible rfl | (obtain ⟨f0, f1, f2, f3, f4, f5, f6⟩ := FX.out _ (bel_trans K3.out.1 hw) (box2_keep K3.out.2 hw); simp only [f0, f1, f2, f3, f4, f5, f6, Result.andThen]; first | exact ⟨trivial, rfl⟩ | exact ⟨rfl, rfl⟩) | (obtain ⟨f0, f1, f2⟩ := FY.out _ (bel_trans K3.out.1 hw); simp only [f0, f1, f2, Result.andThen]; first | exact ⟨trivial, rfl⟩ | exact ⟨rfl, rfl⟩) | (go_at_call 110; exact quietB (HEV.out _ (bel_trans K3.out.1 hw)) hw))))
    refine wpQuiet_nil ?_
    intro w4 hw4
    have K4 := Lib.hid (And.intro (bel_trans K3.out.1 hw4) (box2_keep K3.out.2 hw4))
    go_wp2
    go_ret
    exact ⟨rfl, K4.out.1⟩
  · have d4 : decide (G = Z) = false := decide_eq_false hq
    have d5 : (G == Z) = false := by simpa using hq
    rw [d4]
    have HQ := Lib.hid hq
    clear hq
    go_enter Try.func86, Try.ntmps86
    go_wp2_with fail
    generalize ((w.alloc (.cells #[.int .i64 n, (.slice (some ⟨sb, so, none⟩) es.length sc)] 34)).alloc (.cells #[.int .i64 m, .int .i64 A, (.slice (some ⟨vb, vo, none⟩) zs.length vc)] 25)) = w0 at K0 ⊢
    refine wp_region_below (by kernel_rfl) (by kernel_rfl) ?_
    repeat (go_big_quiet_step ((intro hw; first | with_reducible rfl | (obtain ⟨f0, f1, f2, f3, f4, f5, f6⟩ := FX.out _ (bel_trans K0.out.1 hw) (box2_keep K0.out.2 hw); simp only [f0, f1, f2, f3, f4, f5, f6, Result.andThen]; first | exact ⟨trivial, rfl⟩ | exact ⟨rfl, rfl⟩))))
    refine wpQuiet_nil ?_
    intro w1 hw1
    have K1 := Lib.hid (And.intro (bel_trans K0.out.1 hw1) (box2_keep K0.out.2 hw1))
    obtain ⟨x0, x1, x2, x3, x4, y0, y1⟩ := FX.out _ K1.out.1 K1.out.2
    go_wp2_with (first | (with_reducible refine (HN.out _).mono ?_; rintro e w2 ⟨rfl, hb2⟩; have K2 := Lib.hid (And.intro (bel_trans K1.out.1 hb2) (box2_keep K1.out.2 hb2)); clear x0 x1 x2 x3 x4 y0 y1; obtain ⟨x0, x1, x2, x3, x4, y0, y1⟩ := FX.out _ K2.out.1 K2.out.2) | (go_at_call 109; (with_reducible refine (HFE.out _ K2.out.1).mono ?_); rintro e w3 ⟨rfl, hb3⟩; have K3 := Lib.hid (And.intro (bel_trans K2.out.1 hb3) (box2_keep K2.out.2 hb3)); clear x0 x1 x2 x3 x4 y0 y1; obtain ⟨x0, x1, x2, x3, x4, y0, y1⟩ := FX.out _ K3.out.1 K3.out.2))
    refine wp_region_below (by kernel_rfl) (by kernel_rfl) ?_
    repeat (go_big_quiet_step ((intro hw; first | with_reducible rfl | (obtain ⟨f0, f1, f2, f3, f4, f5, f6⟩ := FX.out _ (bel_trans K3.out.1 hw) (box2_keep K3.out.2 hw); simp only [f0, f1, f2, f3, f4, f5, f6, Result.andThen]; first | exact ⟨trivial, rfl⟩ | exact ⟨rfl, rfl⟩) | (obtain ⟨f0, f1, f2⟩ := FY.out _ (bel_trans K3.out.1 hw); simp only [f0, f1, f2, Result.andThen]; first | exact ⟨trivial, rfl⟩ | exact ⟨rfl, rfl⟩) | (go_at_call 110; exact quietB (HEV.out _ (bel_trans K3.out.1 hw)) hw))))
    refine wpQuiet_nil ?_
    intro w4 hw4
    have K4 := Lib.hid (And.intro (bel_trans K3.out.1 hw4) (box2_keep K3.out.2 hw4))
    go_wp2
    go_ret
    exact ⟨rfl, K4.out.1⟩
end Go.Proofs.Ytbhhbhopogkmnaa
