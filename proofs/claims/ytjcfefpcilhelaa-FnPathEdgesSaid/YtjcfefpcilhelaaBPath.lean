/- ProofOf, in the program and in the model. BetterPath, in the program and in the model. -/
import Derived.Test.YtjcfefpcilhelaaBestI
import Derived.Test.YtjcfefpcilhelaaBestL
import Derived.Test.YtjcfefpcilhelaaBoxes
import Derived.Test.YtjcfefpcilhelaaFind3
import Derived.Test.YtjcfefpcilhelaaRowAt
import Derived.Test.YtjcfefpcilhelaaRelaxJ
import Derived.Test.YtjcfefpcilhelaaPathToS
import Derived.Test.YtjcfefpcilhelaaVValS
namespace Go.Proofs.Ytjcfefpcilhelaa
open Go.RowKit Go.BigFrame Go.Deep
set_option linter.unusedVariables false
set_option linter.unusedSimpArgs false

theorem R3.mid {fz dj : Bool} {w : World} {lo hi : Nat} {a b c : Value} {x y z : List Int} (r : R3 dj fz w lo hi a b c x.length y.length z.length (cellI x) (cellI y) (cellI z)) (h : hi ≤ w.heap.size) : InR fz w lo hi b y.length 1 (cellI y) := by
  obtain ⟨l1, h1, l2, h2, l3, h3, ⟨r1, r2, r3⟩, hb, hd⟩ := r
  exact r2.wider hb.2.2.1 hb.2.2.2.1 h
theorem R3.last {fz dj : Bool} {w : World} {lo hi : Nat} {a b c : Value} {x y z : List Int} (r : R3 dj fz w lo hi a b c x.length y.length z.length (cellI x) (cellI y) (cellI z)) (h : hi ≤ w.heap.size) : InR fz w lo hi c z.length 1 (cellI z) := by
  obtain ⟨l1, h1, l2, h2, l3, h3, ⟨r1, r2, r3⟩, hb, hd⟩ := r
  exact r3.wider hb.2.2.2.2.1 hb.2.2.2.2.2 h
/-- The parents that are answered. -/
def poL (n : Int) (es : List Ed) (m a : Int) : List Int := (bfV (onOk n es m [a]) (bfR m (-1) es n.toNat a.toNat)).par
theorem poL_len (n : Int) (es : List Ed) (m a : Int) : (poL n es m a).length ≤ 4194304 := by
  unfold poL bfV
  split
  · rename_i h
    have hp := onOk_parts h
    obtain ⟨g1, g2, g3, _⟩ := gVal_parts hp.1
    have ha := hp.2.1 a (by simp)
    have h2 := (bf_full (a := a.toNat) hp.2.2 (eAll_of hp.1) (by omega)).dj.ok.par
    omega
  · simp

end Go.Proofs.Ytjcfefpcilhelaa
namespace Go.Proofs.Ytjcfefpcilhelaa
open Go.RowKit Go.BigFrame Go.Deep
set_option linter.unusedVariables false
set_option linter.unusedSimpArgs false

/-- A better path's condition. -/
def bpB (n : Int) (es : List Ed) (m a : Int) (zs : List Int) (x : Int) : Bool := (vVal n es m a zs && inN n x) && mBet m ((bfR m (-1) es n.toNat a.toNat).vals.getD x.toNat 0) (zs.getD x.toNat 0)
def bpL (n : Int) (es : List Ed) (m a : Int) (zs : List Int) (x : Int) : List Int := if bpB n es m a zs x = true then ptL (bfR m (-1) es n.toNat a.toNat).par a x else []
def bpT (n : Int) (es : List Ed) (m a : Int) (zs : List Int) (x : Int) : Bool := bpB n es m a zs x && ptB (bfR m (-1) es n.toNat a.toNat).par a x
theorem bpL_len (n : Int) (es : List Ed) (m a : Int) (zs : List Int) (x : Int) : (bpL n es m a zs x).length ≤ 4194304 := by
  unfold bpL
  split
  · rename_i h
    unfold bpB at h
    rw [Bool.and_eq_true, Bool.and_eq_true] at h
    obtain ⟨hg, ha, hzn, hm, hva⟩ := vVal_pts h.1.1
    obtain ⟨g1, g2, g3, _⟩ := gVal_parts hg
    have h2 := (bf_full (a := a.toNat) hm (eAll_of hg) (by omega)).dj.ok.par
    exact Nat.le_trans (ptL_len _ _ _) (by omega)
  · simp
theorem stS_par {m : Int} {N A : Nat} {es : List Ed} (hm : mKind m = true) (he : eAll N es) (ha : A < N) : (bfR m (-1) es N A).par.length = N ∧ (bfR m (-1) es N A).vals.length = N := by
  have h := (bf_full hm he ha).dj.ok
  exact ⟨h.par, h.vals⟩

set_option maxRecDepth 20000 in
set_option maxHeartbeats 8000000 in
theorem betterPath (n m a x : Int) (es : List Ed) (zs : List Int) (s t : Value) (w : World) (hs : RowE w s es) (ht : Row w t zs) (hl : es.length ≤ 281474976710656) (hl2 : zs.length ≤ 281474976710656) :
    Calls Try.prog 29 #[.agg #[.int .i64 n, s], .agg #[.int .i64 m, .int .i64 a, t], .int .i64 x] w fun e w' => ∃ u, e = .returned (.tuple #[u, .bool (bpT n es m a zs x)]) ∧ OwnI w w' u (bpL n es m a zs x) ∧ Below w.heap.size w w' := by
  have hB : ∀ (A B : Obj), Below w.heap.size w ((w.alloc A).alloc B) := fun A B => ((Below.refl _ _).alloc (Nat.le_refl _) _).alloc (by simp) _
  have ho := fun w' (h : Below w.heap.size w w') => opsOfView n m a es zs s t w' (hs.keep h) (ht.keep h) hl hl2
  have hS := Lib.hid hs
  have hT := Lib.hid ht
  obtain ⟨ad, cap, rfl, hz0⟩ := hs
  obtain ⟨ad2, cap2, rfl, hy0⟩ := ht
  have HB := Lib.hid hB
  clear hz0 hB hy0
  unfold bpT bpL
  have hbx : ∀ (n a : Int) (s v : Value), Hid (Box ((w.alloc (.cells #[.int .i64 n, s] 25)).alloc (.cells #[.int .i64 m, .int .i64 a, v] 30)) w.heap.size 25 #[.int .i64 n, s] ∧ Box ((w.alloc (.cells #[.int .i64 n, s] 25)).alloc (.cells #[.int .i64 m, .int .i64 a, v] 30)) (w.heap.size + 1) 30 #[.int .i64 m, .int .i64 a, v]) := fun n a s v => Lib.hid ⟨(Box.new w _ _).alloc _, by have := Box.new (w.alloc (.cells #[.int .i64 n, s] 25)) 30 #[.int .i64 m, .int .i64 a, v]; simpa using this⟩
  cases hV : vVal n es m a zs
  · rw [hV] at ho
    have e0 : bpB n es m a zs x = false := by unfold bpB; rw [hV]; rfl
    rw [e0, if_neg (by decide), Bool.false_and]
    have HO := Lib.hid ho
    clear ho hV e0 hbx
    go_enter Try.func29, Try.ntmps29
    go_wp2_with (go_at_call 59; refine (HO.out _ (HB.out _ _)).mono ?_; rintro e w1 ⟨rfl, hb1⟩)
    go_ret2
    exact ⟨_, rfl, ⟨none, 0, rfl, .inl rfl⟩, bel_trans (HB.out _ _) hb1⟩
  rw [hV] at ho
  cases hX : inN n x
  · have e0 : bpB n es m a zs x = false := by unfold bpB; rw [hX, Bool.and_false]; rfl
    rw [e0, if_neg (by decide), Bool.false_and]
    have HBX := hbx n a (.slice ad es.length cap) (.slice ad2 zs.length cap2)
    have HO := Lib.hid ho
    have hh := fun w => hasNode n x (.slice ad es.length cap) w
    rw [show (decide (0 ≤ x) && decide (x < n)) = inN n x from rfl, hX] at hh
    have HH := Lib.hid hh
    clear ho hV e0 hbx hX hh
    go_enter Try.func29, Try.ntmps29
    go_wp2_with (first | (go_at_call 59; refine (HO.out _ (HB.out _ _)).mono ?_; rintro e w1 ⟨rfl, hb1⟩; have K1 := Lib.hid (And.intro (bel_trans (HB.out _ _) hb1) (And.intro (HBX.out.1.keep hb1) (HBX.out.2.keep hb1))); have x0 : w1.cell? ⟨w.heap.size, 0, none⟩ = some (.int .i64 n) := (by simpa using K1.out.2.1.cell 0); have x1 : w1.cell? ⟨w.heap.size, 1, none⟩ = some (.slice ad es.length cap) := (by simpa using K1.out.2.1.cell 1); clear hb1) | (go_at_call 67; refine (HH.out _).mono ?_; rintro e w2 ⟨rfl, hb2⟩))
    go_ret2
    exact ⟨_, rfl, ⟨none, 0, rfl, .inl rfl⟩, bel_trans K1.out.1 hb2⟩
  obtain ⟨hg, ha, hzn, hm, hva⟩ := vVal_pts hV
  obtain ⟨g1, g2, g3, _⟩ := gVal_parts hg
  have hx2 : 0 ≤ x ∧ x < n := by unfold inN at hX; simpa using hX
  have hea := eAll_of hg
  obtain ⟨N, rfl⟩ : ∃ N : Nat, n = N := ⟨n.toNat, by omega⟩
  obtain ⟨A0, rfl⟩ : ∃ A0 : Nat, a = A0 := ⟨a.toNat, by omega⟩
  obtain ⟨X, rfl⟩ : ∃ X : Nat, x = X := ⟨x.toNat, by omega⟩
  rw [Int.toNat_natCast] at hea
  have hst := stS_par (m := m) hm hea (show A0 < N by omega)
  unfold bpB
  rw [hV, hX, Bool.and_self, Bool.true_and, Int.toNat_natCast, Int.toNat_natCast, Int.toNat_natCast]
  have hr := fun w' (h : Below w.heap.size w w') => settledUntilO (N := N) (src := A0) (-1) hm (hS.out.keep h) hg (by omega)
  obtain ⟨R, hR⟩ : ∃ R, R = bfR m (-1) es N A0 := ⟨_, rfl⟩
  rw [← hR] at hr hst ⊢
  have hpt := fun w' u v pp (hu : Row w' u R.ord) (hp : Row w' pp R.par) (hv : Row w' v R.vals) => pathTo R.looks A0 X R.ord R.par R.vals u pp v w' hu hp hv (by omega)
  obtain ⟨b2, off2, cap3, hse, hb2, hc2⟩ := hT.out.at (i := X) (by omega)
  injection hse with hsa _ hsc
  subst hsa hsc
  have HBX := hbx N A0 (.slice ad es.length cap) (.slice (some ⟨b2, off2, none⟩) zs.length cap2)
  obtain ⟨y, hy⟩ : ∃ y, y = zs.getD X 0 := ⟨_, rfl⟩
  obtain ⟨z, hz⟩ : ∃ z, z = R.vals.getD X 0 := ⟨_, rfl⟩
  rw [← hy, ← hz]
  have hcy := hc2 X (by omega)
  rw [← hy] at hcy
  have hXl : (X : Int) < zs.length := by omega
  have hXr : (X : Int) < R.vals.length := by omega
  have HRL := Lib.hid (And.intro (show X < R.vals.length by omega) hz)
  obtain ⟨T, rv, fn, fe, fb, fo, fj, rn, re, rb, ro, rj, D⟩ := disp hm
  have hval := D.val
  have hn1 := D.mb.run
  have hn2 := D.mb.ahead
  have hn3 := D.mb.enter
  have hcb := D.cb z y
  have e1 : opsR m true = .iface T rv := by rw [← hval]; rfl
  rw [e1] at ho
  rw [hval] at hr
  have hh := fun w => hasNode N X (.slice ad es.length cap) w
  rw [show (decide ((0 : Int) ≤ (X : Int)) && decide ((X : Int) < (N : Int))) = inN N X from rfl, hX] at hh
  have HH := Lib.hid hh
  clear hh hval D e1
  have HCY := Lib.hid (And.intro hb2 hcy)
  have HO := Lib.hid ho
  have HR := Lib.hid hr
  have HPT := Lib.hid hpt
  obtain ⟨B, hB'⟩ : ∃ B, B = mBet m z y := ⟨_, rfl⟩
  rw [← hB'] at hcb ⊢
  have HCB := Lib.hid hcb
  have HXV := Lib.hid hx2
  clear ho hr hpt hcb hB' hR hst hz hy hcy hb2 hc2 hbx hV hX hg ha hzn hva hea hm hx2 g1 g2 g3
  cases B
  · rw [Bool.false_and, if_neg (by decide)]
    have hx0 : ¬ ((X : Int) < 0) := by have := HXV.out; omega
    have hx1 : ¬ ((N : Int) ≤ X) := by have := HXV.out; omega
    go_enter Try.func29, Try.ntmps29
    go_wp2_with (first | (go_at_call 59; refine (HO.out _ (HB.out _ _)).mono ?_; rintro e w1 ⟨rfl, hb1⟩; have K1 := Lib.hid (And.intro (bel_trans (HB.out _ _) hb1) (And.intro (HBX.out.1.keep hb1) (HBX.out.2.keep hb1))); have x0 : w1.cell? ⟨w.heap.size, 0, none⟩ = some (.int .i64 N) := (by simpa using K1.out.2.1.cell 0); have x1 : w1.cell? ⟨w.heap.size, 1, none⟩ = some (.slice ad es.length cap) := (by simpa using K1.out.2.1.cell 1); have y0 : w1.cell? ⟨w.heap.size + 1, 0, none⟩ = some (.int .i64 m) := (by simpa using K1.out.2.2.cell 0); have y1 : w1.cell? ⟨w.heap.size + 1, 1, none⟩ = some (.int .i64 A0) := (by simpa using K1.out.2.2.cell 1); clear hb1) | (go_at_call 67; refine (HH.out _).mono ?_; rintro e w2 ⟨rfl, hb2⟩; have K2 := Lib.hid (And.intro (bel_trans K1.out.1 hb2) (And.intro (K1.out.2.1.keep hb2) (K1.out.2.2.keep hb2))); clear x0 x1 y0 y1; have x0 : w2.cell? ⟨w.heap.size, 0, none⟩ = some (.int .i64 N) := (by simpa using K2.out.2.1.cell 0); have x1 : w2.cell? ⟨w.heap.size, 1, none⟩ = some (.slice ad es.length cap) := (by simpa using K2.out.2.1.cell 1); have y0 : w2.cell? ⟨w.heap.size + 1, 0, none⟩ = some (.int .i64 m) := (by simpa using K2.out.2.2.cell 0); have y1 : w2.cell? ⟨w.heap.size + 1, 1, none⟩ = some (.int .i64 A0) := (by simpa using K2.out.2.2.cell 1); clear hb2) | (go_at_call 68; (with_reducible refine (HR.out _ K2.out.1).mono ?_); rintro e w3 ⟨p, q, r, rfl, ⟨h3, hok⟩, hb3⟩; clear hok; obtain ⟨pa, pc, qa, qc, ra, rc, rfl, rfl, rfl⟩ := h3.slices; have K3 := Lib.hid (And.intro h3 (And.intro (bel_trans K2.out.1 hb3) (And.intro (K2.out.2.1.keep hb3) (K2.out.2.2.keep hb3)))); clear h3 hb3 x0 x1 y0 y1))
    have hb4 : Below w3.heap.size w3 (w3.alloc (.cells #[.slice pa R.ord.length pc, .slice qa R.par.length qc, .slice ra R.vals.length rc, .int .i64 R.looks] 64)) := (Below.refl _ _).alloc (Nat.le_refl _) _
    have hbs := Box.new w3 64 #[.slice pa R.ord.length pc, .slice qa R.par.length qc, .slice ra R.vals.length rc, .int .i64 R.looks]
    have hrow := (K3.out.1.last (Nat.le_refl _)).rowI
    have hff : ∀ w', Below (w3.alloc (.cells #[.slice pa R.ord.length pc, .slice qa R.par.length qc, .slice ra R.vals.length rc, .int .i64 R.looks] 64)).heap.size (w3.alloc (.cells #[.slice pa R.ord.length pc, .slice qa R.par.length qc, .slice ra R.vals.length rc, .int .i64 R.looks] 64)) w' → (w'.cell? ⟨w.heap.size + 1, 0, none⟩ = some (.int .i64 m) ∧ w'.cell? ⟨w.heap.size + 1, 1, none⟩ = some (.int .i64 A0) ∧ w'.cell? ⟨w.heap.size + 1, 2, none⟩ = some (.slice (some ⟨b2, off2, none⟩) zs.length cap2) ∧ w'.cell? ⟨b2, off2 + X, none⟩ = some (.int .i64 y) ∧ w'.cell? ⟨w3.heap.size, 2, none⟩ = some (.slice ra R.vals.length rc)) ∧ (∃ rb ro, ra = some ⟨rb, ro, none⟩ ∧ w'.cell? ⟨rb, ro + X, none⟩ = some (.int .i64 z)) ∧ Box w' w3.heap.size 64 #[.slice pa R.ord.length pc, .slice qa R.par.length qc, .slice ra R.vals.length rc, .int .i64 R.looks] ∧ Below w3.heap.size w3 w' := fun w' h => by
      have hB := bel_trans hb4 h
      have hk := K3.out.2.2.2.keep hB
      have hk2 := hbs.keep h
      refine ⟨⟨by simpa using hk.cell 0, by simpa using hk.cell 1, by simpa using hk.cell 2, ((bel_trans K3.out.2.1 hB).cell (p := ⟨b2, _, none⟩) HCY.out.1).trans HCY.out.2, by simpa using hk2.cell 2⟩, ?_, hk2, hB⟩
      obtain ⟨rb, ro, rc', hse, hrb, hrc⟩ := hrow.at HRL.out.1
      injection hse with hsa _ hsc
      exact ⟨rb, ro, hsa, (hB.cell (p := ⟨rb, _, none⟩) hrb).trans (by rw [HRL.out.2]; exact hrc X HRL.out.1)⟩
    obtain ⟨rb, ro, hra, -⟩ := (hff _ (Below.refl _ _)).2.1
    subst hra
    have FF : Hid (∀ w', Below (w3.alloc (.cells #[.slice pa R.ord.length pc, .slice qa R.par.length qc, .slice (some ⟨rb, ro, none⟩) R.vals.length rc, .int .i64 R.looks] 64)).heap.size (w3.alloc (.cells #[.slice pa R.ord.length pc, .slice qa R.par.length qc, .slice (some ⟨rb, ro, none⟩) R.vals.length rc, .int .i64 R.looks] 64)) w' → (w'.cell? ⟨w.heap.size + 1, 0, none⟩ = some (.int .i64 m) ∧ w'.cell? ⟨w.heap.size + 1, 1, none⟩ = some (.int .i64 A0) ∧ w'.cell? ⟨w.heap.size + 1, 2, none⟩ = some (.slice (some ⟨b2, off2, none⟩) zs.length cap2) ∧ w'.cell? ⟨b2, off2 + X, none⟩ = some (.int .i64 y) ∧ w'.cell? ⟨w3.heap.size, 2, none⟩ = some (.slice (some ⟨rb, ro, none⟩) R.vals.length rc) ∧ w'.cell? ⟨rb, ro + X, none⟩ = some (.int .i64 z)) ∧ Box w' w3.heap.size 64 #[.slice pa R.ord.length pc, .slice qa R.par.length qc, .slice (some ⟨rb, ro, none⟩) R.vals.length rc, .int .i64 R.looks] ∧ Below w3.heap.size w3 w') := Lib.hid (fun w' h => by
      obtain ⟨⟨q1, q2, q3, q4, q5⟩, ⟨rb', ro', hra', q6⟩, q7, q8⟩ := hff w' h
      cases hra'
      exact ⟨⟨q1, q2, q3, q4, q5, q6⟩, q7, q8⟩)
    clear hff hb4 hbs hrow
    generalize hW4 : (w3.alloc (.cells #[.slice pa R.ord.length pc, .slice qa R.par.length qc, .slice (some ⟨rb, ro, none⟩) R.vals.length rc, .int .i64 R.looks] 64)) = W4 at FF ⊢
    clear hW4
    refine wp_region_below (by kernel_rfl) (by kernel_rfl) ?_
    repeat (go_big_quiet_step ((intro hw; first | with_reducible rfl | (obtain ⟨⟨f0, f1, f2, f3, f4, f5⟩, -⟩ := FF.out _ hw; simp only [f0, f1, f2, f3, f4, f5, Result.andThen]; first | exact ⟨trivial, rfl⟩ | exact ⟨rfl, rfl⟩) | (with_reducible exact quietB (HCB.out _) hw))))
    refine wpQuiet_nil ?_
    intro w5 hw5
    have K5 := Lib.hid (FF.out _ hw5).2
    have hb5 := bel_trans K3.out.2.1 K5.out.2
    go_wp2
    go_ret2
    exact ⟨_, rfl, ⟨none, 0, rfl, .inl rfl⟩, hb5⟩
  · rw [Bool.true_and, if_pos rfl]
    have hx0 : ¬ ((X : Int) < 0) := by have := HXV.out; omega
    have hx1 : ¬ ((N : Int) ≤ X) := by have := HXV.out; omega
    go_enter Try.func29, Try.ntmps29
    go_wp2_with (first | (go_at_call 59; refine (HO.out _ (HB.out _ _)).mono ?_; rintro e w1 ⟨rfl, hb1⟩; have K1 := Lib.hid (And.intro (bel_trans (HB.out _ _) hb1) (And.intro (HBX.out.1.keep hb1) (HBX.out.2.keep hb1))); have x0 : w1.cell? ⟨w.heap.size, 0, none⟩ = some (.int .i64 N) := (by simpa using K1.out.2.1.cell 0); have x1 : w1.cell? ⟨w.heap.size, 1, none⟩ = some (.slice ad es.length cap) := (by simpa using K1.out.2.1.cell 1); have y0 : w1.cell? ⟨w.heap.size + 1, 0, none⟩ = some (.int .i64 m) := (by simpa using K1.out.2.2.cell 0); have y1 : w1.cell? ⟨w.heap.size + 1, 1, none⟩ = some (.int .i64 A0) := (by simpa using K1.out.2.2.cell 1); clear hb1) | (go_at_call 67; refine (HH.out _).mono ?_; rintro e w2 ⟨rfl, hb2⟩; have K2 := Lib.hid (And.intro (bel_trans K1.out.1 hb2) (And.intro (K1.out.2.1.keep hb2) (K1.out.2.2.keep hb2))); clear x0 x1 y0 y1; have x0 : w2.cell? ⟨w.heap.size, 0, none⟩ = some (.int .i64 N) := (by simpa using K2.out.2.1.cell 0); have x1 : w2.cell? ⟨w.heap.size, 1, none⟩ = some (.slice ad es.length cap) := (by simpa using K2.out.2.1.cell 1); have y0 : w2.cell? ⟨w.heap.size + 1, 0, none⟩ = some (.int .i64 m) := (by simpa using K2.out.2.2.cell 0); have y1 : w2.cell? ⟨w.heap.size + 1, 1, none⟩ = some (.int .i64 A0) := (by simpa using K2.out.2.2.cell 1); clear hb2) | (go_at_call 68; (with_reducible refine (HR.out _ K2.out.1).mono ?_); rintro e w3 ⟨p, q, r, rfl, ⟨h3, hok⟩, hb3⟩; clear hok; obtain ⟨pa, pc, qa, qc, ra, rc, rfl, rfl, rfl⟩ := h3.slices; have K3 := Lib.hid (And.intro h3 (And.intro (bel_trans K2.out.1 hb3) (And.intro (K2.out.2.1.keep hb3) (K2.out.2.2.keep hb3)))); clear h3 hb3 x0 x1 y0 y1))
    have hb4 : Below w3.heap.size w3 (w3.alloc (.cells #[.slice pa R.ord.length pc, .slice qa R.par.length qc, .slice ra R.vals.length rc, .int .i64 R.looks] 64)) := (Below.refl _ _).alloc (Nat.le_refl _) _
    have hbs := Box.new w3 64 #[.slice pa R.ord.length pc, .slice qa R.par.length qc, .slice ra R.vals.length rc, .int .i64 R.looks]
    have hrow := (K3.out.1.last (Nat.le_refl _)).rowI
    have hff : ∀ w', Below (w3.alloc (.cells #[.slice pa R.ord.length pc, .slice qa R.par.length qc, .slice ra R.vals.length rc, .int .i64 R.looks] 64)).heap.size (w3.alloc (.cells #[.slice pa R.ord.length pc, .slice qa R.par.length qc, .slice ra R.vals.length rc, .int .i64 R.looks] 64)) w' → (w'.cell? ⟨w.heap.size + 1, 0, none⟩ = some (.int .i64 m) ∧ w'.cell? ⟨w.heap.size + 1, 1, none⟩ = some (.int .i64 A0) ∧ w'.cell? ⟨w.heap.size + 1, 2, none⟩ = some (.slice (some ⟨b2, off2, none⟩) zs.length cap2) ∧ w'.cell? ⟨b2, off2 + X, none⟩ = some (.int .i64 y) ∧ w'.cell? ⟨w3.heap.size, 2, none⟩ = some (.slice ra R.vals.length rc)) ∧ (∃ rb ro, ra = some ⟨rb, ro, none⟩ ∧ w'.cell? ⟨rb, ro + X, none⟩ = some (.int .i64 z)) ∧ Box w' w3.heap.size 64 #[.slice pa R.ord.length pc, .slice qa R.par.length qc, .slice ra R.vals.length rc, .int .i64 R.looks] ∧ Below w3.heap.size w3 w' := fun w' h => by
      have hB := bel_trans hb4 h
      have hk := K3.out.2.2.2.keep hB
      have hk2 := hbs.keep h
      refine ⟨⟨by simpa using hk.cell 0, by simpa using hk.cell 1, by simpa using hk.cell 2, ((bel_trans K3.out.2.1 hB).cell (p := ⟨b2, _, none⟩) HCY.out.1).trans HCY.out.2, by simpa using hk2.cell 2⟩, ?_, hk2, hB⟩
      obtain ⟨rb, ro, rc', hse, hrb, hrc⟩ := hrow.at HRL.out.1
      injection hse with hsa _ hsc
      exact ⟨rb, ro, hsa, (hB.cell (p := ⟨rb, _, none⟩) hrb).trans (by rw [HRL.out.2]; exact hrc X HRL.out.1)⟩
    obtain ⟨rb, ro, hra, -⟩ := (hff _ (Below.refl _ _)).2.1
    subst hra
    have FF : Hid (∀ w', Below (w3.alloc (.cells #[.slice pa R.ord.length pc, .slice qa R.par.length qc, .slice (some ⟨rb, ro, none⟩) R.vals.length rc, .int .i64 R.looks] 64)).heap.size (w3.alloc (.cells #[.slice pa R.ord.length pc, .slice qa R.par.length qc, .slice (some ⟨rb, ro, none⟩) R.vals.length rc, .int .i64 R.looks] 64)) w' → (w'.cell? ⟨w.heap.size + 1, 0, none⟩ = some (.int .i64 m) ∧ w'.cell? ⟨w.heap.size + 1, 1, none⟩ = some (.int .i64 A0) ∧ w'.cell? ⟨w.heap.size + 1, 2, none⟩ = some (.slice (some ⟨b2, off2, none⟩) zs.length cap2) ∧ w'.cell? ⟨b2, off2 + X, none⟩ = some (.int .i64 y) ∧ w'.cell? ⟨w3.heap.size, 2, none⟩ = some (.slice (some ⟨rb, ro, none⟩) R.vals.length rc) ∧ w'.cell? ⟨rb, ro + X, none⟩ = some (.int .i64 z)) ∧ Box w' w3.heap.size 64 #[.slice pa R.ord.length pc, .slice qa R.par.length qc, .slice (some ⟨rb, ro, none⟩) R.vals.length rc, .int .i64 R.looks] ∧ Below w3.heap.size w3 w') := Lib.hid (fun w' h => by
      obtain ⟨⟨q1, q2, q3, q4, q5⟩, ⟨rb', ro', hra', q6⟩, q7, q8⟩ := hff w' h
      cases hra'
      exact ⟨⟨q1, q2, q3, q4, q5, q6⟩, q7, q8⟩)
    clear hff hb4 hbs hrow
    generalize hW4 : (w3.alloc (.cells #[.slice pa R.ord.length pc, .slice qa R.par.length qc, .slice (some ⟨rb, ro, none⟩) R.vals.length rc, .int .i64 R.looks] 64)) = W4 at FF ⊢
    clear hW4
    refine wp_region_below (by kernel_rfl) (by kernel_rfl) ?_
    repeat (go_big_quiet_step ((intro hw; first | with_reducible rfl | (obtain ⟨⟨f0, f1, f2, f3, f4, f5⟩, -⟩ := FF.out _ hw; simp only [f0, f1, f2, f3, f4, f5, Result.andThen]; first | exact ⟨trivial, rfl⟩ | exact ⟨rfl, rfl⟩) | (with_reducible exact quietB (HCB.out _) hw))))
    refine wpQuiet_nil ?_
    intro w5 hw5
    have K5 := Lib.hid (FF.out _ hw5).2
    have hb5 := bel_trans K3.out.2.1 K5.out.2
    have HB5 := Lib.hid hb5
    clear hb5
    have x0 : w5.cell? ⟨w3.heap.size, 0, none⟩ = some (.slice pa R.ord.length pc) := by simpa using K5.out.1.cell 0
    have x1 : w5.cell? ⟨w3.heap.size, 1, none⟩ = some (.slice qa R.par.length qc) := by simpa using K5.out.1.cell 1
    have x2 : w5.cell? ⟨w3.heap.size, 2, none⟩ = some (.slice (some ⟨rb, ro, none⟩) R.vals.length rc) := by simpa using K5.out.1.cell 2
    have x3 : w5.cell? ⟨w3.heap.size, 3, none⟩ = some (.int .i64 R.looks) := by simpa using K5.out.1.cell 3
    have y1 : w5.cell? ⟨w.heap.size + 1, 1, none⟩ = some (.int .i64 A0) := (FF.out _ hw5).1.2.1
    have hrows := (K3.out.1.keep K5.out.2).rows
    have HRW := Lib.hid hrows
    clear hrows hw5
    go_wp2_with (go_at_call 47; (with_reducible refine (HPT.out _ _ _ _ HRW.out.1 HRW.out.2.1 HRW.out.2.2).mono ?_); rintro e w6 ⟨u, rfl, hou, hb6⟩; have HOU := Lib.hid hou; clear hou)
    go_ret2
    exact ⟨_, rfl, HOU.out.wider HB5.out.size (Nat.le_refl _) (Nat.le_refl _), bel_trans HB5.out hb6⟩

set_option maxRecDepth 20000 in
set_option maxHeartbeats 8000000 in
theorem sBetterPath (n m a x : Int) (es : List Ed) (zs : List Int) (s t : Value) (w : World) (hs : RowE w s es) (ht : Row w t zs) (hl : es.length ≤ 281474976710656) (hl2 : zs.length ≤ 281474976710656) :
    Calls Try.prog 32 #[.agg #[.int .i64 n, s], .agg #[.int .i64 m, .int .i64 a, t], .int .i64 x] w fun e w' => ∃ u, e = .returned (.tuple #[u, .bool (bpT n es m a zs x)]) ∧ OwnI w w' u (bpL n es m a zs x) ∧ Below w.heap.size w w' := by
  have hB : ∀ (A B : Obj), Below w.heap.size w ((w.alloc A).alloc B) := fun A B => ((Below.refl _ _).alloc (Nat.le_refl _) _).alloc (by simp) _
  have ho := fun w' (h : Below w.heap.size w w') => sViewValid n m a es zs s t w' (hs.keep h) (ht.keep h) hl hl2
  have hS := Lib.hid hs
  have hT := Lib.hid ht
  obtain ⟨ad, cap, rfl, hz0⟩ := hs
  obtain ⟨ad2, cap2, rfl, hy0⟩ := ht
  have HB := Lib.hid hB
  clear hz0 hB hy0
  unfold bpT bpL
  have hbx : ∀ (n a : Int) (s v : Value), Hid (Box ((w.alloc (.cells #[.int .i64 n, s] 25)).alloc (.cells #[.int .i64 m, .int .i64 a, v] 30)) w.heap.size 25 #[.int .i64 n, s] ∧ Box ((w.alloc (.cells #[.int .i64 n, s] 25)).alloc (.cells #[.int .i64 m, .int .i64 a, v] 30)) (w.heap.size + 1) 30 #[.int .i64 m, .int .i64 a, v]) := fun n a s v => Lib.hid ⟨(Box.new w _ _).alloc _, by have := Box.new (w.alloc (.cells #[.int .i64 n, s] 25)) 30 #[.int .i64 m, .int .i64 a, v]; simpa using this⟩
  cases hV : vVal n es m a zs
  · rw [hV] at ho
    have e0 : bpB n es m a zs x = false := by unfold bpB; rw [hV]; rfl
    rw [e0, if_neg (by decide), Bool.false_and]
    have HO := Lib.hid ho
    clear ho hV e0 hbx
    go_enter Try.func32, Try.ntmps32
    go_wp2_with (go_at_call 61; refine (HO.out _ (HB.out _ _)).mono ?_; rintro e w1 ⟨rfl, hb1⟩)
    go_ret2
    exact ⟨_, rfl, ⟨_, 0, rfl, .inl rfl⟩, (bel_trans (HB.out _ _) hb1).alloc (bel_trans (HB.out _ _) hb1).size _⟩
  rw [hV] at ho
  cases hX : inN n x
  · have e0 : bpB n es m a zs x = false := by unfold bpB; rw [hX, Bool.and_false]; rfl
    rw [e0, if_neg (by decide), Bool.false_and]
    have HBX := hbx n a (.slice ad es.length cap) (.slice ad2 zs.length cap2)
    have HO := Lib.hid ho
    unfold inN at hX
    have HX := Lib.hid hX
    clear ho hV e0 hbx hX
    by_cases hx0 : x < 0
    · go_enter Try.func32, Try.ntmps32
      go_wp2_with (go_at_call 61; refine (HO.out _ (HB.out _ _)).mono ?_; rintro e w1 ⟨rfl, hb1⟩; have K1 := Lib.hid (And.intro (bel_trans (HB.out _ _) hb1) (And.intro (HBX.out.1.keep hb1) (HBX.out.2.keep hb1))); have x0 : w1.cell? ⟨w.heap.size, 0, none⟩ = some (.int .i64 n) := (by simpa using K1.out.2.1.cell 0); have x1 : w1.cell? ⟨w.heap.size, 1, none⟩ = some (.slice ad es.length cap) := (by simpa using K1.out.2.1.cell 1); clear hb1)
      go_ret2
      exact ⟨_, rfl, ⟨_, 0, rfl, .inl rfl⟩, K1.out.1.alloc K1.out.1.size _⟩
    · have hx1 : n ≤ x := by have := HX.out; simp at this; omega
      go_enter Try.func32, Try.ntmps32
      go_wp2_with (go_at_call 61; refine (HO.out _ (HB.out _ _)).mono ?_; rintro e w1 ⟨rfl, hb1⟩; have K1 := Lib.hid (And.intro (bel_trans (HB.out _ _) hb1) (And.intro (HBX.out.1.keep hb1) (HBX.out.2.keep hb1))); have x0 : w1.cell? ⟨w.heap.size, 0, none⟩ = some (.int .i64 n) := (by simpa using K1.out.2.1.cell 0); have x1 : w1.cell? ⟨w.heap.size, 1, none⟩ = some (.slice ad es.length cap) := (by simpa using K1.out.2.1.cell 1); clear hb1)
      go_ret2
      exact ⟨_, rfl, ⟨_, 0, rfl, .inl rfl⟩, K1.out.1.alloc K1.out.1.size _⟩
  obtain ⟨hg, ha, hzn, hm, hva⟩ := vVal_pts hV
  obtain ⟨g1, g2, g3, _⟩ := gVal_parts hg
  have hx2 : 0 ≤ x ∧ x < n := by unfold inN at hX; simpa using hX
  have hea := eAll_of hg
  obtain ⟨N, rfl⟩ : ∃ N : Nat, n = N := ⟨n.toNat, by omega⟩
  obtain ⟨A0, rfl⟩ : ∃ A0 : Nat, a = A0 := ⟨a.toNat, by omega⟩
  obtain ⟨X, rfl⟩ : ∃ X : Nat, x = X := ⟨x.toNat, by omega⟩
  rw [Int.toNat_natCast] at hea
  have hst := stS_par (m := m) hm hea (show A0 < N by omega)
  unfold bpB
  rw [hV, hX, Bool.and_self, Bool.true_and, Int.toNat_natCast, Int.toNat_natCast, Int.toNat_natCast]
  have hr := fun w' (h : Below w.heap.size w w') => l4Run (N := N) (src := A0) (-1) hm (hS.out.keep h) hg (by omega)
  obtain ⟨R, hR⟩ : ∃ R, R = bfR m (-1) es N A0 := ⟨_, rfl⟩
  rw [← hR] at hr hst ⊢
  have hpt := fun w' u v pp (hu : Row w' u R.ord) (hp : Row w' pp R.par) (hv : Row w' v R.vals) => sPathTo R.looks A0 X R.ord R.par R.vals u pp v w' hu hp hv (by omega)
  obtain ⟨b2, off2, cap3, hse, hb2, hc2⟩ := hT.out.at (i := X) (by omega)
  injection hse with hsa _ hsc
  subst hsa hsc
  have HBX := hbx N A0 (.slice ad es.length cap) (.slice (some ⟨b2, off2, none⟩) zs.length cap2)
  obtain ⟨y, hy⟩ : ∃ y, y = zs.getD X 0 := ⟨_, rfl⟩
  obtain ⟨z, hz⟩ : ∃ z, z = R.vals.getD X 0 := ⟨_, rfl⟩
  rw [← hy, ← hz]
  have hcy := hc2 X (by omega)
  rw [← hy] at hcy
  have hXl : (X : Int) < zs.length := by omega
  have hXr : (X : Int) < R.vals.length := by omega
  have HRL := Lib.hid (And.intro (show X < R.vals.length by omega) hz)
  have hcb := fun w => calls_below (sBet hm z y w)
  have HCY := Lib.hid (And.intro hb2 hcy)
  have HO := Lib.hid ho
  have HR := Lib.hid hr
  have HPT := Lib.hid hpt
  obtain ⟨B, hB'⟩ : ∃ B, B = mBet m z y := ⟨_, rfl⟩
  rw [← hB'] at hcb ⊢
  have HCB := Lib.hid hcb
  have HXV := Lib.hid hx2
  clear ho hr hpt hcb hB' hR hst hz hy hcy hb2 hc2 hbx hV hX hg ha hzn hva hea hm hx2 g1 g2 g3
  cases B
  · rw [Bool.false_and, if_neg (by decide)]
    have hx0 : ¬ ((X : Int) < 0) := by have := HXV.out; omega
    have hx1 : ¬ ((N : Int) ≤ X) := by have := HXV.out; omega
    go_enter Try.func32, Try.ntmps32
    go_wp2_with (first | (go_at_call 61; refine (HO.out _ (HB.out _ _)).mono ?_; rintro e w1 ⟨rfl, hb1⟩; have K1 := Lib.hid (And.intro (bel_trans (HB.out _ _) hb1) (And.intro (HBX.out.1.keep hb1) (HBX.out.2.keep hb1))); have x0 : w1.cell? ⟨w.heap.size, 0, none⟩ = some (.int .i64 N) := (by simpa using K1.out.2.1.cell 0); have x1 : w1.cell? ⟨w.heap.size, 1, none⟩ = some (.slice ad es.length cap) := (by simpa using K1.out.2.1.cell 1); have y0 : w1.cell? ⟨w.heap.size + 1, 0, none⟩ = some (.int .i64 m) := (by simpa using K1.out.2.2.cell 0); have y1 : w1.cell? ⟨w.heap.size + 1, 1, none⟩ = some (.int .i64 A0) := (by simpa using K1.out.2.2.cell 1); clear hb1) | (go_at_call 74; (with_reducible refine (HR.out _ K1.out.1).mono ?_); rintro e w3 ⟨p, q, r, rfl, h3, hb3⟩; obtain ⟨pa, pc, qa, qc, ra, rc, rfl, rfl, rfl⟩ := h3.slices; have K3 := Lib.hid (And.intro h3 (And.intro (bel_trans K1.out.1 hb3) (And.intro (K1.out.2.1.keep hb3) (K1.out.2.2.keep hb3)))); clear h3 hb3 x0 x1 y0 y1))
    have hb4 : Below w3.heap.size w3 (w3.alloc (.cells #[.slice pa R.ord.length pc, .slice qa R.par.length qc, .slice ra R.vals.length rc, .int .i64 R.looks] 64)) := (Below.refl _ _).alloc (Nat.le_refl _) _
    have hbs := Box.new w3 64 #[.slice pa R.ord.length pc, .slice qa R.par.length qc, .slice ra R.vals.length rc, .int .i64 R.looks]
    have hrow := (K3.out.1.last (Nat.le_refl _)).rowI
    have hff : ∀ w', Below (w3.alloc (.cells #[.slice pa R.ord.length pc, .slice qa R.par.length qc, .slice ra R.vals.length rc, .int .i64 R.looks] 64)).heap.size (w3.alloc (.cells #[.slice pa R.ord.length pc, .slice qa R.par.length qc, .slice ra R.vals.length rc, .int .i64 R.looks] 64)) w' → (w'.cell? ⟨w.heap.size + 1, 0, none⟩ = some (.int .i64 m) ∧ w'.cell? ⟨w.heap.size + 1, 1, none⟩ = some (.int .i64 A0) ∧ w'.cell? ⟨w.heap.size + 1, 2, none⟩ = some (.slice (some ⟨b2, off2, none⟩) zs.length cap2) ∧ w'.cell? ⟨b2, off2 + X, none⟩ = some (.int .i64 y) ∧ w'.cell? ⟨w3.heap.size, 2, none⟩ = some (.slice ra R.vals.length rc)) ∧ (∃ rb ro, ra = some ⟨rb, ro, none⟩ ∧ w'.cell? ⟨rb, ro + X, none⟩ = some (.int .i64 z)) ∧ Box w' w3.heap.size 64 #[.slice pa R.ord.length pc, .slice qa R.par.length qc, .slice ra R.vals.length rc, .int .i64 R.looks] ∧ Below w3.heap.size w3 w' := fun w' h => by
      have hB := bel_trans hb4 h
      have hk := K3.out.2.2.2.keep hB
      have hk2 := hbs.keep h
      refine ⟨⟨by simpa using hk.cell 0, by simpa using hk.cell 1, by simpa using hk.cell 2, ((bel_trans K3.out.2.1 hB).cell (p := ⟨b2, _, none⟩) HCY.out.1).trans HCY.out.2, by simpa using hk2.cell 2⟩, ?_, hk2, hB⟩
      obtain ⟨rb, ro, rc', hse, hrb, hrc⟩ := hrow.at HRL.out.1
      injection hse with hsa _ hsc
      exact ⟨rb, ro, hsa, (hB.cell (p := ⟨rb, _, none⟩) hrb).trans (by rw [HRL.out.2]; exact hrc X HRL.out.1)⟩
    obtain ⟨rb, ro, hra, -⟩ := (hff _ (Below.refl _ _)).2.1
    subst hra
    have FF : Hid (∀ w', Below (w3.alloc (.cells #[.slice pa R.ord.length pc, .slice qa R.par.length qc, .slice (some ⟨rb, ro, none⟩) R.vals.length rc, .int .i64 R.looks] 64)).heap.size (w3.alloc (.cells #[.slice pa R.ord.length pc, .slice qa R.par.length qc, .slice (some ⟨rb, ro, none⟩) R.vals.length rc, .int .i64 R.looks] 64)) w' → (w'.cell? ⟨w.heap.size + 1, 0, none⟩ = some (.int .i64 m) ∧ w'.cell? ⟨w.heap.size + 1, 1, none⟩ = some (.int .i64 A0) ∧ w'.cell? ⟨w.heap.size + 1, 2, none⟩ = some (.slice (some ⟨b2, off2, none⟩) zs.length cap2) ∧ w'.cell? ⟨b2, off2 + X, none⟩ = some (.int .i64 y) ∧ w'.cell? ⟨w3.heap.size, 2, none⟩ = some (.slice (some ⟨rb, ro, none⟩) R.vals.length rc) ∧ w'.cell? ⟨rb, ro + X, none⟩ = some (.int .i64 z)) ∧ Box w' w3.heap.size 64 #[.slice pa R.ord.length pc, .slice qa R.par.length qc, .slice (some ⟨rb, ro, none⟩) R.vals.length rc, .int .i64 R.looks] ∧ Below w3.heap.size w3 w') := Lib.hid (fun w' h => by
      obtain ⟨⟨q1, q2, q3, q4, q5⟩, ⟨rb', ro', hra', q6⟩, q7, q8⟩ := hff w' h
      cases hra'
      exact ⟨⟨q1, q2, q3, q4, q5, q6⟩, q7, q8⟩)
    clear hff hb4 hbs hrow
    generalize hW4 : (w3.alloc (.cells #[.slice pa R.ord.length pc, .slice qa R.par.length qc, .slice (some ⟨rb, ro, none⟩) R.vals.length rc, .int .i64 R.looks] 64)) = W4 at FF ⊢
    clear hW4
    refine wp_region_below (by kernel_rfl) (by kernel_rfl) ?_
    repeat (go_big_quiet_step ((intro hw; first | with_reducible rfl | (obtain ⟨⟨f0, f1, f2, f3, f4, f5⟩, -⟩ := FF.out _ hw; simp only [f0, f1, f2, f3, f4, f5, Result.andThen]; first | exact ⟨trivial, rfl⟩ | exact ⟨rfl, rfl⟩) | (go_at_call 75; exact quietB (HCB.out _) hw))))
    refine wpQuiet_nil ?_
    intro w5 hw5
    have K5 := Lib.hid (FF.out _ hw5).2
    have hb5 := bel_trans K3.out.2.1 K5.out.2
    go_wp2
    go_ret2
    exact ⟨_, rfl, ⟨_, 0, rfl, .inl rfl⟩, hb5.alloc hb5.size _⟩
  · rw [Bool.true_and, if_pos rfl]
    have hx0 : ¬ ((X : Int) < 0) := by have := HXV.out; omega
    have hx1 : ¬ ((N : Int) ≤ X) := by have := HXV.out; omega
    go_enter Try.func32, Try.ntmps32
    go_wp2_with (first | (go_at_call 61; refine (HO.out _ (HB.out _ _)).mono ?_; rintro e w1 ⟨rfl, hb1⟩; have K1 := Lib.hid (And.intro (bel_trans (HB.out _ _) hb1) (And.intro (HBX.out.1.keep hb1) (HBX.out.2.keep hb1))); have x0 : w1.cell? ⟨w.heap.size, 0, none⟩ = some (.int .i64 N) := (by simpa using K1.out.2.1.cell 0); have x1 : w1.cell? ⟨w.heap.size, 1, none⟩ = some (.slice ad es.length cap) := (by simpa using K1.out.2.1.cell 1); have y0 : w1.cell? ⟨w.heap.size + 1, 0, none⟩ = some (.int .i64 m) := (by simpa using K1.out.2.2.cell 0); have y1 : w1.cell? ⟨w.heap.size + 1, 1, none⟩ = some (.int .i64 A0) := (by simpa using K1.out.2.2.cell 1); clear hb1) | (go_at_call 74; (with_reducible refine (HR.out _ K1.out.1).mono ?_); rintro e w3 ⟨p, q, r, rfl, h3, hb3⟩; obtain ⟨pa, pc, qa, qc, ra, rc, rfl, rfl, rfl⟩ := h3.slices; have K3 := Lib.hid (And.intro h3 (And.intro (bel_trans K1.out.1 hb3) (And.intro (K1.out.2.1.keep hb3) (K1.out.2.2.keep hb3)))); clear h3 hb3 x0 x1 y0 y1))
    have hb4 : Below w3.heap.size w3 (w3.alloc (.cells #[.slice pa R.ord.length pc, .slice qa R.par.length qc, .slice ra R.vals.length rc, .int .i64 R.looks] 64)) := (Below.refl _ _).alloc (Nat.le_refl _) _
    have hbs := Box.new w3 64 #[.slice pa R.ord.length pc, .slice qa R.par.length qc, .slice ra R.vals.length rc, .int .i64 R.looks]
    have hrow := (K3.out.1.last (Nat.le_refl _)).rowI
    have hff : ∀ w', Below (w3.alloc (.cells #[.slice pa R.ord.length pc, .slice qa R.par.length qc, .slice ra R.vals.length rc, .int .i64 R.looks] 64)).heap.size (w3.alloc (.cells #[.slice pa R.ord.length pc, .slice qa R.par.length qc, .slice ra R.vals.length rc, .int .i64 R.looks] 64)) w' → (w'.cell? ⟨w.heap.size + 1, 0, none⟩ = some (.int .i64 m) ∧ w'.cell? ⟨w.heap.size + 1, 1, none⟩ = some (.int .i64 A0) ∧ w'.cell? ⟨w.heap.size + 1, 2, none⟩ = some (.slice (some ⟨b2, off2, none⟩) zs.length cap2) ∧ w'.cell? ⟨b2, off2 + X, none⟩ = some (.int .i64 y) ∧ w'.cell? ⟨w3.heap.size, 2, none⟩ = some (.slice ra R.vals.length rc)) ∧ (∃ rb ro, ra = some ⟨rb, ro, none⟩ ∧ w'.cell? ⟨rb, ro + X, none⟩ = some (.int .i64 z)) ∧ Box w' w3.heap.size 64 #[.slice pa R.ord.length pc, .slice qa R.par.length qc, .slice ra R.vals.length rc, .int .i64 R.looks] ∧ Below w3.heap.size w3 w' := fun w' h => by
      have hB := bel_trans hb4 h
      have hk := K3.out.2.2.2.keep hB
      have hk2 := hbs.keep h
      refine ⟨⟨by simpa using hk.cell 0, by simpa using hk.cell 1, by simpa using hk.cell 2, ((bel_trans K3.out.2.1 hB).cell (p := ⟨b2, _, none⟩) HCY.out.1).trans HCY.out.2, by simpa using hk2.cell 2⟩, ?_, hk2, hB⟩
      obtain ⟨rb, ro, rc', hse, hrb, hrc⟩ := hrow.at HRL.out.1
      injection hse with hsa _ hsc
      exact ⟨rb, ro, hsa, (hB.cell (p := ⟨rb, _, none⟩) hrb).trans (by rw [HRL.out.2]; exact hrc X HRL.out.1)⟩
    obtain ⟨rb, ro, hra, -⟩ := (hff _ (Below.refl _ _)).2.1
    subst hra
    have FF : Hid (∀ w', Below (w3.alloc (.cells #[.slice pa R.ord.length pc, .slice qa R.par.length qc, .slice (some ⟨rb, ro, none⟩) R.vals.length rc, .int .i64 R.looks] 64)).heap.size (w3.alloc (.cells #[.slice pa R.ord.length pc, .slice qa R.par.length qc, .slice (some ⟨rb, ro, none⟩) R.vals.length rc, .int .i64 R.looks] 64)) w' → (w'.cell? ⟨w.heap.size + 1, 0, none⟩ = some (.int .i64 m) ∧ w'.cell? ⟨w.heap.size + 1, 1, none⟩ = some (.int .i64 A0) ∧ w'.cell? ⟨w.heap.size + 1, 2, none⟩ = some (.slice (some ⟨b2, off2, none⟩) zs.length cap2) ∧ w'.cell? ⟨b2, off2 + X, none⟩ = some (.int .i64 y) ∧ w'.cell? ⟨w3.heap.size, 2, none⟩ = some (.slice (some ⟨rb, ro, none⟩) R.vals.length rc) ∧ w'.cell? ⟨rb, ro + X, none⟩ = some (.int .i64 z)) ∧ Box w' w3.heap.size 64 #[.slice pa R.ord.length pc, .slice qa R.par.length qc, .slice (some ⟨rb, ro, none⟩) R.vals.length rc, .int .i64 R.looks] ∧ Below w3.heap.size w3 w') := Lib.hid (fun w' h => by
      obtain ⟨⟨q1, q2, q3, q4, q5⟩, ⟨rb', ro', hra', q6⟩, q7, q8⟩ := hff w' h
      cases hra'
      exact ⟨⟨q1, q2, q3, q4, q5, q6⟩, q7, q8⟩)
    clear hff hb4 hbs hrow
    generalize hW4 : (w3.alloc (.cells #[.slice pa R.ord.length pc, .slice qa R.par.length qc, .slice (some ⟨rb, ro, none⟩) R.vals.length rc, .int .i64 R.looks] 64)) = W4 at FF ⊢
    clear hW4
    refine wp_region_below (by kernel_rfl) (by kernel_rfl) ?_
    repeat (go_big_quiet_step ((intro hw; first | with_reducible rfl | (obtain ⟨⟨f0, f1, f2, f3, f4, f5⟩, -⟩ := FF.out _ hw; simp only [f0, f1, f2, f3, f4, f5, Result.andThen]; first | exact ⟨trivial, rfl⟩ | exact ⟨rfl, rfl⟩) | (go_at_call 75; exact quietB (HCB.out _) hw))))
    refine wpQuiet_nil ?_
    intro w5 hw5
    have K5 := Lib.hid (FF.out _ hw5).2
    have hb5 := bel_trans K3.out.2.1 K5.out.2
    have HB5 := Lib.hid hb5
    clear hb5
    have x0 : w5.cell? ⟨w3.heap.size, 0, none⟩ = some (.slice pa R.ord.length pc) := by simpa using K5.out.1.cell 0
    have x1 : w5.cell? ⟨w3.heap.size, 1, none⟩ = some (.slice qa R.par.length qc) := by simpa using K5.out.1.cell 1
    have x2 : w5.cell? ⟨w3.heap.size, 2, none⟩ = some (.slice (some ⟨rb, ro, none⟩) R.vals.length rc) := by simpa using K5.out.1.cell 2
    have x3 : w5.cell? ⟨w3.heap.size, 3, none⟩ = some (.int .i64 R.looks) := by simpa using K5.out.1.cell 3
    have y1 : w5.cell? ⟨w.heap.size + 1, 1, none⟩ = some (.int .i64 A0) := (FF.out _ hw5).1.2.1
    have hrows := (K3.out.1.keep K5.out.2).rows
    have HRW := Lib.hid hrows
    clear hrows hw5
    go_wp2_with (go_at_call 48; (with_reducible refine (HPT.out _ _ _ _ HRW.out.1 HRW.out.2.1 HRW.out.2.2).mono ?_); rintro e w6 ⟨u, rfl, hou, hb6⟩; have HOU := Lib.hid hou; clear hou)
    go_ret2
    exact ⟨_, rfl, HOU.out.wider HB5.out.size (Nat.le_refl _) (Nat.le_refl _), bel_trans HB5.out hb6⟩

end Go.Proofs.Ytjcfefpcilhelaa
