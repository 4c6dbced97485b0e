/- KeepView: the search's values and parents next to a copy of the graph. -/
import Derived.Test.YtbhhbhopogkmnaaCloneE
import Derived.Test.YtbhhbhopogkmnaaCopyG
import Derived.Test.YtbhhbhopogkmnaaBestL
import Derived.Test.YtbhhbhopogkmnaaKeptL
namespace Go.Proofs.Ytbhhbhopogkmnaa
open Go.RowKit Go.BigFrame Go.Deep
set_option linter.unusedVariables false
set_option linter.unusedSimpArgs false

def kvI (B : Bool) (x : Int) : Int := if B = true then x else 0
def kvE (B : Bool) (es : List Ed) : List Ed := if B = true then es else []
theorem RK.nil (w : World) {lo : Nat} (h : lo ≤ w.heap.size) : RK true true w lo w.heap.size (.slice none 0 0) (.slice none 0 0) (.slice none 0 0) 0 0 0 (cellE []) (cellI []) (cellI []) :=
  ⟨w.heap.size, w.heap.size, w.heap.size, w.heap.size, w.heap.size, w.heap.size, ⟨⟨none, 0, rfl, .inl rfl⟩, ⟨none, 0, rfl, .inl rfl⟩, ⟨none, 0, rfl, .inl rfl⟩⟩, ⟨h, Nat.le_refl _, h, Nat.le_refl _, h, Nat.le_refl _⟩, fun _ => ⟨.inl (Nat.le_refl _), .inl (Nat.le_refl _), .inl (Nat.le_refl _)⟩⟩
theorem RK.make {w : World} {a b c e : Value} {x : List Ed} {xo y z : List Int} {lo m1 m2 hi : Nat} (h : R3 true true w lo m1 e c b xo.length z.length y.length (cellI xo) (cellI z) (cellI y)) (g : InR true w m2 hi a x.length 3 (cellE x)) (h1 : m1 ≤ m2) (h2 : lo ≤ m2) (h3 : m1 ≤ hi) : RK true true w lo hi a b c x.length y.length z.length (cellE x) (cellI y) (cellI z) := by
  obtain ⟨l1, h1', l2, h2', l3, h3', ⟨r1, r2, r3⟩, hb, hd⟩ := h
  obtain ⟨d1, d2, d3⟩ := hd rfl
  exact ⟨m2, hi, l3, h3', l2, h2', ⟨g, r3, r2⟩, ⟨h2, Nat.le_refl _, by omega, by omega, by omega, by omega⟩, fun _ => ⟨.inr (by omega), .inr (by omega), by omega⟩⟩

theorem kv_lens (n m a : Int) (es : List Ed) (hl : es.length ≤ 1048576) : (kvE (onOk n es m [a]) es).length ≤ 1048576 ∧ (bfV (onOk n es m [a]) (bfR m (-1) es n.toNat a.toNat)).vals.length ≤ 1048576 ∧ (bfV (onOk n es m [a]) (bfR m (-1) es n.toNat a.toNat)).par.length ≤ 1048576 := by
  refine ⟨by unfold kvE; split; exact hl; simp, ?_⟩
  unfold bfV
  split
  · rename_i h
    have hp := onOk_parts h
    have hn := gVal_n hp.1
    have hA := hp.2.1 a (by simp)
    have hF := bf_full (m := m) (N := n.toNat) (a := a.toNat) hp.2.2 (eAll_of hp.1) (by omega)
    rw [hF.dj.ok.vals, hF.dj.ok.par]
    omega
  · simp

set_option maxRecDepth 20000 in
set_option maxHeartbeats 8000000 in
theorem keepViewA (n m a : Int) (es : List Ed) (vg : Option Addr) (cap : Nat) (w : World) (hs : RowE w (.slice vg es.length cap) es) (hok : okS (.slice vg es.length cap)) (hl : es.length ≤ 1048576)  :
    Calls Try.prog 31 #[.agg #[.int .i64 n, .slice vg es.length cap], .int .i64 m, .int .i64 a] w fun e w' => ∃ p q r, e = .returned (.tuple #[.agg #[.int .i64 (kvI (onOk n es m [a]) n), p, .int .i64 (kvI (onOk n es m [a]) m), .int .i64 (kvI (onOk n es m [a]) a), q, r], .bool (onOk n es m [a])]) ∧ RK true true w' w.heap.size w'.heap.size p q r (kvE (onOk n es m [a]) es).length (bfV (onOk n es m [a]) (bfR m (-1) es n.toNat a.toNat)).vals.length (bfV (onOk n es m [a]) (bfR m (-1) es n.toNat a.toNat)).par.length (cellE (kvE (onOk n es m [a]) es)) (cellI (bfV (onOk n es m [a]) (bfR m (-1) es n.toNat a.toNat)).vals) (cellI (bfV (onOk n es m [a]) (bfR m (-1) es n.toNat a.toNat)).par) ∧ Below w.heap.size w w' := by
  have hB : ∀ (A B : Obj), Below w.heap.size w ((w.alloc A).alloc B) := fun A B => ((Below.refl _ _).alloc (Nat.le_refl _) _).alloc (by simp) _
  have hst := fun w' (h : Below w.heap.size w w') => bestFirst n m a es _ w' (hs.keep h) (by omega)
  have hcl := fun w' (h : Below w.heap.size w w') => copyOfGraph n es (.slice vg es.length cap) w' (hs.keep h) hok hl
  have HCL := Lib.hid hcl
  have HB := Lib.hid hB
  have hnil : onOk n es m [a] = false → bfV (onOk n es m [a]) (bfR m (-1) es n.toNat a.toNat) = ⟨[], [], [], 0, []⟩ := fun h => by rw [h]; rfl
  obtain ⟨R, hR⟩ : ∃ R, R = bfV (onOk n es m [a]) (bfR m (-1) es n.toNat a.toNat) := ⟨_, rfl⟩
  rw [← hR] at hst hnil ⊢
  obtain ⟨G, hG⟩ : ∃ G, G = onOk n es m [a] := ⟨_, rfl⟩
  rw [← hG] at hst hnil ⊢
  have hb0 : Box ((w.alloc (.cells #[.int .i64 n, .slice vg es.length cap] 34)).alloc (.cells #[.int .i64 0, .slice none 0 0, .int .i64 0, .int .i64 0, .slice none 0 0, .slice none 0 0] 55)) w.heap.size 34 #[.int .i64 n, .slice vg es.length cap] := (Box.new w _ _).alloc _
  have hb1 : Box ((w.alloc (.cells #[.int .i64 n, .slice vg es.length cap] 34)).alloc (.cells #[.int .i64 0, .slice none 0 0, .int .i64 0, .int .i64 0, .slice none 0 0, .slice none 0 0] 55)) (w.heap.size + 1) 55 #[.int .i64 0, .slice none 0 0, .int .i64 0, .int .i64 0, .slice none 0 0, .slice none 0 0] := by
    have := Box.new (w.alloc (.cells #[.int .i64 n, .slice vg es.length cap] 34)) 55 #[.int .i64 0, .slice none 0 0, .int .i64 0, .int .i64 0, .slice none 0 0, .slice none 0 0]
    simpa using this
  have K0 := Lib.hid (And.intro (hB (.cells #[.int .i64 n, .slice vg es.length cap] 34) (.cells #[.int .i64 0, .slice none 0 0, .int .i64 0, .int .i64 0, .slice none 0 0, .slice none 0 0] 55)) (And.intro hb0 (And.intro hb1 (show w.heap.size + 2 = ((w.alloc (.cells #[.int .i64 n, .slice vg es.length cap] 34)).alloc (.cells #[.int .i64 0, .slice none 0 0, .int .i64 0, .int .i64 0, .slice none 0 0, .slice none 0 0] 55)).heap.size by simp))))
  have HST := Lib.hid hst
  clear hst hcl hB hs hG hb0 hb1
  cases G
  · have hn := hnil rfl
    subst hn
    rw [show kvI false n = 0 from rfl, show kvI false m = 0 from rfl, show kvI false a = 0 from rfl, show kvE false es = [] from rfl]
    clear hnil hR
    go_enter Try.func31, Try.ntmps31
    go_wp2_with fail
    generalize ((w.alloc (.cells #[.int .i64 n, .slice vg es.length cap] 34)).alloc (.cells #[.int .i64 0, .slice none 0 0, .int .i64 0, .int .i64 0, .slice none 0 0, .slice none 0 0] 55)) = w0 at K0 ⊢
    refine (HST.out _ K0.out.1).mono ?_
    rintro e w1 ⟨p1, q1, r1, rfl, hr3, hb1⟩
    obtain ⟨oa, oc, pa, pc, ra, rc, rfl, rfl, rfl⟩ := id hr3.slices
    have hs1 := hb1.size
    have hz0 := K0.out.2.2.2
    have hb2 : Below w1.heap.size w1 (w1.alloc (.cells #[.slice oa ([] : List Int).length oc, .slice pa ([] : List Int).length pc, .slice ra ([] : List Int).length rc, .int .i64 0] 85)) := (Below.refl _ _).alloc (Nat.le_refl _) _
    have hx2 := (K0.out.2.2.1.keep hb1).keep hb2
    have K2 := Lib.hid (And.intro (bel_trans (bel_trans K0.out.1 hb1) hb2) (And.intro hx2 (show w1.heap.size + 1 = (w1.alloc (.cells #[.slice oa ([] : List Int).length oc, .slice pa ([] : List Int).length pc, .slice ra ([] : List Int).length rc, .int .i64 0] 85)).heap.size by simp)))
    clear hr3 hb1 hx2 hb2
    go_upto_region 2 with fail
    generalize (w1.alloc (.cells #[.slice oa ([] : List Int).length oc, .slice pa ([] : List Int).length pc, .slice ra ([] : List Int).length rc, .int .i64 0] 85)) = w2 at K2 ⊢
    have c0 : w2.cell? ⟨w.heap.size + 1, 0, none⟩ = some (.int .i64 0) := by simpa using K2.out.2.1.cell 0
    have c1 : w2.cell? ⟨w.heap.size + 1, 1, none⟩ = some (.slice none 0 0) := by simpa using K2.out.2.1.cell 1
    have c2 : w2.cell? ⟨w.heap.size + 1, 2, none⟩ = some (.int .i64 0) := by simpa using K2.out.2.1.cell 2
    have c3 : w2.cell? ⟨w.heap.size + 1, 3, none⟩ = some (.int .i64 0) := by simpa using K2.out.2.1.cell 3
    have c4 : w2.cell? ⟨w.heap.size + 1, 4, none⟩ = some (.slice none 0 0) := by simpa using K2.out.2.1.cell 4
    have c5 : w2.cell? ⟨w.heap.size + 1, 5, none⟩ = some (.slice none 0 0) := by simpa using K2.out.2.1.cell 5
    have f0 : w2.frozen? ⟨w.heap.size + 1, 0, none⟩ = false := K2.out.2.1.frozen 0
    have f1 : w2.frozen? ⟨w.heap.size + 1, 1, none⟩ = false := K2.out.2.1.frozen 1
    have f2 : w2.frozen? ⟨w.heap.size + 1, 2, none⟩ = false := K2.out.2.1.frozen 2
    have f3 : w2.frozen? ⟨w.heap.size + 1, 3, none⟩ = false := K2.out.2.1.frozen 3
    have f4 : w2.frozen? ⟨w.heap.size + 1, 4, none⟩ = false := K2.out.2.1.frozen 4
    have f5 : w2.frozen? ⟨w.heap.size + 1, 5, none⟩ = false := K2.out.2.1.frozen 5
    have hlt2 : w.heap.size + 1 < w2.heap.size := by have := K2.out.2.2; omega
    go_wp2
    try simp only [Exit.inBlock, Exit.then]
    refine bodyPost_ret (v := .tuple #[.agg #[.int .i64 0, .slice none 0 0, .int .i64 0, .int .i64 0, .slice none 0 0, .slice none 0 0], .bool false]) ?_ rfl ?_
    · rw [results_cell_tmp rfl]
      go_simp
    have h0 := K2.out.1
    have hz2 := K2.out.2.2
    have hch0 : ∀ x0 x1 x2 x3 x4 x5, Chg (w.heap.size + 1) (w.heap.size + 2) w2 ((((((w2.setCell ⟨w.heap.size + 1, 0, none⟩ x0).setCell ⟨w.heap.size + 1, 1, none⟩ x1).setCell ⟨w.heap.size + 1, 2, none⟩ x2).setCell ⟨w.heap.size + 1, 3, none⟩ x3).setCell ⟨w.heap.size + 1, 4, none⟩ x4).setCell ⟨w.heap.size + 1, 5, none⟩ x5) := fun x0 x1 x2 x3 x4 x5 => ((((((Chg.refl _ _ _).setCell (by simp only; omega) (by simp only; omega) _).setCell (by simp only; omega) (by simp only; omega) _).setCell (by simp only; omega) (by simp only; omega) _).setCell (by simp only; omega) (by simp only; omega) _).setCell (by simp only; omega) (by simp only; omega) _).setCell (by simp only; omega) (by simp only; omega) _
    exact ⟨_, _, _, rfl, RK.nil _ (by simp; omega), bel_chg h0 (hch0 _ _ _ _ _ _) (by omega)⟩
  · rw [show kvI true n = n from rfl, show kvI true m = m from rfl, show kvI true a = a from rfl, show kvE true es = es from rfl]
    obtain ⟨xo, xp, xv, xl, xd⟩ := R
    simp only at HST ⊢
    clear hnil hR xd
    go_enter Try.func31, Try.ntmps31
    go_wp2_with fail
    generalize ((w.alloc (.cells #[.int .i64 n, .slice vg es.length cap] 34)).alloc (.cells #[.int .i64 0, .slice none 0 0, .int .i64 0, .int .i64 0, .slice none 0 0, .slice none 0 0] 55)) = w0 at K0 ⊢
    refine (HST.out _ K0.out.1).mono ?_
    rintro e w1 ⟨p1, q1, r1, rfl, hr3, hb1⟩
    obtain ⟨oa, oc, pa, pc, ra, rc, rfl, rfl, rfl⟩ := id hr3.slices
    have hz0 := K0.out.2.2.2
    have hs1 := hb1.size
    have hb2 : Below w1.heap.size w1 (w1.alloc (.cells #[.slice oa xo.length oc, .slice pa xp.length pc, .slice ra xv.length rc, .int .i64 xl] 85)) := (Below.refl _ _).alloc (Nat.le_refl _) _
    have hB2 := bel_trans (bel_trans K0.out.1 hb1) hb2
    have hxg := (K0.out.2.1.keep hb1).keep hb2
    have hxk := (K0.out.2.2.1.keep hb1).keep hb2
    have hxs := Box.new w1 85 #[.slice oa xo.length oc, .slice pa xp.length pc, .slice ra xv.length rc, .int .i64 xl]
    have K2 := Lib.hid (And.intro hB2 (And.intro hxg (And.intro hxk (And.intro hxs (And.intro (hr3.keep hb2) (show w1.heap.size + 1 = (w1.alloc (.cells #[.slice oa xo.length oc, .slice pa xp.length pc, .slice ra xv.length rc, .int .i64 xl] 85)).heap.size by simp))))))
    clear hr3 hb1 hb2 hB2 hxg hxk hxs
    go_wp2_with fail
    generalize (w1.alloc (.cells #[.slice oa xo.length oc, .slice pa xp.length pc, .slice ra xv.length rc, .int .i64 xl] 85)) = w2 at K2 ⊢
    have hhold : ∀ w', Below w2.heap.size w2 w' → w'.cell? ⟨w.heap.size, 0, none⟩ = some (.int .i64 n) ∧ w'.cell? ⟨w.heap.size, 1, none⟩ = some (.slice vg es.length cap) ∧ w'.cell? ⟨w1.heap.size, 1, none⟩ = some (.slice pa xp.length pc) ∧ w'.cell? ⟨w1.heap.size, 2, none⟩ = some (.slice ra xv.length rc) := fun w' h =>
      ⟨by simpa using (K2.out.2.1.keep h).cell 0, by simpa using (K2.out.2.1.keep h).cell 1, by simpa using (K2.out.2.2.2.1.keep h).cell 1, by simpa using (K2.out.2.2.2.1.keep h).cell 2⟩
    have hres : ∀ w', Below w2.heap.size w2 w' → (w'.cell? ⟨w.heap.size + 1, 0, none⟩ = some (.int .i64 0) ∧ w'.cell? ⟨w.heap.size + 1, 1, none⟩ = some (.slice none 0 0) ∧ w'.cell? ⟨w.heap.size + 1, 2, none⟩ = some (.int .i64 0) ∧ w'.cell? ⟨w.heap.size + 1, 3, none⟩ = some (.int .i64 0) ∧ w'.cell? ⟨w.heap.size + 1, 4, none⟩ = some (.slice none 0 0) ∧ w'.cell? ⟨w.heap.size + 1, 5, none⟩ = some (.slice none 0 0)) ∧ (w'.frozen? ⟨w.heap.size + 1, 0, none⟩ = false ∧ w'.frozen? ⟨w.heap.size + 1, 1, none⟩ = false ∧ w'.frozen? ⟨w.heap.size + 1, 2, none⟩ = false ∧ w'.frozen? ⟨w.heap.size + 1, 3, none⟩ = false ∧ w'.frozen? ⟨w.heap.size + 1, 4, none⟩ = false ∧ w'.frozen? ⟨w.heap.size + 1, 5, none⟩ = false) := fun w' h => by
      have hx := K2.out.2.2.1.keep h
      exact ⟨⟨by simpa using hx.cell 0, by simpa using hx.cell 1, by simpa using hx.cell 2, by simpa using hx.cell 3, by simpa using hx.cell 4, by simpa using hx.cell 5⟩, ⟨hx.frozen 0, hx.frozen 1, hx.frozen 2, hx.frozen 3, hx.frozen 4, hx.frozen 5⟩⟩
    have hlt9 : w.heap.size + 1 < w1.heap.size := by omega
    have hold6 : ∀ w', Below w2.heap.size w2 w' → ∀ x0 x1 x2 x3 x4 x5, ((((((((w'.setCell ⟨w.heap.size + 1, 0, none⟩ x0).setCell ⟨w.heap.size + 1, 1, none⟩ x1).setCell ⟨w.heap.size + 1, 2, none⟩ x2).setCell ⟨w.heap.size + 1, 3, none⟩ x3).setCell ⟨w.heap.size + 1, 4, none⟩ x4).setCell ⟨w.heap.size + 1, 5, none⟩ x5)).cell? ⟨w.heap.size, 0, none⟩ = some (.int .i64 n) ∧ (((((((w'.setCell ⟨w.heap.size + 1, 0, none⟩ x0).setCell ⟨w.heap.size + 1, 1, none⟩ x1).setCell ⟨w.heap.size + 1, 2, none⟩ x2).setCell ⟨w.heap.size + 1, 3, none⟩ x3).setCell ⟨w.heap.size + 1, 4, none⟩ x4).setCell ⟨w.heap.size + 1, 5, none⟩ x5)).cell? ⟨w.heap.size, 1, none⟩ = some (.slice vg es.length cap) ∧ (((((((w'.setCell ⟨w.heap.size + 1, 0, none⟩ x0).setCell ⟨w.heap.size + 1, 1, none⟩ x1).setCell ⟨w.heap.size + 1, 2, none⟩ x2).setCell ⟨w.heap.size + 1, 3, none⟩ x3).setCell ⟨w.heap.size + 1, 4, none⟩ x4).setCell ⟨w.heap.size + 1, 5, none⟩ x5)).cell? ⟨w1.heap.size, 1, none⟩ = some (.slice pa xp.length pc) ∧ (((((((w'.setCell ⟨w.heap.size + 1, 0, none⟩ x0).setCell ⟨w.heap.size + 1, 1, none⟩ x1).setCell ⟨w.heap.size + 1, 2, none⟩ x2).setCell ⟨w.heap.size + 1, 3, none⟩ x3).setCell ⟨w.heap.size + 1, 4, none⟩ x4).setCell ⟨w.heap.size + 1, 5, none⟩ x5)).cell? ⟨w1.heap.size, 2, none⟩ = some (.slice ra xv.length rc)) := fun w' h x0 x1 x2 x3 x4 x5 => by
      have b0 := ((((((K2.out.2.1.keep h).setOther (B' := w.heap.size + 1) (by omega) 0 x0).setOther (B' := w.heap.size + 1) (by omega) 1 x1).setOther (B' := w.heap.size + 1) (by omega) 2 x2).setOther (B' := w.heap.size + 1) (by omega) 3 x3).setOther (B' := w.heap.size + 1) (by omega) 4 x4).setOther (B' := w.heap.size + 1) (by omega) 5 x5
      have b1 := ((((((K2.out.2.2.2.1.keep h).setOther (B' := w.heap.size + 1) (by omega) 0 x0).setOther (B' := w.heap.size + 1) (by omega) 1 x1).setOther (B' := w.heap.size + 1) (by omega) 2 x2).setOther (B' := w.heap.size + 1) (by omega) 3 x3).setOther (B' := w.heap.size + 1) (by omega) 4 x4).setOther (B' := w.heap.size + 1) (by omega) 5 x5
      exact ⟨by simpa using b0.cell 0, by simpa using b0.cell 1, by simpa using b1.cell 1, by simpa using b1.cell 2⟩
    have HOLD := Lib.hid hhold
    have HOLD6 := Lib.hid hold6
    have HRES := Lib.hid hres
    clear hhold hres hold6
    go_region_held3 (fun w' : World => w'.cell? ⟨w.heap.size, 0, none⟩ = some (.int .i64 n) ∧ w'.cell? ⟨w.heap.size, 1, none⟩ = some (.slice vg es.length cap) ∧ w'.cell? ⟨w1.heap.size, 1, none⟩ = some (.slice pa xp.length pc) ∧ w'.cell? ⟨w1.heap.size, 2, none⟩ = some (.slice ra xv.length rc)) (first | with_reducible exact HOLD6.out _ (bel_trans ((Below.refl _ _).drew) hb3) _ _ _ _ _ _ | with_reducible exact HOLD.out _ ((Below.refl _ _).drew) | with_reducible exact HOLD.out _ (bel_trans ((Below.refl _ _).drew) hb3)) (first | (go_at_call 46; (with_reducible refine (HCL.out _ (bel_trans K2.out.1 ((Below.refl _ _).drew))).mono ?_); rintro e w3 ⟨v3, rfl, hown3, -, hb3⟩; obtain ⟨va, vc, hva, hz9⟩ := id hown3; subst hva; obtain ⟨⟨k0, k1, k2, k3, k4, k5⟩, l0, l1, l2, l3, l4, l5⟩ := HRES.out _ (bel_trans ((Below.refl _ _).drew) hb3); have HW := Lib.hid hown3; have HB3 := Lib.hid hb3; clear hown3 hz9))
    all_goals
      go_wp2
      try simp only [Exit.inBlock, Exit.then]
      refine bodyPost_ret (v := .tuple #[.agg #[.int .i64 n, .slice va es.length vc, .int .i64 m, .int .i64 a, .slice ra xv.length rc, .slice pa xp.length pc], .bool true]) ?_ rfl ?_
      · rw [results_cell_tmp rfl]
        go_simp
      have hz2 := K2.out.2.2.2.2.2
      have hs3 := HB3.out.size
      have hs3' : w2.heap.size ≤ w3.heap.size := hs3
      have hch : ∀ x0 x1 x2 x3 x4 x5, Chg (w.heap.size + 1) (w.heap.size + 2) w3 ((((((w3.setCell ⟨w.heap.size + 1, 0, none⟩ x0).setCell ⟨w.heap.size + 1, 1, none⟩ x1).setCell ⟨w.heap.size + 1, 2, none⟩ x2).setCell ⟨w.heap.size + 1, 3, none⟩ x3).setCell ⟨w.heap.size + 1, 4, none⟩ x4).setCell ⟨w.heap.size + 1, 5, none⟩ x5) := fun x0 x1 x2 x3 x4 x5 => ((((((Chg.refl _ _ _).setCell (by simp only; omega) (by simp only; omega) _).setCell (by simp only; omega) (by simp only; omega) _).setCell (by simp only; omega) (by simp only; omega) _).setCell (by simp only; omega) (by simp only; omega) _).setCell (by simp only; omega) (by simp only; omega) _).setCell (by simp only; omega) (by simp only; omega) _
      have hb23 := bel_trans ((Below.refl w2.heap.size w2).drew) HB3.out
      refine ⟨_, _, _, rfl, ?_, bel_chg (bel_trans K2.out.1 hb23) (hch _ _ _ _ _ _) (by omega)⟩
      have hE : InR true w3 w2.heap.size w3.heap.size (.slice va es.length vc) es.length 3 (cellE es) := HW.out
      have h3 := K2.out.2.2.2.2.1.keep hb23
      have h4 := RK.make h3 hE (by omega) (by omega) (by omega)
      exact (h4.chg (hch _ _ _ _ _ _) (.inl (by omega))).wider (by omega) (hch _ _ _ _ _ _).size (Nat.le_refl _)

set_option maxRecDepth 20000 in
set_option maxHeartbeats 8000000 in
theorem sKeepViewA (n m a : Int) (es : List Ed) (vg : Option Addr) (cap : Nat) (w : World) (hs : RowE w (.slice vg es.length cap) es) (hok : okS (.slice vg es.length cap)) (hl : es.length ≤ 1048576) :
    Calls Try.prog 32 #[.agg #[.int .i64 n, .slice vg es.length cap], .int .i64 m, .int .i64 a] w fun e w' => ∃ p q r, e = .returned (.tuple #[.agg #[.int .i64 (kvI (onOk n es m [a]) n), p, .int .i64 (kvI (onOk n es m [a]) m), .int .i64 (kvI (onOk n es m [a]) a), q, r], .bool (onOk n es m [a])]) ∧ RK true true w' w.heap.size w'.heap.size p q r (kvE (onOk n es m [a]) es).length (bfV (onOk n es m [a]) (bfR m (-1) es n.toNat a.toNat)).vals.length (bfV (onOk n es m [a]) (bfR m (-1) es n.toNat a.toNat)).par.length (cellE (kvE (onOk n es m [a]) es)) (cellI (bfV (onOk n es m [a]) (bfR m (-1) es n.toNat a.toNat)).vals) (cellI (bfV (onOk n es m [a]) (bfR m (-1) es n.toNat a.toNat)).par) ∧ Below w.heap.size w w' := by
  have hB : ∀ (A B : Obj), Below w.heap.size w ((w.alloc A).alloc B) := fun A B => ((Below.refl _ _).alloc (Nat.le_refl _) _).alloc (by simp) _
  have hst := fun w' (h : Below w.heap.size w w') => sBestFirst n m a es _ w' (hs.keep h) (by omega)
  have hcl := fun w' (h : Below w.heap.size w w') => l2Copy n es _ w' (hs.keep h) hok hl
  have HCL := Lib.hid hcl
  have HB := Lib.hid hB
  have hnil : onOk n es m [a] = false → bfV (onOk n es m [a]) (bfR m (-1) es n.toNat a.toNat) = ⟨[], [], [], 0, []⟩ := fun h => by rw [h]; rfl
  obtain ⟨R, hR⟩ : ∃ R, R = bfV (onOk n es m [a]) (bfR m (-1) es n.toNat a.toNat) := ⟨_, rfl⟩
  rw [← hR] at hst hnil ⊢
  obtain ⟨G, hG⟩ : ∃ G, G = onOk n es m [a] := ⟨_, rfl⟩
  rw [← hG] at hst hnil ⊢
  have hb0 : Box ((w.alloc (.cells #[.int .i64 n, .slice vg es.length cap] 34)).alloc (.cells #[.int .i64 0, .slice none 0 0, .int .i64 0, .int .i64 0, .slice none 0 0, .slice none 0 0] 55)) w.heap.size 34 #[.int .i64 n, .slice vg es.length cap] := (Box.new w _ _).alloc _
  have hb1 : Box ((w.alloc (.cells #[.int .i64 n, .slice vg es.length cap] 34)).alloc (.cells #[.int .i64 0, .slice none 0 0, .int .i64 0, .int .i64 0, .slice none 0 0, .slice none 0 0] 55)) (w.heap.size + 1) 55 #[.int .i64 0, .slice none 0 0, .int .i64 0, .int .i64 0, .slice none 0 0, .slice none 0 0] := by
    have := Box.new (w.alloc (.cells #[.int .i64 n, .slice vg es.length cap] 34)) 55 #[.int .i64 0, .slice none 0 0, .int .i64 0, .int .i64 0, .slice none 0 0, .slice none 0 0]
    simpa using this
  have K0 := Lib.hid (And.intro (hB (.cells #[.int .i64 n, .slice vg es.length cap] 34) (.cells #[.int .i64 0, .slice none 0 0, .int .i64 0, .int .i64 0, .slice none 0 0, .slice none 0 0] 55)) (And.intro hb0 (And.intro hb1 (show w.heap.size + 2 = ((w.alloc (.cells #[.int .i64 n, .slice vg es.length cap] 34)).alloc (.cells #[.int .i64 0, .slice none 0 0, .int .i64 0, .int .i64 0, .slice none 0 0, .slice none 0 0] 55)).heap.size by simp))))
  have HST := Lib.hid hst
  clear hst hcl hB hs hG hb0 hb1
  cases G
  · have hn := hnil rfl
    subst hn
    rw [show kvI false n = 0 from rfl, show kvI false m = 0 from rfl, show kvI false a = 0 from rfl, show kvE false es = [] from rfl]
    clear hnil hR
    go_enter Try.func32, Try.ntmps32
    go_wp2_with fail
    generalize ((w.alloc (.cells #[.int .i64 n, .slice vg es.length cap] 34)).alloc (.cells #[.int .i64 0, .slice none 0 0, .int .i64 0, .int .i64 0, .slice none 0 0, .slice none 0 0] 55)) = w0 at K0 ⊢
    refine (HST.out _ K0.out.1).mono ?_
    rintro e w1 ⟨p1, q1, r1, rfl, hr3, hb1⟩
    obtain ⟨oa, oc, pa, pc, ra, rc, rfl, rfl, rfl⟩ := id hr3.slices
    have hs1 := hb1.size
    have hz0 := K0.out.2.2.2
    have hb2 : Below w1.heap.size w1 (w1.alloc (.cells #[.slice oa ([] : List Int).length oc, .slice pa ([] : List Int).length pc, .slice ra ([] : List Int).length rc, .int .i64 0] 85)) := (Below.refl _ _).alloc (Nat.le_refl _) _
    have hx2 := (K0.out.2.2.1.keep hb1).keep hb2
    have K2 := Lib.hid (And.intro (bel_trans (bel_trans K0.out.1 hb1) hb2) (And.intro hx2 (show w1.heap.size + 1 = (w1.alloc (.cells #[.slice oa ([] : List Int).length oc, .slice pa ([] : List Int).length pc, .slice ra ([] : List Int).length rc, .int .i64 0] 85)).heap.size by simp)))
    clear hr3 hb1 hx2 hb2
    go_upto_region 2 with fail
    generalize (w1.alloc (.cells #[.slice oa ([] : List Int).length oc, .slice pa ([] : List Int).length pc, .slice ra ([] : List Int).length rc, .int .i64 0] 85)) = w2 at K2 ⊢
    have c0 : w2.cell? ⟨w.heap.size + 1, 0, none⟩ = some (.int .i64 0) := by simpa using K2.out.2.1.cell 0
    have c1 : w2.cell? ⟨w.heap.size + 1, 1, none⟩ = some (.slice none 0 0) := by simpa using K2.out.2.1.cell 1
    have c2 : w2.cell? ⟨w.heap.size + 1, 2, none⟩ = some (.int .i64 0) := by simpa using K2.out.2.1.cell 2
    have c3 : w2.cell? ⟨w.heap.size + 1, 3, none⟩ = some (.int .i64 0) := by simpa using K2.out.2.1.cell 3
    have c4 : w2.cell? ⟨w.heap.size + 1, 4, none⟩ = some (.slice none 0 0) := by simpa using K2.out.2.1.cell 4
    have c5 : w2.cell? ⟨w.heap.size + 1, 5, none⟩ = some (.slice none 0 0) := by simpa using K2.out.2.1.cell 5
    have f0 : w2.frozen? ⟨w.heap.size + 1, 0, none⟩ = false := K2.out.2.1.frozen 0
    have f1 : w2.frozen? ⟨w.heap.size + 1, 1, none⟩ = false := K2.out.2.1.frozen 1
    have f2 : w2.frozen? ⟨w.heap.size + 1, 2, none⟩ = false := K2.out.2.1.frozen 2
    have f3 : w2.frozen? ⟨w.heap.size + 1, 3, none⟩ = false := K2.out.2.1.frozen 3
    have f4 : w2.frozen? ⟨w.heap.size + 1, 4, none⟩ = false := K2.out.2.1.frozen 4
    have f5 : w2.frozen? ⟨w.heap.size + 1, 5, none⟩ = false := K2.out.2.1.frozen 5
    have hlt2 : w.heap.size + 1 < w2.heap.size := by have := K2.out.2.2; omega
    go_wp2
    try simp only [Exit.inBlock, Exit.then]
    refine bodyPost_ret (v := .tuple #[.agg #[.int .i64 0, .slice none 0 0, .int .i64 0, .int .i64 0, .slice none 0 0, .slice none 0 0], .bool false]) ?_ rfl ?_
    · rw [results_cell_tmp rfl]
      go_simp
    have h0 := K2.out.1
    have hz2 := K2.out.2.2
    have hch0 : ∀ x0 x1 x2 x3 x4 x5, Chg (w.heap.size + 1) (w.heap.size + 2) w2 ((((((w2.setCell ⟨w.heap.size + 1, 0, none⟩ x0).setCell ⟨w.heap.size + 1, 1, none⟩ x1).setCell ⟨w.heap.size + 1, 2, none⟩ x2).setCell ⟨w.heap.size + 1, 3, none⟩ x3).setCell ⟨w.heap.size + 1, 4, none⟩ x4).setCell ⟨w.heap.size + 1, 5, none⟩ x5) := fun x0 x1 x2 x3 x4 x5 => ((((((Chg.refl _ _ _).setCell (by simp only; omega) (by simp only; omega) _).setCell (by simp only; omega) (by simp only; omega) _).setCell (by simp only; omega) (by simp only; omega) _).setCell (by simp only; omega) (by simp only; omega) _).setCell (by simp only; omega) (by simp only; omega) _).setCell (by simp only; omega) (by simp only; omega) _
    exact ⟨_, _, _, rfl, RK.nil _ (by simp; omega), bel_chg h0 (hch0 _ _ _ _ _ _) (by omega)⟩
  · rw [show kvI true n = n from rfl, show kvI true m = m from rfl, show kvI true a = a from rfl, show kvE true es = es from rfl]
    obtain ⟨xo, xp, xv, xl, xd⟩ := R
    simp only at HST ⊢
    clear hnil hR xd
    go_enter Try.func32, Try.ntmps32
    go_wp2_with fail
    generalize ((w.alloc (.cells #[.int .i64 n, .slice vg es.length cap] 34)).alloc (.cells #[.int .i64 0, .slice none 0 0, .int .i64 0, .int .i64 0, .slice none 0 0, .slice none 0 0] 55)) = w0 at K0 ⊢
    refine (HST.out _ K0.out.1).mono ?_
    rintro e w1 ⟨p1, q1, r1, rfl, hr3, hb1⟩
    obtain ⟨oa, oc, pa, pc, ra, rc, rfl, rfl, rfl⟩ := id hr3.slices
    have hz0 := K0.out.2.2.2
    have hs1 := hb1.size
    have hb2 : Below w1.heap.size w1 (w1.alloc (.cells #[.slice oa xo.length oc, .slice pa xp.length pc, .slice ra xv.length rc, .int .i64 xl] 85)) := (Below.refl _ _).alloc (Nat.le_refl _) _
    have hB2 := bel_trans (bel_trans K0.out.1 hb1) hb2
    have hxg := (K0.out.2.1.keep hb1).keep hb2
    have hxk := (K0.out.2.2.1.keep hb1).keep hb2
    have hxs := Box.new w1 85 #[.slice oa xo.length oc, .slice pa xp.length pc, .slice ra xv.length rc, .int .i64 xl]
    have K2 := Lib.hid (And.intro hB2 (And.intro hxg (And.intro hxk (And.intro hxs (And.intro (hr3.keep hb2) (show w1.heap.size + 1 = (w1.alloc (.cells #[.slice oa xo.length oc, .slice pa xp.length pc, .slice ra xv.length rc, .int .i64 xl] 85)).heap.size by simp))))))
    clear hr3 hb1 hb2 hB2 hxg hxk hxs
    go_wp2_with fail
    generalize (w1.alloc (.cells #[.slice oa xo.length oc, .slice pa xp.length pc, .slice ra xv.length rc, .int .i64 xl] 85)) = w2 at K2 ⊢
    have hhold : ∀ w', Below w2.heap.size w2 w' → w'.cell? ⟨w.heap.size, 0, none⟩ = some (.int .i64 n) ∧ w'.cell? ⟨w.heap.size, 1, none⟩ = some (.slice vg es.length cap) ∧ w'.cell? ⟨w1.heap.size, 1, none⟩ = some (.slice pa xp.length pc) ∧ w'.cell? ⟨w1.heap.size, 2, none⟩ = some (.slice ra xv.length rc) := fun w' h =>
      ⟨by simpa using (K2.out.2.1.keep h).cell 0, by simpa using (K2.out.2.1.keep h).cell 1, by simpa using (K2.out.2.2.2.1.keep h).cell 1, by simpa using (K2.out.2.2.2.1.keep h).cell 2⟩
    have hres : ∀ w', Below w2.heap.size w2 w' → (w'.cell? ⟨w.heap.size + 1, 0, none⟩ = some (.int .i64 0) ∧ w'.cell? ⟨w.heap.size + 1, 1, none⟩ = some (.slice none 0 0) ∧ w'.cell? ⟨w.heap.size + 1, 2, none⟩ = some (.int .i64 0) ∧ w'.cell? ⟨w.heap.size + 1, 3, none⟩ = some (.int .i64 0) ∧ w'.cell? ⟨w.heap.size + 1, 4, none⟩ = some (.slice none 0 0) ∧ w'.cell? ⟨w.heap.size + 1, 5, none⟩ = some (.slice none 0 0)) ∧ (w'.frozen? ⟨w.heap.size + 1, 0, none⟩ = false ∧ w'.frozen? ⟨w.heap.size + 1, 1, none⟩ = false ∧ w'.frozen? ⟨w.heap.size + 1, 2, none⟩ = false ∧ w'.frozen? ⟨w.heap.size + 1, 3, none⟩ = false ∧ w'.frozen? ⟨w.heap.size + 1, 4, none⟩ = false ∧ w'.frozen? ⟨w.heap.size + 1, 5, none⟩ = false) := fun w' h => by
      have hx := K2.out.2.2.1.keep h
      exact ⟨⟨by simpa using hx.cell 0, by simpa using hx.cell 1, by simpa using hx.cell 2, by simpa using hx.cell 3, by simpa using hx.cell 4, by simpa using hx.cell 5⟩, ⟨hx.frozen 0, hx.frozen 1, hx.frozen 2, hx.frozen 3, hx.frozen 4, hx.frozen 5⟩⟩
    have hlt9 : w.heap.size + 1 < w1.heap.size := by omega
    have hold6 : ∀ w', Below w2.heap.size w2 w' → ∀ x0 x1 x2 x3 x4 x5, ((((((((w'.setCell ⟨w.heap.size + 1, 0, none⟩ x0).setCell ⟨w.heap.size + 1, 1, none⟩ x1).setCell ⟨w.heap.size + 1, 2, none⟩ x2).setCell ⟨w.heap.size + 1, 3, none⟩ x3).setCell ⟨w.heap.size + 1, 4, none⟩ x4).setCell ⟨w.heap.size + 1, 5, none⟩ x5)).cell? ⟨w.heap.size, 0, none⟩ = some (.int .i64 n) ∧ (((((((w'.setCell ⟨w.heap.size + 1, 0, none⟩ x0).setCell ⟨w.heap.size + 1, 1, none⟩ x1).setCell ⟨w.heap.size + 1, 2, none⟩ x2).setCell ⟨w.heap.size + 1, 3, none⟩ x3).setCell ⟨w.heap.size + 1, 4, none⟩ x4).setCell ⟨w.heap.size + 1, 5, none⟩ x5)).cell? ⟨w.heap.size, 1, none⟩ = some (.slice vg es.length cap) ∧ (((((((w'.setCell ⟨w.heap.size + 1, 0, none⟩ x0).setCell ⟨w.heap.size + 1, 1, none⟩ x1).setCell ⟨w.heap.size + 1, 2, none⟩ x2).setCell ⟨w.heap.size + 1, 3, none⟩ x3).setCell ⟨w.heap.size + 1, 4, none⟩ x4).setCell ⟨w.heap.size + 1, 5, none⟩ x5)).cell? ⟨w1.heap.size, 1, none⟩ = some (.slice pa xp.length pc) ∧ (((((((w'.setCell ⟨w.heap.size + 1, 0, none⟩ x0).setCell ⟨w.heap.size + 1, 1, none⟩ x1).setCell ⟨w.heap.size + 1, 2, none⟩ x2).setCell ⟨w.heap.size + 1, 3, none⟩ x3).setCell ⟨w.heap.size + 1, 4, none⟩ x4).setCell ⟨w.heap.size + 1, 5, none⟩ x5)).cell? ⟨w1.heap.size, 2, none⟩ = some (.slice ra xv.length rc)) := fun w' h x0 x1 x2 x3 x4 x5 => by
      have b0 := ((((((K2.out.2.1.keep h).setOther (B' := w.heap.size + 1) (by omega) 0 x0).setOther (B' := w.heap.size + 1) (by omega) 1 x1).setOther (B' := w.heap.size + 1) (by omega) 2 x2).setOther (B' := w.heap.size + 1) (by omega) 3 x3).setOther (B' := w.heap.size + 1) (by omega) 4 x4).setOther (B' := w.heap.size + 1) (by omega) 5 x5
      have b1 := ((((((K2.out.2.2.2.1.keep h).setOther (B' := w.heap.size + 1) (by omega) 0 x0).setOther (B' := w.heap.size + 1) (by omega) 1 x1).setOther (B' := w.heap.size + 1) (by omega) 2 x2).setOther (B' := w.heap.size + 1) (by omega) 3 x3).setOther (B' := w.heap.size + 1) (by omega) 4 x4).setOther (B' := w.heap.size + 1) (by omega) 5 x5
      exact ⟨by simpa using b0.cell 0, by simpa using b0.cell 1, by simpa using b1.cell 1, by simpa using b1.cell 2⟩
    have HOLD := Lib.hid hhold
    have HOLD6 := Lib.hid hold6
    have HRES := Lib.hid hres
    clear hhold hres hold6
    go_region_held3 (fun w' : World => w'.cell? ⟨w.heap.size, 0, none⟩ = some (.int .i64 n) ∧ w'.cell? ⟨w.heap.size, 1, none⟩ = some (.slice vg es.length cap) ∧ w'.cell? ⟨w1.heap.size, 1, none⟩ = some (.slice pa xp.length pc) ∧ w'.cell? ⟨w1.heap.size, 2, none⟩ = some (.slice ra xv.length rc)) (first | with_reducible exact HOLD6.out _ (bel_trans ((Below.refl _ _).drew) hb3) _ _ _ _ _ _ | with_reducible exact HOLD.out _ ((Below.refl _ _).drew) | with_reducible exact HOLD.out _ (bel_trans ((Below.refl _ _).drew) hb3)) (first | (go_at_call 48; (with_reducible refine (HCL.out _ (bel_trans K2.out.1 ((Below.refl _ _).drew))).mono ?_); rintro e w3 ⟨v3, rfl, hown3, hb3⟩; obtain ⟨va, vc, hva⟩ := own_slice hown3; subst hva; obtain ⟨⟨k0, k1, k2, k3, k4, k5⟩, l0, l1, l2, l3, l4, l5⟩ := HRES.out _ (bel_trans ((Below.refl _ _).drew) hb3); have HW := Lib.hid hown3; have HB3 := Lib.hid hb3; clear hown3))
    all_goals
      go_wp2
      try simp only [Exit.inBlock, Exit.then]
      refine bodyPost_ret (v := .tuple #[.agg #[.int .i64 n, .slice va es.length vc, .int .i64 m, .int .i64 a, .slice ra xv.length rc, .slice pa xp.length pc], .bool true]) ?_ rfl ?_
      · rw [results_cell_tmp rfl]
        go_simp
      have hz2 := K2.out.2.2.2.2.2
      have hs3 := HB3.out.size
      have hs3' : w2.heap.size ≤ w3.heap.size := hs3
      have hch : ∀ x0 x1 x2 x3 x4 x5, Chg (w.heap.size + 1) (w.heap.size + 2) w3 ((((((w3.setCell ⟨w.heap.size + 1, 0, none⟩ x0).setCell ⟨w.heap.size + 1, 1, none⟩ x1).setCell ⟨w.heap.size + 1, 2, none⟩ x2).setCell ⟨w.heap.size + 1, 3, none⟩ x3).setCell ⟨w.heap.size + 1, 4, none⟩ x4).setCell ⟨w.heap.size + 1, 5, none⟩ x5) := fun x0 x1 x2 x3 x4 x5 => ((((((Chg.refl _ _ _).setCell (by simp only; omega) (by simp only; omega) _).setCell (by simp only; omega) (by simp only; omega) _).setCell (by simp only; omega) (by simp only; omega) _).setCell (by simp only; omega) (by simp only; omega) _).setCell (by simp only; omega) (by simp only; omega) _).setCell (by simp only; omega) (by simp only; omega) _
      have hb23 := bel_trans ((Below.refl w2.heap.size w2).drew) HB3.out
      refine ⟨_, _, _, rfl, ?_, bel_chg (bel_trans K2.out.1 hb23) (hch _ _ _ _ _ _) (by omega)⟩
      have hE : InR true w3 w2.heap.size w3.heap.size (.slice va es.length vc) es.length 3 (cellE es) := OwnE.of (w := w2) HW.out (by simp)
      have h3 := K2.out.2.2.2.2.1.keep hb23
      have h4 := RK.make h3 hE (by omega) (by omega) (by omega)
      exact (h4.chg (hch _ _ _ _ _ _) (.inl (by omega))).wider (by omega) (hch _ _ _ _ _ _).size (Nat.le_refl _)

theorem keepView (n m a : Int) (es : List Ed) (g off cap : Nat) (w : World) (hs : RowE w (.slice (some ⟨g, off, none⟩) es.length cap) es) (hok : okS (.slice (some ⟨g, off, none⟩) es.length cap)) (hl : es.length ≤ 1048576) :
    Calls Try.prog 31 #[.agg #[.int .i64 n, .slice (some ⟨g, off, none⟩) es.length cap], .int .i64 m, .int .i64 a] w fun e w' => ∃ p q r, e = .returned (.tuple #[.agg #[.int .i64 (kvI (onOk n es m [a]) n), p, .int .i64 (kvI (onOk n es m [a]) m), .int .i64 (kvI (onOk n es m [a]) a), q, r], .bool (onOk n es m [a])]) ∧ RK true true w' w.heap.size w'.heap.size p q r (kvE (onOk n es m [a]) es).length (bfV (onOk n es m [a]) (bfR m (-1) es n.toNat a.toNat)).vals.length (bfV (onOk n es m [a]) (bfR m (-1) es n.toNat a.toNat)).par.length (cellE (kvE (onOk n es m [a]) es)) (cellI (bfV (onOk n es m [a]) (bfR m (-1) es n.toNat a.toNat)).vals) (cellI (bfV (onOk n es m [a]) (bfR m (-1) es n.toNat a.toNat)).par) ∧ Below w.heap.size w w' :=
  keepViewA n m a es (some ⟨g, off, none⟩) cap w hs hok hl
theorem sKeepView (n m a : Int) (es : List Ed) (g off cap : Nat) (w : World) (hs : RowE w (.slice (some ⟨g, off, none⟩) es.length cap) es) (hok : okS (.slice (some ⟨g, off, none⟩) es.length cap)) (hl : es.length ≤ 1048576) :
    Calls Try.prog 32 #[.agg #[.int .i64 n, .slice (some ⟨g, off, none⟩) es.length cap], .int .i64 m, .int .i64 a] w fun e w' => ∃ p q r, e = .returned (.tuple #[.agg #[.int .i64 (kvI (onOk n es m [a]) n), p, .int .i64 (kvI (onOk n es m [a]) m), .int .i64 (kvI (onOk n es m [a]) a), q, r], .bool (onOk n es m [a])]) ∧ RK true true w' w.heap.size w'.heap.size p q r (kvE (onOk n es m [a]) es).length (bfV (onOk n es m [a]) (bfR m (-1) es n.toNat a.toNat)).vals.length (bfV (onOk n es m [a]) (bfR m (-1) es n.toNat a.toNat)).par.length (cellE (kvE (onOk n es m [a]) es)) (cellI (bfV (onOk n es m [a]) (bfR m (-1) es n.toNat a.toNat)).vals) (cellI (bfV (onOk n es m [a]) (bfR m (-1) es n.toNat a.toNat)).par) ∧ Below w.heap.size w w' :=
  sKeepViewA n m a es (some ⟨g, off, none⟩) cap w hs hok hl
/-- At any row of edges that has what okS says. -/
theorem keepViewG (n m a : Int) (es : List Ed) (vg : Option Addr) (cap : Nat) (w : World) (hs : RowE w (.slice vg es.length cap) es) (hok : okS (.slice vg es.length cap)) (hl : es.length ≤ 1048576) :
    Calls Try.prog 31 #[.agg #[.int .i64 n, .slice vg es.length cap], .int .i64 m, .int .i64 a] w fun e w' => ∃ p q r, e = .returned (.tuple #[.agg #[.int .i64 (kvI (onOk n es m [a]) n), p, .int .i64 (kvI (onOk n es m [a]) m), .int .i64 (kvI (onOk n es m [a]) a), q, r], .bool (onOk n es m [a])]) ∧ RK true true w' w.heap.size w'.heap.size p q r (kvE (onOk n es m [a]) es).length (bfV (onOk n es m [a]) (bfR m (-1) es n.toNat a.toNat)).vals.length (bfV (onOk n es m [a]) (bfR m (-1) es n.toNat a.toNat)).par.length (cellE (kvE (onOk n es m [a]) es)) (cellI (bfV (onOk n es m [a]) (bfR m (-1) es n.toNat a.toNat)).vals) (cellI (bfV (onOk n es m [a]) (bfR m (-1) es n.toNat a.toNat)).par) ∧ Below w.heap.size w w' := by
  cases vg with
  | some x =>
    obtain ⟨g, off, sp⟩ := x
    have h := (hok _ _ _ rfl).2.2 _ rfl
    simp only at h
    subst h
    exact keepView n m a es g off cap w hs hok hl
  | none =>
    have hc := (hok _ _ _ rfl).2.1 rfl
    have he : es = [] := by
      obtain ⟨a, c, e, h⟩ := hs
      rcases h with h | ⟨b, off, h, _⟩
      · exact h
      · subst h; cases e
    subst he hc
    exact keepViewA n m a [] none 0 w hs hok hl
end Go.Proofs.Ytbhhbhopogkmnaa
