/- What leads from one list of edges to another: in the program. -/
import Derived.Test.YtbhhbhopogkmnaaChgC
import Derived.Test.YtbhhbhopogkmnaaChgE
import Derived.Test.YtbhhbhopogkmnaaBoxes
import Derived.Deep.AppendLies
namespace Go.Proofs.Ytbhhbhopogkmnaa
open Go.RowKit Go.BigFrame Go.Deep
set_option linter.unusedVariables false
set_option linter.unusedSimpArgs false

/-- A row that another row's growing leaves alone. -/
theorem own_other {w w' : World} {base : Nat} {e : TypeId} {sz m : Nat} {v : Value} {xs : List Value} {row : Option Nat} (h : w.ownsRow base e sz v m xs) (hg : w.grownBy w' row) (hne : ∀ g, v.ownBlock = some g → row ≠ some g) : w'.ownsRow base e sz v m xs := by
  obtain ⟨h1, h2⟩ := h
  refine ⟨h1, ?_⟩
  rcases h2 with h2 | ⟨g, cap, cur, hv, hb, hh, hr⟩
  · exact .inl h2
  · refine .inr ⟨g, cap, cur, hv, hb, ?_, hr⟩
    have hlt : g < w.heap.size := (Array.getElem?_eq_some_iff.1 hh).1
    rw [hg.block g hlt (fun e => hne g (by rw [hv]; rfl) e.symm)]
    exact hh
/-- Two rows in two blocks. -/
def apart (u v : Value) : Prop := ∀ g, u.ownBlock = some g → v.ownBlock ≠ some g
/-- One row has grown by an element; the other one is in another block still. -/
theorem apart_next {w : World} {u v : Value} {g n cap H base : Nat} {e : TypeId} {sz m : Nat} {xs : List Value} (h : apart u v) (hl : u.ownBlock = some g ∨ g = H) (ho : w.ownsRow base e sz v m xs) (hH : w.heap.size ≤ H) : apart (.slice (some ⟨g, 0, none⟩) n cap) v := by
  intro k hk
  have hk : g = k := by simpa [Value.ownBlock] using hk
  subst hk
  rcases hl with hl | hl
  · exact h g hl
  · intro hv
    have := (ho.lt g hv).2
    omega
theorem apart_symm {u v : Value} (h : apart u v) : apart v u := fun g hv hu => h g hu hv
/-- How the first edges of two lists are ordered. -/
def cFirst (xs ys : List Ed) : Int := if xs = [] ∨ ys = [] then cInt ys.length xs.length else cEnds (xs.getD 0 (0, 0, 0)).1 (xs.getD 0 (0, 0, 0)).2.1 (ys.getD 0 (0, 0, 0)).1 (ys.getD 0 (0, 0, 0)).2.1

set_option maxRecDepth 20000 in
set_option maxHeartbeats 1000000 in
theorem compareFirst (xs ys : List Ed) (s t : Value) (w : World) (hs : RowE w s xs) (ht : RowE w t ys) (hl : xs.length ≤ 1048576) (hl2 : ys.length ≤ 1048576) :
    Calls Try.prog 75 #[s, t] w fun e w' => e = .returned (.int .i64 (cFirst xs ys)) ∧ Below w.heap.size w w' := by
  obtain ⟨ad, cap, rfl, hz0⟩ := hs
  obtain ⟨ad2, cap2, rfl, hy0⟩ := ht
  have HZ := Lib.hid hz0
  have HY := Lib.hid hy0
  clear hz0 hy0
  by_cases hx : xs = []
  · have hc : cFirst xs ys = cInt ys.length xs.length := by unfold cFirst; rw [if_pos (.inl hx)]
    rw [hc]
    have e1 : ((xs.length : Int) == 0) = true := by rw [hx]; rfl
    have e0 : (xs.length : Int) = 0 := by rw [hx]; rfl
    have HC := Lib.hid (cmpInt ys.length xs.length)
    clear hc hx
    go_enter Try.func75, Try.ntmps75
    go_wp2_with (go_at_call 95; (with_reducible refine (cmpInt _ _ _).mono ?_); rintro e w1 ⟨rfl, hb1⟩; have HB1 := Lib.hid hb1; clear hb1)
    go_ret
    refine ⟨?_, by rw [HB1.out]; exact Below.refl _ _⟩
    first | rfl | simp [e0]
  by_cases hy : ys = []
  · have hc : cFirst xs ys = cInt ys.length xs.length := by unfold cFirst; rw [if_pos (.inr hy)]
    rw [hc]
    have hx1 : xs.length ≠ 0 := by intro h; exact hx (List.length_eq_zero_iff.1 h)
    have e1 : ((xs.length : Int) == 0) = false := by simpa using hx1
    have e0 : ¬ (xs.length : Int) = 0 := by omega
    have e2 : ((ys.length : Int) == 0) = true := by rw [hy]; rfl
    have e3 : (ys.length : Int) = 0 := by rw [hy]; rfl
    clear hc hx hy
    go_enter Try.func75, Try.ntmps75
    go_wp2_with (go_at_call 95; (with_reducible refine (cmpInt _ _ _).mono ?_); rintro e w1 ⟨rfl, hb1⟩; have HB1 := Lib.hid hb1; clear hb1)
    go_ret
    refine ⟨?_, by rw [HB1.out]; exact Below.refl _ _⟩
    first | rfl | simp [e3]
  · have hc : cFirst xs ys = cEnds (xs.getD 0 (0, 0, 0)).1 (xs.getD 0 (0, 0, 0)).2.1 (ys.getD 0 (0, 0, 0)).1 (ys.getD 0 (0, 0, 0)).2.1 := by unfold cFirst; rw [if_neg (by simp [hx, hy])]
    rw [hc]
    have hx1 : xs.length ≠ 0 := by intro h; exact hx (List.length_eq_zero_iff.1 h)
    have hy1 : ys.length ≠ 0 := by intro h; exact hy (List.length_eq_zero_iff.1 h)
    have e1 : ((xs.length : Int) == 0) = false := by simpa using hx1
    have e0 : ¬ (xs.length : Int) = 0 := by omega
    have e2 : ((ys.length : Int) == 0) = false := by simpa using hy1
    have e3 : ¬ (ys.length : Int) = 0 := by omega
    have p1 : (0 : Int) < xs.length := by omega
    have p2 : (0 : Int) < ys.length := by omega
    rcases HZ.out with h0 | ⟨b, off, rfl, hb, hcz⟩
    · exact absurd h0 hx
    rcases HY.out with h0 | ⟨b2, off2, rfl, hb2, hcy⟩
    · exact absurd h0 hy
    obtain ⟨x, y, z, h1⟩ : ∃ x y z, (x, y, z) = xs.getD 0 (0, 0, 0) := ⟨_, _, _, rfl⟩
    obtain ⟨p, q, r, h2⟩ : ∃ x y z, (x, y, z) = ys.getD 0 (0, 0, 0) := ⟨_, _, _, rfl⟩
    have k1 := hcz 0 (by omega)
    have k2 := hcy 0 (by omega)
    rw [← h1] at k1
    rw [← h2] at k2
    rw [← h1, ← h2]
    simp only [Nat.zero_mul, Nat.add_zero] at k1 k2
    have ff : ∀ w', Below w.heap.size w w' → w'.cell? ⟨b, off, none⟩ = some (.int .i64 x) ∧ w'.cell? ⟨b, off + 1, none⟩ = some (.int .i64 y) ∧ w'.cell? ⟨b, off + 2, none⟩ = some (.int .i64 z) ∧ w'.cell? ⟨b2, off2, none⟩ = some (.int .i64 p) ∧ w'.cell? ⟨b2, off2 + 1, none⟩ = some (.int .i64 q) ∧ w'.cell? ⟨b2, off2 + 2, none⟩ = some (.int .i64 r) := fun w' h =>
      ⟨(h.cell (p := ⟨b, _, none⟩) hb).trans k1.1, (h.cell (p := ⟨b, _, none⟩) hb).trans k1.2.1, (h.cell (p := ⟨b, _, none⟩) hb).trans k1.2.2, (h.cell (p := ⟨b2, _, none⟩) hb2).trans k2.1, (h.cell (p := ⟨b2, _, none⟩) hb2).trans k2.2.1, (h.cell (p := ⟨b2, _, none⟩) hb2).trans k2.2.2⟩
    have FF := Lib.hid ff
    clear hcz hcy h1 h2 k1 k2 ff hc hx hy hx1 hy1
    go_enter Try.func75, Try.ntmps75
    go_wp2
    refine wp_region_below (by kernel_rfl) (by kernel_rfl) ?_
    repeat (go_big_quiet_step ((intro hw; first | with_reducible rfl | (obtain ⟨f0, f1, f2, f3, f4, f5⟩ := FF.out _ hw; simp only [f0, f1, f2, f3, f4, f5, Result.andThen]; first | exact ⟨trivial, rfl⟩ | exact ⟨rfl, rfl⟩) | (go_at_call 68; exact quietB (compareEnds _ _ _ _ _ _ _) hw))))
    refine wpQuiet_nil ?_
    intro w2 hw2
    go_wp2
    go_ret
    exact ⟨rfl, hw2⟩

theorem getD_dropE (xs : List Ed) (i k : Nat) : (xs.drop i).getD k (0, 0, 0) = xs.getD (i + k) (0, 0, 0) := by simp [List.getD, List.getElem?_drop]
theorem drop_nilE {xs : List Ed} {i : Nat} : xs.drop i = [] ↔ xs.length ≤ i := List.drop_eq_nil_iff
theorem cFirst_end {xs ys : List Ed} {i j : Nat} (h : xs.length ≤ i ∨ ys.length ≤ j) : cFirst (xs.drop i) (ys.drop j) = cInt ((ys.length - j : Nat) : Int) ((xs.length - i : Nat) : Int) := by
  unfold cFirst
  rw [if_pos (by rw [drop_nilE, drop_nilE]; exact h), List.length_drop, List.length_drop]
theorem cFirst_both {xs ys : List Ed} {i j : Nat} (h : ¬ (xs.length ≤ i ∨ ys.length ≤ j)) : cFirst (xs.drop i) (ys.drop j) = cEnds (xs.getD i (0, 0, 0)).1 (xs.getD i (0, 0, 0)).2.1 (ys.getD j (0, 0, 0)).1 (ys.getD j (0, 0, 0)).2.1 := by
  unfold cFirst
  rw [if_neg (by rw [drop_nilE, drop_nilE]; exact h), getD_dropE, getD_dropE, Nat.add_zero, Nat.add_zero]
theorem cInt_gt {a b : Int} : 0 < cInt a b ↔ b < a := by
  unfold cInt
  by_cases h1 : a < b
  · rw [if_pos h1]; omega
  · rw [if_neg h1]
    by_cases h2 : b < a
    · rw [if_pos h2]; omega
    · rw [if_neg h2]; omega
theorem cEnds_gt {a b c d : Int} : 0 < cEnds a b c d ↔ (c < a ∨ (c = a ∧ d < b)) := by
  unfold cEnds cOr
  by_cases h : cInt a c = 0
  · rw [if_neg (by simpa using h), cInt_gt]
    rw [cInt_eq] at h
    omega
  · rw [if_pos h, cInt_gt]
    rw [cInt_eq] at h
    omega
theorem cFirst_neg {xs ys : List Ed} {i j : Nat} (h : cFirst (xs.drop i) (ys.drop j) < 0) : i < xs.length ∧ (j < ys.length → EdLt (xs.getD i (0, 0, 0)) (ys.getD j (0, 0, 0))) := by
  by_cases hn : xs.length ≤ i ∨ ys.length ≤ j
  · rw [cFirst_end hn, cInt_lt] at h
    exact ⟨by omega, fun h2 => by omega⟩
  · rw [cFirst_both hn, cEnds_lt] at h
    exact ⟨by omega, fun _ => h⟩
theorem cFirst_pos {xs ys : List Ed} {i j : Nat} (h : 0 < cFirst (xs.drop i) (ys.drop j)) : j < ys.length ∧ (i < xs.length → EdLt (ys.getD j (0, 0, 0)) (xs.getD i (0, 0, 0))) := by
  by_cases hn : xs.length ≤ i ∨ ys.length ≤ j
  · rw [cFirst_end hn, cInt_gt] at h
    exact ⟨by omega, fun h2 => by omega⟩
  · rw [cFirst_both hn, cEnds_gt] at h
    exact ⟨by omega, fun _ => h⟩
theorem cFirst_zero {xs ys : List Ed} {i j : Nat} (h : cFirst (xs.drop i) (ys.drop j) = 0) (hne : i < xs.length ∨ j < ys.length) : i < xs.length ∧ j < ys.length ∧ (xs.getD i (0, 0, 0)).1 = (ys.getD j (0, 0, 0)).1 ∧ (xs.getD i (0, 0, 0)).2.1 = (ys.getD j (0, 0, 0)).2.1 := by
  by_cases hn : xs.length ≤ i ∨ ys.length ≤ j
  · rw [cFirst_end hn, cInt_eq] at h
    omega
  · rw [cFirst_both hn, cEnds_eq] at h
    exact ⟨by omega, by omega, h.1, h.2⟩
/-- The first edge of what is left of a list, and what is left behind it. -/
theorem frontE {w : World} {u : Value} {xs : List Ed} {i : Nat} (hr : RowE w u (xs.drop i)) (hk : okS u) (hi : i < xs.length) :
    ∃ b off c A, u = .slice (some ⟨b, off, none⟩) A c ∧ A = xs.length - i ∧ A ≤ c ∧ b < w.heap.size ∧ (w.cell? ⟨b, off, none⟩ = some (.int .i64 (xs.getD i (0, 0, 0)).1) ∧ w.cell? ⟨b, off + 1, none⟩ = some (.int .i64 (xs.getD i (0, 0, 0)).2.1) ∧ w.cell? ⟨b, off + 2, none⟩ = some (.int .i64 (xs.getD i (0, 0, 0)).2.2)) ∧
      RowE w (dropV b off A c 1) (xs.drop (i + 1)) ∧ okS (dropV b off A c 1) := by
  obtain ⟨a, c, rfl, hz⟩ := hr
  have hl : (xs.drop i).length = xs.length - i := List.length_drop
  have hcap := (hk _ _ _ rfl).1
  rcases hz with h0 | ⟨b, off, rfl, hb, hc⟩
  · rw [drop_nilE] at h0; omega
  · have h0 := hc 0 (by omega)
    rw [getD_dropE, Nat.zero_mul, Nat.add_zero, Nat.add_zero] at h0
    have h1 := rowE_dropV hc hb 1 hcap
    rw [List.drop_drop] at h1
    refine ⟨b, off, c, _, rfl, hl, hcap, hb, h0, h1, okS_dropV hcap⟩
/-- Where the two lists are being merged. -/
structure DfS (w wr : World) (xs ys : List Ed) (i j : Nat) (u v c p : Value) : Prop where
  bel : Below w.heap.size w wr
  ra : RowE w u (xs.drop i)
  oa : okS u
  rb : RowE w v (ys.drop j)
  ob : okS v
  oc : wr.ownsRow w.heap.size 51 4 c (mC xs ys i).length (cellsCh (mC xs ys i))
  op : wr.ownsRow w.heap.size 51 4 p (mP xs ys j).length (cellsCh (mP xs ys j))
  ap : apart c p
  mg : Mrg xs ys i j
  hi : i ≤ xs.length
  hj : j ≤ ys.length
theorem DfS.below {w wr w' : World} {xs ys : List Ed} {i j : Nat} {u v c p : Value} (h : DfS w wr xs ys i j u v c p) (hb : Below wr.heap.size wr w') : DfS w w' xs ys i j u v c p :=
  ⟨bel_trans h.bel hb, h.ra, h.oa, h.rb, h.ob, own_keep3 h.oc hb, own_keep3 h.op hb, h.ap, h.mg, h.hi, h.hj⟩
theorem cells_new4 (w : World) (p q r s : Value) (t : TypeId) : ∀ j u, [p, q, r, s][j]? = some u → ((w.alloc (.cells #[p, q, r, s] t)).drew).cell? (Addr.add ⟨w.heap.size, 0, none⟩ j) = some u :=
  World.news_of_block (w := (w.alloc (.cells #[p, q, r, s] t)).drew) (blk_alloc_new w (.cells #[p, q, r, s] t))
theorem cells_new4' (w : World) (p q r s : Value) (t : TypeId) : ∀ j u, [p, q, r, s][j]? = some u → (w.alloc (.cells #[p, q, r, s] t)).cell? (Addr.add ⟨w.heap.size, 0, none⟩ j) = some u :=
  World.news_of_block (w := w.alloc (.cells #[p, q, r, s] t)) (blk_alloc_new w (.cells #[p, q, r, s] t))
section
variable {w w1 w6 : World} {xs ys : List Ed} {i j i' j' : Nat} {u v c p u' v' : Value} {A : Obj} {g cap : Nat} {d : Ch} {nws : List Value}
theorem DfS.same (h : DfS w w1 xs ys i j u v c p) (hm : Mrg xs ys i' j') (hC : mC xs ys i' = mC xs ys i) (hP : mP xs ys j' = mP xs ys j) (hi : i' ≤ xs.length) (hj : j' ≤ ys.length)
    (hra : RowE w u' (xs.drop i')) (hka : okS u') (hrb : RowE w v' (ys.drop j')) (hkb : okS v') : DfS w w1 xs ys i' j' u' v' c p :=
  ⟨h.bel, hra, hka, hrb, hkb, by rw [hC]; exact h.oc, by rw [hP]; exact h.op, h.ap, hm, hi, hj⟩
theorem DfS.growC (h : DfS w w1 xs ys i j u v c p) (hm : Mrg xs ys i' j') (hC : mC xs ys i' = mC xs ys i ++ [d]) (hP : mP xs ys j' = mP xs ys j) (hi : i' ≤ xs.length) (hj : j' ≤ ys.length)
    (hra : RowE w u' (xs.drop i')) (hka : okS u') (hrb : RowE w v' (ys.drop j')) (hkb : okS v') (hn : nws = cellsCh [d]) {n5 : Nat} (hn5 : (mC xs ys i).length = n5)
    (hown : w6.ownsRow w.heap.size 51 4 (.slice (some ⟨g, 0, none⟩) (n5 + 1) cap) (n5 + 1) (cellsCh (mC xs ys i) ++ nws))
    (hg : World.grownBy ((w1.alloc A).drew) w6 c.ownBlock) (hat : c.ownBlock = some g ∨ g = w1.heap.size + 1) : DfS w w6 xs ys i' j' u' v' (.slice (some ⟨g, 0, none⟩) (n5 + 1) cap) p := by
  subst hn5
  have hs := h.bel.size
  have hl : (mC xs ys i').length = (mC xs ys i).length + 1 := by rw [hC]; simp
  refine ⟨(((h.bel.alloc hs _).drew).grown hg (by simp; omega) (fun q hq => (h.oc.lt q hq).1)), hra, hka, hrb, hkb, ?_, ?_, apart_next h.ap hat h.op (by omega), hm, hi, hj⟩
  · rw [hl, hC, cellsCh_app, ← hn]; exact hown
  · rw [hP]; exact own_other (own_drew (h.op.alloc A)) hg (fun k hk e => h.ap k e hk)
theorem DfS.growP (h : DfS w w1 xs ys i j u v c p) (hm : Mrg xs ys i' j') (hC : mC xs ys i' = mC xs ys i) (hP : mP xs ys j' = mP xs ys j ++ [d]) (hi : i' ≤ xs.length) (hj : j' ≤ ys.length)
    (hra : RowE w u' (xs.drop i')) (hka : okS u') (hrb : RowE w v' (ys.drop j')) (hkb : okS v') (hn : nws = cellsCh [d]) {n5 : Nat} (hn5 : (mP xs ys j).length = n5)
    (hown : w6.ownsRow w.heap.size 51 4 (.slice (some ⟨g, 0, none⟩) (n5 + 1) cap) (n5 + 1) (cellsCh (mP xs ys j) ++ nws))
    (hg : World.grownBy (w1.alloc A) w6 p.ownBlock) (hat : p.ownBlock = some g ∨ g = w1.heap.size + 1) : DfS w w6 xs ys i' j' u' v' c (.slice (some ⟨g, 0, none⟩) (n5 + 1) cap) := by
  subst hn5
  have hs := h.bel.size
  have hl : (mP xs ys j').length = (mP xs ys j).length + 1 := by rw [hP]; simp
  refine ⟨((h.bel.alloc hs _).grown hg (by simp; omega) (fun q hq => (h.op.lt q hq).1)), hra, hka, hrb, hkb, ?_, ?_, apart_symm (apart_next (apart_symm h.ap) hat h.oc (by omega)), hm, hi, hj⟩
  · rw [hC]; exact own_other (h.oc.alloc A) hg (fun k hk e => h.ap k hk e)
  · rw [hl, hP, cellsCh_app, ← hn]; exact hown
end
/-- How long is a slice? -/
def lenV (v : Value) : Nat := match v with | .slice _ n _ => n | _ => 0
theorem rowE_lenV {w : World} {v : Value} {es : List Ed} (h : RowE w v es) : lenV v = es.length := by
  obtain ⟨a, c, rfl, _⟩ := h
  rfl

set_option maxRecDepth 20000 in
set_option maxHeartbeats 8000000 in
theorem diffEdges (n m : Int) (xs ys : List Ed) (s t : Value) (w : World) (hs : RowE w s xs) (ht : RowE w t ys) (hok : okS s) (hok2 : okS t) (ha : gVal n xs = true) (hb : gVal m ys = true) :
    Calls Try.prog 53 #[s, t] w fun e w' => ∃ v, e = .returned v ∧ OwnCh w w' v (dfL xs ys) ∧ okS v ∧ Below w.heap.size w w' := by
  have hxl := (gVal_iff.1 ha).1.2.2
  have hyl := (gVal_iff.1 hb).1.2.2
  have hst : DfS w w xs ys 0 0 s t (.slice none 0 0) (.slice none 0 0) := ⟨Below.refl _ _, hs, hok, ht, hok2, ⟨rfl, .inl ⟨rfl, rfl⟩⟩, ⟨by simp [mP_zero, cellsCh_len], .inl ⟨rfl, by simp [mP_zero]⟩⟩, fun g h => by simp [Value.ownBlock] at h, Mrg.zero _ _, Nat.zero_le _, Nat.zero_le _⟩
  have HST := Lib.hid hst
  obtain ⟨i0, hi, hz0, hz1, hz2⟩ := info_parts info_change
  have HI : Hid (Try.prog.info? 51 = some i0 ∧ i0.zero = some (.agg #[.bool false, .int .i64 0, .int .i64 0, .int .i64 0]) ∧ i0.size = 4 ∧ i0.bytes = 32) := Lib.hid ⟨hi, hz0, hz1, hz2⟩
  have HVA := Lib.hid ha
  have HVB := Lib.hid hb
  obtain ⟨ad, cap, rfl, hzz⟩ := id hs
  obtain ⟨ad2, cap2, rfl, hyy⟩ := id ht
  clear hi hz0 hz1 hz2 hst hs ht hok hok2 ha hb hzz hyy
  go_enter Try.func53, Try.ntmps53
  go_wp2
  go_loopw [0, 1, 5, 6] (fun u v c p wr => ∃ i j : Nat, Hid (DfS w wr xs ys i j u v c p)) (fun u v _ _ _ => lenV u + lenV v)
  case atStart => exact ⟨0, 0, HST⟩
  case round =>
    obtain ⟨i, j, HX⟩ := hrel
    by_cases hend : xs.length ≤ i ∧ ys.length ≤ j
    · obtain ⟨va, ca, hu, -⟩ := HX.out.ra
      obtain ⟨vb, cb, hv, -⟩ := HX.out.rb
      have hA : (xs.drop i).length = 0 := by rw [List.length_drop]; omega
      have hB : (ys.drop j).length = 0 := by rw [List.length_drop]; omega
      rw [hA] at hu
      rw [hB] at hv
      subst hu hv
      obtain ⟨a5, c5, h5⟩ := own_slice HX.out.oc
      obtain ⟨a6, c6, h6⟩ := own_slice HX.out.op
      subst h5 h6
      generalize hn5 : (mC xs ys i).length = n5 at HX ⊢
      generalize hn6 : (mP xs ys j).length = n6 at HX ⊢
      have hcat : ∀ T2, Calls Try.prog 76 #[.slice (some ⟨wr.heap.size, 0, none⟩) 2 2] (wr.alloc (.cells #[.slice a5 n5 c5, .slice a6 n6 c6] T2)) fun e w' => ∃ v, e = .returned v ∧ OwnCh (wr.alloc (.cells #[.slice a5 n5 c5, .slice a6 n6 c6] T2)) w' v (dfL xs ys) ∧ okS v ∧ Below (wr.alloc (.cells #[.slice a5 n5 c5, .slice a6 n6 c6] T2)).heap.size (wr.alloc (.cells #[.slice a5 n5 c5, .slice a6 n6 c6] T2)) w' := by
        intro T2
        have h := concatCh [mC xs ys i, mP xs ys j] (fun k => if k = 0 then .slice a5 n5 c5 else .slice a6 n6 c6) wr.heap.size 2 (wr.alloc (.cells #[.slice a5 n5 c5, .slice a6 n6 c6] T2)) (by simp) (by simp) ?_ ?_
        · have e : [mC xs ys i, mP xs ys j].flatten = dfL xs ys := by
            simp only [List.flatten_cons, List.flatten_nil, List.append_nil]
            rw [mC_all hend.1, mP_all hend.2]; rfl
          rw [e] at h
          exact h
        · have e : [mC xs ys i, mP xs ys j].flatten = dfL xs ys := by
            simp only [List.flatten_cons, List.flatten_nil, List.append_nil]
            rw [mC_all hend.1, mP_all hend.2]; rfl
          rw [e]
          exact Nat.le_trans (dfL_len HVA.out HVB.out) (by omega)
        · intro k hk
          have hk2 : k = 0 ∨ k = 1 := by simp at hk; omega
          rcases hk2 with rfl | rfl
          · exact ⟨by go_simp, (OwnCh.of (w := w) (HX.out.oc.alloc _) (Nat.le_refl _)).changes, own_ok HX.out.oc⟩
          · exact ⟨by go_simp, (OwnCh.of (w := w) (HX.out.op.alloc _) (Nat.le_refl _)).changes, own_ok HX.out.op⟩
      have HCAT := Lib.hid hcat
      clear hcat hA hB hn5 hn6
      go_wp2_with (go_at_call 76; (with_reducible refine (HCAT.out _).mono ?_); rintro e w1 ⟨v1, rfl, hown1, hok1, hb1⟩; have HW1 := Lib.hid (And.intro hown1 (And.intro hok1 hb1)); clear hown1 hok1 hb1)
      go_ret
      have hb0 := HX.out.bel.alloc HX.out.bel.size (.cells #[.slice a5 n5 c5, .slice a6 n6 c6] 35)
      exact ⟨_, rfl, (HW1.out.1).wider hb0.size (Nat.le_refl _) (Nat.le_refl _), HW1.out.2.1, bel_trans hb0 HW1.out.2.2⟩
    · have hne : i < xs.length ∨ j < ys.length := by omega
      have hcmp := compareFirst (xs.drop i) (ys.drop j) u0 u1 wr (HX.out.ra.keep HX.out.bel) (HX.out.rb.keep HX.out.bel) (by rw [List.length_drop]; omega) (by rw [List.length_drop]; omega)
      have hneg := fun h => cFirst_neg (xs := xs) (ys := ys) (i := i) (j := j) h
      have hpos := fun h => cFirst_pos (xs := xs) (ys := ys) (i := i) (j := j) h
      have hzer := fun h => cFirst_zero (xs := xs) (ys := ys) (i := i) (j := j) h hne
      generalize cFirst (xs.drop i) (ys.drop j) = o at hcmp hneg hpos hzer
      have HCMP := Lib.hid hcmp
      have HNEG := Lib.hid hneg
      have HPOS := Lib.hid hpos
      have HZER := Lib.hid hzer
      clear hcmp hneg hpos hzer
      obtain ⟨hi, hz0, hz1, hz2⟩ := HI.out
      by_cases ho : o < 0
      · obtain ⟨hlt, hord⟩ := HNEG.out ho
        obtain ⟨hno, hmg⟩ := HX.out.mg.left HVA.out HVB.out hlt hord
        have hC := mC_succ (ys := ys) hlt
        rw [hno, if_neg (by decide)] at hC
        obtain ⟨b, off, c, A, hu, hA, hAc, hb, hce, hr, hk⟩ := frontE HX.out.ra HX.out.oa hlt
        obtain ⟨x, y, z, hx⟩ : ∃ x y z, (x, y, z) = xs.getD i (0, 0, 0) := ⟨_, _, _, rfl⟩
        rw [← hx] at hce hC
        simp only at hce
        subst hu
        obtain ⟨a5, c5, h5⟩ := own_slice HX.out.oc
        subst h5
        have HC := Lib.hid hC
        have HMG := Lib.hid hmg
        have HLT := Lib.hid hlt
        have HR := Lib.hid hr
        have HK := Lib.hid hk
        have pA : (0 : Int) < A := by omega
        have pA1 : (1 : Int) ≤ A := by omega
        have pAc : (A : Int) ≤ c := by omega
        have ho1 : ¬ (0 < o) := by omega
        have ho2 : o ≤ 0 := by omega
        have ho3 : ¬ (0 ≤ o) := by omega
        have hln : (mC xs ys i).length ≤ 40 := Nat.le_trans (dfC_len _ _) (by simp; omega)
        generalize hn5 : (mC xs ys i).length = n5 at HX hln ⊢
        have pAn : 0 < A := by omega
        have HN5 := Lib.hid hn5
        have ff : ∀ w', Below wr.heap.size wr w' → w'.cell? ⟨b, off, none⟩ = some (.int .i64 x) ∧ w'.cell? ⟨b, off + 1, none⟩ = some (.int .i64 y) ∧ w'.cell? ⟨b, off + 2, none⟩ = some (.int .i64 z) := fun w' h =>
          ⟨((bel_trans HX.out.bel h).cell (p := ⟨b, _, none⟩) hb).trans hce.1, ((bel_trans HX.out.bel h).cell (p := ⟨b, _, none⟩) hb).trans hce.2.1, ((bel_trans HX.out.bel h).cell (p := ⟨b, _, none⟩) hb).trans hce.2.2⟩
        have FF := Lib.hid ff
        clear hno hord hC hmg hr hk hx hce hA ff hn5 hlt
        by_cases hc : c = 1
        · have hr2c := HR.out
          have hk2c := HK.out
          unfold dropV at hr2c hk2c
          rw [if_pos hc, show A - 1 = 0 by omega] at hr2c hk2c
          have HR2c := Lib.hid hr2c
          have HK2c := Lib.hid hk2c
          clear hr2c hk2c
          subst hc
          go_wp2_with (go_at_call 75; (with_reducible refine HCMP.out.mono ?_); rintro e w1 ⟨rfl, hb1⟩; obtain ⟨d0, d1, d2⟩ := FF.out _ hb1; have HX1 := Lib.hid (HX.out.below hb1); have hlt1 : b < w1.heap.size := Nat.lt_of_lt_of_le hb HX1.out.bel.size; have hoc1 := HX1.out.oc; rw [HN5.out] at hoc1; have HO1 := Lib.hid hoc1; clear hb1 hoc1)
          have hw1 := HX1.out.bel.size
          go_region_law (first | (refine step_append_lies _ rfl (.tmp 21) (.tmp 32) 35 rfl w.heap.size 51 i0 (.agg #[.bool false, .int .i64 0, .int .i64 0, .int .i64 0]) 4 32 Try.underlying35 hi hz0 hz1 hz2 rfl (by decide) _ _ _ rfl (own_drew (HO1.out.alloc _)) ⟨w1.heap.size, 0, none⟩ 1 1 [.bool true, .int .i64 x, .int .i64 y, .int .i64 0] rfl rfl (cells_new4 _ _ _ _ _ _) (by simp [Value.oneCell']) (by decide) (by unfold maxLen; omega) (by omega) (by simp; omega) (w1.heap.size + 1) (by simp) ?_; intro g cap6 w6 hown6 hgrow6 hat6 hlt6; have H6 := Lib.hid (And.intro hown6 (And.intro hgrow6 hat6)); clear hown6 hgrow6 hat6))
          all_goals
            have H9 := Lib.hid (HX1.out.growC HMG.out HC.out rfl (by have := HLT.out; omega) HX1.out.hj HR2c.out HK2c.out HX1.out.rb HX1.out.ob (cellsCh_one1 true x y 0).symm HN5.out H6.out.1 H6.out.2.1 H6.out.2.2)
            clear HR2c HK2c
            go_wp2
          all_goals exact ⟨⟨i + 1, j, H9⟩, by simp only [lenV]; omega⟩
        · have hr2c := HR.out
          have hk2c := HK.out
          unfold dropV at hr2c hk2c
          rw [if_neg hc] at hr2c hk2c
          have HR2c := Lib.hid hr2c
          have HK2c := Lib.hid hk2c
          clear hr2c hk2c
          go_wp2_with (go_at_call 75; (with_reducible refine HCMP.out.mono ?_); rintro e w1 ⟨rfl, hb1⟩; obtain ⟨d0, d1, d2⟩ := FF.out _ hb1; have HX1 := Lib.hid (HX.out.below hb1); have hlt1 : b < w1.heap.size := Nat.lt_of_lt_of_le hb HX1.out.bel.size; have hoc1 := HX1.out.oc; rw [HN5.out] at hoc1; have HO1 := Lib.hid hoc1; clear hb1 hoc1)
          have hw1 := HX1.out.bel.size
          go_region_law (first | (refine step_append_lies _ rfl (.tmp 21) (.tmp 32) 35 rfl w.heap.size 51 i0 (.agg #[.bool false, .int .i64 0, .int .i64 0, .int .i64 0]) 4 32 Try.underlying35 hi hz0 hz1 hz2 rfl (by decide) _ _ _ rfl (own_drew (HO1.out.alloc _)) ⟨w1.heap.size, 0, none⟩ 1 1 [.bool true, .int .i64 x, .int .i64 y, .int .i64 0] rfl rfl (cells_new4 _ _ _ _ _ _) (by simp [Value.oneCell']) (by decide) (by unfold maxLen; omega) (by omega) (by simp; omega) (w1.heap.size + 1) (by simp) ?_; intro g cap6 w6 hown6 hgrow6 hat6 hlt6; have H6 := Lib.hid (And.intro hown6 (And.intro hgrow6 hat6)); clear hown6 hgrow6 hat6))
          all_goals
            have H9 := Lib.hid (HX1.out.growC HMG.out HC.out rfl (by have := HLT.out; omega) HX1.out.hj HR2c.out HK2c.out HX1.out.rb HX1.out.ob (cellsCh_one1 true x y 0).symm HN5.out H6.out.1 H6.out.2.1 H6.out.2.2)
            clear HR2c HK2c
            go_wp2
          all_goals exact ⟨⟨i + 1, j, H9⟩, by simp only [lenV]; omega⟩
      by_cases hp : 0 < o
      · obtain ⟨hlt, hord⟩ := HPOS.out hp
        obtain ⟨hno, hmg⟩ := HX.out.mg.right HVA.out HVB.out hlt hord
        have hP := mP_succ (xs := xs) hlt
        rw [hno, if_neg (by decide)] at hP
        obtain ⟨va, ca, hu, -⟩ := HX.out.ra
        generalize (xs.drop i).length = A at hu
        subst hu
        obtain ⟨b2, off2, c2, B2, hv, hB2, hBc, hb2, hce, hr, hk⟩ := frontE HX.out.rb HX.out.ob hlt
        obtain ⟨p, q, r, hx⟩ : ∃ x y z, (x, y, z) = ys.getD j (0, 0, 0) := ⟨_, _, _, rfl⟩
        rw [← hx] at hce hP
        simp only at hce
        subst hv
        obtain ⟨a6, c6, h6⟩ := own_slice HX.out.op
        subst h6
        have HP := Lib.hid hP
        have HMG := Lib.hid hmg
        have HLT := Lib.hid hlt
        have HR := Lib.hid hr
        have HK := Lib.hid hk
        have pB : (0 : Int) < B2 := by omega
        have pB1 : (1 : Int) ≤ B2 := by omega
        have pBc : (B2 : Int) ≤ c2 := by omega
        have ho1 : ¬ (o < 0) := by omega
        have ho2 : ¬ (o ≤ 0) := by omega
        have ho3 : 0 ≤ o := by omega
        have hln : (mP xs ys j).length ≤ 40 := Nat.le_trans (dfP_len _ _) (by simp; omega)
        generalize hn6 : (mP xs ys j).length = n6 at HX hln ⊢
        have pBn : 0 < B2 := by omega
        have HN6 := Lib.hid hn6
        have ff : ∀ w', Below w.heap.size w w' → w'.cell? ⟨b2, off2, none⟩ = some (.int .i64 p) ∧ w'.cell? ⟨b2, off2 + 1, none⟩ = some (.int .i64 q) ∧ w'.cell? ⟨b2, off2 + 2, none⟩ = some (.int .i64 r) := fun w' h =>
          ⟨(h.cell (p := ⟨b2, _, none⟩) hb2).trans hce.1, (h.cell (p := ⟨b2, _, none⟩) hb2).trans hce.2.1, (h.cell (p := ⟨b2, _, none⟩) hb2).trans hce.2.2⟩
        have FFY := Lib.hid ff
        clear hno hord hP hmg hr hk hx hce hB2 ff hn6 hlt
        by_cases hc2 : c2 = 1
        · have hr2c2 := HR.out
          have hk2c2 := HK.out
          unfold dropV at hr2c2 hk2c2
          rw [if_pos hc2, show B2 - 1 = 0 by omega] at hr2c2 hk2c2
          have HR2c2 := Lib.hid hr2c2
          have HK2c2 := Lib.hid hk2c2
          clear hr2c2 hk2c2
          subst hc2
          by_cases pA : (0 : Int) < A
          · have pAn : 0 < A := by omega
            go_wp2_with (go_at_call 75; (with_reducible refine HCMP.out.mono ?_); rintro e w1 ⟨rfl, hb1⟩;  have HX1 := Lib.hid (HX.out.below hb1);  clear hb1)
            refine wp_region_below (by kernel_rfl) (by kernel_rfl) ?_
            repeat (go_big_quiet_step ((intro hw; first | with_reducible rfl | (fail; first | exact ⟨trivial, rfl⟩ | exact ⟨rfl, rfl⟩))))
            refine wpQuiet_nil ?_
            intro w2 hw2
            have HX2 := Lib.hid (HX1.out.below hw2)
            obtain ⟨e0, e1, e2⟩ := FFY.out _ HX2.out.bel
            have hlt2 : b2 < w2.heap.size := Nat.lt_of_lt_of_le hb2 HX2.out.bel.size
            have hop2 := HX2.out.op
            rw [HN6.out] at hop2
            have HO2 := Lib.hid hop2
            have hw2s := HX2.out.bel.size
            clear hop2 hw2
            go_wp2_with (at_builtin; refine wpList_append_lies _ rfl (.tmp 47) (.tmp 52) 35 rfl w.heap.size 51 i0 (.agg #[.bool false, .int .i64 0, .int .i64 0, .int .i64 0]) 4 32 Try.underlying35 hi hz0 hz1 hz2 rfl (by decide) _ _ _ rfl (HO2.out.alloc _) ⟨w2.heap.size, 0, none⟩ 1 1 [.bool false, .int .i64 p, .int .i64 q, .int .i64 r] rfl rfl (cells_new4' _ _ _ _ _ _) (by simp [Value.oneCell']) (by decide) (by unfold maxLen; omega) (by omega) (by simp; omega) (w2.heap.size + 1) (by simp) ?_; intro g cap6 w6 hown6 hgrow6 hat6 hlt6; have H6 := Lib.hid (And.intro hown6 (And.intro hgrow6 hat6)); clear hown6 hgrow6 hat6)
            have H9 := Lib.hid (HX2.out.growP HMG.out rfl HP.out HX2.out.hi (by have := HLT.out; omega) HX2.out.ra HX2.out.oa HR2c2.out HK2c2.out (cellsCh_one1 false p q r).symm HN6.out H6.out.1 H6.out.2.1 H6.out.2.2)
            clear HR2c2 HK2c2
            go_wp2
            exact ⟨⟨i, j + 1, H9⟩, by simp only [lenV]; omega⟩
          · have pAn : A = 0 := by omega
            subst pAn
            go_wp2_with (go_at_call 75; (with_reducible refine HCMP.out.mono ?_); rintro e w1 ⟨rfl, hb1⟩;  have HX1 := Lib.hid (HX.out.below hb1);  clear hb1)
            refine wp_region_below (by kernel_rfl) (by kernel_rfl) ?_
            repeat (go_big_quiet_step ((intro hw; first | with_reducible rfl | (fail; first | exact ⟨trivial, rfl⟩ | exact ⟨rfl, rfl⟩))))
            refine wpQuiet_nil ?_
            intro w2 hw2
            have HX2 := Lib.hid (HX1.out.below hw2)
            obtain ⟨e0, e1, e2⟩ := FFY.out _ HX2.out.bel
            have hlt2 : b2 < w2.heap.size := Nat.lt_of_lt_of_le hb2 HX2.out.bel.size
            have hop2 := HX2.out.op
            rw [HN6.out] at hop2
            have HO2 := Lib.hid hop2
            have hw2s := HX2.out.bel.size
            clear hop2 hw2
            go_wp2_with (at_builtin; refine wpList_append_lies _ rfl (.tmp 47) (.tmp 52) 35 rfl w.heap.size 51 i0 (.agg #[.bool false, .int .i64 0, .int .i64 0, .int .i64 0]) 4 32 Try.underlying35 hi hz0 hz1 hz2 rfl (by decide) _ _ _ rfl (HO2.out.alloc _) ⟨w2.heap.size, 0, none⟩ 1 1 [.bool false, .int .i64 p, .int .i64 q, .int .i64 r] rfl rfl (cells_new4' _ _ _ _ _ _) (by simp [Value.oneCell']) (by decide) (by unfold maxLen; omega) (by omega) (by simp; omega) (w2.heap.size + 1) (by simp) ?_; intro g cap6 w6 hown6 hgrow6 hat6 hlt6; have H6 := Lib.hid (And.intro hown6 (And.intro hgrow6 hat6)); clear hown6 hgrow6 hat6)
            have H9 := Lib.hid (HX2.out.growP HMG.out rfl HP.out HX2.out.hi (by have := HLT.out; omega) HX2.out.ra HX2.out.oa HR2c2.out HK2c2.out (cellsCh_one1 false p q r).symm HN6.out H6.out.1 H6.out.2.1 H6.out.2.2)
            clear HR2c2 HK2c2
            go_wp2
            exact ⟨⟨i, j + 1, H9⟩, by simp only [lenV]; omega⟩
        · have hr2c2 := HR.out
          have hk2c2 := HK.out
          unfold dropV at hr2c2 hk2c2
          rw [if_neg hc2] at hr2c2 hk2c2
          have HR2c2 := Lib.hid hr2c2
          have HK2c2 := Lib.hid hk2c2
          clear hr2c2 hk2c2
          by_cases pA : (0 : Int) < A
          · have pAn : 0 < A := by omega
            go_wp2_with (go_at_call 75; (with_reducible refine HCMP.out.mono ?_); rintro e w1 ⟨rfl, hb1⟩;  have HX1 := Lib.hid (HX.out.below hb1);  clear hb1)
            refine wp_region_below (by kernel_rfl) (by kernel_rfl) ?_
            repeat (go_big_quiet_step ((intro hw; first | with_reducible rfl | (fail; first | exact ⟨trivial, rfl⟩ | exact ⟨rfl, rfl⟩))))
            refine wpQuiet_nil ?_
            intro w2 hw2
            have HX2 := Lib.hid (HX1.out.below hw2)
            obtain ⟨e0, e1, e2⟩ := FFY.out _ HX2.out.bel
            have hlt2 : b2 < w2.heap.size := Nat.lt_of_lt_of_le hb2 HX2.out.bel.size
            have hop2 := HX2.out.op
            rw [HN6.out] at hop2
            have HO2 := Lib.hid hop2
            have hw2s := HX2.out.bel.size
            clear hop2 hw2
            go_wp2_with (at_builtin; refine wpList_append_lies _ rfl (.tmp 47) (.tmp 52) 35 rfl w.heap.size 51 i0 (.agg #[.bool false, .int .i64 0, .int .i64 0, .int .i64 0]) 4 32 Try.underlying35 hi hz0 hz1 hz2 rfl (by decide) _ _ _ rfl (HO2.out.alloc _) ⟨w2.heap.size, 0, none⟩ 1 1 [.bool false, .int .i64 p, .int .i64 q, .int .i64 r] rfl rfl (cells_new4' _ _ _ _ _ _) (by simp [Value.oneCell']) (by decide) (by unfold maxLen; omega) (by omega) (by simp; omega) (w2.heap.size + 1) (by simp) ?_; intro g cap6 w6 hown6 hgrow6 hat6 hlt6; have H6 := Lib.hid (And.intro hown6 (And.intro hgrow6 hat6)); clear hown6 hgrow6 hat6)
            have H9 := Lib.hid (HX2.out.growP HMG.out rfl HP.out HX2.out.hi (by have := HLT.out; omega) HX2.out.ra HX2.out.oa HR2c2.out HK2c2.out (cellsCh_one1 false p q r).symm HN6.out H6.out.1 H6.out.2.1 H6.out.2.2)
            clear HR2c2 HK2c2
            go_wp2
            exact ⟨⟨i, j + 1, H9⟩, by simp only [lenV]; omega⟩
          · have pAn : A = 0 := by omega
            subst pAn
            go_wp2_with (go_at_call 75; (with_reducible refine HCMP.out.mono ?_); rintro e w1 ⟨rfl, hb1⟩;  have HX1 := Lib.hid (HX.out.below hb1);  clear hb1)
            refine wp_region_below (by kernel_rfl) (by kernel_rfl) ?_
            repeat (go_big_quiet_step ((intro hw; first | with_reducible rfl | (fail; first | exact ⟨trivial, rfl⟩ | exact ⟨rfl, rfl⟩))))
            refine wpQuiet_nil ?_
            intro w2 hw2
            have HX2 := Lib.hid (HX1.out.below hw2)
            obtain ⟨e0, e1, e2⟩ := FFY.out _ HX2.out.bel
            have hlt2 : b2 < w2.heap.size := Nat.lt_of_lt_of_le hb2 HX2.out.bel.size
            have hop2 := HX2.out.op
            rw [HN6.out] at hop2
            have HO2 := Lib.hid hop2
            have hw2s := HX2.out.bel.size
            clear hop2 hw2
            go_wp2_with (at_builtin; refine wpList_append_lies _ rfl (.tmp 47) (.tmp 52) 35 rfl w.heap.size 51 i0 (.agg #[.bool false, .int .i64 0, .int .i64 0, .int .i64 0]) 4 32 Try.underlying35 hi hz0 hz1 hz2 rfl (by decide) _ _ _ rfl (HO2.out.alloc _) ⟨w2.heap.size, 0, none⟩ 1 1 [.bool false, .int .i64 p, .int .i64 q, .int .i64 r] rfl rfl (cells_new4' _ _ _ _ _ _) (by simp [Value.oneCell']) (by decide) (by unfold maxLen; omega) (by omega) (by simp; omega) (w2.heap.size + 1) (by simp) ?_; intro g cap6 w6 hown6 hgrow6 hat6 hlt6; have H6 := Lib.hid (And.intro hown6 (And.intro hgrow6 hat6)); clear hown6 hgrow6 hat6)
            have H9 := Lib.hid (HX2.out.growP HMG.out rfl HP.out HX2.out.hi (by have := HLT.out; omega) HX2.out.ra HX2.out.oa HR2c2.out HK2c2.out (cellsCh_one1 false p q r).symm HN6.out H6.out.1 H6.out.2.1 H6.out.2.2)
            clear HR2c2 HK2c2
            go_wp2
            exact ⟨⟨i, j + 1, H9⟩, by simp only [lenV]; omega⟩
      · have h0 : o = 0 := by omega
        obtain ⟨hltx, hlt, he1, he2⟩ := HZER.out h0
        subst h0
        obtain ⟨hno, hise, hmg⟩ := HX.out.mg.both HVA.out HVB.out hltx hlt he1 he2
        have hC := mC_succ (ys := ys) hltx
        rw [hno, if_pos rfl, List.append_nil] at hC
        have hP := mP_succ (xs := xs) hlt
        rw [hise] at hP
        obtain ⟨b, off, c, A, hu, hA, hAc, hb, hcx, hr, hk⟩ := frontE HX.out.ra HX.out.oa hltx
        obtain ⟨b2, off2, c2, B2, hv, hB2, hBc, hb2, hce, hry, hky⟩ := frontE HX.out.rb HX.out.ob hlt
        obtain ⟨p, q, r, hx⟩ : ∃ x y z, (x, y, z) = ys.getD j (0, 0, 0) := ⟨_, _, _, rfl⟩
        obtain ⟨z, hzz⟩ : ∃ z, z = (xs.getD i (0, 0, 0)).2.2 := ⟨_, rfl⟩
        rw [← hx] at hce hP
        rw [← hzz] at hcx hP
        simp only at hce hP
        subst hu hv
        obtain ⟨a6, c6, h6⟩ := own_slice HX.out.op
        subst h6
        have HC := Lib.hid hC
        have HMG := Lib.hid hmg
        have HLT := Lib.hid hlt
        have HLTX := Lib.hid hltx
        have HR := Lib.hid hr
        have HK := Lib.hid hk
        have HRY := Lib.hid hry
        have HKY := Lib.hid hky
        have pA : (0 : Int) < A := by omega
        have pAn : 0 < A := by omega
        have pA1 : (1 : Int) ≤ A := by omega
        have pAc : (A : Int) ≤ c := by omega
        have pB : (0 : Int) < B2 := by omega
        have pB1 : (1 : Int) ≤ B2 := by omega
        have pBc : (B2 : Int) ≤ c2 := by omega
        have hln : (mP xs ys j).length ≤ 40 := Nat.le_trans (dfP_len _ _) (by simp; omega)
        generalize hn6 : (mP xs ys j).length = n6 at HX hln ⊢
        have pBn : 0 < B2 := by omega
        have HN6 := Lib.hid hn6
        have ffx : ∀ w', Below w.heap.size w w' → w'.cell? ⟨b, off + 2, none⟩ = some (.int .i64 z) := fun w' h => (h.cell (p := ⟨b, _, none⟩) hb).trans hcx.2.2
        have ff : ∀ w', Below w.heap.size w w' → w'.cell? ⟨b2, off2, none⟩ = some (.int .i64 p) ∧ w'.cell? ⟨b2, off2 + 1, none⟩ = some (.int .i64 q) ∧ w'.cell? ⟨b2, off2 + 2, none⟩ = some (.int .i64 r) := fun w' h =>
          ⟨(h.cell (p := ⟨b2, _, none⟩) hb2).trans hce.1, (h.cell (p := ⟨b2, _, none⟩) hb2).trans hce.2.1, (h.cell (p := ⟨b2, _, none⟩) hb2).trans hce.2.2⟩
        have FFX := Lib.hid ffx
        have FFY := Lib.hid ff
        clear hno hise hC hmg hr hk hry hky hx hce hcx hB2 hA ff ffx hn6 hlt hltx he1 he2 hzz
        by_cases hzr : z = r
        · rw [decide_eq_true hzr, if_pos rfl, List.append_nil] at hP
          have HP := Lib.hid hP
          have z1 : (z == r) = true := by simpa using hzr
          have z2 : (z != r) = false := by simpa using hzr
          clear hP
          by_cases hc : c = 1
          · have hr2c := HR.out
            have hk2c := HK.out
            unfold dropV at hr2c hk2c
            rw [if_pos hc, show A - 1 = 0 by omega] at hr2c hk2c
            have HR2c := Lib.hid hr2c
            have HK2c := Lib.hid hk2c
            clear hr2c hk2c
            subst hc
            by_cases hc2 : c2 = 1
            · have hr2c2 := HRY.out
              have hk2c2 := HKY.out
              unfold dropV at hr2c2 hk2c2
              rw [if_pos hc2, show B2 - 1 = 0 by omega] at hr2c2 hk2c2
              have HR2c2 := Lib.hid hr2c2
              have HK2c2 := Lib.hid hk2c2
              clear hr2c2 hk2c2
              subst hc2
              go_wp2_with (go_at_call 75; (with_reducible refine HCMP.out.mono ?_); rintro e w1 ⟨rfl, hb1⟩;  have HX1 := Lib.hid (HX.out.below hb1);  clear hb1)
              refine wp_region_below (by kernel_rfl) (by kernel_rfl) ?_
              repeat (go_big_quiet_step ((intro hw; first | with_reducible rfl | (have d2 := FFX.out _ (bel_trans HX1.out.bel hw); have e2 := (FFY.out _ (bel_trans HX1.out.bel hw)).2.2; simp only [d2, e2, Result.andThen]; first | exact ⟨trivial, rfl⟩ | exact ⟨rfl, rfl⟩))))
              refine wpQuiet_nil ?_
              intro w2 hw2
              have HX2 := Lib.hid (HX1.out.below hw2)
              obtain ⟨e0, e1, e2⟩ := FFY.out _ HX2.out.bel
              have hlt2 : b2 < w2.heap.size := Nat.lt_of_lt_of_le hb2 HX2.out.bel.size
              have hw2s := HX2.out.bel.size
              clear hw2
              have h9 := HX2.out.same HMG.out HC.out HP.out (by have := HLTX.out; omega) (by have := HLT.out; omega) HR2c.out HK2c.out HR2c2.out HK2c2.out
              have H9 := Lib.hid h9
              clear h9
              clear HR2c2 HK2c2 HR2c HK2c
              go_wp2
              exact ⟨⟨i + 1, j + 1, H9⟩, by simp only [lenV]; omega⟩
            · have hr2c2 := HRY.out
              have hk2c2 := HKY.out
              unfold dropV at hr2c2 hk2c2
              rw [if_neg hc2] at hr2c2 hk2c2
              have HR2c2 := Lib.hid hr2c2
              have HK2c2 := Lib.hid hk2c2
              clear hr2c2 hk2c2
              go_wp2_with (go_at_call 75; (with_reducible refine HCMP.out.mono ?_); rintro e w1 ⟨rfl, hb1⟩;  have HX1 := Lib.hid (HX.out.below hb1);  clear hb1)
              refine wp_region_below (by kernel_rfl) (by kernel_rfl) ?_
              repeat (go_big_quiet_step ((intro hw; first | with_reducible rfl | (have d2 := FFX.out _ (bel_trans HX1.out.bel hw); have e2 := (FFY.out _ (bel_trans HX1.out.bel hw)).2.2; simp only [d2, e2, Result.andThen]; first | exact ⟨trivial, rfl⟩ | exact ⟨rfl, rfl⟩))))
              refine wpQuiet_nil ?_
              intro w2 hw2
              have HX2 := Lib.hid (HX1.out.below hw2)
              obtain ⟨e0, e1, e2⟩ := FFY.out _ HX2.out.bel
              have hlt2 : b2 < w2.heap.size := Nat.lt_of_lt_of_le hb2 HX2.out.bel.size
              have hw2s := HX2.out.bel.size
              clear hw2
              have h9 := HX2.out.same HMG.out HC.out HP.out (by have := HLTX.out; omega) (by have := HLT.out; omega) HR2c.out HK2c.out HR2c2.out HK2c2.out
              have H9 := Lib.hid h9
              clear h9
              clear HR2c2 HK2c2 HR2c HK2c
              go_wp2
              exact ⟨⟨i + 1, j + 1, H9⟩, by simp only [lenV]; omega⟩
          · have hr2c := HR.out
            have hk2c := HK.out
            unfold dropV at hr2c hk2c
            rw [if_neg hc] at hr2c hk2c
            have HR2c := Lib.hid hr2c
            have HK2c := Lib.hid hk2c
            clear hr2c hk2c
            by_cases hc2 : c2 = 1
            · have hr2c2 := HRY.out
              have hk2c2 := HKY.out
              unfold dropV at hr2c2 hk2c2
              rw [if_pos hc2, show B2 - 1 = 0 by omega] at hr2c2 hk2c2
              have HR2c2 := Lib.hid hr2c2
              have HK2c2 := Lib.hid hk2c2
              clear hr2c2 hk2c2
              subst hc2
              go_wp2_with (go_at_call 75; (with_reducible refine HCMP.out.mono ?_); rintro e w1 ⟨rfl, hb1⟩;  have HX1 := Lib.hid (HX.out.below hb1);  clear hb1)
              refine wp_region_below (by kernel_rfl) (by kernel_rfl) ?_
              repeat (go_big_quiet_step ((intro hw; first | with_reducible rfl | (have d2 := FFX.out _ (bel_trans HX1.out.bel hw); have e2 := (FFY.out _ (bel_trans HX1.out.bel hw)).2.2; simp only [d2, e2, Result.andThen]; first | exact ⟨trivial, rfl⟩ | exact ⟨rfl, rfl⟩))))
              refine wpQuiet_nil ?_
              intro w2 hw2
              have HX2 := Lib.hid (HX1.out.below hw2)
              obtain ⟨e0, e1, e2⟩ := FFY.out _ HX2.out.bel
              have hlt2 : b2 < w2.heap.size := Nat.lt_of_lt_of_le hb2 HX2.out.bel.size
              have hw2s := HX2.out.bel.size
              clear hw2
              have h9 := HX2.out.same HMG.out HC.out HP.out (by have := HLTX.out; omega) (by have := HLT.out; omega) HR2c.out HK2c.out HR2c2.out HK2c2.out
              have H9 := Lib.hid h9
              clear h9
              clear HR2c2 HK2c2 HR2c HK2c
              go_wp2
              exact ⟨⟨i + 1, j + 1, H9⟩, by simp only [lenV]; omega⟩
            · have hr2c2 := HRY.out
              have hk2c2 := HKY.out
              unfold dropV at hr2c2 hk2c2
              rw [if_neg hc2] at hr2c2 hk2c2
              have HR2c2 := Lib.hid hr2c2
              have HK2c2 := Lib.hid hk2c2
              clear hr2c2 hk2c2
              go_wp2_with (go_at_call 75; (with_reducible refine HCMP.out.mono ?_); rintro e w1 ⟨rfl, hb1⟩;  have HX1 := Lib.hid (HX.out.below hb1);  clear hb1)
              refine wp_region_below (by kernel_rfl) (by kernel_rfl) ?_
              repeat (go_big_quiet_step ((intro hw; first | with_reducible rfl | (have d2 := FFX.out _ (bel_trans HX1.out.bel hw); have e2 := (FFY.out _ (bel_trans HX1.out.bel hw)).2.2; simp only [d2, e2, Result.andThen]; first | exact ⟨trivial, rfl⟩ | exact ⟨rfl, rfl⟩))))
              refine wpQuiet_nil ?_
              intro w2 hw2
              have HX2 := Lib.hid (HX1.out.below hw2)
              obtain ⟨e0, e1, e2⟩ := FFY.out _ HX2.out.bel
              have hlt2 : b2 < w2.heap.size := Nat.lt_of_lt_of_le hb2 HX2.out.bel.size
              have hw2s := HX2.out.bel.size
              clear hw2
              have h9 := HX2.out.same HMG.out HC.out HP.out (by have := HLTX.out; omega) (by have := HLT.out; omega) HR2c.out HK2c.out HR2c2.out HK2c2.out
              have H9 := Lib.hid h9
              clear h9
              clear HR2c2 HK2c2 HR2c HK2c
              go_wp2
              exact ⟨⟨i + 1, j + 1, H9⟩, by simp only [lenV]; omega⟩
        · rw [decide_eq_false hzr, if_neg (by decide)] at hP
          have HP := Lib.hid hP
          have z1 : (z == r) = false := by simpa using hzr
          have z2 : (z != r) = true := by simpa using hzr
          clear hP
          by_cases hc : c = 1
          · have hr2c := HR.out
            have hk2c := HK.out
            unfold dropV at hr2c hk2c
            rw [if_pos hc, show A - 1 = 0 by omega] at hr2c hk2c
            have HR2c := Lib.hid hr2c
            have HK2c := Lib.hid hk2c
            clear hr2c hk2c
            subst hc
            by_cases hc2 : c2 = 1
            · have hr2c2 := HRY.out
              have hk2c2 := HKY.out
              unfold dropV at hr2c2 hk2c2
              rw [if_pos hc2, show B2 - 1 = 0 by omega] at hr2c2 hk2c2
              have HR2c2 := Lib.hid hr2c2
              have HK2c2 := Lib.hid hk2c2
              clear hr2c2 hk2c2
              subst hc2
              go_wp2_with (go_at_call 75; (with_reducible refine HCMP.out.mono ?_); rintro e w1 ⟨rfl, hb1⟩;  have HX1 := Lib.hid (HX.out.below hb1);  clear hb1)
              refine wp_region_below (by kernel_rfl) (by kernel_rfl) ?_
              repeat (go_big_quiet_step ((intro hw; first | with_reducible rfl | (have d2 := FFX.out _ (bel_trans HX1.out.bel hw); have e2 := (FFY.out _ (bel_trans HX1.out.bel hw)).2.2; simp only [d2, e2, Result.andThen]; first | exact ⟨trivial, rfl⟩ | exact ⟨rfl, rfl⟩))))
              refine wpQuiet_nil ?_
              intro w2 hw2
              have HX2 := Lib.hid (HX1.out.below hw2)
              obtain ⟨e0, e1, e2⟩ := FFY.out _ HX2.out.bel
              have hlt2 : b2 < w2.heap.size := Nat.lt_of_lt_of_le hb2 HX2.out.bel.size
              have hw2s := HX2.out.bel.size
              clear hw2
              have hop2 := HX2.out.op
              rw [HN6.out] at hop2
              have HO2 := Lib.hid hop2
              clear hop2
              go_wp2_with (at_builtin; refine wpList_append_lies _ rfl (.tmp 47) (.tmp 52) 35 rfl w.heap.size 51 i0 (.agg #[.bool false, .int .i64 0, .int .i64 0, .int .i64 0]) 4 32 Try.underlying35 hi hz0 hz1 hz2 rfl (by decide) _ _ _ rfl (HO2.out.alloc _) ⟨w2.heap.size, 0, none⟩ 1 1 [.bool false, .int .i64 p, .int .i64 q, .int .i64 r] rfl rfl (cells_new4' _ _ _ _ _ _) (by simp [Value.oneCell']) (by decide) (by unfold maxLen; omega) (by omega) (by simp; omega) (w2.heap.size + 1) (by simp) ?_; intro g cap6 w6 hown6 hgrow6 hat6 hlt6; have H6 := Lib.hid (And.intro hown6 (And.intro hgrow6 hat6)); clear hown6 hgrow6 hat6)
              have H9 := Lib.hid (HX2.out.growP HMG.out HC.out HP.out (by have := HLTX.out; omega) (by have := HLT.out; omega) HR2c.out HK2c.out HR2c2.out HK2c2.out (cellsCh_one1 false p q r).symm HN6.out H6.out.1 H6.out.2.1 H6.out.2.2)
              clear HR2c2 HK2c2 HR2c HK2c
              go_wp2
              exact ⟨⟨i + 1, j + 1, H9⟩, by simp only [lenV]; omega⟩
            · have hr2c2 := HRY.out
              have hk2c2 := HKY.out
              unfold dropV at hr2c2 hk2c2
              rw [if_neg hc2] at hr2c2 hk2c2
              have HR2c2 := Lib.hid hr2c2
              have HK2c2 := Lib.hid hk2c2
              clear hr2c2 hk2c2
              go_wp2_with (go_at_call 75; (with_reducible refine HCMP.out.mono ?_); rintro e w1 ⟨rfl, hb1⟩;  have HX1 := Lib.hid (HX.out.below hb1);  clear hb1)
              refine wp_region_below (by kernel_rfl) (by kernel_rfl) ?_
              repeat (go_big_quiet_step ((intro hw; first | with_reducible rfl | (have d2 := FFX.out _ (bel_trans HX1.out.bel hw); have e2 := (FFY.out _ (bel_trans HX1.out.bel hw)).2.2; simp only [d2, e2, Result.andThen]; first | exact ⟨trivial, rfl⟩ | exact ⟨rfl, rfl⟩))))
              refine wpQuiet_nil ?_
              intro w2 hw2
              have HX2 := Lib.hid (HX1.out.below hw2)
              obtain ⟨e0, e1, e2⟩ := FFY.out _ HX2.out.bel
              have hlt2 : b2 < w2.heap.size := Nat.lt_of_lt_of_le hb2 HX2.out.bel.size
              have hw2s := HX2.out.bel.size
              clear hw2
              have hop2 := HX2.out.op
              rw [HN6.out] at hop2
              have HO2 := Lib.hid hop2
              clear hop2
              go_wp2_with (at_builtin; refine wpList_append_lies _ rfl (.tmp 47) (.tmp 52) 35 rfl w.heap.size 51 i0 (.agg #[.bool false, .int .i64 0, .int .i64 0, .int .i64 0]) 4 32 Try.underlying35 hi hz0 hz1 hz2 rfl (by decide) _ _ _ rfl (HO2.out.alloc _) ⟨w2.heap.size, 0, none⟩ 1 1 [.bool false, .int .i64 p, .int .i64 q, .int .i64 r] rfl rfl (cells_new4' _ _ _ _ _ _) (by simp [Value.oneCell']) (by decide) (by unfold maxLen; omega) (by omega) (by simp; omega) (w2.heap.size + 1) (by simp) ?_; intro g cap6 w6 hown6 hgrow6 hat6 hlt6; have H6 := Lib.hid (And.intro hown6 (And.intro hgrow6 hat6)); clear hown6 hgrow6 hat6)
              have H9 := Lib.hid (HX2.out.growP HMG.out HC.out HP.out (by have := HLTX.out; omega) (by have := HLT.out; omega) HR2c.out HK2c.out HR2c2.out HK2c2.out (cellsCh_one1 false p q r).symm HN6.out H6.out.1 H6.out.2.1 H6.out.2.2)
              clear HR2c2 HK2c2 HR2c HK2c
              go_wp2
              exact ⟨⟨i + 1, j + 1, H9⟩, by simp only [lenV]; omega⟩
          · have hr2c := HR.out
            have hk2c := HK.out
            unfold dropV at hr2c hk2c
            rw [if_neg hc] at hr2c hk2c
            have HR2c := Lib.hid hr2c
            have HK2c := Lib.hid hk2c
            clear hr2c hk2c
            by_cases hc2 : c2 = 1
            · have hr2c2 := HRY.out
              have hk2c2 := HKY.out
              unfold dropV at hr2c2 hk2c2
              rw [if_pos hc2, show B2 - 1 = 0 by omega] at hr2c2 hk2c2
              have HR2c2 := Lib.hid hr2c2
              have HK2c2 := Lib.hid hk2c2
              clear hr2c2 hk2c2
              subst hc2
              go_wp2_with (go_at_call 75; (with_reducible refine HCMP.out.mono ?_); rintro e w1 ⟨rfl, hb1⟩;  have HX1 := Lib.hid (HX.out.below hb1);  clear hb1)
              refine wp_region_below (by kernel_rfl) (by kernel_rfl) ?_
              repeat (go_big_quiet_step ((intro hw; first | with_reducible rfl | (have d2 := FFX.out _ (bel_trans HX1.out.bel hw); have e2 := (FFY.out _ (bel_trans HX1.out.bel hw)).2.2; simp only [d2, e2, Result.andThen]; first | exact ⟨trivial, rfl⟩ | exact ⟨rfl, rfl⟩))))
              refine wpQuiet_nil ?_
              intro w2 hw2
              have HX2 := Lib.hid (HX1.out.below hw2)
              obtain ⟨e0, e1, e2⟩ := FFY.out _ HX2.out.bel
              have hlt2 : b2 < w2.heap.size := Nat.lt_of_lt_of_le hb2 HX2.out.bel.size
              have hw2s := HX2.out.bel.size
              clear hw2
              have hop2 := HX2.out.op
              rw [HN6.out] at hop2
              have HO2 := Lib.hid hop2
              clear hop2
              go_wp2_with (at_builtin; refine wpList_append_lies _ rfl (.tmp 47) (.tmp 52) 35 rfl w.heap.size 51 i0 (.agg #[.bool false, .int .i64 0, .int .i64 0, .int .i64 0]) 4 32 Try.underlying35 hi hz0 hz1 hz2 rfl (by decide) _ _ _ rfl (HO2.out.alloc _) ⟨w2.heap.size, 0, none⟩ 1 1 [.bool false, .int .i64 p, .int .i64 q, .int .i64 r] rfl rfl (cells_new4' _ _ _ _ _ _) (by simp [Value.oneCell']) (by decide) (by unfold maxLen; omega) (by omega) (by simp; omega) (w2.heap.size + 1) (by simp) ?_; intro g cap6 w6 hown6 hgrow6 hat6 hlt6; have H6 := Lib.hid (And.intro hown6 (And.intro hgrow6 hat6)); clear hown6 hgrow6 hat6)
              have H9 := Lib.hid (HX2.out.growP HMG.out HC.out HP.out (by have := HLTX.out; omega) (by have := HLT.out; omega) HR2c.out HK2c.out HR2c2.out HK2c2.out (cellsCh_one1 false p q r).symm HN6.out H6.out.1 H6.out.2.1 H6.out.2.2)
              clear HR2c2 HK2c2 HR2c HK2c
              go_wp2
              exact ⟨⟨i + 1, j + 1, H9⟩, by simp only [lenV]; omega⟩
            · have hr2c2 := HRY.out
              have hk2c2 := HKY.out
              unfold dropV at hr2c2 hk2c2
              rw [if_neg hc2] at hr2c2 hk2c2
              have HR2c2 := Lib.hid hr2c2
              have HK2c2 := Lib.hid hk2c2
              clear hr2c2 hk2c2
              go_wp2_with (go_at_call 75; (with_reducible refine HCMP.out.mono ?_); rintro e w1 ⟨rfl, hb1⟩;  have HX1 := Lib.hid (HX.out.below hb1);  clear hb1)
              refine wp_region_below (by kernel_rfl) (by kernel_rfl) ?_
              repeat (go_big_quiet_step ((intro hw; first | with_reducible rfl | (have d2 := FFX.out _ (bel_trans HX1.out.bel hw); have e2 := (FFY.out _ (bel_trans HX1.out.bel hw)).2.2; simp only [d2, e2, Result.andThen]; first | exact ⟨trivial, rfl⟩ | exact ⟨rfl, rfl⟩))))
              refine wpQuiet_nil ?_
              intro w2 hw2
              have HX2 := Lib.hid (HX1.out.below hw2)
              obtain ⟨e0, e1, e2⟩ := FFY.out _ HX2.out.bel
              have hlt2 : b2 < w2.heap.size := Nat.lt_of_lt_of_le hb2 HX2.out.bel.size
              have hw2s := HX2.out.bel.size
              clear hw2
              have hop2 := HX2.out.op
              rw [HN6.out] at hop2
              have HO2 := Lib.hid hop2
              clear hop2
              go_wp2_with (at_builtin; refine wpList_append_lies _ rfl (.tmp 47) (.tmp 52) 35 rfl w.heap.size 51 i0 (.agg #[.bool false, .int .i64 0, .int .i64 0, .int .i64 0]) 4 32 Try.underlying35 hi hz0 hz1 hz2 rfl (by decide) _ _ _ rfl (HO2.out.alloc _) ⟨w2.heap.size, 0, none⟩ 1 1 [.bool false, .int .i64 p, .int .i64 q, .int .i64 r] rfl rfl (cells_new4' _ _ _ _ _ _) (by simp [Value.oneCell']) (by decide) (by unfold maxLen; omega) (by omega) (by simp; omega) (w2.heap.size + 1) (by simp) ?_; intro g cap6 w6 hown6 hgrow6 hat6 hlt6; have H6 := Lib.hid (And.intro hown6 (And.intro hgrow6 hat6)); clear hown6 hgrow6 hat6)
              have H9 := Lib.hid (HX2.out.growP HMG.out HC.out HP.out (by have := HLTX.out; omega) (by have := HLT.out; omega) HR2c.out HK2c.out HR2c2.out HK2c2.out (cellsCh_one1 false p q r).symm HN6.out H6.out.1 H6.out.2.1 H6.out.2.2)
              clear HR2c2 HK2c2 HR2c HK2c
              go_wp2
              exact ⟨⟨i + 1, j + 1, H9⟩, by simp only [lenV]; omega⟩
end Go.Proofs.Ytbhhbhopogkmnaa
