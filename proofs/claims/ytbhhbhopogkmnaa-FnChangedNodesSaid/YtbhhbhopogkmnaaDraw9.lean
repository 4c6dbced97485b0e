/- What the laws on changes draw: changes of a graph that can mostly be made. -/
import Derived.Test.YtbhhbhopogkmnaaChgM
import Derived.Test.YtbhhbhopogkmnaaChgC
import Derived.Test.YtbhhbhopogkmnaaChgD
import Derived.Test.YtbhhbhopogkmnaaCase3
import Derived.Deep.AppendLies
import Derived.Deep.CutRange
import Derived.Laws.OwnMore
import Derived.OneCell
namespace Go.Proofs.Ytbhhbhopogkmnaa
open Go.RowKit Go.BigFrame Go.Deep
set_option linter.unusedVariables false
set_option linter.unusedSimpArgs false
set_option linter.unnecessarySimpa false

theorem BoxG.grownG {w w' : World} {g B : Nat} {t : TypeId} {n : Int} {v : Value} (h : BoxG w B t n v) (hg : w.grownBy w' (some g)) (hne : B ≠ g) : BoxG w' B t n v := (hg.block B h.cells.2.2.2.2 (by intro e; injection e with e; exact hne e)).trans h
theorem own_ne9 {w : World} {base g : Nat} {t : TypeId} {sz : Nat} {v : Value} {n : Nat} {xs : List Value} (h : w.ownsRow base t sz v n xs) (hg : g < base) : ∀ k, v.ownBlock = some k → some g ≠ some k := by
  intro k hk e
  injection e with e
  have := (h.lt k hk).1
  omega
theorem Rd.grown9 {W w w' : World} {g q : Nat} {row : Option Nat} (h : Rd W w g q) (hg : w.grownBy w' row) (hr : ∀ k, row = some k → g < k) : Rd W w' g q := by
  obtain ⟨a, n, cap, p, h1, h2, h3, h4, h5⟩ := h.cells
  have hb : w'.heap[g]? = w.heap[g]? := hg.block g h.lt (fun e => by have := hr g e.symm; omega)
  exact ⟨h.new, h.bel.grown hg (Nat.le_of_lt (Nat.lt_of_le_of_lt h.new h.lt)) (fun k hk => by have := hr k hk; have := h.new; omega),
    ⟨a, n, cap, p, h1, h2, h3, by rw [World.cell?_of_block (a := ⟨g, 0, none⟩) hb]; exact h4, by rw [World.cell?_of_block (a := ⟨g, 1, none⟩) hb]; exact h5⟩,
    by rw [World.frozen?_of_block (a := ⟨g, 1, none⟩) hb]; exact h.free, Nat.lt_of_lt_of_le h.lt hg.size⟩
/-- While changes are drawn: the source, a graph in a box of its own, and the changes so far. -/
structure ChS (W0 W1 : World) (g q B S : Nat) (n : Int) (es : List Ed) (va : Option Addr) (vc lo hi : Nat) (v : Value) (cs : List Ch) (w : World) : Prop where
  rd : Rd W0 w g q
  gr : W1.grownBy w (some g)
  box : BoxG w B 34 n (.slice va es.length vc)
  val : gVal n es = true
  row : InR true w lo hi (.slice va es.length vc) es.length 3 (cellE es)
  glo : g < lo
  hih : hi ≤ w.heap.size
  dj : hi ≤ B ∨ B + 1 ≤ lo
  own : w.ownsRow S 51 4 v cs.length (cellsCh cs)
  ap : ∀ k, v.ownBlock = some k → k < lo ∨ hi ≤ k
  gB : g < B ∧ B < S ∧ W1.heap.size ≤ B
section
variable {W0 W1 w w' w6 : World} {g q B S : Nat} {n : Int} {es : List Ed} {va : Option Addr} {vc lo hi : Nat} {v : Value} {cs : List Ch}
theorem ChS.draw {q' : Nat} (h : ChS W0 W1 g q B S n es va vc lo hi v cs w) (hR : Rd W0 w' g q') (hG : w.grownBy w' (some g)) : ChS W0 W1 g q' B S n es va vc lo hi v cs w' :=
  ⟨hR, grown_trans' h.gr hG, h.box.grownG hG (by have := h.gB; omega), h.val, h.row.chg (g_chgG hG) (.inl (by have := h.glo; omega)), h.glo, Nat.le_trans h.hih hG.size, h.dj, own_other h.own hG (own_ne9 h.own (by have := h.gB; omega)), h.ap, h.gB⟩
theorem ChS.more {q' : Nat} (h : ChS W0 W1 g q B S n es va vc lo hi v cs w) (hq : q ≤ q') : ChS W0 W1 g q' B S n es va vc lo hi v cs w := { h with rd := h.rd.more hq }
theorem ChS.below (h : ChS W0 W1 g q B S n es va vc lo hi v cs w) (hb : Below w.heap.size w w') : ChS W0 W1 g q B S n es va vc lo hi v cs w' :=
  ⟨h.rd.keep hb, g_below h.gr hb, h.box.keep hb, h.val, h.row.keep hb, h.glo, Nat.le_trans h.hih hb.size, h.dj, own_keep3 h.own hb, h.ap, h.gB⟩
/-- Another block is written, one that is newer than all these. -/
theorem ChS.set {X j : Nat} {u : Value} (h : ChS W0 W1 g q B S n es va vc lo hi v cs w) (hX : B < X) (h1 : X < lo ∨ hi ≤ X) (h2 : v.ownBlock ≠ some X) : ChS W0 W1 g q B S n es va vc lo hi v cs (w.setCell ⟨X, j, none⟩ u) := by
  have hg := h.gB
  have hn := h.rd.bel.size
  have hc : Chg X (X + 1) w (w.setCell ⟨X, j, none⟩ u) := (Chg.refl _ _ _).setCell (by simp) (by simp) _
  refine ⟨h.rd.set' (by omega) ?_ _, g_set h.gr (by omega), h.box.setOther (by omega) _ _, h.val, h.row.chg hc (by omega), h.glo, Nat.le_trans h.hih hc.size, h.dj, ownsRow_setCell_other h.own (a := ⟨X, j, none⟩) h2 _, h.ap, h.gB⟩
  have := h.rd.new
  omega
end

theorem InR.at3 {w : World} {lo hi n vc : Nat} {va : Option Addr} {es : List Ed} (h : InR true w lo hi (.slice va n vc) n 3 (cellE es)) {k : Nat} (hk : k < n) :
    ∃ b off, va = some ⟨b, off, none⟩ ∧ lo ≤ b ∧ b < hi ∧ b < w.heap.size ∧ w.cell? ⟨b, off + k * 3, none⟩ = some (.int .i64 (es.getD k (0, 0, 0)).1) ∧ w.cell? ⟨b, off + k * 3 + 1, none⟩ = some (.int .i64 (es.getD k (0, 0, 0)).2.1) ∧ w.cell? ⟨b, off + k * 3 + 2, none⟩ = some (.int .i64 (es.getD k (0, 0, 0)).2.2) := by
  obtain ⟨a, c, he, hz⟩ := h
  injection he with he1 _ _
  subst he1
  rcases hz with h0 | ⟨b, off, rfl, h1, h2, h3, hc⟩
  · omega
  · have e0 := (hc (k * 3) (by omega)).1
    have e1 := (hc (k * 3 + 1) (by omega)).1
    have e2 := (hc (k * 3 + 2) (by omega)).1
    rw [cellE0] at e0
    rw [cellE1, ← Nat.add_assoc] at e1
    rw [cellE2, ← Nat.add_assoc] at e2
    exact ⟨b, off, rfl, h1, h2, by omega, e0, e1, e2⟩
theorem InR.grown9 {w w' : World} {lo hi n sz : Nat} {s : Value} {cs : Nat → Value} {row : Option Nat} (r : InR true w lo hi s n sz cs) (hg : w.grownBy w' row) (hr : ∀ k, row = some k → k < lo ∨ hi ≤ k) : InR true w' lo hi s n sz cs := by
  obtain ⟨a, cap, rfl, hz⟩ := r
  refine ⟨a, cap, rfl, ?_⟩
  rcases hz with h0 | ⟨b, off, rfl, h1, h2, h3, hc⟩
  · exact .inl h0
  · refine .inr ⟨b, off, rfl, h1, h2, Nat.le_trans h3 hg.size, fun i hi => ?_⟩
    have hb : w'.heap[b]? = w.heap[b]? := hg.block b (by omega) (fun e => by have := hr b e.symm; omega)
    rw [World.cell?_of_block (a := ⟨b, off + i, none⟩) hb, World.frozen?_of_block (a := ⟨b, off + i, none⟩) hb]
    exact hc i hi
section
variable {W0 W1 w w1 w6 : World} {g q B S : Nat} {n : Int} {es fs : List Ed} {va va2 : Option Addr} {vc vc2 lo hi : Nat} {v : Value} {cs : List Ch}
/-- The graph is another one from now on. -/
theorem ChS.newG (h : ChS W0 W1 g q B S n es va vc lo hi v cs w) (hb : Below w.heap.size w w1) (ho : OwnE w w1 (.slice va2 fs.length vc2) fs) (hv : gVal n fs = true) :
    ChS W0 W1 g q B S n fs va2 vc2 w.heap.size w1.heap.size v cs ((w1.setCell ⟨B, 0, none⟩ (.int .i64 n)).setCell ⟨B, 1, none⟩ (.slice va2 fs.length vc2)) := by
  have k := h.below hb
  have hg := h.gB
  have hn := h.rd.new
  have hl := h.rd.lt
  have hbl := h.rd.bel.size
  have hB := h.box.cells.2.2.2.2
  have hc : Chg B (B + 1) w1 ((w1.setCell ⟨B, 0, none⟩ (.int .i64 n)).setCell ⟨B, 1, none⟩ (.slice va2 fs.length vc2)) := ((Chg.refl _ _ _).setCell (by simp) (by simp) _).setCell (by simp) (by simp) _
  have hne : v.ownBlock ≠ some B := fun e => by have := (h.own.lt B e).1; omega
  refine ⟨(k.rd.set' (by omega) (by omega) _).set' (by omega) (by omega) _, g_set (g_set k.gr (by omega)) (by omega), (k.box.set0 n).set _, hv, (InR.chg ho hc (.inl (by omega))).wider (Nat.le_refl _) (Nat.le_refl _) hc.size, hl, hc.size, .inr (by omega), ?_, ?_, hg⟩
  · exact ownsRow_setCell_other (ownsRow_setCell_other k.own (a := ⟨B, 0, none⟩) hne _) (a := ⟨B, 1, none⟩) hne _
  · intro j hj
    have := (h.own.lt j hj).2
    exact .inl this
/-- One change more. -/
theorem ChS.push {A : Obj} {k cap : Nat} {d : Ch} {nws : List Value} (h : ChS W0 W1 g q B S n es va vc lo hi v cs w) (hn : nws = cellsCh [d])
    (hown : w6.ownsRow S 51 4 (.slice (some ⟨k, 0, none⟩) (cs.length + 1) cap) (cs.length + 1) (cellsCh cs ++ nws)) (hg : (w.alloc A).grownBy w6 v.ownBlock) (hat : v.ownBlock = some k ∨ k = w.heap.size + 1) :
    ChS W0 W1 g q B S n es va vc lo hi (.slice (some ⟨k, 0, none⟩) (cs.length + 1) cap) (cs ++ [d]) w6 := by
  have hA : Below w.heap.size w (w.alloc A) := (Below.refl _ _).alloc (Nat.le_refl _) _
  have kk := h.below hA
  have hgB := h.gB
  have hh := h.hih
  have hlt : ∀ j, v.ownBlock = some j → S ≤ j := fun j hj => (h.own.lt j hj).1
  refine ⟨kk.rd.grown9 hg (fun j hj => by have := hlt j hj; omega), ?_, BoxG.grown kk.box hg kk.own (by decide), h.val, kk.row.grown9 hg (fun j hj => h.ap j hj), h.glo, Nat.le_trans kk.hih hg.size, h.dj, ?_, ?_, hgB⟩
  · exact grownR kk.gr hg (fun j hj => by have := hlt j hj; omega)
  · rw [List.length_append, cellsCh_app, ← hn]; exact hown
  · intro j hj
    have hj : k = j := by simpa [Value.ownBlock] using hj
    subst hj
    rcases hat with h1 | h1
    · exact h.ap k h1
    · omega
end

theorem lL_val {n : Int} {es : List Ed} {c : Ch} (h : lB n es c = true) : gVal n (lL n es c) = true := by
  obtain ⟨u, x, y, z⟩ := c
  cases u
  · simp only [lB, lL, putL] at h ⊢
    simp only [Bool.false_eq_true, if_false] at h ⊢
    rw [if_pos h]
    exact gVal_pL h
  · simp only [lB, lL, kR, if_true] at h ⊢
    rw [if_pos h]
    exact gVal_kL h

/-- The first change with another weight. -/
def setW (cs : List Ch) (z : Int) : List Ch := cs.set 0 ((cs.getD 0 chZ).1, (cs.getD 0 chZ).2.1, (cs.getD 0 chZ).2.2.1, z)
theorem setW_len (cs : List Ch) (z : Int) : (setW cs z).length = cs.length := by simp [setW]
theorem setW_cells (cs : List Ch) (hk : 0 < cs.length) (z : Int) : (cellsCh cs).set 3 (.int .i64 z) = cellsCh (setW cs z) := by
  apply List.ext_getElem
  · simp [cellsCh_len, setW_len]
  · intro i h1 h2
    rw [List.length_set, cellsCh_len] at h1
    rw [List.getElem_set]
    have e1 : (cellsCh cs)[i]'(by rw [cellsCh_len]; exact h1) = cellCh cs i := by simp [cellsCh]
    have e2 : (cellsCh (setW cs z))[i]'h2 = cellCh (setW cs z) i := by simp [cellsCh]
    rw [e1, e2]
    unfold cellCh
    by_cases h4 : i / 4 = 0
    · have hg : (setW cs z).getD (i / 4) chZ = ((cs.getD 0 chZ).1, (cs.getD 0 chZ).2.1, (cs.getD 0 chZ).2.2.1, z) := by
        rw [h4]; simp [setW, List.getD, hk]
      rw [hg, h4]
      have hi : i = 0 ∨ i = 1 ∨ i = 2 ∨ i = 3 := by omega
      rcases hi with rfl | rfl | rfl | rfl <;> simp
    · have hg : (setW cs z).getD (i / 4) chZ = cs.getD (i / 4) chZ := by
        simp [setW, List.getD, List.getElem?_set, Ne.symm h4]
      rw [hg, if_neg (by omega)]
section
variable {W0 W1 w : World} {g q B S : Nat} {n : Int} {es : List Ed} {va : Option Addr} {vc lo hi k cap : Nat} {cs : List Ch}
theorem ChS.setFirst (h : ChS W0 W1 g q B S n es va vc lo hi (.slice (some ⟨k, 0, none⟩) cs.length cap) cs w) (hk : 0 < cs.length) (z : Int) :
    ChS W0 W1 g q B S n es va vc lo hi (.slice (some ⟨k, 0, none⟩) (setW cs z).length cap) (setW cs z) (w.setCell ⟨k, 3, none⟩ (.int .i64 z)) := by
  have hS := (h.own.lt k rfl).1
  have hg := h.gB
  have hn := h.rd.new
  have hl := h.rd.lt
  have hap := h.ap k rfl
  have hc : Chg k (k + 1) w (w.setCell ⟨k, 3, none⟩ (.int .i64 z)) := (Chg.refl _ _ _).setCell (by simp) (by simp) _
  have ho := (h.own.stored 3 (.int .i64 z)).1
  rw [setW_cells cs hk z] at ho
  exact ⟨h.rd.set' (by omega) (by omega) _, g_set h.gr (by omega), h.box.setOther (by omega) _ _, h.val, h.row.chg hc (by omega), h.glo, Nat.le_trans h.hih hc.size, h.dj, by rw [setW_len]; exact ho, h.ap, h.gB⟩
theorem ChS.done {q2 : Nat} {v : Value} {w' : World} (h : ChS W0 w g q B (w.heap.size + 1) n es va vc lo hi v cs w') (hq : q ≤ q2) : OwnCh w w' v cs ∧ okS v ∧ Rd W0 w' g q2 ∧ w.grownBy w' (some g) :=
  ⟨OwnCh.of h.own (Nat.le_succ _), own_ok h.own, h.rd.more hq, h.gr⟩
end

set_option maxRecDepth 20000 in
set_option maxHeartbeats 8000000 in
theorem l9Changes (W w : World) (g q : Nat) (n : Int) (es : List Ed) (s : Value) (lo0 hi0 : Nat) (h : Rd W w g q) (hq : q ≤ 800000) (hr : InR true w lo0 hi0 s es.length 3 (cellE es)) (hg : gVal n es = true) (hglo : g < lo0) (hhi : hi0 ≤ w.heap.size) :
    Calls Try.prog 61 #[.pointer (some ⟨g, 0, none⟩), .agg #[.int .i64 n, s], .int .i64 6] w fun e w' => ∃ (cs : List Ch) (v : Value), e = .returned v ∧ cs.length ≤ 7 ∧ OwnCh w w' v cs ∧ okS v ∧ Rd W w' g (q + 70) ∧ w.grownBy w' (some g) := by
  have hglt := h.lt
  have hnew := h.new
  obtain ⟨ad, cap, rfl⟩ := hr.slice
  have hn1 : 1 ≤ n := (gVal_iff.1 hg).1.1
  have hn12 : n ≤ 12 := (gVal_iff.1 hg).1.2.1
  have hnpos : 0 < n := by omega
  have hch0 : ChS W w g q w.heap.size (w.heap.size + 1) n es ad cap lo0 hi0 (.slice (some ⟨w.heap.size + 1, 0, none⟩) 0 0) [] ((w.alloc (.cells #[.int .i64 n, .slice ad es.length cap] 34)).alloc (.cells #[] 51)) := by
    have hb2 : Below w.heap.size w ((w.alloc (.cells #[.int .i64 n, .slice ad es.length cap] 34)).alloc (.cells #[] 51)) := ((Below.refl _ _).alloc (Nat.le_refl _) _).alloc (by simp) _
    have ho := own_empty3 (w.alloc (.cells #[.int .i64 n, .slice ad es.length cap] 34)) 51 4 (w.heap.size + 1) (by simp)
    refine ⟨h.keep hb2, grown_below hb2, (BoxG.new w _ n _).alloc _, hg, hr.keep hb2, hglo, Nat.le_trans hhi hb2.size, .inl hhi, by rw [cellsCh_nil]; simpa using ho, ?_, by omega⟩
    intro k hk
    simp [Value.ownBlock] at hk
    omega
  have HCH0 := Lib.hid hch0
  have hpk := pick 7 W _ g q hch0.rd (by omega) (by omega)
  have HPK := Lib.hid hpk
  obtain ⟨i0, hi, hz0', hz1, hz2⟩ := info_parts info_change
  have HI : Hid (Try.prog.info? 51 = some i0 ∧ i0.zero = some (.agg #[.bool false, .int .i64 0, .int .i64 0, .int .i64 0]) ∧ i0.size = 4 ∧ i0.bytes = 32) := Lib.hid ⟨hi, hz0', hz1, hz2⟩
  clear hch0 hpk hr h hg hi hz0' hz1 hz2
  go_enter Try.func61, Try.ntmps61
  go_wp2_with (go_at_call 42; (with_reducible refine HPK.out.mono ?_); rintro e w1 ⟨i9, rfl, hi1, hi2, hR1, hG1⟩; obtain ⟨I, rfl⟩ := Int.eq_ofNat_of_zero_le hi1; have HCH1 := Lib.hid (HCH0.out.draw hR1 hG1); have HI6 : Hid (I ≤ 6) := Lib.hid (by omega); clear hi1 hi2 hR1 hG1)
  obtain ⟨B, hB⟩ : ∃ B, B = w.heap.size := ⟨_, rfl⟩
  go_loopw [8, 7] (fun c v wr => ∃ (i : Nat) (es : List Ed) (va : Option Addr) (vc lo hi : Nat) (cs : List Ch), i ≤ 6 ∧ c = .int .i64 i ∧ cs.length + i ≤ 6 ∧ Hid (ChS W w g (q + 60 - 8 * i) w.heap.size (w.heap.size + 1) n es va vc lo hi v cs wr)) (fun c _ _ => (intOf c).toNat)
  case atStart => exact ⟨I, es, ad, cap, _, _, [], HI6.out, rfl, by simpa using HI6.out, Lib.hid (HCH1.out.more (by have := HI6.out; omega))⟩
  case round =>
    obtain ⟨i, ys, va, vc, lo, hi, cs, hi6, rfl, hlen, HX⟩ := hrel
    clear HCH0 HPK HCH1
    obtain ⟨k0, k1, k2, k3, hlB⟩ := HX.out.box.cells
    by_cases hi0' : i = 0
    · subst hi0'
      have hcl : cs.length ≤ 6 := by omega
      by_cases hl0 : cs.length = 0
      · obtain ⟨a7, c7, h7⟩ := own_slice HX.out.own
        rw [hl0] at h7
        subst h7
        have HD := Lib.hid (HX.out.done (q2 := q + 70) (by omega))
        clear HX
        go_wp2
        go_ret
        exact ⟨cs, _, rfl, by omega, HD.out⟩
      · obtain ⟨k7, c7, h7, hk7, hk7l⟩ := HX.out.own.form (by omega)
        subst h7
        have hpc : (0 : Int) < cs.length := by omega
        have hln : cs.length ≤ 7 := by omega
        have HPK6 := Lib.hid (pick 16 W wr g _ HX.out.rd (by omega) (by omega))
        go_wp2_with (go_at_call 42; (with_reducible refine HPK6.out.mono ?_); rintro e w6 ⟨x6, rfl, hx0, hx1, hR, hG⟩; have H6 := Lib.hid ((HX.out.draw hR hG).more (show _ ≤ q + 61 by omega)); clear hR hG hx0 hx1; fail)
        clear k0 k1 k2 k3 hlB
        refine HPK6.out.mono ?_
        rintro e w6 ⟨x6, rfl, hx0, hx1, hR, hG⟩
        have H6 := Lib.hid ((HX.out.draw hR hG).more (show _ ≤ q + 61 by omega))
        clear hR hG hx0 hx1 HPK6 HX
        by_cases hz6 : x6 = 0
        · subst hz6
          have HPK7 := Lib.hid (pick (cs.length : Int) W w6 g _ H6.out.rd (by omega) (by omega))
          go_wp2_with fail
          refine HPK7.out.mono ?_
          rintro e w7 ⟨kk, rfl, hx0, hx1, hR, hG⟩
          obtain ⟨K, rfl⟩ := Int.eq_ofNat_of_zero_le hx0
          have hK : K < cs.length := by omega
          have hKi : (K : Int) < cs.length := by omega
          have H7 := Lib.hid ((H6.out.draw hR hG).more (show _ ≤ q + 62 by omega))
          obtain ⟨u, x, y, z, hx⟩ : ∃ u x y z, (u, x, y, z) = cs.getD K chZ := ⟨_, _, _, _, rfl⟩
          have c0 : w7.cell? ⟨k7, K * 4, none⟩ = some (.bool u) := by rw [H7.out.own.cellAt (K * 4) (by omega), cellsCh_at cs (by omega), cellCh0, ← hx]
          have c1 : w7.cell? ⟨k7, K * 4 + 1, none⟩ = some (.int .i64 x) := by rw [H7.out.own.cellAt (K * 4 + 1) (by omega), cellsCh_at cs (by omega), cellCh1, ← hx]
          have c2 : w7.cell? ⟨k7, K * 4 + 2, none⟩ = some (.int .i64 y) := by rw [H7.out.own.cellAt (K * 4 + 2) (by omega), cellsCh_at cs (by omega), cellCh2, ← hx]
          have c3 : w7.cell? ⟨k7, K * 4 + 3, none⟩ = some (.int .i64 z) := by rw [H7.out.own.cellAt (K * 4 + 3) (by omega), cellsCh_at cs (by omega), cellCh3, ← hx]
          clear hx0 hx1 hR hG hx H6 HPK7
          have hwS := H7.out.gr.size
          have hgB9 := H7.out.gB
          have hBl9 := H7.out.box.cells.2.2.2.2
          obtain ⟨hi', hz0, hz1, hz2⟩ := HI.out
          go_wp2_with (at_builtin; refine wpList_append_lies _ rfl (.tmp 92) (.tmp 100) 35 rfl (w.heap.size + 1) 51 i0 (.agg #[.bool false, .int .i64 0, .int .i64 0, .int .i64 0]) 4 32 Try.underlying35 hi' hz0 hz1 hz2 rfl (by decide) _ _ _ rfl (H7.out.own.alloc _) ⟨w7.heap.size, 0, none⟩ 1 1 [.bool u, .int .i64 x, .int .i64 y, .int .i64 z] rfl rfl (cells_new4' _ _ _ _ _ _) (by simp [Value.oneCell']) (by decide) (by unfold maxLen; omega) (by omega) (by simp; omega) (w7.heap.size + 1) (by simp) ?_; intro k9 cap9 w9 hown9 hgrow9 hat9 hlt9; have H9 := Lib.hid (H7.out.push (cellsCh_one1 u x y z).symm hown9 hgrow9 hat9); clear hown9 hgrow9 hat9)
          clear c0 c1 c2 c3 hi' hz0 hz1 hz2
          have hl9 : (cs ++ [(u, x, y, z)]).length = cs.length + 1 := by simp
          have h9 := H9.out
          rw [← hl9] at h9
          have H9b := Lib.hid h9
          clear h9 H9
          go_wp2_with fail
          refine (num_built [0, 1, 1000] W w9 g _ H9b.out.rd (by omega) _ (by decide) (by decide)).mono ?_
          rintro e w8 ⟨zz, hz9, rfl, hR9, hG9⟩
          have H8 := Lib.hid (H9b.out.draw hR9 hG9)
          clear hz9 hR9 hG9 H9b
          have c3 : w8.cell? ⟨k9, 3, none⟩ = some (cellCh (cs ++ [(u, x, y, z)]) 3) := by rw [H8.out.own.cellAt 3 (by omega), cellsCh_at _ (by omega)]
          have f3 := H8.out.own.frozenAt 3
          have hlt8 := (H8.out.own.lt k9 rfl).2
          have hd := (H8.out.setFirst (by omega) zz).done (q2 := q + 70) (by omega)
          have hsl := setW_len (cs ++ [(u, x, y, z)]) zz
          rw [hsl, hl9] at hd
          have HD := Lib.hid hd
          have hl7 : (setW (cs ++ [(u, x, y, z)]) zz).length ≤ 7 := by rw [hsl, hl9]; omega
          have HL7 := Lib.hid hl7
          have hpc9 : (0 : Int) < (cs.length : Int) + 1 := by omega
          clear hd hsl hl9 hl7
          go_wp2
          go_ret
          exact ⟨_, _, rfl, HL7.out, HD.out⟩
        · have hz6b : (x6 == 0) = false := by simpa using hz6
          have HD := Lib.hid (H6.out.done (q2 := q + 70) (by omega))
          clear H6
          go_wp2
          go_ret
          exact ⟨cs, _, rfl, by omega, HD.out⟩
    · have hip : (0 : Int) < i := by omega
      have hip2 : 0 < i := by omega
      have HXB : Hid (Box wr w.heap.size 34 #[.int .i64 n, .slice va ys.length vc]) := Lib.hid HX.out.box
      have hgneB : w.heap.size ≠ g := by omega
      have hwrs := HX.out.gr.size
      have hgwr := HX.out.rd.lt
      go_upto_region 5 with fail
      refine wp_region_inv (fun L A9 w' => ∃ (b0 b1 b2 b3 b4 b5 b6 b7 b8 b9 b10 b11 b12 b13 b14 : Bool) (x3 : Int) (x7 : Int) (x10 : Int) (yy : Nat) (ee : Nat), L = #[b0, b1, b2, b3, b4, b5, b6, b7, b8, b9, b10, b11, b12, b13, b14] ∧ A9 = { tmps := #[Value.pointer (some ⟨g, 0, none⟩), Value.agg #[.int .i64 n, .slice ad es.length cap], Value.int .i64 6, undef, Value.pointer (some ⟨w.heap.size, 0, none⟩), undef, Value.slice none 0 0, u7, Value.int .i64 i, sel b13 (Value.pointer (some ⟨ee, 0, none⟩)) u9, u10, u11, u12, Value.slice (some ⟨w.heap.size + 1, 0, none⟩) 0 0, Value.pointer (some ⟨g, 0, none⟩), Value.int .i64 6, Value.int .i64 7, Value.int .i64 I, Value.int .i64 i, Value.bool true, Value.bool true, Value.pointer (some ⟨w.heap.size, 0, none⟩), Value.int .i64 n, Value.bool true, Value.bool true, u25, u26, sel b0 (Value.pointer (some ⟨g, 0, none⟩)) u27, sel b1 (Value.pointer (some ⟨w.heap.size, 0, none⟩)) u28, sel b2 (Value.int .i64 n) u29, sel b3 (Value.int .i64 x3) u30, sel b4 (Value.pointer (some ⟨g, 0, none⟩)) u31, sel b5 (Value.pointer (some ⟨w.heap.size, 0, none⟩)) u32, sel b6 (Value.int .i64 n) u33, sel b7 (Value.int .i64 x7) u34, sel b8 (Value.pointer (some ⟨g, 0, none⟩)) u35, sel b9 (Value.slice (some ⟨yy, 0, none⟩) 5 5) u36, sel b10 (Value.int .i64 x10) u37, sel b11 (Value.agg #[.int .i64 x3, .int .i64 x7, .int .i64 x10]) u38, sel b12 (Value.agg #[.bool false, .int .i64 x3, .int .i64 x7, .int .i64 x10]) u39, u40, u41, u42, u43, u44, u45, u46, u47, u48, u49, u50, u51, u52, u53, u54, u55, u56, u57, u58, u59, u60, u61, u62, u63, u64, u65, u66, u67, u68, u69, u70, u71, u72, u73, u74, u75, u76, u77, u78, u79, u80, u81, u82, u83, undef, undef, undef, undef, undef, undef, undef, undef, undef, undef, undef, undef, undef, undef, undef, undef, undef, undef, undef, undef, undef, undef, undef, undef, undef, undef], defers := [] } ∧ Hid ((Rd W w' g (q + 60 - 8 * i + b3.toNat + b7.toNat + b10.toNat)) ∧ (wr.grownBy w' (some g)) ∧ (b9 = true → b10 = false → RowN w' g (.slice (some ⟨yy, 0, none⟩) 5 5) [1, 5, 20, 3, 2]) ∧ (b13 = true → wr.heap.size ≤ ee ∧ ee < w'.heap.size) ∧ (b13 = true → b14 = false → Box w' ee 51 #[.bool false, .int .i64 0, .int .i64 0, .int .i64 0]) ∧ (b14 = true → Box w' ee 51 #[.bool false, .int .i64 x3, .int .i64 x7, .int .i64 x10]) ∧ (b2 = true → (b1) = true) ∧ (b3 = true → (b0 && b2) = true) ∧ (b6 = true → (b5) = true) ∧ (b7 = true → (b3 && b4 && b6) = true) ∧ (b10 = true → (b7 && b8 && b9) = true) ∧ (b11 = true → (b3 && b7 && b10) = true) ∧ (b12 = true → (b11) = true) ∧ (b14 = true → (b10 && b12 && b13) = true))) (by kernel_rfl) (by kernel_rfl) ?_ ?_ ?_
      · exact ⟨false, false, false, false, false, false, false, false, false, false, false, false, false, false, false, 0, 0, 0, 0, 0, rfl, rfl, Lib.hid ⟨(Rd.drew' HX.out.rd), (g_drew (grown_refl _ _)), (fun h => absurd h (by decide)), (fun h => absurd h (by decide)), (fun h => absurd h (by decide)), (fun h => absurd h (by decide)), (fun h => absurd h (by decide)), (fun h => absurd h (by decide)), (fun h => absurd h (by decide)), (fun h => absurd h (by decide)), (fun h => absurd h (by decide)), (fun h => absurd h (by decide)), (fun h => absurd h (by decide)), (fun h => absurd h (by decide))⟩⟩
      · rintro L A9 w' hL ⟨b0, b1, b2, b3, b4, b5, b6, b7, b8, b9, b10, b11, b12, b13, b14, x3, x7, x10, yy, ee, rfl, rfl, HF⟩ k9 o9 ho hl hd
        have hk9 : k9 = 0 ∨ k9 = 1 ∨ k9 = 2 ∨ k9 = 3 ∨ k9 = 4 ∨ k9 = 5 ∨ k9 = 6 ∨ k9 = 7 ∨ k9 = 8 ∨ k9 = 9 ∨ k9 = 10 ∨ k9 = 11 ∨ k9 = 12 ∨ k9 = 13 ∨ k9 = 14 := by have := (Array.getElem?_eq_some_iff.1 ho).1; simp at this; omega
        rcases hk9 with rfl | rfl | rfl | rfl | rfl | rfl | rfl | rfl | rfl | rfl | rfl | rfl | rfl | rfl | rfl
        · obtain rfl := Option.some.inj ho
          have hc0 : b0 = false := hl
          subst hc0
          have hc3 : b3 = false := by cases hx9 : b3 with | false => rfl | true => (have hy9 := HF.out.2.2.2.2.2.2.2.1 hx9; simp at hy9)
          subst hc3
          have hc7 : b7 = false := by cases hx9 : b7 with | false => rfl | true => (have hy9 := HF.out.2.2.2.2.2.2.2.2.2.1 hx9; simp at hy9)
          subst hc7
          have hc10 : b10 = false := by cases hx9 : b10 with | false => rfl | true => (have hy9 := HF.out.2.2.2.2.2.2.2.2.2.2.1 hx9; simp at hy9)
          subst hc10
          have hc11 : b11 = false := by cases hx9 : b11 with | false => rfl | true => (have hy9 := HF.out.2.2.2.2.2.2.2.2.2.2.2.1 hx9; simp at hy9)
          subst hc11
          have hc12 : b12 = false := by cases hx9 : b12 with | false => rfl | true => (have hy9 := HF.out.2.2.2.2.2.2.2.2.2.2.2.2.1 hx9; simp at hy9)
          subst hc12
          have hc14 : b14 = false := by cases hx9 : b14 with | false => rfl | true => (have hy9 := HF.out.2.2.2.2.2.2.2.2.2.2.2.2.2 hx9; simp at hy9)
          subst hc14
          clear hl hd ho hL
          simp only [sel_t, sel_f]
          refine wpOp_step rfl ?_
          intro K' hK'
          go_simp
          exact hK' _ _ ⟨true, b1, b2, false, b4, b5, b6, false, b8, b9, false, false, false, b13, false, x3, x7, x10, yy, ee, rfl, rfl, Lib.hid ⟨HF.out.1, HF.out.2.1, HF.out.2.2.1, HF.out.2.2.2.1, HF.out.2.2.2.2.1, HF.out.2.2.2.2.2.1, HF.out.2.2.2.2.2.2.1, (fun h => absurd h (by decide)), HF.out.2.2.2.2.2.2.2.2.1, (fun h => absurd h (by decide)), (fun h => absurd h (by decide)), (fun h => absurd h (by decide)), (fun h => absurd h (by decide)), (fun h => absurd h (by decide))⟩⟩
        · obtain rfl := Option.some.inj ho
          have hc1 : b1 = false := hl
          subst hc1
          have hc2 : b2 = false := by cases hx9 : b2 with | false => rfl | true => (have hy9 := HF.out.2.2.2.2.2.2.1 hx9; simp at hy9)
          subst hc2
          have hc3 : b3 = false := by cases hx9 : b3 with | false => rfl | true => (have hy9 := HF.out.2.2.2.2.2.2.2.1 hx9; simp at hy9)
          subst hc3
          have hc7 : b7 = false := by cases hx9 : b7 with | false => rfl | true => (have hy9 := HF.out.2.2.2.2.2.2.2.2.2.1 hx9; simp at hy9)
          subst hc7
          have hc10 : b10 = false := by cases hx9 : b10 with | false => rfl | true => (have hy9 := HF.out.2.2.2.2.2.2.2.2.2.2.1 hx9; simp at hy9)
          subst hc10
          have hc11 : b11 = false := by cases hx9 : b11 with | false => rfl | true => (have hy9 := HF.out.2.2.2.2.2.2.2.2.2.2.2.1 hx9; simp at hy9)
          subst hc11
          have hc12 : b12 = false := by cases hx9 : b12 with | false => rfl | true => (have hy9 := HF.out.2.2.2.2.2.2.2.2.2.2.2.2.1 hx9; simp at hy9)
          subst hc12
          have hc14 : b14 = false := by cases hx9 : b14 with | false => rfl | true => (have hy9 := HF.out.2.2.2.2.2.2.2.2.2.2.2.2.2 hx9; simp at hy9)
          subst hc14
          clear hl hd ho hL
          simp only [sel_t, sel_f]
          refine wpOp_step rfl ?_
          intro K' hK'
          go_simp
          exact hK' _ _ ⟨b0, true, false, false, b4, b5, b6, false, b8, b9, false, false, false, b13, false, x3, x7, x10, yy, ee, rfl, rfl, Lib.hid ⟨HF.out.1, HF.out.2.1, HF.out.2.2.1, HF.out.2.2.2.1, HF.out.2.2.2.2.1, HF.out.2.2.2.2.2.1, (fun h => absurd h (by decide)), (fun h => absurd h (by decide)), HF.out.2.2.2.2.2.2.2.2.1, (fun h => absurd h (by decide)), (fun h => absurd h (by decide)), (fun h => absurd h (by decide)), (fun h => absurd h (by decide)), (fun h => absurd h (by decide))⟩⟩
        · obtain rfl := Option.some.inj ho
          have hc2 : b2 = false := hl
          have hc1 : b1 = true := by first | (refine hd ⟨1, .data⟩ ?_ rfl; simp; done) | (refine hd ⟨1, .chain⟩ ?_ rfl; simp; done) | (refine hd ⟨1, .phase⟩ ?_ rfl; simp; done)
          subst hc2 hc1
          have hc3 : b3 = false := by cases hx9 : b3 with | false => rfl | true => (have hy9 := HF.out.2.2.2.2.2.2.2.1 hx9; simp at hy9)
          subst hc3
          have hc7 : b7 = false := by cases hx9 : b7 with | false => rfl | true => (have hy9 := HF.out.2.2.2.2.2.2.2.2.2.1 hx9; simp at hy9)
          subst hc7
          have hc10 : b10 = false := by cases hx9 : b10 with | false => rfl | true => (have hy9 := HF.out.2.2.2.2.2.2.2.2.2.2.1 hx9; simp at hy9)
          subst hc10
          have hc11 : b11 = false := by cases hx9 : b11 with | false => rfl | true => (have hy9 := HF.out.2.2.2.2.2.2.2.2.2.2.2.1 hx9; simp at hy9)
          subst hc11
          have hc12 : b12 = false := by cases hx9 : b12 with | false => rfl | true => (have hy9 := HF.out.2.2.2.2.2.2.2.2.2.2.2.2.1 hx9; simp at hy9)
          subst hc12
          have hc14 : b14 = false := by cases hx9 : b14 with | false => rfl | true => (have hy9 := HF.out.2.2.2.2.2.2.2.2.2.2.2.2.2 hx9; simp at hy9)
          subst hc14
          clear hl hd ho hL
          simp only [sel_t, sel_f]
          have x0 : w'.cell? ⟨w.heap.size, 0, none⟩ = some (.int .i64 n) := by simpa using (HXB.out.grownG HF.out.2.1 hgneB).cell 0
          refine wpOp_step rfl ?_
          intro K' hK'
          go_simp
          exact hK' _ _ ⟨b0, true, true, false, b4, b5, b6, false, b8, b9, false, false, false, b13, false, x3, x7, x10, yy, ee, rfl, rfl, Lib.hid ⟨HF.out.1, HF.out.2.1, HF.out.2.2.1, HF.out.2.2.2.1, HF.out.2.2.2.2.1, HF.out.2.2.2.2.2.1, (fun _ => rfl), (fun h => absurd h (by decide)), HF.out.2.2.2.2.2.2.2.2.1, (fun h => absurd h (by decide)), (fun h => absurd h (by decide)), (fun h => absurd h (by decide)), (fun h => absurd h (by decide)), (fun h => absurd h (by decide))⟩⟩
        · obtain rfl := Option.some.inj ho
          have hc3 : b3 = false := hl
          have hc2 : b2 = true := by first | (refine hd ⟨2, .data⟩ ?_ rfl; simp; done) | (refine hd ⟨2, .chain⟩ ?_ rfl; simp; done) | (refine hd ⟨2, .phase⟩ ?_ rfl; simp; done)
          have hc0 : b0 = true := by first | (refine hd ⟨0, .data⟩ ?_ rfl; simp; done) | (refine hd ⟨0, .chain⟩ ?_ rfl; simp; done) | (refine hd ⟨0, .phase⟩ ?_ rfl; simp; done)
          subst hc3 hc2 hc0
          have hc7 : b7 = false := by cases hx9 : b7 with | false => rfl | true => (have hy9 := HF.out.2.2.2.2.2.2.2.2.2.1 hx9; simp at hy9)
          subst hc7
          have hc10 : b10 = false := by cases hx9 : b10 with | false => rfl | true => (have hy9 := HF.out.2.2.2.2.2.2.2.2.2.2.1 hx9; simp at hy9)
          subst hc10
          have hc11 : b11 = false := by cases hx9 : b11 with | false => rfl | true => (have hy9 := HF.out.2.2.2.2.2.2.2.2.2.2.2.1 hx9; simp at hy9)
          subst hc11
          have hc12 : b12 = false := by cases hx9 : b12 with | false => rfl | true => (have hy9 := HF.out.2.2.2.2.2.2.2.2.2.2.2.2.1 hx9; simp at hy9)
          subst hc12
          have hc14 : b14 = false := by cases hx9 : b14 with | false => rfl | true => (have hy9 := HF.out.2.2.2.2.2.2.2.2.2.2.2.2.2 hx9; simp at hy9)
          subst hc14
          clear hl hd ho hL
          simp only [sel_t, sel_f]
          have hcall := pick n W w' g _ HF.out.1 (by simp only [Bool.toNat_false, Bool.toNat_true]; omega) (by omega)
          have HC9 := Lib.hid hcall
          clear hcall
          refine wpOp_step rfl ?_
          intro K' hK'
          go_simp
          refine HC9.out.mono ?_
          rintro e9 w9 ⟨x9, rfl, hx9, hy9, hR9, hG9⟩
          exact hK' _ _ ⟨true, b1, true, true, b4, b5, b6, false, b8, b9, false, false, false, b13, false, x9, x7, x10, yy, ee, rfl, rfl, Lib.hid ⟨(hR9.more (by simp only [Bool.toNat_false, Bool.toNat_true]; omega)), (grown_trans' HF.out.2.1 hG9), (fun h h0 => (HF.out.2.2.1 h h0).grown hG9), (fun h => ⟨(HF.out.2.2.2.1 h).1, Nat.lt_of_lt_of_le (HF.out.2.2.2.1 h).2 hG9.size⟩), (fun h h0 => (HF.out.2.2.2.2.1 h rfl).grownG hG9 (by have := (HF.out.2.2.2.1 h).1; omega)), (fun h => absurd h (by decide)), HF.out.2.2.2.2.2.2.1, (fun _ => rfl), HF.out.2.2.2.2.2.2.2.2.1, (fun h => absurd h (by decide)), (fun h => absurd h (by decide)), (fun h => absurd h (by decide)), (fun h => absurd h (by decide)), (fun h => absurd h (by decide))⟩⟩
        · obtain rfl := Option.some.inj ho
          have hc4 : b4 = false := hl
          subst hc4
          have hc7 : b7 = false := by cases hx9 : b7 with | false => rfl | true => (have hy9 := HF.out.2.2.2.2.2.2.2.2.2.1 hx9; simp at hy9)
          subst hc7
          have hc10 : b10 = false := by cases hx9 : b10 with | false => rfl | true => (have hy9 := HF.out.2.2.2.2.2.2.2.2.2.2.1 hx9; simp at hy9)
          subst hc10
          have hc11 : b11 = false := by cases hx9 : b11 with | false => rfl | true => (have hy9 := HF.out.2.2.2.2.2.2.2.2.2.2.2.1 hx9; simp at hy9)
          subst hc11
          have hc12 : b12 = false := by cases hx9 : b12 with | false => rfl | true => (have hy9 := HF.out.2.2.2.2.2.2.2.2.2.2.2.2.1 hx9; simp at hy9)
          subst hc12
          have hc14 : b14 = false := by cases hx9 : b14 with | false => rfl | true => (have hy9 := HF.out.2.2.2.2.2.2.2.2.2.2.2.2.2 hx9; simp at hy9)
          subst hc14
          clear hl hd ho hL
          simp only [sel_t, sel_f]
          refine wpOp_step rfl ?_
          intro K' hK'
          go_simp
          exact hK' _ _ ⟨b0, b1, b2, b3, true, b5, b6, false, b8, b9, false, false, false, b13, false, x3, x7, x10, yy, ee, rfl, rfl, Lib.hid ⟨HF.out.1, HF.out.2.1, HF.out.2.2.1, HF.out.2.2.2.1, HF.out.2.2.2.2.1, HF.out.2.2.2.2.2.1, HF.out.2.2.2.2.2.2.1, HF.out.2.2.2.2.2.2.2.1, HF.out.2.2.2.2.2.2.2.2.1, (fun h => absurd h (by decide)), (fun h => absurd h (by decide)), (fun h => absurd h (by decide)), (fun h => absurd h (by decide)), (fun h => absurd h (by decide))⟩⟩
        · obtain rfl := Option.some.inj ho
          have hc5 : b5 = false := hl
          subst hc5
          have hc6 : b6 = false := by cases hx9 : b6 with | false => rfl | true => (have hy9 := HF.out.2.2.2.2.2.2.2.2.1 hx9; simp at hy9)
          subst hc6
          have hc7 : b7 = false := by cases hx9 : b7 with | false => rfl | true => (have hy9 := HF.out.2.2.2.2.2.2.2.2.2.1 hx9; simp at hy9)
          subst hc7
          have hc10 : b10 = false := by cases hx9 : b10 with | false => rfl | true => (have hy9 := HF.out.2.2.2.2.2.2.2.2.2.2.1 hx9; simp at hy9)
          subst hc10
          have hc11 : b11 = false := by cases hx9 : b11 with | false => rfl | true => (have hy9 := HF.out.2.2.2.2.2.2.2.2.2.2.2.1 hx9; simp at hy9)
          subst hc11
          have hc12 : b12 = false := by cases hx9 : b12 with | false => rfl | true => (have hy9 := HF.out.2.2.2.2.2.2.2.2.2.2.2.2.1 hx9; simp at hy9)
          subst hc12
          have hc14 : b14 = false := by cases hx9 : b14 with | false => rfl | true => (have hy9 := HF.out.2.2.2.2.2.2.2.2.2.2.2.2.2 hx9; simp at hy9)
          subst hc14
          clear hl hd ho hL
          simp only [sel_t, sel_f]
          refine wpOp_step rfl ?_
          intro K' hK'
          go_simp
          exact hK' _ _ ⟨b0, b1, b2, b3, b4, true, false, false, b8, b9, false, false, false, b13, false, x3, x7, x10, yy, ee, rfl, rfl, Lib.hid ⟨HF.out.1, HF.out.2.1, HF.out.2.2.1, HF.out.2.2.2.1, HF.out.2.2.2.2.1, HF.out.2.2.2.2.2.1, HF.out.2.2.2.2.2.2.1, HF.out.2.2.2.2.2.2.2.1, (fun h => absurd h (by decide)), (fun h => absurd h (by decide)), (fun h => absurd h (by decide)), (fun h => absurd h (by decide)), (fun h => absurd h (by decide)), (fun h => absurd h (by decide))⟩⟩
        · obtain rfl := Option.some.inj ho
          have hc6 : b6 = false := hl
          have hc5 : b5 = true := by first | (refine hd ⟨5, .data⟩ ?_ rfl; simp; done) | (refine hd ⟨5, .chain⟩ ?_ rfl; simp; done) | (refine hd ⟨5, .phase⟩ ?_ rfl; simp; done)
          subst hc6 hc5
          have hc7 : b7 = false := by cases hx9 : b7 with | false => rfl | true => (have hy9 := HF.out.2.2.2.2.2.2.2.2.2.1 hx9; simp at hy9)
          subst hc7
          have hc10 : b10 = false := by cases hx9 : b10 with | false => rfl | true => (have hy9 := HF.out.2.2.2.2.2.2.2.2.2.2.1 hx9; simp at hy9)
          subst hc10
          have hc11 : b11 = false := by cases hx9 : b11 with | false => rfl | true => (have hy9 := HF.out.2.2.2.2.2.2.2.2.2.2.2.1 hx9; simp at hy9)
          subst hc11
          have hc12 : b12 = false := by cases hx9 : b12 with | false => rfl | true => (have hy9 := HF.out.2.2.2.2.2.2.2.2.2.2.2.2.1 hx9; simp at hy9)
          subst hc12
          have hc14 : b14 = false := by cases hx9 : b14 with | false => rfl | true => (have hy9 := HF.out.2.2.2.2.2.2.2.2.2.2.2.2.2 hx9; simp at hy9)
          subst hc14
          clear hl hd ho hL
          simp only [sel_t, sel_f]
          have x0 : w'.cell? ⟨w.heap.size, 0, none⟩ = some (.int .i64 n) := by simpa using (HXB.out.grownG HF.out.2.1 hgneB).cell 0
          refine wpOp_step rfl ?_
          intro K' hK'
          go_simp
          exact hK' _ _ ⟨b0, b1, b2, b3, b4, true, true, false, b8, b9, false, false, false, b13, false, x3, x7, x10, yy, ee, rfl, rfl, Lib.hid ⟨HF.out.1, HF.out.2.1, HF.out.2.2.1, HF.out.2.2.2.1, HF.out.2.2.2.2.1, HF.out.2.2.2.2.2.1, HF.out.2.2.2.2.2.2.1, HF.out.2.2.2.2.2.2.2.1, (fun _ => rfl), (fun h => absurd h (by decide)), (fun h => absurd h (by decide)), (fun h => absurd h (by decide)), (fun h => absurd h (by decide)), (fun h => absurd h (by decide))⟩⟩
        · obtain rfl := Option.some.inj ho
          have hc7 : b7 = false := hl
          have hc6 : b6 = true := by first | (refine hd ⟨6, .data⟩ ?_ rfl; simp; done) | (refine hd ⟨6, .chain⟩ ?_ rfl; simp; done) | (refine hd ⟨6, .phase⟩ ?_ rfl; simp; done)
          have hc4 : b4 = true := by first | (refine hd ⟨4, .data⟩ ?_ rfl; simp; done) | (refine hd ⟨4, .chain⟩ ?_ rfl; simp; done) | (refine hd ⟨4, .phase⟩ ?_ rfl; simp; done)
          have hc3 : b3 = true := by first | (refine hd ⟨3, .data⟩ ?_ rfl; simp; done) | (refine hd ⟨3, .chain⟩ ?_ rfl; simp; done) | (refine hd ⟨3, .phase⟩ ?_ rfl; simp; done)
          subst hc7 hc6 hc4 hc3
          have hc10 : b10 = false := by cases hx9 : b10 with | false => rfl | true => (have hy9 := HF.out.2.2.2.2.2.2.2.2.2.2.1 hx9; simp at hy9)
          subst hc10
          have hc11 : b11 = false := by cases hx9 : b11 with | false => rfl | true => (have hy9 := HF.out.2.2.2.2.2.2.2.2.2.2.2.1 hx9; simp at hy9)
          subst hc11
          have hc12 : b12 = false := by cases hx9 : b12 with | false => rfl | true => (have hy9 := HF.out.2.2.2.2.2.2.2.2.2.2.2.2.1 hx9; simp at hy9)
          subst hc12
          have hc14 : b14 = false := by cases hx9 : b14 with | false => rfl | true => (have hy9 := HF.out.2.2.2.2.2.2.2.2.2.2.2.2.2 hx9; simp at hy9)
          subst hc14
          clear hl hd ho hL
          simp only [sel_t, sel_f]
          have hcall := pick n W w' g _ HF.out.1 (by simp only [Bool.toNat_false, Bool.toNat_true]; omega) (by omega)
          have HC9 := Lib.hid hcall
          clear hcall
          refine wpOp_step rfl ?_
          intro K' hK'
          go_simp
          refine HC9.out.mono ?_
          rintro e9 w9 ⟨x9, rfl, hx9, hy9, hR9, hG9⟩
          exact hK' _ _ ⟨b0, b1, b2, true, true, b5, true, true, b8, b9, false, false, false, b13, false, x3, x9, x10, yy, ee, rfl, rfl, Lib.hid ⟨(hR9.more (by simp only [Bool.toNat_false, Bool.toNat_true]; omega)), (grown_trans' HF.out.2.1 hG9), (fun h h0 => (HF.out.2.2.1 h h0).grown hG9), (fun h => ⟨(HF.out.2.2.2.1 h).1, Nat.lt_of_lt_of_le (HF.out.2.2.2.1 h).2 hG9.size⟩), (fun h h0 => (HF.out.2.2.2.2.1 h rfl).grownG hG9 (by have := (HF.out.2.2.2.1 h).1; omega)), (fun h => absurd h (by decide)), HF.out.2.2.2.2.2.2.1, HF.out.2.2.2.2.2.2.2.1, HF.out.2.2.2.2.2.2.2.2.1, (fun _ => rfl), (fun h => absurd h (by decide)), (fun h => absurd h (by decide)), (fun h => absurd h (by decide)), (fun h => absurd h (by decide))⟩⟩
        · obtain rfl := Option.some.inj ho
          have hc8 : b8 = false := hl
          subst hc8
          have hc10 : b10 = false := by cases hx9 : b10 with | false => rfl | true => (have hy9 := HF.out.2.2.2.2.2.2.2.2.2.2.1 hx9; simp at hy9)
          subst hc10
          have hc11 : b11 = false := by cases hx9 : b11 with | false => rfl | true => (have hy9 := HF.out.2.2.2.2.2.2.2.2.2.2.2.1 hx9; simp at hy9)
          subst hc11
          have hc12 : b12 = false := by cases hx9 : b12 with | false => rfl | true => (have hy9 := HF.out.2.2.2.2.2.2.2.2.2.2.2.2.1 hx9; simp at hy9)
          subst hc12
          have hc14 : b14 = false := by cases hx9 : b14 with | false => rfl | true => (have hy9 := HF.out.2.2.2.2.2.2.2.2.2.2.2.2.2 hx9; simp at hy9)
          subst hc14
          clear hl hd ho hL
          simp only [sel_t, sel_f]
          refine wpOp_step rfl ?_
          intro K' hK'
          go_simp
          exact hK' _ _ ⟨b0, b1, b2, b3, b4, b5, b6, b7, true, b9, false, false, false, b13, false, x3, x7, x10, yy, ee, rfl, rfl, Lib.hid ⟨HF.out.1, HF.out.2.1, HF.out.2.2.1, HF.out.2.2.2.1, HF.out.2.2.2.2.1, HF.out.2.2.2.2.2.1, HF.out.2.2.2.2.2.2.1, HF.out.2.2.2.2.2.2.2.1, HF.out.2.2.2.2.2.2.2.2.1, HF.out.2.2.2.2.2.2.2.2.2.1, (fun h => absurd h (by decide)), (fun h => absurd h (by decide)), (fun h => absurd h (by decide)), (fun h => absurd h (by decide))⟩⟩
        · obtain rfl := Option.some.inj ho
          have hc9 : b9 = false := hl
          subst hc9
          have hc10 : b10 = false := by cases hx9 : b10 with | false => rfl | true => (have hy9 := HF.out.2.2.2.2.2.2.2.2.2.2.1 hx9; simp at hy9)
          subst hc10
          have hc11 : b11 = false := by cases hx9 : b11 with | false => rfl | true => (have hy9 := HF.out.2.2.2.2.2.2.2.2.2.2.2.1 hx9; simp at hy9)
          subst hc11
          have hc12 : b12 = false := by cases hx9 : b12 with | false => rfl | true => (have hy9 := HF.out.2.2.2.2.2.2.2.2.2.2.2.2.1 hx9; simp at hy9)
          subst hc12
          have hc14 : b14 = false := by cases hx9 : b14 with | false => rfl | true => (have hy9 := HF.out.2.2.2.2.2.2.2.2.2.2.2.2.2 hx9; simp at hy9)
          subst hc14
          clear hl hd ho hL
          simp only [sel_t, sel_f]
          refine wpOp_step rfl ?_
          intro K' hK'
          go_simp
          exact hK' _ _ ⟨b0, b1, b2, b3, b4, b5, b6, b7, b8, true, false, false, false, b13, false, x3, x7, x10, w'.heap.size, ee, rfl, rfl, Lib.hid ⟨(HF.out.1.alloc' _), (g_alloc HF.out.2.1 _), (fun _ _ => rowN_at [1, 5, 20, 3, 2] w' g _ _ rfl HF.out.1.lt), (fun h => ⟨(HF.out.2.2.2.1 h).1, Nat.lt_of_lt_of_le (HF.out.2.2.2.1 h).2 (by simp)⟩), (fun h h0 => (HF.out.2.2.2.2.1 h rfl).alloc _), (fun h => absurd h (by decide)), HF.out.2.2.2.2.2.2.1, HF.out.2.2.2.2.2.2.2.1, HF.out.2.2.2.2.2.2.2.2.1, HF.out.2.2.2.2.2.2.2.2.2.1, (fun h => absurd h (by decide)), (fun h => absurd h (by decide)), (fun h => absurd h (by decide)), (fun h => absurd h (by decide))⟩⟩
        · obtain rfl := Option.some.inj ho
          have hc10 : b10 = false := hl
          have hc9 : b9 = true := by first | (refine hd ⟨9, .data⟩ ?_ rfl; simp; done) | (refine hd ⟨9, .chain⟩ ?_ rfl; simp; done) | (refine hd ⟨9, .phase⟩ ?_ rfl; simp; done)
          have hc8 : b8 = true := by first | (refine hd ⟨8, .data⟩ ?_ rfl; simp; done) | (refine hd ⟨8, .chain⟩ ?_ rfl; simp; done) | (refine hd ⟨8, .phase⟩ ?_ rfl; simp; done)
          have hc7 : b7 = true := by first | (refine hd ⟨7, .data⟩ ?_ rfl; simp; done) | (refine hd ⟨7, .chain⟩ ?_ rfl; simp; done) | (refine hd ⟨7, .phase⟩ ?_ rfl; simp; done)
          subst hc10 hc9 hc8 hc7
          have hc11 : b11 = false := by cases hx9 : b11 with | false => rfl | true => (have hy9 := HF.out.2.2.2.2.2.2.2.2.2.2.2.1 hx9; simp at hy9)
          subst hc11
          have hc12 : b12 = false := by cases hx9 : b12 with | false => rfl | true => (have hy9 := HF.out.2.2.2.2.2.2.2.2.2.2.2.2.1 hx9; simp at hy9)
          subst hc12
          have hc14 : b14 = false := by cases hx9 : b14 with | false => rfl | true => (have hy9 := HF.out.2.2.2.2.2.2.2.2.2.2.2.2.2 hx9; simp at hy9)
          subst hc14
          clear hl hd ho hL
          simp only [sel_t, sel_f]
          have hcall := num [1, 5, 20, 3, 2] (.slice (some ⟨yy, 0, none⟩) 5 5) W w' g _ HF.out.1 (by have := b3.toNat_le; simp only [Bool.toNat_false, Bool.toNat_true]; omega) (HF.out.2.2.1 rfl rfl) (by decide) (by decide)
          have HC9 := Lib.hid hcall
          clear hcall
          refine wpOp_step rfl ?_
          intro K' hK'
          go_simp
          refine HC9.out.mono ?_
          rintro e9 w9 ⟨x9, hx9, rfl, hR9, hG9⟩
          exact hK' _ _ ⟨b0, b1, b2, b3, b4, b5, b6, true, true, true, true, false, false, b13, false, x3, x7, x9, yy, ee, rfl, rfl, Lib.hid ⟨(hR9.more (by simp only [Bool.toNat_false, Bool.toNat_true]; omega)), (grown_trans' HF.out.2.1 hG9), (fun _ h => absurd h (by decide)), (fun h => ⟨(HF.out.2.2.2.1 h).1, Nat.lt_of_lt_of_le (HF.out.2.2.2.1 h).2 hG9.size⟩), (fun h h0 => (HF.out.2.2.2.2.1 h rfl).grownG hG9 (by have := (HF.out.2.2.2.1 h).1; omega)), (fun h => absurd h (by decide)), HF.out.2.2.2.2.2.2.1, HF.out.2.2.2.2.2.2.2.1, HF.out.2.2.2.2.2.2.2.2.1, HF.out.2.2.2.2.2.2.2.2.2.1, (fun _ => rfl), (fun h => absurd h (by decide)), (fun h => absurd h (by decide)), (fun h => absurd h (by decide))⟩⟩
        · obtain rfl := Option.some.inj ho
          have hc11 : b11 = false := hl
          have hc10 : b10 = true := by first | (refine hd ⟨10, .data⟩ ?_ rfl; simp; done) | (refine hd ⟨10, .chain⟩ ?_ rfl; simp; done) | (refine hd ⟨10, .phase⟩ ?_ rfl; simp; done)
          have hc7 : b7 = true := by first | (refine hd ⟨7, .data⟩ ?_ rfl; simp; done) | (refine hd ⟨7, .chain⟩ ?_ rfl; simp; done) | (refine hd ⟨7, .phase⟩ ?_ rfl; simp; done) | exact HF.out.2.2.2.2.2.2.2.2.2.2.1 hc10 | (have hy9 := HF.out.2.2.2.2.2.2.2.2.2.2.1 hc10; simp at hy9; simp [hy9]; done)
          have hc3 : b3 = true := by first | (refine hd ⟨3, .data⟩ ?_ rfl; simp; done) | (refine hd ⟨3, .chain⟩ ?_ rfl; simp; done) | (refine hd ⟨3, .phase⟩ ?_ rfl; simp; done) | exact HF.out.2.2.2.2.2.2.2.2.2.1 hc7 | (have hy9 := HF.out.2.2.2.2.2.2.2.2.2.1 hc7; simp at hy9; simp [hy9]; done)
          subst hc11 hc10 hc7 hc3
          have hc12 : b12 = false := by cases hx9 : b12 with | false => rfl | true => (have hy9 := HF.out.2.2.2.2.2.2.2.2.2.2.2.2.1 hx9; simp at hy9)
          subst hc12
          have hc14 : b14 = false := by cases hx9 : b14 with | false => rfl | true => (have hy9 := HF.out.2.2.2.2.2.2.2.2.2.2.2.2.2 hx9; simp at hy9)
          subst hc14
          clear hl hd ho hL
          simp only [sel_t, sel_f]
          refine wpOp_step rfl ?_
          intro K' hK'
          go_simp
          exact hK' _ _ ⟨b0, b1, b2, true, b4, b5, b6, true, b8, b9, true, true, false, b13, false, x3, x7, x10, yy, ee, rfl, rfl, Lib.hid ⟨HF.out.1, HF.out.2.1, HF.out.2.2.1, HF.out.2.2.2.1, HF.out.2.2.2.2.1, HF.out.2.2.2.2.2.1, HF.out.2.2.2.2.2.2.1, HF.out.2.2.2.2.2.2.2.1, HF.out.2.2.2.2.2.2.2.2.1, (fun h => by have := HF.out.2.2.2.2.2.2.2.2.2.1 h; simpa using this), (fun h => by have := HF.out.2.2.2.2.2.2.2.2.2.2.1 h; simpa using this), (fun _ => rfl), (fun h => absurd h (by decide)), (fun h => absurd h (by decide))⟩⟩
        · obtain rfl := Option.some.inj ho
          have hc12 : b12 = false := hl
          have hc11 : b11 = true := by first | (refine hd ⟨11, .data⟩ ?_ rfl; simp; done) | (refine hd ⟨11, .chain⟩ ?_ rfl; simp; done) | (refine hd ⟨11, .phase⟩ ?_ rfl; simp; done)
          subst hc12 hc11
          have hc14 : b14 = false := by cases hx9 : b14 with | false => rfl | true => (have hy9 := HF.out.2.2.2.2.2.2.2.2.2.2.2.2.2 hx9; simp at hy9)
          subst hc14
          clear hl hd ho hL
          simp only [sel_t, sel_f]
          refine wpOp_step rfl ?_
          intro K' hK'
          go_simp
          exact hK' _ _ ⟨b0, b1, b2, b3, b4, b5, b6, b7, b8, b9, b10, true, true, b13, false, x3, x7, x10, yy, ee, rfl, rfl, Lib.hid ⟨HF.out.1, HF.out.2.1, HF.out.2.2.1, HF.out.2.2.2.1, HF.out.2.2.2.2.1, HF.out.2.2.2.2.2.1, HF.out.2.2.2.2.2.2.1, HF.out.2.2.2.2.2.2.2.1, HF.out.2.2.2.2.2.2.2.2.1, HF.out.2.2.2.2.2.2.2.2.2.1, HF.out.2.2.2.2.2.2.2.2.2.2.1, HF.out.2.2.2.2.2.2.2.2.2.2.2.1, (fun _ => rfl), (fun h => absurd h (by decide))⟩⟩
        · obtain rfl := Option.some.inj ho
          have hc13 : b13 = false := hl
          subst hc13
          have hc14 : b14 = false := by cases hx9 : b14 with | false => rfl | true => (have hy9 := HF.out.2.2.2.2.2.2.2.2.2.2.2.2.2 hx9; simp at hy9)
          subst hc14
          clear hl hd ho hL
          simp only [sel_t, sel_f]
          refine wpOp_step rfl ?_
          intro K' hK'
          go_simp
          exact hK' _ _ ⟨b0, b1, b2, b3, b4, b5, b6, b7, b8, b9, b10, b11, b12, true, false, x3, x7, x10, yy, w'.heap.size, rfl, rfl, Lib.hid ⟨(HF.out.1.alloc' _), (g_alloc HF.out.2.1 _), (fun h h0 => (HF.out.2.2.1 h h0).grown (g_alloc (grown_refl _ _) _)), (fun _ => ⟨HF.out.2.1.size, by simp⟩), (fun _ _ => Box.new w' _ _), (fun h => absurd h (by decide)), HF.out.2.2.2.2.2.2.1, HF.out.2.2.2.2.2.2.2.1, HF.out.2.2.2.2.2.2.2.2.1, HF.out.2.2.2.2.2.2.2.2.2.1, HF.out.2.2.2.2.2.2.2.2.2.2.1, HF.out.2.2.2.2.2.2.2.2.2.2.2.1, HF.out.2.2.2.2.2.2.2.2.2.2.2.2.1, (fun h => absurd h (by decide))⟩⟩
        · obtain rfl := Option.some.inj ho
          have hc14 : b14 = false := hl
          have hc13 : b13 = true := by first | (refine hd ⟨13, .data⟩ ?_ rfl; simp; done) | (refine hd ⟨13, .chain⟩ ?_ rfl; simp; done) | (refine hd ⟨13, .phase⟩ ?_ rfl; simp; done)
          have hc12 : b12 = true := by first | (refine hd ⟨12, .data⟩ ?_ rfl; simp; done) | (refine hd ⟨12, .chain⟩ ?_ rfl; simp; done) | (refine hd ⟨12, .phase⟩ ?_ rfl; simp; done)
          have hc10 : b10 = true := by first | (refine hd ⟨10, .data⟩ ?_ rfl; simp; done) | (refine hd ⟨10, .chain⟩ ?_ rfl; simp; done) | (refine hd ⟨10, .phase⟩ ?_ rfl; simp; done)
          subst hc14 hc13 hc12 hc10
          clear hl hd ho hL
          simp only [sel_t, sel_f]
          have hB9 := HF.out.2.2.2.2.1 rfl rfl
          have c0 : w'.cell? ⟨ee, 0, none⟩ = some (.bool false) := by simpa using hB9.cell 0
          have c1 : w'.cell? ⟨ee, 1, none⟩ = some (.int .i64 0) := by simpa using hB9.cell 1
          have c2 : w'.cell? ⟨ee, 2, none⟩ = some (.int .i64 0) := by simpa using hB9.cell 2
          have c3 : w'.cell? ⟨ee, 3, none⟩ = some (.int .i64 0) := by simpa using hB9.cell 3
          have f0 := hB9.frozen 0
          have f1 := hB9.frozen 1
          have f2 := hB9.frozen 2
          have f3 := hB9.frozen 3
          have hge9 := (HF.out.2.2.2.1 rfl).1
          have hlt9 := (HF.out.2.2.2.1 rfl).2
          refine wpOp_step rfl ?_
          intro K' hK'
          go_simp
          exact hK' _ _ ⟨b0, b1, b2, b3, b4, b5, b6, b7, b8, b9, true, b11, true, true, true, x3, x7, x10, yy, ee, rfl, rfl, Lib.hid ⟨((((HF.out.1.set' (by omega) (by omega) _).set' (by omega) (by omega) _).set' (by omega) (by omega) _).set' (by omega) (by omega) _), (g_set (g_set (g_set (g_set HF.out.2.1 hge9) hge9) hge9) hge9), (fun _ h => absurd h (by simp)), (fun _ => ⟨hge9, by simpa using hlt9⟩), (fun _ h => absurd h (by decide)), (fun _ => by simpa using (((hB9.set 0 (.bool false)).set 1 (.int .i64 x3)).set 2 (.int .i64 x7)).set 3 (.int .i64 x10)), HF.out.2.2.2.2.2.2.1, HF.out.2.2.2.2.2.2.2.1, HF.out.2.2.2.2.2.2.2.2.1, HF.out.2.2.2.2.2.2.2.2.2.1, HF.out.2.2.2.2.2.2.2.2.2.2.1, (fun h => by have := HF.out.2.2.2.2.2.2.2.2.2.2.2.1 h; simpa using this), HF.out.2.2.2.2.2.2.2.2.2.2.2.2.1, (fun _ => rfl)⟩⟩
      · rintro L A9 w' hL ⟨b0, b1, b2, b3, b4, b5, b6, b7, b8, b9, b10, b11, b12, b13, b14, x3, x7, x10, yy, ee, rfl, rfl, HF⟩ hall
        have hc0 : b0 = true := hall 0 (by decide)
        have hc1 : b1 = true := hall 1 (by decide)
        have hc2 : b2 = true := hall 2 (by decide)
        have hc3 : b3 = true := hall 3 (by decide)
        have hc4 : b4 = true := hall 4 (by decide)
        have hc5 : b5 = true := hall 5 (by decide)
        have hc6 : b6 = true := hall 6 (by decide)
        have hc7 : b7 = true := hall 7 (by decide)
        have hc8 : b8 = true := hall 8 (by decide)
        have hc9 : b9 = true := hall 9 (by decide)
        have hc10 : b10 = true := hall 10 (by decide)
        have hc11 : b11 = true := hall 11 (by decide)
        have hc12 : b12 = true := hall 12 (by decide)
        have hc13 : b13 = true := hall 13 (by decide)
        have hc14 : b14 = true := hall 14 (by decide)
        subst hc0 hc1 hc2 hc3 hc4 hc5 hc6 hc7 hc8 hc9 hc10 hc11 hc12 hc13 hc14
        simp only [sel_t]
        have hX5 := HX.out.draw (HF.out.1.more (show _ ≤ q + 60 - 8 * i + 3 by simp only [Bool.toNat_true]; omega)) HF.out.2.1
        have hB5 := HF.out.2.2.2.2.2.1 rfl
        have hee := HF.out.2.2.2.1 rfl
        have hu7 : u7.ownBlock ≠ some ee := fun h => by have := (HX.out.own.lt ee h).2; omega
        have hhih := HX.out.hih
        have HEE : Hid ((w.heap.size < ee ∧ hi ≤ ee ∧ g < ee) ∧ u7.ownBlock ≠ some ee) := Lib.hid ⟨⟨by omega, by omega, by omega⟩, hu7⟩
        clear HF hee hu7 hhih HXB hgneB hwrs hgwr k0 k1 k2 k3 hlB
        obtain ⟨w5, hw5⟩ : ∃ w5, w5 = w' := ⟨_, rfl⟩
        subst hw5
        have HX5 := Lib.hid hX5
        have HB5 := Lib.hid hB5
        clear hX5 hB5 HX
        have hneg : ee ≠ g := by have := HEE.out.1.2.2; omega
        obtain ⟨k0, k1, -, -, hlB⟩ := HX5.out.box.cells
        go_upto_region 6 with fail
        go_cut [48] from 40 to 83 (fun b wx => ∃ bb : Bool, b = .bool bb ∧ (bb = true → 0 < ys.length) ∧ Hid (ChS W w g (q + 60 - 8 * i + 4) w.heap.size (w.heap.size + 1) n ys va vc lo hi u7 cs wx ∧ Box wx ee 51 #[.bool false, .int .i64 x3, .int .i64 x7, .int .i64 x10]))
        case first =>
          by_cases hl0 : ys.length = 0
          · have e1 : ¬ ((0 : Int) < ys.length) := by omega
            have e2 : (ys.length : Int) = 0 := by omega
            have H6 := Lib.hid (And.intro (HX5.out.more (show _ ≤ q + 60 - 8 * i + 4 by omega)) HB5.out)
            go_wp2_with fail
            go_meet
            exact ⟨false, rfl, (fun h => by cases h), H6⟩
          · have e1 : (0 : Int) < ys.length := by omega
            have HPK2 := Lib.hid (pick 2 W w5 g _ HX5.out.rd (by omega) (by omega))
            go_wp2_with (go_at_call 42; (with_reducible refine HPK2.out.mono ?_); rintro e w6 ⟨x, rfl, hx0, hx1, hR, hG⟩; have H6 := Lib.hid (And.intro ((HX5.out.draw hR hG).more (show _ ≤ q + 60 - 8 * i + 4 by omega)) (HB5.out.grownG hG hneg)); clear hR hG hx0 hx1)
            go_meet
            exact ⟨_, rfl, fun _ => by omega, H6⟩
        case rest =>
          clear HX5 HB5 k0 k1 hlB
          obtain ⟨bb, rfl, hbl, HC⟩ := hcut
          obtain ⟨w6, hw6⟩ : ∃ w6, w6 = wc := ⟨_, rfl⟩
          subst hw6
          have HBL := Lib.hid hbl
          clear hbl
          go_upto_if 48 with fail
          go_cut [10] from 49 to 83 (fun k wx => ∃ (u : Bool) (x y z : Int), Hid (ChS W w g (q + 60 - 8 * i + 7) w.heap.size (w.heap.size + 1) n ys va vc lo hi u7 cs wx ∧ Box wx ee 51 #[.bool u, .int .i64 x, .int .i64 y, .int .i64 z]))
          case first =>
            cases bb
            · have H7 := Lib.hid (And.intro (HC.out.1.more (show _ ≤ q + 60 - 8 * i + 7 by omega)) HC.out.2)
              go_wp2_with fail
              go_meet
              exact ⟨false, x3, x7, x10, H7⟩
            · have hpos := HBL.out rfl
              obtain ⟨k0, k1, -, -, hlB⟩ := HC.out.1.box.cells
              have hyl : ys.length ≤ 40 := (gVal_iff.1 HC.out.1.val).1.2.2
              have HPK3 := Lib.hid (pick (ys.length : Int) W w6 g _ HC.out.1.rd (by omega) (by omega))
              go_wp2_with (go_at_call 42; (with_reducible refine HPK3.out.mono ?_); rintro e w7 ⟨kk, rfl, hx0, hx1, hR, hG⟩; obtain ⟨K, rfl⟩ := Int.eq_ofNat_of_zero_le hx0; have hK : K < ys.length := (by omega); have H7 := Lib.hid (And.intro ((HC.out.1.draw hR hG).more (show _ ≤ q + 60 - 8 * i + 5 by omega)) (HC.out.2.grownG hG hneg)); clear hx0 hx1 hR hG)
              clear k0 k1 hlB HPK3
              have hKi : (K : Int) < ys.length := by omega
              obtain ⟨b, off, hva, hb1, hb2, hb3, hc1, hc2, hc3⟩ := H7.out.1.row.at3 hK
              subst hva
              obtain ⟨ex, ey, ez, hx⟩ : ∃ x y z, (x, y, z) = ys.getD K (0, 0, 0) := ⟨_, _, _, rfl⟩
              rw [← hx] at hc1 hc2 hc3
              simp only at hc1 hc2 hc3
              obtain ⟨k0, k1, -, -, hlB⟩ := H7.out.1.box.cells
              have hglo := H7.out.1.glo
              have hbg : b ≠ g := by omega
              have hBg : w.heap.size ≠ g := by omega
              have hbe : b ≠ ee := by have := HEE.out.1; omega
              have hBe : w.heap.size ≠ ee := by have := HEE.out.1; omega
              have hold : ∀ w' : World, w7.grownBy w' (some g) → w'.cell? ⟨w.heap.size, 1, none⟩ = some (.slice (some ⟨b, off, none⟩) ys.length vc) ∧ w'.cell? ⟨b, off + K * 3, none⟩ = some (.int .i64 ex) ∧ w'.cell? ⟨b, off + K * 3 + 1, none⟩ = some (.int .i64 ey) ∧ w'.cell? ⟨b, off + K * 3 + 2, none⟩ = some (.int .i64 ez) := fun w' h => ⟨(grown_cell h hlB hBg).trans k1, (grown_cell h hb3 hbg).trans hc1, (grown_cell h hb3 hbg).trans hc2, (grown_cell h hb3 hbg).trans hc3⟩
              have hold2 : ∀ w' : World, w7.grownBy w' (some g) → ∀ z0 z1 z2 z3, ((((w'.setCell ⟨ee, 0, none⟩ z0).setCell ⟨ee, 1, none⟩ z1).setCell ⟨ee, 2, none⟩ z2).setCell ⟨ee, 3, none⟩ z3).cell? ⟨w.heap.size, 1, none⟩ = some (.slice (some ⟨b, off, none⟩) ys.length vc) ∧ ((((w'.setCell ⟨ee, 0, none⟩ z0).setCell ⟨ee, 1, none⟩ z1).setCell ⟨ee, 2, none⟩ z2).setCell ⟨ee, 3, none⟩ z3).cell? ⟨b, off + K * 3, none⟩ = some (.int .i64 ex) ∧ ((((w'.setCell ⟨ee, 0, none⟩ z0).setCell ⟨ee, 1, none⟩ z1).setCell ⟨ee, 2, none⟩ z2).setCell ⟨ee, 3, none⟩ z3).cell? ⟨b, off + K * 3 + 1, none⟩ = some (.int .i64 ey) ∧ ((((w'.setCell ⟨ee, 0, none⟩ z0).setCell ⟨ee, 1, none⟩ z1).setCell ⟨ee, 2, none⟩ z2).setCell ⟨ee, 3, none⟩ z3).cell? ⟨b, off + K * 3 + 2, none⟩ = some (.int .i64 ez) := fun w' h z0 z1 z2 z3 => by
                have h0 := hold w' h
                have n1 : ∀ j m, (⟨ee, j, none⟩ : Addr) ≠ ⟨w.heap.size, m, none⟩ := fun j m e => by injection e with e _ _; exact hBe e.symm
                have n2 : ∀ j m, (⟨ee, j, none⟩ : Addr) ≠ ⟨b, m, none⟩ := fun j m e => by injection e with e _ _; exact hbe e.symm
                refine ⟨?_, ?_, ?_, ?_⟩
                · rw [World.cell?_setCell_other _ _ _ _ (n1 _ _), World.cell?_setCell_other _ _ _ _ (n1 _ _), World.cell?_setCell_other _ _ _ _ (n1 _ _), World.cell?_setCell_other _ _ _ _ (n1 _ _)]; exact h0.1
                · rw [World.cell?_setCell_other _ _ _ _ (n2 _ _), World.cell?_setCell_other _ _ _ _ (n2 _ _), World.cell?_setCell_other _ _ _ _ (n2 _ _), World.cell?_setCell_other _ _ _ _ (n2 _ _)]; exact h0.2.1
                · rw [World.cell?_setCell_other _ _ _ _ (n2 _ _), World.cell?_setCell_other _ _ _ _ (n2 _ _), World.cell?_setCell_other _ _ _ _ (n2 _ _), World.cell?_setCell_other _ _ _ _ (n2 _ _)]; exact h0.2.2.1
                · rw [World.cell?_setCell_other _ _ _ _ (n2 _ _), World.cell?_setCell_other _ _ _ _ (n2 _ _), World.cell?_setCell_other _ _ _ _ (n2 _ _), World.cell?_setCell_other _ _ _ _ (n2 _ _)]; exact h0.2.2.2
              have HOLD := Lib.hid hold
              have HOLD2 := Lib.hid hold2
              have HPK4 := Lib.hid (pick 2 W w7.drew g _ H7.out.1.rd.drew' (by omega) (by omega))
              clear hold hold2 hc1 hc2 hc3 hx k0 k1 hlB hglo hbg hBg hbe hBe HC
              go_upto_region 8 with fail
              go_cut [10] from 54 to 62 (fun k wx => k = .int .i64 K ∧ ∃ (u : Bool) (x y z : Int), Hid (ChS W w g (q + 60 - 8 * i + 6) w.heap.size (w.heap.size + 1) n ys (some ⟨b, off, none⟩) vc lo hi u7 cs wx ∧ Box wx ee 51 #[.bool u, .int .i64 x, .int .i64 y, .int .i64 z]))
              case first =>
                go_region_held3 (fun w' : World => w'.cell? ⟨w.heap.size, 1, none⟩ = some (.slice (some ⟨b, off, none⟩) ys.length vc) ∧ w'.cell? ⟨b, off + K * 3, none⟩ = some (.int .i64 ex) ∧ w'.cell? ⟨b, off + K * 3 + 1, none⟩ = some (.int .i64 ey) ∧ w'.cell? ⟨b, off + K * 3 + 2, none⟩ = some (.int .i64 ez)) (first | with_reducible exact HOLD2.out _ (grown_trans' (g_drew (grown_refl _ _)) hG8) _ _ _ _ | with_reducible exact HOLD.out _ (g_drew (grown_refl _ _)) | with_reducible exact HOLD.out _ (grown_trans' (g_drew (grown_refl _ _)) hG8)) (first | (go_at_call 42; (with_reducible refine HPK4.out.mono ?_); rintro e w8 ⟨k8, rfl, hx0, hx1, hR8, hG8⟩; have H8 := Lib.hid (And.intro ((H7.out.1.draw hR8 (grown_trans' (g_drew (grown_refl _ _)) hG8)).more (show _ ≤ q + 60 - 8 * i + 6 by omega)) (H7.out.2.grownG (grown_trans' (g_drew (grown_refl _ _)) hG8) hneg)); have c0 : w8.cell? ⟨ee, 0, none⟩ = some (.bool false) := (by simpa using H8.out.2.cell 0); have c1 : w8.cell? ⟨ee, 1, none⟩ = some (.int .i64 x3) := (by simpa using H8.out.2.cell 1); have c2 : w8.cell? ⟨ee, 2, none⟩ = some (.int .i64 x7) := (by simpa using H8.out.2.cell 2); have c3 : w8.cell? ⟨ee, 3, none⟩ = some (.int .i64 x10) := (by simpa using H8.out.2.cell 3); have f0 := H8.out.2.frozen 0; have f1 := H8.out.2.frozen 1; have f2 := H8.out.2.frozen 2; have f3 := H8.out.2.frozen 3))
                all_goals
                  go_wp2_with fail
                  go_meet
                  exact ⟨rfl, _, _, _, _, Lib.hid ⟨(((H8.out.1.set HEE.out.1.1 (.inr HEE.out.1.2.1) HEE.out.2).set HEE.out.1.1 (.inr HEE.out.1.2.1) HEE.out.2).set HEE.out.1.1 (.inr HEE.out.1.2.1) HEE.out.2).set HEE.out.1.1 (.inr HEE.out.1.2.1) HEE.out.2, by simpa using (((H8.out.2.set 0 (.bool (k8 == 0))).set 1 (.int .i64 ex)).set 2 (.int .i64 ey)).set 3 (.int .i64 ez)⟩⟩
              case rest =>
                clear HOLD HOLD2 HPK4 H7
                obtain ⟨rfl, u, x, y, z, HC8⟩ := hcut
                obtain ⟨w8, hw8⟩ : ∃ w8, w8 = wc := ⟨_, rfl⟩
                subst hw8
                have c0 : w8.cell? ⟨ee, 0, none⟩ = some (.bool u) := by simpa using HC8.out.2.cell 0
                have c1 : w8.cell? ⟨ee, 1, none⟩ = some (.int .i64 x) := by simpa using HC8.out.2.cell 1
                have c2 : w8.cell? ⟨ee, 2, none⟩ = some (.int .i64 y) := by simpa using HC8.out.2.cell 2
                have c3 : w8.cell? ⟨ee, 3, none⟩ = some (.int .i64 z) := by simpa using HC8.out.2.cell 3
                have f3 := HC8.out.2.frozen 3
                cases u
                · go_wp2_with fail
                  refine (num_built [1, 50, 7] W w8 g _ HC8.out.1.rd (by omega) _ (by decide) (by decide)).mono ?_
                  rintro e w9 ⟨zz, hz9, rfl, hR9, hG9⟩
                  have H9 := Lib.hid (And.intro ((HC8.out.1.draw hR9 hG9).more (show _ ≤ q + 60 - 8 * i + 7 by omega)) (HC8.out.2.grownG hG9 hneg))
                  clear c0 c1 c2 c3 f3 hz9 hR9 hG9
                  have c3 : w9.cell? ⟨ee, 3, none⟩ = some (.int .i64 z) := by simpa using H9.out.2.cell 3
                  have f3 := H9.out.2.frozen 3
                  go_wp2_with fail
                  go_meet
                  exact ⟨_, _, _, _, Lib.hid ⟨H9.out.1.set HEE.out.1.1 (.inr HEE.out.1.2.1) HEE.out.2, by simpa using H9.out.2.set 3 (.int .i64 zz)⟩⟩
                · have H9 := Lib.hid (And.intro (HC8.out.1.more (show _ ≤ q + 60 - 8 * i + 7 by omega)) HC8.out.2)
                  go_wp2_with fail
                  go_meet
                  exact ⟨_, _, _, _, Lib.hid ⟨H9.out.1.set HEE.out.1.1 (.inr HEE.out.1.2.1) HEE.out.2, by simpa using H9.out.2.set 3 (.int .i64 0)⟩⟩
          case rest =>
            clear HC
            obtain ⟨u, x, y, z, HC7⟩ := hcut
            obtain ⟨w7, hw7⟩ : ∃ w7, w7 = wc := ⟨_, rfl⟩
            subst hw7
            have c0 : w7.cell? ⟨ee, 0, none⟩ = some (.bool u) := by simpa using HC7.out.2.cell 0
            have c1 : w7.cell? ⟨ee, 1, none⟩ = some (.int .i64 x) := by simpa using HC7.out.2.cell 1
            have c2 : w7.cell? ⟨ee, 2, none⟩ = some (.int .i64 y) := by simpa using HC7.out.2.cell 2
            have c3 : w7.cell? ⟨ee, 3, none⟩ = some (.int .i64 z) := by simpa using HC7.out.2.cell 3
            obtain ⟨k0, k1, f0, f1, hlB⟩ := HC7.out.1.box.cells
            have hyl : ys.length ≤ 40 := (gVal_iff.1 HC7.out.1.val).1.2.2
            have happ := l9Apply n ys (u, x, y, z) _ w7 HC7.out.1.row.edges (by omega)
            simp only at happ
            have hlN : lB n ys (u, x, y, z) = true → lN n ys (u, x, y, z) = n := lN_yes
            have hlV : lB n ys (u, x, y, z) = true → gVal n (lL n ys (u, x, y, z)) = true := lL_val
            generalize lN n ys (u, x, y, z) = N9 at happ hlN
            generalize lB n ys (u, x, y, z) = B9 at happ hlN hlV
            generalize lL n ys (u, x, y, z) = L9 at happ hlV
            have HAPP := Lib.hid happ
            have HLN := Lib.hid hlN
            have HLV := Lib.hid hlV
            clear happ hlN hlV
            cases B9
            · have HX7 := Lib.hid HC7.out.1
              go_wp2_with (go_at_call 49; (with_reducible refine HAPP.out.mono ?_); rintro e w8 ⟨v8, rfl, hown8, hok8, hb8⟩; obtain ⟨va8, vc8, hva8, hz8⟩ := id hown8; subst hva8; have H8 := Lib.hid (HX7.out.below hb8); clear hz8 hown8 hok8 hb8)
              have H9 := Lib.hid ((H8.out.below ((Below.refl _ _).alloc (Nat.le_refl _) (.cells #[.int .i64 N9, .slice va8 L9.length vc8] 34))).more (show _ ≤ q + 60 - 8 * (i - 1) by omega))
              go_roundw
              case rel =>
                rw [show ((i : Int) - 1) = ((i - 1 : Nat) : Int) by omega]
                first | exact ⟨i - 1, ys, va, vc, lo, hi, cs, by omega, rfl, by omega, H9⟩ | exact ⟨_, ⟨i - 1, ys, va, vc, lo, hi, cs, by omega, rfl, by omega, H9⟩, rfl⟩ | exact ⟨_, _, ⟨i - 1, ys, va, vc, lo, hi, cs, by omega, rfl, by omega, H9⟩, rfl⟩
              case measure => simp [intOf]; omega
            · obtain rfl := HLN.out rfl
              have hv9 := HLV.out rfl
              have HV9 := Lib.hid hv9
              have HX7 := Lib.hid HC7.out
              clear HLV hv9
              go_wp2_with fail
              refine HAPP.out.mono ?_
              rintro e w8 ⟨v8, rfl, hown8, hok8, hb8⟩
              obtain ⟨va8, vc8, hva8, hz8⟩ := id hown8
              subst hva8
              have hX8 := HX7.out.1.newG hb8 hown8 HV9.out
              have hE8 := HX7.out.2.keep hb8
              clear k0 k1 f0 f1 hlB c0 c1 c2 c3
              obtain ⟨k0, k1, f0, f1, hlB⟩ := (HX7.out.1.box.keep hb8).cells
              have hBe : w.heap.size ≠ ee := by have := HEE.out.1; omega
              have hX9 : ChS W w g (q + 60 - 8 * i + 7) w.heap.size (w.heap.size + 1) N9 L9 va8 vc8 w7.heap.size w8.heap.size u7 cs (((w8.setCell ⟨w.heap.size, 0, none⟩ (.int .i64 N9)).setCell ⟨w.heap.size, 1, none⟩ (.slice va8 L9.length vc8)).alloc (.cells #[.int .i64 N9, .slice va8 L9.length vc8] 34)) := hX8.below ((Below.refl _ _).alloc (Nat.le_refl _) _)
              have hE9 : Box (((w8.setCell ⟨w.heap.size, 0, none⟩ (.int .i64 N9)).setCell ⟨w.heap.size, 1, none⟩ (.slice va8 L9.length vc8)).alloc (.cells #[.int .i64 N9, .slice va8 L9.length vc8] 34)) ee 51 #[.bool u, .int .i64 x, .int .i64 y, .int .i64 z] := ((hE8.setOther (B' := w.heap.size) hBe.symm 0 (.int .i64 N9)).setOther (B' := w.heap.size) hBe.symm 1 (.slice va8 L9.length vc8)).alloc _
              have HX9 := Lib.hid hX9
              have HE9 := Lib.hid hE9
              clear hz8 hown8 hok8 hb8 hX8 hE8 hX9 hE9
              go_upto_region 15 with fail
              generalize (((w8.setCell ⟨w.heap.size, 0, none⟩ (.int .i64 N9)).setCell ⟨w.heap.size, 1, none⟩ (.slice va8 L9.length vc8)).alloc (.cells #[.int .i64 N9, .slice va8 L9.length vc8] 34)) = w9 at HX9 HE9 ⊢
              have c0 : w9.cell? ⟨ee, 0, none⟩ = some (.bool u) := by simpa using HE9.out.cell 0
              have c1 : w9.cell? ⟨ee, 1, none⟩ = some (.int .i64 x) := by simpa using HE9.out.cell 1
              have c2 : w9.cell? ⟨ee, 2, none⟩ = some (.int .i64 y) := by simpa using HE9.out.cell 2
              have c3 : w9.cell? ⟨ee, 3, none⟩ = some (.int .i64 z) := by simpa using HE9.out.cell 3
              have hwS := HX9.out.gr.size
              have hgB9 := HX9.out.gB
              have hBl9 := HX9.out.box.cells.2.2.2.2
              obtain ⟨hi', hz0, hz1, hz2⟩ := HI.out
              clear k0 k1 f0 f1 hlB
              go_wp2_with (at_builtin; refine wpList_append_lies _ rfl (.tmp 80) (.tmp 82) 35 rfl (w.heap.size + 1) 51 i0 (.agg #[.bool false, .int .i64 0, .int .i64 0, .int .i64 0]) 4 32 Try.underlying35 hi' hz0 hz1 hz2 rfl (by decide) _ _ _ rfl (HX9.out.own.alloc _) ⟨w9.heap.size, 0, none⟩ 1 1 [.bool u, .int .i64 x, .int .i64 y, .int .i64 z] rfl rfl (cells_new4' _ _ _ _ _ _) (by simp [Value.oneCell']) (by decide) (by unfold maxLen; omega) (by omega) (by simp; omega) (w9.heap.size + 1) (by simp) ?_; intro k6 cap6 w6 hown6 hgrow6 hat6 hlt6; have H6 := Lib.hid (HX9.out.push (cellsCh_one1 u x y z).symm hown6 hgrow6 hat6); clear hown6 hgrow6 hat6)
              have H9 := Lib.hid (H6.out.more (show _ ≤ q + 60 - 8 * (i - 1) by omega))
              clear H6 hi' hz0 hz1 hz2
              go_wp2
              go_roundw
              case rel =>
                rw [show ((i : Int) - 1) = ((i - 1 : Nat) : Int) by omega]
                first | exact ⟨i - 1, L9, va8, vc8, _, _, _, by omega, rfl, by simp; omega, H9⟩ | exact ⟨_, ⟨i - 1, L9, va8, vc8, _, _, _, by omega, rfl, by simp; omega, H9⟩, rfl⟩ | exact ⟨_, _, ⟨i - 1, L9, va8, vc8, _, _, _, by omega, rfl, by simp; omega, H9⟩, rfl⟩
              case measure => simp [intOf]; omega
end Go.Proofs.Ytbhhbhopogkmnaa
