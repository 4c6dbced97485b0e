/- A drawn graph and a drawn edge, in the model. -/
import Derived.Test.YtaoecegnjhbagaaCase3
namespace Go.Proofs.Ytaoecegnjhbagaa
open Go.RowKit Go.BigFrame Go.Deep
set_option linter.unusedVariables false
set_option linter.unusedSimpArgs false
set_option linter.unnecessarySimpa false

/-- A graph and an edge are drawn. -/
def DrawnC2 (w : World) (e : Ending) (w' : World) : Prop :=
  ∃ (n : Int) (es : List Ed) (v : Value) (x y z : Int), e = .returned (.tuple #[.agg #[.int .i64 n, v], .agg #[.int .i64 x, .int .i64 y, .int .i64 z]]) ∧ es.length ≤ 41 ∧ InR true w' w.heap.size w'.heap.size v es.length 3 (cellE es) ∧ okS v ∧ Below w.heap.size w w'
theorem results_cc {fn : Func} {p t : Tmp} {ty tz : TypeId} (h : fn.results = #[.cell p ty, .cell t tz]) (tmps : Array Value) (P : Program) (w : World) :
    (results fn tmps).run P w = ((asAddr (tmps.getD p undef)).run P w).andThen fun a w₁ => ((loadVar ty a).run P w₁).andThen fun v w₂ => ((asAddr (tmps.getD t undef)).run P w₂).andThen fun b w₃ => ((loadVar tz b).run P w₃).andThen fun u w₄ => .ok (.tuple #[v, u]) w₄ := by
  simp only [results, h]
  simp
/-- An edge in a box of its own, behind a draw. -/
def EBox (W w wx : World) (g q : Nat) (p : Value) : Prop :=
  ∃ (x y z : Int) (e : Nat), p = .pointer (some ⟨e, 0, none⟩) ∧ Box wx e 46 #[.int .i64 x, .int .i64 y, .int .i64 z] ∧ w.heap.size ≤ e ∧ Rd W wx g q ∧ w.grownBy wx (some g)
/-- What lies in memory once an edge has been drawn. -/
def EMidC (W w : World) (g lo B E : Nat) (n : Int) (es : List Ed) (v : Value) (q : Nat) (wx : World) : Prop :=
  ∃ x y z : Int, Rd W wx g q ∧ Box wx w.heap.size 25 #[.int .i64 0, .slice none 0 0] ∧ Box wx (w.heap.size + 1) 46 #[.int .i64 0, .int .i64 0, .int .i64 0] ∧ InR true wx lo B v es.length 3 (cellE es) ∧ Box wx B 25 #[.int .i64 n, v] ∧ Box wx E 46 #[.int .i64 x, .int .i64 y, .int .i64 z]
theorem EMidC.more {W w wx : World} {g lo B E q q' : Nat} {n : Int} {es : List Ed} {v : Value} (h : EMidC W w g lo B E n es v q wx) (hq : q ≤ q') : EMidC W w g lo B E n es v q' wx := by
  obtain ⟨x, y, z, hR, hb⟩ := h
  exact ⟨x, y, z, hR.more hq, hb⟩
theorem InR.set7 {fz : Bool} {w : World} {lo hi B k : Nat} {s u : Value} {n sz : Nat} {cs : Nat → Value} (r : InR fz w lo hi s n sz cs) (hB : hi ≤ B) : InR fz (w.setCell ⟨B, k, none⟩ u) lo hi s n sz cs :=
  r.chg (l := B) (h := B + 1) ((Chg.refl B (B + 1) w).setCell (p := ⟨B, k, none⟩) (by simp) (by simp) u) (.inr hB)
theorem InR.drewN {fz : Bool} {w : World} {lo hi : Nat} {s : Value} {n sz : Nat} {cs : Nat → Value} (r : InR fz w lo hi s n sz cs) : InR fz w.drew lo hi s n sz cs := InR.keep r (Below.refl _ _).drew
theorem emidC_grown {W w w4 w5 : World} {g lo B E q q' : Nat} {n x y z : Int} {es : List Ed} {v : Value}
    (h : Rd W w4 g q' ∧ Box w4 w.heap.size 25 #[.int .i64 0, .slice none 0 0] ∧ Box w4 (w.heap.size + 1) 46 #[.int .i64 0, .int .i64 0, .int .i64 0] ∧ InR true w4 lo B v es.length 3 (cellE es) ∧ Box w4 B 25 #[.int .i64 n, v] ∧ Box w4 E 46 #[.int .i64 x, .int .i64 y, .int .i64 z])
    (hR : Rd W w5 g q) (hG : w4.grownBy w5 (some g)) (h1 : w.heap.size ≠ g) (h2 : w.heap.size + 1 ≠ g) (h3 : g < lo) (h4 : B ≠ g) (h5 : E ≠ g) : EMidC W w g lo B E n es v q w5 :=
  ⟨x, y, z, hR, h.2.1.grownG hG h1, h.2.2.1.grownG hG h2, InR.grownG h.2.2.2.1 hG h3, h.2.2.2.2.1.grownG hG h4, h.2.2.2.2.2.grownG hG h5⟩
/-- The end of the draw: the results are stored. -/
theorem drawnC2_of {w w0 w8 w9 : World} {g q : Nat} {n x y z : Int} {es : List Ed} {v : Value} (hb : Below w.heap.size w w0) (hR : Rd w0 w9 g q) 
    (hrow : InR true w9 w8.heap.size w9.heap.size v es.length 3 (cellE es)) (hok : okS v) (hl : es.length ≤ 41) (hs : w.heap.size + 1 < w8.heap.size) :
    DrawnC2 w (.returned (.tuple #[.agg #[.int .i64 n, v], .agg #[.int .i64 x, .int .i64 y, .int .i64 z]])) (((((w9.setCell ⟨w.heap.size, 0, none⟩ (.int .i64 n)).setCell ⟨w.heap.size, 1, none⟩ v).setCell ⟨w.heap.size + 1, 0, none⟩ (.int .i64 x)).setCell ⟨w.heap.size + 1, 1, none⟩ (.int .i64 y)).setCell ⟨w.heap.size + 1, 2, none⟩ (.int .i64 z)) := by
  refine ⟨n, es, v, x, y, z, rfl, hl, ?_, hok, (((((bel_trans hb hR.bel).setCell (by simp) _).setCell (by simp) _).setCell (by simp) _).setCell (by simp) _).setCell (by simp) _⟩
  have h1 := ((((hrow.set8 (B := w.heap.size) (k := 0) (u := .int .i64 n) (by omega)).set8 (B := w.heap.size) (k := 1) (u := v) (by omega)).set8 (B := w.heap.size + 1) (k := 0) (u := .int .i64 x) hs).set8 (B := w.heap.size + 1) (k := 1) (u := .int .i64 y) hs).set8 (B := w.heap.size + 1) (k := 2) (u := .int .i64 z) hs
  exact h1.wider (by omega) (by simp) (Nat.le_refl _)
set_option maxRecDepth 20000 in
set_option maxHeartbeats 8000000 in
theorem l2Case (ca : Option Addr) (nn cap : Nat) (w : World) (hb : Bytes w ca nn) (hcap : nn ≤ cap) (hn : nn ≤ 281474976710656) :
    Calls Try.prog 52 #[.slice ca nn cap] w (DrawnC2 w) := by
  have hb2 : Below w.heap.size w ((w.alloc (.cells #[.int .i64 0, .slice none 0 0] 25)).alloc (.cells #[.int .i64 0, .int .i64 0, .int .i64 0] 46)) := ((Below.refl _ _).alloc (Nat.le_refl _) _).alloc (by simp) _
  have hx0 : Box ((w.alloc (.cells #[.int .i64 0, .slice none 0 0] 25)).alloc (.cells #[.int .i64 0, .int .i64 0, .int .i64 0] 46)) w.heap.size 25 #[.int .i64 0, .slice none 0 0] := (Box.new w _ _).alloc _
  have hx1 : Box ((w.alloc (.cells #[.int .i64 0, .slice none 0 0] 25)).alloc (.cells #[.int .i64 0, .int .i64 0, .int .i64 0] 46)) (w.heap.size + 1) 46 #[.int .i64 0, .int .i64 0, .int .i64 0] := by
    have := Box.new (w.alloc (.cells #[.int .i64 0, .slice none 0 0] 25)) 46 #[.int .i64 0, .int .i64 0, .int .i64 0]
    simpa using this
  have HC := Lib.hid hb
  clear hb
  go_enter Try.func52, Try.ntmps52
  go_wp2_with fail
  generalize ((w.alloc (.cells #[.int .i64 0, .slice none 0 0] 25)).alloc (.cells #[.int .i64 0, .int .i64 0, .int .i64 0] 46)) = w0 at hb2 hx0 hx1 ⊢
  refine (l15Open ca nn cap w0 (HC.out.keepB hb2) hcap hn).mono ?_
  rintro e w1 ⟨g, rfl, hR⟩
  have hs0 : w.heap.size + 1 < w0.heap.size := hx1.lt
  have hg0 := hR.new
  have hs01 := hR.bel.size
  have K1 := Lib.hid (And.intro hR (And.intro (hx0.keep hR.bel) (hx1.keep hR.bel)))
  clear hx0 hx1 hR
  go_wp2_with fail
  refine (l2Draw w0 w1 g 0 K1.out.1 (by omega)).mono ?_
  rintro e w2 ⟨n, es, v, rfl, hgv, hrow, hok, hR, hG⟩
  obtain ⟨va, vc, rfl, hz9⟩ := id hrow
  have h12 := (gVal_iff.1 hgv).1.2.1
  have h40 := (gVal_iff.1 hgv).1.2.2
  have hb3 : Below w2.heap.size w2 (w2.alloc (.cells #[.int .i64 n, .slice va es.length vc] 25)) := (Below.refl _ _).alloc (Nat.le_refl _) _
  have hs1 := hG.size
  have hs23 := hb3.size
  have hlt1 := K1.out.1.lt
  have K3 := Lib.hid (And.intro (hR.keep hb3) (And.intro ((K1.out.2.1.grownG hG (by omega)).keep hb3) (And.intro ((K1.out.2.2.grownG hG (by omega)).keep hb3) (And.intro (InR.keep hrow hb3) (And.intro hok (Box.new w2 25 #[.int .i64 n, .slice va es.length vc]))))))
  clear hz9 hgv hrow hok hR hG hb3
  go_upto_region 3 with fail
  have hl3 := K3.out.2.2.2.2.2.lt
  generalize (w2.alloc (.cells #[.int .i64 n, .slice va es.length vc] 25)) = wr at K3 hs23 hl3 ⊢
  have HXG := Lib.hid K3.out.2.2.2.2.2
  go_cut [6] from 8 to 62 (fun p wx => EBox w0 wr wx g (44 + 3) p)
  ·
    refine wp_region_inv (fun L a w' => ∃ (b0 b1 b2 b3 b4 b5 b6 b7 b8 b9 b10 b11 b12 b13 : Bool) (x3 : Int) (x7 : Int) (x10 : Int) (yy : Nat) (ee : Nat), L = #[b0, b1, b2, b3, b4, b5, b6, b7, b8, b9, b10, b11, b12, b13] ∧ a = { tmps := #[Value.slice ca nn cap, undef, Value.pointer (some ⟨w.heap.size, 0, none⟩), Value.pointer (some ⟨w.heap.size + 1, 0, none⟩), Value.pointer (some ⟨g, 0, none⟩), Value.pointer (some ⟨w2.heap.size, 0, none⟩), sel b12 (Value.pointer (some ⟨ee, 0, none⟩)) undef, undef, Value.slice ca nn cap, Value.pointer (some ⟨g, 0, none⟩), Value.pointer (some ⟨g, 0, none⟩), Value.agg #[.int .i64 n, .slice va es.length vc], sel b0 (Value.pointer (some ⟨g, 0, none⟩)) undef, sel b1 (Value.pointer (some ⟨w2.heap.size, 0, none⟩)) undef, sel b2 (Value.int .i64 n) undef, sel b3 (Value.int .i64 x3) undef, sel b4 (Value.pointer (some ⟨g, 0, none⟩)) undef, sel b5 (Value.pointer (some ⟨w2.heap.size, 0, none⟩)) undef, sel b6 (Value.int .i64 n) undef, sel b7 (Value.int .i64 x7) undef, sel b8 (Value.pointer (some ⟨g, 0, none⟩)) undef, sel b9 (Value.slice (some ⟨yy, 0, none⟩) 6 6) undef, sel b10 (Value.int .i64 x10) undef, sel b11 (Value.agg #[.int .i64 x3, .int .i64 x7, .int .i64 x10]) undef, undef, undef, undef, undef, undef, undef, undef, undef, undef, undef, undef, undef, undef, undef, undef, undef, undef, undef, undef, undef, undef, undef, undef, undef, undef, undef, undef, undef, undef, undef, undef, undef, undef, undef, undef, undef, undef, undef, undef], defers := [] } ∧ Hid ((Rd w0 w' g ((0 + 44) + b3.toNat + b7.toNat + b10.toNat)) ∧ (wr.grownBy w' (some g)) ∧ (b9 = true → b10 = false → RowN w' g (.slice (some ⟨yy, 0, none⟩) 6 6) [1, 5, 3, 20, 999, 0]) ∧ (b12 = true → wr.heap.size ≤ ee ∧ ee < w'.heap.size) ∧ (b12 = true → b13 = false → Box w' ee 46 #[.int .i64 0, .int .i64 0, .int .i64 0]) ∧ (b13 = true → Box w' ee 46 #[.int .i64 x3, .int .i64 x7, .int .i64 x10]) ∧ (b2 = true → (b1) = true) ∧ (b3 = true → (b0 && b2) = true) ∧ (b6 = true → (b5) = true) ∧ (b7 = true → (b3 && b4 && b6) = true) ∧ (b10 = true → (b7 && b8 && b9) = true) ∧ (b11 = true → (b3 && b7 && b10) = true) ∧ (b13 = true → (b10 && b11 && b12) = true))) (by kernel_rfl) (by kernel_rfl) ?_ ?_ ?_
    · exact ⟨false, false, false, false, false, false, false, false, false, false, false, false, false, false, 0, 0, 0, 0, 0, rfl, rfl, Lib.hid ⟨(Rd.drew' K3.out.1), (g_drew (grown_refl _ _)), (fun h => absurd h (by decide)), (fun h => absurd h (by decide)), (fun h => absurd h (by decide)), (fun h => absurd h (by decide)), (fun h => absurd h (by decide)), (fun h => absurd h (by decide)), (fun h => absurd h (by decide)), (fun h => absurd h (by decide)), (fun h => absurd h (by decide)), (fun h => absurd h (by decide)), (fun h => absurd h (by decide))⟩⟩
    · rintro L a w' hL ⟨b0, b1, b2, b3, b4, b5, b6, b7, b8, b9, b10, b11, b12, b13, x3, x7, x10, yy, ee, rfl, rfl, HF⟩ k9 o9 ho hl hd
      have hk9 : k9 = 0 ∨ k9 = 1 ∨ k9 = 2 ∨ k9 = 3 ∨ k9 = 4 ∨ k9 = 5 ∨ k9 = 6 ∨ k9 = 7 ∨ k9 = 8 ∨ k9 = 9 ∨ k9 = 10 ∨ k9 = 11 ∨ k9 = 12 ∨ k9 = 13 := by have := (Array.getElem?_eq_some_iff.1 ho).1; simp at this; omega
      rcases hk9 with rfl | rfl | rfl | rfl | rfl | rfl | rfl | rfl | rfl | rfl | rfl | rfl | rfl | rfl
      · obtain rfl := Option.some.inj ho
        have hc0 : b0 = false := hl
        subst hc0
        have hc3 : b3 = false := by cases hx9 : b3 with | false => rfl | true => (have hy9 := HF.out.2.2.2.2.2.2.2.1 hx9; simp at hy9)
        subst hc3
        have hc7 : b7 = false := by cases hx9 : b7 with | false => rfl | true => (have hy9 := HF.out.2.2.2.2.2.2.2.2.2.1 hx9; simp at hy9)
        subst hc7
        have hc10 : b10 = false := by cases hx9 : b10 with | false => rfl | true => (have hy9 := HF.out.2.2.2.2.2.2.2.2.2.2.1 hx9; simp at hy9)
        subst hc10
        have hc11 : b11 = false := by cases hx9 : b11 with | false => rfl | true => (have hy9 := HF.out.2.2.2.2.2.2.2.2.2.2.2.1 hx9; simp at hy9)
        subst hc11
        have hc13 : b13 = false := by cases hx9 : b13 with | false => rfl | true => (have hy9 := HF.out.2.2.2.2.2.2.2.2.2.2.2.2 hx9; simp at hy9)
        subst hc13
        clear hl hd ho hL
        simp only [sel_t, sel_f]
        refine wpOp_step rfl ?_
        intro K' hK'
        go_simp
        exact hK' _ _ ⟨true, b1, b2, false, b4, b5, b6, false, b8, b9, false, false, b12, false, x3, x7, x10, yy, ee, rfl, rfl, Lib.hid ⟨HF.out.1, HF.out.2.1, HF.out.2.2.1, HF.out.2.2.2.1, HF.out.2.2.2.2.1, HF.out.2.2.2.2.2.1, HF.out.2.2.2.2.2.2.1, (fun h => absurd h (by decide)), HF.out.2.2.2.2.2.2.2.2.1, (fun h => absurd h (by decide)), (fun h => absurd h (by decide)), (fun h => absurd h (by decide)), (fun h => absurd h (by decide))⟩⟩
      · obtain rfl := Option.some.inj ho
        have hc1 : b1 = false := hl
        subst hc1
        have hc2 : b2 = false := by cases hx9 : b2 with | false => rfl | true => (have hy9 := HF.out.2.2.2.2.2.2.1 hx9; simp at hy9)
        subst hc2
        have hc3 : b3 = false := by cases hx9 : b3 with | false => rfl | true => (have hy9 := HF.out.2.2.2.2.2.2.2.1 hx9; simp at hy9)
        subst hc3
        have hc7 : b7 = false := by cases hx9 : b7 with | false => rfl | true => (have hy9 := HF.out.2.2.2.2.2.2.2.2.2.1 hx9; simp at hy9)
        subst hc7
        have hc10 : b10 = false := by cases hx9 : b10 with | false => rfl | true => (have hy9 := HF.out.2.2.2.2.2.2.2.2.2.2.1 hx9; simp at hy9)
        subst hc10
        have hc11 : b11 = false := by cases hx9 : b11 with | false => rfl | true => (have hy9 := HF.out.2.2.2.2.2.2.2.2.2.2.2.1 hx9; simp at hy9)
        subst hc11
        have hc13 : b13 = false := by cases hx9 : b13 with | false => rfl | true => (have hy9 := HF.out.2.2.2.2.2.2.2.2.2.2.2.2 hx9; simp at hy9)
        subst hc13
        clear hl hd ho hL
        simp only [sel_t, sel_f]
        refine wpOp_step rfl ?_
        intro K' hK'
        go_simp
        exact hK' _ _ ⟨b0, true, false, false, b4, b5, b6, false, b8, b9, false, false, b12, false, x3, x7, x10, yy, ee, rfl, rfl, Lib.hid ⟨HF.out.1, HF.out.2.1, HF.out.2.2.1, HF.out.2.2.2.1, HF.out.2.2.2.2.1, HF.out.2.2.2.2.2.1, (fun h => absurd h (by decide)), (fun h => absurd h (by decide)), HF.out.2.2.2.2.2.2.2.2.1, (fun h => absurd h (by decide)), (fun h => absurd h (by decide)), (fun h => absurd h (by decide)), (fun h => absurd h (by decide))⟩⟩
      · obtain rfl := Option.some.inj ho
        have hc2 : b2 = false := hl
        have hc1 : b1 = true := by first | (refine hd ⟨1, .data⟩ ?_ rfl; simp; done) | (refine hd ⟨1, .chain⟩ ?_ rfl; simp; done) | (refine hd ⟨1, .phase⟩ ?_ rfl; simp; done)
        subst hc2 hc1
        have hc3 : b3 = false := by cases hx9 : b3 with | false => rfl | true => (have hy9 := HF.out.2.2.2.2.2.2.2.1 hx9; simp at hy9)
        subst hc3
        have hc7 : b7 = false := by cases hx9 : b7 with | false => rfl | true => (have hy9 := HF.out.2.2.2.2.2.2.2.2.2.1 hx9; simp at hy9)
        subst hc7
        have hc10 : b10 = false := by cases hx9 : b10 with | false => rfl | true => (have hy9 := HF.out.2.2.2.2.2.2.2.2.2.2.1 hx9; simp at hy9)
        subst hc10
        have hc11 : b11 = false := by cases hx9 : b11 with | false => rfl | true => (have hy9 := HF.out.2.2.2.2.2.2.2.2.2.2.2.1 hx9; simp at hy9)
        subst hc11
        have hc13 : b13 = false := by cases hx9 : b13 with | false => rfl | true => (have hy9 := HF.out.2.2.2.2.2.2.2.2.2.2.2.2 hx9; simp at hy9)
        subst hc13
        clear hl hd ho hL
        simp only [sel_t, sel_f]
        have x0 : w'.cell? ⟨w2.heap.size, 0, none⟩ = some (.int .i64 n) := by simpa using (HXG.out.grownG HF.out.2.1 (by omega)).cell 0
        refine wpOp_step rfl ?_
        intro K' hK'
        go_simp
        exact hK' _ _ ⟨b0, true, true, false, b4, b5, b6, false, b8, b9, false, false, b12, false, x3, x7, x10, yy, ee, rfl, rfl, Lib.hid ⟨HF.out.1, HF.out.2.1, HF.out.2.2.1, HF.out.2.2.2.1, HF.out.2.2.2.2.1, HF.out.2.2.2.2.2.1, (fun _ => rfl), (fun h => absurd h (by decide)), HF.out.2.2.2.2.2.2.2.2.1, (fun h => absurd h (by decide)), (fun h => absurd h (by decide)), (fun h => absurd h (by decide)), (fun h => absurd h (by decide))⟩⟩
      · obtain rfl := Option.some.inj ho
        have hc3 : b3 = false := hl
        have hc2 : b2 = true := by first | (refine hd ⟨2, .data⟩ ?_ rfl; simp; done) | (refine hd ⟨2, .chain⟩ ?_ rfl; simp; done) | (refine hd ⟨2, .phase⟩ ?_ rfl; simp; done)
        have hc0 : b0 = true := by first | (refine hd ⟨0, .data⟩ ?_ rfl; simp; done) | (refine hd ⟨0, .chain⟩ ?_ rfl; simp; done) | (refine hd ⟨0, .phase⟩ ?_ rfl; simp; done)
        subst hc3 hc2 hc0
        have hc7 : b7 = false := by cases hx9 : b7 with | false => rfl | true => (have hy9 := HF.out.2.2.2.2.2.2.2.2.2.1 hx9; simp at hy9)
        subst hc7
        have hc10 : b10 = false := by cases hx9 : b10 with | false => rfl | true => (have hy9 := HF.out.2.2.2.2.2.2.2.2.2.2.1 hx9; simp at hy9)
        subst hc10
        have hc11 : b11 = false := by cases hx9 : b11 with | false => rfl | true => (have hy9 := HF.out.2.2.2.2.2.2.2.2.2.2.2.1 hx9; simp at hy9)
        subst hc11
        have hc13 : b13 = false := by cases hx9 : b13 with | false => rfl | true => (have hy9 := HF.out.2.2.2.2.2.2.2.2.2.2.2.2 hx9; simp at hy9)
        subst hc13
        clear hl hd ho hL
        simp only [sel_t, sel_f]
        have hcall := pick n w0 w' g _ HF.out.1 (by simp only [Bool.toNat_false, Bool.toNat_true]; omega) (by omega)
        have HC9 := Lib.hid hcall
        clear hcall
        refine wpOp_step rfl ?_
        intro K' hK'
        go_simp
        refine HC9.out.mono ?_
        rintro e9 w9 ⟨x9, rfl, hx9, hy9, hR9, hG9⟩
        exact hK' _ _ ⟨true, b1, true, true, b4, b5, b6, false, b8, b9, false, false, b12, false, x9, x7, x10, yy, ee, rfl, rfl, Lib.hid ⟨(hR9.more (by simp only [Bool.toNat_false, Bool.toNat_true]; omega)), (grown_trans' HF.out.2.1 hG9), (fun h h0 => (HF.out.2.2.1 h h0).grown hG9), (fun h => ⟨(HF.out.2.2.2.1 h).1, Nat.lt_of_lt_of_le (HF.out.2.2.2.1 h).2 hG9.size⟩), (fun h h0 => (HF.out.2.2.2.2.1 h rfl).grownG hG9 (by have := (HF.out.2.2.2.1 h).1; have := Rd.lt (K3.out.1); omega)), (fun h => absurd h (by decide)), HF.out.2.2.2.2.2.2.1, (fun _ => rfl), HF.out.2.2.2.2.2.2.2.2.1, (fun h => absurd h (by decide)), (fun h => absurd h (by decide)), (fun h => absurd h (by decide)), (fun h => absurd h (by decide))⟩⟩
      · obtain rfl := Option.some.inj ho
        have hc4 : b4 = false := hl
        subst hc4
        have hc7 : b7 = false := by cases hx9 : b7 with | false => rfl | true => (have hy9 := HF.out.2.2.2.2.2.2.2.2.2.1 hx9; simp at hy9)
        subst hc7
        have hc10 : b10 = false := by cases hx9 : b10 with | false => rfl | true => (have hy9 := HF.out.2.2.2.2.2.2.2.2.2.2.1 hx9; simp at hy9)
        subst hc10
        have hc11 : b11 = false := by cases hx9 : b11 with | false => rfl | true => (have hy9 := HF.out.2.2.2.2.2.2.2.2.2.2.2.1 hx9; simp at hy9)
        subst hc11
        have hc13 : b13 = false := by cases hx9 : b13 with | false => rfl | true => (have hy9 := HF.out.2.2.2.2.2.2.2.2.2.2.2.2 hx9; simp at hy9)
        subst hc13
        clear hl hd ho hL
        simp only [sel_t, sel_f]
        refine wpOp_step rfl ?_
        intro K' hK'
        go_simp
        exact hK' _ _ ⟨b0, b1, b2, b3, true, b5, b6, false, b8, b9, false, false, b12, false, x3, x7, x10, yy, ee, rfl, rfl, Lib.hid ⟨HF.out.1, HF.out.2.1, HF.out.2.2.1, HF.out.2.2.2.1, HF.out.2.2.2.2.1, HF.out.2.2.2.2.2.1, HF.out.2.2.2.2.2.2.1, HF.out.2.2.2.2.2.2.2.1, HF.out.2.2.2.2.2.2.2.2.1, (fun h => absurd h (by decide)), (fun h => absurd h (by decide)), (fun h => absurd h (by decide)), (fun h => absurd h (by decide))⟩⟩
      · obtain rfl := Option.some.inj ho
        have hc5 : b5 = false := hl
        subst hc5
        have hc6 : b6 = false := by cases hx9 : b6 with | false => rfl | true => (have hy9 := HF.out.2.2.2.2.2.2.2.2.1 hx9; simp at hy9)
        subst hc6
        have hc7 : b7 = false := by cases hx9 : b7 with | false => rfl | true => (have hy9 := HF.out.2.2.2.2.2.2.2.2.2.1 hx9; simp at hy9)
        subst hc7
        have hc10 : b10 = false := by cases hx9 : b10 with | false => rfl | true => (have hy9 := HF.out.2.2.2.2.2.2.2.2.2.2.1 hx9; simp at hy9)
        subst hc10
        have hc11 : b11 = false := by cases hx9 : b11 with | false => rfl | true => (have hy9 := HF.out.2.2.2.2.2.2.2.2.2.2.2.1 hx9; simp at hy9)
        subst hc11
        have hc13 : b13 = false := by cases hx9 : b13 with | false => rfl | true => (have hy9 := HF.out.2.2.2.2.2.2.2.2.2.2.2.2 hx9; simp at hy9)
        subst hc13
        clear hl hd ho hL
        simp only [sel_t, sel_f]
        refine wpOp_step rfl ?_
        intro K' hK'
        go_simp
        exact hK' _ _ ⟨b0, b1, b2, b3, b4, true, false, false, b8, b9, false, false, b12, false, x3, x7, x10, yy, ee, rfl, rfl, Lib.hid ⟨HF.out.1, HF.out.2.1, HF.out.2.2.1, HF.out.2.2.2.1, HF.out.2.2.2.2.1, HF.out.2.2.2.2.2.1, HF.out.2.2.2.2.2.2.1, HF.out.2.2.2.2.2.2.2.1, (fun h => absurd h (by decide)), (fun h => absurd h (by decide)), (fun h => absurd h (by decide)), (fun h => absurd h (by decide)), (fun h => absurd h (by decide))⟩⟩
      · obtain rfl := Option.some.inj ho
        have hc6 : b6 = false := hl
        have hc5 : b5 = true := by first | (refine hd ⟨5, .data⟩ ?_ rfl; simp; done) | (refine hd ⟨5, .chain⟩ ?_ rfl; simp; done) | (refine hd ⟨5, .phase⟩ ?_ rfl; simp; done)
        subst hc6 hc5
        have hc7 : b7 = false := by cases hx9 : b7 with | false => rfl | true => (have hy9 := HF.out.2.2.2.2.2.2.2.2.2.1 hx9; simp at hy9)
        subst hc7
        have hc10 : b10 = false := by cases hx9 : b10 with | false => rfl | true => (have hy9 := HF.out.2.2.2.2.2.2.2.2.2.2.1 hx9; simp at hy9)
        subst hc10
        have hc11 : b11 = false := by cases hx9 : b11 with | false => rfl | true => (have hy9 := HF.out.2.2.2.2.2.2.2.2.2.2.2.1 hx9; simp at hy9)
        subst hc11
        have hc13 : b13 = false := by cases hx9 : b13 with | false => rfl | true => (have hy9 := HF.out.2.2.2.2.2.2.2.2.2.2.2.2 hx9; simp at hy9)
        subst hc13
        clear hl hd ho hL
        simp only [sel_t, sel_f]
        have x0 : w'.cell? ⟨w2.heap.size, 0, none⟩ = some (.int .i64 n) := by simpa using (HXG.out.grownG HF.out.2.1 (by omega)).cell 0
        refine wpOp_step rfl ?_
        intro K' hK'
        go_simp
        exact hK' _ _ ⟨b0, b1, b2, b3, b4, true, true, false, b8, b9, false, false, b12, false, x3, x7, x10, yy, ee, rfl, rfl, Lib.hid ⟨HF.out.1, HF.out.2.1, HF.out.2.2.1, HF.out.2.2.2.1, HF.out.2.2.2.2.1, HF.out.2.2.2.2.2.1, HF.out.2.2.2.2.2.2.1, HF.out.2.2.2.2.2.2.2.1, (fun _ => rfl), (fun h => absurd h (by decide)), (fun h => absurd h (by decide)), (fun h => absurd h (by decide)), (fun h => absurd h (by decide))⟩⟩
      · obtain rfl := Option.some.inj ho
        have hc7 : b7 = false := hl
        have hc6 : b6 = true := by first | (refine hd ⟨6, .data⟩ ?_ rfl; simp; done) | (refine hd ⟨6, .chain⟩ ?_ rfl; simp; done) | (refine hd ⟨6, .phase⟩ ?_ rfl; simp; done)
        have hc4 : b4 = true := by first | (refine hd ⟨4, .data⟩ ?_ rfl; simp; done) | (refine hd ⟨4, .chain⟩ ?_ rfl; simp; done) | (refine hd ⟨4, .phase⟩ ?_ rfl; simp; done)
        have hc3 : b3 = true := by first | (refine hd ⟨3, .data⟩ ?_ rfl; simp; done) | (refine hd ⟨3, .chain⟩ ?_ rfl; simp; done) | (refine hd ⟨3, .phase⟩ ?_ rfl; simp; done)
        subst hc7 hc6 hc4 hc3
        have hc10 : b10 = false := by cases hx9 : b10 with | false => rfl | true => (have hy9 := HF.out.2.2.2.2.2.2.2.2.2.2.1 hx9; simp at hy9)
        subst hc10
        have hc11 : b11 = false := by cases hx9 : b11 with | false => rfl | true => (have hy9 := HF.out.2.2.2.2.2.2.2.2.2.2.2.1 hx9; simp at hy9)
        subst hc11
        have hc13 : b13 = false := by cases hx9 : b13 with | false => rfl | true => (have hy9 := HF.out.2.2.2.2.2.2.2.2.2.2.2.2 hx9; simp at hy9)
        subst hc13
        clear hl hd ho hL
        simp only [sel_t, sel_f]
        have hcall := pick n w0 w' g _ HF.out.1 (by simp only [Bool.toNat_false, Bool.toNat_true]; omega) (by omega)
        have HC9 := Lib.hid hcall
        clear hcall
        refine wpOp_step rfl ?_
        intro K' hK'
        go_simp
        refine HC9.out.mono ?_
        rintro e9 w9 ⟨x9, rfl, hx9, hy9, hR9, hG9⟩
        exact hK' _ _ ⟨b0, b1, b2, true, true, b5, true, true, b8, b9, false, false, b12, false, x3, x9, x10, yy, ee, rfl, rfl, Lib.hid ⟨(hR9.more (by simp only [Bool.toNat_false, Bool.toNat_true]; omega)), (grown_trans' HF.out.2.1 hG9), (fun h h0 => (HF.out.2.2.1 h h0).grown hG9), (fun h => ⟨(HF.out.2.2.2.1 h).1, Nat.lt_of_lt_of_le (HF.out.2.2.2.1 h).2 hG9.size⟩), (fun h h0 => (HF.out.2.2.2.2.1 h rfl).grownG hG9 (by have := (HF.out.2.2.2.1 h).1; have := Rd.lt (K3.out.1); omega)), (fun h => absurd h (by decide)), HF.out.2.2.2.2.2.2.1, HF.out.2.2.2.2.2.2.2.1, HF.out.2.2.2.2.2.2.2.2.1, (fun _ => rfl), (fun h => absurd h (by decide)), (fun h => absurd h (by decide)), (fun h => absurd h (by decide))⟩⟩
      · obtain rfl := Option.some.inj ho
        have hc8 : b8 = false := hl
        subst hc8
        have hc10 : b10 = false := by cases hx9 : b10 with | false => rfl | true => (have hy9 := HF.out.2.2.2.2.2.2.2.2.2.2.1 hx9; simp at hy9)
        subst hc10
        have hc11 : b11 = false := by cases hx9 : b11 with | false => rfl | true => (have hy9 := HF.out.2.2.2.2.2.2.2.2.2.2.2.1 hx9; simp at hy9)
        subst hc11
        have hc13 : b13 = false := by cases hx9 : b13 with | false => rfl | true => (have hy9 := HF.out.2.2.2.2.2.2.2.2.2.2.2.2 hx9; simp at hy9)
        subst hc13
        clear hl hd ho hL
        simp only [sel_t, sel_f]
        refine wpOp_step rfl ?_
        intro K' hK'
        go_simp
        exact hK' _ _ ⟨b0, b1, b2, b3, b4, b5, b6, b7, true, b9, false, false, b12, false, x3, x7, x10, yy, ee, rfl, rfl, Lib.hid ⟨HF.out.1, HF.out.2.1, HF.out.2.2.1, HF.out.2.2.2.1, HF.out.2.2.2.2.1, HF.out.2.2.2.2.2.1, HF.out.2.2.2.2.2.2.1, HF.out.2.2.2.2.2.2.2.1, HF.out.2.2.2.2.2.2.2.2.1, HF.out.2.2.2.2.2.2.2.2.2.1, (fun h => absurd h (by decide)), (fun h => absurd h (by decide)), (fun h => absurd h (by decide))⟩⟩
      · obtain rfl := Option.some.inj ho
        have hc9 : b9 = false := hl
        subst hc9
        have hc10 : b10 = false := by cases hx9 : b10 with | false => rfl | true => (have hy9 := HF.out.2.2.2.2.2.2.2.2.2.2.1 hx9; simp at hy9)
        subst hc10
        have hc11 : b11 = false := by cases hx9 : b11 with | false => rfl | true => (have hy9 := HF.out.2.2.2.2.2.2.2.2.2.2.2.1 hx9; simp at hy9)
        subst hc11
        have hc13 : b13 = false := by cases hx9 : b13 with | false => rfl | true => (have hy9 := HF.out.2.2.2.2.2.2.2.2.2.2.2.2 hx9; simp at hy9)
        subst hc13
        clear hl hd ho hL
        simp only [sel_t, sel_f]
        refine wpOp_step rfl ?_
        intro K' hK'
        go_simp
        exact hK' _ _ ⟨b0, b1, b2, b3, b4, b5, b6, b7, b8, true, false, false, b12, false, x3, x7, x10, w'.heap.size, ee, rfl, rfl, Lib.hid ⟨(HF.out.1.alloc' _), (g_alloc HF.out.2.1 _), (fun _ _ => rowN_at [1, 5, 3, 20, 999, 0] w' g _ _ rfl HF.out.1.lt), (fun h => ⟨(HF.out.2.2.2.1 h).1, Nat.lt_of_lt_of_le (HF.out.2.2.2.1 h).2 (by simp)⟩), (fun h h0 => (HF.out.2.2.2.2.1 h rfl).alloc _), (fun h => absurd h (by decide)), HF.out.2.2.2.2.2.2.1, HF.out.2.2.2.2.2.2.2.1, HF.out.2.2.2.2.2.2.2.2.1, HF.out.2.2.2.2.2.2.2.2.2.1, (fun h => absurd h (by decide)), (fun h => absurd h (by decide)), (fun h => absurd h (by decide))⟩⟩
      · obtain rfl := Option.some.inj ho
        have hc10 : b10 = false := hl
        have hc9 : b9 = true := by first | (refine hd ⟨9, .data⟩ ?_ rfl; simp; done) | (refine hd ⟨9, .chain⟩ ?_ rfl; simp; done) | (refine hd ⟨9, .phase⟩ ?_ rfl; simp; done)
        have hc8 : b8 = true := by first | (refine hd ⟨8, .data⟩ ?_ rfl; simp; done) | (refine hd ⟨8, .chain⟩ ?_ rfl; simp; done) | (refine hd ⟨8, .phase⟩ ?_ rfl; simp; done)
        have hc7 : b7 = true := by first | (refine hd ⟨7, .data⟩ ?_ rfl; simp; done) | (refine hd ⟨7, .chain⟩ ?_ rfl; simp; done) | (refine hd ⟨7, .phase⟩ ?_ rfl; simp; done)
        subst hc10 hc9 hc8 hc7
        have hc11 : b11 = false := by cases hx9 : b11 with | false => rfl | true => (have hy9 := HF.out.2.2.2.2.2.2.2.2.2.2.2.1 hx9; simp at hy9)
        subst hc11
        have hc13 : b13 = false := by cases hx9 : b13 with | false => rfl | true => (have hy9 := HF.out.2.2.2.2.2.2.2.2.2.2.2.2 hx9; simp at hy9)
        subst hc13
        clear hl hd ho hL
        simp only [sel_t, sel_f]
        have hcall := num [1, 5, 3, 20, 999, 0] (.slice (some ⟨yy, 0, none⟩) 6 6) w0 w' g _ HF.out.1 (by have := b3.toNat_le; simp only [Bool.toNat_false, Bool.toNat_true]; omega) (HF.out.2.2.1 rfl rfl) (by decide) (by decide)
        have HC9 := Lib.hid hcall
        clear hcall
        refine wpOp_step rfl ?_
        intro K' hK'
        go_simp
        refine HC9.out.mono ?_
        rintro e9 w9 ⟨x9, hx9, rfl, hR9, hG9⟩
        exact hK' _ _ ⟨b0, b1, b2, b3, b4, b5, b6, true, true, true, true, false, b12, false, x3, x7, x9, yy, ee, rfl, rfl, Lib.hid ⟨(hR9.more (by simp only [Bool.toNat_false, Bool.toNat_true]; omega)), (grown_trans' HF.out.2.1 hG9), (fun _ h => absurd h (by decide)), (fun h => ⟨(HF.out.2.2.2.1 h).1, Nat.lt_of_lt_of_le (HF.out.2.2.2.1 h).2 hG9.size⟩), (fun h h0 => (HF.out.2.2.2.2.1 h rfl).grownG hG9 (by have := (HF.out.2.2.2.1 h).1; have := Rd.lt (K3.out.1); omega)), (fun h => absurd h (by decide)), HF.out.2.2.2.2.2.2.1, HF.out.2.2.2.2.2.2.2.1, HF.out.2.2.2.2.2.2.2.2.1, HF.out.2.2.2.2.2.2.2.2.2.1, (fun _ => rfl), (fun h => absurd h (by decide)), (fun h => absurd h (by decide))⟩⟩
      · obtain rfl := Option.some.inj ho
        have hc11 : b11 = false := hl
        have hc10 : b10 = true := by first | (refine hd ⟨10, .data⟩ ?_ rfl; simp; done) | (refine hd ⟨10, .chain⟩ ?_ rfl; simp; done) | (refine hd ⟨10, .phase⟩ ?_ rfl; simp; done)
        have hc7 : b7 = true := by first | (refine hd ⟨7, .data⟩ ?_ rfl; simp; done) | (refine hd ⟨7, .chain⟩ ?_ rfl; simp; done) | (refine hd ⟨7, .phase⟩ ?_ rfl; simp; done) | exact HF.out.2.2.2.2.2.2.2.2.2.2.1 hc10 | (have hy9 := HF.out.2.2.2.2.2.2.2.2.2.2.1 hc10; simp at hy9; simp [hy9]; done)
        have hc3 : b3 = true := by first | (refine hd ⟨3, .data⟩ ?_ rfl; simp; done) | (refine hd ⟨3, .chain⟩ ?_ rfl; simp; done) | (refine hd ⟨3, .phase⟩ ?_ rfl; simp; done) | exact HF.out.2.2.2.2.2.2.2.2.2.1 hc7 | (have hy9 := HF.out.2.2.2.2.2.2.2.2.2.1 hc7; simp at hy9; simp [hy9]; done)
        subst hc11 hc10 hc7 hc3
        have hc13 : b13 = false := by cases hx9 : b13 with | false => rfl | true => (have hy9 := HF.out.2.2.2.2.2.2.2.2.2.2.2.2 hx9; simp at hy9)
        subst hc13
        clear hl hd ho hL
        simp only [sel_t, sel_f]
        refine wpOp_step rfl ?_
        intro K' hK'
        go_simp
        exact hK' _ _ ⟨b0, b1, b2, true, b4, b5, b6, true, b8, b9, true, true, b12, false, x3, x7, x10, yy, ee, rfl, rfl, Lib.hid ⟨HF.out.1, HF.out.2.1, HF.out.2.2.1, HF.out.2.2.2.1, HF.out.2.2.2.2.1, HF.out.2.2.2.2.2.1, HF.out.2.2.2.2.2.2.1, HF.out.2.2.2.2.2.2.2.1, HF.out.2.2.2.2.2.2.2.2.1, (fun h => by have := HF.out.2.2.2.2.2.2.2.2.2.1 h; simpa using this), (fun h => by have := HF.out.2.2.2.2.2.2.2.2.2.2.1 h; simpa using this), (fun _ => rfl), (fun h => absurd h (by decide))⟩⟩
      · obtain rfl := Option.some.inj ho
        have hc12 : b12 = false := hl
        subst hc12
        have hc13 : b13 = false := by cases hx9 : b13 with | false => rfl | true => (have hy9 := HF.out.2.2.2.2.2.2.2.2.2.2.2.2 hx9; simp at hy9)
        subst hc13
        clear hl hd ho hL
        simp only [sel_t, sel_f]
        refine wpOp_step rfl ?_
        intro K' hK'
        go_simp
        exact hK' _ _ ⟨b0, b1, b2, b3, b4, b5, b6, b7, b8, b9, b10, b11, true, false, x3, x7, x10, yy, w'.heap.size, rfl, rfl, Lib.hid ⟨(HF.out.1.alloc' _), (g_alloc HF.out.2.1 _), (fun h h0 => (HF.out.2.2.1 h h0).grown (g_alloc (grown_refl _ _) _)), (fun _ => ⟨HF.out.2.1.size, by simp⟩), (fun _ _ => Box.new w' _ _), (fun h => absurd h (by decide)), HF.out.2.2.2.2.2.2.1, HF.out.2.2.2.2.2.2.2.1, HF.out.2.2.2.2.2.2.2.2.1, HF.out.2.2.2.2.2.2.2.2.2.1, HF.out.2.2.2.2.2.2.2.2.2.2.1, HF.out.2.2.2.2.2.2.2.2.2.2.2.1, (fun h => absurd h (by decide))⟩⟩
      · obtain rfl := Option.some.inj ho
        have hc13 : b13 = false := hl
        have hc12 : b12 = true := by first | (refine hd ⟨12, .data⟩ ?_ rfl; simp; done) | (refine hd ⟨12, .chain⟩ ?_ rfl; simp; done) | (refine hd ⟨12, .phase⟩ ?_ rfl; simp; done)
        have hc11 : b11 = true := by first | (refine hd ⟨11, .data⟩ ?_ rfl; simp; done) | (refine hd ⟨11, .chain⟩ ?_ rfl; simp; done) | (refine hd ⟨11, .phase⟩ ?_ rfl; simp; done)
        have hc10 : b10 = true := by first | (refine hd ⟨10, .data⟩ ?_ rfl; simp; done) | (refine hd ⟨10, .chain⟩ ?_ rfl; simp; done) | (refine hd ⟨10, .phase⟩ ?_ rfl; simp; done) | exact HF.out.2.2.2.2.2.2.2.2.2.2.2.1 hc11 | (have hy9 := HF.out.2.2.2.2.2.2.2.2.2.2.2.1 hc11; simp at hy9; simp [hy9]; done)
        subst hc13 hc12 hc11 hc10
        clear hl hd ho hL
        simp only [sel_t, sel_f]
        have hB9 := HF.out.2.2.2.2.1 rfl rfl
        have c0 : w'.cell? ⟨ee, 0, none⟩ = some (.int .i64 0) := by simpa using hB9.cell 0
        have c1 : w'.cell? ⟨ee, 1, none⟩ = some (.int .i64 0) := by simpa using hB9.cell 1
        have c2 : w'.cell? ⟨ee, 2, none⟩ = some (.int .i64 0) := by simpa using hB9.cell 2
        have f0 := hB9.frozen 0
        have f1 := hB9.frozen 1
        have f2 := hB9.frozen 2
        have hge9 := (HF.out.2.2.2.1 rfl).1
        have hlt9 := (HF.out.2.2.2.1 rfl).2
        have hgl9 := Rd.lt (K3.out.1)
        have hnw9 := (Rd.bel (K3.out.1)).size
        refine wpOp_step rfl ?_
        intro K' hK'
        go_simp
        exact hK' _ _ ⟨b0, b1, b2, b3, b4, b5, b6, b7, b8, b9, true, true, true, true, x3, x7, x10, yy, ee, rfl, rfl, Lib.hid ⟨(((HF.out.1.set' (by omega) (by omega) _).set' (by omega) (by omega) _).set' (by omega) (by omega) _), (g_set (g_set (g_set HF.out.2.1 hge9) hge9) hge9), (fun _ h => absurd h (by simp)), (fun _ => ⟨hge9, by simpa using hlt9⟩), (fun _ h => absurd h (by decide)), (fun _ => by simpa using ((hB9.set 0 (.int .i64 x3)).set 1 (.int .i64 x7)).set 2 (.int .i64 x10)), HF.out.2.2.2.2.2.2.1, HF.out.2.2.2.2.2.2.2.1, HF.out.2.2.2.2.2.2.2.2.1, HF.out.2.2.2.2.2.2.2.2.2.1, HF.out.2.2.2.2.2.2.2.2.2.2.1, (fun h => by have := HF.out.2.2.2.2.2.2.2.2.2.2.2.1 h; simpa using this), (fun _ => rfl)⟩⟩
    · rintro L a w' hL ⟨b0, b1, b2, b3, b4, b5, b6, b7, b8, b9, b10, b11, b12, b13, x3, x7, x10, yy, ee, rfl, rfl, HF⟩ hall
      have hc0 : b0 = true := hall 0 (by decide)
      have hc1 : b1 = true := hall 1 (by decide)
      have hc2 : b2 = true := hall 2 (by decide)
      have hc3 : b3 = true := hall 3 (by decide)
      have hc4 : b4 = true := hall 4 (by decide)
      have hc5 : b5 = true := hall 5 (by decide)
      have hc6 : b6 = true := hall 6 (by decide)
      have hc7 : b7 = true := hall 7 (by decide)
      have hc8 : b8 = true := hall 8 (by decide)
      have hc9 : b9 = true := hall 9 (by decide)
      have hc10 : b10 = true := hall 10 (by decide)
      have hc11 : b11 = true := hall 11 (by decide)
      have hc12 : b12 = true := hall 12 (by decide)
      have hc13 : b13 = true := hall 13 (by decide)
      subst hc0 hc1 hc2 hc3 hc4 hc5 hc6 hc7 hc8 hc9 hc10 hc11 hc12 hc13
      simp only [sel_t]
      have HE : Hid (EBox w0 wr w' g (44 + 3) (.pointer (some ⟨ee, 0, none⟩))) := Lib.hid ⟨x3, x7, x10, ee, rfl, HF.out.2.2.2.2.2.1 rfl, (HF.out.2.2.2.1 rfl).1, HF.out.1.more (by simp only [Bool.toNat_true]; omega), HF.out.2.1⟩
      clear HF
      go_wp2_with fail
      go_meet
      case rel => exact HE.out
  · obtain ⟨x, y, z, ee, rfl, hbe, hge, hR, hG⟩ := hcut
    have hs4 := hG.size
    have K4 := Lib.hid (And.intro hR (And.intro (K3.out.2.1.grownG hG (by omega)) (And.intro (K3.out.2.2.1.grownG hG (by omega)) (And.intro (InR.grownG K3.out.2.2.2.1 hG (by omega)) (And.intro (HXG.out.grownG hG (by omega)) hbe)))))
    clear hR hG hbe
    have HM : Hid (EMidC w0 w g w1.heap.size w2.heap.size ee n es (.slice va es.length vc) 60 wc) := Lib.hid ⟨x, y, z, K4.out.1.more (by omega), K4.out.2.1, K4.out.2.2.1, K4.out.2.2.2.1, K4.out.2.2.2.2.1, K4.out.2.2.2.2.2⟩
    have hew : w2.heap.size < ee := by omega
    have hgw : g < w1.heap.size := hlt1
    clear K4 hs4
    go_upto_region 4 with fail
    go_cut [32] from 7 to 62 (fun c wx => ∃ b : Bool, c = .bool b ∧ (b = true → 0 < es.length) ∧ EMidC w0 w g w1.heap.size w2.heap.size ee n es (.slice va es.length vc) 70 wx)
    · obtain ⟨x, y, z, hR, hb0, hb1, hrow, hbg, hbe⟩ := HM.out
      have HK := Lib.hid (And.intro hR (And.intro hb0 (And.intro hb1 (And.intro hrow (And.intro hbg hbe)))))
      have x1 : wc.cell? ⟨w2.heap.size, 1, none⟩ = some (.slice va es.length vc) := by simpa using hbg.cell 1
      have hbig : w2.heap.size < wc.heap.size := hbg.lt
      clear hR hb0 hb1 hrow hbg hbe
      by_cases hpl : 0 < es.length
      · have hp1 : decide ((0 : Int) < es.length) = true := decide_eq_true (by omega)
        have hp2 : decide (0 < es.length) = true := decide_eq_true hpl
        go_wp2_with fail
        refine (pick 2 w0 wc g _ HK.out.1 (by omega) (by omega)).mono ?_
        rintro e w5 ⟨c, rfl, hc0, hc1, hR, hG⟩
        have HE := emidC_grown (q := 70) HK.out (hR.more (show 60 + 1 ≤ 70 by omega)) hG (by omega) (by omega) (by omega) (by omega) (by omega)
        have HEH := Lib.hid HE
        clear HE hR hG hc0 hc1 x1
        go_wp2_with fail
        go_meet
        case rel => exact ⟨_, rfl, fun _ => hpl, HEH.out⟩
      · have hp2 : decide (0 < es.length) = false := decide_eq_false hpl
        have HE := Lib.hid (show EMidC w0 w g w1.heap.size w2.heap.size ee n es (.slice va es.length vc) 70 wc from ⟨x, y, z, HK.out.1.more (by omega), HK.out.2⟩)
        clear HK
        go_wp2_with fail
        go_meet
        case rel => exact ⟨_, rfl, (fun h => by cases h), HE.out⟩
    · obtain ⟨b, rfl, hbl, hE⟩ := hcut
      have HEB := Lib.hid hE
      have HBL := Lib.hid hbl
      clear hbl hE HM
      go_upto_if 32 with fail
      go_cut [] from 7 to 62 (fun wx => EMidC w0 w g w1.heap.size w2.heap.size ee n es (.slice va es.length vc) 80 wx)
      · cases b
        · go_wp2_with fail
          go_meet
          case rel => exact HEB.out.more (by omega)
        · have hpl := HBL.out rfl
          have hpl' : (0 : Int) < es.length := by omega
          obtain ⟨x, y, z, hR, hb0, hb1, hrow, hbg, hbe⟩ := HEB.out
          have HK := Lib.hid (And.intro hR (And.intro hb0 (And.intro hb1 (And.intro hrow (And.intro hbg hbe)))))
          have x1 : wc.cell? ⟨w2.heap.size, 1, none⟩ = some (.slice va es.length vc) := by simpa using hbg.cell 1
          clear hR hb0 hb1 hrow hbg hbe HEB HBL
          go_wp2_with fail
          refine (pick es.length w0 wc g _ HK.out.1 (by omega) (by omega)).mono ?_
          rintro e w5 ⟨k0, rfl, hk0, hk1, hR, hG⟩
          obtain ⟨k, rfl⟩ := Int.eq_ofNat_of_zero_le hk0
          have hk : k < es.length := by omega
          have hk' : (k : Int) < es.length := by omega
          have HE := emidC_grown HK.out hR hG (by omega) (by omega) (by omega) (by omega) (by omega)
          obtain ⟨x, y, z, hR, hb0, hb1, hrow, hbg, hbe⟩ := HE
          obtain ⟨_, _, hva, hz9⟩ := id hrow
          injection hva with hva1 hva2 hva3
          subst hva1
          rcases hz9 with h0 | ⟨rb, ro, rfl, hr1, hr2, hr3, hrc⟩
          · omega
          have c0 := (hrc (k * 3) (by omega)).1
          have c1 := (hrc (k * 3 + 1) (by omega)).1
          rw [cellE0] at c0
          rw [cellE1, ← Nat.add_assoc] at c1
          obtain ⟨p0, hp0⟩ : ∃ p, p = (es.getD k (0, 0, 0)).1 := ⟨_, rfl⟩
          obtain ⟨p1, hp1⟩ : ∃ p, p = (es.getD k (0, 0, 0)).2.1 := ⟨_, rfl⟩
          rw [← hp0] at c0
          rw [← hp1] at c1
          have x1 : w5.cell? ⟨w2.heap.size, 1, none⟩ = some (.slice (some ⟨rb, ro, none⟩) es.length vc) := by simpa using hbg.cell 1
          have e0 : w5.cell? ⟨ee, 0, none⟩ = some (.int .i64 x) := by simpa using hbe.cell 0
          have e1 : w5.cell? ⟨ee, 1, none⟩ = some (.int .i64 y) := by simpa using hbe.cell 1
          have f0 := hbe.frozen 0
          have f1 := hbe.frozen 1
          have hne1 : rb ≠ ee := by omega
          have hne2 : w2.heap.size ≠ ee := by omega
          have hRl := hR.lt
          have HK5 := Lib.hid (And.intro hR (And.intro hb0 (And.intro hb1 (And.intro hrow (And.intro hbg hbe)))))
          clear hR hb0 hb1 hrow hbg hbe hk0 hk1 hG hrc HK hp0 hp1 hva2 hva3
          go_wp2
          go_meet
          case rel =>
            have hR9 := (HK5.out.1.set' (b := ee) (k := 0) (by omega) (by omega) (.int .i64 p0)).set' (b := ee) (k := 1) (by omega) (by omega) (.int .i64 p1)
            exact ⟨p0, p1, z, hR9.more (by omega), (HK5.out.2.1.setOther (by omega) _ _).setOther (by omega) _ _, (HK5.out.2.2.1.setOther (by omega) _ _).setOther (by omega) _ _, (InR.set7 HK5.out.2.2.2.1 (by omega)).set7 (by omega), (HK5.out.2.2.2.2.1.setOther (by omega) _ _).setOther (by omega) _ _, by simpa using (HK5.out.2.2.2.2.2.set 0 (.int .i64 p0)).set 1 (.int .i64 p1)⟩
      · have HEB := Lib.hid hcut
        clear hcut
        go_upto_region 8 with fail
        go_cut [54] from 8 to 62 (fun c wx => ∃ b : Bool, c = .bool b ∧ EMidC w0 w g w1.heap.size w2.heap.size ee n es (.slice va es.length vc) 90 wx)
        · obtain ⟨x, y, z, hK⟩ := HEB.out
          have HK := Lib.hid hK
          clear hK HEB
          go_wp2_with fail
          refine (pick 20 w0 wc g _ HK.out.1 (by omega) (by omega)).mono ?_
          rintro e w5 ⟨c, rfl, hc0, hc1, hR, hG⟩
          have HE := Lib.hid (emidC_grown (q := 90) HK.out (hR.more (by omega)) hG (by omega) (by omega) (by omega) (by omega) (by omega))
          clear hR hG hc0 hc1
          go_wp2_with fail
          go_meet
          case rel => exact ⟨_, rfl, HE.out⟩
        · obtain ⟨b, rfl, hE⟩ := hcut
          have HEB := Lib.hid hE
          clear hE
          go_upto_if 54 with fail
          go_cut [] from 8 to 62 (fun wx => EMidC w0 w g w1.heap.size w2.heap.size ee n es (.slice va es.length vc) 100 wx)
          · cases b
            · go_wp2_with fail
              go_meet
              case rel => exact HEB.out.more (by omega)
            · obtain ⟨x, y, z, hK⟩ := HEB.out
              have HK := Lib.hid hK
              clear hK HEB
              go_wp2_with fail
              refine (num_built [-1, 12] w0 wc g _ HK.out.1 (by omega) _ (by decide) (by decide)).mono ?_
              rintro e w5 ⟨c, hc, rfl, hR, hG⟩
              have HE := Lib.hid (emidC_grown (q := 91) HK.out (hR.more (by omega)) hG (by omega) (by omega) (by omega) (by omega) (by omega))
              clear hR hG hc HK
              obtain ⟨x, y, z, hK⟩ := HE.out
              have HK := Lib.hid hK
              have e1 : w5.cell? ⟨ee, 1, none⟩ = some (.int .i64 y) := by simpa using hK.2.2.2.2.2.cell 1
              have f1 := hK.2.2.2.2.2.frozen 1
              have hRl := hK.1.lt
              clear hK HE
              go_wp2
              go_meet
              case rel => exact ⟨x, c, z, (HK.out.1.set' (b := ee) (k := 1) (by omega) (by omega) (.int .i64 c)).more (by omega), HK.out.2.1.setOther (by omega) _ _, HK.out.2.2.1.setOther (by omega) _ _, InR.set7 HK.out.2.2.2.1 (by omega), HK.out.2.2.2.2.1.setOther (by omega) _ _, by simpa using HK.out.2.2.2.2.2.set 1 (.int .i64 c)⟩
          · obtain ⟨x, y, z, hK⟩ := hcut
            have HK := Lib.hid hK
            clear hK HEB
            have hbig : ee < wc.heap.size := HK.out.2.2.2.2.2.lt
            go_upto_region 10 with fail
            refine wp_region_inv (fun L a w' => ∃ (b0 b1 b2 b3 b4 b5 : Bool) (n1 : Int) (es1 : List Ed) (va1 : Option Addr) (vc1 : Nat), L = #[b0, b1, b2, b3, b4, b5] ∧ a = { tmps := #[Value.slice ca nn cap, undef, Value.pointer (some ⟨w.heap.size, 0, none⟩), Value.pointer (some ⟨w.heap.size + 1, 0, none⟩), Value.pointer (some ⟨g, 0, none⟩), Value.pointer (some ⟨w2.heap.size, 0, none⟩), Value.pointer (some ⟨ee, 0, none⟩), u7, u8, u9, u10, u11, u12, u13, u14, u15, u16, u17, u18, u19, u20, u21, u22, u23, u24, u25, u26, u27, u28, u29, u30, u31, u32, u33, u34, u35, u36, u37, u38, u39, u40, u41, u42, u43, u44, u45, u46, u47, u48, u49, u50, u51, u52, u53, u54, u55, u56, u57, u58, sel b0 (Value.pointer (some ⟨g, 0, none⟩)) u59, sel b1 (Value.agg #[.int .i64 n, .slice va es.length vc]) u60, sel b2 (Value.agg #[.int .i64 n1, .slice va1 es1.length vc1]) u61, sel b3 (Value.agg #[.int .i64 x, .int .i64 y, .int .i64 z]) u62], defers := [] } ∧ Hid ((b4 = false → Rd w0 w' g (100 + 4 * b2.toNat)) ∧ (Box w' w2.heap.size 25 #[.int .i64 n, .slice va es.length vc]) ∧ (Box w' ee 46 #[.int .i64 x, .int .i64 y, .int .i64 z]) ∧ (b2 = false → InR true w' w1.heap.size w2.heap.size (.slice va es.length vc) es.length 3 (cellE es)) ∧ (b4 = false → Box w' w.heap.size 25 #[.int .i64 0, .slice none 0 0]) ∧ (b4 = true → Box w' w.heap.size 25 #[.int .i64 n1, .slice va1 es1.length vc1]) ∧ (b5 = false → Box w' (w.heap.size + 1) 46 #[.int .i64 0, .int .i64 0, .int .i64 0]) ∧ (b5 = true → Box w' (w.heap.size + 1) 46 #[.int .i64 x, .int .i64 y, .int .i64 z]) ∧ (b2 = true → es1.length ≤ es.length + 1 ∧ okS (.slice va1 es1.length vc1) ∧ InR true w' wc.heap.size w'.heap.size (.slice va1 es1.length vc1) es1.length 3 (cellE es1)) ∧ (Below w.heap.size w w') ∧ (wc.heap.size ≤ w'.heap.size) ∧ (b2 = true → (b0 && b1) = true) ∧ (b4 = true → (b0 && b1 && b2) = true) ∧ (b5 = true → (b0 && b1 && b2 && b3 && b4) = true))) (by kernel_rfl) (by kernel_rfl) ?_ ?_ ?_
            · exact ⟨false, false, false, false, false, false, 0, [], none, 0, rfl, rfl, Lib.hid ⟨(fun _ => (HK.out.1.more (by omega)).drew'), HK.out.2.2.2.2.1.drew, HK.out.2.2.2.2.2.drew, (fun _ => InR.drewN HK.out.2.2.2.1), (fun _ => HK.out.2.1.drew), (fun h => absurd h (by decide)), (fun _ => HK.out.2.2.1.drew), (fun h => absurd h (by decide)), (fun h => absurd h (by decide)), (bel_trans hb2 HK.out.1.bel).drew, (Nat.le_refl _), (fun h => absurd h (by decide)), (fun h => absurd h (by decide)), (fun h => absurd h (by decide))⟩⟩
            · rintro L a w' hL ⟨b0, b1, b2, b3, b4, b5, n1, es1, va1, vc1, rfl, rfl, HF⟩ k9 o9 ho hl hd
              have hk9 : k9 = 0 ∨ k9 = 1 ∨ k9 = 2 ∨ k9 = 3 ∨ k9 = 4 ∨ k9 = 5 := by have := (Array.getElem?_eq_some_iff.1 ho).1; simp at this; omega
              rcases hk9 with rfl | rfl | rfl | rfl | rfl | rfl
              · obtain rfl := Option.some.inj ho
                have hc0 : b0 = false := hl
                subst hc0
                have hc2 : b2 = false := by cases hx9 : b2 with | false => rfl | true => (have hy9 := HF.out.2.2.2.2.2.2.2.2.2.2.2.1 hx9; simp at hy9)
                subst hc2
                have hc4 : b4 = false := by cases hx9 : b4 with | false => rfl | true => (have hy9 := HF.out.2.2.2.2.2.2.2.2.2.2.2.2.1 hx9; simp at hy9)
                subst hc4
                have hc5 : b5 = false := by cases hx9 : b5 with | false => rfl | true => (have hy9 := HF.out.2.2.2.2.2.2.2.2.2.2.2.2.2 hx9; simp at hy9)
                subst hc5
                clear hl hd ho hL
                simp only [sel_t, sel_f]
                refine wpOp_step rfl ?_
                intro K' hK'
                go_simp
                exact hK' _ _ ⟨true, b1, false, b3, false, false, n1, es1, va1, vc1, rfl, rfl, Lib.hid ⟨HF.out.1, HF.out.2.1, HF.out.2.2.1, HF.out.2.2.2.1, HF.out.2.2.2.2.1, HF.out.2.2.2.2.2.1, HF.out.2.2.2.2.2.2.1, HF.out.2.2.2.2.2.2.2.1, HF.out.2.2.2.2.2.2.2.2.1, HF.out.2.2.2.2.2.2.2.2.2.1, HF.out.2.2.2.2.2.2.2.2.2.2.1, (fun h => absurd h (by decide)), (fun h => absurd h (by decide)), (fun h => absurd h (by decide))⟩⟩
              · obtain rfl := Option.some.inj ho
                have hc1 : b1 = false := hl
                subst hc1
                have hc2 : b2 = false := by cases hx9 : b2 with | false => rfl | true => (have hy9 := HF.out.2.2.2.2.2.2.2.2.2.2.2.1 hx9; simp at hy9)
                subst hc2
                have hc4 : b4 = false := by cases hx9 : b4 with | false => rfl | true => (have hy9 := HF.out.2.2.2.2.2.2.2.2.2.2.2.2.1 hx9; simp at hy9)
                subst hc4
                have hc5 : b5 = false := by cases hx9 : b5 with | false => rfl | true => (have hy9 := HF.out.2.2.2.2.2.2.2.2.2.2.2.2.2 hx9; simp at hy9)
                subst hc5
                clear hl hd ho hL
                simp only [sel_t, sel_f]
                have x0 : w'.cell? ⟨w2.heap.size, 0, none⟩ = some (.int .i64 n) := by simpa using HF.out.2.1.cell 0
                have x1 : w'.cell? ⟨w2.heap.size, 1, none⟩ = some (.slice va es.length vc) := by simpa using HF.out.2.1.cell 1
                refine wpOp_step rfl ?_
                intro K' hK'
                go_simp
                exact hK' _ _ ⟨b0, true, false, b3, false, false, n1, es1, va1, vc1, rfl, rfl, Lib.hid ⟨HF.out.1, HF.out.2.1, HF.out.2.2.1, HF.out.2.2.2.1, HF.out.2.2.2.2.1, HF.out.2.2.2.2.2.1, HF.out.2.2.2.2.2.2.1, HF.out.2.2.2.2.2.2.2.1, HF.out.2.2.2.2.2.2.2.2.1, HF.out.2.2.2.2.2.2.2.2.2.1, HF.out.2.2.2.2.2.2.2.2.2.2.1, (fun h => absurd h (by decide)), (fun h => absurd h (by decide)), (fun h => absurd h (by decide))⟩⟩
              · obtain rfl := Option.some.inj ho
                have hc2 : b2 = false := hl
                have hc1 : b1 = true := by first | (refine hd ⟨1, .data⟩ ?_ rfl; simp; done) | (refine hd ⟨1, .chain⟩ ?_ rfl; simp; done) | (refine hd ⟨1, .phase⟩ ?_ rfl; simp; done)
                have hc0 : b0 = true := by first | (refine hd ⟨0, .data⟩ ?_ rfl; simp; done) | (refine hd ⟨0, .chain⟩ ?_ rfl; simp; done) | (refine hd ⟨0, .phase⟩ ?_ rfl; simp; done)
                subst hc2 hc1 hc0
                have hc4 : b4 = false := by cases hx9 : b4 with | false => rfl | true => (have hy9 := HF.out.2.2.2.2.2.2.2.2.2.2.2.2.1 hx9; simp at hy9)
                subst hc4
                have hc5 : b5 = false := by cases hx9 : b5 with | false => rfl | true => (have hy9 := HF.out.2.2.2.2.2.2.2.2.2.2.2.2.2 hx9; simp at hy9)
                subst hc5
                clear hl hd ho hL
                simp only [sel_t, sel_f]
                have hcall := l2Wrong w0 w' g _ n es (.slice va es.length vc) (HF.out.1 rfl) (by simp only [Bool.toNat_false]; omega) (HF.out.2.2.2.1 rfl).edges K3.out.2.2.2.2.1 (by omega)
                have HC9 := Lib.hid hcall
                clear hcall
                refine wpOp_step rfl ?_
                intro K' hK'
                go_simp
                refine HC9.out.mono ?_
                rintro e9 w9 ⟨n9, es9, v9, rfl, hl9, hrow9, hok9, hR9, hG9⟩
                obtain ⟨va9, vc9, rfl, hz9⟩ := id hrow9
                exact hK' _ _ ⟨true, true, true, b3, false, false, n9, es9, va9, vc9, rfl, rfl, Lib.hid ⟨(fun _ => hR9.more (by simp only [Bool.toNat_false, Bool.toNat_true]; omega)), (HF.out.2.1.grownG hG9 (by omega)), (HF.out.2.2.1.grownG hG9 (by omega)), (fun h => absurd h (by decide)), (fun h => (HF.out.2.2.2.2.1 h).grownG hG9 (by omega)), (fun h => absurd h (by decide)), (fun h => (HF.out.2.2.2.2.2.2.1 h).grownG hG9 (by omega)), (fun h => absurd h (by decide)), (fun _ => ⟨hl9, hok9, hrow9.wider HF.out.2.2.2.2.2.2.2.2.2.2.1 (Nat.le_refl _) (Nat.le_refl _)⟩), (below_grown HF.out.2.2.2.2.2.2.2.2.2.1 hG9 (by omega)), (Nat.le_trans HF.out.2.2.2.2.2.2.2.2.2.2.1 hG9.size), (fun _ => rfl), (fun h => absurd h (by decide)), (fun h => absurd h (by decide))⟩⟩
              · obtain rfl := Option.some.inj ho
                have hc3 : b3 = false := hl
                subst hc3
                have hc5 : b5 = false := by cases hx9 : b5 with | false => rfl | true => (have hy9 := HF.out.2.2.2.2.2.2.2.2.2.2.2.2.2 hx9; simp at hy9)
                subst hc5
                clear hl hd ho hL
                simp only [sel_t, sel_f]
                have y0 : w'.cell? ⟨ee, 0, none⟩ = some (.int .i64 x) := by simpa using HF.out.2.2.1.cell 0
                have y1 : w'.cell? ⟨ee, 1, none⟩ = some (.int .i64 y) := by simpa using HF.out.2.2.1.cell 1
                have y2 : w'.cell? ⟨ee, 2, none⟩ = some (.int .i64 z) := by simpa using HF.out.2.2.1.cell 2
                refine wpOp_step rfl ?_
                intro K' hK'
                go_simp
                exact hK' _ _ ⟨b0, b1, b2, true, b4, false, n1, es1, va1, vc1, rfl, rfl, Lib.hid ⟨HF.out.1, HF.out.2.1, HF.out.2.2.1, HF.out.2.2.2.1, HF.out.2.2.2.2.1, HF.out.2.2.2.2.2.1, HF.out.2.2.2.2.2.2.1, HF.out.2.2.2.2.2.2.2.1, HF.out.2.2.2.2.2.2.2.2.1, HF.out.2.2.2.2.2.2.2.2.2.1, HF.out.2.2.2.2.2.2.2.2.2.2.1, HF.out.2.2.2.2.2.2.2.2.2.2.2.1, HF.out.2.2.2.2.2.2.2.2.2.2.2.2.1, (fun h => absurd h (by decide))⟩⟩
              · obtain rfl := Option.some.inj ho
                have hc4 : b4 = false := hl
                have hc2 : b2 = true := by first | (refine hd ⟨2, .data⟩ ?_ rfl; simp; done) | (refine hd ⟨2, .chain⟩ ?_ rfl; simp; done) | (refine hd ⟨2, .phase⟩ ?_ rfl; simp; done)
                have hc1 : b1 = true := by first | (refine hd ⟨1, .data⟩ ?_ rfl; simp; done) | (refine hd ⟨1, .chain⟩ ?_ rfl; simp; done) | (refine hd ⟨1, .phase⟩ ?_ rfl; simp; done) | exact HF.out.2.2.2.2.2.2.2.2.2.2.2.1 hc2 | (have hy9 := HF.out.2.2.2.2.2.2.2.2.2.2.2.1 hc2; simp at hy9; simp [hy9]; done)
                have hc0 : b0 = true := by first | (refine hd ⟨0, .data⟩ ?_ rfl; simp; done) | (refine hd ⟨0, .chain⟩ ?_ rfl; simp; done) | (refine hd ⟨0, .phase⟩ ?_ rfl; simp; done) | exact HF.out.2.2.2.2.2.2.2.2.2.2.2.1 hc2 | (have hy9 := HF.out.2.2.2.2.2.2.2.2.2.2.2.1 hc2; simp at hy9; simp [hy9]; done)
                subst hc4 hc2 hc1 hc0
                have hc5 : b5 = false := by cases hx9 : b5 with | false => rfl | true => (have hy9 := HF.out.2.2.2.2.2.2.2.2.2.2.2.2.2 hx9; simp at hy9)
                subst hc5
                clear hl hd ho hL
                simp only [sel_t, sel_f]
                have hB9 := HF.out.2.2.2.2.1 rfl
                have c0 : w'.cell? ⟨w.heap.size, 0, none⟩ = some (.int .i64 0) := by simpa using hB9.cell 0
                have c1 : w'.cell? ⟨w.heap.size, 1, none⟩ = some (.slice none 0 0) := by simpa using hB9.cell 1
                have f0 := hB9.frozen 0
                have f1 := hB9.frozen 1
                have hI9 := HF.out.2.2.2.2.2.2.2.2.1 rfl
                have HI9 := Lib.hid hI9
                clear hI9
                refine wpOp_step rfl ?_
                intro K' hK'
                go_simp
                exact hK' _ _ ⟨true, true, true, b3, true, false, n1, es1, va1, vc1, rfl, rfl, Lib.hid ⟨(fun h => absurd h (by decide)), ((HF.out.2.1.setOther (by omega) _ _).setOther (by omega) _ _), ((HF.out.2.2.1.setOther (by omega) _ _).setOther (by omega) _ _), (fun h => absurd h (by decide)), (fun h => absurd h (by decide)), (fun _ => by simpa using (hB9.set 0 (.int .i64 n1)).set 1 (.slice va1 es1.length vc1)), (fun h => ((HF.out.2.2.2.2.2.2.1 h).setOther (by omega) _ _).setOther (by omega) _ _), (fun h => absurd h (by decide)), (fun _ => ⟨HI9.out.1, HI9.out.2.1, by simpa using ((InR.set8 HI9.out.2.2 (B := w.heap.size) (k := 0) (u := .int .i64 n1) (by omega)).set8 (B := w.heap.size) (k := 1) (u := .slice va1 es1.length vc1) (by omega))⟩), ((HF.out.2.2.2.2.2.2.2.2.2.1.setCell (by simp) _).setCell (by simp) _), (Nat.le_trans HF.out.2.2.2.2.2.2.2.2.2.2.1 (by simp)), (fun h => by have := HF.out.2.2.2.2.2.2.2.2.2.2.2.1 h; simpa using this), (fun _ => rfl), (fun h => absurd h (by decide))⟩⟩
              · obtain rfl := Option.some.inj ho
                have hc5 : b5 = false := hl
                have hc4 : b4 = true := by first | (refine hd ⟨4, .data⟩ ?_ rfl; simp; done) | (refine hd ⟨4, .chain⟩ ?_ rfl; simp; done) | (refine hd ⟨4, .phase⟩ ?_ rfl; simp; done)
                have hc3 : b3 = true := by first | (refine hd ⟨3, .data⟩ ?_ rfl; simp; done) | (refine hd ⟨3, .chain⟩ ?_ rfl; simp; done) | (refine hd ⟨3, .phase⟩ ?_ rfl; simp; done)
                have hc2 : b2 = true := by first | (refine hd ⟨2, .data⟩ ?_ rfl; simp; done) | (refine hd ⟨2, .chain⟩ ?_ rfl; simp; done) | (refine hd ⟨2, .phase⟩ ?_ rfl; simp; done) | exact HF.out.2.2.2.2.2.2.2.2.2.2.2.2.1 hc4 | (have hy9 := HF.out.2.2.2.2.2.2.2.2.2.2.2.2.1 hc4; simp at hy9; simp [hy9]; done)
                have hc1 : b1 = true := by first | (refine hd ⟨1, .data⟩ ?_ rfl; simp; done) | (refine hd ⟨1, .chain⟩ ?_ rfl; simp; done) | (refine hd ⟨1, .phase⟩ ?_ rfl; simp; done) | exact HF.out.2.2.2.2.2.2.2.2.2.2.2.1 hc2 | (have hy9 := HF.out.2.2.2.2.2.2.2.2.2.2.2.1 hc2; simp at hy9; simp [hy9]; done) | exact HF.out.2.2.2.2.2.2.2.2.2.2.2.2.1 hc4 | (have hy9 := HF.out.2.2.2.2.2.2.2.2.2.2.2.2.1 hc4; simp at hy9; simp [hy9]; done)
                have hc0 : b0 = true := by first | (refine hd ⟨0, .data⟩ ?_ rfl; simp; done) | (refine hd ⟨0, .chain⟩ ?_ rfl; simp; done) | (refine hd ⟨0, .phase⟩ ?_ rfl; simp; done) | exact HF.out.2.2.2.2.2.2.2.2.2.2.2.1 hc2 | (have hy9 := HF.out.2.2.2.2.2.2.2.2.2.2.2.1 hc2; simp at hy9; simp [hy9]; done) | exact HF.out.2.2.2.2.2.2.2.2.2.2.2.2.1 hc4 | (have hy9 := HF.out.2.2.2.2.2.2.2.2.2.2.2.2.1 hc4; simp at hy9; simp [hy9]; done)
                subst hc5 hc4 hc3 hc2 hc1 hc0
                clear hl hd ho hL
                simp only [sel_t, sel_f]
                have hB9 := HF.out.2.2.2.2.2.2.1 rfl
                have c0 : w'.cell? ⟨w.heap.size + 1, 0, none⟩ = some (.int .i64 0) := by simpa using hB9.cell 0
                have c1 : w'.cell? ⟨w.heap.size + 1, 1, none⟩ = some (.int .i64 0) := by simpa using hB9.cell 1
                have c2 : w'.cell? ⟨w.heap.size + 1, 2, none⟩ = some (.int .i64 0) := by simpa using hB9.cell 2
                have f0 := hB9.frozen 0
                have f1 := hB9.frozen 1
                have f2 := hB9.frozen 2
                have hI9 := HF.out.2.2.2.2.2.2.2.2.1 rfl
                have HI9 := Lib.hid hI9
                clear hI9
                refine wpOp_step rfl ?_
                intro K' hK'
                go_simp
                exact hK' _ _ ⟨true, true, true, true, true, true, n1, es1, va1, vc1, rfl, rfl, Lib.hid ⟨(fun h => absurd h (by decide)), (((HF.out.2.1.setOther (by omega) _ _).setOther (by omega) _ _).setOther (by omega) _ _), (((HF.out.2.2.1.setOther (by omega) _ _).setOther (by omega) _ _).setOther (by omega) _ _), (fun h => absurd h (by decide)), (fun h => absurd h (by decide)), (fun _ => (((HF.out.2.2.2.2.2.1 rfl).setOther (by omega) _ _).setOther (by omega) _ _).setOther (by omega) _ _), (fun h => absurd h (by decide)), (fun _ => by simpa using ((hB9.set 0 (.int .i64 x)).set 1 (.int .i64 y)).set 2 (.int .i64 z)), (fun _ => ⟨HI9.out.1, HI9.out.2.1, by simpa using (((InR.set8 HI9.out.2.2 (B := w.heap.size + 1) (k := 0) (u := .int .i64 x) (by omega)).set8 (B := w.heap.size + 1) (k := 1) (u := .int .i64 y) (by omega)).set8 (B := w.heap.size + 1) (k := 2) (u := .int .i64 z) (by omega))⟩), (((HF.out.2.2.2.2.2.2.2.2.2.1.setCell (by simp) _).setCell (by simp) _).setCell (by simp) _), (Nat.le_trans HF.out.2.2.2.2.2.2.2.2.2.2.1 (by simp)), (fun h => by have := HF.out.2.2.2.2.2.2.2.2.2.2.2.1 h; simpa using this), (fun h => by have := HF.out.2.2.2.2.2.2.2.2.2.2.2.2.1 h; simpa using this), (fun _ => rfl)⟩⟩
            · rintro L a w' hL ⟨b0, b1, b2, b3, b4, b5, n1, es1, va1, vc1, rfl, rfl, HF⟩ hall
              have hc0 : b0 = true := hall 0 (by decide)
              have hc1 : b1 = true := hall 1 (by decide)
              have hc2 : b2 = true := hall 2 (by decide)
              have hc3 : b3 = true := hall 3 (by decide)
              have hc4 : b4 = true := hall 4 (by decide)
              have hc5 : b5 = true := hall 5 (by decide)
              subst hc0 hc1 hc2 hc3 hc4 hc5
              simp only [sel_t]
              have h8 := HF.out.2.2.2.2.2.2.2.2.1 rfl
              have hs9 := HF.out.2.2.2.2.2.2.2.2.2.2.1
              have HE := Lib.hid (show DrawnC2 w (.returned (.tuple #[.agg #[.int .i64 n1, .slice va1 es1.length vc1], .agg #[.int .i64 x, .int .i64 y, .int .i64 z]])) w' from ⟨n1, es1, _, x, y, z, rfl, by omega, h8.2.2.wider (by omega) (Nat.le_refl _) (Nat.le_refl _), h8.2.1, HF.out.2.2.2.2.2.2.2.2.2.1⟩)
              have r0 : w'.cell? ⟨w.heap.size, 0, none⟩ = some (.int .i64 n1) := by simpa using (HF.out.2.2.2.2.2.1 rfl).cell 0
              have r1 : w'.cell? ⟨w.heap.size, 1, none⟩ = some (.slice va1 es1.length vc1) := by simpa using (HF.out.2.2.2.2.2.1 rfl).cell 1
              have q0 : w'.cell? ⟨w.heap.size + 1, 0, none⟩ = some (.int .i64 x) := by simpa using (HF.out.2.2.2.2.2.2.2.1 rfl).cell 0
              have q1 : w'.cell? ⟨w.heap.size + 1, 1, none⟩ = some (.int .i64 y) := by simpa using (HF.out.2.2.2.2.2.2.2.1 rfl).cell 1
              have q2 : w'.cell? ⟨w.heap.size + 1, 2, none⟩ = some (.int .i64 z) := by simpa using (HF.out.2.2.2.2.2.2.2.1 rfl).cell 2
              clear HF h8
              go_wp2
              try simp only [Exit.inBlock, Exit.then]
              refine bodyPost_ret (v := .tuple #[.agg #[.int .i64 n1, .slice va1 es1.length vc1], .agg #[.int .i64 x, .int .i64 y, .int .i64 z]]) ?_ rfl HE.out
              rw [results_cc rfl]
              go_simp
end Go.Proofs.Ytaoecegnjhbagaa
