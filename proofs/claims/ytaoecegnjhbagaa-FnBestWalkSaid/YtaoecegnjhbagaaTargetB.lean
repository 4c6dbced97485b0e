/- The draw of a walk's question, in the model. -/
import Derived.Test.YtaoecegnjhbagaaTarget
namespace Go.Proofs.Ytaoecegnjhbagaa
open Go.RowKit Go.BigFrame Go.Deep
set_option linter.unusedVariables false
set_option linter.unusedSimpArgs false
set_option linter.unnecessarySimpa false
def DrawnC5 (w : World) (e : Ending) (w' : World) : Prop :=
  ∃ (n : Int) (es : List Ed) (v : Value) (m a b c : Int), e = .returned (.tuple #[.agg #[.int .i64 n, v], .int .i64 m, .int .i64 a, .int .i64 b, .int .i64 c]) ∧ es.length ≤ 41 ∧ InR true w' w.heap.size w'.heap.size v es.length 3 (cellE es) ∧ okS v ∧ Below w.heap.size w w'
theorem results_ctttt {fn : Func} {p t u x z : Tmp} {ty : TypeId} (h : fn.results = #[.cell p ty, .tmp t, .tmp u, .tmp x, .tmp z]) (tmps : Array Value) (P : Program) (w : World) :
    (results fn tmps).run P w = ((asAddr (tmps.getD p undef)).run P w).andThen fun a w₁ => ((loadVar ty a).run P w₁).andThen fun v w₂ => .ok (.tuple #[v, tmps.getD t undef, tmps.getD u undef, tmps.getD x undef, tmps.getD z undef]) w₂ := by
  simp only [results, h]
  simp
theorem drawnC5_of {w w2 w9 : World} {lo hi g q : Nat} {n m a b c : Int} {es : List Ed} {v : Value} (hb : Below w.heap.size w w2) (hR : Rd w2 w9 g q)
    (hrow : InR true w9 lo hi v es.length 3 (cellE es)) (hok : okS v) (hl : es.length ≤ 41) (hlo : w.heap.size < lo) (hhi : hi ≤ w9.heap.size) :
    DrawnC5 w (.returned (.tuple #[.agg #[.int .i64 n, v], .int .i64 m, .int .i64 a, .int .i64 b, .int .i64 c])) ((w9.setCell ⟨w.heap.size, 0, none⟩ (.int .i64 n)).setCell ⟨w.heap.size, 1, none⟩ v) := by
  refine ⟨n, es, v, m, a, b, c, rfl, hl, ?_, hok, ((bel_trans hb hR.bel).setCell (by simp) _).setCell (by simp) _⟩
  have h1 := ((hrow.set8 (k := 0) (u := .int .i64 n) hlo).set8 (k := 1) (u := v) hlo)
  exact h1.wider (by omega) (by simpa using hhi) (Nat.le_refl _)
set_option maxRecDepth 20000 in
set_option maxHeartbeats 4000000 in
theorem dDrawBestWalk (a : Option Addr) (n cap : Nat) (w : World) (hb : Bytes w a n) (hcap : n ≤ cap) (hn : n ≤ 281474976710656) :
    Calls Try.prog 24 #[.slice a n cap] w (DrawnC5 w) := by
  have hbx := Box.new w 25 #[.int .i64 0, .slice none 0 0]
  have hbl : Below w.heap.size w (w.alloc (.cells #[.int .i64 0, .slice none 0 0] 25)) := (Below.refl _ _).alloc (Nat.le_refl _) _
  have HC := Lib.hid hb
  clear hb
  go_enter Try.func24, Try.ntmps24
  go_wp2_with fail
  generalize (w.alloc (.cells #[.int .i64 0, .slice none 0 0] 25)) = w0 at hbx hbl ⊢
  refine (l3Case a n cap w0 (HC.out.keepB hbl) hcap hn).mono ?_
  rintro e w1 ⟨n1, es, v, m, s, rfl, hl, hrow, hok, hb1⟩
  obtain ⟨va, vc, rfl, hz9⟩ := id hrow
  have hbe := bel_trans hbl hb1
  have hs0 : w.heap.size < w0.heap.size := hbx.lt
  have hs1 := hb1.size
  have hb2 : Below w1.heap.size w1 (w1.alloc (.cells #[.int .i64 n1, .slice va es.length vc] 25)) := (Below.refl _ _).alloc (Nat.le_refl _) _
  have hs2 := hb2.size
  have K2 := Lib.hid (And.intro (bel_trans hbe hb2) (And.intro ((hbx.keep hb1).keep hb2) (And.intro (InR.keep hrow hb2) (And.intro hok (Box.new w1 25 #[.int .i64 n1, .slice va es.length vc])))))
  clear hz9 hrow hok hbx hbl hb1 hbe hb2
  go_wp2_with fail
  generalize (w1.alloc (.cells #[.int .i64 n1, .slice va es.length vc] 25)) = w2 at K2 hs2 ⊢
  refine (l15Open a n cap w2 (HC.out.keepB K2.out.1) hcap hn).mono ?_
  rintro e w3 ⟨g, rfl, hR⟩
  have hg0 := hR.new
  have hb3 := hR.bel
  have hlt2 := K2.out.2.2.2.2.lt
  have K3 := Lib.hid (And.intro hR (And.intro (K2.out.2.1.keep hb3) (And.intro (InR.keep K2.out.2.2.1 hb3) (K2.out.2.2.2.2.keep hb3))))
  have hs3 := hb3.size
  clear hR hb3
  go_wp2_with fail
  refine (num_built [1, 2, 0, 3, 11, -1] w2 w3 g _ K3.out.1 (by omega) _ (by decide) (by decide)).mono ?_
  rintro e w4 ⟨t, hx, rfl, hR, hG⟩
  have hsw4 := hG.size
  have K4 := Lib.hid (And.intro hR (And.intro (K3.out.2.1.grownG hG (by omega)) (And.intro (InR.grownH K3.out.2.2.1 hG (by omega)) (K3.out.2.2.2.grownG hG (by omega)))))
  clear hR hG
  clear hx
  have x0 : w4.cell? ⟨w1.heap.size, 0, none⟩ = some (.int .i64 n1) := by simpa using K4.out.2.2.2.cell 0
  by_cases hn1 : 0 < n1
  · go_wp2_with fail
    refine (pick 8 w2 w4 g _ K4.out.1 (by omega) (by omega)).mono ?_
    rintro e w5 ⟨c, rfl, hx0, hx1, hR, hG⟩
    have hsw5 := hG.size
    have K5 := Lib.hid (And.intro hR (And.intro (K4.out.2.1.grownG hG (by omega)) (And.intro (InR.grownH K4.out.2.2.1 hG (by omega)) (K4.out.2.2.2.grownG hG (by omega)))))
    clear hR hG
    clear x0
    by_cases hc : 0 < c
    · have y9 : w5.cell? ⟨w1.heap.size, 0, none⟩ = some (.int .i64 n1) := by simpa using K5.out.2.2.2.cell 0
      go_wp2_with fail
      refine (pickN n1 w2 w5 g _ K5.out.1 (by omega)).mono ?_
      rintro e w6 ⟨t2, rfl, hy0, hy1, hR, hG⟩
      have hsw6 := hG.size
      have K6 := Lib.hid (And.intro hR (And.intro (K5.out.2.1.grownG hG (by omega)) (And.intro (InR.grownH K5.out.2.2.1 hG (by omega)) (K5.out.2.2.2.grownG hG (by omega)))))
      clear hR hG
      clear hx0 hx1 hy0 hy1 y9
      go_upto_region 6 with fail
      refine wp_region_inv (fun L A9 w' => ∃ (b0 b1 b2 b3 b4 b5 b6 b7 b8 b9 b10 b11 : Bool) (x5 : Int) (yy : Nat), L = #[b0, b1, b2, b3, b4, b5, b6, b7, b8, b9, b10, b11] ∧ A9 = { tmps := #[Value.slice a n cap, undef, Value.pointer (some { block := w.heap.size, off := 0 }), sel b8 (Value.int .i64 m) (Value.int IntKind.i64 0), sel b9 (Value.int .i64 s) (Value.int IntKind.i64 0), sel b10 (Value.int .i64 t2) (Value.int IntKind.i64 0), sel b11 (Value.int .i64 x5) (Value.int IntKind.i64 0), Value.pointer (some { block := w1.heap.size, off := 0 }), Value.int IntKind.i64 m, Value.int IntKind.i64 s, Value.pointer (some { block := g, off := 0 }), Value.int IntKind.i64 t2, Value.tuple #[Value.agg #[Value.int IntKind.i64 n1, Value.slice va es.length vc], Value.int IntKind.i64 m, Value.int IntKind.i64 s], Value.slice a n cap, Value.tuple #[Value.agg #[Value.int IntKind.i64 n1, Value.slice va es.length vc], Value.int IntKind.i64 m, Value.int IntKind.i64 s], Value.agg #[Value.int IntKind.i64 n1, Value.slice va es.length vc], Value.int IntKind.i64 m, Value.int IntKind.i64 s, Value.slice a n cap, Value.pointer (some { block := g, off := 0 }), Value.pointer (some { block := g, off := 0 }), Value.slice (some { block := w3.heap.size, off := 0 }) 6 6, Value.int IntKind.i64 t, Value.pointer (some { block := w1.heap.size, off := 0 }), Value.int IntKind.i64 n1, Value.bool true, Value.bool true, Value.pointer (some { block := g, off := 0 }), Value.int IntKind.i64 c, Value.bool true, Value.bool true, Value.pointer (some { block := g, off := 0 }), Value.pointer (some { block := w1.heap.size, off := 0 }), Value.int IntKind.i64 n1, Value.int IntKind.i64 t2, sel b0 (Value.agg #[.int .i64 n1, .slice va es.length vc]) undef, sel b1 (Value.int .i64 m) undef, sel b2 (Value.int .i64 s) undef, sel b3 (Value.int .i64 t2) undef, sel b4 (Value.pointer (some ⟨g, 0, none⟩)) undef, sel b5 (Value.slice (some ⟨yy, 0, none⟩) 8 8) undef, sel b6 (Value.int .i64 x5) undef], defers := [] } ∧ Hid ((b7 = false → Rd w2 w' g (0 + 1 + 1 + 1 + b6.toNat)) ∧ (b7 = false → w6.grownBy w' (some g)) ∧ (b5 = true → b6 = false → RowN w' g (.slice (some ⟨yy, 0, none⟩) 8 8) [2, 1, 3, 0, 5, 12, 50, 51]) ∧ (b7 = true → (∀ t9 : Int, DrawnC5 w (.returned (.tuple #[.agg #[.int .i64 n1, .slice va es.length vc], .int .i64 m, .int .i64 s, .int .i64 t2, .int .i64 t9])) w') ∧ w'.cell? ⟨w.heap.size, 0, none⟩ = some (.int .i64 n1) ∧ w'.cell? ⟨w.heap.size, 1, none⟩ = some (.slice va es.length vc)) ∧ (b6 = true → (b4 && b5) = true) ∧ (b7 = true → (b0 && b4 && b5 && b6) = true) ∧ (b8 = true → (b0 && b1 && b4 && b5 && b6 && b7) = true) ∧ (b9 = true → (b0 && b1 && b2 && b4 && b5 && b6 && b7 && b8) = true) ∧ (b10 = true → (b0 && b1 && b2 && b3 && b4 && b5 && b6 && b7 && b8 && b9) = true) ∧ (b11 = true → (b0 && b1 && b2 && b3 && b4 && b5 && b6 && b7 && b8 && b9 && b10) = true))) (by kernel_rfl) (by kernel_rfl) ?_ ?_ ?_
      · exact ⟨false, false, false, false, false, false, false, false, false, false, false, false, 0, 0, rfl, rfl, Lib.hid ⟨(fun _ => Rd.drew' K6.out.1), (fun _ => g_drew (grown_refl _ _)), (fun h => absurd h (by decide)), (fun h => absurd h (by decide)), (fun h => absurd h (by decide)), (fun h => absurd h (by decide)), (fun h => absurd h (by decide)), (fun h => absurd h (by decide)), (fun h => absurd h (by decide)), (fun h => absurd h (by decide))⟩⟩
      · rintro L A9 w' hL ⟨b0, b1, b2, b3, b4, b5, b6, b7, b8, b9, b10, b11, x5, yy, rfl, rfl, HF⟩ k9 o9 ho hl hd
        have hk9 : k9 = 0 ∨ k9 = 1 ∨ k9 = 2 ∨ k9 = 3 ∨ k9 = 4 ∨ k9 = 5 ∨ k9 = 6 ∨ k9 = 7 ∨ k9 = 8 ∨ k9 = 9 ∨ k9 = 10 ∨ k9 = 11 := by have := (Array.getElem?_eq_some_iff.1 ho).1; simp at this; omega
        rcases hk9 with rfl | rfl | rfl | rfl | rfl | rfl | rfl | rfl | rfl | rfl | rfl | rfl
        · obtain rfl := Option.some.inj ho
          have hc0 : b0 = false := hl
          subst hc0
          have hc7 : b7 = false := by cases hx9 : b7 with | false => rfl | true => (have hy9 := HF.out.2.2.2.2.2.1 hx9; simp at hy9)
          subst hc7
          have hc8 : b8 = false := by cases hx9 : b8 with | false => rfl | true => (have hy9 := HF.out.2.2.2.2.2.2.1 hx9; simp at hy9)
          subst hc8
          have hc9 : b9 = false := by cases hx9 : b9 with | false => rfl | true => (have hy9 := HF.out.2.2.2.2.2.2.2.1 hx9; simp at hy9)
          subst hc9
          have hc10 : b10 = false := by cases hx9 : b10 with | false => rfl | true => (have hy9 := HF.out.2.2.2.2.2.2.2.2.1 hx9; simp at hy9)
          subst hc10
          have hc11 : b11 = false := by cases hx9 : b11 with | false => rfl | true => (have hy9 := HF.out.2.2.2.2.2.2.2.2.2 hx9; simp at hy9)
          subst hc11
          clear hl hd ho hL
          simp only [sel_t, sel_f]
          have hB9 := K6.out.2.2.2.grownG (HF.out.2.1 rfl) (by omega)
          have y0 : w'.cell? ⟨w1.heap.size, 0, none⟩ = some (.int .i64 n1) := by simpa using hB9.cell 0
          have y1 : w'.cell? ⟨w1.heap.size, 1, none⟩ = some (.slice va es.length vc) := by simpa using hB9.cell 1
          refine wpOp_step rfl ?_
          intro K' hK'
          go_simp
          exact hK' _ _ ⟨true, b1, b2, b3, b4, b5, b6, false, false, false, false, false, x5, yy, rfl, rfl, Lib.hid ⟨HF.out.1, HF.out.2.1, HF.out.2.2.1, HF.out.2.2.2.1, HF.out.2.2.2.2.1, (fun h => absurd h (by decide)), (fun h => absurd h (by decide)), (fun h => absurd h (by decide)), (fun h => absurd h (by decide)), (fun h => absurd h (by decide))⟩⟩
        · obtain rfl := Option.some.inj ho
          have hc1 : b1 = false := hl
          subst hc1
          have hc8 : b8 = false := by cases hx9 : b8 with | false => rfl | true => (have hy9 := HF.out.2.2.2.2.2.2.1 hx9; simp at hy9)
          subst hc8
          have hc9 : b9 = false := by cases hx9 : b9 with | false => rfl | true => (have hy9 := HF.out.2.2.2.2.2.2.2.1 hx9; simp at hy9)
          subst hc9
          have hc10 : b10 = false := by cases hx9 : b10 with | false => rfl | true => (have hy9 := HF.out.2.2.2.2.2.2.2.2.1 hx9; simp at hy9)
          subst hc10
          have hc11 : b11 = false := by cases hx9 : b11 with | false => rfl | true => (have hy9 := HF.out.2.2.2.2.2.2.2.2.2 hx9; simp at hy9)
          subst hc11
          clear hl hd ho hL
          simp only [sel_t, sel_f]
          refine wpOp_step rfl ?_
          intro K' hK'
          go_simp
          exact hK' _ _ ⟨b0, true, b2, b3, b4, b5, b6, b7, false, false, false, false, x5, yy, rfl, rfl, Lib.hid ⟨HF.out.1, HF.out.2.1, HF.out.2.2.1, HF.out.2.2.2.1, HF.out.2.2.2.2.1, HF.out.2.2.2.2.2.1, (fun h => absurd h (by decide)), (fun h => absurd h (by decide)), (fun h => absurd h (by decide)), (fun h => absurd h (by decide))⟩⟩
        · obtain rfl := Option.some.inj ho
          have hc2 : b2 = false := hl
          subst hc2
          have hc9 : b9 = false := by cases hx9 : b9 with | false => rfl | true => (have hy9 := HF.out.2.2.2.2.2.2.2.1 hx9; simp at hy9)
          subst hc9
          have hc10 : b10 = false := by cases hx9 : b10 with | false => rfl | true => (have hy9 := HF.out.2.2.2.2.2.2.2.2.1 hx9; simp at hy9)
          subst hc10
          have hc11 : b11 = false := by cases hx9 : b11 with | false => rfl | true => (have hy9 := HF.out.2.2.2.2.2.2.2.2.2 hx9; simp at hy9)
          subst hc11
          clear hl hd ho hL
          simp only [sel_t, sel_f]
          refine wpOp_step rfl ?_
          intro K' hK'
          go_simp
          exact hK' _ _ ⟨b0, b1, true, b3, b4, b5, b6, b7, b8, false, false, false, x5, yy, rfl, rfl, Lib.hid ⟨HF.out.1, HF.out.2.1, HF.out.2.2.1, HF.out.2.2.2.1, HF.out.2.2.2.2.1, HF.out.2.2.2.2.2.1, HF.out.2.2.2.2.2.2.1, (fun h => absurd h (by decide)), (fun h => absurd h (by decide)), (fun h => absurd h (by decide))⟩⟩
        · obtain rfl := Option.some.inj ho
          have hc3 : b3 = false := hl
          subst hc3
          have hc10 : b10 = false := by cases hx9 : b10 with | false => rfl | true => (have hy9 := HF.out.2.2.2.2.2.2.2.2.1 hx9; simp at hy9)
          subst hc10
          have hc11 : b11 = false := by cases hx9 : b11 with | false => rfl | true => (have hy9 := HF.out.2.2.2.2.2.2.2.2.2 hx9; simp at hy9)
          subst hc11
          clear hl hd ho hL
          simp only [sel_t, sel_f]
          refine wpOp_step rfl ?_
          intro K' hK'
          go_simp
          exact hK' _ _ ⟨b0, b1, b2, true, b4, b5, b6, b7, b8, b9, false, false, x5, yy, rfl, rfl, Lib.hid ⟨HF.out.1, HF.out.2.1, HF.out.2.2.1, HF.out.2.2.2.1, HF.out.2.2.2.2.1, HF.out.2.2.2.2.2.1, HF.out.2.2.2.2.2.2.1, HF.out.2.2.2.2.2.2.2.1, (fun h => absurd h (by decide)), (fun h => absurd h (by decide))⟩⟩
        · obtain rfl := Option.some.inj ho
          have hc4 : b4 = false := hl
          subst hc4
          have hc6 : b6 = false := by cases hx9 : b6 with | false => rfl | true => (have hy9 := HF.out.2.2.2.2.1 hx9; simp at hy9)
          subst hc6
          have hc7 : b7 = false := by cases hx9 : b7 with | false => rfl | true => (have hy9 := HF.out.2.2.2.2.2.1 hx9; simp at hy9)
          subst hc7
          have hc8 : b8 = false := by cases hx9 : b8 with | false => rfl | true => (have hy9 := HF.out.2.2.2.2.2.2.1 hx9; simp at hy9)
          subst hc8
          have hc9 : b9 = false := by cases hx9 : b9 with | false => rfl | true => (have hy9 := HF.out.2.2.2.2.2.2.2.1 hx9; simp at hy9)
          subst hc9
          have hc10 : b10 = false := by cases hx9 : b10 with | false => rfl | true => (have hy9 := HF.out.2.2.2.2.2.2.2.2.1 hx9; simp at hy9)
          subst hc10
          have hc11 : b11 = false := by cases hx9 : b11 with | false => rfl | true => (have hy9 := HF.out.2.2.2.2.2.2.2.2.2 hx9; simp at hy9)
          subst hc11
          clear hl hd ho hL
          simp only [sel_t, sel_f]
          refine wpOp_step rfl ?_
          intro K' hK'
          go_simp
          exact hK' _ _ ⟨b0, b1, b2, b3, true, b5, false, false, false, false, false, false, x5, yy, rfl, rfl, Lib.hid ⟨HF.out.1, HF.out.2.1, HF.out.2.2.1, HF.out.2.2.2.1, (fun h => absurd h (by decide)), (fun h => absurd h (by decide)), (fun h => absurd h (by decide)), (fun h => absurd h (by decide)), (fun h => absurd h (by decide)), (fun h => absurd h (by decide))⟩⟩
        · obtain rfl := Option.some.inj ho
          have hc5 : b5 = false := hl
          subst hc5
          have hc6 : b6 = false := by cases hx9 : b6 with | false => rfl | true => (have hy9 := HF.out.2.2.2.2.1 hx9; simp at hy9)
          subst hc6
          have hc7 : b7 = false := by cases hx9 : b7 with | false => rfl | true => (have hy9 := HF.out.2.2.2.2.2.1 hx9; simp at hy9)
          subst hc7
          have hc8 : b8 = false := by cases hx9 : b8 with | false => rfl | true => (have hy9 := HF.out.2.2.2.2.2.2.1 hx9; simp at hy9)
          subst hc8
          have hc9 : b9 = false := by cases hx9 : b9 with | false => rfl | true => (have hy9 := HF.out.2.2.2.2.2.2.2.1 hx9; simp at hy9)
          subst hc9
          have hc10 : b10 = false := by cases hx9 : b10 with | false => rfl | true => (have hy9 := HF.out.2.2.2.2.2.2.2.2.1 hx9; simp at hy9)
          subst hc10
          have hc11 : b11 = false := by cases hx9 : b11 with | false => rfl | true => (have hy9 := HF.out.2.2.2.2.2.2.2.2.2 hx9; simp at hy9)
          subst hc11
          clear hl hd ho hL
          simp only [sel_t, sel_f]
          refine wpOp_step rfl ?_
          intro K' hK'
          go_simp
          exact hK' _ _ ⟨b0, b1, b2, b3, b4, true, false, false, false, false, false, false, x5, w'.heap.size, rfl, rfl, Lib.hid ⟨(fun _ => (HF.out.1 rfl).alloc' _), (fun _ => g_alloc (HF.out.2.1 rfl) _), (fun _ _ => rowN_at [2, 1, 3, 0, 5, 12, 50, 51] w' g _ _ rfl (HF.out.1 rfl).lt), (fun h => absurd h (by decide)), (fun h => absurd h (by decide)), (fun h => absurd h (by decide)), (fun h => absurd h (by decide)), (fun h => absurd h (by decide)), (fun h => absurd h (by decide)), (fun h => absurd h (by decide))⟩⟩
        · obtain rfl := Option.some.inj ho
          have hc6 : b6 = false := hl
          have hc5 : b5 = true := by first | (refine hd ⟨5, .data⟩ ?_ rfl; simp; done) | (refine hd ⟨5, .chain⟩ ?_ rfl; simp; done) | (refine hd ⟨5, .phase⟩ ?_ rfl; simp; done)
          have hc4 : b4 = true := by first | (refine hd ⟨4, .data⟩ ?_ rfl; simp; done) | (refine hd ⟨4, .chain⟩ ?_ rfl; simp; done) | (refine hd ⟨4, .phase⟩ ?_ rfl; simp; done)
          subst hc6 hc5 hc4
          have hc7 : b7 = false := by cases hx9 : b7 with | false => rfl | true => (have hy9 := HF.out.2.2.2.2.2.1 hx9; simp at hy9)
          subst hc7
          have hc8 : b8 = false := by cases hx9 : b8 with | false => rfl | true => (have hy9 := HF.out.2.2.2.2.2.2.1 hx9; simp at hy9)
          subst hc8
          have hc9 : b9 = false := by cases hx9 : b9 with | false => rfl | true => (have hy9 := HF.out.2.2.2.2.2.2.2.1 hx9; simp at hy9)
          subst hc9
          have hc10 : b10 = false := by cases hx9 : b10 with | false => rfl | true => (have hy9 := HF.out.2.2.2.2.2.2.2.2.1 hx9; simp at hy9)
          subst hc10
          have hc11 : b11 = false := by cases hx9 : b11 with | false => rfl | true => (have hy9 := HF.out.2.2.2.2.2.2.2.2.2 hx9; simp at hy9)
          subst hc11
          clear hl hd ho hL
          simp only [sel_t, sel_f]
          have hcall := num [2, 1, 3, 0, 5, 12, 50, 51] (.slice (some ⟨yy, 0, none⟩) 8 8) w2 w' g _ (HF.out.1 rfl) (by simp only [Bool.toNat_false, Bool.toNat_true]; omega) (HF.out.2.2.1 rfl rfl) (by decide) (by decide)
          have HC9 := Lib.hid hcall
          clear hcall
          refine wpOp_step rfl ?_
          intro K' hK'
          go_simp
          refine HC9.out.mono ?_
          rintro e9 w9 ⟨x9, hx9, rfl, hR9, hG9⟩
          exact hK' _ _ ⟨b0, b1, b2, b3, true, true, true, false, false, false, false, false, x9, yy, rfl, rfl, Lib.hid ⟨(fun _ => hR9.more (by simp only [Bool.toNat_false, Bool.toNat_true]; omega)), (fun _ => grown_trans' (HF.out.2.1 rfl) hG9), (fun _ h => absurd h (by decide)), (fun h => absurd h (by decide)), (fun _ => rfl), (fun h => absurd h (by decide)), (fun h => absurd h (by decide)), (fun h => absurd h (by decide)), (fun h => absurd h (by decide)), (fun h => absurd h (by decide))⟩⟩
        · obtain rfl := Option.some.inj ho
          have hc7 : b7 = false := hl
          have hc6 : b6 = true := by first | (refine hd ⟨6, .data⟩ ?_ rfl; simp; done) | (refine hd ⟨6, .chain⟩ ?_ rfl; simp; done) | (refine hd ⟨6, .phase⟩ ?_ rfl; simp; done)
          have hc5 : b5 = true := by first | (refine hd ⟨5, .data⟩ ?_ rfl; simp; done) | (refine hd ⟨5, .chain⟩ ?_ rfl; simp; done) | (refine hd ⟨5, .phase⟩ ?_ rfl; simp; done) | exact HF.out.2.2.2.2.1 hc6 | (have hy9 := HF.out.2.2.2.2.1 hc6; simp at hy9; simp [hy9]; done)
          have hc4 : b4 = true := by first | (refine hd ⟨4, .data⟩ ?_ rfl; simp; done) | (refine hd ⟨4, .chain⟩ ?_ rfl; simp; done) | (refine hd ⟨4, .phase⟩ ?_ rfl; simp; done) | exact HF.out.2.2.2.2.1 hc6 | (have hy9 := HF.out.2.2.2.2.1 hc6; simp at hy9; simp [hy9]; done)
          have hc0 : b0 = true := by first | (refine hd ⟨0, .data⟩ ?_ rfl; simp; done) | (refine hd ⟨0, .chain⟩ ?_ rfl; simp; done) | (refine hd ⟨0, .phase⟩ ?_ rfl; simp; done)
          subst hc7 hc6 hc5 hc4 hc0
          have hc8 : b8 = false := by cases hx9 : b8 with | false => rfl | true => (have hy9 := HF.out.2.2.2.2.2.2.1 hx9; simp at hy9)
          subst hc8
          have hc9 : b9 = false := by cases hx9 : b9 with | false => rfl | true => (have hy9 := HF.out.2.2.2.2.2.2.2.1 hx9; simp at hy9)
          subst hc9
          have hc10 : b10 = false := by cases hx9 : b10 with | false => rfl | true => (have hy9 := HF.out.2.2.2.2.2.2.2.2.1 hx9; simp at hy9)
          subst hc10
          have hc11 : b11 = false := by cases hx9 : b11 with | false => rfl | true => (have hy9 := HF.out.2.2.2.2.2.2.2.2.2 hx9; simp at hy9)
          subst hc11
          clear hl hd ho hL
          simp only [sel_t, sel_f]
          have hB9 := K6.out.2.1.grownG (HF.out.2.1 rfl) (by omega)
          have r0 : w'.cell? ⟨w.heap.size, 0, none⟩ = some (.int .i64 0) := by simpa using hB9.cell 0
          have r1 : w'.cell? ⟨w.heap.size, 1, none⟩ = some (.slice none 0 0) := by simpa using hB9.cell 1
          have r2 := hB9.frozen 0
          have r3 := hB9.frozen 1
          refine wpOp_step rfl ?_
          intro K' hK'
          go_simp
          exact hK' _ _ ⟨true, b1, b2, b3, true, true, true, true, false, false, false, false, x5, yy, rfl, rfl, Lib.hid ⟨(fun h => absurd h (by decide)), (fun h => absurd h (by decide)), (fun _ h => absurd h (by decide)), (fun _ => ⟨fun t9 => drawnC5_of K2.out.1 (HF.out.1 rfl) (InR.grownH K6.out.2.2.1 (HF.out.2.1 rfl) (by omega)) K2.out.2.2.2.1 hl hs0 (by have := ((HF.out.2.1 rfl)).size; omega), by go_simp, by go_simp⟩), (fun h => by have := HF.out.2.2.2.2.1 h; simpa using this), (fun _ => rfl), (fun h => absurd h (by decide)), (fun h => absurd h (by decide)), (fun h => absurd h (by decide)), (fun h => absurd h (by decide))⟩⟩
        · obtain rfl := Option.some.inj ho
          have hc8 : b8 = false := hl
          have hc7 : b7 = true := by first | (refine hd ⟨7, .data⟩ ?_ rfl; simp; done) | (refine hd ⟨7, .chain⟩ ?_ rfl; simp; done) | (refine hd ⟨7, .phase⟩ ?_ rfl; simp; done)
          have hc6 : b6 = true := by first | (refine hd ⟨6, .data⟩ ?_ rfl; simp; done) | (refine hd ⟨6, .chain⟩ ?_ rfl; simp; done) | (refine hd ⟨6, .phase⟩ ?_ rfl; simp; done) | exact HF.out.2.2.2.2.2.1 hc7 | (have hy9 := HF.out.2.2.2.2.2.1 hc7; simp at hy9; simp [hy9]; done)
          have hc5 : b5 = true := by first | (refine hd ⟨5, .data⟩ ?_ rfl; simp; done) | (refine hd ⟨5, .chain⟩ ?_ rfl; simp; done) | (refine hd ⟨5, .phase⟩ ?_ rfl; simp; done) | exact HF.out.2.2.2.2.1 hc6 | (have hy9 := HF.out.2.2.2.2.1 hc6; simp at hy9; simp [hy9]; done) | exact HF.out.2.2.2.2.2.1 hc7 | (have hy9 := HF.out.2.2.2.2.2.1 hc7; simp at hy9; simp [hy9]; done)
          have hc4 : b4 = true := by first | (refine hd ⟨4, .data⟩ ?_ rfl; simp; done) | (refine hd ⟨4, .chain⟩ ?_ rfl; simp; done) | (refine hd ⟨4, .phase⟩ ?_ rfl; simp; done) | exact HF.out.2.2.2.2.1 hc6 | (have hy9 := HF.out.2.2.2.2.1 hc6; simp at hy9; simp [hy9]; done) | exact HF.out.2.2.2.2.2.1 hc7 | (have hy9 := HF.out.2.2.2.2.2.1 hc7; simp at hy9; simp [hy9]; done)
          have hc1 : b1 = true := by first | (refine hd ⟨1, .data⟩ ?_ rfl; simp; done) | (refine hd ⟨1, .chain⟩ ?_ rfl; simp; done) | (refine hd ⟨1, .phase⟩ ?_ rfl; simp; done)
          have hc0 : b0 = true := by first | (refine hd ⟨0, .data⟩ ?_ rfl; simp; done) | (refine hd ⟨0, .chain⟩ ?_ rfl; simp; done) | (refine hd ⟨0, .phase⟩ ?_ rfl; simp; done) | exact HF.out.2.2.2.2.2.1 hc7 | (have hy9 := HF.out.2.2.2.2.2.1 hc7; simp at hy9; simp [hy9]; done)
          subst hc8 hc7 hc6 hc5 hc4 hc1 hc0
          have hc9 : b9 = false := by cases hx9 : b9 with | false => rfl | true => (have hy9 := HF.out.2.2.2.2.2.2.2.1 hx9; simp at hy9)
          subst hc9
          have hc10 : b10 = false := by cases hx9 : b10 with | false => rfl | true => (have hy9 := HF.out.2.2.2.2.2.2.2.2.1 hx9; simp at hy9)
          subst hc10
          have hc11 : b11 = false := by cases hx9 : b11 with | false => rfl | true => (have hy9 := HF.out.2.2.2.2.2.2.2.2.2 hx9; simp at hy9)
          subst hc11
          clear hl hd ho hL
          simp only [sel_t, sel_f]
          refine wpOp_step rfl ?_
          intro K' hK'
          go_simp
          exact hK' _ _ ⟨true, true, b2, b3, true, true, true, true, true, false, false, false, x5, yy, rfl, rfl, Lib.hid ⟨HF.out.1, HF.out.2.1, HF.out.2.2.1, HF.out.2.2.2.1, (fun h => by have := HF.out.2.2.2.2.1 h; simpa using this), (fun h => by have := HF.out.2.2.2.2.2.1 h; simpa using this), (fun _ => rfl), (fun h => absurd h (by decide)), (fun h => absurd h (by decide)), (fun h => absurd h (by decide))⟩⟩
        · obtain rfl := Option.some.inj ho
          have hc9 : b9 = false := hl
          have hc8 : b8 = true := by first | (refine hd ⟨8, .data⟩ ?_ rfl; simp; done) | (refine hd ⟨8, .chain⟩ ?_ rfl; simp; done) | (refine hd ⟨8, .phase⟩ ?_ rfl; simp; done)
          have hc7 : b7 = true := by first | (refine hd ⟨7, .data⟩ ?_ rfl; simp; done) | (refine hd ⟨7, .chain⟩ ?_ rfl; simp; done) | (refine hd ⟨7, .phase⟩ ?_ rfl; simp; done) | exact HF.out.2.2.2.2.2.2.1 hc8 | (have hy9 := HF.out.2.2.2.2.2.2.1 hc8; simp at hy9; simp [hy9]; done)
          have hc6 : b6 = true := by first | (refine hd ⟨6, .data⟩ ?_ rfl; simp; done) | (refine hd ⟨6, .chain⟩ ?_ rfl; simp; done) | (refine hd ⟨6, .phase⟩ ?_ rfl; simp; done) | exact HF.out.2.2.2.2.2.1 hc7 | (have hy9 := HF.out.2.2.2.2.2.1 hc7; simp at hy9; simp [hy9]; done) | exact HF.out.2.2.2.2.2.2.1 hc8 | (have hy9 := HF.out.2.2.2.2.2.2.1 hc8; simp at hy9; simp [hy9]; done)
          have hc5 : b5 = true := by first | (refine hd ⟨5, .data⟩ ?_ rfl; simp; done) | (refine hd ⟨5, .chain⟩ ?_ rfl; simp; done) | (refine hd ⟨5, .phase⟩ ?_ rfl; simp; done) | exact HF.out.2.2.2.2.1 hc6 | (have hy9 := HF.out.2.2.2.2.1 hc6; simp at hy9; simp [hy9]; done) | exact HF.out.2.2.2.2.2.1 hc7 | (have hy9 := HF.out.2.2.2.2.2.1 hc7; simp at hy9; simp [hy9]; done) | exact HF.out.2.2.2.2.2.2.1 hc8 | (have hy9 := HF.out.2.2.2.2.2.2.1 hc8; simp at hy9; simp [hy9]; done)
          have hc4 : b4 = true := by first | (refine hd ⟨4, .data⟩ ?_ rfl; simp; done) | (refine hd ⟨4, .chain⟩ ?_ rfl; simp; done) | (refine hd ⟨4, .phase⟩ ?_ rfl; simp; done) | exact HF.out.2.2.2.2.1 hc6 | (have hy9 := HF.out.2.2.2.2.1 hc6; simp at hy9; simp [hy9]; done) | exact HF.out.2.2.2.2.2.1 hc7 | (have hy9 := HF.out.2.2.2.2.2.1 hc7; simp at hy9; simp [hy9]; done) | exact HF.out.2.2.2.2.2.2.1 hc8 | (have hy9 := HF.out.2.2.2.2.2.2.1 hc8; simp at hy9; simp [hy9]; done)
          have hc2 : b2 = true := by first | (refine hd ⟨2, .data⟩ ?_ rfl; simp; done) | (refine hd ⟨2, .chain⟩ ?_ rfl; simp; done) | (refine hd ⟨2, .phase⟩ ?_ rfl; simp; done)
          have hc1 : b1 = true := by first | (refine hd ⟨1, .data⟩ ?_ rfl; simp; done) | (refine hd ⟨1, .chain⟩ ?_ rfl; simp; done) | (refine hd ⟨1, .phase⟩ ?_ rfl; simp; done) | exact HF.out.2.2.2.2.2.2.1 hc8 | (have hy9 := HF.out.2.2.2.2.2.2.1 hc8; simp at hy9; simp [hy9]; done)
          have hc0 : b0 = true := by first | (refine hd ⟨0, .data⟩ ?_ rfl; simp; done) | (refine hd ⟨0, .chain⟩ ?_ rfl; simp; done) | (refine hd ⟨0, .phase⟩ ?_ rfl; simp; done) | exact HF.out.2.2.2.2.2.1 hc7 | (have hy9 := HF.out.2.2.2.2.2.1 hc7; simp at hy9; simp [hy9]; done) | exact HF.out.2.2.2.2.2.2.1 hc8 | (have hy9 := HF.out.2.2.2.2.2.2.1 hc8; simp at hy9; simp [hy9]; done)
          subst hc9 hc8 hc7 hc6 hc5 hc4 hc2 hc1 hc0
          have hc10 : b10 = false := by cases hx9 : b10 with | false => rfl | true => (have hy9 := HF.out.2.2.2.2.2.2.2.2.1 hx9; simp at hy9)
          subst hc10
          have hc11 : b11 = false := by cases hx9 : b11 with | false => rfl | true => (have hy9 := HF.out.2.2.2.2.2.2.2.2.2 hx9; simp at hy9)
          subst hc11
          clear hl hd ho hL
          simp only [sel_t, sel_f]
          refine wpOp_step rfl ?_
          intro K' hK'
          go_simp
          exact hK' _ _ ⟨true, true, true, b3, true, true, true, true, true, true, false, false, x5, yy, rfl, rfl, Lib.hid ⟨HF.out.1, HF.out.2.1, HF.out.2.2.1, HF.out.2.2.2.1, (fun h => by have := HF.out.2.2.2.2.1 h; simpa using this), (fun h => by have := HF.out.2.2.2.2.2.1 h; simpa using this), (fun h => by have := HF.out.2.2.2.2.2.2.1 h; simpa using this), (fun _ => rfl), (fun h => absurd h (by decide)), (fun h => absurd h (by decide))⟩⟩
        · obtain rfl := Option.some.inj ho
          have hc10 : b10 = false := hl
          have hc9 : b9 = true := by first | (refine hd ⟨9, .data⟩ ?_ rfl; simp; done) | (refine hd ⟨9, .chain⟩ ?_ rfl; simp; done) | (refine hd ⟨9, .phase⟩ ?_ rfl; simp; done)
          have hc8 : b8 = true := by first | (refine hd ⟨8, .data⟩ ?_ rfl; simp; done) | (refine hd ⟨8, .chain⟩ ?_ rfl; simp; done) | (refine hd ⟨8, .phase⟩ ?_ rfl; simp; done) | exact HF.out.2.2.2.2.2.2.2.1 hc9 | (have hy9 := HF.out.2.2.2.2.2.2.2.1 hc9; simp at hy9; simp [hy9]; done)
          have hc7 : b7 = true := by first | (refine hd ⟨7, .data⟩ ?_ rfl; simp; done) | (refine hd ⟨7, .chain⟩ ?_ rfl; simp; done) | (refine hd ⟨7, .phase⟩ ?_ rfl; simp; done) | exact HF.out.2.2.2.2.2.2.1 hc8 | (have hy9 := HF.out.2.2.2.2.2.2.1 hc8; simp at hy9; simp [hy9]; done) | exact HF.out.2.2.2.2.2.2.2.1 hc9 | (have hy9 := HF.out.2.2.2.2.2.2.2.1 hc9; simp at hy9; simp [hy9]; done)
          have hc6 : b6 = true := by first | (refine hd ⟨6, .data⟩ ?_ rfl; simp; done) | (refine hd ⟨6, .chain⟩ ?_ rfl; simp; done) | (refine hd ⟨6, .phase⟩ ?_ rfl; simp; done) | exact HF.out.2.2.2.2.2.1 hc7 | (have hy9 := HF.out.2.2.2.2.2.1 hc7; simp at hy9; simp [hy9]; done) | exact HF.out.2.2.2.2.2.2.1 hc8 | (have hy9 := HF.out.2.2.2.2.2.2.1 hc8; simp at hy9; simp [hy9]; done) | exact HF.out.2.2.2.2.2.2.2.1 hc9 | (have hy9 := HF.out.2.2.2.2.2.2.2.1 hc9; simp at hy9; simp [hy9]; done)
          have hc5 : b5 = true := by first | (refine hd ⟨5, .data⟩ ?_ rfl; simp; done) | (refine hd ⟨5, .chain⟩ ?_ rfl; simp; done) | (refine hd ⟨5, .phase⟩ ?_ rfl; simp; done) | exact HF.out.2.2.2.2.1 hc6 | (have hy9 := HF.out.2.2.2.2.1 hc6; simp at hy9; simp [hy9]; done) | exact HF.out.2.2.2.2.2.1 hc7 | (have hy9 := HF.out.2.2.2.2.2.1 hc7; simp at hy9; simp [hy9]; done) | exact HF.out.2.2.2.2.2.2.1 hc8 | (have hy9 := HF.out.2.2.2.2.2.2.1 hc8; simp at hy9; simp [hy9]; done) | exact HF.out.2.2.2.2.2.2.2.1 hc9 | (have hy9 := HF.out.2.2.2.2.2.2.2.1 hc9; simp at hy9; simp [hy9]; done)
          have hc4 : b4 = true := by first | (refine hd ⟨4, .data⟩ ?_ rfl; simp; done) | (refine hd ⟨4, .chain⟩ ?_ rfl; simp; done) | (refine hd ⟨4, .phase⟩ ?_ rfl; simp; done) | exact HF.out.2.2.2.2.1 hc6 | (have hy9 := HF.out.2.2.2.2.1 hc6; simp at hy9; simp [hy9]; done) | exact HF.out.2.2.2.2.2.1 hc7 | (have hy9 := HF.out.2.2.2.2.2.1 hc7; simp at hy9; simp [hy9]; done) | exact HF.out.2.2.2.2.2.2.1 hc8 | (have hy9 := HF.out.2.2.2.2.2.2.1 hc8; simp at hy9; simp [hy9]; done) | exact HF.out.2.2.2.2.2.2.2.1 hc9 | (have hy9 := HF.out.2.2.2.2.2.2.2.1 hc9; simp at hy9; simp [hy9]; done)
          have hc3 : b3 = true := by first | (refine hd ⟨3, .data⟩ ?_ rfl; simp; done) | (refine hd ⟨3, .chain⟩ ?_ rfl; simp; done) | (refine hd ⟨3, .phase⟩ ?_ rfl; simp; done)
          have hc2 : b2 = true := by first | (refine hd ⟨2, .data⟩ ?_ rfl; simp; done) | (refine hd ⟨2, .chain⟩ ?_ rfl; simp; done) | (refine hd ⟨2, .phase⟩ ?_ rfl; simp; done) | exact HF.out.2.2.2.2.2.2.2.1 hc9 | (have hy9 := HF.out.2.2.2.2.2.2.2.1 hc9; simp at hy9; simp [hy9]; done)
          have hc1 : b1 = true := by first | (refine hd ⟨1, .data⟩ ?_ rfl; simp; done) | (refine hd ⟨1, .chain⟩ ?_ rfl; simp; done) | (refine hd ⟨1, .phase⟩ ?_ rfl; simp; done) | exact HF.out.2.2.2.2.2.2.1 hc8 | (have hy9 := HF.out.2.2.2.2.2.2.1 hc8; simp at hy9; simp [hy9]; done) | exact HF.out.2.2.2.2.2.2.2.1 hc9 | (have hy9 := HF.out.2.2.2.2.2.2.2.1 hc9; simp at hy9; simp [hy9]; done)
          have hc0 : b0 = true := by first | (refine hd ⟨0, .data⟩ ?_ rfl; simp; done) | (refine hd ⟨0, .chain⟩ ?_ rfl; simp; done) | (refine hd ⟨0, .phase⟩ ?_ rfl; simp; done) | exact HF.out.2.2.2.2.2.1 hc7 | (have hy9 := HF.out.2.2.2.2.2.1 hc7; simp at hy9; simp [hy9]; done) | exact HF.out.2.2.2.2.2.2.1 hc8 | (have hy9 := HF.out.2.2.2.2.2.2.1 hc8; simp at hy9; simp [hy9]; done) | exact HF.out.2.2.2.2.2.2.2.1 hc9 | (have hy9 := HF.out.2.2.2.2.2.2.2.1 hc9; simp at hy9; simp [hy9]; done)
          subst hc10 hc9 hc8 hc7 hc6 hc5 hc4 hc3 hc2 hc1 hc0
          have hc11 : b11 = false := by cases hx9 : b11 with | false => rfl | true => (have hy9 := HF.out.2.2.2.2.2.2.2.2.2 hx9; simp at hy9)
          subst hc11
          clear hl hd ho hL
          simp only [sel_t, sel_f]
          refine wpOp_step rfl ?_
          intro K' hK'
          go_simp
          exact hK' _ _ ⟨true, true, true, true, true, true, true, true, true, true, true, false, x5, yy, rfl, rfl, Lib.hid ⟨HF.out.1, HF.out.2.1, HF.out.2.2.1, HF.out.2.2.2.1, (fun h => by have := HF.out.2.2.2.2.1 h; simpa using this), (fun h => by have := HF.out.2.2.2.2.2.1 h; simpa using this), (fun h => by have := HF.out.2.2.2.2.2.2.1 h; simpa using this), (fun h => by have := HF.out.2.2.2.2.2.2.2.1 h; simpa using this), (fun _ => rfl), (fun h => absurd h (by decide))⟩⟩
        · obtain rfl := Option.some.inj ho
          have hc11 : b11 = false := hl
          have hc10 : b10 = true := by first | (refine hd ⟨10, .data⟩ ?_ rfl; simp; done) | (refine hd ⟨10, .chain⟩ ?_ rfl; simp; done) | (refine hd ⟨10, .phase⟩ ?_ rfl; simp; done)
          have hc9 : b9 = true := by first | (refine hd ⟨9, .data⟩ ?_ rfl; simp; done) | (refine hd ⟨9, .chain⟩ ?_ rfl; simp; done) | (refine hd ⟨9, .phase⟩ ?_ rfl; simp; done) | exact HF.out.2.2.2.2.2.2.2.2.1 hc10 | (have hy9 := HF.out.2.2.2.2.2.2.2.2.1 hc10; simp at hy9; simp [hy9]; done)
          have hc8 : b8 = true := by first | (refine hd ⟨8, .data⟩ ?_ rfl; simp; done) | (refine hd ⟨8, .chain⟩ ?_ rfl; simp; done) | (refine hd ⟨8, .phase⟩ ?_ rfl; simp; done) | exact HF.out.2.2.2.2.2.2.2.1 hc9 | (have hy9 := HF.out.2.2.2.2.2.2.2.1 hc9; simp at hy9; simp [hy9]; done) | exact HF.out.2.2.2.2.2.2.2.2.1 hc10 | (have hy9 := HF.out.2.2.2.2.2.2.2.2.1 hc10; simp at hy9; simp [hy9]; done)
          have hc7 : b7 = true := by first | (refine hd ⟨7, .data⟩ ?_ rfl; simp; done) | (refine hd ⟨7, .chain⟩ ?_ rfl; simp; done) | (refine hd ⟨7, .phase⟩ ?_ rfl; simp; done) | exact HF.out.2.2.2.2.2.2.1 hc8 | (have hy9 := HF.out.2.2.2.2.2.2.1 hc8; simp at hy9; simp [hy9]; done) | exact HF.out.2.2.2.2.2.2.2.1 hc9 | (have hy9 := HF.out.2.2.2.2.2.2.2.1 hc9; simp at hy9; simp [hy9]; done) | exact HF.out.2.2.2.2.2.2.2.2.1 hc10 | (have hy9 := HF.out.2.2.2.2.2.2.2.2.1 hc10; simp at hy9; simp [hy9]; done)
          have hc6 : b6 = true := by first | (refine hd ⟨6, .data⟩ ?_ rfl; simp; done) | (refine hd ⟨6, .chain⟩ ?_ rfl; simp; done) | (refine hd ⟨6, .phase⟩ ?_ rfl; simp; done) | exact HF.out.2.2.2.2.2.1 hc7 | (have hy9 := HF.out.2.2.2.2.2.1 hc7; simp at hy9; simp [hy9]; done) | exact HF.out.2.2.2.2.2.2.1 hc8 | (have hy9 := HF.out.2.2.2.2.2.2.1 hc8; simp at hy9; simp [hy9]; done) | exact HF.out.2.2.2.2.2.2.2.1 hc9 | (have hy9 := HF.out.2.2.2.2.2.2.2.1 hc9; simp at hy9; simp [hy9]; done) | exact HF.out.2.2.2.2.2.2.2.2.1 hc10 | (have hy9 := HF.out.2.2.2.2.2.2.2.2.1 hc10; simp at hy9; simp [hy9]; done)
          have hc5 : b5 = true := by first | (refine hd ⟨5, .data⟩ ?_ rfl; simp; done) | (refine hd ⟨5, .chain⟩ ?_ rfl; simp; done) | (refine hd ⟨5, .phase⟩ ?_ rfl; simp; done) | exact HF.out.2.2.2.2.1 hc6 | (have hy9 := HF.out.2.2.2.2.1 hc6; simp at hy9; simp [hy9]; done) | exact HF.out.2.2.2.2.2.1 hc7 | (have hy9 := HF.out.2.2.2.2.2.1 hc7; simp at hy9; simp [hy9]; done) | exact HF.out.2.2.2.2.2.2.1 hc8 | (have hy9 := HF.out.2.2.2.2.2.2.1 hc8; simp at hy9; simp [hy9]; done) | exact HF.out.2.2.2.2.2.2.2.1 hc9 | (have hy9 := HF.out.2.2.2.2.2.2.2.1 hc9; simp at hy9; simp [hy9]; done) | exact HF.out.2.2.2.2.2.2.2.2.1 hc10 | (have hy9 := HF.out.2.2.2.2.2.2.2.2.1 hc10; simp at hy9; simp [hy9]; done)
          have hc4 : b4 = true := by first | (refine hd ⟨4, .data⟩ ?_ rfl; simp; done) | (refine hd ⟨4, .chain⟩ ?_ rfl; simp; done) | (refine hd ⟨4, .phase⟩ ?_ rfl; simp; done) | exact HF.out.2.2.2.2.1 hc6 | (have hy9 := HF.out.2.2.2.2.1 hc6; simp at hy9; simp [hy9]; done) | exact HF.out.2.2.2.2.2.1 hc7 | (have hy9 := HF.out.2.2.2.2.2.1 hc7; simp at hy9; simp [hy9]; done) | exact HF.out.2.2.2.2.2.2.1 hc8 | (have hy9 := HF.out.2.2.2.2.2.2.1 hc8; simp at hy9; simp [hy9]; done) | exact HF.out.2.2.2.2.2.2.2.1 hc9 | (have hy9 := HF.out.2.2.2.2.2.2.2.1 hc9; simp at hy9; simp [hy9]; done) | exact HF.out.2.2.2.2.2.2.2.2.1 hc10 | (have hy9 := HF.out.2.2.2.2.2.2.2.2.1 hc10; simp at hy9; simp [hy9]; done)
          have hc3 : b3 = true := by first | (refine hd ⟨3, .data⟩ ?_ rfl; simp; done) | (refine hd ⟨3, .chain⟩ ?_ rfl; simp; done) | (refine hd ⟨3, .phase⟩ ?_ rfl; simp; done) | exact HF.out.2.2.2.2.2.2.2.2.1 hc10 | (have hy9 := HF.out.2.2.2.2.2.2.2.2.1 hc10; simp at hy9; simp [hy9]; done)
          have hc2 : b2 = true := by first | (refine hd ⟨2, .data⟩ ?_ rfl; simp; done) | (refine hd ⟨2, .chain⟩ ?_ rfl; simp; done) | (refine hd ⟨2, .phase⟩ ?_ rfl; simp; done) | exact HF.out.2.2.2.2.2.2.2.1 hc9 | (have hy9 := HF.out.2.2.2.2.2.2.2.1 hc9; simp at hy9; simp [hy9]; done) | exact HF.out.2.2.2.2.2.2.2.2.1 hc10 | (have hy9 := HF.out.2.2.2.2.2.2.2.2.1 hc10; simp at hy9; simp [hy9]; done)
          have hc1 : b1 = true := by first | (refine hd ⟨1, .data⟩ ?_ rfl; simp; done) | (refine hd ⟨1, .chain⟩ ?_ rfl; simp; done) | (refine hd ⟨1, .phase⟩ ?_ rfl; simp; done) | exact HF.out.2.2.2.2.2.2.1 hc8 | (have hy9 := HF.out.2.2.2.2.2.2.1 hc8; simp at hy9; simp [hy9]; done) | exact HF.out.2.2.2.2.2.2.2.1 hc9 | (have hy9 := HF.out.2.2.2.2.2.2.2.1 hc9; simp at hy9; simp [hy9]; done) | exact HF.out.2.2.2.2.2.2.2.2.1 hc10 | (have hy9 := HF.out.2.2.2.2.2.2.2.2.1 hc10; simp at hy9; simp [hy9]; done)
          have hc0 : b0 = true := by first | (refine hd ⟨0, .data⟩ ?_ rfl; simp; done) | (refine hd ⟨0, .chain⟩ ?_ rfl; simp; done) | (refine hd ⟨0, .phase⟩ ?_ rfl; simp; done) | exact HF.out.2.2.2.2.2.1 hc7 | (have hy9 := HF.out.2.2.2.2.2.1 hc7; simp at hy9; simp [hy9]; done) | exact HF.out.2.2.2.2.2.2.1 hc8 | (have hy9 := HF.out.2.2.2.2.2.2.1 hc8; simp at hy9; simp [hy9]; done) | exact HF.out.2.2.2.2.2.2.2.1 hc9 | (have hy9 := HF.out.2.2.2.2.2.2.2.1 hc9; simp at hy9; simp [hy9]; done) | exact HF.out.2.2.2.2.2.2.2.2.1 hc10 | (have hy9 := HF.out.2.2.2.2.2.2.2.2.1 hc10; simp at hy9; simp [hy9]; done)
          subst hc11 hc10 hc9 hc8 hc7 hc6 hc5 hc4 hc3 hc2 hc1 hc0
          clear hl hd ho hL
          simp only [sel_t, sel_f]
          refine wpOp_step rfl ?_
          intro K' hK'
          go_simp
          exact hK' _ _ ⟨true, true, true, true, true, true, true, true, true, true, true, true, x5, yy, rfl, rfl, Lib.hid ⟨HF.out.1, HF.out.2.1, HF.out.2.2.1, HF.out.2.2.2.1, (fun h => by have := HF.out.2.2.2.2.1 h; simpa using this), (fun h => by have := HF.out.2.2.2.2.2.1 h; simpa using this), (fun h => by have := HF.out.2.2.2.2.2.2.1 h; simpa using this), (fun h => by have := HF.out.2.2.2.2.2.2.2.1 h; simpa using this), (fun h => by have := HF.out.2.2.2.2.2.2.2.2.1 h; simpa using this), (fun _ => rfl)⟩⟩
      · rintro L A9 w' hL ⟨b0, b1, b2, b3, b4, b5, b6, b7, b8, b9, b10, b11, x5, yy, rfl, rfl, HF⟩ hall
        have hc0 : b0 = true := hall 0 (by decide)
        have hc1 : b1 = true := hall 1 (by decide)
        have hc2 : b2 = true := hall 2 (by decide)
        have hc3 : b3 = true := hall 3 (by decide)
        have hc4 : b4 = true := hall 4 (by decide)
        have hc5 : b5 = true := hall 5 (by decide)
        have hc6 : b6 = true := hall 6 (by decide)
        have hc7 : b7 = true := hall 7 (by decide)
        have hc8 : b8 = true := hall 8 (by decide)
        have hc9 : b9 = true := hall 9 (by decide)
        have hc10 : b10 = true := hall 10 (by decide)
        have hc11 : b11 = true := hall 11 (by decide)
        subst hc0 hc1 hc2 hc3 hc4 hc5 hc6 hc7 hc8 hc9 hc10 hc11
        simp only [sel_t]
        have HD := Lib.hid ((HF.out.2.2.2.1 rfl).1 x5)
        have c0 := (HF.out.2.2.2.1 rfl).2.1
        have c1 := (HF.out.2.2.2.1 rfl).2.2
        clear HF
        try simp only [Exit.inBlock, Exit.then]
        go_wp2
        try simp only [Exit.inBlock, Exit.then]
        refine bodyPost_ret (v := .tuple #[.agg #[.int .i64 n1, .slice va es.length vc], .int .i64 m, .int .i64 s, .int .i64 t2, .int .i64 x5]) ?_ rfl HD.out
        rw [results_ctttt rfl]
        go_simp
    · clear hx0 hx1
      go_upto_region 6 with fail
      refine wp_region_inv (fun L A9 w' => ∃ (b0 b1 b2 b3 b4 b5 b6 b7 b8 b9 b10 b11 : Bool) (x5 : Int) (yy : Nat), L = #[b0, b1, b2, b3, b4, b5, b6, b7, b8, b9, b10, b11] ∧ A9 = { tmps := #[Value.slice a n cap, undef, Value.pointer (some { block := w.heap.size, off := 0 }), sel b8 (Value.int .i64 m) (Value.int IntKind.i64 0), sel b9 (Value.int .i64 s) (Value.int IntKind.i64 0), sel b10 (Value.int .i64 t) (Value.int IntKind.i64 0), sel b11 (Value.int .i64 x5) (Value.int IntKind.i64 0), Value.pointer (some { block := w1.heap.size, off := 0 }), Value.int IntKind.i64 m, Value.int IntKind.i64 s, Value.pointer (some { block := g, off := 0 }), Value.int IntKind.i64 t, Value.tuple #[Value.agg #[Value.int IntKind.i64 n1, Value.slice va es.length vc], Value.int IntKind.i64 m, Value.int IntKind.i64 s], Value.slice a n cap, Value.tuple #[Value.agg #[Value.int IntKind.i64 n1, Value.slice va es.length vc], Value.int IntKind.i64 m, Value.int IntKind.i64 s], Value.agg #[Value.int IntKind.i64 n1, Value.slice va es.length vc], Value.int IntKind.i64 m, Value.int IntKind.i64 s, Value.slice a n cap, Value.pointer (some { block := g, off := 0 }), Value.pointer (some { block := g, off := 0 }), Value.slice (some { block := w3.heap.size, off := 0 }) 6 6, Value.int IntKind.i64 t, Value.pointer (some { block := w1.heap.size, off := 0 }), Value.int IntKind.i64 n1, Value.bool true, Value.bool true, Value.pointer (some { block := g, off := 0 }), Value.int IntKind.i64 c, Value.bool (decide (0 < c)), Value.bool (decide (0 < c)), undef, undef, undef, undef, sel b0 (Value.agg #[.int .i64 n1, .slice va es.length vc]) undef, sel b1 (Value.int .i64 m) undef, sel b2 (Value.int .i64 s) undef, sel b3 (Value.int .i64 t) undef, sel b4 (Value.pointer (some ⟨g, 0, none⟩)) undef, sel b5 (Value.slice (some ⟨yy, 0, none⟩) 8 8) undef, sel b6 (Value.int .i64 x5) undef], defers := [] } ∧ Hid ((b7 = false → Rd w2 w' g (0 + 1 + 1 + b6.toNat)) ∧ (b7 = false → w5.grownBy w' (some g)) ∧ (b5 = true → b6 = false → RowN w' g (.slice (some ⟨yy, 0, none⟩) 8 8) [2, 1, 3, 0, 5, 12, 50, 51]) ∧ (b7 = true → (∀ t9 : Int, DrawnC5 w (.returned (.tuple #[.agg #[.int .i64 n1, .slice va es.length vc], .int .i64 m, .int .i64 s, .int .i64 t, .int .i64 t9])) w') ∧ w'.cell? ⟨w.heap.size, 0, none⟩ = some (.int .i64 n1) ∧ w'.cell? ⟨w.heap.size, 1, none⟩ = some (.slice va es.length vc)) ∧ (b6 = true → (b4 && b5) = true) ∧ (b7 = true → (b0 && b4 && b5 && b6) = true) ∧ (b8 = true → (b0 && b1 && b4 && b5 && b6 && b7) = true) ∧ (b9 = true → (b0 && b1 && b2 && b4 && b5 && b6 && b7 && b8) = true) ∧ (b10 = true → (b0 && b1 && b2 && b3 && b4 && b5 && b6 && b7 && b8 && b9) = true) ∧ (b11 = true → (b0 && b1 && b2 && b3 && b4 && b5 && b6 && b7 && b8 && b9 && b10) = true))) (by kernel_rfl) (by kernel_rfl) ?_ ?_ ?_
      · exact ⟨false, false, false, false, false, false, false, false, false, false, false, false, 0, 0, rfl, rfl, Lib.hid ⟨(fun _ => Rd.drew' K5.out.1), (fun _ => g_drew (grown_refl _ _)), (fun h => absurd h (by decide)), (fun h => absurd h (by decide)), (fun h => absurd h (by decide)), (fun h => absurd h (by decide)), (fun h => absurd h (by decide)), (fun h => absurd h (by decide)), (fun h => absurd h (by decide)), (fun h => absurd h (by decide))⟩⟩
      · rintro L A9 w' hL ⟨b0, b1, b2, b3, b4, b5, b6, b7, b8, b9, b10, b11, x5, yy, rfl, rfl, HF⟩ k9 o9 ho hl hd
        have hk9 : k9 = 0 ∨ k9 = 1 ∨ k9 = 2 ∨ k9 = 3 ∨ k9 = 4 ∨ k9 = 5 ∨ k9 = 6 ∨ k9 = 7 ∨ k9 = 8 ∨ k9 = 9 ∨ k9 = 10 ∨ k9 = 11 := by have := (Array.getElem?_eq_some_iff.1 ho).1; simp at this; omega
        rcases hk9 with rfl | rfl | rfl | rfl | rfl | rfl | rfl | rfl | rfl | rfl | rfl | rfl
        · obtain rfl := Option.some.inj ho
          have hc0 : b0 = false := hl
          subst hc0
          have hc7 : b7 = false := by cases hx9 : b7 with | false => rfl | true => (have hy9 := HF.out.2.2.2.2.2.1 hx9; simp at hy9)
          subst hc7
          have hc8 : b8 = false := by cases hx9 : b8 with | false => rfl | true => (have hy9 := HF.out.2.2.2.2.2.2.1 hx9; simp at hy9)
          subst hc8
          have hc9 : b9 = false := by cases hx9 : b9 with | false => rfl | true => (have hy9 := HF.out.2.2.2.2.2.2.2.1 hx9; simp at hy9)
          subst hc9
          have hc10 : b10 = false := by cases hx9 : b10 with | false => rfl | true => (have hy9 := HF.out.2.2.2.2.2.2.2.2.1 hx9; simp at hy9)
          subst hc10
          have hc11 : b11 = false := by cases hx9 : b11 with | false => rfl | true => (have hy9 := HF.out.2.2.2.2.2.2.2.2.2 hx9; simp at hy9)
          subst hc11
          clear hl hd ho hL
          simp only [sel_t, sel_f]
          have hB9 := K5.out.2.2.2.grownG (HF.out.2.1 rfl) (by omega)
          have y0 : w'.cell? ⟨w1.heap.size, 0, none⟩ = some (.int .i64 n1) := by simpa using hB9.cell 0
          have y1 : w'.cell? ⟨w1.heap.size, 1, none⟩ = some (.slice va es.length vc) := by simpa using hB9.cell 1
          refine wpOp_step rfl ?_
          intro K' hK'
          go_simp
          exact hK' _ _ ⟨true, b1, b2, b3, b4, b5, b6, false, false, false, false, false, x5, yy, rfl, rfl, Lib.hid ⟨HF.out.1, HF.out.2.1, HF.out.2.2.1, HF.out.2.2.2.1, HF.out.2.2.2.2.1, (fun h => absurd h (by decide)), (fun h => absurd h (by decide)), (fun h => absurd h (by decide)), (fun h => absurd h (by decide)), (fun h => absurd h (by decide))⟩⟩
        · obtain rfl := Option.some.inj ho
          have hc1 : b1 = false := hl
          subst hc1
          have hc8 : b8 = false := by cases hx9 : b8 with | false => rfl | true => (have hy9 := HF.out.2.2.2.2.2.2.1 hx9; simp at hy9)
          subst hc8
          have hc9 : b9 = false := by cases hx9 : b9 with | false => rfl | true => (have hy9 := HF.out.2.2.2.2.2.2.2.1 hx9; simp at hy9)
          subst hc9
          have hc10 : b10 = false := by cases hx9 : b10 with | false => rfl | true => (have hy9 := HF.out.2.2.2.2.2.2.2.2.1 hx9; simp at hy9)
          subst hc10
          have hc11 : b11 = false := by cases hx9 : b11 with | false => rfl | true => (have hy9 := HF.out.2.2.2.2.2.2.2.2.2 hx9; simp at hy9)
          subst hc11
          clear hl hd ho hL
          simp only [sel_t, sel_f]
          refine wpOp_step rfl ?_
          intro K' hK'
          go_simp
          exact hK' _ _ ⟨b0, true, b2, b3, b4, b5, b6, b7, false, false, false, false, x5, yy, rfl, rfl, Lib.hid ⟨HF.out.1, HF.out.2.1, HF.out.2.2.1, HF.out.2.2.2.1, HF.out.2.2.2.2.1, HF.out.2.2.2.2.2.1, (fun h => absurd h (by decide)), (fun h => absurd h (by decide)), (fun h => absurd h (by decide)), (fun h => absurd h (by decide))⟩⟩
        · obtain rfl := Option.some.inj ho
          have hc2 : b2 = false := hl
          subst hc2
          have hc9 : b9 = false := by cases hx9 : b9 with | false => rfl | true => (have hy9 := HF.out.2.2.2.2.2.2.2.1 hx9; simp at hy9)
          subst hc9
          have hc10 : b10 = false := by cases hx9 : b10 with | false => rfl | true => (have hy9 := HF.out.2.2.2.2.2.2.2.2.1 hx9; simp at hy9)
          subst hc10
          have hc11 : b11 = false := by cases hx9 : b11 with | false => rfl | true => (have hy9 := HF.out.2.2.2.2.2.2.2.2.2 hx9; simp at hy9)
          subst hc11
          clear hl hd ho hL
          simp only [sel_t, sel_f]
          refine wpOp_step rfl ?_
          intro K' hK'
          go_simp
          exact hK' _ _ ⟨b0, b1, true, b3, b4, b5, b6, b7, b8, false, false, false, x5, yy, rfl, rfl, Lib.hid ⟨HF.out.1, HF.out.2.1, HF.out.2.2.1, HF.out.2.2.2.1, HF.out.2.2.2.2.1, HF.out.2.2.2.2.2.1, HF.out.2.2.2.2.2.2.1, (fun h => absurd h (by decide)), (fun h => absurd h (by decide)), (fun h => absurd h (by decide))⟩⟩
        · obtain rfl := Option.some.inj ho
          have hc3 : b3 = false := hl
          subst hc3
          have hc10 : b10 = false := by cases hx9 : b10 with | false => rfl | true => (have hy9 := HF.out.2.2.2.2.2.2.2.2.1 hx9; simp at hy9)
          subst hc10
          have hc11 : b11 = false := by cases hx9 : b11 with | false => rfl | true => (have hy9 := HF.out.2.2.2.2.2.2.2.2.2 hx9; simp at hy9)
          subst hc11
          clear hl hd ho hL
          simp only [sel_t, sel_f]
          refine wpOp_step rfl ?_
          intro K' hK'
          go_simp
          exact hK' _ _ ⟨b0, b1, b2, true, b4, b5, b6, b7, b8, b9, false, false, x5, yy, rfl, rfl, Lib.hid ⟨HF.out.1, HF.out.2.1, HF.out.2.2.1, HF.out.2.2.2.1, HF.out.2.2.2.2.1, HF.out.2.2.2.2.2.1, HF.out.2.2.2.2.2.2.1, HF.out.2.2.2.2.2.2.2.1, (fun h => absurd h (by decide)), (fun h => absurd h (by decide))⟩⟩
        · obtain rfl := Option.some.inj ho
          have hc4 : b4 = false := hl
          subst hc4
          have hc6 : b6 = false := by cases hx9 : b6 with | false => rfl | true => (have hy9 := HF.out.2.2.2.2.1 hx9; simp at hy9)
          subst hc6
          have hc7 : b7 = false := by cases hx9 : b7 with | false => rfl | true => (have hy9 := HF.out.2.2.2.2.2.1 hx9; simp at hy9)
          subst hc7
          have hc8 : b8 = false := by cases hx9 : b8 with | false => rfl | true => (have hy9 := HF.out.2.2.2.2.2.2.1 hx9; simp at hy9)
          subst hc8
          have hc9 : b9 = false := by cases hx9 : b9 with | false => rfl | true => (have hy9 := HF.out.2.2.2.2.2.2.2.1 hx9; simp at hy9)
          subst hc9
          have hc10 : b10 = false := by cases hx9 : b10 with | false => rfl | true => (have hy9 := HF.out.2.2.2.2.2.2.2.2.1 hx9; simp at hy9)
          subst hc10
          have hc11 : b11 = false := by cases hx9 : b11 with | false => rfl | true => (have hy9 := HF.out.2.2.2.2.2.2.2.2.2 hx9; simp at hy9)
          subst hc11
          clear hl hd ho hL
          simp only [sel_t, sel_f]
          refine wpOp_step rfl ?_
          intro K' hK'
          go_simp
          exact hK' _ _ ⟨b0, b1, b2, b3, true, b5, false, false, false, false, false, false, x5, yy, rfl, rfl, Lib.hid ⟨HF.out.1, HF.out.2.1, HF.out.2.2.1, HF.out.2.2.2.1, (fun h => absurd h (by decide)), (fun h => absurd h (by decide)), (fun h => absurd h (by decide)), (fun h => absurd h (by decide)), (fun h => absurd h (by decide)), (fun h => absurd h (by decide))⟩⟩
        · obtain rfl := Option.some.inj ho
          have hc5 : b5 = false := hl
          subst hc5
          have hc6 : b6 = false := by cases hx9 : b6 with | false => rfl | true => (have hy9 := HF.out.2.2.2.2.1 hx9; simp at hy9)
          subst hc6
          have hc7 : b7 = false := by cases hx9 : b7 with | false => rfl | true => (have hy9 := HF.out.2.2.2.2.2.1 hx9; simp at hy9)
          subst hc7
          have hc8 : b8 = false := by cases hx9 : b8 with | false => rfl | true => (have hy9 := HF.out.2.2.2.2.2.2.1 hx9; simp at hy9)
          subst hc8
          have hc9 : b9 = false := by cases hx9 : b9 with | false => rfl | true => (have hy9 := HF.out.2.2.2.2.2.2.2.1 hx9; simp at hy9)
          subst hc9
          have hc10 : b10 = false := by cases hx9 : b10 with | false => rfl | true => (have hy9 := HF.out.2.2.2.2.2.2.2.2.1 hx9; simp at hy9)
          subst hc10
          have hc11 : b11 = false := by cases hx9 : b11 with | false => rfl | true => (have hy9 := HF.out.2.2.2.2.2.2.2.2.2 hx9; simp at hy9)
          subst hc11
          clear hl hd ho hL
          simp only [sel_t, sel_f]
          refine wpOp_step rfl ?_
          intro K' hK'
          go_simp
          exact hK' _ _ ⟨b0, b1, b2, b3, b4, true, false, false, false, false, false, false, x5, w'.heap.size, rfl, rfl, Lib.hid ⟨(fun _ => (HF.out.1 rfl).alloc' _), (fun _ => g_alloc (HF.out.2.1 rfl) _), (fun _ _ => rowN_at [2, 1, 3, 0, 5, 12, 50, 51] w' g _ _ rfl (HF.out.1 rfl).lt), (fun h => absurd h (by decide)), (fun h => absurd h (by decide)), (fun h => absurd h (by decide)), (fun h => absurd h (by decide)), (fun h => absurd h (by decide)), (fun h => absurd h (by decide)), (fun h => absurd h (by decide))⟩⟩
        · obtain rfl := Option.some.inj ho
          have hc6 : b6 = false := hl
          have hc5 : b5 = true := by first | (refine hd ⟨5, .data⟩ ?_ rfl; simp; done) | (refine hd ⟨5, .chain⟩ ?_ rfl; simp; done) | (refine hd ⟨5, .phase⟩ ?_ rfl; simp; done)
          have hc4 : b4 = true := by first | (refine hd ⟨4, .data⟩ ?_ rfl; simp; done) | (refine hd ⟨4, .chain⟩ ?_ rfl; simp; done) | (refine hd ⟨4, .phase⟩ ?_ rfl; simp; done)
          subst hc6 hc5 hc4
          have hc7 : b7 = false := by cases hx9 : b7 with | false => rfl | true => (have hy9 := HF.out.2.2.2.2.2.1 hx9; simp at hy9)
          subst hc7
          have hc8 : b8 = false := by cases hx9 : b8 with | false => rfl | true => (have hy9 := HF.out.2.2.2.2.2.2.1 hx9; simp at hy9)
          subst hc8
          have hc9 : b9 = false := by cases hx9 : b9 with | false => rfl | true => (have hy9 := HF.out.2.2.2.2.2.2.2.1 hx9; simp at hy9)
          subst hc9
          have hc10 : b10 = false := by cases hx9 : b10 with | false => rfl | true => (have hy9 := HF.out.2.2.2.2.2.2.2.2.1 hx9; simp at hy9)
          subst hc10
          have hc11 : b11 = false := by cases hx9 : b11 with | false => rfl | true => (have hy9 := HF.out.2.2.2.2.2.2.2.2.2 hx9; simp at hy9)
          subst hc11
          clear hl hd ho hL
          simp only [sel_t, sel_f]
          have hcall := num [2, 1, 3, 0, 5, 12, 50, 51] (.slice (some ⟨yy, 0, none⟩) 8 8) w2 w' g _ (HF.out.1 rfl) (by simp only [Bool.toNat_false, Bool.toNat_true]; omega) (HF.out.2.2.1 rfl rfl) (by decide) (by decide)
          have HC9 := Lib.hid hcall
          clear hcall
          refine wpOp_step rfl ?_
          intro K' hK'
          go_simp
          refine HC9.out.mono ?_
          rintro e9 w9 ⟨x9, hx9, rfl, hR9, hG9⟩
          exact hK' _ _ ⟨b0, b1, b2, b3, true, true, true, false, false, false, false, false, x9, yy, rfl, rfl, Lib.hid ⟨(fun _ => hR9.more (by simp only [Bool.toNat_false, Bool.toNat_true]; omega)), (fun _ => grown_trans' (HF.out.2.1 rfl) hG9), (fun _ h => absurd h (by decide)), (fun h => absurd h (by decide)), (fun _ => rfl), (fun h => absurd h (by decide)), (fun h => absurd h (by decide)), (fun h => absurd h (by decide)), (fun h => absurd h (by decide)), (fun h => absurd h (by decide))⟩⟩
        · obtain rfl := Option.some.inj ho
          have hc7 : b7 = false := hl
          have hc6 : b6 = true := by first | (refine hd ⟨6, .data⟩ ?_ rfl; simp; done) | (refine hd ⟨6, .chain⟩ ?_ rfl; simp; done) | (refine hd ⟨6, .phase⟩ ?_ rfl; simp; done)
          have hc5 : b5 = true := by first | (refine hd ⟨5, .data⟩ ?_ rfl; simp; done) | (refine hd ⟨5, .chain⟩ ?_ rfl; simp; done) | (refine hd ⟨5, .phase⟩ ?_ rfl; simp; done) | exact HF.out.2.2.2.2.1 hc6 | (have hy9 := HF.out.2.2.2.2.1 hc6; simp at hy9; simp [hy9]; done)
          have hc4 : b4 = true := by first | (refine hd ⟨4, .data⟩ ?_ rfl; simp; done) | (refine hd ⟨4, .chain⟩ ?_ rfl; simp; done) | (refine hd ⟨4, .phase⟩ ?_ rfl; simp; done) | exact HF.out.2.2.2.2.1 hc6 | (have hy9 := HF.out.2.2.2.2.1 hc6; simp at hy9; simp [hy9]; done)
          have hc0 : b0 = true := by first | (refine hd ⟨0, .data⟩ ?_ rfl; simp; done) | (refine hd ⟨0, .chain⟩ ?_ rfl; simp; done) | (refine hd ⟨0, .phase⟩ ?_ rfl; simp; done)
          subst hc7 hc6 hc5 hc4 hc0
          have hc8 : b8 = false := by cases hx9 : b8 with | false => rfl | true => (have hy9 := HF.out.2.2.2.2.2.2.1 hx9; simp at hy9)
          subst hc8
          have hc9 : b9 = false := by cases hx9 : b9 with | false => rfl | true => (have hy9 := HF.out.2.2.2.2.2.2.2.1 hx9; simp at hy9)
          subst hc9
          have hc10 : b10 = false := by cases hx9 : b10 with | false => rfl | true => (have hy9 := HF.out.2.2.2.2.2.2.2.2.1 hx9; simp at hy9)
          subst hc10
          have hc11 : b11 = false := by cases hx9 : b11 with | false => rfl | true => (have hy9 := HF.out.2.2.2.2.2.2.2.2.2 hx9; simp at hy9)
          subst hc11
          clear hl hd ho hL
          simp only [sel_t, sel_f]
          have hB9 := K5.out.2.1.grownG (HF.out.2.1 rfl) (by omega)
          have r0 : w'.cell? ⟨w.heap.size, 0, none⟩ = some (.int .i64 0) := by simpa using hB9.cell 0
          have r1 : w'.cell? ⟨w.heap.size, 1, none⟩ = some (.slice none 0 0) := by simpa using hB9.cell 1
          have r2 := hB9.frozen 0
          have r3 := hB9.frozen 1
          refine wpOp_step rfl ?_
          intro K' hK'
          go_simp
          exact hK' _ _ ⟨true, b1, b2, b3, true, true, true, true, false, false, false, false, x5, yy, rfl, rfl, Lib.hid ⟨(fun h => absurd h (by decide)), (fun h => absurd h (by decide)), (fun _ h => absurd h (by decide)), (fun _ => ⟨fun t9 => drawnC5_of K2.out.1 (HF.out.1 rfl) (InR.grownH K5.out.2.2.1 (HF.out.2.1 rfl) (by omega)) K2.out.2.2.2.1 hl hs0 (by have := ((HF.out.2.1 rfl)).size; omega), by go_simp, by go_simp⟩), (fun h => by have := HF.out.2.2.2.2.1 h; simpa using this), (fun _ => rfl), (fun h => absurd h (by decide)), (fun h => absurd h (by decide)), (fun h => absurd h (by decide)), (fun h => absurd h (by decide))⟩⟩
        · obtain rfl := Option.some.inj ho
          have hc8 : b8 = false := hl
          have hc7 : b7 = true := by first | (refine hd ⟨7, .data⟩ ?_ rfl; simp; done) | (refine hd ⟨7, .chain⟩ ?_ rfl; simp; done) | (refine hd ⟨7, .phase⟩ ?_ rfl; simp; done)
          have hc6 : b6 = true := by first | (refine hd ⟨6, .data⟩ ?_ rfl; simp; done) | (refine hd ⟨6, .chain⟩ ?_ rfl; simp; done) | (refine hd ⟨6, .phase⟩ ?_ rfl; simp; done) | exact HF.out.2.2.2.2.2.1 hc7 | (have hy9 := HF.out.2.2.2.2.2.1 hc7; simp at hy9; simp [hy9]; done)
          have hc5 : b5 = true := by first | (refine hd ⟨5, .data⟩ ?_ rfl; simp; done) | (refine hd ⟨5, .chain⟩ ?_ rfl; simp; done) | (refine hd ⟨5, .phase⟩ ?_ rfl; simp; done) | exact HF.out.2.2.2.2.1 hc6 | (have hy9 := HF.out.2.2.2.2.1 hc6; simp at hy9; simp [hy9]; done) | exact HF.out.2.2.2.2.2.1 hc7 | (have hy9 := HF.out.2.2.2.2.2.1 hc7; simp at hy9; simp [hy9]; done)
          have hc4 : b4 = true := by first | (refine hd ⟨4, .data⟩ ?_ rfl; simp; done) | (refine hd ⟨4, .chain⟩ ?_ rfl; simp; done) | (refine hd ⟨4, .phase⟩ ?_ rfl; simp; done) | exact HF.out.2.2.2.2.1 hc6 | (have hy9 := HF.out.2.2.2.2.1 hc6; simp at hy9; simp [hy9]; done) | exact HF.out.2.2.2.2.2.1 hc7 | (have hy9 := HF.out.2.2.2.2.2.1 hc7; simp at hy9; simp [hy9]; done)
          have hc1 : b1 = true := by first | (refine hd ⟨1, .data⟩ ?_ rfl; simp; done) | (refine hd ⟨1, .chain⟩ ?_ rfl; simp; done) | (refine hd ⟨1, .phase⟩ ?_ rfl; simp; done)
          have hc0 : b0 = true := by first | (refine hd ⟨0, .data⟩ ?_ rfl; simp; done) | (refine hd ⟨0, .chain⟩ ?_ rfl; simp; done) | (refine hd ⟨0, .phase⟩ ?_ rfl; simp; done) | exact HF.out.2.2.2.2.2.1 hc7 | (have hy9 := HF.out.2.2.2.2.2.1 hc7; simp at hy9; simp [hy9]; done)
          subst hc8 hc7 hc6 hc5 hc4 hc1 hc0
          have hc9 : b9 = false := by cases hx9 : b9 with | false => rfl | true => (have hy9 := HF.out.2.2.2.2.2.2.2.1 hx9; simp at hy9)
          subst hc9
          have hc10 : b10 = false := by cases hx9 : b10 with | false => rfl | true => (have hy9 := HF.out.2.2.2.2.2.2.2.2.1 hx9; simp at hy9)
          subst hc10
          have hc11 : b11 = false := by cases hx9 : b11 with | false => rfl | true => (have hy9 := HF.out.2.2.2.2.2.2.2.2.2 hx9; simp at hy9)
          subst hc11
          clear hl hd ho hL
          simp only [sel_t, sel_f]
          refine wpOp_step rfl ?_
          intro K' hK'
          go_simp
          exact hK' _ _ ⟨true, true, b2, b3, true, true, true, true, true, false, false, false, x5, yy, rfl, rfl, Lib.hid ⟨HF.out.1, HF.out.2.1, HF.out.2.2.1, HF.out.2.2.2.1, (fun h => by have := HF.out.2.2.2.2.1 h; simpa using this), (fun h => by have := HF.out.2.2.2.2.2.1 h; simpa using this), (fun _ => rfl), (fun h => absurd h (by decide)), (fun h => absurd h (by decide)), (fun h => absurd h (by decide))⟩⟩
        · obtain rfl := Option.some.inj ho
          have hc9 : b9 = false := hl
          have hc8 : b8 = true := by first | (refine hd ⟨8, .data⟩ ?_ rfl; simp; done) | (refine hd ⟨8, .chain⟩ ?_ rfl; simp; done) | (refine hd ⟨8, .phase⟩ ?_ rfl; simp; done)
          have hc7 : b7 = true := by first | (refine hd ⟨7, .data⟩ ?_ rfl; simp; done) | (refine hd ⟨7, .chain⟩ ?_ rfl; simp; done) | (refine hd ⟨7, .phase⟩ ?_ rfl; simp; done) | exact HF.out.2.2.2.2.2.2.1 hc8 | (have hy9 := HF.out.2.2.2.2.2.2.1 hc8; simp at hy9; simp [hy9]; done)
          have hc6 : b6 = true := by first | (refine hd ⟨6, .data⟩ ?_ rfl; simp; done) | (refine hd ⟨6, .chain⟩ ?_ rfl; simp; done) | (refine hd ⟨6, .phase⟩ ?_ rfl; simp; done) | exact HF.out.2.2.2.2.2.1 hc7 | (have hy9 := HF.out.2.2.2.2.2.1 hc7; simp at hy9; simp [hy9]; done) | exact HF.out.2.2.2.2.2.2.1 hc8 | (have hy9 := HF.out.2.2.2.2.2.2.1 hc8; simp at hy9; simp [hy9]; done)
          have hc5 : b5 = true := by first | (refine hd ⟨5, .data⟩ ?_ rfl; simp; done) | (refine hd ⟨5, .chain⟩ ?_ rfl; simp; done) | (refine hd ⟨5, .phase⟩ ?_ rfl; simp; done) | exact HF.out.2.2.2.2.1 hc6 | (have hy9 := HF.out.2.2.2.2.1 hc6; simp at hy9; simp [hy9]; done) | exact HF.out.2.2.2.2.2.1 hc7 | (have hy9 := HF.out.2.2.2.2.2.1 hc7; simp at hy9; simp [hy9]; done) | exact HF.out.2.2.2.2.2.2.1 hc8 | (have hy9 := HF.out.2.2.2.2.2.2.1 hc8; simp at hy9; simp [hy9]; done)
          have hc4 : b4 = true := by first | (refine hd ⟨4, .data⟩ ?_ rfl; simp; done) | (refine hd ⟨4, .chain⟩ ?_ rfl; simp; done) | (refine hd ⟨4, .phase⟩ ?_ rfl; simp; done) | exact HF.out.2.2.2.2.1 hc6 | (have hy9 := HF.out.2.2.2.2.1 hc6; simp at hy9; simp [hy9]; done) | exact HF.out.2.2.2.2.2.1 hc7 | (have hy9 := HF.out.2.2.2.2.2.1 hc7; simp at hy9; simp [hy9]; done) | exact HF.out.2.2.2.2.2.2.1 hc8 | (have hy9 := HF.out.2.2.2.2.2.2.1 hc8; simp at hy9; simp [hy9]; done)
          have hc2 : b2 = true := by first | (refine hd ⟨2, .data⟩ ?_ rfl; simp; done) | (refine hd ⟨2, .chain⟩ ?_ rfl; simp; done) | (refine hd ⟨2, .phase⟩ ?_ rfl; simp; done)
          have hc1 : b1 = true := by first | (refine hd ⟨1, .data⟩ ?_ rfl; simp; done) | (refine hd ⟨1, .chain⟩ ?_ rfl; simp; done) | (refine hd ⟨1, .phase⟩ ?_ rfl; simp; done) | exact HF.out.2.2.2.2.2.2.1 hc8 | (have hy9 := HF.out.2.2.2.2.2.2.1 hc8; simp at hy9; simp [hy9]; done)
          have hc0 : b0 = true := by first | (refine hd ⟨0, .data⟩ ?_ rfl; simp; done) | (refine hd ⟨0, .chain⟩ ?_ rfl; simp; done) | (refine hd ⟨0, .phase⟩ ?_ rfl; simp; done) | exact HF.out.2.2.2.2.2.1 hc7 | (have hy9 := HF.out.2.2.2.2.2.1 hc7; simp at hy9; simp [hy9]; done) | exact HF.out.2.2.2.2.2.2.1 hc8 | (have hy9 := HF.out.2.2.2.2.2.2.1 hc8; simp at hy9; simp [hy9]; done)
          subst hc9 hc8 hc7 hc6 hc5 hc4 hc2 hc1 hc0
          have hc10 : b10 = false := by cases hx9 : b10 with | false => rfl | true => (have hy9 := HF.out.2.2.2.2.2.2.2.2.1 hx9; simp at hy9)
          subst hc10
          have hc11 : b11 = false := by cases hx9 : b11 with | false => rfl | true => (have hy9 := HF.out.2.2.2.2.2.2.2.2.2 hx9; simp at hy9)
          subst hc11
          clear hl hd ho hL
          simp only [sel_t, sel_f]
          refine wpOp_step rfl ?_
          intro K' hK'
          go_simp
          exact hK' _ _ ⟨true, true, true, b3, true, true, true, true, true, true, false, false, x5, yy, rfl, rfl, Lib.hid ⟨HF.out.1, HF.out.2.1, HF.out.2.2.1, HF.out.2.2.2.1, (fun h => by have := HF.out.2.2.2.2.1 h; simpa using this), (fun h => by have := HF.out.2.2.2.2.2.1 h; simpa using this), (fun h => by have := HF.out.2.2.2.2.2.2.1 h; simpa using this), (fun _ => rfl), (fun h => absurd h (by decide)), (fun h => absurd h (by decide))⟩⟩
        · obtain rfl := Option.some.inj ho
          have hc10 : b10 = false := hl
          have hc9 : b9 = true := by first | (refine hd ⟨9, .data⟩ ?_ rfl; simp; done) | (refine hd ⟨9, .chain⟩ ?_ rfl; simp; done) | (refine hd ⟨9, .phase⟩ ?_ rfl; simp; done)
          have hc8 : b8 = true := by first | (refine hd ⟨8, .data⟩ ?_ rfl; simp; done) | (refine hd ⟨8, .chain⟩ ?_ rfl; simp; done) | (refine hd ⟨8, .phase⟩ ?_ rfl; simp; done) | exact HF.out.2.2.2.2.2.2.2.1 hc9 | (have hy9 := HF.out.2.2.2.2.2.2.2.1 hc9; simp at hy9; simp [hy9]; done)
          have hc7 : b7 = true := by first | (refine hd ⟨7, .data⟩ ?_ rfl; simp; done) | (refine hd ⟨7, .chain⟩ ?_ rfl; simp; done) | (refine hd ⟨7, .phase⟩ ?_ rfl; simp; done) | exact HF.out.2.2.2.2.2.2.1 hc8 | (have hy9 := HF.out.2.2.2.2.2.2.1 hc8; simp at hy9; simp [hy9]; done) | exact HF.out.2.2.2.2.2.2.2.1 hc9 | (have hy9 := HF.out.2.2.2.2.2.2.2.1 hc9; simp at hy9; simp [hy9]; done)
          have hc6 : b6 = true := by first | (refine hd ⟨6, .data⟩ ?_ rfl; simp; done) | (refine hd ⟨6, .chain⟩ ?_ rfl; simp; done) | (refine hd ⟨6, .phase⟩ ?_ rfl; simp; done) | exact HF.out.2.2.2.2.2.1 hc7 | (have hy9 := HF.out.2.2.2.2.2.1 hc7; simp at hy9; simp [hy9]; done) | exact HF.out.2.2.2.2.2.2.1 hc8 | (have hy9 := HF.out.2.2.2.2.2.2.1 hc8; simp at hy9; simp [hy9]; done) | exact HF.out.2.2.2.2.2.2.2.1 hc9 | (have hy9 := HF.out.2.2.2.2.2.2.2.1 hc9; simp at hy9; simp [hy9]; done)
          have hc5 : b5 = true := by first | (refine hd ⟨5, .data⟩ ?_ rfl; simp; done) | (refine hd ⟨5, .chain⟩ ?_ rfl; simp; done) | (refine hd ⟨5, .phase⟩ ?_ rfl; simp; done) | exact HF.out.2.2.2.2.1 hc6 | (have hy9 := HF.out.2.2.2.2.1 hc6; simp at hy9; simp [hy9]; done) | exact HF.out.2.2.2.2.2.1 hc7 | (have hy9 := HF.out.2.2.2.2.2.1 hc7; simp at hy9; simp [hy9]; done) | exact HF.out.2.2.2.2.2.2.1 hc8 | (have hy9 := HF.out.2.2.2.2.2.2.1 hc8; simp at hy9; simp [hy9]; done) | exact HF.out.2.2.2.2.2.2.2.1 hc9 | (have hy9 := HF.out.2.2.2.2.2.2.2.1 hc9; simp at hy9; simp [hy9]; done)
          have hc4 : b4 = true := by first | (refine hd ⟨4, .data⟩ ?_ rfl; simp; done) | (refine hd ⟨4, .chain⟩ ?_ rfl; simp; done) | (refine hd ⟨4, .phase⟩ ?_ rfl; simp; done) | exact HF.out.2.2.2.2.1 hc6 | (have hy9 := HF.out.2.2.2.2.1 hc6; simp at hy9; simp [hy9]; done) | exact HF.out.2.2.2.2.2.1 hc7 | (have hy9 := HF.out.2.2.2.2.2.1 hc7; simp at hy9; simp [hy9]; done) | exact HF.out.2.2.2.2.2.2.1 hc8 | (have hy9 := HF.out.2.2.2.2.2.2.1 hc8; simp at hy9; simp [hy9]; done) | exact HF.out.2.2.2.2.2.2.2.1 hc9 | (have hy9 := HF.out.2.2.2.2.2.2.2.1 hc9; simp at hy9; simp [hy9]; done)
          have hc3 : b3 = true := by first | (refine hd ⟨3, .data⟩ ?_ rfl; simp; done) | (refine hd ⟨3, .chain⟩ ?_ rfl; simp; done) | (refine hd ⟨3, .phase⟩ ?_ rfl; simp; done)
          have hc2 : b2 = true := by first | (refine hd ⟨2, .data⟩ ?_ rfl; simp; done) | (refine hd ⟨2, .chain⟩ ?_ rfl; simp; done) | (refine hd ⟨2, .phase⟩ ?_ rfl; simp; done) | exact HF.out.2.2.2.2.2.2.2.1 hc9 | (have hy9 := HF.out.2.2.2.2.2.2.2.1 hc9; simp at hy9; simp [hy9]; done)
          have hc1 : b1 = true := by first | (refine hd ⟨1, .data⟩ ?_ rfl; simp; done) | (refine hd ⟨1, .chain⟩ ?_ rfl; simp; done) | (refine hd ⟨1, .phase⟩ ?_ rfl; simp; done) | exact HF.out.2.2.2.2.2.2.1 hc8 | (have hy9 := HF.out.2.2.2.2.2.2.1 hc8; simp at hy9; simp [hy9]; done) | exact HF.out.2.2.2.2.2.2.2.1 hc9 | (have hy9 := HF.out.2.2.2.2.2.2.2.1 hc9; simp at hy9; simp [hy9]; done)
          have hc0 : b0 = true := by first | (refine hd ⟨0, .data⟩ ?_ rfl; simp; done) | (refine hd ⟨0, .chain⟩ ?_ rfl; simp; done) | (refine hd ⟨0, .phase⟩ ?_ rfl; simp; done) | exact HF.out.2.2.2.2.2.1 hc7 | (have hy9 := HF.out.2.2.2.2.2.1 hc7; simp at hy9; simp [hy9]; done) | exact HF.out.2.2.2.2.2.2.1 hc8 | (have hy9 := HF.out.2.2.2.2.2.2.1 hc8; simp at hy9; simp [hy9]; done) | exact HF.out.2.2.2.2.2.2.2.1 hc9 | (have hy9 := HF.out.2.2.2.2.2.2.2.1 hc9; simp at hy9; simp [hy9]; done)
          subst hc10 hc9 hc8 hc7 hc6 hc5 hc4 hc3 hc2 hc1 hc0
          have hc11 : b11 = false := by cases hx9 : b11 with | false => rfl | true => (have hy9 := HF.out.2.2.2.2.2.2.2.2.2 hx9; simp at hy9)
          subst hc11
          clear hl hd ho hL
          simp only [sel_t, sel_f]
          refine wpOp_step rfl ?_
          intro K' hK'
          go_simp
          exact hK' _ _ ⟨true, true, true, true, true, true, true, true, true, true, true, false, x5, yy, rfl, rfl, Lib.hid ⟨HF.out.1, HF.out.2.1, HF.out.2.2.1, HF.out.2.2.2.1, (fun h => by have := HF.out.2.2.2.2.1 h; simpa using this), (fun h => by have := HF.out.2.2.2.2.2.1 h; simpa using this), (fun h => by have := HF.out.2.2.2.2.2.2.1 h; simpa using this), (fun h => by have := HF.out.2.2.2.2.2.2.2.1 h; simpa using this), (fun _ => rfl), (fun h => absurd h (by decide))⟩⟩
        · obtain rfl := Option.some.inj ho
          have hc11 : b11 = false := hl
          have hc10 : b10 = true := by first | (refine hd ⟨10, .data⟩ ?_ rfl; simp; done) | (refine hd ⟨10, .chain⟩ ?_ rfl; simp; done) | (refine hd ⟨10, .phase⟩ ?_ rfl; simp; done)
          have hc9 : b9 = true := by first | (refine hd ⟨9, .data⟩ ?_ rfl; simp; done) | (refine hd ⟨9, .chain⟩ ?_ rfl; simp; done) | (refine hd ⟨9, .phase⟩ ?_ rfl; simp; done) | exact HF.out.2.2.2.2.2.2.2.2.1 hc10 | (have hy9 := HF.out.2.2.2.2.2.2.2.2.1 hc10; simp at hy9; simp [hy9]; done)
          have hc8 : b8 = true := by first | (refine hd ⟨8, .data⟩ ?_ rfl; simp; done) | (refine hd ⟨8, .chain⟩ ?_ rfl; simp; done) | (refine hd ⟨8, .phase⟩ ?_ rfl; simp; done) | exact HF.out.2.2.2.2.2.2.2.1 hc9 | (have hy9 := HF.out.2.2.2.2.2.2.2.1 hc9; simp at hy9; simp [hy9]; done) | exact HF.out.2.2.2.2.2.2.2.2.1 hc10 | (have hy9 := HF.out.2.2.2.2.2.2.2.2.1 hc10; simp at hy9; simp [hy9]; done)
          have hc7 : b7 = true := by first | (refine hd ⟨7, .data⟩ ?_ rfl; simp; done) | (refine hd ⟨7, .chain⟩ ?_ rfl; simp; done) | (refine hd ⟨7, .phase⟩ ?_ rfl; simp; done) | exact HF.out.2.2.2.2.2.2.1 hc8 | (have hy9 := HF.out.2.2.2.2.2.2.1 hc8; simp at hy9; simp [hy9]; done) | exact HF.out.2.2.2.2.2.2.2.1 hc9 | (have hy9 := HF.out.2.2.2.2.2.2.2.1 hc9; simp at hy9; simp [hy9]; done) | exact HF.out.2.2.2.2.2.2.2.2.1 hc10 | (have hy9 := HF.out.2.2.2.2.2.2.2.2.1 hc10; simp at hy9; simp [hy9]; done)
          have hc6 : b6 = true := by first | (refine hd ⟨6, .data⟩ ?_ rfl; simp; done) | (refine hd ⟨6, .chain⟩ ?_ rfl; simp; done) | (refine hd ⟨6, .phase⟩ ?_ rfl; simp; done) | exact HF.out.2.2.2.2.2.1 hc7 | (have hy9 := HF.out.2.2.2.2.2.1 hc7; simp at hy9; simp [hy9]; done) | exact HF.out.2.2.2.2.2.2.1 hc8 | (have hy9 := HF.out.2.2.2.2.2.2.1 hc8; simp at hy9; simp [hy9]; done) | exact HF.out.2.2.2.2.2.2.2.1 hc9 | (have hy9 := HF.out.2.2.2.2.2.2.2.1 hc9; simp at hy9; simp [hy9]; done) | exact HF.out.2.2.2.2.2.2.2.2.1 hc10 | (have hy9 := HF.out.2.2.2.2.2.2.2.2.1 hc10; simp at hy9; simp [hy9]; done)
          have hc5 : b5 = true := by first | (refine hd ⟨5, .data⟩ ?_ rfl; simp; done) | (refine hd ⟨5, .chain⟩ ?_ rfl; simp; done) | (refine hd ⟨5, .phase⟩ ?_ rfl; simp; done) | exact HF.out.2.2.2.2.1 hc6 | (have hy9 := HF.out.2.2.2.2.1 hc6; simp at hy9; simp [hy9]; done) | exact HF.out.2.2.2.2.2.1 hc7 | (have hy9 := HF.out.2.2.2.2.2.1 hc7; simp at hy9; simp [hy9]; done) | exact HF.out.2.2.2.2.2.2.1 hc8 | (have hy9 := HF.out.2.2.2.2.2.2.1 hc8; simp at hy9; simp [hy9]; done) | exact HF.out.2.2.2.2.2.2.2.1 hc9 | (have hy9 := HF.out.2.2.2.2.2.2.2.1 hc9; simp at hy9; simp [hy9]; done) | exact HF.out.2.2.2.2.2.2.2.2.1 hc10 | (have hy9 := HF.out.2.2.2.2.2.2.2.2.1 hc10; simp at hy9; simp [hy9]; done)
          have hc4 : b4 = true := by first | (refine hd ⟨4, .data⟩ ?_ rfl; simp; done) | (refine hd ⟨4, .chain⟩ ?_ rfl; simp; done) | (refine hd ⟨4, .phase⟩ ?_ rfl; simp; done) | exact HF.out.2.2.2.2.1 hc6 | (have hy9 := HF.out.2.2.2.2.1 hc6; simp at hy9; simp [hy9]; done) | exact HF.out.2.2.2.2.2.1 hc7 | (have hy9 := HF.out.2.2.2.2.2.1 hc7; simp at hy9; simp [hy9]; done) | exact HF.out.2.2.2.2.2.2.1 hc8 | (have hy9 := HF.out.2.2.2.2.2.2.1 hc8; simp at hy9; simp [hy9]; done) | exact HF.out.2.2.2.2.2.2.2.1 hc9 | (have hy9 := HF.out.2.2.2.2.2.2.2.1 hc9; simp at hy9; simp [hy9]; done) | exact HF.out.2.2.2.2.2.2.2.2.1 hc10 | (have hy9 := HF.out.2.2.2.2.2.2.2.2.1 hc10; simp at hy9; simp [hy9]; done)
          have hc3 : b3 = true := by first | (refine hd ⟨3, .data⟩ ?_ rfl; simp; done) | (refine hd ⟨3, .chain⟩ ?_ rfl; simp; done) | (refine hd ⟨3, .phase⟩ ?_ rfl; simp; done) | exact HF.out.2.2.2.2.2.2.2.2.1 hc10 | (have hy9 := HF.out.2.2.2.2.2.2.2.2.1 hc10; simp at hy9; simp [hy9]; done)
          have hc2 : b2 = true := by first | (refine hd ⟨2, .data⟩ ?_ rfl; simp; done) | (refine hd ⟨2, .chain⟩ ?_ rfl; simp; done) | (refine hd ⟨2, .phase⟩ ?_ rfl; simp; done) | exact HF.out.2.2.2.2.2.2.2.1 hc9 | (have hy9 := HF.out.2.2.2.2.2.2.2.1 hc9; simp at hy9; simp [hy9]; done) | exact HF.out.2.2.2.2.2.2.2.2.1 hc10 | (have hy9 := HF.out.2.2.2.2.2.2.2.2.1 hc10; simp at hy9; simp [hy9]; done)
          have hc1 : b1 = true := by first | (refine hd ⟨1, .data⟩ ?_ rfl; simp; done) | (refine hd ⟨1, .chain⟩ ?_ rfl; simp; done) | (refine hd ⟨1, .phase⟩ ?_ rfl; simp; done) | exact HF.out.2.2.2.2.2.2.1 hc8 | (have hy9 := HF.out.2.2.2.2.2.2.1 hc8; simp at hy9; simp [hy9]; done) | exact HF.out.2.2.2.2.2.2.2.1 hc9 | (have hy9 := HF.out.2.2.2.2.2.2.2.1 hc9; simp at hy9; simp [hy9]; done) | exact HF.out.2.2.2.2.2.2.2.2.1 hc10 | (have hy9 := HF.out.2.2.2.2.2.2.2.2.1 hc10; simp at hy9; simp [hy9]; done)
          have hc0 : b0 = true := by first | (refine hd ⟨0, .data⟩ ?_ rfl; simp; done) | (refine hd ⟨0, .chain⟩ ?_ rfl; simp; done) | (refine hd ⟨0, .phase⟩ ?_ rfl; simp; done) | exact HF.out.2.2.2.2.2.1 hc7 | (have hy9 := HF.out.2.2.2.2.2.1 hc7; simp at hy9; simp [hy9]; done) | exact HF.out.2.2.2.2.2.2.1 hc8 | (have hy9 := HF.out.2.2.2.2.2.2.1 hc8; simp at hy9; simp [hy9]; done) | exact HF.out.2.2.2.2.2.2.2.1 hc9 | (have hy9 := HF.out.2.2.2.2.2.2.2.1 hc9; simp at hy9; simp [hy9]; done) | exact HF.out.2.2.2.2.2.2.2.2.1 hc10 | (have hy9 := HF.out.2.2.2.2.2.2.2.2.1 hc10; simp at hy9; simp [hy9]; done)
          subst hc11 hc10 hc9 hc8 hc7 hc6 hc5 hc4 hc3 hc2 hc1 hc0
          clear hl hd ho hL
          simp only [sel_t, sel_f]
          refine wpOp_step rfl ?_
          intro K' hK'
          go_simp
          exact hK' _ _ ⟨true, true, true, true, true, true, true, true, true, true, true, true, x5, yy, rfl, rfl, Lib.hid ⟨HF.out.1, HF.out.2.1, HF.out.2.2.1, HF.out.2.2.2.1, (fun h => by have := HF.out.2.2.2.2.1 h; simpa using this), (fun h => by have := HF.out.2.2.2.2.2.1 h; simpa using this), (fun h => by have := HF.out.2.2.2.2.2.2.1 h; simpa using this), (fun h => by have := HF.out.2.2.2.2.2.2.2.1 h; simpa using this), (fun h => by have := HF.out.2.2.2.2.2.2.2.2.1 h; simpa using this), (fun _ => rfl)⟩⟩
      · rintro L A9 w' hL ⟨b0, b1, b2, b3, b4, b5, b6, b7, b8, b9, b10, b11, x5, yy, rfl, rfl, HF⟩ hall
        have hc0 : b0 = true := hall 0 (by decide)
        have hc1 : b1 = true := hall 1 (by decide)
        have hc2 : b2 = true := hall 2 (by decide)
        have hc3 : b3 = true := hall 3 (by decide)
        have hc4 : b4 = true := hall 4 (by decide)
        have hc5 : b5 = true := hall 5 (by decide)
        have hc6 : b6 = true := hall 6 (by decide)
        have hc7 : b7 = true := hall 7 (by decide)
        have hc8 : b8 = true := hall 8 (by decide)
        have hc9 : b9 = true := hall 9 (by decide)
        have hc10 : b10 = true := hall 10 (by decide)
        have hc11 : b11 = true := hall 11 (by decide)
        subst hc0 hc1 hc2 hc3 hc4 hc5 hc6 hc7 hc8 hc9 hc10 hc11
        simp only [sel_t]
        have HD := Lib.hid ((HF.out.2.2.2.1 rfl).1 x5)
        have c0 := (HF.out.2.2.2.1 rfl).2.1
        have c1 := (HF.out.2.2.2.1 rfl).2.2
        clear HF
        try simp only [Exit.inBlock, Exit.then]
        go_wp2
        try simp only [Exit.inBlock, Exit.then]
        refine bodyPost_ret (v := .tuple #[.agg #[.int .i64 n1, .slice va es.length vc], .int .i64 m, .int .i64 s, .int .i64 t, .int .i64 x5]) ?_ rfl HD.out
        rw [results_ctttt rfl]
        go_simp
  · skip
    go_upto_region 6 with fail
    refine wp_region_inv (fun L A9 w' => ∃ (b0 b1 b2 b3 b4 b5 b6 b7 b8 b9 b10 b11 : Bool) (x5 : Int) (yy : Nat), L = #[b0, b1, b2, b3, b4, b5, b6, b7, b8, b9, b10, b11] ∧ A9 = { tmps := #[Value.slice a n cap, undef, Value.pointer (some { block := w.heap.size, off := 0 }), sel b8 (Value.int .i64 m) (Value.int IntKind.i64 0), sel b9 (Value.int .i64 s) (Value.int IntKind.i64 0), sel b10 (Value.int .i64 t) (Value.int IntKind.i64 0), sel b11 (Value.int .i64 x5) (Value.int IntKind.i64 0), Value.pointer (some { block := w1.heap.size, off := 0 }), Value.int IntKind.i64 m, Value.int IntKind.i64 s, Value.pointer (some { block := g, off := 0 }), Value.int IntKind.i64 t, Value.tuple #[Value.agg #[Value.int IntKind.i64 n1, Value.slice va es.length vc], Value.int IntKind.i64 m, Value.int IntKind.i64 s], Value.slice a n cap, Value.tuple #[Value.agg #[Value.int IntKind.i64 n1, Value.slice va es.length vc], Value.int IntKind.i64 m, Value.int IntKind.i64 s], Value.agg #[Value.int IntKind.i64 n1, Value.slice va es.length vc], Value.int IntKind.i64 m, Value.int IntKind.i64 s, Value.slice a n cap, Value.pointer (some { block := g, off := 0 }), Value.pointer (some { block := g, off := 0 }), Value.slice (some { block := w3.heap.size, off := 0 }) 6 6, Value.int IntKind.i64 t, Value.pointer (some { block := w1.heap.size, off := 0 }), Value.int IntKind.i64 n1, Value.bool false, Value.bool false, undef, undef, undef, Value.bool false, undef, undef, undef, undef, sel b0 (Value.agg #[.int .i64 n1, .slice va es.length vc]) undef, sel b1 (Value.int .i64 m) undef, sel b2 (Value.int .i64 s) undef, sel b3 (Value.int .i64 t) undef, sel b4 (Value.pointer (some ⟨g, 0, none⟩)) undef, sel b5 (Value.slice (some ⟨yy, 0, none⟩) 8 8) undef, sel b6 (Value.int .i64 x5) undef], defers := [] } ∧ Hid ((b7 = false → Rd w2 w' g (0 + 1 + b6.toNat)) ∧ (b7 = false → w4.grownBy w' (some g)) ∧ (b5 = true → b6 = false → RowN w' g (.slice (some ⟨yy, 0, none⟩) 8 8) [2, 1, 3, 0, 5, 12, 50, 51]) ∧ (b7 = true → (∀ t9 : Int, DrawnC5 w (.returned (.tuple #[.agg #[.int .i64 n1, .slice va es.length vc], .int .i64 m, .int .i64 s, .int .i64 t, .int .i64 t9])) w') ∧ w'.cell? ⟨w.heap.size, 0, none⟩ = some (.int .i64 n1) ∧ w'.cell? ⟨w.heap.size, 1, none⟩ = some (.slice va es.length vc)) ∧ (b6 = true → (b4 && b5) = true) ∧ (b7 = true → (b0 && b4 && b5 && b6) = true) ∧ (b8 = true → (b0 && b1 && b4 && b5 && b6 && b7) = true) ∧ (b9 = true → (b0 && b1 && b2 && b4 && b5 && b6 && b7 && b8) = true) ∧ (b10 = true → (b0 && b1 && b2 && b3 && b4 && b5 && b6 && b7 && b8 && b9) = true) ∧ (b11 = true → (b0 && b1 && b2 && b3 && b4 && b5 && b6 && b7 && b8 && b9 && b10) = true))) (by kernel_rfl) (by kernel_rfl) ?_ ?_ ?_
    · exact ⟨false, false, false, false, false, false, false, false, false, false, false, false, 0, 0, rfl, rfl, Lib.hid ⟨(fun _ => Rd.drew' K4.out.1), (fun _ => g_drew (grown_refl _ _)), (fun h => absurd h (by decide)), (fun h => absurd h (by decide)), (fun h => absurd h (by decide)), (fun h => absurd h (by decide)), (fun h => absurd h (by decide)), (fun h => absurd h (by decide)), (fun h => absurd h (by decide)), (fun h => absurd h (by decide))⟩⟩
    · rintro L A9 w' hL ⟨b0, b1, b2, b3, b4, b5, b6, b7, b8, b9, b10, b11, x5, yy, rfl, rfl, HF⟩ k9 o9 ho hl hd
      have hk9 : k9 = 0 ∨ k9 = 1 ∨ k9 = 2 ∨ k9 = 3 ∨ k9 = 4 ∨ k9 = 5 ∨ k9 = 6 ∨ k9 = 7 ∨ k9 = 8 ∨ k9 = 9 ∨ k9 = 10 ∨ k9 = 11 := by have := (Array.getElem?_eq_some_iff.1 ho).1; simp at this; omega
      rcases hk9 with rfl | rfl | rfl | rfl | rfl | rfl | rfl | rfl | rfl | rfl | rfl | rfl
      · obtain rfl := Option.some.inj ho
        have hc0 : b0 = false := hl
        subst hc0
        have hc7 : b7 = false := by cases hx9 : b7 with | false => rfl | true => (have hy9 := HF.out.2.2.2.2.2.1 hx9; simp at hy9)
        subst hc7
        have hc8 : b8 = false := by cases hx9 : b8 with | false => rfl | true => (have hy9 := HF.out.2.2.2.2.2.2.1 hx9; simp at hy9)
        subst hc8
        have hc9 : b9 = false := by cases hx9 : b9 with | false => rfl | true => (have hy9 := HF.out.2.2.2.2.2.2.2.1 hx9; simp at hy9)
        subst hc9
        have hc10 : b10 = false := by cases hx9 : b10 with | false => rfl | true => (have hy9 := HF.out.2.2.2.2.2.2.2.2.1 hx9; simp at hy9)
        subst hc10
        have hc11 : b11 = false := by cases hx9 : b11 with | false => rfl | true => (have hy9 := HF.out.2.2.2.2.2.2.2.2.2 hx9; simp at hy9)
        subst hc11
        clear hl hd ho hL
        simp only [sel_t, sel_f]
        have hB9 := K4.out.2.2.2.grownG (HF.out.2.1 rfl) (by omega)
        have y0 : w'.cell? ⟨w1.heap.size, 0, none⟩ = some (.int .i64 n1) := by simpa using hB9.cell 0
        have y1 : w'.cell? ⟨w1.heap.size, 1, none⟩ = some (.slice va es.length vc) := by simpa using hB9.cell 1
        refine wpOp_step rfl ?_
        intro K' hK'
        go_simp
        exact hK' _ _ ⟨true, b1, b2, b3, b4, b5, b6, false, false, false, false, false, x5, yy, rfl, rfl, Lib.hid ⟨HF.out.1, HF.out.2.1, HF.out.2.2.1, HF.out.2.2.2.1, HF.out.2.2.2.2.1, (fun h => absurd h (by decide)), (fun h => absurd h (by decide)), (fun h => absurd h (by decide)), (fun h => absurd h (by decide)), (fun h => absurd h (by decide))⟩⟩
      · obtain rfl := Option.some.inj ho
        have hc1 : b1 = false := hl
        subst hc1
        have hc8 : b8 = false := by cases hx9 : b8 with | false => rfl | true => (have hy9 := HF.out.2.2.2.2.2.2.1 hx9; simp at hy9)
        subst hc8
        have hc9 : b9 = false := by cases hx9 : b9 with | false => rfl | true => (have hy9 := HF.out.2.2.2.2.2.2.2.1 hx9; simp at hy9)
        subst hc9
        have hc10 : b10 = false := by cases hx9 : b10 with | false => rfl | true => (have hy9 := HF.out.2.2.2.2.2.2.2.2.1 hx9; simp at hy9)
        subst hc10
        have hc11 : b11 = false := by cases hx9 : b11 with | false => rfl | true => (have hy9 := HF.out.2.2.2.2.2.2.2.2.2 hx9; simp at hy9)
        subst hc11
        clear hl hd ho hL
        simp only [sel_t, sel_f]
        refine wpOp_step rfl ?_
        intro K' hK'
        go_simp
        exact hK' _ _ ⟨b0, true, b2, b3, b4, b5, b6, b7, false, false, false, false, x5, yy, rfl, rfl, Lib.hid ⟨HF.out.1, HF.out.2.1, HF.out.2.2.1, HF.out.2.2.2.1, HF.out.2.2.2.2.1, HF.out.2.2.2.2.2.1, (fun h => absurd h (by decide)), (fun h => absurd h (by decide)), (fun h => absurd h (by decide)), (fun h => absurd h (by decide))⟩⟩
      · obtain rfl := Option.some.inj ho
        have hc2 : b2 = false := hl
        subst hc2
        have hc9 : b9 = false := by cases hx9 : b9 with | false => rfl | true => (have hy9 := HF.out.2.2.2.2.2.2.2.1 hx9; simp at hy9)
        subst hc9
        have hc10 : b10 = false := by cases hx9 : b10 with | false => rfl | true => (have hy9 := HF.out.2.2.2.2.2.2.2.2.1 hx9; simp at hy9)
        subst hc10
        have hc11 : b11 = false := by cases hx9 : b11 with | false => rfl | true => (have hy9 := HF.out.2.2.2.2.2.2.2.2.2 hx9; simp at hy9)
        subst hc11
        clear hl hd ho hL
        simp only [sel_t, sel_f]
        refine wpOp_step rfl ?_
        intro K' hK'
        go_simp
        exact hK' _ _ ⟨b0, b1, true, b3, b4, b5, b6, b7, b8, false, false, false, x5, yy, rfl, rfl, Lib.hid ⟨HF.out.1, HF.out.2.1, HF.out.2.2.1, HF.out.2.2.2.1, HF.out.2.2.2.2.1, HF.out.2.2.2.2.2.1, HF.out.2.2.2.2.2.2.1, (fun h => absurd h (by decide)), (fun h => absurd h (by decide)), (fun h => absurd h (by decide))⟩⟩
      · obtain rfl := Option.some.inj ho
        have hc3 : b3 = false := hl
        subst hc3
        have hc10 : b10 = false := by cases hx9 : b10 with | false => rfl | true => (have hy9 := HF.out.2.2.2.2.2.2.2.2.1 hx9; simp at hy9)
        subst hc10
        have hc11 : b11 = false := by cases hx9 : b11 with | false => rfl | true => (have hy9 := HF.out.2.2.2.2.2.2.2.2.2 hx9; simp at hy9)
        subst hc11
        clear hl hd ho hL
        simp only [sel_t, sel_f]
        refine wpOp_step rfl ?_
        intro K' hK'
        go_simp
        exact hK' _ _ ⟨b0, b1, b2, true, b4, b5, b6, b7, b8, b9, false, false, x5, yy, rfl, rfl, Lib.hid ⟨HF.out.1, HF.out.2.1, HF.out.2.2.1, HF.out.2.2.2.1, HF.out.2.2.2.2.1, HF.out.2.2.2.2.2.1, HF.out.2.2.2.2.2.2.1, HF.out.2.2.2.2.2.2.2.1, (fun h => absurd h (by decide)), (fun h => absurd h (by decide))⟩⟩
      · obtain rfl := Option.some.inj ho
        have hc4 : b4 = false := hl
        subst hc4
        have hc6 : b6 = false := by cases hx9 : b6 with | false => rfl | true => (have hy9 := HF.out.2.2.2.2.1 hx9; simp at hy9)
        subst hc6
        have hc7 : b7 = false := by cases hx9 : b7 with | false => rfl | true => (have hy9 := HF.out.2.2.2.2.2.1 hx9; simp at hy9)
        subst hc7
        have hc8 : b8 = false := by cases hx9 : b8 with | false => rfl | true => (have hy9 := HF.out.2.2.2.2.2.2.1 hx9; simp at hy9)
        subst hc8
        have hc9 : b9 = false := by cases hx9 : b9 with | false => rfl | true => (have hy9 := HF.out.2.2.2.2.2.2.2.1 hx9; simp at hy9)
        subst hc9
        have hc10 : b10 = false := by cases hx9 : b10 with | false => rfl | true => (have hy9 := HF.out.2.2.2.2.2.2.2.2.1 hx9; simp at hy9)
        subst hc10
        have hc11 : b11 = false := by cases hx9 : b11 with | false => rfl | true => (have hy9 := HF.out.2.2.2.2.2.2.2.2.2 hx9; simp at hy9)
        subst hc11
        clear hl hd ho hL
        simp only [sel_t, sel_f]
        refine wpOp_step rfl ?_
        intro K' hK'
        go_simp
        exact hK' _ _ ⟨b0, b1, b2, b3, true, b5, false, false, false, false, false, false, x5, yy, rfl, rfl, Lib.hid ⟨HF.out.1, HF.out.2.1, HF.out.2.2.1, HF.out.2.2.2.1, (fun h => absurd h (by decide)), (fun h => absurd h (by decide)), (fun h => absurd h (by decide)), (fun h => absurd h (by decide)), (fun h => absurd h (by decide)), (fun h => absurd h (by decide))⟩⟩
      · obtain rfl := Option.some.inj ho
        have hc5 : b5 = false := hl
        subst hc5
        have hc6 : b6 = false := by cases hx9 : b6 with | false => rfl | true => (have hy9 := HF.out.2.2.2.2.1 hx9; simp at hy9)
        subst hc6
        have hc7 : b7 = false := by cases hx9 : b7 with | false => rfl | true => (have hy9 := HF.out.2.2.2.2.2.1 hx9; simp at hy9)
        subst hc7
        have hc8 : b8 = false := by cases hx9 : b8 with | false => rfl | true => (have hy9 := HF.out.2.2.2.2.2.2.1 hx9; simp at hy9)
        subst hc8
        have hc9 : b9 = false := by cases hx9 : b9 with | false => rfl | true => (have hy9 := HF.out.2.2.2.2.2.2.2.1 hx9; simp at hy9)
        subst hc9
        have hc10 : b10 = false := by cases hx9 : b10 with | false => rfl | true => (have hy9 := HF.out.2.2.2.2.2.2.2.2.1 hx9; simp at hy9)
        subst hc10
        have hc11 : b11 = false := by cases hx9 : b11 with | false => rfl | true => (have hy9 := HF.out.2.2.2.2.2.2.2.2.2 hx9; simp at hy9)
        subst hc11
        clear hl hd ho hL
        simp only [sel_t, sel_f]
        refine wpOp_step rfl ?_
        intro K' hK'
        go_simp
        exact hK' _ _ ⟨b0, b1, b2, b3, b4, true, false, false, false, false, false, false, x5, w'.heap.size, rfl, rfl, Lib.hid ⟨(fun _ => (HF.out.1 rfl).alloc' _), (fun _ => g_alloc (HF.out.2.1 rfl) _), (fun _ _ => rowN_at [2, 1, 3, 0, 5, 12, 50, 51] w' g _ _ rfl (HF.out.1 rfl).lt), (fun h => absurd h (by decide)), (fun h => absurd h (by decide)), (fun h => absurd h (by decide)), (fun h => absurd h (by decide)), (fun h => absurd h (by decide)), (fun h => absurd h (by decide)), (fun h => absurd h (by decide))⟩⟩
      · obtain rfl := Option.some.inj ho
        have hc6 : b6 = false := hl
        have hc5 : b5 = true := by first | (refine hd ⟨5, .data⟩ ?_ rfl; simp; done) | (refine hd ⟨5, .chain⟩ ?_ rfl; simp; done) | (refine hd ⟨5, .phase⟩ ?_ rfl; simp; done)
        have hc4 : b4 = true := by first | (refine hd ⟨4, .data⟩ ?_ rfl; simp; done) | (refine hd ⟨4, .chain⟩ ?_ rfl; simp; done) | (refine hd ⟨4, .phase⟩ ?_ rfl; simp; done)
        subst hc6 hc5 hc4
        have hc7 : b7 = false := by cases hx9 : b7 with | false => rfl | true => (have hy9 := HF.out.2.2.2.2.2.1 hx9; simp at hy9)
        subst hc7
        have hc8 : b8 = false := by cases hx9 : b8 with | false => rfl | true => (have hy9 := HF.out.2.2.2.2.2.2.1 hx9; simp at hy9)
        subst hc8
        have hc9 : b9 = false := by cases hx9 : b9 with | false => rfl | true => (have hy9 := HF.out.2.2.2.2.2.2.2.1 hx9; simp at hy9)
        subst hc9
        have hc10 : b10 = false := by cases hx9 : b10 with | false => rfl | true => (have hy9 := HF.out.2.2.2.2.2.2.2.2.1 hx9; simp at hy9)
        subst hc10
        have hc11 : b11 = false := by cases hx9 : b11 with | false => rfl | true => (have hy9 := HF.out.2.2.2.2.2.2.2.2.2 hx9; simp at hy9)
        subst hc11
        clear hl hd ho hL
        simp only [sel_t, sel_f]
        have hcall := num [2, 1, 3, 0, 5, 12, 50, 51] (.slice (some ⟨yy, 0, none⟩) 8 8) w2 w' g _ (HF.out.1 rfl) (by simp only [Bool.toNat_false, Bool.toNat_true]; omega) (HF.out.2.2.1 rfl rfl) (by decide) (by decide)
        have HC9 := Lib.hid hcall
        clear hcall
        refine wpOp_step rfl ?_
        intro K' hK'
        go_simp
        refine HC9.out.mono ?_
        rintro e9 w9 ⟨x9, hx9, rfl, hR9, hG9⟩
        exact hK' _ _ ⟨b0, b1, b2, b3, true, true, true, false, false, false, false, false, x9, yy, rfl, rfl, Lib.hid ⟨(fun _ => hR9.more (by simp only [Bool.toNat_false, Bool.toNat_true]; omega)), (fun _ => grown_trans' (HF.out.2.1 rfl) hG9), (fun _ h => absurd h (by decide)), (fun h => absurd h (by decide)), (fun _ => rfl), (fun h => absurd h (by decide)), (fun h => absurd h (by decide)), (fun h => absurd h (by decide)), (fun h => absurd h (by decide)), (fun h => absurd h (by decide))⟩⟩
      · obtain rfl := Option.some.inj ho
        have hc7 : b7 = false := hl
        have hc6 : b6 = true := by first | (refine hd ⟨6, .data⟩ ?_ rfl; simp; done) | (refine hd ⟨6, .chain⟩ ?_ rfl; simp; done) | (refine hd ⟨6, .phase⟩ ?_ rfl; simp; done)
        have hc5 : b5 = true := by first | (refine hd ⟨5, .data⟩ ?_ rfl; simp; done) | (refine hd ⟨5, .chain⟩ ?_ rfl; simp; done) | (refine hd ⟨5, .phase⟩ ?_ rfl; simp; done) | exact HF.out.2.2.2.2.1 hc6 | (have hy9 := HF.out.2.2.2.2.1 hc6; simp at hy9; simp [hy9]; done)
        have hc4 : b4 = true := by first | (refine hd ⟨4, .data⟩ ?_ rfl; simp; done) | (refine hd ⟨4, .chain⟩ ?_ rfl; simp; done) | (refine hd ⟨4, .phase⟩ ?_ rfl; simp; done) | exact HF.out.2.2.2.2.1 hc6 | (have hy9 := HF.out.2.2.2.2.1 hc6; simp at hy9; simp [hy9]; done)
        have hc0 : b0 = true := by first | (refine hd ⟨0, .data⟩ ?_ rfl; simp; done) | (refine hd ⟨0, .chain⟩ ?_ rfl; simp; done) | (refine hd ⟨0, .phase⟩ ?_ rfl; simp; done)
        subst hc7 hc6 hc5 hc4 hc0
        have hc8 : b8 = false := by cases hx9 : b8 with | false => rfl | true => (have hy9 := HF.out.2.2.2.2.2.2.1 hx9; simp at hy9)
        subst hc8
        have hc9 : b9 = false := by cases hx9 : b9 with | false => rfl | true => (have hy9 := HF.out.2.2.2.2.2.2.2.1 hx9; simp at hy9)
        subst hc9
        have hc10 : b10 = false := by cases hx9 : b10 with | false => rfl | true => (have hy9 := HF.out.2.2.2.2.2.2.2.2.1 hx9; simp at hy9)
        subst hc10
        have hc11 : b11 = false := by cases hx9 : b11 with | false => rfl | true => (have hy9 := HF.out.2.2.2.2.2.2.2.2.2 hx9; simp at hy9)
        subst hc11
        clear hl hd ho hL
        simp only [sel_t, sel_f]
        have hB9 := K4.out.2.1.grownG (HF.out.2.1 rfl) (by omega)
        have r0 : w'.cell? ⟨w.heap.size, 0, none⟩ = some (.int .i64 0) := by simpa using hB9.cell 0
        have r1 : w'.cell? ⟨w.heap.size, 1, none⟩ = some (.slice none 0 0) := by simpa using hB9.cell 1
        have r2 := hB9.frozen 0
        have r3 := hB9.frozen 1
        refine wpOp_step rfl ?_
        intro K' hK'
        go_simp
        exact hK' _ _ ⟨true, b1, b2, b3, true, true, true, true, false, false, false, false, x5, yy, rfl, rfl, Lib.hid ⟨(fun h => absurd h (by decide)), (fun h => absurd h (by decide)), (fun _ h => absurd h (by decide)), (fun _ => ⟨fun t9 => drawnC5_of K2.out.1 (HF.out.1 rfl) (InR.grownH K4.out.2.2.1 (HF.out.2.1 rfl) (by omega)) K2.out.2.2.2.1 hl hs0 (by have := ((HF.out.2.1 rfl)).size; omega), by go_simp, by go_simp⟩), (fun h => by have := HF.out.2.2.2.2.1 h; simpa using this), (fun _ => rfl), (fun h => absurd h (by decide)), (fun h => absurd h (by decide)), (fun h => absurd h (by decide)), (fun h => absurd h (by decide))⟩⟩
      · obtain rfl := Option.some.inj ho
        have hc8 : b8 = false := hl
        have hc7 : b7 = true := by first | (refine hd ⟨7, .data⟩ ?_ rfl; simp; done) | (refine hd ⟨7, .chain⟩ ?_ rfl; simp; done) | (refine hd ⟨7, .phase⟩ ?_ rfl; simp; done)
        have hc6 : b6 = true := by first | (refine hd ⟨6, .data⟩ ?_ rfl; simp; done) | (refine hd ⟨6, .chain⟩ ?_ rfl; simp; done) | (refine hd ⟨6, .phase⟩ ?_ rfl; simp; done) | exact HF.out.2.2.2.2.2.1 hc7 | (have hy9 := HF.out.2.2.2.2.2.1 hc7; simp at hy9; simp [hy9]; done)
        have hc5 : b5 = true := by first | (refine hd ⟨5, .data⟩ ?_ rfl; simp; done) | (refine hd ⟨5, .chain⟩ ?_ rfl; simp; done) | (refine hd ⟨5, .phase⟩ ?_ rfl; simp; done) | exact HF.out.2.2.2.2.1 hc6 | (have hy9 := HF.out.2.2.2.2.1 hc6; simp at hy9; simp [hy9]; done) | exact HF.out.2.2.2.2.2.1 hc7 | (have hy9 := HF.out.2.2.2.2.2.1 hc7; simp at hy9; simp [hy9]; done)
        have hc4 : b4 = true := by first | (refine hd ⟨4, .data⟩ ?_ rfl; simp; done) | (refine hd ⟨4, .chain⟩ ?_ rfl; simp; done) | (refine hd ⟨4, .phase⟩ ?_ rfl; simp; done) | exact HF.out.2.2.2.2.1 hc6 | (have hy9 := HF.out.2.2.2.2.1 hc6; simp at hy9; simp [hy9]; done) | exact HF.out.2.2.2.2.2.1 hc7 | (have hy9 := HF.out.2.2.2.2.2.1 hc7; simp at hy9; simp [hy9]; done)
        have hc1 : b1 = true := by first | (refine hd ⟨1, .data⟩ ?_ rfl; simp; done) | (refine hd ⟨1, .chain⟩ ?_ rfl; simp; done) | (refine hd ⟨1, .phase⟩ ?_ rfl; simp; done)
        have hc0 : b0 = true := by first | (refine hd ⟨0, .data⟩ ?_ rfl; simp; done) | (refine hd ⟨0, .chain⟩ ?_ rfl; simp; done) | (refine hd ⟨0, .phase⟩ ?_ rfl; simp; done) | exact HF.out.2.2.2.2.2.1 hc7 | (have hy9 := HF.out.2.2.2.2.2.1 hc7; simp at hy9; simp [hy9]; done)
        subst hc8 hc7 hc6 hc5 hc4 hc1 hc0
        have hc9 : b9 = false := by cases hx9 : b9 with | false => rfl | true => (have hy9 := HF.out.2.2.2.2.2.2.2.1 hx9; simp at hy9)
        subst hc9
        have hc10 : b10 = false := by cases hx9 : b10 with | false => rfl | true => (have hy9 := HF.out.2.2.2.2.2.2.2.2.1 hx9; simp at hy9)
        subst hc10
        have hc11 : b11 = false := by cases hx9 : b11 with | false => rfl | true => (have hy9 := HF.out.2.2.2.2.2.2.2.2.2 hx9; simp at hy9)
        subst hc11
        clear hl hd ho hL
        simp only [sel_t, sel_f]
        refine wpOp_step rfl ?_
        intro K' hK'
        go_simp
        exact hK' _ _ ⟨true, true, b2, b3, true, true, true, true, true, false, false, false, x5, yy, rfl, rfl, Lib.hid ⟨HF.out.1, HF.out.2.1, HF.out.2.2.1, HF.out.2.2.2.1, (fun h => by have := HF.out.2.2.2.2.1 h; simpa using this), (fun h => by have := HF.out.2.2.2.2.2.1 h; simpa using this), (fun _ => rfl), (fun h => absurd h (by decide)), (fun h => absurd h (by decide)), (fun h => absurd h (by decide))⟩⟩
      · obtain rfl := Option.some.inj ho
        have hc9 : b9 = false := hl
        have hc8 : b8 = true := by first | (refine hd ⟨8, .data⟩ ?_ rfl; simp; done) | (refine hd ⟨8, .chain⟩ ?_ rfl; simp; done) | (refine hd ⟨8, .phase⟩ ?_ rfl; simp; done)
        have hc7 : b7 = true := by first | (refine hd ⟨7, .data⟩ ?_ rfl; simp; done) | (refine hd ⟨7, .chain⟩ ?_ rfl; simp; done) | (refine hd ⟨7, .phase⟩ ?_ rfl; simp; done) | exact HF.out.2.2.2.2.2.2.1 hc8 | (have hy9 := HF.out.2.2.2.2.2.2.1 hc8; simp at hy9; simp [hy9]; done)
        have hc6 : b6 = true := by first | (refine hd ⟨6, .data⟩ ?_ rfl; simp; done) | (refine hd ⟨6, .chain⟩ ?_ rfl; simp; done) | (refine hd ⟨6, .phase⟩ ?_ rfl; simp; done) | exact HF.out.2.2.2.2.2.1 hc7 | (have hy9 := HF.out.2.2.2.2.2.1 hc7; simp at hy9; simp [hy9]; done) | exact HF.out.2.2.2.2.2.2.1 hc8 | (have hy9 := HF.out.2.2.2.2.2.2.1 hc8; simp at hy9; simp [hy9]; done)
        have hc5 : b5 = true := by first | (refine hd ⟨5, .data⟩ ?_ rfl; simp; done) | (refine hd ⟨5, .chain⟩ ?_ rfl; simp; done) | (refine hd ⟨5, .phase⟩ ?_ rfl; simp; done) | exact HF.out.2.2.2.2.1 hc6 | (have hy9 := HF.out.2.2.2.2.1 hc6; simp at hy9; simp [hy9]; done) | exact HF.out.2.2.2.2.2.1 hc7 | (have hy9 := HF.out.2.2.2.2.2.1 hc7; simp at hy9; simp [hy9]; done) | exact HF.out.2.2.2.2.2.2.1 hc8 | (have hy9 := HF.out.2.2.2.2.2.2.1 hc8; simp at hy9; simp [hy9]; done)
        have hc4 : b4 = true := by first | (refine hd ⟨4, .data⟩ ?_ rfl; simp; done) | (refine hd ⟨4, .chain⟩ ?_ rfl; simp; done) | (refine hd ⟨4, .phase⟩ ?_ rfl; simp; done) | exact HF.out.2.2.2.2.1 hc6 | (have hy9 := HF.out.2.2.2.2.1 hc6; simp at hy9; simp [hy9]; done) | exact HF.out.2.2.2.2.2.1 hc7 | (have hy9 := HF.out.2.2.2.2.2.1 hc7; simp at hy9; simp [hy9]; done) | exact HF.out.2.2.2.2.2.2.1 hc8 | (have hy9 := HF.out.2.2.2.2.2.2.1 hc8; simp at hy9; simp [hy9]; done)
        have hc2 : b2 = true := by first | (refine hd ⟨2, .data⟩ ?_ rfl; simp; done) | (refine hd ⟨2, .chain⟩ ?_ rfl; simp; done) | (refine hd ⟨2, .phase⟩ ?_ rfl; simp; done)
        have hc1 : b1 = true := by first | (refine hd ⟨1, .data⟩ ?_ rfl; simp; done) | (refine hd ⟨1, .chain⟩ ?_ rfl; simp; done) | (refine hd ⟨1, .phase⟩ ?_ rfl; simp; done) | exact HF.out.2.2.2.2.2.2.1 hc8 | (have hy9 := HF.out.2.2.2.2.2.2.1 hc8; simp at hy9; simp [hy9]; done)
        have hc0 : b0 = true := by first | (refine hd ⟨0, .data⟩ ?_ rfl; simp; done) | (refine hd ⟨0, .chain⟩ ?_ rfl; simp; done) | (refine hd ⟨0, .phase⟩ ?_ rfl; simp; done) | exact HF.out.2.2.2.2.2.1 hc7 | (have hy9 := HF.out.2.2.2.2.2.1 hc7; simp at hy9; simp [hy9]; done) | exact HF.out.2.2.2.2.2.2.1 hc8 | (have hy9 := HF.out.2.2.2.2.2.2.1 hc8; simp at hy9; simp [hy9]; done)
        subst hc9 hc8 hc7 hc6 hc5 hc4 hc2 hc1 hc0
        have hc10 : b10 = false := by cases hx9 : b10 with | false => rfl | true => (have hy9 := HF.out.2.2.2.2.2.2.2.2.1 hx9; simp at hy9)
        subst hc10
        have hc11 : b11 = false := by cases hx9 : b11 with | false => rfl | true => (have hy9 := HF.out.2.2.2.2.2.2.2.2.2 hx9; simp at hy9)
        subst hc11
        clear hl hd ho hL
        simp only [sel_t, sel_f]
        refine wpOp_step rfl ?_
        intro K' hK'
        go_simp
        exact hK' _ _ ⟨true, true, true, b3, true, true, true, true, true, true, false, false, x5, yy, rfl, rfl, Lib.hid ⟨HF.out.1, HF.out.2.1, HF.out.2.2.1, HF.out.2.2.2.1, (fun h => by have := HF.out.2.2.2.2.1 h; simpa using this), (fun h => by have := HF.out.2.2.2.2.2.1 h; simpa using this), (fun h => by have := HF.out.2.2.2.2.2.2.1 h; simpa using this), (fun _ => rfl), (fun h => absurd h (by decide)), (fun h => absurd h (by decide))⟩⟩
      · obtain rfl := Option.some.inj ho
        have hc10 : b10 = false := hl
        have hc9 : b9 = true := by first | (refine hd ⟨9, .data⟩ ?_ rfl; simp; done) | (refine hd ⟨9, .chain⟩ ?_ rfl; simp; done) | (refine hd ⟨9, .phase⟩ ?_ rfl; simp; done)
        have hc8 : b8 = true := by first | (refine hd ⟨8, .data⟩ ?_ rfl; simp; done) | (refine hd ⟨8, .chain⟩ ?_ rfl; simp; done) | (refine hd ⟨8, .phase⟩ ?_ rfl; simp; done) | exact HF.out.2.2.2.2.2.2.2.1 hc9 | (have hy9 := HF.out.2.2.2.2.2.2.2.1 hc9; simp at hy9; simp [hy9]; done)
        have hc7 : b7 = true := by first | (refine hd ⟨7, .data⟩ ?_ rfl; simp; done) | (refine hd ⟨7, .chain⟩ ?_ rfl; simp; done) | (refine hd ⟨7, .phase⟩ ?_ rfl; simp; done) | exact HF.out.2.2.2.2.2.2.1 hc8 | (have hy9 := HF.out.2.2.2.2.2.2.1 hc8; simp at hy9; simp [hy9]; done) | exact HF.out.2.2.2.2.2.2.2.1 hc9 | (have hy9 := HF.out.2.2.2.2.2.2.2.1 hc9; simp at hy9; simp [hy9]; done)
        have hc6 : b6 = true := by first | (refine hd ⟨6, .data⟩ ?_ rfl; simp; done) | (refine hd ⟨6, .chain⟩ ?_ rfl; simp; done) | (refine hd ⟨6, .phase⟩ ?_ rfl; simp; done) | exact HF.out.2.2.2.2.2.1 hc7 | (have hy9 := HF.out.2.2.2.2.2.1 hc7; simp at hy9; simp [hy9]; done) | exact HF.out.2.2.2.2.2.2.1 hc8 | (have hy9 := HF.out.2.2.2.2.2.2.1 hc8; simp at hy9; simp [hy9]; done) | exact HF.out.2.2.2.2.2.2.2.1 hc9 | (have hy9 := HF.out.2.2.2.2.2.2.2.1 hc9; simp at hy9; simp [hy9]; done)
        have hc5 : b5 = true := by first | (refine hd ⟨5, .data⟩ ?_ rfl; simp; done) | (refine hd ⟨5, .chain⟩ ?_ rfl; simp; done) | (refine hd ⟨5, .phase⟩ ?_ rfl; simp; done) | exact HF.out.2.2.2.2.1 hc6 | (have hy9 := HF.out.2.2.2.2.1 hc6; simp at hy9; simp [hy9]; done) | exact HF.out.2.2.2.2.2.1 hc7 | (have hy9 := HF.out.2.2.2.2.2.1 hc7; simp at hy9; simp [hy9]; done) | exact HF.out.2.2.2.2.2.2.1 hc8 | (have hy9 := HF.out.2.2.2.2.2.2.1 hc8; simp at hy9; simp [hy9]; done) | exact HF.out.2.2.2.2.2.2.2.1 hc9 | (have hy9 := HF.out.2.2.2.2.2.2.2.1 hc9; simp at hy9; simp [hy9]; done)
        have hc4 : b4 = true := by first | (refine hd ⟨4, .data⟩ ?_ rfl; simp; done) | (refine hd ⟨4, .chain⟩ ?_ rfl; simp; done) | (refine hd ⟨4, .phase⟩ ?_ rfl; simp; done) | exact HF.out.2.2.2.2.1 hc6 | (have hy9 := HF.out.2.2.2.2.1 hc6; simp at hy9; simp [hy9]; done) | exact HF.out.2.2.2.2.2.1 hc7 | (have hy9 := HF.out.2.2.2.2.2.1 hc7; simp at hy9; simp [hy9]; done) | exact HF.out.2.2.2.2.2.2.1 hc8 | (have hy9 := HF.out.2.2.2.2.2.2.1 hc8; simp at hy9; simp [hy9]; done) | exact HF.out.2.2.2.2.2.2.2.1 hc9 | (have hy9 := HF.out.2.2.2.2.2.2.2.1 hc9; simp at hy9; simp [hy9]; done)
        have hc3 : b3 = true := by first | (refine hd ⟨3, .data⟩ ?_ rfl; simp; done) | (refine hd ⟨3, .chain⟩ ?_ rfl; simp; done) | (refine hd ⟨3, .phase⟩ ?_ rfl; simp; done)
        have hc2 : b2 = true := by first | (refine hd ⟨2, .data⟩ ?_ rfl; simp; done) | (refine hd ⟨2, .chain⟩ ?_ rfl; simp; done) | (refine hd ⟨2, .phase⟩ ?_ rfl; simp; done) | exact HF.out.2.2.2.2.2.2.2.1 hc9 | (have hy9 := HF.out.2.2.2.2.2.2.2.1 hc9; simp at hy9; simp [hy9]; done)
        have hc1 : b1 = true := by first | (refine hd ⟨1, .data⟩ ?_ rfl; simp; done) | (refine hd ⟨1, .chain⟩ ?_ rfl; simp; done) | (refine hd ⟨1, .phase⟩ ?_ rfl; simp; done) | exact HF.out.2.2.2.2.2.2.1 hc8 | (have hy9 := HF.out.2.2.2.2.2.2.1 hc8; simp at hy9; simp [hy9]; done) | exact HF.out.2.2.2.2.2.2.2.1 hc9 | (have hy9 := HF.out.2.2.2.2.2.2.2.1 hc9; simp at hy9; simp [hy9]; done)
        have hc0 : b0 = true := by first | (refine hd ⟨0, .data⟩ ?_ rfl; simp; done) | (refine hd ⟨0, .chain⟩ ?_ rfl; simp; done) | (refine hd ⟨0, .phase⟩ ?_ rfl; simp; done) | exact HF.out.2.2.2.2.2.1 hc7 | (have hy9 := HF.out.2.2.2.2.2.1 hc7; simp at hy9; simp [hy9]; done) | exact HF.out.2.2.2.2.2.2.1 hc8 | (have hy9 := HF.out.2.2.2.2.2.2.1 hc8; simp at hy9; simp [hy9]; done) | exact HF.out.2.2.2.2.2.2.2.1 hc9 | (have hy9 := HF.out.2.2.2.2.2.2.2.1 hc9; simp at hy9; simp [hy9]; done)
        subst hc10 hc9 hc8 hc7 hc6 hc5 hc4 hc3 hc2 hc1 hc0
        have hc11 : b11 = false := by cases hx9 : b11 with | false => rfl | true => (have hy9 := HF.out.2.2.2.2.2.2.2.2.2 hx9; simp at hy9)
        subst hc11
        clear hl hd ho hL
        simp only [sel_t, sel_f]
        refine wpOp_step rfl ?_
        intro K' hK'
        go_simp
        exact hK' _ _ ⟨true, true, true, true, true, true, true, true, true, true, true, false, x5, yy, rfl, rfl, Lib.hid ⟨HF.out.1, HF.out.2.1, HF.out.2.2.1, HF.out.2.2.2.1, (fun h => by have := HF.out.2.2.2.2.1 h; simpa using this), (fun h => by have := HF.out.2.2.2.2.2.1 h; simpa using this), (fun h => by have := HF.out.2.2.2.2.2.2.1 h; simpa using this), (fun h => by have := HF.out.2.2.2.2.2.2.2.1 h; simpa using this), (fun _ => rfl), (fun h => absurd h (by decide))⟩⟩
      · obtain rfl := Option.some.inj ho
        have hc11 : b11 = false := hl
        have hc10 : b10 = true := by first | (refine hd ⟨10, .data⟩ ?_ rfl; simp; done) | (refine hd ⟨10, .chain⟩ ?_ rfl; simp; done) | (refine hd ⟨10, .phase⟩ ?_ rfl; simp; done)
        have hc9 : b9 = true := by first | (refine hd ⟨9, .data⟩ ?_ rfl; simp; done) | (refine hd ⟨9, .chain⟩ ?_ rfl; simp; done) | (refine hd ⟨9, .phase⟩ ?_ rfl; simp; done) | exact HF.out.2.2.2.2.2.2.2.2.1 hc10 | (have hy9 := HF.out.2.2.2.2.2.2.2.2.1 hc10; simp at hy9; simp [hy9]; done)
        have hc8 : b8 = true := by first | (refine hd ⟨8, .data⟩ ?_ rfl; simp; done) | (refine hd ⟨8, .chain⟩ ?_ rfl; simp; done) | (refine hd ⟨8, .phase⟩ ?_ rfl; simp; done) | exact HF.out.2.2.2.2.2.2.2.1 hc9 | (have hy9 := HF.out.2.2.2.2.2.2.2.1 hc9; simp at hy9; simp [hy9]; done) | exact HF.out.2.2.2.2.2.2.2.2.1 hc10 | (have hy9 := HF.out.2.2.2.2.2.2.2.2.1 hc10; simp at hy9; simp [hy9]; done)
        have hc7 : b7 = true := by first | (refine hd ⟨7, .data⟩ ?_ rfl; simp; done) | (refine hd ⟨7, .chain⟩ ?_ rfl; simp; done) | (refine hd ⟨7, .phase⟩ ?_ rfl; simp; done) | exact HF.out.2.2.2.2.2.2.1 hc8 | (have hy9 := HF.out.2.2.2.2.2.2.1 hc8; simp at hy9; simp [hy9]; done) | exact HF.out.2.2.2.2.2.2.2.1 hc9 | (have hy9 := HF.out.2.2.2.2.2.2.2.1 hc9; simp at hy9; simp [hy9]; done) | exact HF.out.2.2.2.2.2.2.2.2.1 hc10 | (have hy9 := HF.out.2.2.2.2.2.2.2.2.1 hc10; simp at hy9; simp [hy9]; done)
        have hc6 : b6 = true := by first | (refine hd ⟨6, .data⟩ ?_ rfl; simp; done) | (refine hd ⟨6, .chain⟩ ?_ rfl; simp; done) | (refine hd ⟨6, .phase⟩ ?_ rfl; simp; done) | exact HF.out.2.2.2.2.2.1 hc7 | (have hy9 := HF.out.2.2.2.2.2.1 hc7; simp at hy9; simp [hy9]; done) | exact HF.out.2.2.2.2.2.2.1 hc8 | (have hy9 := HF.out.2.2.2.2.2.2.1 hc8; simp at hy9; simp [hy9]; done) | exact HF.out.2.2.2.2.2.2.2.1 hc9 | (have hy9 := HF.out.2.2.2.2.2.2.2.1 hc9; simp at hy9; simp [hy9]; done) | exact HF.out.2.2.2.2.2.2.2.2.1 hc10 | (have hy9 := HF.out.2.2.2.2.2.2.2.2.1 hc10; simp at hy9; simp [hy9]; done)
        have hc5 : b5 = true := by first | (refine hd ⟨5, .data⟩ ?_ rfl; simp; done) | (refine hd ⟨5, .chain⟩ ?_ rfl; simp; done) | (refine hd ⟨5, .phase⟩ ?_ rfl; simp; done) | exact HF.out.2.2.2.2.1 hc6 | (have hy9 := HF.out.2.2.2.2.1 hc6; simp at hy9; simp [hy9]; done) | exact HF.out.2.2.2.2.2.1 hc7 | (have hy9 := HF.out.2.2.2.2.2.1 hc7; simp at hy9; simp [hy9]; done) | exact HF.out.2.2.2.2.2.2.1 hc8 | (have hy9 := HF.out.2.2.2.2.2.2.1 hc8; simp at hy9; simp [hy9]; done) | exact HF.out.2.2.2.2.2.2.2.1 hc9 | (have hy9 := HF.out.2.2.2.2.2.2.2.1 hc9; simp at hy9; simp [hy9]; done) | exact HF.out.2.2.2.2.2.2.2.2.1 hc10 | (have hy9 := HF.out.2.2.2.2.2.2.2.2.1 hc10; simp at hy9; simp [hy9]; done)
        have hc4 : b4 = true := by first | (refine hd ⟨4, .data⟩ ?_ rfl; simp; done) | (refine hd ⟨4, .chain⟩ ?_ rfl; simp; done) | (refine hd ⟨4, .phase⟩ ?_ rfl; simp; done) | exact HF.out.2.2.2.2.1 hc6 | (have hy9 := HF.out.2.2.2.2.1 hc6; simp at hy9; simp [hy9]; done) | exact HF.out.2.2.2.2.2.1 hc7 | (have hy9 := HF.out.2.2.2.2.2.1 hc7; simp at hy9; simp [hy9]; done) | exact HF.out.2.2.2.2.2.2.1 hc8 | (have hy9 := HF.out.2.2.2.2.2.2.1 hc8; simp at hy9; simp [hy9]; done) | exact HF.out.2.2.2.2.2.2.2.1 hc9 | (have hy9 := HF.out.2.2.2.2.2.2.2.1 hc9; simp at hy9; simp [hy9]; done) | exact HF.out.2.2.2.2.2.2.2.2.1 hc10 | (have hy9 := HF.out.2.2.2.2.2.2.2.2.1 hc10; simp at hy9; simp [hy9]; done)
        have hc3 : b3 = true := by first | (refine hd ⟨3, .data⟩ ?_ rfl; simp; done) | (refine hd ⟨3, .chain⟩ ?_ rfl; simp; done) | (refine hd ⟨3, .phase⟩ ?_ rfl; simp; done) | exact HF.out.2.2.2.2.2.2.2.2.1 hc10 | (have hy9 := HF.out.2.2.2.2.2.2.2.2.1 hc10; simp at hy9; simp [hy9]; done)
        have hc2 : b2 = true := by first | (refine hd ⟨2, .data⟩ ?_ rfl; simp; done) | (refine hd ⟨2, .chain⟩ ?_ rfl; simp; done) | (refine hd ⟨2, .phase⟩ ?_ rfl; simp; done) | exact HF.out.2.2.2.2.2.2.2.1 hc9 | (have hy9 := HF.out.2.2.2.2.2.2.2.1 hc9; simp at hy9; simp [hy9]; done) | exact HF.out.2.2.2.2.2.2.2.2.1 hc10 | (have hy9 := HF.out.2.2.2.2.2.2.2.2.1 hc10; simp at hy9; simp [hy9]; done)
        have hc1 : b1 = true := by first | (refine hd ⟨1, .data⟩ ?_ rfl; simp; done) | (refine hd ⟨1, .chain⟩ ?_ rfl; simp; done) | (refine hd ⟨1, .phase⟩ ?_ rfl; simp; done) | exact HF.out.2.2.2.2.2.2.1 hc8 | (have hy9 := HF.out.2.2.2.2.2.2.1 hc8; simp at hy9; simp [hy9]; done) | exact HF.out.2.2.2.2.2.2.2.1 hc9 | (have hy9 := HF.out.2.2.2.2.2.2.2.1 hc9; simp at hy9; simp [hy9]; done) | exact HF.out.2.2.2.2.2.2.2.2.1 hc10 | (have hy9 := HF.out.2.2.2.2.2.2.2.2.1 hc10; simp at hy9; simp [hy9]; done)
        have hc0 : b0 = true := by first | (refine hd ⟨0, .data⟩ ?_ rfl; simp; done) | (refine hd ⟨0, .chain⟩ ?_ rfl; simp; done) | (refine hd ⟨0, .phase⟩ ?_ rfl; simp; done) | exact HF.out.2.2.2.2.2.1 hc7 | (have hy9 := HF.out.2.2.2.2.2.1 hc7; simp at hy9; simp [hy9]; done) | exact HF.out.2.2.2.2.2.2.1 hc8 | (have hy9 := HF.out.2.2.2.2.2.2.1 hc8; simp at hy9; simp [hy9]; done) | exact HF.out.2.2.2.2.2.2.2.1 hc9 | (have hy9 := HF.out.2.2.2.2.2.2.2.1 hc9; simp at hy9; simp [hy9]; done) | exact HF.out.2.2.2.2.2.2.2.2.1 hc10 | (have hy9 := HF.out.2.2.2.2.2.2.2.2.1 hc10; simp at hy9; simp [hy9]; done)
        subst hc11 hc10 hc9 hc8 hc7 hc6 hc5 hc4 hc3 hc2 hc1 hc0
        clear hl hd ho hL
        simp only [sel_t, sel_f]
        refine wpOp_step rfl ?_
        intro K' hK'
        go_simp
        exact hK' _ _ ⟨true, true, true, true, true, true, true, true, true, true, true, true, x5, yy, rfl, rfl, Lib.hid ⟨HF.out.1, HF.out.2.1, HF.out.2.2.1, HF.out.2.2.2.1, (fun h => by have := HF.out.2.2.2.2.1 h; simpa using this), (fun h => by have := HF.out.2.2.2.2.2.1 h; simpa using this), (fun h => by have := HF.out.2.2.2.2.2.2.1 h; simpa using this), (fun h => by have := HF.out.2.2.2.2.2.2.2.1 h; simpa using this), (fun h => by have := HF.out.2.2.2.2.2.2.2.2.1 h; simpa using this), (fun _ => rfl)⟩⟩
    · rintro L A9 w' hL ⟨b0, b1, b2, b3, b4, b5, b6, b7, b8, b9, b10, b11, x5, yy, rfl, rfl, HF⟩ hall
      have hc0 : b0 = true := hall 0 (by decide)
      have hc1 : b1 = true := hall 1 (by decide)
      have hc2 : b2 = true := hall 2 (by decide)
      have hc3 : b3 = true := hall 3 (by decide)
      have hc4 : b4 = true := hall 4 (by decide)
      have hc5 : b5 = true := hall 5 (by decide)
      have hc6 : b6 = true := hall 6 (by decide)
      have hc7 : b7 = true := hall 7 (by decide)
      have hc8 : b8 = true := hall 8 (by decide)
      have hc9 : b9 = true := hall 9 (by decide)
      have hc10 : b10 = true := hall 10 (by decide)
      have hc11 : b11 = true := hall 11 (by decide)
      subst hc0 hc1 hc2 hc3 hc4 hc5 hc6 hc7 hc8 hc9 hc10 hc11
      simp only [sel_t]
      have HD := Lib.hid ((HF.out.2.2.2.1 rfl).1 x5)
      have c0 := (HF.out.2.2.2.1 rfl).2.1
      have c1 := (HF.out.2.2.2.1 rfl).2.2
      clear HF
      try simp only [Exit.inBlock, Exit.then]
      go_wp2
      try simp only [Exit.inBlock, Exit.then]
      refine bodyPost_ret (v := .tuple #[.agg #[.int .i64 n1, .slice va es.length vc], .int .i64 m, .int .i64 s, .int .i64 t, .int .i64 x5]) ?_ rfl HD.out
      rw [results_ctttt rfl]
      go_simp
end Go.Proofs.Ytaoecegnjhbagaa
