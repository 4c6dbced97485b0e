/- Draws of a graph, a kind, a source and a target, in the model. -/
import Derived.Test.YtlgjcofpdaljnaaCase3
namespace Go.Proofs.Ytlgjcofpdaljnaa
open Go.RowKit Go.BigFrame Go.Deep
set_option linter.unusedVariables false
set_option linter.unusedSimpArgs false
set_option linter.unnecessarySimpa false
set_option maxHeartbeats 1000000 in
theorem pickN (num : Int) (W w : World) (g q : Nat) (h : Rd W w g q) (hq : q ≤ 1000000) :
    Calls Try.prog 80 #[.pointer (some ⟨g, 0, none⟩), .int .i64 num] w fun e w' => ∃ x : Int, e = .returned (.int .i64 x) ∧ 0 ≤ x ∧ (x < num ∨ x = 0) ∧ Rd W w' g (q + 1) ∧ w.grownBy w' (some g) := by
  obtain ⟨hnew, hbel, ⟨a, n, cap, p, hn, hp, hby, h0, h1⟩, hfr, hlt⟩ := h
  obtain ⟨hR, hG⟩ := rd_put hnew hbel hn hp hby h0 h1 hfr hlt 0
  by_cases hnum1 : num < 1
  · go_enter Try.func80, Try.ntmps80
    go_wp2
    go_ret
    exact ⟨0, rfl, by omega, .inr rfl, hR, hG⟩
  · by_cases hn0 : n = 0
    · subst hn0
      go_enter Try.func80, Try.ntmps80
      go_wp2
      go_ret
      exact ⟨0, rfl, by omega, .inr rfl, hR, hG⟩
    · have hn1 : 0 < n := by omega
      have hnb : ((n : Int) == 0) = false := by simpa using hn0
      obtain ⟨b, off, ha, hb, hbs⟩ := hby.resolve_left hn0
      subst ha
      have hbg : b ≠ g := by omega
      have HB : Hid (∀ i, i < n → ∃ x : Int, 0 ≤ x ∧ x ≤ 255 ∧ w.cell? ⟨b, off + i, none⟩ = some (.int .u8 x)) := fun i hi => by
        obtain ⟨x, hx0, hx1, hx⟩ := hbs i hi
        exact ⟨x, hx0, hx1, by rw [hbel.cell (p := ⟨b, off + i, none⟩) hb]; exact hx⟩
      have HRG := Lib.hid (rd_put hnew hbel hn hp hby h0 h1 hfr hlt)
      clear hR hG hbs hby hn0
      by_cases hpn : p < n
      · obtain ⟨x, hx0, hx1, hx⟩ := HB.out p hpn
        have hpn' : (p : Int) < n := by omega
        clear hpn
        go_enter Try.func80, Try.ntmps80
        go_wp2
        go_ret
        exact ⟨x % num, rfl, Int.emod_nonneg _ (by omega), .inl (Int.emod_lt_of_pos _ (by omega)), (HRG.out 0).1, (HRG.out 0).2⟩
      · have hpn' : ¬ ((p : Int) < n) := by omega
        obtain ⟨x, hx0, hx1, hx⟩ := HB.out (p % n) (Nat.mod_lt _ hn1)
        obtain ⟨y, hy0, hy1, hy⟩ := HB.out ((p * 7 + 3) % n) (Nat.mod_lt _ hn1)
        clear hpn
        go_enter Try.func80, Try.ntmps80
        go_wp2_with fail
        have m0 : 0 ≤ (p : Int) % n := Int.emod_nonneg _ (by omega)
        have m1 : (p : Int) % n < n := Int.emod_lt_of_pos _ (by omega)
        have m2 : 0 ≤ ((p : Int) * 7 + 3) % n := Int.emod_nonneg _ (by omega)
        have m3 : ((p : Int) * 7 + 3) % n < n := Int.emod_lt_of_pos _ (by omega)
        have m4 : 0 ≤ (p : Int) / n := Int.ediv_nonneg (by omega) (by omega)
        have m5 : (p : Int) / n ≤ p := Int.ediv_le_self _ (by omega)
        refine wp_region_quiet_lit (by kernel_rfl) (by kernel_rfl) ?_
        repeat (go_big_quiet_step (fail))
        refine wpQuiet_nil ?_
        intro _ hw'
        obtain ⟨nq, hw''⟩ := hw'
        subst hw''
        obtain ⟨t, ht⟩ : ∃ t, t = x * 131 + y * 1117 + (p : Int) * 29 + (p : Int) / n * 53 := ⟨_, rfl⟩
        have t0 : 0 ≤ t := by omega
        have t1 : t ≤ 4611686018427387904 := by omega
        rw [← ht]
        obtain ⟨x0, x1⟩ := xor_low t t0 t1
        clear ht m0 m1 m2 m3 m4 m5 hx hy hx0 hx1 hy0 hy1
        go_wp2
        go_ret
        exact ⟨_, rfl, Int.emod_nonneg _ (by omega), .inl (Int.emod_lt_of_pos _ (by omega)), (HRG.out nq).1, (HRG.out nq).2⟩

theorem InR.grownH {w w' : World} {lo hi g : Nat} {s : Value} {n sz : Nat} {cs : Nat → Value} (r : InR true w lo hi s n sz cs) (h : w.grownBy w' (some g)) (hg : hi ≤ g) : InR true w' lo hi s n sz cs := r.chg (g_chgG h) (.inr (by omega))
def DrawnC4 (w : World) (e : Ending) (w' : World) : Prop :=
  ∃ (n : Int) (es : List Ed) (v : Value) (m a b : Int), e = .returned (.tuple #[.agg #[.int .i64 n, v], .int .i64 m, .int .i64 a, .int .i64 b]) ∧ es.length ≤ 41 ∧ InR true w' w.heap.size w'.heap.size v es.length 3 (cellE es) ∧ okS v ∧ Below w.heap.size w w'
theorem results_cttt {fn : Func} {p t u x : Tmp} {ty : TypeId} (h : fn.results = #[.cell p ty, .tmp t, .tmp u, .tmp x]) (tmps : Array Value) (P : Program) (w : World) :
    (results fn tmps).run P w = ((asAddr (tmps.getD p undef)).run P w).andThen fun a w₁ => ((loadVar ty a).run P w₁).andThen fun v w₂ => .ok (.tuple #[v, tmps.getD t undef, tmps.getD u undef, tmps.getD x undef]) w₂ := by
  simp only [results, h]
  simp
theorem drawnC4_of {w w2 w9 : World} {lo hi g q : Nat} {n m a b : Int} {es : List Ed} {v : Value} (hb : Below w.heap.size w w2) (hR : Rd w2 w9 g q)
    (hrow : InR true w9 lo hi v es.length 3 (cellE es)) (hok : okS v) (hl : es.length ≤ 41) (hlo : w.heap.size < lo) (hhi : hi ≤ w9.heap.size) :
    DrawnC4 w (.returned (.tuple #[.agg #[.int .i64 n, v], .int .i64 m, .int .i64 a, .int .i64 b])) ((w9.setCell ⟨w.heap.size, 0, none⟩ (.int .i64 n)).setCell ⟨w.heap.size, 1, none⟩ v) := by
  refine ⟨n, es, v, m, a, b, rfl, hl, ?_, hok, ((bel_trans hb hR.bel).setCell (by simp) _).setCell (by simp) _⟩
  have h1 := ((hrow.set8 (k := 0) (u := .int .i64 n) hlo).set8 (k := 1) (u := v) hlo)
  exact h1.wider (by omega) (by simpa using hhi) (Nat.le_refl _)
set_option maxRecDepth 20000 in
set_option maxHeartbeats 4000000 in
theorem l4Target (a : Option Addr) (n cap : Nat) (w : World) (hb : Bytes w a n) (hcap : n ≤ cap) (hn : n ≤ 281474976710656) :
    Calls Try.prog 64 #[.slice a n cap] w (DrawnC4 w) := by
  have hbx := Box.new w 25 #[.int .i64 0, .slice none 0 0]
  have hbl : Below w.heap.size w (w.alloc (.cells #[.int .i64 0, .slice none 0 0] 25)) := (Below.refl _ _).alloc (Nat.le_refl _) _
  have HC := Lib.hid hb
  clear hb
  go_enter Try.func64, Try.ntmps64
  go_wp2_with fail
  generalize (w.alloc (.cells #[.int .i64 0, .slice none 0 0] 25)) = w0 at hbx hbl ⊢
  refine (l3Case a n cap w0 (HC.out.keepB hbl) hcap hn).mono ?_
  rintro e w1 ⟨n1, es, v, m, s, rfl, hl, hrow, hok, hb1⟩
  obtain ⟨va, vc, rfl, hz9⟩ := id hrow
  have hbe := bel_trans hbl hb1
  have hs0 : w.heap.size < w0.heap.size := hbx.lt
  have hs1 := hb1.size
  have hb2 : Below w1.heap.size w1 (w1.alloc (.cells #[.int .i64 n1, .slice va es.length vc] 25)) := (Below.refl _ _).alloc (Nat.le_refl _) _
  have hs2 := hb2.size
  have K2 := Lib.hid (And.intro (bel_trans hbe hb2) (And.intro ((hbx.keep hb1).keep hb2) (And.intro (InR.keep hrow hb2) (And.intro hok (Box.new w1 25 #[.int .i64 n1, .slice va es.length vc])))))
  clear hz9 hrow hok hbx hbl hb1 hbe hb2
  go_wp2_with fail
  generalize (w1.alloc (.cells #[.int .i64 n1, .slice va es.length vc] 25)) = w2 at K2 hs2 ⊢
  refine (l15Open a n cap w2 (HC.out.keepB K2.out.1) hcap hn).mono ?_
  rintro e w3 ⟨g, rfl, hR⟩
  have hg0 := hR.new
  have hb3 := hR.bel
  have hlt2 := K2.out.2.2.2.2.lt
  have K3 := Lib.hid (And.intro hR (And.intro (K2.out.2.1.keep hb3) (And.intro (InR.keep K2.out.2.2.1 hb3) (K2.out.2.2.2.2.keep hb3))))
  have hs3 := hb3.size
  clear hR hb3
  have x0 : w3.cell? ⟨w1.heap.size, 0, none⟩ = some (.int .i64 n1) := by simpa using K3.out.2.2.2.cell 0
  by_cases hn1 : n1 < 1
  · go_upto_region 4 with fail
    refine wp_region_inv (fun L A9 w' => ∃ (b0 b1 b2 b3 b4 b5 b6 b7 b8 b9 : Bool) (x5 : Int) (yy : Nat), L = #[b0, b1, b2, b3, b4, b5, b6, b7, b8, b9] ∧ A9 = { tmps := #[Value.slice a n cap, undef, Value.pointer (some { block := w.heap.size, off := 0 }), sel b7 (Value.int .i64 m) (Value.int IntKind.i64 0), sel b8 (Value.int .i64 s) (Value.int IntKind.i64 0), sel b9 (Value.int .i64 x5) (Value.int IntKind.i64 0), Value.pointer (some { block := w1.heap.size, off := 0 }), Value.int IntKind.i64 m, Value.int IntKind.i64 s, Value.pointer (some { block := g, off := 0 }), Value.tuple #[Value.agg #[Value.int IntKind.i64 n1, Value.slice va es.length vc], Value.int IntKind.i64 m, Value.int IntKind.i64 s], Value.slice a n cap, Value.tuple #[Value.agg #[Value.int IntKind.i64 n1, Value.slice va es.length vc], Value.int IntKind.i64 m, Value.int IntKind.i64 s], Value.agg #[Value.int IntKind.i64 n1, Value.slice va es.length vc], Value.int IntKind.i64 m, Value.int IntKind.i64 s, Value.slice a n cap, Value.pointer (some { block := g, off := 0 }), Value.pointer (some { block := w1.heap.size, off := 0 }), Value.int IntKind.i64 n1, Value.bool true, Value.bool true, undef, undef, undef, Value.bool true, sel b0 (Value.agg #[.int .i64 n1, .slice va es.length vc]) undef, sel b1 (Value.int .i64 m) undef, sel b2 (Value.int .i64 s) undef, sel b3 (Value.pointer (some ⟨g, 0, none⟩)) undef, sel b4 (Value.slice (some ⟨yy, 0, none⟩) 2 2) undef, sel b5 (Value.int .i64 x5) undef, undef, undef, undef, undef, undef, undef, undef], defers := [] } ∧ Hid ((b6 = false → Rd w2 w' g (0 + b5.toNat)) ∧ (b6 = false → w3.grownBy w' (some g)) ∧ (b4 = true → b5 = false → RowN w' g (.slice (some ⟨yy, 0, none⟩) 2 2) [-1, 12]) ∧ (b6 = true → (∀ t9 : Int, DrawnC4 w (.returned (.tuple #[.agg #[.int .i64 n1, .slice va es.length vc], .int .i64 m, .int .i64 s, .int .i64 t9])) w') ∧ w'.cell? ⟨w.heap.size, 0, none⟩ = some (.int .i64 n1) ∧ w'.cell? ⟨w.heap.size, 1, none⟩ = some (.slice va es.length vc)) ∧ (b5 = true → (b3 && b4) = true) ∧ (b6 = true → (b0 && b3 && b4 && b5) = true) ∧ (b7 = true → (b0 && b1 && b3 && b4 && b5 && b6) = true) ∧ (b8 = true → (b0 && b1 && b2 && b3 && b4 && b5 && b6 && b7) = true) ∧ (b9 = true → (b0 && b1 && b2 && b3 && b4 && b5 && b6 && b7 && b8) = true))) (by kernel_rfl) (by kernel_rfl) ?_ ?_ ?_
    · exact ⟨false, false, false, false, false, false, false, false, false, false, 0, 0, rfl, rfl, Lib.hid ⟨(fun _ => Rd.drew' K3.out.1), (fun _ => g_drew (grown_refl _ _)), (fun h => absurd h (by decide)), (fun h => absurd h (by decide)), (fun h => absurd h (by decide)), (fun h => absurd h (by decide)), (fun h => absurd h (by decide)), (fun h => absurd h (by decide)), (fun h => absurd h (by decide))⟩⟩
    · rintro L A9 w' hL ⟨b0, b1, b2, b3, b4, b5, b6, b7, b8, b9, x5, yy, rfl, rfl, HF⟩ k9 o9 ho hl hd
      have hk9 : k9 = 0 ∨ k9 = 1 ∨ k9 = 2 ∨ k9 = 3 ∨ k9 = 4 ∨ k9 = 5 ∨ k9 = 6 ∨ k9 = 7 ∨ k9 = 8 ∨ k9 = 9 := by have := (Array.getElem?_eq_some_iff.1 ho).1; simp at this; omega
      rcases hk9 with rfl | rfl | rfl | rfl | rfl | rfl | rfl | rfl | rfl | rfl
      · obtain rfl := Option.some.inj ho
        have hc0 : b0 = false := hl
        subst hc0
        have hc6 : b6 = false := by cases hx9 : b6 with | false => rfl | true => (have hy9 := HF.out.2.2.2.2.2.1 hx9; simp at hy9)
        subst hc6
        have hc7 : b7 = false := by cases hx9 : b7 with | false => rfl | true => (have hy9 := HF.out.2.2.2.2.2.2.1 hx9; simp at hy9)
        subst hc7
        have hc8 : b8 = false := by cases hx9 : b8 with | false => rfl | true => (have hy9 := HF.out.2.2.2.2.2.2.2.1 hx9; simp at hy9)
        subst hc8
        have hc9 : b9 = false := by cases hx9 : b9 with | false => rfl | true => (have hy9 := HF.out.2.2.2.2.2.2.2.2 hx9; simp at hy9)
        subst hc9
        clear hl hd ho hL
        simp only [sel_t, sel_f]
        have hB9 := K3.out.2.2.2.grownG (HF.out.2.1 rfl) (by omega)
        have y0 : w'.cell? ⟨w1.heap.size, 0, none⟩ = some (.int .i64 n1) := by simpa using hB9.cell 0
        have y1 : w'.cell? ⟨w1.heap.size, 1, none⟩ = some (.slice va es.length vc) := by simpa using hB9.cell 1
        refine wpOp_step rfl ?_
        intro K' hK'
        go_simp
        exact hK' _ _ ⟨true, b1, b2, b3, b4, b5, false, false, false, false, x5, yy, rfl, rfl, Lib.hid ⟨HF.out.1, HF.out.2.1, HF.out.2.2.1, HF.out.2.2.2.1, HF.out.2.2.2.2.1, (fun h => absurd h (by decide)), (fun h => absurd h (by decide)), (fun h => absurd h (by decide)), (fun h => absurd h (by decide))⟩⟩
      · obtain rfl := Option.some.inj ho
        have hc1 : b1 = false := hl
        subst hc1
        have hc7 : b7 = false := by cases hx9 : b7 with | false => rfl | true => (have hy9 := HF.out.2.2.2.2.2.2.1 hx9; simp at hy9)
        subst hc7
        have hc8 : b8 = false := by cases hx9 : b8 with | false => rfl | true => (have hy9 := HF.out.2.2.2.2.2.2.2.1 hx9; simp at hy9)
        subst hc8
        have hc9 : b9 = false := by cases hx9 : b9 with | false => rfl | true => (have hy9 := HF.out.2.2.2.2.2.2.2.2 hx9; simp at hy9)
        subst hc9
        clear hl hd ho hL
        simp only [sel_t, sel_f]
        refine wpOp_step rfl ?_
        intro K' hK'
        go_simp
        exact hK' _ _ ⟨b0, true, b2, b3, b4, b5, b6, false, false, false, x5, yy, rfl, rfl, Lib.hid ⟨HF.out.1, HF.out.2.1, HF.out.2.2.1, HF.out.2.2.2.1, HF.out.2.2.2.2.1, HF.out.2.2.2.2.2.1, (fun h => absurd h (by decide)), (fun h => absurd h (by decide)), (fun h => absurd h (by decide))⟩⟩
      · obtain rfl := Option.some.inj ho
        have hc2 : b2 = false := hl
        subst hc2
        have hc8 : b8 = false := by cases hx9 : b8 with | false => rfl | true => (have hy9 := HF.out.2.2.2.2.2.2.2.1 hx9; simp at hy9)
        subst hc8
        have hc9 : b9 = false := by cases hx9 : b9 with | false => rfl | true => (have hy9 := HF.out.2.2.2.2.2.2.2.2 hx9; simp at hy9)
        subst hc9
        clear hl hd ho hL
        simp only [sel_t, sel_f]
        refine wpOp_step rfl ?_
        intro K' hK'
        go_simp
        exact hK' _ _ ⟨b0, b1, true, b3, b4, b5, b6, b7, false, false, x5, yy, rfl, rfl, Lib.hid ⟨HF.out.1, HF.out.2.1, HF.out.2.2.1, HF.out.2.2.2.1, HF.out.2.2.2.2.1, HF.out.2.2.2.2.2.1, HF.out.2.2.2.2.2.2.1, (fun h => absurd h (by decide)), (fun h => absurd h (by decide))⟩⟩
      · obtain rfl := Option.some.inj ho
        have hc3 : b3 = false := hl
        subst hc3
        have hc5 : b5 = false := by cases hx9 : b5 with | false => rfl | true => (have hy9 := HF.out.2.2.2.2.1 hx9; simp at hy9)
        subst hc5
        have hc6 : b6 = false := by cases hx9 : b6 with | false => rfl | true => (have hy9 := HF.out.2.2.2.2.2.1 hx9; simp at hy9)
        subst hc6
        have hc7 : b7 = false := by cases hx9 : b7 with | false => rfl | true => (have hy9 := HF.out.2.2.2.2.2.2.1 hx9; simp at hy9)
        subst hc7
        have hc8 : b8 = false := by cases hx9 : b8 with | false => rfl | true => (have hy9 := HF.out.2.2.2.2.2.2.2.1 hx9; simp at hy9)
        subst hc8
        have hc9 : b9 = false := by cases hx9 : b9 with | false => rfl | true => (have hy9 := HF.out.2.2.2.2.2.2.2.2 hx9; simp at hy9)
        subst hc9
        clear hl hd ho hL
        simp only [sel_t, sel_f]
        refine wpOp_step rfl ?_
        intro K' hK'
        go_simp
        exact hK' _ _ ⟨b0, b1, b2, true, b4, false, false, false, false, false, x5, yy, rfl, rfl, Lib.hid ⟨HF.out.1, HF.out.2.1, HF.out.2.2.1, HF.out.2.2.2.1, (fun h => absurd h (by decide)), (fun h => absurd h (by decide)), (fun h => absurd h (by decide)), (fun h => absurd h (by decide)), (fun h => absurd h (by decide))⟩⟩
      · obtain rfl := Option.some.inj ho
        have hc4 : b4 = false := hl
        subst hc4
        have hc5 : b5 = false := by cases hx9 : b5 with | false => rfl | true => (have hy9 := HF.out.2.2.2.2.1 hx9; simp at hy9)
        subst hc5
        have hc6 : b6 = false := by cases hx9 : b6 with | false => rfl | true => (have hy9 := HF.out.2.2.2.2.2.1 hx9; simp at hy9)
        subst hc6
        have hc7 : b7 = false := by cases hx9 : b7 with | false => rfl | true => (have hy9 := HF.out.2.2.2.2.2.2.1 hx9; simp at hy9)
        subst hc7
        have hc8 : b8 = false := by cases hx9 : b8 with | false => rfl | true => (have hy9 := HF.out.2.2.2.2.2.2.2.1 hx9; simp at hy9)
        subst hc8
        have hc9 : b9 = false := by cases hx9 : b9 with | false => rfl | true => (have hy9 := HF.out.2.2.2.2.2.2.2.2 hx9; simp at hy9)
        subst hc9
        clear hl hd ho hL
        simp only [sel_t, sel_f]
        refine wpOp_step rfl ?_
        intro K' hK'
        go_simp
        exact hK' _ _ ⟨b0, b1, b2, b3, true, false, false, false, false, false, x5, w'.heap.size, rfl, rfl, Lib.hid ⟨(fun _ => (HF.out.1 rfl).alloc' _), (fun _ => g_alloc (HF.out.2.1 rfl) _), (fun _ _ => rowN_at [-1, 12] w' g _ _ rfl (HF.out.1 rfl).lt), (fun h => absurd h (by decide)), (fun h => absurd h (by decide)), (fun h => absurd h (by decide)), (fun h => absurd h (by decide)), (fun h => absurd h (by decide)), (fun h => absurd h (by decide))⟩⟩
      · obtain rfl := Option.some.inj ho
        have hc5 : b5 = false := hl
        have hc4 : b4 = true := by first | (refine hd ⟨4, .data⟩ ?_ rfl; simp; done) | (refine hd ⟨4, .chain⟩ ?_ rfl; simp; done) | (refine hd ⟨4, .phase⟩ ?_ rfl; simp; done)
        have hc3 : b3 = true := by first | (refine hd ⟨3, .data⟩ ?_ rfl; simp; done) | (refine hd ⟨3, .chain⟩ ?_ rfl; simp; done) | (refine hd ⟨3, .phase⟩ ?_ rfl; simp; done)
        subst hc5 hc4 hc3
        have hc6 : b6 = false := by cases hx9 : b6 with | false => rfl | true => (have hy9 := HF.out.2.2.2.2.2.1 hx9; simp at hy9)
        subst hc6
        have hc7 : b7 = false := by cases hx9 : b7 with | false => rfl | true => (have hy9 := HF.out.2.2.2.2.2.2.1 hx9; simp at hy9)
        subst hc7
        have hc8 : b8 = false := by cases hx9 : b8 with | false => rfl | true => (have hy9 := HF.out.2.2.2.2.2.2.2.1 hx9; simp at hy9)
        subst hc8
        have hc9 : b9 = false := by cases hx9 : b9 with | false => rfl | true => (have hy9 := HF.out.2.2.2.2.2.2.2.2 hx9; simp at hy9)
        subst hc9
        clear hl hd ho hL
        simp only [sel_t, sel_f]
        have hcall := num [-1, 12] (.slice (some ⟨yy, 0, none⟩) 2 2) w2 w' g _ (HF.out.1 rfl) (by simp only [Bool.toNat_false, Bool.toNat_true]; omega) (HF.out.2.2.1 rfl rfl) (by decide) (by decide)
        have HC9 := Lib.hid hcall
        clear hcall
        refine wpOp_step rfl ?_
        intro K' hK'
        go_simp
        refine HC9.out.mono ?_
        rintro e9 w9 ⟨x9, hx9, rfl, hR9, hG9⟩
        exact hK' _ _ ⟨b0, b1, b2, true, true, true, false, false, false, false, x9, yy, rfl, rfl, Lib.hid ⟨(fun _ => hR9.more (by simp only [Bool.toNat_false, Bool.toNat_true]; omega)), (fun _ => grown_trans' (HF.out.2.1 rfl) hG9), (fun _ h => absurd h (by decide)), (fun h => absurd h (by decide)), (fun _ => rfl), (fun h => absurd h (by decide)), (fun h => absurd h (by decide)), (fun h => absurd h (by decide)), (fun h => absurd h (by decide))⟩⟩
      · obtain rfl := Option.some.inj ho
        have hc6 : b6 = false := hl
        have hc5 : b5 = true := by first | (refine hd ⟨5, .data⟩ ?_ rfl; simp; done) | (refine hd ⟨5, .chain⟩ ?_ rfl; simp; done) | (refine hd ⟨5, .phase⟩ ?_ rfl; simp; done)
        have hc4 : b4 = true := by first | (refine hd ⟨4, .data⟩ ?_ rfl; simp; done) | (refine hd ⟨4, .chain⟩ ?_ rfl; simp; done) | (refine hd ⟨4, .phase⟩ ?_ rfl; simp; done) | exact HF.out.2.2.2.2.1 hc5 | (have hy9 := HF.out.2.2.2.2.1 hc5; simp at hy9; simp [hy9]; done)
        have hc3 : b3 = true := by first | (refine hd ⟨3, .data⟩ ?_ rfl; simp; done) | (refine hd ⟨3, .chain⟩ ?_ rfl; simp; done) | (refine hd ⟨3, .phase⟩ ?_ rfl; simp; done) | exact HF.out.2.2.2.2.1 hc5 | (have hy9 := HF.out.2.2.2.2.1 hc5; simp at hy9; simp [hy9]; done)
        have hc0 : b0 = true := by first | (refine hd ⟨0, .data⟩ ?_ rfl; simp; done) | (refine hd ⟨0, .chain⟩ ?_ rfl; simp; done) | (refine hd ⟨0, .phase⟩ ?_ rfl; simp; done)
        subst hc6 hc5 hc4 hc3 hc0
        have hc7 : b7 = false := by cases hx9 : b7 with | false => rfl | true => (have hy9 := HF.out.2.2.2.2.2.2.1 hx9; simp at hy9)
        subst hc7
        have hc8 : b8 = false := by cases hx9 : b8 with | false => rfl | true => (have hy9 := HF.out.2.2.2.2.2.2.2.1 hx9; simp at hy9)
        subst hc8
        have hc9 : b9 = false := by cases hx9 : b9 with | false => rfl | true => (have hy9 := HF.out.2.2.2.2.2.2.2.2 hx9; simp at hy9)
        subst hc9
        clear hl hd ho hL
        simp only [sel_t, sel_f]
        have hB9 := K3.out.2.1.grownG (HF.out.2.1 rfl) (by omega)
        have r0 : w'.cell? ⟨w.heap.size, 0, none⟩ = some (.int .i64 0) := by simpa using hB9.cell 0
        have r1 : w'.cell? ⟨w.heap.size, 1, none⟩ = some (.slice none 0 0) := by simpa using hB9.cell 1
        have r2 := hB9.frozen 0
        have r3 := hB9.frozen 1
        refine wpOp_step rfl ?_
        intro K' hK'
        go_simp
        exact hK' _ _ ⟨true, b1, b2, true, true, true, true, false, false, false, x5, yy, rfl, rfl, Lib.hid ⟨(fun h => absurd h (by decide)), (fun h => absurd h (by decide)), (fun _ h => absurd h (by decide)), (fun _ => ⟨fun t9 => drawnC4_of K2.out.1 (HF.out.1 rfl) (InR.grownH K3.out.2.2.1 (HF.out.2.1 rfl) (by omega)) K2.out.2.2.2.1 hl hs0 (by have := ((HF.out.2.1 rfl)).size; omega), by go_simp, by go_simp⟩), (fun h => by have := HF.out.2.2.2.2.1 h; simpa using this), (fun _ => rfl), (fun h => absurd h (by decide)), (fun h => absurd h (by decide)), (fun h => absurd h (by decide))⟩⟩
      · obtain rfl := Option.some.inj ho
        have hc7 : b7 = false := hl
        have hc6 : b6 = true := by first | (refine hd ⟨6, .data⟩ ?_ rfl; simp; done) | (refine hd ⟨6, .chain⟩ ?_ rfl; simp; done) | (refine hd ⟨6, .phase⟩ ?_ rfl; simp; done)
        have hc5 : b5 = true := by first | (refine hd ⟨5, .data⟩ ?_ rfl; simp; done) | (refine hd ⟨5, .chain⟩ ?_ rfl; simp; done) | (refine hd ⟨5, .phase⟩ ?_ rfl; simp; done) | exact HF.out.2.2.2.2.2.1 hc6 | (have hy9 := HF.out.2.2.2.2.2.1 hc6; simp at hy9; simp [hy9]; done)
        have hc4 : b4 = true := by first | (refine hd ⟨4, .data⟩ ?_ rfl; simp; done) | (refine hd ⟨4, .chain⟩ ?_ rfl; simp; done) | (refine hd ⟨4, .phase⟩ ?_ rfl; simp; done) | exact HF.out.2.2.2.2.1 hc5 | (have hy9 := HF.out.2.2.2.2.1 hc5; simp at hy9; simp [hy9]; done) | exact HF.out.2.2.2.2.2.1 hc6 | (have hy9 := HF.out.2.2.2.2.2.1 hc6; simp at hy9; simp [hy9]; done)
        have hc3 : b3 = true := by first | (refine hd ⟨3, .data⟩ ?_ rfl; simp; done) | (refine hd ⟨3, .chain⟩ ?_ rfl; simp; done) | (refine hd ⟨3, .phase⟩ ?_ rfl; simp; done) | exact HF.out.2.2.2.2.1 hc5 | (have hy9 := HF.out.2.2.2.2.1 hc5; simp at hy9; simp [hy9]; done) | exact HF.out.2.2.2.2.2.1 hc6 | (have hy9 := HF.out.2.2.2.2.2.1 hc6; simp at hy9; simp [hy9]; done)
        have hc1 : b1 = true := by first | (refine hd ⟨1, .data⟩ ?_ rfl; simp; done) | (refine hd ⟨1, .chain⟩ ?_ rfl; simp; done) | (refine hd ⟨1, .phase⟩ ?_ rfl; simp; done)
        have hc0 : b0 = true := by first | (refine hd ⟨0, .data⟩ ?_ rfl; simp; done) | (refine hd ⟨0, .chain⟩ ?_ rfl; simp; done) | (refine hd ⟨0, .phase⟩ ?_ rfl; simp; done) | exact HF.out.2.2.2.2.2.1 hc6 | (have hy9 := HF.out.2.2.2.2.2.1 hc6; simp at hy9; simp [hy9]; done)
        subst hc7 hc6 hc5 hc4 hc3 hc1 hc0
        have hc8 : b8 = false := by cases hx9 : b8 with | false => rfl | true => (have hy9 := HF.out.2.2.2.2.2.2.2.1 hx9; simp at hy9)
        subst hc8
        have hc9 : b9 = false := by cases hx9 : b9 with | false => rfl | true => (have hy9 := HF.out.2.2.2.2.2.2.2.2 hx9; simp at hy9)
        subst hc9
        clear hl hd ho hL
        simp only [sel_t, sel_f]
        refine wpOp_step rfl ?_
        intro K' hK'
        go_simp
        exact hK' _ _ ⟨true, true, b2, true, true, true, true, true, false, false, x5, yy, rfl, rfl, Lib.hid ⟨HF.out.1, HF.out.2.1, HF.out.2.2.1, HF.out.2.2.2.1, (fun h => by have := HF.out.2.2.2.2.1 h; simpa using this), (fun h => by have := HF.out.2.2.2.2.2.1 h; simpa using this), (fun _ => rfl), (fun h => absurd h (by decide)), (fun h => absurd h (by decide))⟩⟩
      · obtain rfl := Option.some.inj ho
        have hc8 : b8 = false := hl
        have hc7 : b7 = true := by first | (refine hd ⟨7, .data⟩ ?_ rfl; simp; done) | (refine hd ⟨7, .chain⟩ ?_ rfl; simp; done) | (refine hd ⟨7, .phase⟩ ?_ rfl; simp; done)
        have hc6 : b6 = true := by first | (refine hd ⟨6, .data⟩ ?_ rfl; simp; done) | (refine hd ⟨6, .chain⟩ ?_ rfl; simp; done) | (refine hd ⟨6, .phase⟩ ?_ rfl; simp; done) | exact HF.out.2.2.2.2.2.2.1 hc7 | (have hy9 := HF.out.2.2.2.2.2.2.1 hc7; simp at hy9; simp [hy9]; done)
        have hc5 : b5 = true := by first | (refine hd ⟨5, .data⟩ ?_ rfl; simp; done) | (refine hd ⟨5, .chain⟩ ?_ rfl; simp; done) | (refine hd ⟨5, .phase⟩ ?_ rfl; simp; done) | exact HF.out.2.2.2.2.2.1 hc6 | (have hy9 := HF.out.2.2.2.2.2.1 hc6; simp at hy9; simp [hy9]; done) | exact HF.out.2.2.2.2.2.2.1 hc7 | (have hy9 := HF.out.2.2.2.2.2.2.1 hc7; simp at hy9; simp [hy9]; done)
        have hc4 : b4 = true := by first | (refine hd ⟨4, .data⟩ ?_ rfl; simp; done) | (refine hd ⟨4, .chain⟩ ?_ rfl; simp; done) | (refine hd ⟨4, .phase⟩ ?_ rfl; simp; done) | exact HF.out.2.2.2.2.1 hc5 | (have hy9 := HF.out.2.2.2.2.1 hc5; simp at hy9; simp [hy9]; done) | exact HF.out.2.2.2.2.2.1 hc6 | (have hy9 := HF.out.2.2.2.2.2.1 hc6; simp at hy9; simp [hy9]; done) | exact HF.out.2.2.2.2.2.2.1 hc7 | (have hy9 := HF.out.2.2.2.2.2.2.1 hc7; simp at hy9; simp [hy9]; done)
        have hc3 : b3 = true := by first | (refine hd ⟨3, .data⟩ ?_ rfl; simp; done) | (refine hd ⟨3, .chain⟩ ?_ rfl; simp; done) | (refine hd ⟨3, .phase⟩ ?_ rfl; simp; done) | exact HF.out.2.2.2.2.1 hc5 | (have hy9 := HF.out.2.2.2.2.1 hc5; simp at hy9; simp [hy9]; done) | exact HF.out.2.2.2.2.2.1 hc6 | (have hy9 := HF.out.2.2.2.2.2.1 hc6; simp at hy9; simp [hy9]; done) | exact HF.out.2.2.2.2.2.2.1 hc7 | (have hy9 := HF.out.2.2.2.2.2.2.1 hc7; simp at hy9; simp [hy9]; done)
        have hc2 : b2 = true := by first | (refine hd ⟨2, .data⟩ ?_ rfl; simp; done) | (refine hd ⟨2, .chain⟩ ?_ rfl; simp; done) | (refine hd ⟨2, .phase⟩ ?_ rfl; simp; done)
        have hc1 : b1 = true := by first | (refine hd ⟨1, .data⟩ ?_ rfl; simp; done) | (refine hd ⟨1, .chain⟩ ?_ rfl; simp; done) | (refine hd ⟨1, .phase⟩ ?_ rfl; simp; done) | exact HF.out.2.2.2.2.2.2.1 hc7 | (have hy9 := HF.out.2.2.2.2.2.2.1 hc7; simp at hy9; simp [hy9]; done)
        have hc0 : b0 = true := by first | (refine hd ⟨0, .data⟩ ?_ rfl; simp; done) | (refine hd ⟨0, .chain⟩ ?_ rfl; simp; done) | (refine hd ⟨0, .phase⟩ ?_ rfl; simp; done) | exact HF.out.2.2.2.2.2.1 hc6 | (have hy9 := HF.out.2.2.2.2.2.1 hc6; simp at hy9; simp [hy9]; done) | exact HF.out.2.2.2.2.2.2.1 hc7 | (have hy9 := HF.out.2.2.2.2.2.2.1 hc7; simp at hy9; simp [hy9]; done)
        subst hc8 hc7 hc6 hc5 hc4 hc3 hc2 hc1 hc0
        have hc9 : b9 = false := by cases hx9 : b9 with | false => rfl | true => (have hy9 := HF.out.2.2.2.2.2.2.2.2 hx9; simp at hy9)
        subst hc9
        clear hl hd ho hL
        simp only [sel_t, sel_f]
        refine wpOp_step rfl ?_
        intro K' hK'
        go_simp
        exact hK' _ _ ⟨true, true, true, true, true, true, true, true, true, false, x5, yy, rfl, rfl, Lib.hid ⟨HF.out.1, HF.out.2.1, HF.out.2.2.1, HF.out.2.2.2.1, (fun h => by have := HF.out.2.2.2.2.1 h; simpa using this), (fun h => by have := HF.out.2.2.2.2.2.1 h; simpa using this), (fun h => by have := HF.out.2.2.2.2.2.2.1 h; simpa using this), (fun _ => rfl), (fun h => absurd h (by decide))⟩⟩
      · obtain rfl := Option.some.inj ho
        have hc9 : b9 = false := hl
        have hc8 : b8 = true := by first | (refine hd ⟨8, .data⟩ ?_ rfl; simp; done) | (refine hd ⟨8, .chain⟩ ?_ rfl; simp; done) | (refine hd ⟨8, .phase⟩ ?_ rfl; simp; done)
        have hc7 : b7 = true := by first | (refine hd ⟨7, .data⟩ ?_ rfl; simp; done) | (refine hd ⟨7, .chain⟩ ?_ rfl; simp; done) | (refine hd ⟨7, .phase⟩ ?_ rfl; simp; done) | exact HF.out.2.2.2.2.2.2.2.1 hc8 | (have hy9 := HF.out.2.2.2.2.2.2.2.1 hc8; simp at hy9; simp [hy9]; done)
        have hc6 : b6 = true := by first | (refine hd ⟨6, .data⟩ ?_ rfl; simp; done) | (refine hd ⟨6, .chain⟩ ?_ rfl; simp; done) | (refine hd ⟨6, .phase⟩ ?_ rfl; simp; done) | exact HF.out.2.2.2.2.2.2.1 hc7 | (have hy9 := HF.out.2.2.2.2.2.2.1 hc7; simp at hy9; simp [hy9]; done) | exact HF.out.2.2.2.2.2.2.2.1 hc8 | (have hy9 := HF.out.2.2.2.2.2.2.2.1 hc8; simp at hy9; simp [hy9]; done)
        have hc5 : b5 = true := by first | (refine hd ⟨5, .data⟩ ?_ rfl; simp; done) | (refine hd ⟨5, .chain⟩ ?_ rfl; simp; done) | (refine hd ⟨5, .phase⟩ ?_ rfl; simp; done) | exact HF.out.2.2.2.2.2.1 hc6 | (have hy9 := HF.out.2.2.2.2.2.1 hc6; simp at hy9; simp [hy9]; done) | exact HF.out.2.2.2.2.2.2.1 hc7 | (have hy9 := HF.out.2.2.2.2.2.2.1 hc7; simp at hy9; simp [hy9]; done) | exact HF.out.2.2.2.2.2.2.2.1 hc8 | (have hy9 := HF.out.2.2.2.2.2.2.2.1 hc8; simp at hy9; simp [hy9]; done)
        have hc4 : b4 = true := by first | (refine hd ⟨4, .data⟩ ?_ rfl; simp; done) | (refine hd ⟨4, .chain⟩ ?_ rfl; simp; done) | (refine hd ⟨4, .phase⟩ ?_ rfl; simp; done) | exact HF.out.2.2.2.2.1 hc5 | (have hy9 := HF.out.2.2.2.2.1 hc5; simp at hy9; simp [hy9]; done) | exact HF.out.2.2.2.2.2.1 hc6 | (have hy9 := HF.out.2.2.2.2.2.1 hc6; simp at hy9; simp [hy9]; done) | exact HF.out.2.2.2.2.2.2.1 hc7 | (have hy9 := HF.out.2.2.2.2.2.2.1 hc7; simp at hy9; simp [hy9]; done) | exact HF.out.2.2.2.2.2.2.2.1 hc8 | (have hy9 := HF.out.2.2.2.2.2.2.2.1 hc8; simp at hy9; simp [hy9]; done)
        have hc3 : b3 = true := by first | (refine hd ⟨3, .data⟩ ?_ rfl; simp; done) | (refine hd ⟨3, .chain⟩ ?_ rfl; simp; done) | (refine hd ⟨3, .phase⟩ ?_ rfl; simp; done) | exact HF.out.2.2.2.2.1 hc5 | (have hy9 := HF.out.2.2.2.2.1 hc5; simp at hy9; simp [hy9]; done) | exact HF.out.2.2.2.2.2.1 hc6 | (have hy9 := HF.out.2.2.2.2.2.1 hc6; simp at hy9; simp [hy9]; done) | exact HF.out.2.2.2.2.2.2.1 hc7 | (have hy9 := HF.out.2.2.2.2.2.2.1 hc7; simp at hy9; simp [hy9]; done) | exact HF.out.2.2.2.2.2.2.2.1 hc8 | (have hy9 := HF.out.2.2.2.2.2.2.2.1 hc8; simp at hy9; simp [hy9]; done)
        have hc2 : b2 = true := by first | (refine hd ⟨2, .data⟩ ?_ rfl; simp; done) | (refine hd ⟨2, .chain⟩ ?_ rfl; simp; done) | (refine hd ⟨2, .phase⟩ ?_ rfl; simp; done) | exact HF.out.2.2.2.2.2.2.2.1 hc8 | (have hy9 := HF.out.2.2.2.2.2.2.2.1 hc8; simp at hy9; simp [hy9]; done)
        have hc1 : b1 = true := by first | (refine hd ⟨1, .data⟩ ?_ rfl; simp; done) | (refine hd ⟨1, .chain⟩ ?_ rfl; simp; done) | (refine hd ⟨1, .phase⟩ ?_ rfl; simp; done) | exact HF.out.2.2.2.2.2.2.1 hc7 | (have hy9 := HF.out.2.2.2.2.2.2.1 hc7; simp at hy9; simp [hy9]; done) | exact HF.out.2.2.2.2.2.2.2.1 hc8 | (have hy9 := HF.out.2.2.2.2.2.2.2.1 hc8; simp at hy9; simp [hy9]; done)
        have hc0 : b0 = true := by first | (refine hd ⟨0, .data⟩ ?_ rfl; simp; done) | (refine hd ⟨0, .chain⟩ ?_ rfl; simp; done) | (refine hd ⟨0, .phase⟩ ?_ rfl; simp; done) | exact HF.out.2.2.2.2.2.1 hc6 | (have hy9 := HF.out.2.2.2.2.2.1 hc6; simp at hy9; simp [hy9]; done) | exact HF.out.2.2.2.2.2.2.1 hc7 | (have hy9 := HF.out.2.2.2.2.2.2.1 hc7; simp at hy9; simp [hy9]; done) | exact HF.out.2.2.2.2.2.2.2.1 hc8 | (have hy9 := HF.out.2.2.2.2.2.2.2.1 hc8; simp at hy9; simp [hy9]; done)
        subst hc9 hc8 hc7 hc6 hc5 hc4 hc3 hc2 hc1 hc0
        clear hl hd ho hL
        simp only [sel_t, sel_f]
        refine wpOp_step rfl ?_
        intro K' hK'
        go_simp
        exact hK' _ _ ⟨true, true, true, true, true, true, true, true, true, true, x5, yy, rfl, rfl, Lib.hid ⟨HF.out.1, HF.out.2.1, HF.out.2.2.1, HF.out.2.2.2.1, (fun h => by have := HF.out.2.2.2.2.1 h; simpa using this), (fun h => by have := HF.out.2.2.2.2.2.1 h; simpa using this), (fun h => by have := HF.out.2.2.2.2.2.2.1 h; simpa using this), (fun h => by have := HF.out.2.2.2.2.2.2.2.1 h; simpa using this), (fun _ => rfl)⟩⟩
    · rintro L A9 w' hL ⟨b0, b1, b2, b3, b4, b5, b6, b7, b8, b9, x5, yy, rfl, rfl, HF⟩ hall
      have hc0 : b0 = true := hall 0 (by decide)
      have hc1 : b1 = true := hall 1 (by decide)
      have hc2 : b2 = true := hall 2 (by decide)
      have hc3 : b3 = true := hall 3 (by decide)
      have hc4 : b4 = true := hall 4 (by decide)
      have hc5 : b5 = true := hall 5 (by decide)
      have hc6 : b6 = true := hall 6 (by decide)
      have hc7 : b7 = true := hall 7 (by decide)
      have hc8 : b8 = true := hall 8 (by decide)
      have hc9 : b9 = true := hall 9 (by decide)
      subst hc0 hc1 hc2 hc3 hc4 hc5 hc6 hc7 hc8 hc9
      simp only [sel_t]
      have HD := Lib.hid ((HF.out.2.2.2.1 rfl).1 x5)
      have c0 := (HF.out.2.2.2.1 rfl).2.1
      have c1 := (HF.out.2.2.2.1 rfl).2.2
      clear HF
      try simp only [Exit.inBlock, Exit.then]
      go_wp2
      try simp only [Exit.inBlock, Exit.then]
      refine bodyPost_ret (v := .tuple #[.agg #[.int .i64 n1, .slice va es.length vc], .int .i64 m, .int .i64 s, .int .i64 x5]) ?_ rfl HD.out
      rw [results_cttt rfl]
      go_simp
  · go_wp2_with fail
    refine (pick 20 w2 w3 g _ K3.out.1 (by omega) (by omega)).mono ?_
    rintro e w4 ⟨c, rfl, hx0, hx1, hR, hG⟩
    have hsw4 := hG.size
    have K4 := Lib.hid (And.intro hR (And.intro (K3.out.2.1.grownG hG (by omega)) (And.intro (InR.grownH K3.out.2.2.1 hG (by omega)) (K3.out.2.2.2.grownG hG (by omega)))))
    clear hR hG
    clear hx0 hx1 x0
    by_cases hc : c = 0
    · subst hc
      go_upto_region 4 with fail
      refine wp_region_inv (fun L A9 w' => ∃ (b0 b1 b2 b3 b4 b5 b6 b7 b8 b9 : Bool) (x5 : Int) (yy : Nat), L = #[b0, b1, b2, b3, b4, b5, b6, b7, b8, b9] ∧ A9 = { tmps := #[Value.slice a n cap, undef, Value.pointer (some { block := w.heap.size, off := 0 }), sel b7 (Value.int .i64 m) (Value.int IntKind.i64 0), sel b8 (Value.int .i64 s) (Value.int IntKind.i64 0), sel b9 (Value.int .i64 x5) (Value.int IntKind.i64 0), Value.pointer (some { block := w1.heap.size, off := 0 }), Value.int IntKind.i64 m, Value.int IntKind.i64 s, Value.pointer (some { block := g, off := 0 }), Value.tuple #[Value.agg #[Value.int IntKind.i64 n1, Value.slice va es.length vc], Value.int IntKind.i64 m, Value.int IntKind.i64 s], Value.slice a n cap, Value.tuple #[Value.agg #[Value.int IntKind.i64 n1, Value.slice va es.length vc], Value.int IntKind.i64 m, Value.int IntKind.i64 s], Value.agg #[Value.int IntKind.i64 n1, Value.slice va es.length vc], Value.int IntKind.i64 m, Value.int IntKind.i64 s, Value.slice a n cap, Value.pointer (some { block := g, off := 0 }), Value.pointer (some { block := w1.heap.size, off := 0 }), Value.int IntKind.i64 n1, Value.bool (decide (n1 < 1)), Value.bool (decide (n1 < 1)), Value.pointer (some { block := g, off := 0 }), Value.int IntKind.i64 0, Value.bool true, Value.bool true, sel b0 (Value.agg #[.int .i64 n1, .slice va es.length vc]) undef, sel b1 (Value.int .i64 m) undef, sel b2 (Value.int .i64 s) undef, sel b3 (Value.pointer (some ⟨g, 0, none⟩)) undef, sel b4 (Value.slice (some ⟨yy, 0, none⟩) 2 2) undef, sel b5 (Value.int .i64 x5) undef, undef, undef, undef, undef, undef, undef, undef], defers := [] } ∧ Hid ((b6 = false → Rd w2 w' g (0 + 1 + b5.toNat)) ∧ (b6 = false → w4.grownBy w' (some g)) ∧ (b4 = true → b5 = false → RowN w' g (.slice (some ⟨yy, 0, none⟩) 2 2) [-1, 12]) ∧ (b6 = true → (∀ t9 : Int, DrawnC4 w (.returned (.tuple #[.agg #[.int .i64 n1, .slice va es.length vc], .int .i64 m, .int .i64 s, .int .i64 t9])) w') ∧ w'.cell? ⟨w.heap.size, 0, none⟩ = some (.int .i64 n1) ∧ w'.cell? ⟨w.heap.size, 1, none⟩ = some (.slice va es.length vc)) ∧ (b5 = true → (b3 && b4) = true) ∧ (b6 = true → (b0 && b3 && b4 && b5) = true) ∧ (b7 = true → (b0 && b1 && b3 && b4 && b5 && b6) = true) ∧ (b8 = true → (b0 && b1 && b2 && b3 && b4 && b5 && b6 && b7) = true) ∧ (b9 = true → (b0 && b1 && b2 && b3 && b4 && b5 && b6 && b7 && b8) = true))) (by kernel_rfl) (by kernel_rfl) ?_ ?_ ?_
      · exact ⟨false, false, false, false, false, false, false, false, false, false, 0, 0, rfl, rfl, Lib.hid ⟨(fun _ => Rd.drew' K4.out.1), (fun _ => g_drew (grown_refl _ _)), (fun h => absurd h (by decide)), (fun h => absurd h (by decide)), (fun h => absurd h (by decide)), (fun h => absurd h (by decide)), (fun h => absurd h (by decide)), (fun h => absurd h (by decide)), (fun h => absurd h (by decide))⟩⟩
      · rintro L A9 w' hL ⟨b0, b1, b2, b3, b4, b5, b6, b7, b8, b9, x5, yy, rfl, rfl, HF⟩ k9 o9 ho hl hd
        have hk9 : k9 = 0 ∨ k9 = 1 ∨ k9 = 2 ∨ k9 = 3 ∨ k9 = 4 ∨ k9 = 5 ∨ k9 = 6 ∨ k9 = 7 ∨ k9 = 8 ∨ k9 = 9 := by have := (Array.getElem?_eq_some_iff.1 ho).1; simp at this; omega
        rcases hk9 with rfl | rfl | rfl | rfl | rfl | rfl | rfl | rfl | rfl | rfl
        · obtain rfl := Option.some.inj ho
          have hc0 : b0 = false := hl
          subst hc0
          have hc6 : b6 = false := by cases hx9 : b6 with | false => rfl | true => (have hy9 := HF.out.2.2.2.2.2.1 hx9; simp at hy9)
          subst hc6
          have hc7 : b7 = false := by cases hx9 : b7 with | false => rfl | true => (have hy9 := HF.out.2.2.2.2.2.2.1 hx9; simp at hy9)
          subst hc7
          have hc8 : b8 = false := by cases hx9 : b8 with | false => rfl | true => (have hy9 := HF.out.2.2.2.2.2.2.2.1 hx9; simp at hy9)
          subst hc8
          have hc9 : b9 = false := by cases hx9 : b9 with | false => rfl | true => (have hy9 := HF.out.2.2.2.2.2.2.2.2 hx9; simp at hy9)
          subst hc9
          clear hl hd ho hL
          simp only [sel_t, sel_f]
          have hB9 := K4.out.2.2.2.grownG (HF.out.2.1 rfl) (by omega)
          have y0 : w'.cell? ⟨w1.heap.size, 0, none⟩ = some (.int .i64 n1) := by simpa using hB9.cell 0
          have y1 : w'.cell? ⟨w1.heap.size, 1, none⟩ = some (.slice va es.length vc) := by simpa using hB9.cell 1
          refine wpOp_step rfl ?_
          intro K' hK'
          go_simp
          exact hK' _ _ ⟨true, b1, b2, b3, b4, b5, false, false, false, false, x5, yy, rfl, rfl, Lib.hid ⟨HF.out.1, HF.out.2.1, HF.out.2.2.1, HF.out.2.2.2.1, HF.out.2.2.2.2.1, (fun h => absurd h (by decide)), (fun h => absurd h (by decide)), (fun h => absurd h (by decide)), (fun h => absurd h (by decide))⟩⟩
        · obtain rfl := Option.some.inj ho
          have hc1 : b1 = false := hl
          subst hc1
          have hc7 : b7 = false := by cases hx9 : b7 with | false => rfl | true => (have hy9 := HF.out.2.2.2.2.2.2.1 hx9; simp at hy9)
          subst hc7
          have hc8 : b8 = false := by cases hx9 : b8 with | false => rfl | true => (have hy9 := HF.out.2.2.2.2.2.2.2.1 hx9; simp at hy9)
          subst hc8
          have hc9 : b9 = false := by cases hx9 : b9 with | false => rfl | true => (have hy9 := HF.out.2.2.2.2.2.2.2.2 hx9; simp at hy9)
          subst hc9
          clear hl hd ho hL
          simp only [sel_t, sel_f]
          refine wpOp_step rfl ?_
          intro K' hK'
          go_simp
          exact hK' _ _ ⟨b0, true, b2, b3, b4, b5, b6, false, false, false, x5, yy, rfl, rfl, Lib.hid ⟨HF.out.1, HF.out.2.1, HF.out.2.2.1, HF.out.2.2.2.1, HF.out.2.2.2.2.1, HF.out.2.2.2.2.2.1, (fun h => absurd h (by decide)), (fun h => absurd h (by decide)), (fun h => absurd h (by decide))⟩⟩
        · obtain rfl := Option.some.inj ho
          have hc2 : b2 = false := hl
          subst hc2
          have hc8 : b8 = false := by cases hx9 : b8 with | false => rfl | true => (have hy9 := HF.out.2.2.2.2.2.2.2.1 hx9; simp at hy9)
          subst hc8
          have hc9 : b9 = false := by cases hx9 : b9 with | false => rfl | true => (have hy9 := HF.out.2.2.2.2.2.2.2.2 hx9; simp at hy9)
          subst hc9
          clear hl hd ho hL
          simp only [sel_t, sel_f]
          refine wpOp_step rfl ?_
          intro K' hK'
          go_simp
          exact hK' _ _ ⟨b0, b1, true, b3, b4, b5, b6, b7, false, false, x5, yy, rfl, rfl, Lib.hid ⟨HF.out.1, HF.out.2.1, HF.out.2.2.1, HF.out.2.2.2.1, HF.out.2.2.2.2.1, HF.out.2.2.2.2.2.1, HF.out.2.2.2.2.2.2.1, (fun h => absurd h (by decide)), (fun h => absurd h (by decide))⟩⟩
        · obtain rfl := Option.some.inj ho
          have hc3 : b3 = false := hl
          subst hc3
          have hc5 : b5 = false := by cases hx9 : b5 with | false => rfl | true => (have hy9 := HF.out.2.2.2.2.1 hx9; simp at hy9)
          subst hc5
          have hc6 : b6 = false := by cases hx9 : b6 with | false => rfl | true => (have hy9 := HF.out.2.2.2.2.2.1 hx9; simp at hy9)
          subst hc6
          have hc7 : b7 = false := by cases hx9 : b7 with | false => rfl | true => (have hy9 := HF.out.2.2.2.2.2.2.1 hx9; simp at hy9)
          subst hc7
          have hc8 : b8 = false := by cases hx9 : b8 with | false => rfl | true => (have hy9 := HF.out.2.2.2.2.2.2.2.1 hx9; simp at hy9)
          subst hc8
          have hc9 : b9 = false := by cases hx9 : b9 with | false => rfl | true => (have hy9 := HF.out.2.2.2.2.2.2.2.2 hx9; simp at hy9)
          subst hc9
          clear hl hd ho hL
          simp only [sel_t, sel_f]
          refine wpOp_step rfl ?_
          intro K' hK'
          go_simp
          exact hK' _ _ ⟨b0, b1, b2, true, b4, false, false, false, false, false, x5, yy, rfl, rfl, Lib.hid ⟨HF.out.1, HF.out.2.1, HF.out.2.2.1, HF.out.2.2.2.1, (fun h => absurd h (by decide)), (fun h => absurd h (by decide)), (fun h => absurd h (by decide)), (fun h => absurd h (by decide)), (fun h => absurd h (by decide))⟩⟩
        · obtain rfl := Option.some.inj ho
          have hc4 : b4 = false := hl
          subst hc4
          have hc5 : b5 = false := by cases hx9 : b5 with | false => rfl | true => (have hy9 := HF.out.2.2.2.2.1 hx9; simp at hy9)
          subst hc5
          have hc6 : b6 = false := by cases hx9 : b6 with | false => rfl | true => (have hy9 := HF.out.2.2.2.2.2.1 hx9; simp at hy9)
          subst hc6
          have hc7 : b7 = false := by cases hx9 : b7 with | false => rfl | true => (have hy9 := HF.out.2.2.2.2.2.2.1 hx9; simp at hy9)
          subst hc7
          have hc8 : b8 = false := by cases hx9 : b8 with | false => rfl | true => (have hy9 := HF.out.2.2.2.2.2.2.2.1 hx9; simp at hy9)
          subst hc8
          have hc9 : b9 = false := by cases hx9 : b9 with | false => rfl | true => (have hy9 := HF.out.2.2.2.2.2.2.2.2 hx9; simp at hy9)
          subst hc9
          clear hl hd ho hL
          simp only [sel_t, sel_f]
          refine wpOp_step rfl ?_
          intro K' hK'
          go_simp
          exact hK' _ _ ⟨b0, b1, b2, b3, true, false, false, false, false, false, x5, w'.heap.size, rfl, rfl, Lib.hid ⟨(fun _ => (HF.out.1 rfl).alloc' _), (fun _ => g_alloc (HF.out.2.1 rfl) _), (fun _ _ => rowN_at [-1, 12] w' g _ _ rfl (HF.out.1 rfl).lt), (fun h => absurd h (by decide)), (fun h => absurd h (by decide)), (fun h => absurd h (by decide)), (fun h => absurd h (by decide)), (fun h => absurd h (by decide)), (fun h => absurd h (by decide))⟩⟩
        · obtain rfl := Option.some.inj ho
          have hc5 : b5 = false := hl
          have hc4 : b4 = true := by first | (refine hd ⟨4, .data⟩ ?_ rfl; simp; done) | (refine hd ⟨4, .chain⟩ ?_ rfl; simp; done) | (refine hd ⟨4, .phase⟩ ?_ rfl; simp; done)
          have hc3 : b3 = true := by first | (refine hd ⟨3, .data⟩ ?_ rfl; simp; done) | (refine hd ⟨3, .chain⟩ ?_ rfl; simp; done) | (refine hd ⟨3, .phase⟩ ?_ rfl; simp; done)
          subst hc5 hc4 hc3
          have hc6 : b6 = false := by cases hx9 : b6 with | false => rfl | true => (have hy9 := HF.out.2.2.2.2.2.1 hx9; simp at hy9)
          subst hc6
          have hc7 : b7 = false := by cases hx9 : b7 with | false => rfl | true => (have hy9 := HF.out.2.2.2.2.2.2.1 hx9; simp at hy9)
          subst hc7
          have hc8 : b8 = false := by cases hx9 : b8 with | false => rfl | true => (have hy9 := HF.out.2.2.2.2.2.2.2.1 hx9; simp at hy9)
          subst hc8
          have hc9 : b9 = false := by cases hx9 : b9 with | false => rfl | true => (have hy9 := HF.out.2.2.2.2.2.2.2.2 hx9; simp at hy9)
          subst hc9
          clear hl hd ho hL
          simp only [sel_t, sel_f]
          have hcall := num [-1, 12] (.slice (some ⟨yy, 0, none⟩) 2 2) w2 w' g _ (HF.out.1 rfl) (by simp only [Bool.toNat_false, Bool.toNat_true]; omega) (HF.out.2.2.1 rfl rfl) (by decide) (by decide)
          have HC9 := Lib.hid hcall
          clear hcall
          refine wpOp_step rfl ?_
          intro K' hK'
          go_simp
          refine HC9.out.mono ?_
          rintro e9 w9 ⟨x9, hx9, rfl, hR9, hG9⟩
          exact hK' _ _ ⟨b0, b1, b2, true, true, true, false, false, false, false, x9, yy, rfl, rfl, Lib.hid ⟨(fun _ => hR9.more (by simp only [Bool.toNat_false, Bool.toNat_true]; omega)), (fun _ => grown_trans' (HF.out.2.1 rfl) hG9), (fun _ h => absurd h (by decide)), (fun h => absurd h (by decide)), (fun _ => rfl), (fun h => absurd h (by decide)), (fun h => absurd h (by decide)), (fun h => absurd h (by decide)), (fun h => absurd h (by decide))⟩⟩
        · obtain rfl := Option.some.inj ho
          have hc6 : b6 = false := hl
          have hc5 : b5 = true := by first | (refine hd ⟨5, .data⟩ ?_ rfl; simp; done) | (refine hd ⟨5, .chain⟩ ?_ rfl; simp; done) | (refine hd ⟨5, .phase⟩ ?_ rfl; simp; done)
          have hc4 : b4 = true := by first | (refine hd ⟨4, .data⟩ ?_ rfl; simp; done) | (refine hd ⟨4, .chain⟩ ?_ rfl; simp; done) | (refine hd ⟨4, .phase⟩ ?_ rfl; simp; done) | exact HF.out.2.2.2.2.1 hc5 | (have hy9 := HF.out.2.2.2.2.1 hc5; simp at hy9; simp [hy9]; done)
          have hc3 : b3 = true := by first | (refine hd ⟨3, .data⟩ ?_ rfl; simp; done) | (refine hd ⟨3, .chain⟩ ?_ rfl; simp; done) | (refine hd ⟨3, .phase⟩ ?_ rfl; simp; done) | exact HF.out.2.2.2.2.1 hc5 | (have hy9 := HF.out.2.2.2.2.1 hc5; simp at hy9; simp [hy9]; done)
          have hc0 : b0 = true := by first | (refine hd ⟨0, .data⟩ ?_ rfl; simp; done) | (refine hd ⟨0, .chain⟩ ?_ rfl; simp; done) | (refine hd ⟨0, .phase⟩ ?_ rfl; simp; done)
          subst hc6 hc5 hc4 hc3 hc0
          have hc7 : b7 = false := by cases hx9 : b7 with | false => rfl | true => (have hy9 := HF.out.2.2.2.2.2.2.1 hx9; simp at hy9)
          subst hc7
          have hc8 : b8 = false := by cases hx9 : b8 with | false => rfl | true => (have hy9 := HF.out.2.2.2.2.2.2.2.1 hx9; simp at hy9)
          subst hc8
          have hc9 : b9 = false := by cases hx9 : b9 with | false => rfl | true => (have hy9 := HF.out.2.2.2.2.2.2.2.2 hx9; simp at hy9)
          subst hc9
          clear hl hd ho hL
          simp only [sel_t, sel_f]
          have hB9 := K4.out.2.1.grownG (HF.out.2.1 rfl) (by omega)
          have r0 : w'.cell? ⟨w.heap.size, 0, none⟩ = some (.int .i64 0) := by simpa using hB9.cell 0
          have r1 : w'.cell? ⟨w.heap.size, 1, none⟩ = some (.slice none 0 0) := by simpa using hB9.cell 1
          have r2 := hB9.frozen 0
          have r3 := hB9.frozen 1
          refine wpOp_step rfl ?_
          intro K' hK'
          go_simp
          exact hK' _ _ ⟨true, b1, b2, true, true, true, true, false, false, false, x5, yy, rfl, rfl, Lib.hid ⟨(fun h => absurd h (by decide)), (fun h => absurd h (by decide)), (fun _ h => absurd h (by decide)), (fun _ => ⟨fun t9 => drawnC4_of K2.out.1 (HF.out.1 rfl) (InR.grownH K4.out.2.2.1 (HF.out.2.1 rfl) (by omega)) K2.out.2.2.2.1 hl hs0 (by have := ((HF.out.2.1 rfl)).size; omega), by go_simp, by go_simp⟩), (fun h => by have := HF.out.2.2.2.2.1 h; simpa using this), (fun _ => rfl), (fun h => absurd h (by decide)), (fun h => absurd h (by decide)), (fun h => absurd h (by decide))⟩⟩
        · obtain rfl := Option.some.inj ho
          have hc7 : b7 = false := hl
          have hc6 : b6 = true := by first | (refine hd ⟨6, .data⟩ ?_ rfl; simp; done) | (refine hd ⟨6, .chain⟩ ?_ rfl; simp; done) | (refine hd ⟨6, .phase⟩ ?_ rfl; simp; done)
          have hc5 : b5 = true := by first | (refine hd ⟨5, .data⟩ ?_ rfl; simp; done) | (refine hd ⟨5, .chain⟩ ?_ rfl; simp; done) | (refine hd ⟨5, .phase⟩ ?_ rfl; simp; done) | exact HF.out.2.2.2.2.2.1 hc6 | (have hy9 := HF.out.2.2.2.2.2.1 hc6; simp at hy9; simp [hy9]; done)
          have hc4 : b4 = true := by first | (refine hd ⟨4, .data⟩ ?_ rfl; simp; done) | (refine hd ⟨4, .chain⟩ ?_ rfl; simp; done) | (refine hd ⟨4, .phase⟩ ?_ rfl; simp; done) | exact HF.out.2.2.2.2.1 hc5 | (have hy9 := HF.out.2.2.2.2.1 hc5; simp at hy9; simp [hy9]; done) | exact HF.out.2.2.2.2.2.1 hc6 | (have hy9 := HF.out.2.2.2.2.2.1 hc6; simp at hy9; simp [hy9]; done)
          have hc3 : b3 = true := by first | (refine hd ⟨3, .data⟩ ?_ rfl; simp; done) | (refine hd ⟨3, .chain⟩ ?_ rfl; simp; done) | (refine hd ⟨3, .phase⟩ ?_ rfl; simp; done) | exact HF.out.2.2.2.2.1 hc5 | (have hy9 := HF.out.2.2.2.2.1 hc5; simp at hy9; simp [hy9]; done) | exact HF.out.2.2.2.2.2.1 hc6 | (have hy9 := HF.out.2.2.2.2.2.1 hc6; simp at hy9; simp [hy9]; done)
          have hc1 : b1 = true := by first | (refine hd ⟨1, .data⟩ ?_ rfl; simp; done) | (refine hd ⟨1, .chain⟩ ?_ rfl; simp; done) | (refine hd ⟨1, .phase⟩ ?_ rfl; simp; done)
          have hc0 : b0 = true := by first | (refine hd ⟨0, .data⟩ ?_ rfl; simp; done) | (refine hd ⟨0, .chain⟩ ?_ rfl; simp; done) | (refine hd ⟨0, .phase⟩ ?_ rfl; simp; done) | exact HF.out.2.2.2.2.2.1 hc6 | (have hy9 := HF.out.2.2.2.2.2.1 hc6; simp at hy9; simp [hy9]; done)
          subst hc7 hc6 hc5 hc4 hc3 hc1 hc0
          have hc8 : b8 = false := by cases hx9 : b8 with | false => rfl | true => (have hy9 := HF.out.2.2.2.2.2.2.2.1 hx9; simp at hy9)
          subst hc8
          have hc9 : b9 = false := by cases hx9 : b9 with | false => rfl | true => (have hy9 := HF.out.2.2.2.2.2.2.2.2 hx9; simp at hy9)
          subst hc9
          clear hl hd ho hL
          simp only [sel_t, sel_f]
          refine wpOp_step rfl ?_
          intro K' hK'
          go_simp
          exact hK' _ _ ⟨true, true, b2, true, true, true, true, true, false, false, x5, yy, rfl, rfl, Lib.hid ⟨HF.out.1, HF.out.2.1, HF.out.2.2.1, HF.out.2.2.2.1, (fun h => by have := HF.out.2.2.2.2.1 h; simpa using this), (fun h => by have := HF.out.2.2.2.2.2.1 h; simpa using this), (fun _ => rfl), (fun h => absurd h (by decide)), (fun h => absurd h (by decide))⟩⟩
        · obtain rfl := Option.some.inj ho
          have hc8 : b8 = false := hl
          have hc7 : b7 = true := by first | (refine hd ⟨7, .data⟩ ?_ rfl; simp; done) | (refine hd ⟨7, .chain⟩ ?_ rfl; simp; done) | (refine hd ⟨7, .phase⟩ ?_ rfl; simp; done)
          have hc6 : b6 = true := by first | (refine hd ⟨6, .data⟩ ?_ rfl; simp; done) | (refine hd ⟨6, .chain⟩ ?_ rfl; simp; done) | (refine hd ⟨6, .phase⟩ ?_ rfl; simp; done) | exact HF.out.2.2.2.2.2.2.1 hc7 | (have hy9 := HF.out.2.2.2.2.2.2.1 hc7; simp at hy9; simp [hy9]; done)
          have hc5 : b5 = true := by first | (refine hd ⟨5, .data⟩ ?_ rfl; simp; done) | (refine hd ⟨5, .chain⟩ ?_ rfl; simp; done) | (refine hd ⟨5, .phase⟩ ?_ rfl; simp; done) | exact HF.out.2.2.2.2.2.1 hc6 | (have hy9 := HF.out.2.2.2.2.2.1 hc6; simp at hy9; simp [hy9]; done) | exact HF.out.2.2.2.2.2.2.1 hc7 | (have hy9 := HF.out.2.2.2.2.2.2.1 hc7; simp at hy9; simp [hy9]; done)
          have hc4 : b4 = true := by first | (refine hd ⟨4, .data⟩ ?_ rfl; simp; done) | (refine hd ⟨4, .chain⟩ ?_ rfl; simp; done) | (refine hd ⟨4, .phase⟩ ?_ rfl; simp; done) | exact HF.out.2.2.2.2.1 hc5 | (have hy9 := HF.out.2.2.2.2.1 hc5; simp at hy9; simp [hy9]; done) | exact HF.out.2.2.2.2.2.1 hc6 | (have hy9 := HF.out.2.2.2.2.2.1 hc6; simp at hy9; simp [hy9]; done) | exact HF.out.2.2.2.2.2.2.1 hc7 | (have hy9 := HF.out.2.2.2.2.2.2.1 hc7; simp at hy9; simp [hy9]; done)
          have hc3 : b3 = true := by first | (refine hd ⟨3, .data⟩ ?_ rfl; simp; done) | (refine hd ⟨3, .chain⟩ ?_ rfl; simp; done) | (refine hd ⟨3, .phase⟩ ?_ rfl; simp; done) | exact HF.out.2.2.2.2.1 hc5 | (have hy9 := HF.out.2.2.2.2.1 hc5; simp at hy9; simp [hy9]; done) | exact HF.out.2.2.2.2.2.1 hc6 | (have hy9 := HF.out.2.2.2.2.2.1 hc6; simp at hy9; simp [hy9]; done) | exact HF.out.2.2.2.2.2.2.1 hc7 | (have hy9 := HF.out.2.2.2.2.2.2.1 hc7; simp at hy9; simp [hy9]; done)
          have hc2 : b2 = true := by first | (refine hd ⟨2, .data⟩ ?_ rfl; simp; done) | (refine hd ⟨2, .chain⟩ ?_ rfl; simp; done) | (refine hd ⟨2, .phase⟩ ?_ rfl; simp; done)
          have hc1 : b1 = true := by first | (refine hd ⟨1, .data⟩ ?_ rfl; simp; done) | (refine hd ⟨1, .chain⟩ ?_ rfl; simp; done) | (refine hd ⟨1, .phase⟩ ?_ rfl; simp; done) | exact HF.out.2.2.2.2.2.2.1 hc7 | (have hy9 := HF.out.2.2.2.2.2.2.1 hc7; simp at hy9; simp [hy9]; done)
          have hc0 : b0 = true := by first | (refine hd ⟨0, .data⟩ ?_ rfl; simp; done) | (refine hd ⟨0, .chain⟩ ?_ rfl; simp; done) | (refine hd ⟨0, .phase⟩ ?_ rfl; simp; done) | exact HF.out.2.2.2.2.2.1 hc6 | (have hy9 := HF.out.2.2.2.2.2.1 hc6; simp at hy9; simp [hy9]; done) | exact HF.out.2.2.2.2.2.2.1 hc7 | (have hy9 := HF.out.2.2.2.2.2.2.1 hc7; simp at hy9; simp [hy9]; done)
          subst hc8 hc7 hc6 hc5 hc4 hc3 hc2 hc1 hc0
          have hc9 : b9 = false := by cases hx9 : b9 with | false => rfl | true => (have hy9 := HF.out.2.2.2.2.2.2.2.2 hx9; simp at hy9)
          subst hc9
          clear hl hd ho hL
          simp only [sel_t, sel_f]
          refine wpOp_step rfl ?_
          intro K' hK'
          go_simp
          exact hK' _ _ ⟨true, true, true, true, true, true, true, true, true, false, x5, yy, rfl, rfl, Lib.hid ⟨HF.out.1, HF.out.2.1, HF.out.2.2.1, HF.out.2.2.2.1, (fun h => by have := HF.out.2.2.2.2.1 h; simpa using this), (fun h => by have := HF.out.2.2.2.2.2.1 h; simpa using this), (fun h => by have := HF.out.2.2.2.2.2.2.1 h; simpa using this), (fun _ => rfl), (fun h => absurd h (by decide))⟩⟩
        · obtain rfl := Option.some.inj ho
          have hc9 : b9 = false := hl
          have hc8 : b8 = true := by first | (refine hd ⟨8, .data⟩ ?_ rfl; simp; done) | (refine hd ⟨8, .chain⟩ ?_ rfl; simp; done) | (refine hd ⟨8, .phase⟩ ?_ rfl; simp; done)
          have hc7 : b7 = true := by first | (refine hd ⟨7, .data⟩ ?_ rfl; simp; done) | (refine hd ⟨7, .chain⟩ ?_ rfl; simp; done) | (refine hd ⟨7, .phase⟩ ?_ rfl; simp; done) | exact HF.out.2.2.2.2.2.2.2.1 hc8 | (have hy9 := HF.out.2.2.2.2.2.2.2.1 hc8; simp at hy9; simp [hy9]; done)
          have hc6 : b6 = true := by first | (refine hd ⟨6, .data⟩ ?_ rfl; simp; done) | (refine hd ⟨6, .chain⟩ ?_ rfl; simp; done) | (refine hd ⟨6, .phase⟩ ?_ rfl; simp; done) | exact HF.out.2.2.2.2.2.2.1 hc7 | (have hy9 := HF.out.2.2.2.2.2.2.1 hc7; simp at hy9; simp [hy9]; done) | exact HF.out.2.2.2.2.2.2.2.1 hc8 | (have hy9 := HF.out.2.2.2.2.2.2.2.1 hc8; simp at hy9; simp [hy9]; done)
          have hc5 : b5 = true := by first | (refine hd ⟨5, .data⟩ ?_ rfl; simp; done) | (refine hd ⟨5, .chain⟩ ?_ rfl; simp; done) | (refine hd ⟨5, .phase⟩ ?_ rfl; simp; done) | exact HF.out.2.2.2.2.2.1 hc6 | (have hy9 := HF.out.2.2.2.2.2.1 hc6; simp at hy9; simp [hy9]; done) | exact HF.out.2.2.2.2.2.2.1 hc7 | (have hy9 := HF.out.2.2.2.2.2.2.1 hc7; simp at hy9; simp [hy9]; done) | exact HF.out.2.2.2.2.2.2.2.1 hc8 | (have hy9 := HF.out.2.2.2.2.2.2.2.1 hc8; simp at hy9; simp [hy9]; done)
          have hc4 : b4 = true := by first | (refine hd ⟨4, .data⟩ ?_ rfl; simp; done) | (refine hd ⟨4, .chain⟩ ?_ rfl; simp; done) | (refine hd ⟨4, .phase⟩ ?_ rfl; simp; done) | exact HF.out.2.2.2.2.1 hc5 | (have hy9 := HF.out.2.2.2.2.1 hc5; simp at hy9; simp [hy9]; done) | exact HF.out.2.2.2.2.2.1 hc6 | (have hy9 := HF.out.2.2.2.2.2.1 hc6; simp at hy9; simp [hy9]; done) | exact HF.out.2.2.2.2.2.2.1 hc7 | (have hy9 := HF.out.2.2.2.2.2.2.1 hc7; simp at hy9; simp [hy9]; done) | exact HF.out.2.2.2.2.2.2.2.1 hc8 | (have hy9 := HF.out.2.2.2.2.2.2.2.1 hc8; simp at hy9; simp [hy9]; done)
          have hc3 : b3 = true := by first | (refine hd ⟨3, .data⟩ ?_ rfl; simp; done) | (refine hd ⟨3, .chain⟩ ?_ rfl; simp; done) | (refine hd ⟨3, .phase⟩ ?_ rfl; simp; done) | exact HF.out.2.2.2.2.1 hc5 | (have hy9 := HF.out.2.2.2.2.1 hc5; simp at hy9; simp [hy9]; done) | exact HF.out.2.2.2.2.2.1 hc6 | (have hy9 := HF.out.2.2.2.2.2.1 hc6; simp at hy9; simp [hy9]; done) | exact HF.out.2.2.2.2.2.2.1 hc7 | (have hy9 := HF.out.2.2.2.2.2.2.1 hc7; simp at hy9; simp [hy9]; done) | exact HF.out.2.2.2.2.2.2.2.1 hc8 | (have hy9 := HF.out.2.2.2.2.2.2.2.1 hc8; simp at hy9; simp [hy9]; done)
          have hc2 : b2 = true := by first | (refine hd ⟨2, .data⟩ ?_ rfl; simp; done) | (refine hd ⟨2, .chain⟩ ?_ rfl; simp; done) | (refine hd ⟨2, .phase⟩ ?_ rfl; simp; done) | exact HF.out.2.2.2.2.2.2.2.1 hc8 | (have hy9 := HF.out.2.2.2.2.2.2.2.1 hc8; simp at hy9; simp [hy9]; done)
          have hc1 : b1 = true := by first | (refine hd ⟨1, .data⟩ ?_ rfl; simp; done) | (refine hd ⟨1, .chain⟩ ?_ rfl; simp; done) | (refine hd ⟨1, .phase⟩ ?_ rfl; simp; done) | exact HF.out.2.2.2.2.2.2.1 hc7 | (have hy9 := HF.out.2.2.2.2.2.2.1 hc7; simp at hy9; simp [hy9]; done) | exact HF.out.2.2.2.2.2.2.2.1 hc8 | (have hy9 := HF.out.2.2.2.2.2.2.2.1 hc8; simp at hy9; simp [hy9]; done)
          have hc0 : b0 = true := by first | (refine hd ⟨0, .data⟩ ?_ rfl; simp; done) | (refine hd ⟨0, .chain⟩ ?_ rfl; simp; done) | (refine hd ⟨0, .phase⟩ ?_ rfl; simp; done) | exact HF.out.2.2.2.2.2.1 hc6 | (have hy9 := HF.out.2.2.2.2.2.1 hc6; simp at hy9; simp [hy9]; done) | exact HF.out.2.2.2.2.2.2.1 hc7 | (have hy9 := HF.out.2.2.2.2.2.2.1 hc7; simp at hy9; simp [hy9]; done) | exact HF.out.2.2.2.2.2.2.2.1 hc8 | (have hy9 := HF.out.2.2.2.2.2.2.2.1 hc8; simp at hy9; simp [hy9]; done)
          subst hc9 hc8 hc7 hc6 hc5 hc4 hc3 hc2 hc1 hc0
          clear hl hd ho hL
          simp only [sel_t, sel_f]
          refine wpOp_step rfl ?_
          intro K' hK'
          go_simp
          exact hK' _ _ ⟨true, true, true, true, true, true, true, true, true, true, x5, yy, rfl, rfl, Lib.hid ⟨HF.out.1, HF.out.2.1, HF.out.2.2.1, HF.out.2.2.2.1, (fun h => by have := HF.out.2.2.2.2.1 h; simpa using this), (fun h => by have := HF.out.2.2.2.2.2.1 h; simpa using this), (fun h => by have := HF.out.2.2.2.2.2.2.1 h; simpa using this), (fun h => by have := HF.out.2.2.2.2.2.2.2.1 h; simpa using this), (fun _ => rfl)⟩⟩
      · rintro L A9 w' hL ⟨b0, b1, b2, b3, b4, b5, b6, b7, b8, b9, x5, yy, rfl, rfl, HF⟩ hall
        have hc0 : b0 = true := hall 0 (by decide)
        have hc1 : b1 = true := hall 1 (by decide)
        have hc2 : b2 = true := hall 2 (by decide)
        have hc3 : b3 = true := hall 3 (by decide)
        have hc4 : b4 = true := hall 4 (by decide)
        have hc5 : b5 = true := hall 5 (by decide)
        have hc6 : b6 = true := hall 6 (by decide)
        have hc7 : b7 = true := hall 7 (by decide)
        have hc8 : b8 = true := hall 8 (by decide)
        have hc9 : b9 = true := hall 9 (by decide)
        subst hc0 hc1 hc2 hc3 hc4 hc5 hc6 hc7 hc8 hc9
        simp only [sel_t]
        have HD := Lib.hid ((HF.out.2.2.2.1 rfl).1 x5)
        have c0 := (HF.out.2.2.2.1 rfl).2.1
        have c1 := (HF.out.2.2.2.1 rfl).2.2
        clear HF
        try simp only [Exit.inBlock, Exit.then]
        go_wp2
        try simp only [Exit.inBlock, Exit.then]
        refine bodyPost_ret (v := .tuple #[.agg #[.int .i64 n1, .slice va es.length vc], .int .i64 m, .int .i64 s, .int .i64 x5]) ?_ rfl HD.out
        rw [results_cttt rfl]
        go_simp
    · have dc : (c == 0) = false := by simpa using hc
      go_upto_region 5 with fail
      refine wp_region_inv (fun L A9 w' => ∃ (b0 b1 b2 b3 b4 b5 b6 b7 b8 b9 b10 : Bool) (x5 : Int), L = #[b0, b1, b2, b3, b4, b5, b6, b7, b8, b9, b10] ∧ A9 = { tmps := #[Value.slice a n cap, undef, Value.pointer (some { block := w.heap.size, off := 0 }), sel b8 (Value.int .i64 m) (Value.int IntKind.i64 0), sel b9 (Value.int .i64 s) (Value.int IntKind.i64 0), sel b10 (Value.int .i64 x5) (Value.int IntKind.i64 0), Value.pointer (some { block := w1.heap.size, off := 0 }), Value.int IntKind.i64 m, Value.int IntKind.i64 s, Value.pointer (some { block := g, off := 0 }), Value.tuple #[Value.agg #[Value.int IntKind.i64 n1, Value.slice va es.length vc], Value.int IntKind.i64 m, Value.int IntKind.i64 s], Value.slice a n cap, Value.tuple #[Value.agg #[Value.int IntKind.i64 n1, Value.slice va es.length vc], Value.int IntKind.i64 m, Value.int IntKind.i64 s], Value.agg #[Value.int IntKind.i64 n1, Value.slice va es.length vc], Value.int IntKind.i64 m, Value.int IntKind.i64 s, Value.slice a n cap, Value.pointer (some { block := g, off := 0 }), Value.pointer (some { block := w1.heap.size, off := 0 }), Value.int IntKind.i64 n1, Value.bool (decide (n1 < 1)), Value.bool (decide (n1 < 1)), Value.pointer (some { block := g, off := 0 }), Value.int IntKind.i64 c, Value.bool false, Value.bool (decide (n1 < 1)), undef, undef, undef, undef, undef, undef, sel b0 (Value.agg #[.int .i64 n1, .slice va es.length vc]) undef, sel b1 (Value.int .i64 m) undef, sel b2 (Value.int .i64 s) undef, sel b3 (Value.pointer (some ⟨g, 0, none⟩)) undef, sel b4 (Value.pointer (some ⟨w1.heap.size, 0, none⟩)) undef, sel b5 (Value.int .i64 n1) undef, sel b6 (Value.int .i64 x5) undef], defers := [] } ∧ Hid ((b7 = false → Rd w2 w' g (0 + 1 + b6.toNat)) ∧ (b7 = false → w4.grownBy w' (some g)) ∧ (b7 = true → (∀ t9 : Int, DrawnC4 w (.returned (.tuple #[.agg #[.int .i64 n1, .slice va es.length vc], .int .i64 m, .int .i64 s, .int .i64 t9])) w') ∧ w'.cell? ⟨w.heap.size, 0, none⟩ = some (.int .i64 n1) ∧ w'.cell? ⟨w.heap.size, 1, none⟩ = some (.slice va es.length vc)) ∧ (b5 = true → (b4) = true) ∧ (b6 = true → (b3 && b4 && b5) = true) ∧ (b7 = true → (b0 && b3 && b4 && b5 && b6) = true) ∧ (b8 = true → (b0 && b1 && b3 && b4 && b5 && b6 && b7) = true) ∧ (b9 = true → (b0 && b1 && b2 && b3 && b4 && b5 && b6 && b7 && b8) = true) ∧ (b10 = true → (b0 && b1 && b2 && b3 && b4 && b5 && b6 && b7 && b8 && b9) = true))) (by kernel_rfl) (by kernel_rfl) ?_ ?_ ?_
      · exact ⟨false, false, false, false, false, false, false, false, false, false, false, 0, rfl, rfl, Lib.hid ⟨(fun _ => Rd.drew' K4.out.1), (fun _ => g_drew (grown_refl _ _)), (fun h => absurd h (by decide)), (fun h => absurd h (by decide)), (fun h => absurd h (by decide)), (fun h => absurd h (by decide)), (fun h => absurd h (by decide)), (fun h => absurd h (by decide)), (fun h => absurd h (by decide))⟩⟩
      · rintro L A9 w' hL ⟨b0, b1, b2, b3, b4, b5, b6, b7, b8, b9, b10, x5, rfl, rfl, HF⟩ k9 o9 ho hl hd
        have hk9 : k9 = 0 ∨ k9 = 1 ∨ k9 = 2 ∨ k9 = 3 ∨ k9 = 4 ∨ k9 = 5 ∨ k9 = 6 ∨ k9 = 7 ∨ k9 = 8 ∨ k9 = 9 ∨ k9 = 10 := by have := (Array.getElem?_eq_some_iff.1 ho).1; simp at this; omega
        rcases hk9 with rfl | rfl | rfl | rfl | rfl | rfl | rfl | rfl | rfl | rfl | rfl
        · obtain rfl := Option.some.inj ho
          have hc0 : b0 = false := hl
          subst hc0
          have hc7 : b7 = false := by cases hx9 : b7 with | false => rfl | true => (have hy9 := HF.out.2.2.2.2.2.1 hx9; simp at hy9)
          subst hc7
          have hc8 : b8 = false := by cases hx9 : b8 with | false => rfl | true => (have hy9 := HF.out.2.2.2.2.2.2.1 hx9; simp at hy9)
          subst hc8
          have hc9 : b9 = false := by cases hx9 : b9 with | false => rfl | true => (have hy9 := HF.out.2.2.2.2.2.2.2.1 hx9; simp at hy9)
          subst hc9
          have hc10 : b10 = false := by cases hx9 : b10 with | false => rfl | true => (have hy9 := HF.out.2.2.2.2.2.2.2.2 hx9; simp at hy9)
          subst hc10
          clear hl hd ho hL
          simp only [sel_t, sel_f]
          have hB9 := K4.out.2.2.2.grownG (HF.out.2.1 rfl) (by omega)
          have y0 : w'.cell? ⟨w1.heap.size, 0, none⟩ = some (.int .i64 n1) := by simpa using hB9.cell 0
          have y1 : w'.cell? ⟨w1.heap.size, 1, none⟩ = some (.slice va es.length vc) := by simpa using hB9.cell 1
          refine wpOp_step rfl ?_
          intro K' hK'
          go_simp
          exact hK' _ _ ⟨true, b1, b2, b3, b4, b5, b6, false, false, false, false, x5, rfl, rfl, Lib.hid ⟨HF.out.1, HF.out.2.1, HF.out.2.2.1, HF.out.2.2.2.1, HF.out.2.2.2.2.1, (fun h => absurd h (by decide)), (fun h => absurd h (by decide)), (fun h => absurd h (by decide)), (fun h => absurd h (by decide))⟩⟩
        · obtain rfl := Option.some.inj ho
          have hc1 : b1 = false := hl
          subst hc1
          have hc8 : b8 = false := by cases hx9 : b8 with | false => rfl | true => (have hy9 := HF.out.2.2.2.2.2.2.1 hx9; simp at hy9)
          subst hc8
          have hc9 : b9 = false := by cases hx9 : b9 with | false => rfl | true => (have hy9 := HF.out.2.2.2.2.2.2.2.1 hx9; simp at hy9)
          subst hc9
          have hc10 : b10 = false := by cases hx9 : b10 with | false => rfl | true => (have hy9 := HF.out.2.2.2.2.2.2.2.2 hx9; simp at hy9)
          subst hc10
          clear hl hd ho hL
          simp only [sel_t, sel_f]
          refine wpOp_step rfl ?_
          intro K' hK'
          go_simp
          exact hK' _ _ ⟨b0, true, b2, b3, b4, b5, b6, b7, false, false, false, x5, rfl, rfl, Lib.hid ⟨HF.out.1, HF.out.2.1, HF.out.2.2.1, HF.out.2.2.2.1, HF.out.2.2.2.2.1, HF.out.2.2.2.2.2.1, (fun h => absurd h (by decide)), (fun h => absurd h (by decide)), (fun h => absurd h (by decide))⟩⟩
        · obtain rfl := Option.some.inj ho
          have hc2 : b2 = false := hl
          subst hc2
          have hc9 : b9 = false := by cases hx9 : b9 with | false => rfl | true => (have hy9 := HF.out.2.2.2.2.2.2.2.1 hx9; simp at hy9)
          subst hc9
          have hc10 : b10 = false := by cases hx9 : b10 with | false => rfl | true => (have hy9 := HF.out.2.2.2.2.2.2.2.2 hx9; simp at hy9)
          subst hc10
          clear hl hd ho hL
          simp only [sel_t, sel_f]
          refine wpOp_step rfl ?_
          intro K' hK'
          go_simp
          exact hK' _ _ ⟨b0, b1, true, b3, b4, b5, b6, b7, b8, false, false, x5, rfl, rfl, Lib.hid ⟨HF.out.1, HF.out.2.1, HF.out.2.2.1, HF.out.2.2.2.1, HF.out.2.2.2.2.1, HF.out.2.2.2.2.2.1, HF.out.2.2.2.2.2.2.1, (fun h => absurd h (by decide)), (fun h => absurd h (by decide))⟩⟩
        · obtain rfl := Option.some.inj ho
          have hc3 : b3 = false := hl
          subst hc3
          have hc6 : b6 = false := by cases hx9 : b6 with | false => rfl | true => (have hy9 := HF.out.2.2.2.2.1 hx9; simp at hy9)
          subst hc6
          have hc7 : b7 = false := by cases hx9 : b7 with | false => rfl | true => (have hy9 := HF.out.2.2.2.2.2.1 hx9; simp at hy9)
          subst hc7
          have hc8 : b8 = false := by cases hx9 : b8 with | false => rfl | true => (have hy9 := HF.out.2.2.2.2.2.2.1 hx9; simp at hy9)
          subst hc8
          have hc9 : b9 = false := by cases hx9 : b9 with | false => rfl | true => (have hy9 := HF.out.2.2.2.2.2.2.2.1 hx9; simp at hy9)
          subst hc9
          have hc10 : b10 = false := by cases hx9 : b10 with | false => rfl | true => (have hy9 := HF.out.2.2.2.2.2.2.2.2 hx9; simp at hy9)
          subst hc10
          clear hl hd ho hL
          simp only [sel_t, sel_f]
          refine wpOp_step rfl ?_
          intro K' hK'
          go_simp
          exact hK' _ _ ⟨b0, b1, b2, true, b4, b5, false, false, false, false, false, x5, rfl, rfl, Lib.hid ⟨HF.out.1, HF.out.2.1, HF.out.2.2.1, HF.out.2.2.2.1, (fun h => absurd h (by decide)), (fun h => absurd h (by decide)), (fun h => absurd h (by decide)), (fun h => absurd h (by decide)), (fun h => absurd h (by decide))⟩⟩
        · obtain rfl := Option.some.inj ho
          have hc4 : b4 = false := hl
          subst hc4
          have hc5 : b5 = false := by cases hx9 : b5 with | false => rfl | true => (have hy9 := HF.out.2.2.2.1 hx9; simp at hy9)
          subst hc5
          have hc6 : b6 = false := by cases hx9 : b6 with | false => rfl | true => (have hy9 := HF.out.2.2.2.2.1 hx9; simp at hy9)
          subst hc6
          have hc7 : b7 = false := by cases hx9 : b7 with | false => rfl | true => (have hy9 := HF.out.2.2.2.2.2.1 hx9; simp at hy9)
          subst hc7
          have hc8 : b8 = false := by cases hx9 : b8 with | false => rfl | true => (have hy9 := HF.out.2.2.2.2.2.2.1 hx9; simp at hy9)
          subst hc8
          have hc9 : b9 = false := by cases hx9 : b9 with | false => rfl | true => (have hy9 := HF.out.2.2.2.2.2.2.2.1 hx9; simp at hy9)
          subst hc9
          have hc10 : b10 = false := by cases hx9 : b10 with | false => rfl | true => (have hy9 := HF.out.2.2.2.2.2.2.2.2 hx9; simp at hy9)
          subst hc10
          clear hl hd ho hL
          simp only [sel_t, sel_f]
          refine wpOp_step rfl ?_
          intro K' hK'
          go_simp
          exact hK' _ _ ⟨b0, b1, b2, b3, true, false, false, false, false, false, false, x5, rfl, rfl, Lib.hid ⟨HF.out.1, HF.out.2.1, HF.out.2.2.1, (fun h => absurd h (by decide)), (fun h => absurd h (by decide)), (fun h => absurd h (by decide)), (fun h => absurd h (by decide)), (fun h => absurd h (by decide)), (fun h => absurd h (by decide))⟩⟩
        · obtain rfl := Option.some.inj ho
          have hc5 : b5 = false := hl
          have hc4 : b4 = true := by first | (refine hd ⟨4, .data⟩ ?_ rfl; simp; done) | (refine hd ⟨4, .chain⟩ ?_ rfl; simp; done) | (refine hd ⟨4, .phase⟩ ?_ rfl; simp; done)
          subst hc5 hc4
          have hc6 : b6 = false := by cases hx9 : b6 with | false => rfl | true => (have hy9 := HF.out.2.2.2.2.1 hx9; simp at hy9)
          subst hc6
          have hc7 : b7 = false := by cases hx9 : b7 with | false => rfl | true => (have hy9 := HF.out.2.2.2.2.2.1 hx9; simp at hy9)
          subst hc7
          have hc8 : b8 = false := by cases hx9 : b8 with | false => rfl | true => (have hy9 := HF.out.2.2.2.2.2.2.1 hx9; simp at hy9)
          subst hc8
          have hc9 : b9 = false := by cases hx9 : b9 with | false => rfl | true => (have hy9 := HF.out.2.2.2.2.2.2.2.1 hx9; simp at hy9)
          subst hc9
          have hc10 : b10 = false := by cases hx9 : b10 with | false => rfl | true => (have hy9 := HF.out.2.2.2.2.2.2.2.2 hx9; simp at hy9)
          subst hc10
          clear hl hd ho hL
          simp only [sel_t, sel_f]
          have hB9 := K4.out.2.2.2.grownG (HF.out.2.1 rfl) (by omega)
          have y0 : w'.cell? ⟨w1.heap.size, 0, none⟩ = some (.int .i64 n1) := by simpa using hB9.cell 0
          refine wpOp_step rfl ?_
          intro K' hK'
          go_simp
          exact hK' _ _ ⟨b0, b1, b2, b3, true, true, false, false, false, false, false, x5, rfl, rfl, Lib.hid ⟨HF.out.1, HF.out.2.1, HF.out.2.2.1, (fun _ => rfl), (fun h => absurd h (by decide)), (fun h => absurd h (by decide)), (fun h => absurd h (by decide)), (fun h => absurd h (by decide)), (fun h => absurd h (by decide))⟩⟩
        · obtain rfl := Option.some.inj ho
          have hc6 : b6 = false := hl
          have hc5 : b5 = true := by first | (refine hd ⟨5, .data⟩ ?_ rfl; simp; done) | (refine hd ⟨5, .chain⟩ ?_ rfl; simp; done) | (refine hd ⟨5, .phase⟩ ?_ rfl; simp; done)
          have hc4 : b4 = true := by first | (refine hd ⟨4, .data⟩ ?_ rfl; simp; done) | (refine hd ⟨4, .chain⟩ ?_ rfl; simp; done) | (refine hd ⟨4, .phase⟩ ?_ rfl; simp; done) | exact HF.out.2.2.2.1 hc5 | (have hy9 := HF.out.2.2.2.1 hc5; simp at hy9; simp [hy9]; done)
          have hc3 : b3 = true := by first | (refine hd ⟨3, .data⟩ ?_ rfl; simp; done) | (refine hd ⟨3, .chain⟩ ?_ rfl; simp; done) | (refine hd ⟨3, .phase⟩ ?_ rfl; simp; done)
          subst hc6 hc5 hc4 hc3
          have hc7 : b7 = false := by cases hx9 : b7 with | false => rfl | true => (have hy9 := HF.out.2.2.2.2.2.1 hx9; simp at hy9)
          subst hc7
          have hc8 : b8 = false := by cases hx9 : b8 with | false => rfl | true => (have hy9 := HF.out.2.2.2.2.2.2.1 hx9; simp at hy9)
          subst hc8
          have hc9 : b9 = false := by cases hx9 : b9 with | false => rfl | true => (have hy9 := HF.out.2.2.2.2.2.2.2.1 hx9; simp at hy9)
          subst hc9
          have hc10 : b10 = false := by cases hx9 : b10 with | false => rfl | true => (have hy9 := HF.out.2.2.2.2.2.2.2.2 hx9; simp at hy9)
          subst hc10
          clear hl hd ho hL
          simp only [sel_t, sel_f]
          have hcall := pickN n1 w2 w' g _ (HF.out.1 rfl) (by simp only [Bool.toNat_false, Bool.toNat_true]; omega)
          have HC9 := Lib.hid hcall
          clear hcall
          refine wpOp_step rfl ?_
          intro K' hK'
          go_simp
          refine HC9.out.mono ?_
          rintro e9 w9 ⟨x9, rfl, hx9, hy9, hR9, hG9⟩
          exact hK' _ _ ⟨b0, b1, b2, true, true, true, true, false, false, false, false, x9, rfl, rfl, Lib.hid ⟨(fun _ => hR9.more (by simp only [Bool.toNat_false, Bool.toNat_true]; omega)), (fun _ => grown_trans' (HF.out.2.1 rfl) hG9), (fun h => absurd h (by decide)), (fun h => by have := HF.out.2.2.2.1 h; simpa using this), (fun _ => rfl), (fun h => absurd h (by decide)), (fun h => absurd h (by decide)), (fun h => absurd h (by decide)), (fun h => absurd h (by decide))⟩⟩
        · obtain rfl := Option.some.inj ho
          have hc7 : b7 = false := hl
          have hc6 : b6 = true := by first | (refine hd ⟨6, .data⟩ ?_ rfl; simp; done) | (refine hd ⟨6, .chain⟩ ?_ rfl; simp; done) | (refine hd ⟨6, .phase⟩ ?_ rfl; simp; done)
          have hc5 : b5 = true := by first | (refine hd ⟨5, .data⟩ ?_ rfl; simp; done) | (refine hd ⟨5, .chain⟩ ?_ rfl; simp; done) | (refine hd ⟨5, .phase⟩ ?_ rfl; simp; done) | exact HF.out.2.2.2.2.1 hc6 | (have hy9 := HF.out.2.2.2.2.1 hc6; simp at hy9; simp [hy9]; done)
          have hc4 : b4 = true := by first | (refine hd ⟨4, .data⟩ ?_ rfl; simp; done) | (refine hd ⟨4, .chain⟩ ?_ rfl; simp; done) | (refine hd ⟨4, .phase⟩ ?_ rfl; simp; done) | exact HF.out.2.2.2.1 hc5 | (have hy9 := HF.out.2.2.2.1 hc5; simp at hy9; simp [hy9]; done) | exact HF.out.2.2.2.2.1 hc6 | (have hy9 := HF.out.2.2.2.2.1 hc6; simp at hy9; simp [hy9]; done)
          have hc3 : b3 = true := by first | (refine hd ⟨3, .data⟩ ?_ rfl; simp; done) | (refine hd ⟨3, .chain⟩ ?_ rfl; simp; done) | (refine hd ⟨3, .phase⟩ ?_ rfl; simp; done) | exact HF.out.2.2.2.2.1 hc6 | (have hy9 := HF.out.2.2.2.2.1 hc6; simp at hy9; simp [hy9]; done)
          have hc0 : b0 = true := by first | (refine hd ⟨0, .data⟩ ?_ rfl; simp; done) | (refine hd ⟨0, .chain⟩ ?_ rfl; simp; done) | (refine hd ⟨0, .phase⟩ ?_ rfl; simp; done)
          subst hc7 hc6 hc5 hc4 hc3 hc0
          have hc8 : b8 = false := by cases hx9 : b8 with | false => rfl | true => (have hy9 := HF.out.2.2.2.2.2.2.1 hx9; simp at hy9)
          subst hc8
          have hc9 : b9 = false := by cases hx9 : b9 with | false => rfl | true => (have hy9 := HF.out.2.2.2.2.2.2.2.1 hx9; simp at hy9)
          subst hc9
          have hc10 : b10 = false := by cases hx9 : b10 with | false => rfl | true => (have hy9 := HF.out.2.2.2.2.2.2.2.2 hx9; simp at hy9)
          subst hc10
          clear hl hd ho hL
          simp only [sel_t, sel_f]
          have hB9 := K4.out.2.1.grownG (HF.out.2.1 rfl) (by omega)
          have r0 : w'.cell? ⟨w.heap.size, 0, none⟩ = some (.int .i64 0) := by simpa using hB9.cell 0
          have r1 : w'.cell? ⟨w.heap.size, 1, none⟩ = some (.slice none 0 0) := by simpa using hB9.cell 1
          have r2 := hB9.frozen 0
          have r3 := hB9.frozen 1
          refine wpOp_step rfl ?_
          intro K' hK'
          go_simp
          exact hK' _ _ ⟨true, b1, b2, true, true, true, true, true, false, false, false, x5, rfl, rfl, Lib.hid ⟨(fun h => absurd h (by decide)), (fun h => absurd h (by decide)), (fun _ => ⟨fun t9 => drawnC4_of K2.out.1 (HF.out.1 rfl) (InR.grownH K4.out.2.2.1 (HF.out.2.1 rfl) (by omega)) K2.out.2.2.2.1 hl hs0 (by have := ((HF.out.2.1 rfl)).size; omega), by go_simp, by go_simp⟩), (fun h => by have := HF.out.2.2.2.1 h; simpa using this), (fun h => by have := HF.out.2.2.2.2.1 h; simpa using this), (fun _ => rfl), (fun h => absurd h (by decide)), (fun h => absurd h (by decide)), (fun h => absurd h (by decide))⟩⟩
        · obtain rfl := Option.some.inj ho
          have hc8 : b8 = false := hl
          have hc7 : b7 = true := by first | (refine hd ⟨7, .data⟩ ?_ rfl; simp; done) | (refine hd ⟨7, .chain⟩ ?_ rfl; simp; done) | (refine hd ⟨7, .phase⟩ ?_ rfl; simp; done)
          have hc6 : b6 = true := by first | (refine hd ⟨6, .data⟩ ?_ rfl; simp; done) | (refine hd ⟨6, .chain⟩ ?_ rfl; simp; done) | (refine hd ⟨6, .phase⟩ ?_ rfl; simp; done) | exact HF.out.2.2.2.2.2.1 hc7 | (have hy9 := HF.out.2.2.2.2.2.1 hc7; simp at hy9; simp [hy9]; done)
          have hc5 : b5 = true := by first | (refine hd ⟨5, .data⟩ ?_ rfl; simp; done) | (refine hd ⟨5, .chain⟩ ?_ rfl; simp; done) | (refine hd ⟨5, .phase⟩ ?_ rfl; simp; done) | exact HF.out.2.2.2.2.1 hc6 | (have hy9 := HF.out.2.2.2.2.1 hc6; simp at hy9; simp [hy9]; done) | exact HF.out.2.2.2.2.2.1 hc7 | (have hy9 := HF.out.2.2.2.2.2.1 hc7; simp at hy9; simp [hy9]; done)
          have hc4 : b4 = true := by first | (refine hd ⟨4, .data⟩ ?_ rfl; simp; done) | (refine hd ⟨4, .chain⟩ ?_ rfl; simp; done) | (refine hd ⟨4, .phase⟩ ?_ rfl; simp; done) | exact HF.out.2.2.2.1 hc5 | (have hy9 := HF.out.2.2.2.1 hc5; simp at hy9; simp [hy9]; done) | exact HF.out.2.2.2.2.1 hc6 | (have hy9 := HF.out.2.2.2.2.1 hc6; simp at hy9; simp [hy9]; done) | exact HF.out.2.2.2.2.2.1 hc7 | (have hy9 := HF.out.2.2.2.2.2.1 hc7; simp at hy9; simp [hy9]; done)
          have hc3 : b3 = true := by first | (refine hd ⟨3, .data⟩ ?_ rfl; simp; done) | (refine hd ⟨3, .chain⟩ ?_ rfl; simp; done) | (refine hd ⟨3, .phase⟩ ?_ rfl; simp; done) | exact HF.out.2.2.2.2.1 hc6 | (have hy9 := HF.out.2.2.2.2.1 hc6; simp at hy9; simp [hy9]; done) | exact HF.out.2.2.2.2.2.1 hc7 | (have hy9 := HF.out.2.2.2.2.2.1 hc7; simp at hy9; simp [hy9]; done)
          have hc1 : b1 = true := by first | (refine hd ⟨1, .data⟩ ?_ rfl; simp; done) | (refine hd ⟨1, .chain⟩ ?_ rfl; simp; done) | (refine hd ⟨1, .phase⟩ ?_ rfl; simp; done)
          have hc0 : b0 = true := by first | (refine hd ⟨0, .data⟩ ?_ rfl; simp; done) | (refine hd ⟨0, .chain⟩ ?_ rfl; simp; done) | (refine hd ⟨0, .phase⟩ ?_ rfl; simp; done) | exact HF.out.2.2.2.2.2.1 hc7 | (have hy9 := HF.out.2.2.2.2.2.1 hc7; simp at hy9; simp [hy9]; done)
          subst hc8 hc7 hc6 hc5 hc4 hc3 hc1 hc0
          have hc9 : b9 = false := by cases hx9 : b9 with | false => rfl | true => (have hy9 := HF.out.2.2.2.2.2.2.2.1 hx9; simp at hy9)
          subst hc9
          have hc10 : b10 = false := by cases hx9 : b10 with | false => rfl | true => (have hy9 := HF.out.2.2.2.2.2.2.2.2 hx9; simp at hy9)
          subst hc10
          clear hl hd ho hL
          simp only [sel_t, sel_f]
          refine wpOp_step rfl ?_
          intro K' hK'
          go_simp
          exact hK' _ _ ⟨true, true, b2, true, true, true, true, true, true, false, false, x5, rfl, rfl, Lib.hid ⟨HF.out.1, HF.out.2.1, HF.out.2.2.1, (fun h => by have := HF.out.2.2.2.1 h; simpa using this), (fun h => by have := HF.out.2.2.2.2.1 h; simpa using this), (fun h => by have := HF.out.2.2.2.2.2.1 h; simpa using this), (fun _ => rfl), (fun h => absurd h (by decide)), (fun h => absurd h (by decide))⟩⟩
        · obtain rfl := Option.some.inj ho
          have hc9 : b9 = false := hl
          have hc8 : b8 = true := by first | (refine hd ⟨8, .data⟩ ?_ rfl; simp; done) | (refine hd ⟨8, .chain⟩ ?_ rfl; simp; done) | (refine hd ⟨8, .phase⟩ ?_ rfl; simp; done)
          have hc7 : b7 = true := by first | (refine hd ⟨7, .data⟩ ?_ rfl; simp; done) | (refine hd ⟨7, .chain⟩ ?_ rfl; simp; done) | (refine hd ⟨7, .phase⟩ ?_ rfl; simp; done) | exact HF.out.2.2.2.2.2.2.1 hc8 | (have hy9 := HF.out.2.2.2.2.2.2.1 hc8; simp at hy9; simp [hy9]; done)
          have hc6 : b6 = true := by first | (refine hd ⟨6, .data⟩ ?_ rfl; simp; done) | (refine hd ⟨6, .chain⟩ ?_ rfl; simp; done) | (refine hd ⟨6, .phase⟩ ?_ rfl; simp; done) | exact HF.out.2.2.2.2.2.1 hc7 | (have hy9 := HF.out.2.2.2.2.2.1 hc7; simp at hy9; simp [hy9]; done) | exact HF.out.2.2.2.2.2.2.1 hc8 | (have hy9 := HF.out.2.2.2.2.2.2.1 hc8; simp at hy9; simp [hy9]; done)
          have hc5 : b5 = true := by first | (refine hd ⟨5, .data⟩ ?_ rfl; simp; done) | (refine hd ⟨5, .chain⟩ ?_ rfl; simp; done) | (refine hd ⟨5, .phase⟩ ?_ rfl; simp; done) | exact HF.out.2.2.2.2.1 hc6 | (have hy9 := HF.out.2.2.2.2.1 hc6; simp at hy9; simp [hy9]; done) | exact HF.out.2.2.2.2.2.1 hc7 | (have hy9 := HF.out.2.2.2.2.2.1 hc7; simp at hy9; simp [hy9]; done) | exact HF.out.2.2.2.2.2.2.1 hc8 | (have hy9 := HF.out.2.2.2.2.2.2.1 hc8; simp at hy9; simp [hy9]; done)
          have hc4 : b4 = true := by first | (refine hd ⟨4, .data⟩ ?_ rfl; simp; done) | (refine hd ⟨4, .chain⟩ ?_ rfl; simp; done) | (refine hd ⟨4, .phase⟩ ?_ rfl; simp; done) | exact HF.out.2.2.2.1 hc5 | (have hy9 := HF.out.2.2.2.1 hc5; simp at hy9; simp [hy9]; done) | exact HF.out.2.2.2.2.1 hc6 | (have hy9 := HF.out.2.2.2.2.1 hc6; simp at hy9; simp [hy9]; done) | exact HF.out.2.2.2.2.2.1 hc7 | (have hy9 := HF.out.2.2.2.2.2.1 hc7; simp at hy9; simp [hy9]; done) | exact HF.out.2.2.2.2.2.2.1 hc8 | (have hy9 := HF.out.2.2.2.2.2.2.1 hc8; simp at hy9; simp [hy9]; done)
          have hc3 : b3 = true := by first | (refine hd ⟨3, .data⟩ ?_ rfl; simp; done) | (refine hd ⟨3, .chain⟩ ?_ rfl; simp; done) | (refine hd ⟨3, .phase⟩ ?_ rfl; simp; done) | exact HF.out.2.2.2.2.1 hc6 | (have hy9 := HF.out.2.2.2.2.1 hc6; simp at hy9; simp [hy9]; done) | exact HF.out.2.2.2.2.2.1 hc7 | (have hy9 := HF.out.2.2.2.2.2.1 hc7; simp at hy9; simp [hy9]; done) | exact HF.out.2.2.2.2.2.2.1 hc8 | (have hy9 := HF.out.2.2.2.2.2.2.1 hc8; simp at hy9; simp [hy9]; done)
          have hc2 : b2 = true := by first | (refine hd ⟨2, .data⟩ ?_ rfl; simp; done) | (refine hd ⟨2, .chain⟩ ?_ rfl; simp; done) | (refine hd ⟨2, .phase⟩ ?_ rfl; simp; done)
          have hc1 : b1 = true := by first | (refine hd ⟨1, .data⟩ ?_ rfl; simp; done) | (refine hd ⟨1, .chain⟩ ?_ rfl; simp; done) | (refine hd ⟨1, .phase⟩ ?_ rfl; simp; done) | exact HF.out.2.2.2.2.2.2.1 hc8 | (have hy9 := HF.out.2.2.2.2.2.2.1 hc8; simp at hy9; simp [hy9]; done)
          have hc0 : b0 = true := by first | (refine hd ⟨0, .data⟩ ?_ rfl; simp; done) | (refine hd ⟨0, .chain⟩ ?_ rfl; simp; done) | (refine hd ⟨0, .phase⟩ ?_ rfl; simp; done) | exact HF.out.2.2.2.2.2.1 hc7 | (have hy9 := HF.out.2.2.2.2.2.1 hc7; simp at hy9; simp [hy9]; done) | exact HF.out.2.2.2.2.2.2.1 hc8 | (have hy9 := HF.out.2.2.2.2.2.2.1 hc8; simp at hy9; simp [hy9]; done)
          subst hc9 hc8 hc7 hc6 hc5 hc4 hc3 hc2 hc1 hc0
          have hc10 : b10 = false := by cases hx9 : b10 with | false => rfl | true => (have hy9 := HF.out.2.2.2.2.2.2.2.2 hx9; simp at hy9)
          subst hc10
          clear hl hd ho hL
          simp only [sel_t, sel_f]
          refine wpOp_step rfl ?_
          intro K' hK'
          go_simp
          exact hK' _ _ ⟨true, true, true, true, true, true, true, true, true, true, false, x5, rfl, rfl, Lib.hid ⟨HF.out.1, HF.out.2.1, HF.out.2.2.1, (fun h => by have := HF.out.2.2.2.1 h; simpa using this), (fun h => by have := HF.out.2.2.2.2.1 h; simpa using this), (fun h => by have := HF.out.2.2.2.2.2.1 h; simpa using this), (fun h => by have := HF.out.2.2.2.2.2.2.1 h; simpa using this), (fun _ => rfl), (fun h => absurd h (by decide))⟩⟩
        · obtain rfl := Option.some.inj ho
          have hc10 : b10 = false := hl
          have hc9 : b9 = true := by first | (refine hd ⟨9, .data⟩ ?_ rfl; simp; done) | (refine hd ⟨9, .chain⟩ ?_ rfl; simp; done) | (refine hd ⟨9, .phase⟩ ?_ rfl; simp; done)
          have hc8 : b8 = true := by first | (refine hd ⟨8, .data⟩ ?_ rfl; simp; done) | (refine hd ⟨8, .chain⟩ ?_ rfl; simp; done) | (refine hd ⟨8, .phase⟩ ?_ rfl; simp; done) | exact HF.out.2.2.2.2.2.2.2.1 hc9 | (have hy9 := HF.out.2.2.2.2.2.2.2.1 hc9; simp at hy9; simp [hy9]; done)
          have hc7 : b7 = true := by first | (refine hd ⟨7, .data⟩ ?_ rfl; simp; done) | (refine hd ⟨7, .chain⟩ ?_ rfl; simp; done) | (refine hd ⟨7, .phase⟩ ?_ rfl; simp; done) | exact HF.out.2.2.2.2.2.2.1 hc8 | (have hy9 := HF.out.2.2.2.2.2.2.1 hc8; simp at hy9; simp [hy9]; done) | exact HF.out.2.2.2.2.2.2.2.1 hc9 | (have hy9 := HF.out.2.2.2.2.2.2.2.1 hc9; simp at hy9; simp [hy9]; done)
          have hc6 : b6 = true := by first | (refine hd ⟨6, .data⟩ ?_ rfl; simp; done) | (refine hd ⟨6, .chain⟩ ?_ rfl; simp; done) | (refine hd ⟨6, .phase⟩ ?_ rfl; simp; done) | exact HF.out.2.2.2.2.2.1 hc7 | (have hy9 := HF.out.2.2.2.2.2.1 hc7; simp at hy9; simp [hy9]; done) | exact HF.out.2.2.2.2.2.2.1 hc8 | (have hy9 := HF.out.2.2.2.2.2.2.1 hc8; simp at hy9; simp [hy9]; done) | exact HF.out.2.2.2.2.2.2.2.1 hc9 | (have hy9 := HF.out.2.2.2.2.2.2.2.1 hc9; simp at hy9; simp [hy9]; done)
          have hc5 : b5 = true := by first | (refine hd ⟨5, .data⟩ ?_ rfl; simp; done) | (refine hd ⟨5, .chain⟩ ?_ rfl; simp; done) | (refine hd ⟨5, .phase⟩ ?_ rfl; simp; done) | exact HF.out.2.2.2.2.1 hc6 | (have hy9 := HF.out.2.2.2.2.1 hc6; simp at hy9; simp [hy9]; done) | exact HF.out.2.2.2.2.2.1 hc7 | (have hy9 := HF.out.2.2.2.2.2.1 hc7; simp at hy9; simp [hy9]; done) | exact HF.out.2.2.2.2.2.2.1 hc8 | (have hy9 := HF.out.2.2.2.2.2.2.1 hc8; simp at hy9; simp [hy9]; done) | exact HF.out.2.2.2.2.2.2.2.1 hc9 | (have hy9 := HF.out.2.2.2.2.2.2.2.1 hc9; simp at hy9; simp [hy9]; done)
          have hc4 : b4 = true := by first | (refine hd ⟨4, .data⟩ ?_ rfl; simp; done) | (refine hd ⟨4, .chain⟩ ?_ rfl; simp; done) | (refine hd ⟨4, .phase⟩ ?_ rfl; simp; done) | exact HF.out.2.2.2.1 hc5 | (have hy9 := HF.out.2.2.2.1 hc5; simp at hy9; simp [hy9]; done) | exact HF.out.2.2.2.2.1 hc6 | (have hy9 := HF.out.2.2.2.2.1 hc6; simp at hy9; simp [hy9]; done) | exact HF.out.2.2.2.2.2.1 hc7 | (have hy9 := HF.out.2.2.2.2.2.1 hc7; simp at hy9; simp [hy9]; done) | exact HF.out.2.2.2.2.2.2.1 hc8 | (have hy9 := HF.out.2.2.2.2.2.2.1 hc8; simp at hy9; simp [hy9]; done) | exact HF.out.2.2.2.2.2.2.2.1 hc9 | (have hy9 := HF.out.2.2.2.2.2.2.2.1 hc9; simp at hy9; simp [hy9]; done)
          have hc3 : b3 = true := by first | (refine hd ⟨3, .data⟩ ?_ rfl; simp; done) | (refine hd ⟨3, .chain⟩ ?_ rfl; simp; done) | (refine hd ⟨3, .phase⟩ ?_ rfl; simp; done) | exact HF.out.2.2.2.2.1 hc6 | (have hy9 := HF.out.2.2.2.2.1 hc6; simp at hy9; simp [hy9]; done) | exact HF.out.2.2.2.2.2.1 hc7 | (have hy9 := HF.out.2.2.2.2.2.1 hc7; simp at hy9; simp [hy9]; done) | exact HF.out.2.2.2.2.2.2.1 hc8 | (have hy9 := HF.out.2.2.2.2.2.2.1 hc8; simp at hy9; simp [hy9]; done) | exact HF.out.2.2.2.2.2.2.2.1 hc9 | (have hy9 := HF.out.2.2.2.2.2.2.2.1 hc9; simp at hy9; simp [hy9]; done)
          have hc2 : b2 = true := by first | (refine hd ⟨2, .data⟩ ?_ rfl; simp; done) | (refine hd ⟨2, .chain⟩ ?_ rfl; simp; done) | (refine hd ⟨2, .phase⟩ ?_ rfl; simp; done) | exact HF.out.2.2.2.2.2.2.2.1 hc9 | (have hy9 := HF.out.2.2.2.2.2.2.2.1 hc9; simp at hy9; simp [hy9]; done)
          have hc1 : b1 = true := by first | (refine hd ⟨1, .data⟩ ?_ rfl; simp; done) | (refine hd ⟨1, .chain⟩ ?_ rfl; simp; done) | (refine hd ⟨1, .phase⟩ ?_ rfl; simp; done) | exact HF.out.2.2.2.2.2.2.1 hc8 | (have hy9 := HF.out.2.2.2.2.2.2.1 hc8; simp at hy9; simp [hy9]; done) | exact HF.out.2.2.2.2.2.2.2.1 hc9 | (have hy9 := HF.out.2.2.2.2.2.2.2.1 hc9; simp at hy9; simp [hy9]; done)
          have hc0 : b0 = true := by first | (refine hd ⟨0, .data⟩ ?_ rfl; simp; done) | (refine hd ⟨0, .chain⟩ ?_ rfl; simp; done) | (refine hd ⟨0, .phase⟩ ?_ rfl; simp; done) | exact HF.out.2.2.2.2.2.1 hc7 | (have hy9 := HF.out.2.2.2.2.2.1 hc7; simp at hy9; simp [hy9]; done) | exact HF.out.2.2.2.2.2.2.1 hc8 | (have hy9 := HF.out.2.2.2.2.2.2.1 hc8; simp at hy9; simp [hy9]; done) | exact HF.out.2.2.2.2.2.2.2.1 hc9 | (have hy9 := HF.out.2.2.2.2.2.2.2.1 hc9; simp at hy9; simp [hy9]; done)
          subst hc10 hc9 hc8 hc7 hc6 hc5 hc4 hc3 hc2 hc1 hc0
          clear hl hd ho hL
          simp only [sel_t, sel_f]
          refine wpOp_step rfl ?_
          intro K' hK'
          go_simp
          exact hK' _ _ ⟨true, true, true, true, true, true, true, true, true, true, true, x5, rfl, rfl, Lib.hid ⟨HF.out.1, HF.out.2.1, HF.out.2.2.1, (fun h => by have := HF.out.2.2.2.1 h; simpa using this), (fun h => by have := HF.out.2.2.2.2.1 h; simpa using this), (fun h => by have := HF.out.2.2.2.2.2.1 h; simpa using this), (fun h => by have := HF.out.2.2.2.2.2.2.1 h; simpa using this), (fun h => by have := HF.out.2.2.2.2.2.2.2.1 h; simpa using this), (fun _ => rfl)⟩⟩
      · rintro L A9 w' hL ⟨b0, b1, b2, b3, b4, b5, b6, b7, b8, b9, b10, x5, rfl, rfl, HF⟩ hall
        have hc0 : b0 = true := hall 0 (by decide)
        have hc1 : b1 = true := hall 1 (by decide)
        have hc2 : b2 = true := hall 2 (by decide)
        have hc3 : b3 = true := hall 3 (by decide)
        have hc4 : b4 = true := hall 4 (by decide)
        have hc5 : b5 = true := hall 5 (by decide)
        have hc6 : b6 = true := hall 6 (by decide)
        have hc7 : b7 = true := hall 7 (by decide)
        have hc8 : b8 = true := hall 8 (by decide)
        have hc9 : b9 = true := hall 9 (by decide)
        have hc10 : b10 = true := hall 10 (by decide)
        subst hc0 hc1 hc2 hc3 hc4 hc5 hc6 hc7 hc8 hc9 hc10
        simp only [sel_t]
        have HD := Lib.hid ((HF.out.2.2.1 rfl).1 x5)
        have c0 := (HF.out.2.2.1 rfl).2.1
        have c1 := (HF.out.2.2.1 rfl).2.2
        clear HF
        try simp only [Exit.inBlock, Exit.then]
        go_wp2
        try simp only [Exit.inBlock, Exit.then]
        refine bodyPost_ret (v := .tuple #[.agg #[.int .i64 n1, .slice va es.length vc], .int .i64 m, .int .i64 s, .int .i64 x5]) ?_ rfl HD.out
        rw [results_cttt rfl]
        go_simp
theorem drawnC4_out {w w0 w1 : World} {n m a b : Int} {es : List Ed} {v : Value} (hb : Below w.heap.size w w0) (hlt : w.heap.size < w0.heap.size) (hb1 : Below w0.heap.size w0 w1) (hl : es.length ≤ 41) (hrow : InR true w1 w0.heap.size w1.heap.size v es.length 3 (cellE es)) (hok : okS v) :
    DrawnC4 w (.returned (.tuple #[.agg #[.int .i64 n, v], .int .i64 m, .int .i64 a, .int .i64 b])) ((w1.setCell ⟨w.heap.size, 0, none⟩ (.int .i64 n)).setCell ⟨w.heap.size, 1, none⟩ v) := by
  refine ⟨n, es, v, m, a, b, rfl, hl, ?_, hok, ((bel_trans hb hb1).setCell (by simp) _).setCell (by simp) _⟩
  have h1 := ((hrow.set8 (k := 0) (u := .int .i64 n) hlt).set8 (k := 1) (u := v) hlt)
  exact h1.wider (by omega) (by simp) (Nat.le_refl _)
end Go.Proofs.Ytlgjcofpdaljnaa
