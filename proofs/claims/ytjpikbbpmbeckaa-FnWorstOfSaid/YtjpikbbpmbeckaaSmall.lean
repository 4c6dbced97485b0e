-- XSmall: l8Small of the model (gen/gensmall.py)
import Derived.Test.YtjpikbbpmbeckaaCase3

namespace Go.Proofs.Ytjpikbbpmbeckaa
open Go.RowKit Go.BigFrame Go.Deep
set_option linter.unusedVariables false
set_option linter.unusedSimpArgs false
set_option linter.unnecessarySimpa false

/-- A graph and a number are drawn. -/
def DrawnM2 (w : World) (e : Ending) (w' : World) : Prop :=
  ∃ (n : Int) (es : List Ed) (v : Value) (m : Int), e = .returned (.tuple #[.agg #[.int .i64 n, v], .int .i64 m]) ∧ es.length ≤ 41 ∧ InR true w' w.heap.size w'.heap.size v es.length 3 (cellE es) ∧ okS v ∧ Below w.heap.size w w'
theorem results_ct {fn : Func} {p t : Tmp} {ty : TypeId} (h : fn.results = #[.cell p ty, .tmp t]) (tmps : Array Value) (P : Program) (w : World) :
    (results fn tmps).run P w = ((asAddr (tmps.getD p undef)).run P w).andThen fun a w₁ => ((loadVar ty a).run P w₁).andThen fun v w₂ => .ok (.tuple #[v, tmps.getD t undef]) w₂ := by
  simp only [results, h]
  simp
theorem drawnM2_of {w w0 w8 w9 : World} {g q : Nat} {n m : Int} {es : List Ed} {v : Value} (hb : Below w.heap.size w w0) (hR : Rd w0 w9 g q)
    (hrow : InR true w9 w8.heap.size w9.heap.size v es.length 3 (cellE es)) (hok : okS v) (hl : es.length ≤ 41) (hs : w.heap.size < w8.heap.size) :
    DrawnM2 w (.returned (.tuple #[.agg #[.int .i64 n, v], .int .i64 m])) ((w9.setCell ⟨w.heap.size, 0, none⟩ (.int .i64 n)).setCell ⟨w.heap.size, 1, none⟩ v) := by
  refine ⟨n, es, v, m, rfl, hl, ?_, hok, ((bel_trans hb hR.bel).setCell (by simp) _).setCell (by simp) _⟩
  have h1 := ((hrow.set8 (k := 0) (u := .int .i64 n) hs).set8 (k := 1) (u := v) hs)
  exact h1.wider (by omega) (by simp) (Nat.le_refl _)
/-- What PutEdge has given, if it was put. -/
def PMid (w' : World) (n m : Int) (v : Value) (es : List Ed) (ok : Bool) (lo hi : Nat) : Prop :=
  ok = true → m = n ∧ gVal n es = true ∧ InR true w' lo hi v es.length 3 (cellE es) ∧ okS v
theorem PMid.keep {w' w9 : World} {n m : Int} {v : Value} {es : List Ed} {ok : Bool} {lo hi : Nat} (h : PMid w' n m v es ok lo hi) (hb : Below w'.heap.size w' w9) : PMid w9 n m v es ok lo hi :=
  fun e => ⟨(h e).1, (h e).2.1, InR.keep (h e).2.2.1 hb, (h e).2.2.2⟩
theorem PMid.set2 {w' : World} {n m : Int} {v u0 u1 : Value} {es : List Ed} {ok : Bool} {lo hi B : Nat} (h : PMid w' n m v es ok lo hi) (hd : B < lo ∨ hi ≤ B)  : PMid ((w'.setCell ⟨B, 0, none⟩ u0).setCell ⟨B, 1, none⟩ u1) n m v es ok lo hi :=
  fun e => ⟨(h e).1, (h e).2.1, (h e).2.2.1.chg (l := B) (h := B + 1) (((Chg.refl B (B + 1) w').setCell (p := ⟨B, 0, none⟩) (by simp) (by simp) u0).setCell (p := ⟨B, 1, none⟩) (by simp) (by simp) u1) hd, (h e).2.2.2⟩
theorem pMid_of {w w5 : World} {n : Int} {es : List Ed} {x y z : Int} {v : Value} (hg : gVal n es = true) (h : OwnE w w5 v (putL n es (x, y, z))) (hok : okS v) :
    PMid w5 n (putN n es (x, y, z)) v (putL n es (x, y, z)) (putB n es (x, y, z)) w.heap.size w5.heap.size := by
  refine fun hpb => ⟨by unfold putN; rw [if_pos hpb], ?_, h, hok⟩
  rw [show putL n es (x, y, z) = pL es (x, y, z) by unfold putL; rw [if_pos hpb], gVal_put hg]
  unfold putB at hpb
  rw [hg, Bool.true_and] at hpb
  exact hpb
set_option maxRecDepth 20000 in
set_option maxHeartbeats 8000000 in
theorem l8Small (a : Option Addr) (nn cap : Nat) (w : World) (hb : Bytes w a nn) (hcap : nn ≤ cap) (hn : nn ≤ 281474976710656) :
    Calls Try.prog 78 #[.slice a nn cap] w (DrawnM2 w) := by
  have hbx := Box.new w 50 #[.int .i64 0, .slice none 0 0]
  have hbl : Below w.heap.size w (w.alloc (.cells #[.int .i64 0, .slice none 0 0] 50)) := (Below.refl _ _).alloc (Nat.le_refl _) _
  have hgv0 : ∀ n ∈ [4, 3, 5, 2, 1], gVal n [] = true := by decide
  have HV0 := Lib.hid hgv0
  have HC := Lib.hid hb
  clear hb hgv0
  go_enter Try.func78, Try.ntmps78
  go_wp2_with fail
  generalize (w.alloc (.cells #[.int .i64 0, .slice none 0 0] 50)) = w0 at hbx hbl ⊢
  refine (l15Open a nn cap w0 (HC.out.keepB hbl) hcap hn).mono ?_
  rintro e w1 ⟨g, rfl, hR⟩
  have hs0 : w.heap.size < w0.heap.size := hbx.lt
  have hg0 := hR.new
  have hs01 := hR.bel.size
  have HBL := Lib.hid hbl
  have K1 := Lib.hid (And.intro hR (hbx.keep hR.bel))
  clear hbx hR hbl
  go_wp2_with fail
  refine (num_built [4, 3, 5, 2, 1] w0 w1 g 0 K1.out.1 (by omega) _ (by decide) (by decide)).mono ?_
  rintro e w2 ⟨n0, hn0, rfl, hR, hG⟩
  have hs2 := hG.size
  have hglt1 := K1.out.1.lt
  have HV1 := Lib.hid (HV0.out n0 hn0)
  have H2 := Lib.hid (And.intro hR (K1.out.2.grownG hG (by omega)))
  clear hn0 hR hG HV0
  go_wp2_with fail
  have hG3 := g_alloc (grown_refl w2 g) (.cells #[.int .i64 n0, .slice none 0 0] 50)
  have hB3 := Box.new w2 50 #[.int .i64 n0, .slice none 0 0]
  have K3 := Lib.hid (And.intro (H2.out.1.alloc' (.cells #[.int .i64 n0, .slice none 0 0] 50)) (And.intro (H2.out.2.grownG hG3 (by omega)) hB3))
  have hs3 : w2.heap.size + 1 = (w2.alloc (.cells #[.int .i64 n0, .slice none 0 0] 50)).heap.size := by simp
  clear hG3 hB3
  generalize (w2.alloc (.cells #[.int .i64 n0, .slice none 0 0] 50)) = w3 at K3 hs3 ⊢
  refine (num_at [6, 4, 9, 2, 0] w0 w3 g _ _ hs3 K3.out.1 (by omega) _ (by decide) (by decide)).mono ?_
  rintro e w4 ⟨i0, hi0, rfl, hR, hG⟩
  obtain ⟨I, hI, hI9⟩ : ∃ I : Nat, i0 = (I : Int) ∧ I ≤ 9 := by
    refine ⟨i0.toNat, ?_, ?_⟩ <;> simp at hi0 <;> omega
  subst hI
  have hs4 := hG.size
  have hB4 := K3.out.2.2.grownG hG (by omega)
  have HM : Hid (GMid (w2.heap.size + 1) w2.heap.size w4) := Lib.hid ⟨n0, [], none, 0, w2.heap.size + 1, w2.heap.size + 1, hB4, HV1.out, ⟨none, 0, rfl, .inl rfl⟩, okS_none, Nat.le_refl _, by omega, .inr (by omega)⟩
  have HQ : Hid (Rd w0 w4 g (40 - 3 * I) ∧ Box w4 w.heap.size 50 #[.int .i64 0, .slice none 0 0]) := Lib.hid ⟨hR.more (by omega), K3.out.2.1.grownG hG (by omega)⟩
  clear hi0 hR hG hB4 K3
  go_wp2
  go_loopw [6] (fun c wr => ∃ i : Nat, i ≤ 9 ∧ c = .int .i64 i ∧ Hid (GMid (w2.heap.size + 1) w2.heap.size wr) ∧ Hid (Rd w0 wr g (40 - 3 * i) ∧ Box wr w.heap.size 50 #[.int .i64 0, .slice none 0 0])) (fun c _ => (intOf c).toNat)
  case atStart => exact ⟨I, hI9, rfl, HM, HQ⟩
  case round =>
    obtain ⟨i, hi, rfl, HV, HZ⟩ := hrel
    obtain ⟨n, es, va, vc, lo, hi', hbx, hgv, hrow, hok, hlo, hhi, hdj⟩ := HV.out
    have HX := Lib.hid hbx
    have HR := Lib.hid hrow
    have HO := Lib.hid hok
    have HGV := Lib.hid hgv
    have hn12 : n ≤ 12 := by simp only [gVal, Bool.and_eq_true, decide_eq_true_eq] at hgv; exact hgv.1.2
    have h40 := (gVal_iff.1 hgv).1.2.2
    have hlt3 : w2.heap.size < wr.heap.size := hbx.lt
    clear hbx hrow hok hgv HM HQ
    by_cases hpos : 0 < i
    · have hpos' : (0 : Int) < i := by omega
      have HRr : Hid (Rd w0 wr g (40 - 3 * i)) := Lib.hid HZ.out.1
      go_upto_region 6 with fail
      refine wp_region_inv (fun L A9 w' => ∃ (b0 b1 b2 b3 b4 b5 b6 b7 b8 b9 b10 b11 b12 b13 b14 b15 b16 b17 b18 b19 : Bool) (x4 : Int) (x8 : Int) (x11 : Int) (yy : Nat) (ee : Nat) (m9 : Int) (pa9 : Option Addr) (pc9 : Nat) (es9 : List Ed) (ok9 : Bool) (lo9 : Nat) (hi9 : Nat), L = #[b0, b1, b2, b3, b4, b5, b6, b7, b8, b9, b10, b11, b12, b13, b14, b15, b16, b17, b18, b19] ∧ A9 = { tmps := #[Value.slice a nn cap, undef, Value.pointer (some ⟨w.heap.size, 0, none⟩), Value.int .i64 0, Value.pointer (some ⟨g, 0, none⟩), Value.pointer (some ⟨w2.heap.size, 0, none⟩), Value.int .i64 i, sel b17 (Value.pointer (some ⟨ee, 0, none⟩)) u7, sel b19 (Value.bool ok9) u8, Value.slice a nn cap, Value.pointer (some ⟨g, 0, none⟩), Value.pointer (some ⟨g, 0, none⟩), Value.slice (some ⟨w1.heap.size, 0, none⟩) 5 5, Value.int .i64 n0, Value.agg #[.int .i64 n0, .slice none 0 0], Value.pointer (some ⟨g, 0, none⟩), Value.slice (some ⟨w3.heap.size, 0, none⟩) 5 5, Value.int .i64 I, Value.int .i64 i, Value.bool true, u20, u21, sel b14 (Value.tuple #[.agg #[.int .i64 m9, .slice pa9 es9.length pc9], .bool ok9]) u22, sel b0 (Value.agg #[.int .i64 n, .slice va es.length vc]) u23, sel b1 (Value.pointer (some ⟨g, 0, none⟩)) u24, sel b2 (Value.pointer (some ⟨w2.heap.size, 0, none⟩)) u25, sel b3 (Value.int .i64 n) u26, sel b4 (Value.int .i64 x4) u27, sel b5 (Value.pointer (some ⟨g, 0, none⟩)) u28, sel b6 (Value.pointer (some ⟨w2.heap.size, 0, none⟩)) u29, sel b7 (Value.int .i64 n) u30, sel b8 (Value.int .i64 x8) u31, sel b9 (Value.pointer (some ⟨g, 0, none⟩)) u32, sel b10 (Value.slice (some ⟨yy, 0, none⟩) 6 6) u33, sel b11 (Value.int .i64 x11) u34, sel b12 (Value.agg #[.int .i64 x4, .int .i64 x8, .int .i64 x11]) u35, sel b13 (Value.tuple #[.agg #[.int .i64 m9, .slice pa9 es9.length pc9], .bool ok9]) u36, sel b15 (Value.agg #[.int .i64 m9, .slice pa9 es9.length pc9]) u37, sel b16 (Value.bool ok9) u38, u39, u40, undef, undef, undef, undef, undef, undef, undef], defers := [] } ∧ Hid ((Rd w0 w' g (40 - 3 * i + b4.toNat + b8.toNat + b11.toNat)) ∧ (wr.grownBy w' (some g)) ∧ (b10 = true → b11 = false → RowN w' g (.slice (some ⟨yy, 0, none⟩) 6 6) [1, 5, 3, 2, 10, 50]) ∧ (b17 = true → wr.heap.size ≤ ee ∧ ee < w'.heap.size) ∧ (b17 = true → b18 = false → Box w' ee 50 #[.int .i64 0, .slice none 0 0]) ∧ (b18 = true → Box w' ee 50 #[.int .i64 m9, .slice pa9 es9.length pc9]) ∧ (b13 = true → PMid w' n m9 (.slice pa9 es9.length pc9) es9 ok9 lo9 hi9) ∧ (b13 = true → b17 = true → ee < lo9 ∨ hi9 ≤ ee) ∧ (b13 = true → wr.heap.size ≤ lo9 ∧ hi9 ≤ w'.heap.size) ∧ (b3 = true → (b2) = true) ∧ (b4 = true → (b1 && b3) = true) ∧ (b7 = true → (b6) = true) ∧ (b8 = true → (b4 && b5 && b7) = true) ∧ (b11 = true → (b8 && b9 && b10) = true) ∧ (b12 = true → (b4 && b8 && b11) = true) ∧ (b13 = true → (b0 && b11 && b12) = true) ∧ (b14 = true → (b13) = true) ∧ (b15 = true → (b14) = true) ∧ (b16 = true → (b14) = true) ∧ (b18 = true → (b11 && b12 && b13 && b14 && b15 && b17) = true) ∧ (b19 = true → (b16) = true))) (by kernel_rfl) (by kernel_rfl) ?_ ?_ ?_
      · exact ⟨false, false, false, false, false, false, false, false, false, false, false, false, false, false, false, false, false, false, false, false, 0, 0, 0, 0, 0, 0, none, 0, [], false, 0, 0, rfl, rfl, Lib.hid ⟨(Rd.drew' HRr.out), (g_drew (grown_refl _ _)), (fun h => absurd h (by decide)), (fun h => absurd h (by decide)), (fun h => absurd h (by decide)), (fun h => absurd h (by decide)), (fun h => absurd h (by decide)), (fun h => absurd h (by decide)), (fun h => absurd h (by decide)), (fun h => absurd h (by decide)), (fun h => absurd h (by decide)), (fun h => absurd h (by decide)), (fun h => absurd h (by decide)), (fun h => absurd h (by decide)), (fun h => absurd h (by decide)), (fun h => absurd h (by decide)), (fun h => absurd h (by decide)), (fun h => absurd h (by decide)), (fun h => absurd h (by decide)), (fun h => absurd h (by decide)), (fun h => absurd h (by decide))⟩⟩
      · rintro L A9 w' hL ⟨b0, b1, b2, b3, b4, b5, b6, b7, b8, b9, b10, b11, b12, b13, b14, b15, b16, b17, b18, b19, x4, x8, x11, yy, ee, m9, pa9, pc9, es9, ok9, lo9, hi9, rfl, rfl, HF⟩ k9 o9 ho hl hd
        have hk9 : k9 = 0 ∨ k9 = 1 ∨ k9 = 2 ∨ k9 = 3 ∨ k9 = 4 ∨ k9 = 5 ∨ k9 = 6 ∨ k9 = 7 ∨ k9 = 8 ∨ k9 = 9 ∨ k9 = 10 ∨ k9 = 11 ∨ k9 = 12 ∨ k9 = 13 ∨ k9 = 14 ∨ k9 = 15 ∨ k9 = 16 ∨ k9 = 17 ∨ k9 = 18 ∨ k9 = 19 := by have := (Array.getElem?_eq_some_iff.1 ho).1; simp at this; omega
        rcases hk9 with rfl | rfl | rfl | rfl | rfl | rfl | rfl | rfl | rfl | rfl | rfl | rfl | rfl | rfl | rfl | rfl | rfl | rfl | rfl | rfl
        · obtain rfl := Option.some.inj ho
          have hc0 : b0 = false := hl
          subst hc0
          have hc13 : b13 = false := by cases hx9 : b13 with | false => rfl | true => (have hy9 := HF.out.2.2.2.2.2.2.2.2.2.2.2.2.2.2.2.1 hx9; simp at hy9)
          subst hc13
          have hc14 : b14 = false := by cases hx9 : b14 with | false => rfl | true => (have hy9 := HF.out.2.2.2.2.2.2.2.2.2.2.2.2.2.2.2.2.1 hx9; simp at hy9)
          subst hc14
          have hc15 : b15 = false := by cases hx9 : b15 with | false => rfl | true => (have hy9 := HF.out.2.2.2.2.2.2.2.2.2.2.2.2.2.2.2.2.2.1 hx9; simp at hy9)
          subst hc15
          have hc16 : b16 = false := by cases hx9 : b16 with | false => rfl | true => (have hy9 := HF.out.2.2.2.2.2.2.2.2.2.2.2.2.2.2.2.2.2.2.1 hx9; simp at hy9)
          subst hc16
          have hc18 : b18 = false := by cases hx9 : b18 with | false => rfl | true => (have hy9 := HF.out.2.2.2.2.2.2.2.2.2.2.2.2.2.2.2.2.2.2.2.1 hx9; simp at hy9)
          subst hc18
          have hc19 : b19 = false := by cases hx9 : b19 with | false => rfl | true => (have hy9 := HF.out.2.2.2.2.2.2.2.2.2.2.2.2.2.2.2.2.2.2.2.2 hx9; simp at hy9)
          subst hc19
          clear hl hd ho hL
          simp only [sel_t, sel_f]
          have hX9 := HX.out.grownG HF.out.2.1 (by omega)
          have x0 : w'.cell? ⟨w2.heap.size, 0, none⟩ = some (.int .i64 n) := by simpa using hX9.cell 0
          have x1 : w'.cell? ⟨w2.heap.size, 1, none⟩ = some (.slice va es.length vc) := by simpa using hX9.cell 1
          clear hX9
          refine wpOp_step rfl ?_
          intro K' hK'
          go_simp
          exact hK' _ _ ⟨true, b1, b2, b3, b4, b5, b6, b7, b8, b9, b10, b11, b12, false, false, false, false, b17, false, false, x4, x8, x11, yy, ee, m9, pa9, pc9, es9, ok9, lo9, hi9, rfl, rfl, Lib.hid ⟨HF.out.1, HF.out.2.1, HF.out.2.2.1, HF.out.2.2.2.1, HF.out.2.2.2.2.1, HF.out.2.2.2.2.2.1, HF.out.2.2.2.2.2.2.1, HF.out.2.2.2.2.2.2.2.1, HF.out.2.2.2.2.2.2.2.2.1, HF.out.2.2.2.2.2.2.2.2.2.1, HF.out.2.2.2.2.2.2.2.2.2.2.1, HF.out.2.2.2.2.2.2.2.2.2.2.2.1, HF.out.2.2.2.2.2.2.2.2.2.2.2.2.1, HF.out.2.2.2.2.2.2.2.2.2.2.2.2.2.1, HF.out.2.2.2.2.2.2.2.2.2.2.2.2.2.2.1, (fun h => absurd h (by decide)), (fun h => absurd h (by decide)), (fun h => absurd h (by decide)), (fun h => absurd h (by decide)), (fun h => absurd h (by decide)), (fun h => absurd h (by decide))⟩⟩
        · obtain rfl := Option.some.inj ho
          have hc1 : b1 = false := hl
          subst hc1
          have hc4 : b4 = false := by cases hx9 : b4 with | false => rfl | true => (have hy9 := HF.out.2.2.2.2.2.2.2.2.2.2.1 hx9; simp at hy9)
          subst hc4
          have hc8 : b8 = false := by cases hx9 : b8 with | false => rfl | true => (have hy9 := HF.out.2.2.2.2.2.2.2.2.2.2.2.2.1 hx9; simp at hy9)
          subst hc8
          have hc11 : b11 = false := by cases hx9 : b11 with | false => rfl | true => (have hy9 := HF.out.2.2.2.2.2.2.2.2.2.2.2.2.2.1 hx9; simp at hy9)
          subst hc11
          have hc12 : b12 = false := by cases hx9 : b12 with | false => rfl | true => (have hy9 := HF.out.2.2.2.2.2.2.2.2.2.2.2.2.2.2.1 hx9; simp at hy9)
          subst hc12
          have hc13 : b13 = false := by cases hx9 : b13 with | false => rfl | true => (have hy9 := HF.out.2.2.2.2.2.2.2.2.2.2.2.2.2.2.2.1 hx9; simp at hy9)
          subst hc13
          have hc14 : b14 = false := by cases hx9 : b14 with | false => rfl | true => (have hy9 := HF.out.2.2.2.2.2.2.2.2.2.2.2.2.2.2.2.2.1 hx9; simp at hy9)
          subst hc14
          have hc15 : b15 = false := by cases hx9 : b15 with | false => rfl | true => (have hy9 := HF.out.2.2.2.2.2.2.2.2.2.2.2.2.2.2.2.2.2.1 hx9; simp at hy9)
          subst hc15
          have hc16 : b16 = false := by cases hx9 : b16 with | false => rfl | true => (have hy9 := HF.out.2.2.2.2.2.2.2.2.2.2.2.2.2.2.2.2.2.2.1 hx9; simp at hy9)
          subst hc16
          have hc18 : b18 = false := by cases hx9 : b18 with | false => rfl | true => (have hy9 := HF.out.2.2.2.2.2.2.2.2.2.2.2.2.2.2.2.2.2.2.2.1 hx9; simp at hy9)
          subst hc18
          have hc19 : b19 = false := by cases hx9 : b19 with | false => rfl | true => (have hy9 := HF.out.2.2.2.2.2.2.2.2.2.2.2.2.2.2.2.2.2.2.2.2 hx9; simp at hy9)
          subst hc19
          clear hl hd ho hL
          simp only [sel_t, sel_f]
          refine wpOp_step rfl ?_
          intro K' hK'
          go_simp
          exact hK' _ _ ⟨b0, true, b2, b3, false, b5, b6, b7, false, b9, b10, false, false, false, false, false, false, b17, false, false, x4, x8, x11, yy, ee, m9, pa9, pc9, es9, ok9, lo9, hi9, rfl, rfl, Lib.hid ⟨HF.out.1, HF.out.2.1, HF.out.2.2.1, HF.out.2.2.2.1, HF.out.2.2.2.2.1, HF.out.2.2.2.2.2.1, HF.out.2.2.2.2.2.2.1, HF.out.2.2.2.2.2.2.2.1, HF.out.2.2.2.2.2.2.2.2.1, HF.out.2.2.2.2.2.2.2.2.2.1, (fun h => absurd h (by decide)), HF.out.2.2.2.2.2.2.2.2.2.2.2.1, (fun h => absurd h (by decide)), (fun h => absurd h (by decide)), (fun h => absurd h (by decide)), (fun h => absurd h (by decide)), (fun h => absurd h (by decide)), (fun h => absurd h (by decide)), (fun h => absurd h (by decide)), (fun h => absurd h (by decide)), (fun h => absurd h (by decide))⟩⟩
        · obtain rfl := Option.some.inj ho
          have hc2 : b2 = false := hl
          subst hc2
          have hc3 : b3 = false := by cases hx9 : b3 with | false => rfl | true => (have hy9 := HF.out.2.2.2.2.2.2.2.2.2.1 hx9; simp at hy9)
          subst hc3
          have hc4 : b4 = false := by cases hx9 : b4 with | false => rfl | true => (have hy9 := HF.out.2.2.2.2.2.2.2.2.2.2.1 hx9; simp at hy9)
          subst hc4
          have hc8 : b8 = false := by cases hx9 : b8 with | false => rfl | true => (have hy9 := HF.out.2.2.2.2.2.2.2.2.2.2.2.2.1 hx9; simp at hy9)
          subst hc8
          have hc11 : b11 = false := by cases hx9 : b11 with | false => rfl | true => (have hy9 := HF.out.2.2.2.2.2.2.2.2.2.2.2.2.2.1 hx9; simp at hy9)
          subst hc11
          have hc12 : b12 = false := by cases hx9 : b12 with | false => rfl | true => (have hy9 := HF.out.2.2.2.2.2.2.2.2.2.2.2.2.2.2.1 hx9; simp at hy9)
          subst hc12
          have hc13 : b13 = false := by cases hx9 : b13 with | false => rfl | true => (have hy9 := HF.out.2.2.2.2.2.2.2.2.2.2.2.2.2.2.2.1 hx9; simp at hy9)
          subst hc13
          have hc14 : b14 = false := by cases hx9 : b14 with | false => rfl | true => (have hy9 := HF.out.2.2.2.2.2.2.2.2.2.2.2.2.2.2.2.2.1 hx9; simp at hy9)
          subst hc14
          have hc15 : b15 = false := by cases hx9 : b15 with | false => rfl | true => (have hy9 := HF.out.2.2.2.2.2.2.2.2.2.2.2.2.2.2.2.2.2.1 hx9; simp at hy9)
          subst hc15
          have hc16 : b16 = false := by cases hx9 : b16 with | false => rfl | true => (have hy9 := HF.out.2.2.2.2.2.2.2.2.2.2.2.2.2.2.2.2.2.2.1 hx9; simp at hy9)
          subst hc16
          have hc18 : b18 = false := by cases hx9 : b18 with | false => rfl | true => (have hy9 := HF.out.2.2.2.2.2.2.2.2.2.2.2.2.2.2.2.2.2.2.2.1 hx9; simp at hy9)
          subst hc18
          have hc19 : b19 = false := by cases hx9 : b19 with | false => rfl | true => (have hy9 := HF.out.2.2.2.2.2.2.2.2.2.2.2.2.2.2.2.2.2.2.2.2 hx9; simp at hy9)
          subst hc19
          clear hl hd ho hL
          simp only [sel_t, sel_f]
          refine wpOp_step rfl ?_
          intro K' hK'
          go_simp
          exact hK' _ _ ⟨b0, b1, true, false, false, b5, b6, b7, false, b9, b10, false, false, false, false, false, false, b17, false, false, x4, x8, x11, yy, ee, m9, pa9, pc9, es9, ok9, lo9, hi9, rfl, rfl, Lib.hid ⟨HF.out.1, HF.out.2.1, HF.out.2.2.1, HF.out.2.2.2.1, HF.out.2.2.2.2.1, HF.out.2.2.2.2.2.1, HF.out.2.2.2.2.2.2.1, HF.out.2.2.2.2.2.2.2.1, HF.out.2.2.2.2.2.2.2.2.1, (fun h => absurd h (by decide)), (fun h => absurd h (by decide)), HF.out.2.2.2.2.2.2.2.2.2.2.2.1, (fun h => absurd h (by decide)), (fun h => absurd h (by decide)), (fun h => absurd h (by decide)), (fun h => absurd h (by decide)), (fun h => absurd h (by decide)), (fun h => absurd h (by decide)), (fun h => absurd h (by decide)), (fun h => absurd h (by decide)), (fun h => absurd h (by decide))⟩⟩
        · obtain rfl := Option.some.inj ho
          have hc3 : b3 = false := hl
          have hc2 : b2 = true := by first | (refine hd ⟨2, .data⟩ ?_ rfl; simp; done) | (refine hd ⟨2, .chain⟩ ?_ rfl; simp; done) | (refine hd ⟨2, .phase⟩ ?_ rfl; simp; done)
          subst hc3 hc2
          have hc4 : b4 = false := by cases hx9 : b4 with | false => rfl | true => (have hy9 := HF.out.2.2.2.2.2.2.2.2.2.2.1 hx9; simp at hy9)
          subst hc4
          have hc8 : b8 = false := by cases hx9 : b8 with | false => rfl | true => (have hy9 := HF.out.2.2.2.2.2.2.2.2.2.2.2.2.1 hx9; simp at hy9)
          subst hc8
          have hc11 : b11 = false := by cases hx9 : b11 with | false => rfl | true => (have hy9 := HF.out.2.2.2.2.2.2.2.2.2.2.2.2.2.1 hx9; simp at hy9)
          subst hc11
          have hc12 : b12 = false := by cases hx9 : b12 with | false => rfl | true => (have hy9 := HF.out.2.2.2.2.2.2.2.2.2.2.2.2.2.2.1 hx9; simp at hy9)
          subst hc12
          have hc13 : b13 = false := by cases hx9 : b13 with | false => rfl | true => (have hy9 := HF.out.2.2.2.2.2.2.2.2.2.2.2.2.2.2.2.1 hx9; simp at hy9)
          subst hc13
          have hc14 : b14 = false := by cases hx9 : b14 with | false => rfl | true => (have hy9 := HF.out.2.2.2.2.2.2.2.2.2.2.2.2.2.2.2.2.1 hx9; simp at hy9)
          subst hc14
          have hc15 : b15 = false := by cases hx9 : b15 with | false => rfl | true => (have hy9 := HF.out.2.2.2.2.2.2.2.2.2.2.2.2.2.2.2.2.2.1 hx9; simp at hy9)
          subst hc15
          have hc16 : b16 = false := by cases hx9 : b16 with | false => rfl | true => (have hy9 := HF.out.2.2.2.2.2.2.2.2.2.2.2.2.2.2.2.2.2.2.1 hx9; simp at hy9)
          subst hc16
          have hc18 : b18 = false := by cases hx9 : b18 with | false => rfl | true => (have hy9 := HF.out.2.2.2.2.2.2.2.2.2.2.2.2.2.2.2.2.2.2.2.1 hx9; simp at hy9)
          subst hc18
          have hc19 : b19 = false := by cases hx9 : b19 with | false => rfl | true => (have hy9 := HF.out.2.2.2.2.2.2.2.2.2.2.2.2.2.2.2.2.2.2.2.2 hx9; simp at hy9)
          subst hc19
          clear hl hd ho hL
          simp only [sel_t, sel_f]
          have hX9 := HX.out.grownG HF.out.2.1 (by omega)
          have x0 : w'.cell? ⟨w2.heap.size, 0, none⟩ = some (.int .i64 n) := by simpa using hX9.cell 0
          clear hX9
          refine wpOp_step rfl ?_
          intro K' hK'
          go_simp
          exact hK' _ _ ⟨b0, b1, true, true, false, b5, b6, b7, false, b9, b10, false, false, false, false, false, false, b17, false, false, x4, x8, x11, yy, ee, m9, pa9, pc9, es9, ok9, lo9, hi9, rfl, rfl, Lib.hid ⟨HF.out.1, HF.out.2.1, HF.out.2.2.1, HF.out.2.2.2.1, HF.out.2.2.2.2.1, HF.out.2.2.2.2.2.1, HF.out.2.2.2.2.2.2.1, HF.out.2.2.2.2.2.2.2.1, HF.out.2.2.2.2.2.2.2.2.1, (fun _ => rfl), (fun h => absurd h (by decide)), HF.out.2.2.2.2.2.2.2.2.2.2.2.1, (fun h => absurd h (by decide)), (fun h => absurd h (by decide)), (fun h => absurd h (by decide)), (fun h => absurd h (by decide)), (fun h => absurd h (by decide)), (fun h => absurd h (by decide)), (fun h => absurd h (by decide)), (fun h => absurd h (by decide)), (fun h => absurd h (by decide))⟩⟩
        · obtain rfl := Option.some.inj ho
          have hc4 : b4 = false := hl
          have hc3 : b3 = true := by first | (refine hd ⟨3, .data⟩ ?_ rfl; simp; done) | (refine hd ⟨3, .chain⟩ ?_ rfl; simp; done) | (refine hd ⟨3, .phase⟩ ?_ rfl; simp; done)
          have hc1 : b1 = true := by first | (refine hd ⟨1, .data⟩ ?_ rfl; simp; done) | (refine hd ⟨1, .chain⟩ ?_ rfl; simp; done) | (refine hd ⟨1, .phase⟩ ?_ rfl; simp; done)
          subst hc4 hc3 hc1
          have hc8 : b8 = false := by cases hx9 : b8 with | false => rfl | true => (have hy9 := HF.out.2.2.2.2.2.2.2.2.2.2.2.2.1 hx9; simp at hy9)
          subst hc8
          have hc11 : b11 = false := by cases hx9 : b11 with | false => rfl | true => (have hy9 := HF.out.2.2.2.2.2.2.2.2.2.2.2.2.2.1 hx9; simp at hy9)
          subst hc11
          have hc12 : b12 = false := by cases hx9 : b12 with | false => rfl | true => (have hy9 := HF.out.2.2.2.2.2.2.2.2.2.2.2.2.2.2.1 hx9; simp at hy9)
          subst hc12
          have hc13 : b13 = false := by cases hx9 : b13 with | false => rfl | true => (have hy9 := HF.out.2.2.2.2.2.2.2.2.2.2.2.2.2.2.2.1 hx9; simp at hy9)
          subst hc13
          have hc14 : b14 = false := by cases hx9 : b14 with | false => rfl | true => (have hy9 := HF.out.2.2.2.2.2.2.2.2.2.2.2.2.2.2.2.2.1 hx9; simp at hy9)
          subst hc14
          have hc15 : b15 = false := by cases hx9 : b15 with | false => rfl | true => (have hy9 := HF.out.2.2.2.2.2.2.2.2.2.2.2.2.2.2.2.2.2.1 hx9; simp at hy9)
          subst hc15
          have hc16 : b16 = false := by cases hx9 : b16 with | false => rfl | true => (have hy9 := HF.out.2.2.2.2.2.2.2.2.2.2.2.2.2.2.2.2.2.2.1 hx9; simp at hy9)
          subst hc16
          have hc18 : b18 = false := by cases hx9 : b18 with | false => rfl | true => (have hy9 := HF.out.2.2.2.2.2.2.2.2.2.2.2.2.2.2.2.2.2.2.2.1 hx9; simp at hy9)
          subst hc18
          have hc19 : b19 = false := by cases hx9 : b19 with | false => rfl | true => (have hy9 := HF.out.2.2.2.2.2.2.2.2.2.2.2.2.2.2.2.2.2.2.2.2 hx9; simp at hy9)
          subst hc19
          clear hl hd ho hL
          simp only [sel_t, sel_f]
          have hcall := pick n w0 w' g _ HF.out.1 (by simp only [Bool.toNat_false, Bool.toNat_true]; omega) (by omega)
          have HC9 := Lib.hid hcall
          clear hcall
          refine wpOp_step rfl ?_
          intro K' hK'
          go_simp
          refine HC9.out.mono ?_
          rintro e9 w9 ⟨x9, rfl, hx9, hy9, hR9, hG9⟩
          exact hK' _ _ ⟨b0, true, b2, true, true, b5, b6, b7, false, b9, b10, false, false, false, false, false, false, b17, false, false, x9, x8, x11, yy, ee, m9, pa9, pc9, es9, ok9, lo9, hi9, rfl, rfl, Lib.hid ⟨(hR9.more (by simp only [Bool.toNat_false, Bool.toNat_true]; omega)), (grown_trans' HF.out.2.1 hG9), (fun h h0 => (HF.out.2.2.1 h h0).grown hG9), (fun h => ⟨(HF.out.2.2.2.1 h).1, Nat.lt_of_lt_of_le (HF.out.2.2.2.1 h).2 hG9.size⟩), (fun h h0 => (HF.out.2.2.2.2.1 h rfl).grownG hG9 (by have := (HF.out.2.2.2.1 h).1; omega)), (fun h => absurd h (by decide)), (fun h => absurd h (by decide)), (fun h => absurd h (by decide)), (fun h => absurd h (by decide)), HF.out.2.2.2.2.2.2.2.2.2.1, (fun _ => rfl), HF.out.2.2.2.2.2.2.2.2.2.2.2.1, (fun h => absurd h (by decide)), (fun h => absurd h (by decide)), (fun h => absurd h (by decide)), (fun h => absurd h (by decide)), (fun h => absurd h (by decide)), (fun h => absurd h (by decide)), (fun h => absurd h (by decide)), (fun h => absurd h (by decide)), (fun h => absurd h (by decide))⟩⟩
        · obtain rfl := Option.some.inj ho
          have hc5 : b5 = false := hl
          subst hc5
          have hc8 : b8 = false := by cases hx9 : b8 with | false => rfl | true => (have hy9 := HF.out.2.2.2.2.2.2.2.2.2.2.2.2.1 hx9; simp at hy9)
          subst hc8
          have hc11 : b11 = false := by cases hx9 : b11 with | false => rfl | true => (have hy9 := HF.out.2.2.2.2.2.2.2.2.2.2.2.2.2.1 hx9; simp at hy9)
          subst hc11
          have hc12 : b12 = false := by cases hx9 : b12 with | false => rfl | true => (have hy9 := HF.out.2.2.2.2.2.2.2.2.2.2.2.2.2.2.1 hx9; simp at hy9)
          subst hc12
          have hc13 : b13 = false := by cases hx9 : b13 with | false => rfl | true => (have hy9 := HF.out.2.2.2.2.2.2.2.2.2.2.2.2.2.2.2.1 hx9; simp at hy9)
          subst hc13
          have hc14 : b14 = false := by cases hx9 : b14 with | false => rfl | true => (have hy9 := HF.out.2.2.2.2.2.2.2.2.2.2.2.2.2.2.2.2.1 hx9; simp at hy9)
          subst hc14
          have hc15 : b15 = false := by cases hx9 : b15 with | false => rfl | true => (have hy9 := HF.out.2.2.2.2.2.2.2.2.2.2.2.2.2.2.2.2.2.1 hx9; simp at hy9)
          subst hc15
          have hc16 : b16 = false := by cases hx9 : b16 with | false => rfl | true => (have hy9 := HF.out.2.2.2.2.2.2.2.2.2.2.2.2.2.2.2.2.2.2.1 hx9; simp at hy9)
          subst hc16
          have hc18 : b18 = false := by cases hx9 : b18 with | false => rfl | true => (have hy9 := HF.out.2.2.2.2.2.2.2.2.2.2.2.2.2.2.2.2.2.2.2.1 hx9; simp at hy9)
          subst hc18
          have hc19 : b19 = false := by cases hx9 : b19 with | false => rfl | true => (have hy9 := HF.out.2.2.2.2.2.2.2.2.2.2.2.2.2.2.2.2.2.2.2.2 hx9; simp at hy9)
          subst hc19
          clear hl hd ho hL
          simp only [sel_t, sel_f]
          refine wpOp_step rfl ?_
          intro K' hK'
          go_simp
          exact hK' _ _ ⟨b0, b1, b2, b3, b4, true, b6, b7, false, b9, b10, false, false, false, false, false, false, b17, false, false, x4, x8, x11, yy, ee, m9, pa9, pc9, es9, ok9, lo9, hi9, rfl, rfl, Lib.hid ⟨HF.out.1, HF.out.2.1, HF.out.2.2.1, HF.out.2.2.2.1, HF.out.2.2.2.2.1, HF.out.2.2.2.2.2.1, HF.out.2.2.2.2.2.2.1, HF.out.2.2.2.2.2.2.2.1, HF.out.2.2.2.2.2.2.2.2.1, HF.out.2.2.2.2.2.2.2.2.2.1, HF.out.2.2.2.2.2.2.2.2.2.2.1, HF.out.2.2.2.2.2.2.2.2.2.2.2.1, (fun h => absurd h (by decide)), (fun h => absurd h (by decide)), (fun h => absurd h (by decide)), (fun h => absurd h (by decide)), (fun h => absurd h (by decide)), (fun h => absurd h (by decide)), (fun h => absurd h (by decide)), (fun h => absurd h (by decide)), (fun h => absurd h (by decide))⟩⟩
        · obtain rfl := Option.some.inj ho
          have hc6 : b6 = false := hl
          subst hc6
          have hc7 : b7 = false := by cases hx9 : b7 with | false => rfl | true => (have hy9 := HF.out.2.2.2.2.2.2.2.2.2.2.2.1 hx9; simp at hy9)
          subst hc7
          have hc8 : b8 = false := by cases hx9 : b8 with | false => rfl | true => (have hy9 := HF.out.2.2.2.2.2.2.2.2.2.2.2.2.1 hx9; simp at hy9)
          subst hc8
          have hc11 : b11 = false := by cases hx9 : b11 with | false => rfl | true => (have hy9 := HF.out.2.2.2.2.2.2.2.2.2.2.2.2.2.1 hx9; simp at hy9)
          subst hc11
          have hc12 : b12 = false := by cases hx9 : b12 with | false => rfl | true => (have hy9 := HF.out.2.2.2.2.2.2.2.2.2.2.2.2.2.2.1 hx9; simp at hy9)
          subst hc12
          have hc13 : b13 = false := by cases hx9 : b13 with | false => rfl | true => (have hy9 := HF.out.2.2.2.2.2.2.2.2.2.2.2.2.2.2.2.1 hx9; simp at hy9)
          subst hc13
          have hc14 : b14 = false := by cases hx9 : b14 with | false => rfl | true => (have hy9 := HF.out.2.2.2.2.2.2.2.2.2.2.2.2.2.2.2.2.1 hx9; simp at hy9)
          subst hc14
          have hc15 : b15 = false := by cases hx9 : b15 with | false => rfl | true => (have hy9 := HF.out.2.2.2.2.2.2.2.2.2.2.2.2.2.2.2.2.2.1 hx9; simp at hy9)
          subst hc15
          have hc16 : b16 = false := by cases hx9 : b16 with | false => rfl | true => (have hy9 := HF.out.2.2.2.2.2.2.2.2.2.2.2.2.2.2.2.2.2.2.1 hx9; simp at hy9)
          subst hc16
          have hc18 : b18 = false := by cases hx9 : b18 with | false => rfl | true => (have hy9 := HF.out.2.2.2.2.2.2.2.2.2.2.2.2.2.2.2.2.2.2.2.1 hx9; simp at hy9)
          subst hc18
          have hc19 : b19 = false := by cases hx9 : b19 with | false => rfl | true => (have hy9 := HF.out.2.2.2.2.2.2.2.2.2.2.2.2.2.2.2.2.2.2.2.2 hx9; simp at hy9)
          subst hc19
          clear hl hd ho hL
          simp only [sel_t, sel_f]
          refine wpOp_step rfl ?_
          intro K' hK'
          go_simp
          exact hK' _ _ ⟨b0, b1, b2, b3, b4, b5, true, false, false, b9, b10, false, false, false, false, false, false, b17, false, false, x4, x8, x11, yy, ee, m9, pa9, pc9, es9, ok9, lo9, hi9, rfl, rfl, Lib.hid ⟨HF.out.1, HF.out.2.1, HF.out.2.2.1, HF.out.2.2.2.1, HF.out.2.2.2.2.1, HF.out.2.2.2.2.2.1, HF.out.2.2.2.2.2.2.1, HF.out.2.2.2.2.2.2.2.1, HF.out.2.2.2.2.2.2.2.2.1, HF.out.2.2.2.2.2.2.2.2.2.1, HF.out.2.2.2.2.2.2.2.2.2.2.1, (fun h => absurd h (by decide)), (fun h => absurd h (by decide)), (fun h => absurd h (by decide)), (fun h => absurd h (by decide)), (fun h => absurd h (by decide)), (fun h => absurd h (by decide)), (fun h => absurd h (by decide)), (fun h => absurd h (by decide)), (fun h => absurd h (by decide)), (fun h => absurd h (by decide))⟩⟩
        · obtain rfl := Option.some.inj ho
          have hc7 : b7 = false := hl
          have hc6 : b6 = true := by first | (refine hd ⟨6, .data⟩ ?_ rfl; simp; done) | (refine hd ⟨6, .chain⟩ ?_ rfl; simp; done) | (refine hd ⟨6, .phase⟩ ?_ rfl; simp; done)
          subst hc7 hc6
          have hc8 : b8 = false := by cases hx9 : b8 with | false => rfl | true => (have hy9 := HF.out.2.2.2.2.2.2.2.2.2.2.2.2.1 hx9; simp at hy9)
          subst hc8
          have hc11 : b11 = false := by cases hx9 : b11 with | false => rfl | true => (have hy9 := HF.out.2.2.2.2.2.2.2.2.2.2.2.2.2.1 hx9; simp at hy9)
          subst hc11
          have hc12 : b12 = false := by cases hx9 : b12 with | false => rfl | true => (have hy9 := HF.out.2.2.2.2.2.2.2.2.2.2.2.2.2.2.1 hx9; simp at hy9)
          subst hc12
          have hc13 : b13 = false := by cases hx9 : b13 with | false => rfl | true => (have hy9 := HF.out.2.2.2.2.2.2.2.2.2.2.2.2.2.2.2.1 hx9; simp at hy9)
          subst hc13
          have hc14 : b14 = false := by cases hx9 : b14 with | false => rfl | true => (have hy9 := HF.out.2.2.2.2.2.2.2.2.2.2.2.2.2.2.2.2.1 hx9; simp at hy9)
          subst hc14
          have hc15 : b15 = false := by cases hx9 : b15 with | false => rfl | true => (have hy9 := HF.out.2.2.2.2.2.2.2.2.2.2.2.2.2.2.2.2.2.1 hx9; simp at hy9)
          subst hc15
          have hc16 : b16 = false := by cases hx9 : b16 with | false => rfl | true => (have hy9 := HF.out.2.2.2.2.2.2.2.2.2.2.2.2.2.2.2.2.2.2.1 hx9; simp at hy9)
          subst hc16
          have hc18 : b18 = false := by cases hx9 : b18 with | false => rfl | true => (have hy9 := HF.out.2.2.2.2.2.2.2.2.2.2.2.2.2.2.2.2.2.2.2.1 hx9; simp at hy9)
          subst hc18
          have hc19 : b19 = false := by cases hx9 : b19 with | false => rfl | true => (have hy9 := HF.out.2.2.2.2.2.2.2.2.2.2.2.2.2.2.2.2.2.2.2.2 hx9; simp at hy9)
          subst hc19
          clear hl hd ho hL
          simp only [sel_t, sel_f]
          have hX9 := HX.out.grownG HF.out.2.1 (by omega)
          have x0 : w'.cell? ⟨w2.heap.size, 0, none⟩ = some (.int .i64 n) := by simpa using hX9.cell 0
          clear hX9
          refine wpOp_step rfl ?_
          intro K' hK'
          go_simp
          exact hK' _ _ ⟨b0, b1, b2, b3, b4, b5, true, true, false, b9, b10, false, false, false, false, false, false, b17, false, false, x4, x8, x11, yy, ee, m9, pa9, pc9, es9, ok9, lo9, hi9, rfl, rfl, Lib.hid ⟨HF.out.1, HF.out.2.1, HF.out.2.2.1, HF.out.2.2.2.1, HF.out.2.2.2.2.1, HF.out.2.2.2.2.2.1, HF.out.2.2.2.2.2.2.1, HF.out.2.2.2.2.2.2.2.1, HF.out.2.2.2.2.2.2.2.2.1, HF.out.2.2.2.2.2.2.2.2.2.1, HF.out.2.2.2.2.2.2.2.2.2.2.1, (fun _ => rfl), (fun h => absurd h (by decide)), (fun h => absurd h (by decide)), (fun h => absurd h (by decide)), (fun h => absurd h (by decide)), (fun h => absurd h (by decide)), (fun h => absurd h (by decide)), (fun h => absurd h (by decide)), (fun h => absurd h (by decide)), (fun h => absurd h (by decide))⟩⟩
        · obtain rfl := Option.some.inj ho
          have hc8 : b8 = false := hl
          have hc7 : b7 = true := by first | (refine hd ⟨7, .data⟩ ?_ rfl; simp; done) | (refine hd ⟨7, .chain⟩ ?_ rfl; simp; done) | (refine hd ⟨7, .phase⟩ ?_ rfl; simp; done)
          have hc5 : b5 = true := by first | (refine hd ⟨5, .data⟩ ?_ rfl; simp; done) | (refine hd ⟨5, .chain⟩ ?_ rfl; simp; done) | (refine hd ⟨5, .phase⟩ ?_ rfl; simp; done)
          have hc4 : b4 = true := by first | (refine hd ⟨4, .data⟩ ?_ rfl; simp; done) | (refine hd ⟨4, .chain⟩ ?_ rfl; simp; done) | (refine hd ⟨4, .phase⟩ ?_ rfl; simp; done)
          subst hc8 hc7 hc5 hc4
          have hc11 : b11 = false := by cases hx9 : b11 with | false => rfl | true => (have hy9 := HF.out.2.2.2.2.2.2.2.2.2.2.2.2.2.1 hx9; simp at hy9)
          subst hc11
          have hc12 : b12 = false := by cases hx9 : b12 with | false => rfl | true => (have hy9 := HF.out.2.2.2.2.2.2.2.2.2.2.2.2.2.2.1 hx9; simp at hy9)
          subst hc12
          have hc13 : b13 = false := by cases hx9 : b13 with | false => rfl | true => (have hy9 := HF.out.2.2.2.2.2.2.2.2.2.2.2.2.2.2.2.1 hx9; simp at hy9)
          subst hc13
          have hc14 : b14 = false := by cases hx9 : b14 with | false => rfl | true => (have hy9 := HF.out.2.2.2.2.2.2.2.2.2.2.2.2.2.2.2.2.1 hx9; simp at hy9)
          subst hc14
          have hc15 : b15 = false := by cases hx9 : b15 with | false => rfl | true => (have hy9 := HF.out.2.2.2.2.2.2.2.2.2.2.2.2.2.2.2.2.2.1 hx9; simp at hy9)
          subst hc15
          have hc16 : b16 = false := by cases hx9 : b16 with | false => rfl | true => (have hy9 := HF.out.2.2.2.2.2.2.2.2.2.2.2.2.2.2.2.2.2.2.1 hx9; simp at hy9)
          subst hc16
          have hc18 : b18 = false := by cases hx9 : b18 with | false => rfl | true => (have hy9 := HF.out.2.2.2.2.2.2.2.2.2.2.2.2.2.2.2.2.2.2.2.1 hx9; simp at hy9)
          subst hc18
          have hc19 : b19 = false := by cases hx9 : b19 with | false => rfl | true => (have hy9 := HF.out.2.2.2.2.2.2.2.2.2.2.2.2.2.2.2.2.2.2.2.2 hx9; simp at hy9)
          subst hc19
          clear hl hd ho hL
          simp only [sel_t, sel_f]
          have hcall := pick n w0 w' g _ HF.out.1 (by simp only [Bool.toNat_false, Bool.toNat_true]; omega) (by omega)
          have HC9 := Lib.hid hcall
          clear hcall
          refine wpOp_step rfl ?_
          intro K' hK'
          go_simp
          refine HC9.out.mono ?_
          rintro e9 w9 ⟨x9, rfl, hx9, hy9, hR9, hG9⟩
          exact hK' _ _ ⟨b0, b1, b2, b3, true, true, b6, true, true, b9, b10, false, false, false, false, false, false, b17, false, false, x4, x9, x11, yy, ee, m9, pa9, pc9, es9, ok9, lo9, hi9, rfl, rfl, Lib.hid ⟨(hR9.more (by simp only [Bool.toNat_false, Bool.toNat_true]; omega)), (grown_trans' HF.out.2.1 hG9), (fun h h0 => (HF.out.2.2.1 h h0).grown hG9), (fun h => ⟨(HF.out.2.2.2.1 h).1, Nat.lt_of_lt_of_le (HF.out.2.2.2.1 h).2 hG9.size⟩), (fun h h0 => (HF.out.2.2.2.2.1 h rfl).grownG hG9 (by have := (HF.out.2.2.2.1 h).1; omega)), (fun h => absurd h (by decide)), (fun h => absurd h (by decide)), (fun h => absurd h (by decide)), (fun h => absurd h (by decide)), HF.out.2.2.2.2.2.2.2.2.2.1, HF.out.2.2.2.2.2.2.2.2.2.2.1, HF.out.2.2.2.2.2.2.2.2.2.2.2.1, (fun _ => rfl), (fun h => absurd h (by decide)), (fun h => absurd h (by decide)), (fun h => absurd h (by decide)), (fun h => absurd h (by decide)), (fun h => absurd h (by decide)), (fun h => absurd h (by decide)), (fun h => absurd h (by decide)), (fun h => absurd h (by decide))⟩⟩
        · obtain rfl := Option.some.inj ho
          have hc9 : b9 = false := hl
          subst hc9
          have hc11 : b11 = false := by cases hx9 : b11 with | false => rfl | true => (have hy9 := HF.out.2.2.2.2.2.2.2.2.2.2.2.2.2.1 hx9; simp at hy9)
          subst hc11
          have hc12 : b12 = false := by cases hx9 : b12 with | false => rfl | true => (have hy9 := HF.out.2.2.2.2.2.2.2.2.2.2.2.2.2.2.1 hx9; simp at hy9)
          subst hc12
          have hc13 : b13 = false := by cases hx9 : b13 with | false => rfl | true => (have hy9 := HF.out.2.2.2.2.2.2.2.2.2.2.2.2.2.2.2.1 hx9; simp at hy9)
          subst hc13
          have hc14 : b14 = false := by cases hx9 : b14 with | false => rfl | true => (have hy9 := HF.out.2.2.2.2.2.2.2.2.2.2.2.2.2.2.2.2.1 hx9; simp at hy9)
          subst hc14
          have hc15 : b15 = false := by cases hx9 : b15 with | false => rfl | true => (have hy9 := HF.out.2.2.2.2.2.2.2.2.2.2.2.2.2.2.2.2.2.1 hx9; simp at hy9)
          subst hc15
          have hc16 : b16 = false := by cases hx9 : b16 with | false => rfl | true => (have hy9 := HF.out.2.2.2.2.2.2.2.2.2.2.2.2.2.2.2.2.2.2.1 hx9; simp at hy9)
          subst hc16
          have hc18 : b18 = false := by cases hx9 : b18 with | false => rfl | true => (have hy9 := HF.out.2.2.2.2.2.2.2.2.2.2.2.2.2.2.2.2.2.2.2.1 hx9; simp at hy9)
          subst hc18
          have hc19 : b19 = false := by cases hx9 : b19 with | false => rfl | true => (have hy9 := HF.out.2.2.2.2.2.2.2.2.2.2.2.2.2.2.2.2.2.2.2.2 hx9; simp at hy9)
          subst hc19
          clear hl hd ho hL
          simp only [sel_t, sel_f]
          refine wpOp_step rfl ?_
          intro K' hK'
          go_simp
          exact hK' _ _ ⟨b0, b1, b2, b3, b4, b5, b6, b7, b8, true, b10, false, false, false, false, false, false, b17, false, false, x4, x8, x11, yy, ee, m9, pa9, pc9, es9, ok9, lo9, hi9, rfl, rfl, Lib.hid ⟨HF.out.1, HF.out.2.1, HF.out.2.2.1, HF.out.2.2.2.1, HF.out.2.2.2.2.1, HF.out.2.2.2.2.2.1, HF.out.2.2.2.2.2.2.1, HF.out.2.2.2.2.2.2.2.1, HF.out.2.2.2.2.2.2.2.2.1, HF.out.2.2.2.2.2.2.2.2.2.1, HF.out.2.2.2.2.2.2.2.2.2.2.1, HF.out.2.2.2.2.2.2.2.2.2.2.2.1, HF.out.2.2.2.2.2.2.2.2.2.2.2.2.1, (fun h => absurd h (by decide)), (fun h => absurd h (by decide)), (fun h => absurd h (by decide)), (fun h => absurd h (by decide)), (fun h => absurd h (by decide)), (fun h => absurd h (by decide)), (fun h => absurd h (by decide)), (fun h => absurd h (by decide))⟩⟩
        · obtain rfl := Option.some.inj ho
          have hc10 : b10 = false := hl
          subst hc10
          have hc11 : b11 = false := by cases hx9 : b11 with | false => rfl | true => (have hy9 := HF.out.2.2.2.2.2.2.2.2.2.2.2.2.2.1 hx9; simp at hy9)
          subst hc11
          have hc12 : b12 = false := by cases hx9 : b12 with | false => rfl | true => (have hy9 := HF.out.2.2.2.2.2.2.2.2.2.2.2.2.2.2.1 hx9; simp at hy9)
          subst hc12
          have hc13 : b13 = false := by cases hx9 : b13 with | false => rfl | true => (have hy9 := HF.out.2.2.2.2.2.2.2.2.2.2.2.2.2.2.2.1 hx9; simp at hy9)
          subst hc13
          have hc14 : b14 = false := by cases hx9 : b14 with | false => rfl | true => (have hy9 := HF.out.2.2.2.2.2.2.2.2.2.2.2.2.2.2.2.2.1 hx9; simp at hy9)
          subst hc14
          have hc15 : b15 = false := by cases hx9 : b15 with | false => rfl | true => (have hy9 := HF.out.2.2.2.2.2.2.2.2.2.2.2.2.2.2.2.2.2.1 hx9; simp at hy9)
          subst hc15
          have hc16 : b16 = false := by cases hx9 : b16 with | false => rfl | true => (have hy9 := HF.out.2.2.2.2.2.2.2.2.2.2.2.2.2.2.2.2.2.2.1 hx9; simp at hy9)
          subst hc16
          have hc18 : b18 = false := by cases hx9 : b18 with | false => rfl | true => (have hy9 := HF.out.2.2.2.2.2.2.2.2.2.2.2.2.2.2.2.2.2.2.2.1 hx9; simp at hy9)
          subst hc18
          have hc19 : b19 = false := by cases hx9 : b19 with | false => rfl | true => (have hy9 := HF.out.2.2.2.2.2.2.2.2.2.2.2.2.2.2.2.2.2.2.2.2 hx9; simp at hy9)
          subst hc19
          clear hl hd ho hL
          simp only [sel_t, sel_f]
          refine wpOp_step rfl ?_
          intro K' hK'
          go_simp
          exact hK' _ _ ⟨b0, b1, b2, b3, b4, b5, b6, b7, b8, b9, true, false, false, false, false, false, false, b17, false, false, x4, x8, x11, w'.heap.size, ee, m9, pa9, pc9, es9, ok9, lo9, hi9, rfl, rfl, Lib.hid ⟨(HF.out.1.alloc' _), (g_alloc HF.out.2.1 _), (fun _ _ => rowN_at [1, 5, 3, 2, 10, 50] w' g _ _ rfl HF.out.1.lt), (fun h => ⟨(HF.out.2.2.2.1 h).1, Nat.lt_of_lt_of_le (HF.out.2.2.2.1 h).2 (by simp)⟩), (fun h h0 => (HF.out.2.2.2.2.1 h rfl).alloc _), (fun h => absurd h (by decide)), (fun h => absurd h (by decide)), (fun h => absurd h (by decide)), (fun h => absurd h (by decide)), HF.out.2.2.2.2.2.2.2.2.2.1, HF.out.2.2.2.2.2.2.2.2.2.2.1, HF.out.2.2.2.2.2.2.2.2.2.2.2.1, HF.out.2.2.2.2.2.2.2.2.2.2.2.2.1, (fun h => absurd h (by decide)), (fun h => absurd h (by decide)), (fun h => absurd h (by decide)), (fun h => absurd h (by decide)), (fun h => absurd h (by decide)), (fun h => absurd h (by decide)), (fun h => absurd h (by decide)), (fun h => absurd h (by decide))⟩⟩
        · obtain rfl := Option.some.inj ho
          have hc11 : b11 = false := hl
          have hc10 : b10 = true := by first | (refine hd ⟨10, .data⟩ ?_ rfl; simp; done) | (refine hd ⟨10, .chain⟩ ?_ rfl; simp; done) | (refine hd ⟨10, .phase⟩ ?_ rfl; simp; done)
          have hc9 : b9 = true := by first | (refine hd ⟨9, .data⟩ ?_ rfl; simp; done) | (refine hd ⟨9, .chain⟩ ?_ rfl; simp; done) | (refine hd ⟨9, .phase⟩ ?_ rfl; simp; done)
          have hc8 : b8 = true := by first | (refine hd ⟨8, .data⟩ ?_ rfl; simp; done) | (refine hd ⟨8, .chain⟩ ?_ rfl; simp; done) | (refine hd ⟨8, .phase⟩ ?_ rfl; simp; done)
          subst hc11 hc10 hc9 hc8
          have hc12 : b12 = false := by cases hx9 : b12 with | false => rfl | true => (have hy9 := HF.out.2.2.2.2.2.2.2.2.2.2.2.2.2.2.1 hx9; simp at hy9)
          subst hc12
          have hc13 : b13 = false := by cases hx9 : b13 with | false => rfl | true => (have hy9 := HF.out.2.2.2.2.2.2.2.2.2.2.2.2.2.2.2.1 hx9; simp at hy9)
          subst hc13
          have hc14 : b14 = false := by cases hx9 : b14 with | false => rfl | true => (have hy9 := HF.out.2.2.2.2.2.2.2.2.2.2.2.2.2.2.2.2.1 hx9; simp at hy9)
          subst hc14
          have hc15 : b15 = false := by cases hx9 : b15 with | false => rfl | true => (have hy9 := HF.out.2.2.2.2.2.2.2.2.2.2.2.2.2.2.2.2.2.1 hx9; simp at hy9)
          subst hc15
          have hc16 : b16 = false := by cases hx9 : b16 with | false => rfl | true => (have hy9 := HF.out.2.2.2.2.2.2.2.2.2.2.2.2.2.2.2.2.2.2.1 hx9; simp at hy9)
          subst hc16
          have hc18 : b18 = false := by cases hx9 : b18 with | false => rfl | true => (have hy9 := HF.out.2.2.2.2.2.2.2.2.2.2.2.2.2.2.2.2.2.2.2.1 hx9; simp at hy9)
          subst hc18
          have hc19 : b19 = false := by cases hx9 : b19 with | false => rfl | true => (have hy9 := HF.out.2.2.2.2.2.2.2.2.2.2.2.2.2.2.2.2.2.2.2.2 hx9; simp at hy9)
          subst hc19
          clear hl hd ho hL
          simp only [sel_t, sel_f]
          have hcall := num [1, 5, 3, 2, 10, 50] (.slice (some ⟨yy, 0, none⟩) 6 6) w0 w' g _ HF.out.1 (by have := b4.toNat_le; simp only [Bool.toNat_false, Bool.toNat_true]; omega) (HF.out.2.2.1 rfl rfl) (by decide) (by decide)
          have HC9 := Lib.hid hcall
          clear hcall
          refine wpOp_step rfl ?_
          intro K' hK'
          go_simp
          refine HC9.out.mono ?_
          rintro e9 w9 ⟨x9, hx9, rfl, hR9, hG9⟩
          exact hK' _ _ ⟨b0, b1, b2, b3, b4, b5, b6, b7, true, true, true, true, false, false, false, false, false, b17, false, false, x4, x8, x9, yy, ee, m9, pa9, pc9, es9, ok9, lo9, hi9, rfl, rfl, Lib.hid ⟨(hR9.more (by simp only [Bool.toNat_false, Bool.toNat_true]; omega)), (grown_trans' HF.out.2.1 hG9), (fun _ h => absurd h (by decide)), (fun h => ⟨(HF.out.2.2.2.1 h).1, Nat.lt_of_lt_of_le (HF.out.2.2.2.1 h).2 hG9.size⟩), (fun h h0 => (HF.out.2.2.2.2.1 h rfl).grownG hG9 (by have := (HF.out.2.2.2.1 h).1; omega)), (fun h => absurd h (by decide)), (fun h => absurd h (by decide)), (fun h => absurd h (by decide)), (fun h => absurd h (by decide)), HF.out.2.2.2.2.2.2.2.2.2.1, HF.out.2.2.2.2.2.2.2.2.2.2.1, HF.out.2.2.2.2.2.2.2.2.2.2.2.1, HF.out.2.2.2.2.2.2.2.2.2.2.2.2.1, (fun _ => rfl), (fun h => absurd h (by decide)), (fun h => absurd h (by decide)), (fun h => absurd h (by decide)), (fun h => absurd h (by decide)), (fun h => absurd h (by decide)), (fun h => absurd h (by decide)), (fun h => absurd h (by decide))⟩⟩
        · obtain rfl := Option.some.inj ho
          have hc12 : b12 = false := hl
          have hc11 : b11 = true := by first | (refine hd ⟨11, .data⟩ ?_ rfl; simp; done) | (refine hd ⟨11, .chain⟩ ?_ rfl; simp; done) | (refine hd ⟨11, .phase⟩ ?_ rfl; simp; done)
          have hc8 : b8 = true := by first | (refine hd ⟨8, .data⟩ ?_ rfl; simp; done) | (refine hd ⟨8, .chain⟩ ?_ rfl; simp; done) | (refine hd ⟨8, .phase⟩ ?_ rfl; simp; done) | exact HF.out.2.2.2.2.2.2.2.2.2.2.2.2.2.1 hc11 | (have hy9 := HF.out.2.2.2.2.2.2.2.2.2.2.2.2.2.1 hc11; simp at hy9; simp [hy9]; done)
          have hc4 : b4 = true := by first | (refine hd ⟨4, .data⟩ ?_ rfl; simp; done) | (refine hd ⟨4, .chain⟩ ?_ rfl; simp; done) | (refine hd ⟨4, .phase⟩ ?_ rfl; simp; done) | exact HF.out.2.2.2.2.2.2.2.2.2.2.2.2.1 hc8 | (have hy9 := HF.out.2.2.2.2.2.2.2.2.2.2.2.2.1 hc8; simp at hy9; simp [hy9]; done)
          subst hc12 hc11 hc8 hc4
          have hc13 : b13 = false := by cases hx9 : b13 with | false => rfl | true => (have hy9 := HF.out.2.2.2.2.2.2.2.2.2.2.2.2.2.2.2.1 hx9; simp at hy9)
          subst hc13
          have hc14 : b14 = false := by cases hx9 : b14 with | false => rfl | true => (have hy9 := HF.out.2.2.2.2.2.2.2.2.2.2.2.2.2.2.2.2.1 hx9; simp at hy9)
          subst hc14
          have hc15 : b15 = false := by cases hx9 : b15 with | false => rfl | true => (have hy9 := HF.out.2.2.2.2.2.2.2.2.2.2.2.2.2.2.2.2.2.1 hx9; simp at hy9)
          subst hc15
          have hc16 : b16 = false := by cases hx9 : b16 with | false => rfl | true => (have hy9 := HF.out.2.2.2.2.2.2.2.2.2.2.2.2.2.2.2.2.2.2.1 hx9; simp at hy9)
          subst hc16
          have hc18 : b18 = false := by cases hx9 : b18 with | false => rfl | true => (have hy9 := HF.out.2.2.2.2.2.2.2.2.2.2.2.2.2.2.2.2.2.2.2.1 hx9; simp at hy9)
          subst hc18
          have hc19 : b19 = false := by cases hx9 : b19 with | false => rfl | true => (have hy9 := HF.out.2.2.2.2.2.2.2.2.2.2.2.2.2.2.2.2.2.2.2.2 hx9; simp at hy9)
          subst hc19
          clear hl hd ho hL
          simp only [sel_t, sel_f]
          refine wpOp_step rfl ?_
          intro K' hK'
          go_simp
          exact hK' _ _ ⟨b0, b1, b2, b3, true, b5, b6, b7, true, b9, b10, true, true, false, false, false, false, b17, false, false, x4, x8, x11, yy, ee, m9, pa9, pc9, es9, ok9, lo9, hi9, rfl, rfl, Lib.hid ⟨HF.out.1, HF.out.2.1, HF.out.2.2.1, HF.out.2.2.2.1, HF.out.2.2.2.2.1, HF.out.2.2.2.2.2.1, HF.out.2.2.2.2.2.2.1, HF.out.2.2.2.2.2.2.2.1, HF.out.2.2.2.2.2.2.2.2.1, HF.out.2.2.2.2.2.2.2.2.2.1, HF.out.2.2.2.2.2.2.2.2.2.2.1, HF.out.2.2.2.2.2.2.2.2.2.2.2.1, (fun h => by have := HF.out.2.2.2.2.2.2.2.2.2.2.2.2.1 h; simpa using this), (fun h => by have := HF.out.2.2.2.2.2.2.2.2.2.2.2.2.2.1 h; simpa using this), (fun _ => rfl), (fun h => absurd h (by decide)), (fun h => absurd h (by decide)), (fun h => absurd h (by decide)), (fun h => absurd h (by decide)), (fun h => absurd h (by decide)), (fun h => absurd h (by decide))⟩⟩
        · obtain rfl := Option.some.inj ho
          have hc13 : b13 = false := hl
          have hc12 : b12 = true := by first | (refine hd ⟨12, .data⟩ ?_ rfl; simp; done) | (refine hd ⟨12, .chain⟩ ?_ rfl; simp; done) | (refine hd ⟨12, .phase⟩ ?_ rfl; simp; done)
          have hc11 : b11 = true := by first | (refine hd ⟨11, .data⟩ ?_ rfl; simp; done) | (refine hd ⟨11, .chain⟩ ?_ rfl; simp; done) | (refine hd ⟨11, .phase⟩ ?_ rfl; simp; done) | exact HF.out.2.2.2.2.2.2.2.2.2.2.2.2.2.2.1 hc12 | (have hy9 := HF.out.2.2.2.2.2.2.2.2.2.2.2.2.2.2.1 hc12; simp at hy9; simp [hy9]; done)
          have hc0 : b0 = true := by first | (refine hd ⟨0, .data⟩ ?_ rfl; simp; done) | (refine hd ⟨0, .chain⟩ ?_ rfl; simp; done) | (refine hd ⟨0, .phase⟩ ?_ rfl; simp; done)
          subst hc13 hc12 hc11 hc0
          have hc14 : b14 = false := by cases hx9 : b14 with | false => rfl | true => (have hy9 := HF.out.2.2.2.2.2.2.2.2.2.2.2.2.2.2.2.2.1 hx9; simp at hy9)
          subst hc14
          have hc15 : b15 = false := by cases hx9 : b15 with | false => rfl | true => (have hy9 := HF.out.2.2.2.2.2.2.2.2.2.2.2.2.2.2.2.2.2.1 hx9; simp at hy9)
          subst hc15
          have hc16 : b16 = false := by cases hx9 : b16 with | false => rfl | true => (have hy9 := HF.out.2.2.2.2.2.2.2.2.2.2.2.2.2.2.2.2.2.2.1 hx9; simp at hy9)
          subst hc16
          have hc18 : b18 = false := by cases hx9 : b18 with | false => rfl | true => (have hy9 := HF.out.2.2.2.2.2.2.2.2.2.2.2.2.2.2.2.2.2.2.2.1 hx9; simp at hy9)
          subst hc18
          have hc19 : b19 = false := by cases hx9 : b19 with | false => rfl | true => (have hy9 := HF.out.2.2.2.2.2.2.2.2.2.2.2.2.2.2.2.2.2.2.2.2 hx9; simp at hy9)
          subst hc19
          clear hl hd ho hL
          simp only [sel_t, sel_f]
          have hcall := sPutEdge n es x4 x8 x11 (.slice va es.length vc) w' (HR.out.chg (g_chgG HF.out.2.1) (.inl (by omega))).edges (by omega)
          have HC9 := Lib.hid hcall
          clear hcall
          refine wpOp_step rfl ?_
          intro K' hK'
          go_simp
          refine HC9.out.mono ?_
          rintro e9 w9 ⟨v8, rfl, hown9, hokv9, hb9⟩
          obtain ⟨pa8, pc8, rfl, hz9⟩ := id hown9
          have hp9 := pMid_of HGV.out hown9 hokv9
          exact hK' _ _ ⟨true, b1, b2, b3, b4, b5, b6, b7, b8, b9, b10, true, true, true, false, false, false, b17, false, false, x4, x8, x11, yy, ee, putN n es (x4, x8, x11), pa8, pc8, putL n es (x4, x8, x11), putB n es (x4, x8, x11), w'.heap.size, w9.heap.size, rfl, rfl, Lib.hid ⟨(HF.out.1.keep hb9), (g_below HF.out.2.1 hb9), (fun _ h => absurd h (by decide)), (fun h => ⟨(HF.out.2.2.2.1 h).1, Nat.lt_of_lt_of_le (HF.out.2.2.2.1 h).2 hb9.size⟩), (fun h h0 => (HF.out.2.2.2.2.1 h rfl).keep hb9), (fun h => absurd h (by decide)), (fun _ => hp9), (fun _ h => .inl (HF.out.2.2.2.1 h).2), (fun _ => ⟨HF.out.2.1.size, Nat.le_refl _⟩), HF.out.2.2.2.2.2.2.2.2.2.1, HF.out.2.2.2.2.2.2.2.2.2.2.1, HF.out.2.2.2.2.2.2.2.2.2.2.2.1, HF.out.2.2.2.2.2.2.2.2.2.2.2.2.1, HF.out.2.2.2.2.2.2.2.2.2.2.2.2.2.1, (fun h => by have := HF.out.2.2.2.2.2.2.2.2.2.2.2.2.2.2.1 h; simpa using this), (fun _ => rfl), (fun h => absurd h (by decide)), (fun h => absurd h (by decide)), (fun h => absurd h (by decide)), (fun h => absurd h (by decide)), (fun h => absurd h (by decide))⟩⟩
        · obtain rfl := Option.some.inj ho
          have hc14 : b14 = false := hl
          have hc13 : b13 = true := by first | (refine hd ⟨13, .data⟩ ?_ rfl; simp; done) | (refine hd ⟨13, .chain⟩ ?_ rfl; simp; done) | (refine hd ⟨13, .phase⟩ ?_ rfl; simp; done)
          subst hc14 hc13
          have hc15 : b15 = false := by cases hx9 : b15 with | false => rfl | true => (have hy9 := HF.out.2.2.2.2.2.2.2.2.2.2.2.2.2.2.2.2.2.1 hx9; simp at hy9)
          subst hc15
          have hc16 : b16 = false := by cases hx9 : b16 with | false => rfl | true => (have hy9 := HF.out.2.2.2.2.2.2.2.2.2.2.2.2.2.2.2.2.2.2.1 hx9; simp at hy9)
          subst hc16
          have hc18 : b18 = false := by cases hx9 : b18 with | false => rfl | true => (have hy9 := HF.out.2.2.2.2.2.2.2.2.2.2.2.2.2.2.2.2.2.2.2.1 hx9; simp at hy9)
          subst hc18
          have hc19 : b19 = false := by cases hx9 : b19 with | false => rfl | true => (have hy9 := HF.out.2.2.2.2.2.2.2.2.2.2.2.2.2.2.2.2.2.2.2.2 hx9; simp at hy9)
          subst hc19
          clear hl hd ho hL
          simp only [sel_t, sel_f]
          refine wpOp_step rfl ?_
          intro K' hK'
          go_simp
          exact hK' _ _ ⟨b0, b1, b2, b3, b4, b5, b6, b7, b8, b9, b10, b11, b12, true, true, false, false, b17, false, false, x4, x8, x11, yy, ee, m9, pa9, pc9, es9, ok9, lo9, hi9, rfl, rfl, Lib.hid ⟨HF.out.1, HF.out.2.1, HF.out.2.2.1, HF.out.2.2.2.1, HF.out.2.2.2.2.1, HF.out.2.2.2.2.2.1, HF.out.2.2.2.2.2.2.1, HF.out.2.2.2.2.2.2.2.1, HF.out.2.2.2.2.2.2.2.2.1, HF.out.2.2.2.2.2.2.2.2.2.1, HF.out.2.2.2.2.2.2.2.2.2.2.1, HF.out.2.2.2.2.2.2.2.2.2.2.2.1, HF.out.2.2.2.2.2.2.2.2.2.2.2.2.1, HF.out.2.2.2.2.2.2.2.2.2.2.2.2.2.1, HF.out.2.2.2.2.2.2.2.2.2.2.2.2.2.2.1, HF.out.2.2.2.2.2.2.2.2.2.2.2.2.2.2.2.1, (fun _ => rfl), (fun h => absurd h (by decide)), (fun h => absurd h (by decide)), (fun h => absurd h (by decide)), (fun h => absurd h (by decide))⟩⟩
        · obtain rfl := Option.some.inj ho
          have hc15 : b15 = false := hl
          have hc14 : b14 = true := by first | (refine hd ⟨14, .data⟩ ?_ rfl; simp; done) | (refine hd ⟨14, .chain⟩ ?_ rfl; simp; done) | (refine hd ⟨14, .phase⟩ ?_ rfl; simp; done)
          subst hc15 hc14
          have hc18 : b18 = false := by cases hx9 : b18 with | false => rfl | true => (have hy9 := HF.out.2.2.2.2.2.2.2.2.2.2.2.2.2.2.2.2.2.2.2.1 hx9; simp at hy9)
          subst hc18
          clear hl hd ho hL
          simp only [sel_t, sel_f]
          refine wpOp_step rfl ?_
          intro K' hK'
          go_simp
          exact hK' _ _ ⟨b0, b1, b2, b3, b4, b5, b6, b7, b8, b9, b10, b11, b12, b13, true, true, b16, b17, false, b19, x4, x8, x11, yy, ee, m9, pa9, pc9, es9, ok9, lo9, hi9, rfl, rfl, Lib.hid ⟨HF.out.1, HF.out.2.1, HF.out.2.2.1, HF.out.2.2.2.1, HF.out.2.2.2.2.1, HF.out.2.2.2.2.2.1, HF.out.2.2.2.2.2.2.1, HF.out.2.2.2.2.2.2.2.1, HF.out.2.2.2.2.2.2.2.2.1, HF.out.2.2.2.2.2.2.2.2.2.1, HF.out.2.2.2.2.2.2.2.2.2.2.1, HF.out.2.2.2.2.2.2.2.2.2.2.2.1, HF.out.2.2.2.2.2.2.2.2.2.2.2.2.1, HF.out.2.2.2.2.2.2.2.2.2.2.2.2.2.1, HF.out.2.2.2.2.2.2.2.2.2.2.2.2.2.2.1, HF.out.2.2.2.2.2.2.2.2.2.2.2.2.2.2.2.1, HF.out.2.2.2.2.2.2.2.2.2.2.2.2.2.2.2.2.1, (fun _ => rfl), (fun h => by have := HF.out.2.2.2.2.2.2.2.2.2.2.2.2.2.2.2.2.2.2.1 h; simpa using this), (fun h => absurd h (by decide)), HF.out.2.2.2.2.2.2.2.2.2.2.2.2.2.2.2.2.2.2.2.2⟩⟩
        · obtain rfl := Option.some.inj ho
          have hc16 : b16 = false := hl
          have hc14 : b14 = true := by first | (refine hd ⟨14, .data⟩ ?_ rfl; simp; done) | (refine hd ⟨14, .chain⟩ ?_ rfl; simp; done) | (refine hd ⟨14, .phase⟩ ?_ rfl; simp; done)
          subst hc16 hc14
          have hc19 : b19 = false := by cases hx9 : b19 with | false => rfl | true => (have hy9 := HF.out.2.2.2.2.2.2.2.2.2.2.2.2.2.2.2.2.2.2.2.2 hx9; simp at hy9)
          subst hc19
          clear hl hd ho hL
          simp only [sel_t, sel_f]
          refine wpOp_step rfl ?_
          intro K' hK'
          go_simp
          exact hK' _ _ ⟨b0, b1, b2, b3, b4, b5, b6, b7, b8, b9, b10, b11, b12, b13, true, b15, true, b17, b18, false, x4, x8, x11, yy, ee, m9, pa9, pc9, es9, ok9, lo9, hi9, rfl, rfl, Lib.hid ⟨HF.out.1, HF.out.2.1, HF.out.2.2.1, HF.out.2.2.2.1, HF.out.2.2.2.2.1, HF.out.2.2.2.2.2.1, HF.out.2.2.2.2.2.2.1, HF.out.2.2.2.2.2.2.2.1, HF.out.2.2.2.2.2.2.2.2.1, HF.out.2.2.2.2.2.2.2.2.2.1, HF.out.2.2.2.2.2.2.2.2.2.2.1, HF.out.2.2.2.2.2.2.2.2.2.2.2.1, HF.out.2.2.2.2.2.2.2.2.2.2.2.2.1, HF.out.2.2.2.2.2.2.2.2.2.2.2.2.2.1, HF.out.2.2.2.2.2.2.2.2.2.2.2.2.2.2.1, HF.out.2.2.2.2.2.2.2.2.2.2.2.2.2.2.2.1, HF.out.2.2.2.2.2.2.2.2.2.2.2.2.2.2.2.2.1, (fun h => by have := HF.out.2.2.2.2.2.2.2.2.2.2.2.2.2.2.2.2.2.1 h; simpa using this), (fun _ => rfl), (fun h => by have := HF.out.2.2.2.2.2.2.2.2.2.2.2.2.2.2.2.2.2.2.2.1 h; simpa using this), (fun h => absurd h (by decide))⟩⟩
        · obtain rfl := Option.some.inj ho
          have hc17 : b17 = false := hl
          subst hc17
          have hc18 : b18 = false := by cases hx9 : b18 with | false => rfl | true => (have hy9 := HF.out.2.2.2.2.2.2.2.2.2.2.2.2.2.2.2.2.2.2.2.1 hx9; simp at hy9)
          subst hc18
          clear hl hd ho hL
          simp only [sel_t, sel_f]
          refine wpOp_step rfl ?_
          intro K' hK'
          go_simp
          exact hK' _ _ ⟨b0, b1, b2, b3, b4, b5, b6, b7, b8, b9, b10, b11, b12, b13, b14, b15, b16, true, false, b19, x4, x8, x11, yy, w'.heap.size, m9, pa9, pc9, es9, ok9, lo9, hi9, rfl, rfl, Lib.hid ⟨(HF.out.1.alloc' _), (g_alloc HF.out.2.1 _), (fun h h0 => (HF.out.2.2.1 h h0).grown (g_alloc (grown_refl _ _) _)), (fun _ => ⟨HF.out.2.1.size, by simp⟩), (fun _ _ => Box.new w' _ _), (fun h => absurd h (by decide)), (fun h => (HF.out.2.2.2.2.2.2.1 h).keep ((Below.refl _ _).alloc (Nat.le_refl _) _)), (fun h _ => .inr (HF.out.2.2.2.2.2.2.2.2.1 h).2), (fun h => ⟨(HF.out.2.2.2.2.2.2.2.2.1 h).1, Nat.le_trans (HF.out.2.2.2.2.2.2.2.2.1 h).2 (by simp)⟩), HF.out.2.2.2.2.2.2.2.2.2.1, HF.out.2.2.2.2.2.2.2.2.2.2.1, HF.out.2.2.2.2.2.2.2.2.2.2.2.1, HF.out.2.2.2.2.2.2.2.2.2.2.2.2.1, HF.out.2.2.2.2.2.2.2.2.2.2.2.2.2.1, HF.out.2.2.2.2.2.2.2.2.2.2.2.2.2.2.1, HF.out.2.2.2.2.2.2.2.2.2.2.2.2.2.2.2.1, HF.out.2.2.2.2.2.2.2.2.2.2.2.2.2.2.2.2.1, HF.out.2.2.2.2.2.2.2.2.2.2.2.2.2.2.2.2.2.1, HF.out.2.2.2.2.2.2.2.2.2.2.2.2.2.2.2.2.2.2.1, (fun h => absurd h (by decide)), HF.out.2.2.2.2.2.2.2.2.2.2.2.2.2.2.2.2.2.2.2.2⟩⟩
        · obtain rfl := Option.some.inj ho
          have hc18 : b18 = false := hl
          have hc17 : b17 = true := by first | (refine hd ⟨17, .data⟩ ?_ rfl; simp; done) | (refine hd ⟨17, .chain⟩ ?_ rfl; simp; done) | (refine hd ⟨17, .phase⟩ ?_ rfl; simp; done)
          have hc15 : b15 = true := by first | (refine hd ⟨15, .data⟩ ?_ rfl; simp; done) | (refine hd ⟨15, .chain⟩ ?_ rfl; simp; done) | (refine hd ⟨15, .phase⟩ ?_ rfl; simp; done)
          have hc14 : b14 = true := by first | (refine hd ⟨14, .data⟩ ?_ rfl; simp; done) | (refine hd ⟨14, .chain⟩ ?_ rfl; simp; done) | (refine hd ⟨14, .phase⟩ ?_ rfl; simp; done) | exact HF.out.2.2.2.2.2.2.2.2.2.2.2.2.2.2.2.2.2.1 hc15 | (have hy9 := HF.out.2.2.2.2.2.2.2.2.2.2.2.2.2.2.2.2.2.1 hc15; simp at hy9; simp [hy9]; done)
          have hc13 : b13 = true := by first | (refine hd ⟨13, .data⟩ ?_ rfl; simp; done) | (refine hd ⟨13, .chain⟩ ?_ rfl; simp; done) | (refine hd ⟨13, .phase⟩ ?_ rfl; simp; done) | exact HF.out.2.2.2.2.2.2.2.2.2.2.2.2.2.2.2.2.1 hc14 | (have hy9 := HF.out.2.2.2.2.2.2.2.2.2.2.2.2.2.2.2.2.1 hc14; simp at hy9; simp [hy9]; done)
          have hc12 : b12 = true := by first | (refine hd ⟨12, .data⟩ ?_ rfl; simp; done) | (refine hd ⟨12, .chain⟩ ?_ rfl; simp; done) | (refine hd ⟨12, .phase⟩ ?_ rfl; simp; done) | exact HF.out.2.2.2.2.2.2.2.2.2.2.2.2.2.2.2.1 hc13 | (have hy9 := HF.out.2.2.2.2.2.2.2.2.2.2.2.2.2.2.2.1 hc13; simp at hy9; simp [hy9]; done)
          have hc11 : b11 = true := by first | (refine hd ⟨11, .data⟩ ?_ rfl; simp; done) | (refine hd ⟨11, .chain⟩ ?_ rfl; simp; done) | (refine hd ⟨11, .phase⟩ ?_ rfl; simp; done) | exact HF.out.2.2.2.2.2.2.2.2.2.2.2.2.2.2.1 hc12 | (have hy9 := HF.out.2.2.2.2.2.2.2.2.2.2.2.2.2.2.1 hc12; simp at hy9; simp [hy9]; done) | exact HF.out.2.2.2.2.2.2.2.2.2.2.2.2.2.2.2.1 hc13 | (have hy9 := HF.out.2.2.2.2.2.2.2.2.2.2.2.2.2.2.2.1 hc13; simp at hy9; simp [hy9]; done)
          subst hc18 hc17 hc15 hc14 hc13 hc12 hc11
          clear hl hd ho hL
          simp only [sel_t, sel_f]
          have hB9 := HF.out.2.2.2.2.1 rfl rfl
          have c0 : w'.cell? ⟨ee, 0, none⟩ = some (.int .i64 0) := by simpa using hB9.cell 0
          have c1 : w'.cell? ⟨ee, 1, none⟩ = some (.slice none 0 0) := by simpa using hB9.cell 1
          have f0 := hB9.frozen 0
          have f1 := hB9.frozen 1
          have hge9 := (HF.out.2.2.2.1 rfl).1
          have hlt9 := (HF.out.2.2.2.1 rfl).2
          have HB9 := Lib.hid hB9
          clear hB9
          refine wpOp_step rfl ?_
          intro K' hK'
          go_simp
          exact hK' _ _ ⟨b0, b1, b2, b3, b4, b5, b6, b7, b8, b9, b10, true, true, true, true, true, b16, true, true, b19, x4, x8, x11, yy, ee, m9, pa9, pc9, es9, ok9, lo9, hi9, rfl, rfl, Lib.hid ⟨((HF.out.1.set' (by omega) (by omega) _).set' (by omega) (by omega) _), (g_set (g_set HF.out.2.1 hge9) hge9), (fun _ h => absurd h (by simp)), (fun _ => ⟨hge9, by simpa using hlt9⟩), (fun _ h => absurd h (by decide)), (fun _ => by simpa using (HB9.out.set 0 (.int .i64 m9)).set 1 (.slice pa9 es9.length pc9)), (fun _ => (HF.out.2.2.2.2.2.2.1 rfl).set2 (HF.out.2.2.2.2.2.2.2.1 rfl rfl)), (fun _ _ => HF.out.2.2.2.2.2.2.2.1 rfl rfl), (fun _ => ⟨(HF.out.2.2.2.2.2.2.2.2.1 rfl).1, by simpa using (HF.out.2.2.2.2.2.2.2.2.1 rfl).2⟩), HF.out.2.2.2.2.2.2.2.2.2.1, HF.out.2.2.2.2.2.2.2.2.2.2.1, HF.out.2.2.2.2.2.2.2.2.2.2.2.1, HF.out.2.2.2.2.2.2.2.2.2.2.2.2.1, HF.out.2.2.2.2.2.2.2.2.2.2.2.2.2.1, (fun h => by have := HF.out.2.2.2.2.2.2.2.2.2.2.2.2.2.2.1 h; simpa using this), (fun h => by have := HF.out.2.2.2.2.2.2.2.2.2.2.2.2.2.2.2.1 h; simpa using this), (fun h => by have := HF.out.2.2.2.2.2.2.2.2.2.2.2.2.2.2.2.2.1 h; simpa using this), (fun h => by have := HF.out.2.2.2.2.2.2.2.2.2.2.2.2.2.2.2.2.2.1 h; simpa using this), (fun h => by have := HF.out.2.2.2.2.2.2.2.2.2.2.2.2.2.2.2.2.2.2.1 h; simpa using this), (fun _ => rfl), HF.out.2.2.2.2.2.2.2.2.2.2.2.2.2.2.2.2.2.2.2.2⟩⟩
        · obtain rfl := Option.some.inj ho
          have hc19 : b19 = false := hl
          have hc16 : b16 = true := by first | (refine hd ⟨16, .data⟩ ?_ rfl; simp; done) | (refine hd ⟨16, .chain⟩ ?_ rfl; simp; done) | (refine hd ⟨16, .phase⟩ ?_ rfl; simp; done)
          subst hc19 hc16
          clear hl hd ho hL
          simp only [sel_t, sel_f]
          refine wpOp_step rfl ?_
          intro K' hK'
          go_simp
          exact hK' _ _ ⟨b0, b1, b2, b3, b4, b5, b6, b7, b8, b9, b10, b11, b12, b13, b14, b15, true, b17, b18, true, x4, x8, x11, yy, ee, m9, pa9, pc9, es9, ok9, lo9, hi9, rfl, rfl, Lib.hid ⟨HF.out.1, HF.out.2.1, HF.out.2.2.1, HF.out.2.2.2.1, HF.out.2.2.2.2.1, HF.out.2.2.2.2.2.1, HF.out.2.2.2.2.2.2.1, HF.out.2.2.2.2.2.2.2.1, HF.out.2.2.2.2.2.2.2.2.1, HF.out.2.2.2.2.2.2.2.2.2.1, HF.out.2.2.2.2.2.2.2.2.2.2.1, HF.out.2.2.2.2.2.2.2.2.2.2.2.1, HF.out.2.2.2.2.2.2.2.2.2.2.2.2.1, HF.out.2.2.2.2.2.2.2.2.2.2.2.2.2.1, HF.out.2.2.2.2.2.2.2.2.2.2.2.2.2.2.1, HF.out.2.2.2.2.2.2.2.2.2.2.2.2.2.2.2.1, HF.out.2.2.2.2.2.2.2.2.2.2.2.2.2.2.2.2.1, HF.out.2.2.2.2.2.2.2.2.2.2.2.2.2.2.2.2.2.1, HF.out.2.2.2.2.2.2.2.2.2.2.2.2.2.2.2.2.2.2.1, HF.out.2.2.2.2.2.2.2.2.2.2.2.2.2.2.2.2.2.2.2.1, (fun _ => rfl)⟩⟩
      · rintro L A9 w' hL ⟨b0, b1, b2, b3, b4, b5, b6, b7, b8, b9, b10, b11, b12, b13, b14, b15, b16, b17, b18, b19, x4, x8, x11, yy, ee, m9, pa9, pc9, es9, ok9, lo9, hi9, rfl, rfl, HF⟩ hall
        have hc0 : b0 = true := hall 0 (by decide)
        have hc1 : b1 = true := hall 1 (by decide)
        have hc2 : b2 = true := hall 2 (by decide)
        have hc3 : b3 = true := hall 3 (by decide)
        have hc4 : b4 = true := hall 4 (by decide)
        have hc5 : b5 = true := hall 5 (by decide)
        have hc6 : b6 = true := hall 6 (by decide)
        have hc7 : b7 = true := hall 7 (by decide)
        have hc8 : b8 = true := hall 8 (by decide)
        have hc9 : b9 = true := hall 9 (by decide)
        have hc10 : b10 = true := hall 10 (by decide)
        have hc11 : b11 = true := hall 11 (by decide)
        have hc12 : b12 = true := hall 12 (by decide)
        have hc13 : b13 = true := hall 13 (by decide)
        have hc14 : b14 = true := hall 14 (by decide)
        have hc15 : b15 = true := hall 15 (by decide)
        have hc16 : b16 = true := hall 16 (by decide)
        have hc17 : b17 = true := hall 17 (by decide)
        have hc18 : b18 = true := hall 18 (by decide)
        have hc19 : b19 = true := hall 19 (by decide)
        subst hc0 hc1 hc2 hc3 hc4 hc5 hc6 hc7 hc8 hc9 hc10 hc11 hc12 hc13 hc14 hc15 hc16 hc17 hc18 hc19
        simp only [sel_t]
        have hF5 := HF.out.2.2.2.2.2.1 rfl
        have hge9 := (HF.out.2.2.2.1 rfl).1
        have hlt9 := (HF.out.2.2.2.1 rfl).2
        have hsz9 := HF.out.2.1.size
        have hlo9 := (HF.out.2.2.2.2.2.2.2.2.1 rfl).1
        have hhi9 := (HF.out.2.2.2.2.2.2.2.2.1 rfl).2
        have hdj9 := HF.out.2.2.2.2.2.2.2.1 rfl rfl
        have hP9 := HF.out.2.2.2.2.2.2.1 rfl
        have hX9 := HX.out.grownG HF.out.2.1 (by omega)
        have HE := Lib.hid (And.intro (HF.out.1.more (show _ ≤ 40 - 3 * i + 3 by simp only [Bool.toNat_true]; omega)) (And.intro (HZ.out.2.grownG HF.out.2.1 (by omega)) (HR.out.chg (g_chgG HF.out.2.1) (.inl (by omega)))))
        clear HF
        cases ok9
        · have HX9 := Lib.hid hX9
          clear hX9 hP9 hF5
          go_wp2
          go_roundw
          case rel => (rw [show ((i : Int) - 1) = ((i - 1 : Nat) : Int) by omega]; exact ⟨i - 1, by omega, rfl, Lib.hid ⟨n, es, va, vc, lo, hi', HX9.out, HGV.out, HE.out.2.2, HO.out, hlo, by omega, hdj⟩, Lib.hid ⟨HE.out.1.more (by omega), HE.out.2.1⟩⟩)
          case measure => simp [intOf]; omega
        · obtain ⟨hm9, hgv9, hrow9, hok9⟩ := hP9 rfl
          have HN := Lib.hid (And.intro hgv9 (And.intro hrow9 (And.intro hok9 hX9)))
          subst hm9
          have p0 : w'.cell? ⟨ee, 0, none⟩ = some (.int .i64 m9) := by simpa using hF5.cell 0
          have p1 : w'.cell? ⟨ee, 1, none⟩ = some (.slice pa9 es9.length pc9) := by simpa using hF5.cell 1
          have q0 : w'.cell? ⟨w2.heap.size, 0, none⟩ = some (.int .i64 m9) := by simpa using hX9.cell 0
          have q1 : w'.cell? ⟨w2.heap.size, 1, none⟩ = some (.slice va es.length vc) := by simpa using hX9.cell 1
          have q2 := hX9.frozen 0
          have q3 := hX9.frozen 1
          clear hgv9 hrow9 hok9 hX9 hF5 hP9
          go_wp2
          go_roundw
          case rel =>
            have hR6 := (HE.out.1.set' (b := w2.heap.size) (k := 0) (by omega) (by omega) (.int .i64 m9)).set' (b := w2.heap.size) (k := 1) (by omega) (by omega) (.slice pa9 es9.length pc9)
            have hX6 : Box ((w'.setCell ⟨w2.heap.size, 0, none⟩ (.int .i64 m9)).setCell ⟨w2.heap.size, 1, none⟩ (.slice pa9 es9.length pc9)) w2.heap.size 50 #[.int .i64 m9, .slice pa9 es9.length pc9] := by
              simpa using (HN.out.2.2.2.set 0 (.int .i64 m9)).set 1 (.slice pa9 es9.length pc9)
            have hI6 := (HN.out.2.1.set8 (k := 0) (u := .int .i64 m9) (show w2.heap.size < lo9 by omega)).set8 (k := 1) (u := .slice pa9 es9.length pc9) (show w2.heap.size < lo9 by omega)
            have hY6 := (HE.out.2.1.setOther (B' := w2.heap.size) (by omega) 0 (.int .i64 m9)).setOther (B' := w2.heap.size) (by omega) 1 (.slice pa9 es9.length pc9)
            rw [show ((i : Int) - 1) = ((i - 1 : Nat) : Int) by omega]
            exact ⟨i - 1, by omega, rfl, Lib.hid ⟨m9, es9, pa9, pc9, lo9, hi9, hX6, HN.out.1, hI6, HN.out.2.2.1, by omega, by simpa using hhi9, .inr (by omega)⟩, Lib.hid ⟨hR6.more (by omega), hY6⟩⟩
          case measure => simp [intOf]; omega
    · have hi0 : i = 0 := by omega
      subst hi0
      have x0 : wr.cell? ⟨w2.heap.size, 0, none⟩ = some (.int .i64 n) := by simpa using HX.out.cell 0
      have x1 : wr.cell? ⟨w2.heap.size, 1, none⟩ = some (.slice va es.length vc) := by simpa using HX.out.cell 1
      go_wp2_with fail
      refine (l2Wrong w0 wr g _ n es (.slice va es.length vc) HZ.out.1 (by omega) HR.out.edges HO.out (by omega)).mono ?_
      rintro e w9 ⟨n1, es1, v1, rfl, hl1, hrow1, hok1, hR, hG⟩
      obtain ⟨va1, vc1, rfl, hz9⟩ := id hrow1
      have hs9 := hG.size
      have K9 := Lib.hid (And.intro hR (And.intro (HZ.out.2.grownG hG (by omega)) (And.intro hrow1 hok1)))
      clear hz9 hrow1 hok1 hR hG x0 x1
      go_wp2_with fail
      refine (l1Kind w0 w9 g _ K9.out.1 (by omega)).mono ?_
      rintro e w10 ⟨m0, rfl, hR, hG⟩
      have hs10 := hG.size
      have K10 := Lib.hid (And.intro hR (And.intro (K9.out.2.1.grownG hG (by omega)) (InR.grownG K9.out.2.2.1 hG (by omega))))
      clear hR hG
      go_wp2_with fail
      refine (l1Wrong m0 w0 w10 g _ K10.out.1 (by omega)).mono ?_
      rintro e w11 ⟨m, rfl, hR, hG⟩
      have hs11 := hG.size
      have K11 := Lib.hid (And.intro hR (And.intro (K10.out.2.1.grownG hG (by omega)) ((InR.grownG K10.out.2.2 hG (by omega)).wider (l := wr.heap.size) (h := w11.heap.size) (Nat.le_refl _) (by omega) (Nat.le_refl _))))
      have r0 : w11.cell? ⟨w.heap.size, 0, none⟩ = some (.int .i64 0) := by simpa using K11.out.2.1.cell 0
      have r1 : w11.cell? ⟨w.heap.size, 1, none⟩ = some (.slice none 0 0) := by simpa using K11.out.2.1.cell 1
      have r2 := K11.out.2.1.frozen 0
      have r3 := K11.out.2.1.frozen 1
      clear hR hG
      go_wp2
      try simp only [Exit.inBlock, Exit.then]
      refine bodyPost_ret (v := .tuple #[.agg #[.int .i64 n1, .slice va1 es1.length vc1], .int .i64 m]) ?_ rfl ?_
      · rw [results_ct rfl]
        go_simp
      exact drawnM2_of HBL.out K11.out.1 K11.out.2.2 K9.out.2.2.2 (by omega) (by omega)
end Go.Proofs.Ytjpikbbpmbeckaa
