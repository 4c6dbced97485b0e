/- DrawViewSame. -/
import Derived.Test.YtjpikbbpmbeckaaDrawsP
import Derived.Deep.Upon
namespace Go.Proofs.Ytjpikbbpmbeckaa
open Go.RowKit Go.BigFrame Go.Deep
set_option linter.unusedVariables false
set_option linter.unusedSimpArgs false
set_option linter.unnecessarySimpa false

set_option maxRecDepth 20000 in
set_option maxHeartbeats 2000000 in
/-- A view without values, copied. -/
theorem l3Copy0 (m a : Int) (s : Value) (w : World) (hr : Row w s []) :
    Calls Try.prog 58 #[.agg #[.int .i64 m, .int .i64 a, s]] w fun e w' => ∃ ya yc, e = .returned (.agg #[.int .i64 m, .int .i64 a, .slice ya 0 yc]) ∧ Below w.heap.size w w' := by
  obtain ⟨ad, cap, rfl, hz⟩ := hr
  obtain ⟨i0, hi, hz0, hz1, hz2⟩ := info_parts info_int2
  have hB3 : ∀ (A B C : Obj), Below w.heap.size w (((w.alloc A).alloc B).alloc C).drew := fun A B C => ((((Below.refl _ _).alloc (Nat.le_refl _) _).alloc (by simp) _).alloc (by simp; omega) _).drew
  go_enter Try.func58, Try.ntmps58
  go_wp2
  cases ad
  all_goals
    go_region
    all_goals
      go_wp2
      try simp only [Exit.inBlock, Exit.then]
      refine bodyPost_ret (v := .agg #[.int .i64 m, .int .i64 a, .slice (some ⟨w.heap.size + 1 + 1, 0, none⟩) 0 0]) ?_ rfl ⟨_, _, rfl, hB3 _ _ _⟩
      rw [results_cell1 rfl]
      go_simp

/-- Two views are drawn that differ in one value at most. -/
def DrawnVS (w : World) (e : Ending) (w' : World) : Prop :=
  ∃ (m a : Int) (zs ys : List Int) (s t : Value), e = .returned (.tuple #[.agg #[.int .i64 m, .int .i64 a, s], .agg #[.int .i64 m, .int .i64 a, t]]) ∧ (zs.length ≤ 12 ∧ ys.length = zs.length) ∧ InR true w' w.heap.size w'.heap.size s zs.length 1 (cellI zs) ∧ InR true w' w.heap.size w'.heap.size t ys.length 1 (cellI ys) ∧ Below w.heap.size w w'
theorem DrawnVS.drew {w w' : World} {e : Ending} (h : DrawnVS w e w') : DrawnVS w e w'.drew := by
  obtain ⟨m, a, zs, ys, s, t, h1, h2, h3, h4, h5⟩ := h
  exact ⟨m, a, zs, ys, s, t, h1, h2, InR.drew1 h3, InR.drew1 h4, h5.drew⟩
theorem chg6 (w : World) (B : Nat) (x0 x1 x2 y0 y1 y2 : Value) : Chg B (B + 2) w ((((((w.setCell ⟨B, 0, none⟩ x0).setCell ⟨B, 1, none⟩ x1).setCell ⟨B, 2, none⟩ x2).setCell ⟨B + 1, 0, none⟩ y0).setCell ⟨B + 1, 1, none⟩ y1).setCell ⟨B + 1, 2, none⟩ y2) :=
  ((((((Chg.refl _ _ _).setCell (by simp) (by simp) _).setCell (by simp) (by simp) _).setCell (by simp) (by simp) _).setCell (by simp) (by simp) _).setCell (by simp) (by simp) _).setCell (by simp) (by simp) _
theorem drawnVS_out {w w0 W1 wc : World} {g q lo hi lo2 hi2 : Nat} {m a : Int} {zs ys : List Int} {s t : Value} (hb : Below w.heap.size w w0) (h0 : w.heap.size + 2 ≤ w0.heap.size) (hr : InR true W1 lo hi s zs.length 1 (cellI zs)) (hlo : w0.heap.size ≤ lo) (hh : hi ≤ g ∧ g < W1.heap.size) (hl : zs.length ≤ 12) (hc1 : Chg g (g + 1) W1 wc) (hrd : Rd w0 wc g q) (hr2 : InR true wc lo2 hi2 t ys.length 1 (cellI ys)) (hlo2 : w0.heap.size ≤ lo2) (hh2 : hi2 ≤ wc.heap.size) (hl2 : ys.length = zs.length) (x0 x1 x2 y0 y1 y2 : Value) :
    DrawnVS w (.returned (.tuple #[.agg #[.int .i64 m, .int .i64 a, s], .agg #[.int .i64 m, .int .i64 a, t]])) ((((((wc.setCell ⟨w.heap.size, 0, none⟩ x0).setCell ⟨w.heap.size, 1, none⟩ x1).setCell ⟨w.heap.size, 2, none⟩ x2).setCell ⟨w.heap.size + 1, 0, none⟩ y0).setCell ⟨w.heap.size + 1, 1, none⟩ y1).setCell ⟨w.heap.size + 1, 2, none⟩ y2) := by
  have hc := chg6 wc w.heap.size x0 x1 x2 y0 y1 y2
  have hcs := hc1.size
  refine ⟨m, a, zs, ys, _, _, rfl, ⟨hl, hl2⟩, ?_, (hr2.chg hc (.inl (by omega))).wider (by omega) (by have := hc.size; omega) (Nat.le_refl _), bel_chg (bel_trans hb hrd.bel) hc (Nat.le_refl _)⟩
  exact ((hr.chg hc1 (.inr (by omega))).chg hc (.inl (by omega))).wider (by omega) (by have := hc.size; omega) (Nat.le_refl _)

/-- A copied view in a box behind the source. -/
structure WSt (W0 W1 : World) (g q B7 : Nat) (m a : Int) (ys : List Int) (ya : Option Addr) (yc lo hi : Nat) (wr : World) : Prop where
  chg : Chg g (g + 1) W1 wr
  rd : Rd W0 wr g q
  b7 : Box wr B7 25 #[.int .i64 m, .int .i64 a, .slice ya ys.length yc]
  row : InR true wr lo hi (.slice ya ys.length yc) ys.length 1 (cellI ys)
  nums : g < W1.heap.size ∧ W1.heap.size ≤ lo ∧ hi ≤ B7 ∧ W1.heap.size ≤ B7
section
variable {W0 W1 w w' : World} {g q B7 : Nat} {m a : Int} {ys : List Int} {ya : Option Addr} {yc lo hi : Nat}
theorem WSt.keep (h : WSt W0 W1 g q B7 m a ys ya yc lo hi w) (hb : Below w.heap.size w w') : WSt W0 W1 g q B7 m a ys ya yc lo hi w' :=
  ⟨h.chg.trans (Chg.of_below hb), h.rd.keep hb, h.b7.keep hb, InR.keep h.row hb, h.nums⟩
theorem WSt.draw {q' : Nat} (h : WSt W0 W1 g q B7 m a ys ya yc lo hi w) (hR : Rd W0 w' g q') (hG : w.grownBy w' (some g)) : WSt W0 W1 g q' B7 m a ys ya yc lo hi w' :=
  ⟨h.chg.trans (g_chgG hG), hR, h.b7.grownG hG (by have := h.nums; omega), h.row.grownG hG (by have := h.nums; omega), h.nums⟩
theorem WSt.at {b off X : Nat} (h : WSt W0 W1 g q B7 m a ys (some ⟨b, off, none⟩) yc lo hi w) (hX : X < ys.length) : w.cell? ⟨b, off + X, none⟩ = some (.int .i64 (ys.getD X 0)) ∧ w.frozen? ⟨b, off + X, none⟩ = false := by
  obtain ⟨a8, c8, he8, hz8⟩ := h.row
  injection he8 with e1 e2 e3
  subst e1
  rcases hz8 with hz8 | ⟨b8, o8, e8, -, -, -, hc8⟩
  · omega
  injection e8 with e8
  injection e8 with e4 e5
  subst e4 e5
  exact ⟨(hc8 X (by omega)).1, (hc8 X (by omega)).2 rfl⟩
theorem WSt.set {b off X : Nat} (h : WSt W0 W1 g q B7 m a ys (some ⟨b, off, none⟩) yc lo hi w) (hX : X < ys.length) (x : Int) : WSt W0 W1 g q B7 m a (ys.set X x) (some ⟨b, off, none⟩) yc b (b + 1) (w.setCell ⟨b, off + X, none⟩ (.int .i64 x)) := by
  obtain ⟨a9, c9, he, hz⟩ := h.row
  injection he with e1 e2 e3
  subst e1 e3
  rcases hz with hz | ⟨b9, o9, e9, hlo, hhi, hsz, hc⟩
  · omega
  injection e9 with e9
  injection e9 with e4 e5 e6
  subst e4 e5
  have hn := h.nums
  have hrn := h.rd.new
  have hch : Chg b (b + 1) w (w.setCell ⟨b, off + X, none⟩ (.int .i64 x)) := (Chg.refl _ _ _).setCell (p := ⟨b, off + X, none⟩) (Nat.le_refl _) (Nat.lt_succ_self _) _
  have hwr : Wr w b off ys := ⟨by omega, fun i hi => ⟨(hc i (by omega)).1, (hc i (by omega)).2 rfl⟩⟩
  have hw2 := hwr.set hX x
  have hl : (ys.set X x).length = ys.length := by simp
  have hcs := h.chg.size
  refine ⟨⟨hch.os.trans h.chg.os, hch.tape.trans h.chg.tape, hch.output.trans h.chg.output, Nat.le_trans h.chg.size hch.size, fun k hk hd => (hch.block k (by omega) (.inl (by omega))).trans (h.chg.block k hk hd)⟩, h.rd.set' (by omega) (by omega) _, ?_, ⟨_, _, rfl, .inr ⟨b, off, rfl, Nat.le_refl _, Nat.lt_succ_self _, hw2.1, fun i hi => ⟨(hw2.2 i (by omega)).1, fun _ => (hw2.2 i (by omega)).2⟩⟩⟩, ⟨hn.1, by omega, by omega, hn.2.2.2⟩⟩
  rw [hl]
  exact (hch.block _ h.b7.lt (by omega)).trans h.b7
end

set_option maxRecDepth 20000 in
set_option maxHeartbeats 8000000 in
theorem dDrawViewSame (a : Option Addr) (n cap : Nat) (w : World) (hb : Bytes w a n) (hcap : n ≤ cap) (hn : n ≤ 281474976710656) :
    Calls Try.prog 15 #[.slice a n cap] w (DrawnVS w) := by
  have hbl : Below w.heap.size w ((w.alloc (.cells #[.int .i64 0, .int .i64 0, .slice none 0 0] 25)).alloc (.cells #[.int .i64 0, .int .i64 0, .slice none 0 0] 25)) := ((Below.refl _ _).alloc (Nat.le_refl _) _).alloc (by simp) _
  have hx2 : Box ((w.alloc (.cells #[.int .i64 0, .int .i64 0, .slice none 0 0] 25)).alloc (.cells #[.int .i64 0, .int .i64 0, .slice none 0 0] 25)) w.heap.size 25 #[.int .i64 0, .int .i64 0, .slice none 0 0] := (Box.new _ _ _).alloc _
  have hx3 : Box ((w.alloc (.cells #[.int .i64 0, .int .i64 0, .slice none 0 0] 25)).alloc (.cells #[.int .i64 0, .int .i64 0, .slice none 0 0] 25)) (w.heap.size + 1) 25 #[.int .i64 0, .int .i64 0, .slice none 0 0] := by have := Box.new (w.alloc (.cells #[.int .i64 0, .int .i64 0, .slice none 0 0] 25)) 25 #[.int .i64 0, .int .i64 0, .slice none 0 0]; simpa using this
  have HC := Lib.hid hb
  clear hb
  go_enter Try.func15, Try.ntmps15
  go_wp2_with fail
  generalize ((w.alloc (.cells #[.int .i64 0, .int .i64 0, .slice none 0 0] 25)).alloc (.cells #[.int .i64 0, .int .i64 0, .slice none 0 0] 25)) = w0 at hbl hx2 hx3 ⊢
  have hs0 : w.heap.size + 2 ≤ w0.heap.size := hx3.lt
  have H0 := Lib.hid (And.intro hbl (And.intro hx2 hx3))
  clear hbl hx2 hx3
  refine (l3Views a n cap w0 (HC.out.keepB H0.out.1) hcap hn).mono ?_
  rintro e w1 ⟨n1, es, s, m, b, zs, t, rfl, hl, hr1, hr2, hb1⟩
  obtain ⟨va, vc, rfl, hz9⟩ := id hr1.1
  obtain ⟨ta, tc, rfl, hz8⟩ := id hr2.1
  have hs1 := hb1.size
  have hlz := hl.2
  have hb2 : Below w1.heap.size w1 ((w1.alloc (.cells #[.int .i64 n1, .slice va es.length vc] 50)).alloc (.cells #[.int .i64 m, .int .i64 b, .slice ta zs.length tc] 25)) := ((Below.refl _ _).alloc (Nat.le_refl _) _).alloc (by simp) _
  have hB6 : Box ((w1.alloc (.cells #[.int .i64 n1, .slice va es.length vc] 50)).alloc (.cells #[.int .i64 m, .int .i64 b, .slice ta zs.length tc] 25)) (w1.heap.size + 1) 25 #[.int .i64 m, .int .i64 b, .slice ta zs.length tc] := by have := Box.new (w1.alloc (.cells #[.int .i64 n1, .slice va es.length vc] 50)) 25 #[.int .i64 m, .int .i64 b, .slice ta zs.length tc]; simpa using this
  have hrz := InR.keep hr2.1 hb2
  go_upto_region 2 with fail
  generalize ((w1.alloc (.cells #[.int .i64 n1, .slice va es.length vc] 50)).alloc (.cells #[.int .i64 m, .int .i64 b, .slice ta zs.length tc] 25)) = w2 at hb2 hB6 hrz ⊢
  have hs2 := hb2.size
  have hB6l := hB6.lt
  have K2 := Lib.hid (And.intro (bel_trans hb1 hb2) (And.intro hrz hB6))
  clear hz9 hz8 hl hr1 hr2 hb1 hb2 hrz hB6
  go_wp2_with fail
  refine (l15OpenW w0 a n cap w2 K2.out.1 (by omega) (HC.out.keepB H0.out.1) hcap hn).mono ?_
  rintro e w3 ⟨g, rfl, hg2, hb3, hR⟩
  have hgl := hR.lt
  have KV := Lib.hid (And.intro (InR.keep K2.out.2.1 hb3) (K2.out.2.2.keep hb3))
  have HRd := Lib.hid hR
  clear hR hb3 K2
  have hbvg : w1.heap.size + 1 < g ∧ w.heap.size + 1 < w1.heap.size + 1 ∧ w1.heap.size < w1.heap.size + 1 := by omega
  have v0 : w3.cell? ⟨w1.heap.size + 1, 0, none⟩ = some (.int .i64 m) := by simpa using KV.out.2.cell 0
  have v1 : w3.cell? ⟨w1.heap.size + 1, 1, none⟩ = some (.int .i64 b) := by simpa using KV.out.2.cell 1
  have v2 : w3.cell? ⟨w1.heap.size + 1, 2, none⟩ = some (.slice ta zs.length tc) := by simpa using KV.out.2.cell 2
  have hcp : Calls Try.prog 58 #[.agg #[.int .i64 m, .int .i64 b, .slice ta zs.length tc]] w3 fun e w' => ∃ ya yc, e = .returned (.agg #[.int .i64 m, .int .i64 b, .slice ya zs.length yc]) ∧ InR true w' w3.heap.size w'.heap.size (.slice ya zs.length yc) zs.length 1 (cellI zs) ∧ Below w3.heap.size w3 w' := by
    have hrow := InR.rowI KV.out.1
    by_cases h0 : 0 < zs.length
    · refine (l3Copy m b zs _ w3 hrow h0 (by omega)).mono ?_
      rintro e w' ⟨v, rfl, how, -, hb⟩
      obtain ⟨ya, yc, rfl, hz⟩ := id how
      exact ⟨ya, yc, rfl, how, hb⟩
    · have hz : zs = [] := List.eq_nil_of_length_eq_zero (by omega)
      subst hz
      refine (l3Copy0 m b _ w3 hrow).mono ?_
      rintro e w' ⟨ya, yc, rfl, hb⟩
      exact ⟨ya, yc, rfl, ⟨ya, yc, rfl, .inl rfl⟩, hb⟩
  have HCP := Lib.hid hcp
  clear hcp
  go_wp2_with fail
  refine HCP.out.mono ?_
  rintro e w4 ⟨ya, yc, rfl, hy, hb4⟩
  have hs4 := hb4.size
  have hb5 : Below w4.heap.size w4 (w4.alloc (.cells #[.int .i64 m, .int .i64 b, .slice ya zs.length yc] 25)) := (Below.refl _ _).alloc (Nat.le_refl _) _
  have hB7 := Box.new w4 25 #[.int .i64 m, .int .i64 b, .slice ya zs.length yc]
  have hS5 : WSt w0 w3 g 0 w4.heap.size m b zs ya yc w3.heap.size w4.heap.size (w4.alloc (.cells #[.int .i64 m, .int .i64 b, .slice ya zs.length yc] 25)) := ⟨Chg.of_below (bel_trans hb4 hb5), (HRd.out.keep hb4).keep hb5, hB7, InR.keep hy hb5, ⟨hgl, Nat.le_refl _, Nat.le_refl _, hs4⟩⟩
  go_upto_region 4 with fail
  generalize (w4.alloc (.cells #[.int .i64 m, .int .i64 b, .slice ya zs.length yc] 25)) = w5 at hS5 ⊢
  have HS5 := Lib.hid hS5
  have hb7n : w3.heap.size ≤ w4.heap.size := by omega
  clear hS5 hb5 hB7 hy hb4 v0 v1 v2 HRd HCP
  go_wp2_with fail
  refine (pick 2 w0 w5 g _ HS5.out.rd (by omega) (by omega)).mono ?_
  rintro e w6 ⟨c, rfl, hx0, hx1, hR6, hG6⟩
  have HS6 := Lib.hid (HS5.out.draw hR6 hG6)
  clear hR6 hG6 hx0 hx1 HS5
  have z2 : w6.cell? ⟨w4.heap.size, 2, none⟩ = some (.slice ya zs.length yc) := by simpa using HS6.out.b7.cell 2
  by_cases hc0 : c = 0
  · subst hc0
    by_cases hz0 : 0 < zs.length
    · have hz0' : (0 : Int) < zs.length := by omega
      obtain ⟨bq, off, hbq, rfl⟩ : ∃ bq off, bq < w4.heap.size ∧ ya = some ⟨bq, off, none⟩ := by
        obtain ⟨a8, c8, he8, hz8⟩ := HS6.out.row
        injection he8 with e1 e2 e3
        subst e1
        rcases hz8 with hz8 | ⟨b8, o8, e8, hlo8, hhi8, -⟩
        · omega
        exact ⟨b8, o8, hhi8, e8⟩
      have hbn : ¬ bq = w4.heap.size := by omega
      have hbn' : ¬ w4.heap.size = bq := by omega
      have hcel : ∀ w' q, WSt w0 w3 g q w4.heap.size m b zs (some ⟨bq, off, none⟩) yc w3.heap.size w4.heap.size w' → w'.cell? ⟨w4.heap.size, 2, none⟩ = some (.slice (some ⟨bq, off, none⟩) zs.length yc) := fun w' q h => by simpa using h.b7.cell 2
      have HCE := Lib.hid hcel
      have hrowc : ∀ w' q (X : Nat), X < zs.length → WSt w0 w3 g q w4.heap.size m b zs (some ⟨bq, off, none⟩) yc w3.heap.size w4.heap.size w' → w'.cell? ⟨bq, off + X, none⟩ = some (.int .i64 (zs.getD X 0)) ∧ w'.frozen? ⟨bq, off + X, none⟩ = false := fun w' q X hX h => h.at hX
      have HRC := Lib.hid hrowc
      clear hcel hrowc
      have hz12 : (zs.length : Int) ≤ 1000000 := by omega
      have hq61 : 0 + 1 ≤ 1000000 := by omega
      have hq62 : 0 + 1 + 1 ≤ 1000000 := by omega
      have HD1 := Lib.hid (HS6.out.keep ((Below.refl _ _).drew))
      have hna : ∀ wA (t : TypeId), Rd w0 wA g (0 + 1 + 1) → Calls Try.prog 60 #[.pointer (some ⟨g, 0, none⟩), .slice (some ⟨wA.heap.size, 0, none⟩) 3 3] (wA.alloc (.cells #[.int .i64 0, .int .i64 5, .int .i64 1] t)) fun e w' => ∃ x : Int, e = .returned (.int .i64 x) ∧ Rd w0 w' g (0 + 1 + 1 + 1) ∧ wA.grownBy w' (some g) := fun wA t h => (num_at [0, 5, 1] w0 wA g (0 + 1 + 1) _ rfl h (by omega) t (by decide) (by decide)).mono fun e w' ⟨x, _, h1, h2, h3⟩ => ⟨x, h1, h2, h3⟩
      have hnb : ∀ wA (t : TypeId), (w6.alloc (.cells #[.int .i64 0, .int .i64 5, .int .i64 1] t)).drew.grownBy wA (some g) → Rd w0 wA g (0 + 1 + 1) → Calls Try.prog 60 #[.pointer (some ⟨g, 0, none⟩), .slice (some ⟨w6.heap.size, 0, none⟩) 3 3] wA fun e w' => ∃ x : Int, e = .returned (.int .i64 x) ∧ Rd w0 w' g (0 + 1 + 1 + 1) ∧ wA.grownBy w' (some g) := fun wA t hg h => (num [0, 5, 1] _ w0 wA g (0 + 1 + 1) h (by omega) (RowN.grown (rowN_at [0, 5, 1] w6 g t _ rfl HS6.out.rd.lt) (grown_trans' (g_drew (grown_refl _ _)) hg)) (by decide) (by decide)).mono fun e w' ⟨x, _, h1, h2, h3⟩ => ⟨x, h1, h2, h3⟩
      have HNA := Lib.hid hna
      have HNB := Lib.hid hnb
      clear hna hnb
      have HXA := Lib.hid (show ∀ xA : Int, 0 ≤ xA → (xA < (zs.length : Int) ∨ xA = 0) → ∃ X : Nat, xA = X ∧ X < zs.length ∧ (X : Int) < zs.length from fun xA h0 h1 => ⟨xA.toNat, by omega, by omega, by omega⟩)
      go_upto_region 5 with fail
      go_region_held3 (fun w' : World => w'.cell? ⟨w4.heap.size, 2, none⟩ = some (.slice (some ⟨bq, off, none⟩) zs.length yc)) (first | exact HCE.out _ _ (HS6.out.keep ((Below.refl _ _).drew)) | exact HCE.out _ _ ((HS6.out.keep ((Below.refl _ _).alloc (Nat.le_refl _) _)).keep ((Below.refl _ _).drew)) | exact HCE.out _ _ HSA.out | exact HCE.out _ _ (HSA.out.keep ((Below.refl _ _).alloc (Nat.le_refl _) _)) | exact HCE.out _ _ HSN.out | (go_simp; done)) (first | (go_at_call 59; (first | (with_reducible refine (pick (zs.length : Int) w0 _ g _ HD1.out.rd hq61 hz12).mono ?_) | (with_reducible refine (pick (zs.length : Int) w0 _ g _ (HS6.out.rd.alloc' _).drew' hq61 hz12).mono ?_)); rintro e wA ⟨xA, rfl, hA0, hA1, hRA, hGA⟩; obtain ⟨X, rfl, hX, hX'⟩ := HXA.out _ hA0 hA1; (first | have HSA := Lib.hid (WSt.draw HD1.out hRA hGA) | have HSA := Lib.hid (WSt.draw ((HS6.out.keep ((Below.refl _ _).alloc (Nat.le_refl _) _)).keep ((Below.refl _ _).drew)) hRA hGA)); have HGA := Lib.hid hGA; clear hRA hGA hA0 hA1) | (go_at_call 60; (first | (with_reducible refine (HNA.out wA _ HSA.out.rd).mono ?_) | (with_reducible refine (HNB.out wA _ HGA.out HSA.out.rd).mono ?_)); rintro e wN ⟨yN, rfl, hRN, hGN⟩; have HSN := Lib.hid (WSt.draw HSA.out hRN hGN); obtain ⟨r0, r1⟩ := HRC.out _ _ X hX HSN.out; have u2 := HCE.out _ _ HSN.out; clear hRN hGN))
      all_goals
        have HS9 := Lib.hid (HSN.out.set hX yN)
        go_upto_region 6 with fail
        generalize (wN.setCell ⟨bq, off + X, none⟩ (.int .i64 yN)) = w9 at HS9 ⊢
        clear z2 u2 r0 r1
        have hcg := HS9.out.chg
        have HR := Lib.hid (fun x0 x1 x2 y0 y1 y2 => (drawnVS_out (m := m) (a := b) H0.out.1 hs0 KV.out.1 (Nat.le_refl _) ⟨by omega, hgl⟩ hlz HS9.out.chg HS9.out.rd HS9.out.row (by have := HS9.out.nums; have := HS9.out.rd.new; omega) (by have := HS9.out.nums; have := HS9.out.b7.lt; omega) (by simp) x0 x1 x2 y0 y1 y2).drew)
        have v0 : w9.cell? ⟨w1.heap.size + 1, 0, none⟩ = some (.int .i64 m) := (hcg.cell (p := ⟨w1.heap.size + 1, 0, none⟩) KV.out.2.lt (.inl (by simp only; omega))).trans (by simpa using KV.out.2.cell 0)
        have v1 : w9.cell? ⟨w1.heap.size + 1, 1, none⟩ = some (.int .i64 b) := (hcg.cell (p := ⟨w1.heap.size + 1, 1, none⟩) KV.out.2.lt (.inl (by simp only; omega))).trans (by simpa using KV.out.2.cell 1)
        have v2 : w9.cell? ⟨w1.heap.size + 1, 2, none⟩ = some (.slice ta zs.length tc) := (hcg.cell (p := ⟨w1.heap.size + 1, 2, none⟩) KV.out.2.lt (.inl (by simp only; omega))).trans (by simpa using KV.out.2.cell 2)
        have q0 : w9.cell? ⟨w4.heap.size, 0, none⟩ = some (.int .i64 m) := by simpa using HS9.out.b7.cell 0
        have q1 : w9.cell? ⟨w4.heap.size, 1, none⟩ = some (.int .i64 b) := by simpa using HS9.out.b7.cell 1
        have q2 : w9.cell? ⟨w4.heap.size, 2, none⟩ = some (.slice (some ⟨bq, off, none⟩) (zs.set X yN).length yc) := by simpa using HS9.out.b7.cell 2
        have h2 := H0.out.2.1.keep HS9.out.rd.bel
        have h3 := H0.out.2.2.keep HS9.out.rd.bel
        have p0 := h2.cell 0
        have p1 := h2.cell 1
        have p2 := h2.cell 2
        have r0 := h3.cell 0
        have r1 := h3.cell 1
        have r2 := h3.cell 2
        have fp0 := h2.frozen 0
        have fp1 := h2.frozen 1
        have fp2 := h2.frozen 2
        have fr0 := h3.frozen 0
        have fr1 := h3.frozen 1
        have fr2 := h3.frozen 2
        simp only [List.getElem?_toArray, List.getElem?_cons_succ, List.getElem?_cons_zero] at p0 p1 p2 r0 r1 r2
        have e1 : ¬ w.heap.size = w1.heap.size + 1 := by omega
        have e2 : ¬ w.heap.size = w4.heap.size := by omega
        have e3 : ¬ w.heap.size + 1 = w1.heap.size + 1 := by omega
        have e4 : ¬ w.heap.size + 1 = w4.heap.size := by omega
        have e5 : ¬ w1.heap.size + 1 = w.heap.size := by omega
        have e6 : ¬ w4.heap.size = w.heap.size := by omega
        have e7 : ¬ w1.heap.size + 1 = w.heap.size + 1 := by omega
        have e8 : ¬ w4.heap.size = w.heap.size + 1 := by omega
        clear hcg h2 h3
        go_wp2_with fail
        go_region_held3 (fun w' : World => w'.cell? ⟨w1.heap.size + 1, 0, none⟩ = some (.int .i64 m) ∧ w'.cell? ⟨w1.heap.size + 1, 1, none⟩ = some (.int .i64 b) ∧ w'.cell? ⟨w1.heap.size + 1, 2, none⟩ = some (.slice ta zs.length tc) ∧ w'.cell? ⟨w4.heap.size, 0, none⟩ = some (.int .i64 m) ∧ w'.cell? ⟨w4.heap.size, 1, none⟩ = some (.int .i64 b) ∧ w'.cell? ⟨w4.heap.size, 2, none⟩ = some (.slice (some ⟨bq, off, none⟩) (zs.set X yN).length yc)) (refine ⟨?_, ?_, ?_, ?_, ?_, ?_⟩ <;> go_simp) (fail)
        all_goals
          go_wp2
          try simp only [Exit.inBlock, Exit.then]
          refine bodyPost_ret (v := .tuple #[.agg #[.int .i64 m, .int .i64 b, .slice ta zs.length tc], .agg #[.int .i64 m, .int .i64 b, .slice (some ⟨bq, off, none⟩) (zs.set X yN).length yc]]) ?_ rfl (HR.out _ _ _ _ _ _)
          rw [results_cc rfl]
          go_simp
    · have hz0' : ¬ ((0 : Int) < zs.length) := by omega
      have hcg := HS6.out.chg
      have HR := Lib.hid (fun x0 x1 x2 y0 y1 y2 => (drawnVS_out (m := m) (a := b) H0.out.1 hs0 KV.out.1 (Nat.le_refl _) ⟨by omega, hgl⟩ hlz HS6.out.chg HS6.out.rd HS6.out.row (by have := HS6.out.nums; have := HS6.out.rd.new; omega) (by have := HS6.out.nums; have := HS6.out.b7.lt; omega) (by simp) x0 x1 x2 y0 y1 y2).drew)
      have v0 : w6.cell? ⟨w1.heap.size + 1, 0, none⟩ = some (.int .i64 m) := (hcg.cell (p := ⟨w1.heap.size + 1, 0, none⟩) KV.out.2.lt (.inl (by simp only; omega))).trans (by simpa using KV.out.2.cell 0)
      have v1 : w6.cell? ⟨w1.heap.size + 1, 1, none⟩ = some (.int .i64 b) := (hcg.cell (p := ⟨w1.heap.size + 1, 1, none⟩) KV.out.2.lt (.inl (by simp only; omega))).trans (by simpa using KV.out.2.cell 1)
      have v2 : w6.cell? ⟨w1.heap.size + 1, 2, none⟩ = some (.slice ta zs.length tc) := (hcg.cell (p := ⟨w1.heap.size + 1, 2, none⟩) KV.out.2.lt (.inl (by simp only; omega))).trans (by simpa using KV.out.2.cell 2)
      have q0 : w6.cell? ⟨w4.heap.size, 0, none⟩ = some (.int .i64 m) := by simpa using HS6.out.b7.cell 0
      have q1 : w6.cell? ⟨w4.heap.size, 1, none⟩ = some (.int .i64 b) := by simpa using HS6.out.b7.cell 1
      have q2 : w6.cell? ⟨w4.heap.size, 2, none⟩ = some (.slice ya (zs).length yc) := by simpa using HS6.out.b7.cell 2
      have h2 := H0.out.2.1.keep HS6.out.rd.bel
      have h3 := H0.out.2.2.keep HS6.out.rd.bel
      have p0 := h2.cell 0
      have p1 := h2.cell 1
      have p2 := h2.cell 2
      have r0 := h3.cell 0
      have r1 := h3.cell 1
      have r2 := h3.cell 2
      have fp0 := h2.frozen 0
      have fp1 := h2.frozen 1
      have fp2 := h2.frozen 2
      have fr0 := h3.frozen 0
      have fr1 := h3.frozen 1
      have fr2 := h3.frozen 2
      simp only [List.getElem?_toArray, List.getElem?_cons_succ, List.getElem?_cons_zero] at p0 p1 p2 r0 r1 r2
      have e1 : ¬ w.heap.size = w1.heap.size + 1 := by omega
      have e2 : ¬ w.heap.size = w4.heap.size := by omega
      have e3 : ¬ w.heap.size + 1 = w1.heap.size + 1 := by omega
      have e4 : ¬ w.heap.size + 1 = w4.heap.size := by omega
      have e5 : ¬ w1.heap.size + 1 = w.heap.size := by omega
      have e6 : ¬ w4.heap.size = w.heap.size := by omega
      have e7 : ¬ w1.heap.size + 1 = w.heap.size + 1 := by omega
      have e8 : ¬ w4.heap.size = w.heap.size + 1 := by omega
      clear hcg h2 h3
      go_wp2_with fail
      go_region_held3 (fun w' : World => w'.cell? ⟨w1.heap.size + 1, 0, none⟩ = some (.int .i64 m) ∧ w'.cell? ⟨w1.heap.size + 1, 1, none⟩ = some (.int .i64 b) ∧ w'.cell? ⟨w1.heap.size + 1, 2, none⟩ = some (.slice ta zs.length tc) ∧ w'.cell? ⟨w4.heap.size, 0, none⟩ = some (.int .i64 m) ∧ w'.cell? ⟨w4.heap.size, 1, none⟩ = some (.int .i64 b) ∧ w'.cell? ⟨w4.heap.size, 2, none⟩ = some (.slice ya (zs).length yc)) (refine ⟨?_, ?_, ?_, ?_, ?_, ?_⟩ <;> go_simp) (fail)
      all_goals
        go_wp2
        try simp only [Exit.inBlock, Exit.then]
        refine bodyPost_ret (v := .tuple #[.agg #[.int .i64 m, .int .i64 b, .slice ta zs.length tc], .agg #[.int .i64 m, .int .i64 b, .slice ya (zs).length yc]]) ?_ rfl (HR.out _ _ _ _ _ _)
        rw [results_cc rfl]
        go_simp
  · have d0 : (c == 0) = false := by simpa using hc0
    have hcg := HS6.out.chg
    have HR := Lib.hid (fun x0 x1 x2 y0 y1 y2 => (drawnVS_out (m := m) (a := b) H0.out.1 hs0 KV.out.1 (Nat.le_refl _) ⟨by omega, hgl⟩ hlz HS6.out.chg HS6.out.rd HS6.out.row (by have := HS6.out.nums; have := HS6.out.rd.new; omega) (by have := HS6.out.nums; have := HS6.out.b7.lt; omega) (by simp) x0 x1 x2 y0 y1 y2).drew)
    have v0 : w6.cell? ⟨w1.heap.size + 1, 0, none⟩ = some (.int .i64 m) := (hcg.cell (p := ⟨w1.heap.size + 1, 0, none⟩) KV.out.2.lt (.inl (by simp only; omega))).trans (by simpa using KV.out.2.cell 0)
    have v1 : w6.cell? ⟨w1.heap.size + 1, 1, none⟩ = some (.int .i64 b) := (hcg.cell (p := ⟨w1.heap.size + 1, 1, none⟩) KV.out.2.lt (.inl (by simp only; omega))).trans (by simpa using KV.out.2.cell 1)
    have v2 : w6.cell? ⟨w1.heap.size + 1, 2, none⟩ = some (.slice ta zs.length tc) := (hcg.cell (p := ⟨w1.heap.size + 1, 2, none⟩) KV.out.2.lt (.inl (by simp only; omega))).trans (by simpa using KV.out.2.cell 2)
    have q0 : w6.cell? ⟨w4.heap.size, 0, none⟩ = some (.int .i64 m) := by simpa using HS6.out.b7.cell 0
    have q1 : w6.cell? ⟨w4.heap.size, 1, none⟩ = some (.int .i64 b) := by simpa using HS6.out.b7.cell 1
    have q2 : w6.cell? ⟨w4.heap.size, 2, none⟩ = some (.slice ya (zs).length yc) := by simpa using HS6.out.b7.cell 2
    have h2 := H0.out.2.1.keep HS6.out.rd.bel
    have h3 := H0.out.2.2.keep HS6.out.rd.bel
    have p0 := h2.cell 0
    have p1 := h2.cell 1
    have p2 := h2.cell 2
    have r0 := h3.cell 0
    have r1 := h3.cell 1
    have r2 := h3.cell 2
    have fp0 := h2.frozen 0
    have fp1 := h2.frozen 1
    have fp2 := h2.frozen 2
    have fr0 := h3.frozen 0
    have fr1 := h3.frozen 1
    have fr2 := h3.frozen 2
    simp only [List.getElem?_toArray, List.getElem?_cons_succ, List.getElem?_cons_zero] at p0 p1 p2 r0 r1 r2
    have e1 : ¬ w.heap.size = w1.heap.size + 1 := by omega
    have e2 : ¬ w.heap.size = w4.heap.size := by omega
    have e3 : ¬ w.heap.size + 1 = w1.heap.size + 1 := by omega
    have e4 : ¬ w.heap.size + 1 = w4.heap.size := by omega
    have e5 : ¬ w1.heap.size + 1 = w.heap.size := by omega
    have e6 : ¬ w4.heap.size = w.heap.size := by omega
    have e7 : ¬ w1.heap.size + 1 = w.heap.size + 1 := by omega
    have e8 : ¬ w4.heap.size = w.heap.size + 1 := by omega
    clear hcg h2 h3
    go_wp2_with fail
    go_region_held3 (fun w' : World => w'.cell? ⟨w1.heap.size + 1, 0, none⟩ = some (.int .i64 m) ∧ w'.cell? ⟨w1.heap.size + 1, 1, none⟩ = some (.int .i64 b) ∧ w'.cell? ⟨w1.heap.size + 1, 2, none⟩ = some (.slice ta zs.length tc) ∧ w'.cell? ⟨w4.heap.size, 0, none⟩ = some (.int .i64 m) ∧ w'.cell? ⟨w4.heap.size, 1, none⟩ = some (.int .i64 b) ∧ w'.cell? ⟨w4.heap.size, 2, none⟩ = some (.slice ya (zs).length yc)) (refine ⟨?_, ?_, ?_, ?_, ?_, ?_⟩ <;> go_simp) (fail)
    all_goals
      go_wp2
      try simp only [Exit.inBlock, Exit.then]
      refine bodyPost_ret (v := .tuple #[.agg #[.int .i64 m, .int .i64 b, .slice ta zs.length tc], .agg #[.int .i64 m, .int .i64 b, .slice ya (zs).length yc]]) ?_ rfl (HR.out _ _ _ _ _ _)
      rw [results_cc rfl]
      go_simp
theorem row_eqV {w : World} {zs ys : List Int} {v : Value} (h : zs = ys) (r : Row w v ys) : Row w v zs := h ▸ r
end Go.Proofs.Ytjpikbbpmbeckaa
