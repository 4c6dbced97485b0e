/- The draw of a graph, a view of it and an order of its edges, in the model. The draw of a graph, a view of it and an order of its edges, in the model: its walk. The draws of a graph, a view and an order, in the model. -/
import Derived.Test.YtbcbknebjbelmaaDrawsV
import Derived.Test.YtbcbknebjbelmaaVValS
import Derived.Test.YtbcbknebjbelmaaPutT
import Derived.Laws.OwnMore
import Derived.Deep.AppendLies
import Derived.Test.YtbcbknebjbelmaaCutS
namespace Go.Proofs.Ytbcbknebjbelmaa
open Go.RowKit Go.BigFrame Go.Deep
set_option linter.unusedVariables false
set_option linter.unusedSimpArgs false
set_option linter.unnecessarySimpa false
theorem l15OpenW (W : World) (a : Option Addr) (n cap : Nat) (w : World) (hW : Below W.heap.size W w) (hs : W.heap.size ≤ w.heap.size) (hb : Bytes W a n) (hcap : n ≤ cap) (hn : n ≤ 281474976710656) :
    Calls Try.prog 58 #[.slice a n cap] w fun e w' => ∃ g, e = .returned (.pointer (some ⟨g, 0, none⟩)) ∧ w.heap.size ≤ g ∧ Below w.heap.size w w' ∧ Rd W w' g 0 := by
  by_cases h2 : 2000 < n
  · obtain ⟨b, off, rfl, hlt, hc⟩ := hb.resolve_left (by omega)
    have HC := Lib.hid hc
    clear hc hb
    go_enter Try.func58, Try.ntmps58
    go_wp2
    go_ret
    exact ⟨_, rfl, Nat.le_refl _, (Below.refl _ _).alloc (Nat.le_refl _) _, hs, bel_trans hW ((Below.refl _ _).alloc (Nat.le_refl _) _), ⟨_, 2000, cap, 0, by omega, by omega, .inr ⟨b, off, rfl, hlt, fun i hi => HC.out i (by omega)⟩, by go_simp, by go_simp⟩, by go_simp, by simp⟩
  · have HC := Lib.hid hb
    clear hb
    go_enter Try.func58, Try.ntmps58
    go_wp2
    go_ret
    exact ⟨_, rfl, Nat.le_refl _, (Below.refl _ _).alloc (Nat.le_refl _) _, hs, bel_trans hW ((Below.refl _ _).alloc (Nat.le_refl _) _), ⟨_, n, cap, 0, by omega, by omega, HC.out, by go_simp, by go_simp⟩, by go_simp, by simp⟩
theorem Rd.setLow {W w : World} {g q b k : Nat} (h : Rd W w g q) (hb : b ≠ g) (hw : W.heap.size ≤ b) (v : Value) : Rd W (w.setCell ⟨b, k, none⟩ v) g q := by
  obtain ⟨a, n, cap, p, h1, h2, h3, h4, h5⟩ := h.cells
  have hk : (w.setCell ⟨b, k, none⟩ v).heap[g]? = w.heap[g]? := Below.heap_setCell w _ _ g (by simp only; omega)
  exact ⟨h.new, h.bel.setCell hw _, ⟨a, n, cap, p, h1, h2, h3, by rw [World.cell?_of_block (a := ⟨g, 0, none⟩) hk]; exact h4, by rw [World.cell?_of_block (a := ⟨g, 1, none⟩) hk]; exact h5⟩,
    by rw [World.frozen?_of_block (a := ⟨g, 1, none⟩) hk]; exact h.free, by simpa using h.lt⟩
/-- A graph in a box at B5, a view in a box at B6, the source of the draw. -/
structure CSt (W0 : World) (g q B5 B6 : Nat) (n : Int) (es : List Ed) (va : Option Addr) (vc : Nat) (m a : Int) (zs : List Int) (sa : Option Addr) (sc lo1 hi1 lo2 hi2 : Nat) (wr : World) : Prop where
  b5 : Box wr B5 25 #[.int .i64 n, .slice va es.length vc]
  r1 : InR true wr lo1 hi1 (.slice va es.length vc) es.length 3 (cellE es)
  ok1 : okS (.slice va es.length vc)
  b6 : Box wr B6 28 #[.int .i64 m, .int .i64 a, .slice sa zs.length sc]
  r2 : InR true wr lo2 hi2 (.slice sa zs.length sc) zs.length 1 (cellI zs)
  ok2 : okS (.slice sa zs.length sc)
  rd : Rd W0 wr g q
  sz : es.length ≤ 40 ∧ zs.length ≤ 12
  l1 : W0.heap.size ≤ lo1 ∧ hi1 ≤ wr.heap.size
  l2 : W0.heap.size ≤ lo2 ∧ hi2 ≤ wr.heap.size
  bb : W0.heap.size ≤ B5 ∧ B5 < B6 ∧ B6 < g
  d1 : hi1 ≤ B5
  d2 : hi2 ≤ B5 ∨ g < lo2
/-- The same, whatever it is. -/
def CS (W0 : World) (g q B5 B6 : Nat) (wr : World) : Prop := ∃ (n : Int) (es : List Ed) (va : Option Addr) (vc : Nat) (m a : Int) (zs : List Int) (sa : Option Addr) (sc lo1 hi1 lo2 hi2 : Nat), CSt W0 g q B5 B6 n es va vc m a zs sa sc lo1 hi1 lo2 hi2 wr
section
variable {W0 w w' : World} {g q B5 B6 : Nat} {n : Int} {es : List Ed} {va : Option Addr} {vc : Nat} {m a : Int} {zs : List Int} {sa : Option Addr} {sc lo1 hi1 lo2 hi2 : Nat}
theorem CSt.keep (h : CSt W0 g q B5 B6 n es va vc m a zs sa sc lo1 hi1 lo2 hi2 w) (hb : Below w.heap.size w w') : CSt W0 g q B5 B6 n es va vc m a zs sa sc lo1 hi1 lo2 hi2 w' :=
  { h with b5 := h.b5.keep hb, r1 := InR.keep h.r1 hb, b6 := h.b6.keep hb, r2 := InR.keep h.r2 hb, rd := h.rd.keep hb, l1 := ⟨h.l1.1, Nat.le_trans h.l1.2 hb.size⟩, l2 := ⟨h.l2.1, Nat.le_trans h.l2.2 hb.size⟩ }
/-- A change of the source's own block, and of nothing else that was there. -/
theorem CSt.chg {q' : Nat} (h : CSt W0 g q B5 B6 n es va vc m a zs sa sc lo1 hi1 lo2 hi2 w) (hR : Rd W0 w' g q') (hG : Chg g (g + 1) w w') : CSt W0 g q' B5 B6 n es va vc m a zs sa sc lo1 hi1 lo2 hi2 w' :=
  { h with b5 := (hG.block _ h.b5.lt (by have := h.bb; omega)).trans h.b5, r1 := InR.chg h.r1 hG (by have := h.bb; have := h.d1; omega), b6 := (hG.block _ h.b6.lt (by have := h.bb; omega)).trans h.b6, r2 := InR.chg h.r2 hG (by have := h.bb; have := h.d2; omega), rd := hR, l1 := ⟨h.l1.1, Nat.le_trans h.l1.2 hG.size⟩, l2 := ⟨h.l2.1, Nat.le_trans h.l2.2 hG.size⟩ }
theorem CSt.draw {q' : Nat} (h : CSt W0 g q B5 B6 n es va vc m a zs sa sc lo1 hi1 lo2 hi2 w) (hR : Rd W0 w' g q') (hG : w.grownBy w' (some g)) : CSt W0 g q' B5 B6 n es va vc m a zs sa sc lo1 hi1 lo2 hi2 w' := h.chg hR (g_chgG hG)
theorem CSt.cells (h : CSt W0 g q B5 B6 n es va vc m a zs sa sc lo1 hi1 lo2 hi2 w) : (w.cell? ⟨B5, 0, none⟩ = some (.int .i64 n) ∧ w.cell? ⟨B5, 1, none⟩ = some (.slice va es.length vc)) ∧ (w.cell? ⟨B6, 0, none⟩ = some (.int .i64 m) ∧ w.cell? ⟨B6, 1, none⟩ = some (.int .i64 a) ∧ w.cell? ⟨B6, 2, none⟩ = some (.slice sa zs.length sc)) ∧ (w.frozen? ⟨B6, 0, none⟩ = false ∧ w.frozen? ⟨B6, 1, none⟩ = false ∧ w.frozen? ⟨B6, 2, none⟩ = false) :=
  ⟨⟨by simpa using h.b5.cell 0, by simpa using h.b5.cell 1⟩, ⟨by simpa using h.b6.cell 0, by simpa using h.b6.cell 1, by simpa using h.b6.cell 2⟩, h.b6.frozen 0, h.b6.frozen 1, h.b6.frozen 2⟩
theorem CSt.size (h : CSt W0 g q B5 B6 n es va vc m a zs sa sc lo1 hi1 lo2 hi2 w) : B6 < w.heap.size ∧ B5 < w.heap.size ∧ g < w.heap.size := ⟨h.b6.lt, h.b5.lt, h.rd.lt⟩
/-- A new view is stored. -/
theorem CSt.put (h : CSt W0 g q B5 B6 n es va vc m a zs sa sc lo1 hi1 lo2 hi2 w) {ys : List Int} {ta : Option Addr} {tc lo hi : Nat} (hl : ys.length ≤ 12) (hr : InR true w lo hi (.slice ta ys.length tc) ys.length 1 (cellI ys)) (hok : okS (.slice ta ys.length tc)) {m' a' : Int}
    (hlo : g < lo) (hhi : hi ≤ w.heap.size) :
    CSt W0 g q B5 B6 n es va vc m' a' ys ta tc lo1 hi1 lo hi (((w.setCell ⟨B6, 0, none⟩ (.int .i64 m')).setCell ⟨B6, 1, none⟩ (.int .i64 a')).setCell ⟨B6, 2, none⟩ (.slice ta ys.length tc)) := by
  have hbb := h.bb
  have hd1 := h.d1
  have hgl := h.rd.lt
  have hc : Chg B6 (B6 + 1) w (((w.setCell ⟨B6, 0, none⟩ (.int .i64 m')).setCell ⟨B6, 1, none⟩ (.int .i64 a')).setCell ⟨B6, 2, none⟩ (.slice ta ys.length tc)) := (((Chg.refl _ _ _).setCell (by simp) (by simp) _).setCell (by simp) (by simp) _).setCell (by simp) (by simp) _
  have hb9 : Box (((w.setCell ⟨B6, 0, none⟩ (.int .i64 m')).setCell ⟨B6, 1, none⟩ (.int .i64 a')).setCell ⟨B6, 2, none⟩ (.slice ta ys.length tc)) B6 28 #[.int .i64 m', .int .i64 a', .slice ta ys.length tc] := by
    have := ((h.b6.set 0 (.int .i64 m')).set 1 (.int .i64 a')).set 2 (.slice ta ys.length tc)
    unfold Box at this ⊢
    simpa using this
  exact ⟨(hc.block _ h.b5.lt (.inl (by omega))).trans h.b5, h.r1.chg hc (by omega), h.ok1, hb9, hr.chg hc (by omega), hok,
    ((h.rd.setLow (by omega) (by omega) _).setLow (by omega) (by omega) _).setLow (by omega) (by omega) _, ⟨h.sz.1, hl⟩,
    ⟨h.l1.1, Nat.le_trans h.l1.2 hc.size⟩, ⟨by omega, Nat.le_trans hhi hc.size⟩, hbb, hd1, .inr hlo⟩
end
theorem own_neO {w : World} {base g : Nat} {t : TypeId} {v : Value} {n : Nat} {xs : List Value} (h : w.ownsRow base t 1 v n xs) (hg : g < base) : v.ownBlock = none ∨ v.ownBlock ≠ some g := by
  refine .inr fun e => ?_
  have := (h.lt g e).1
  omega
theorem Rd.grownO {W w w' : World} {g q : Nat} {row : Option Nat} (h : Rd W w g q) (hg : w.grownBy w' row) (hr : ∀ k, row = some k → g < k) : Rd W w' g q := by
  obtain ⟨a, n, cap, p, h1, h2, h3, h4, h5⟩ := h.cells
  have hb : w'.heap[g]? = w.heap[g]? := hg.block g h.lt (fun e => by have := hr g e.symm; omega)
  exact ⟨h.new, h.bel.grown hg (Nat.le_of_lt (Nat.lt_of_le_of_lt h.new h.lt)) (fun k hk => by have := hr k hk; have := h.new; omega),
    ⟨a, n, cap, p, h1, h2, h3, by rw [World.cell?_of_block (a := ⟨g, 0, none⟩) hb]; exact h4, by rw [World.cell?_of_block (a := ⟨g, 1, none⟩) hb]; exact h5⟩,
    by rw [World.frozen?_of_block (a := ⟨g, 1, none⟩) hb]; exact h.free, Nat.lt_of_lt_of_le h.lt hg.size⟩
/-- The order, in memory of its own behind S; of what lay there before only the source's block is changed. -/
structure OSt (W0 W1 : World) (g q S : Nat) (v : Value) (os : List Int) (wr : World) : Prop where
  chg : Chg g (g + 1) W1 wr
  rd : Rd W0 wr g q
  own : wr.ownsRow S 3 1 v os.length (os.map (Value.int .i64))
  gs : g < S ∧ S = W1.heap.size
section
variable {W0 W1 w w' : World} {g q S : Nat} {v : Value} {os : List Int}
theorem OSt.draw {q' : Nat} (h : OSt W0 W1 g q S v os w) (hR : Rd W0 w' g q') (hG : w.grownBy w' (some g)) : OSt W0 W1 g q' S v os w' :=
  ⟨h.chg.trans (g_chgG hG), hR, h.own.kept hG (own_neO h.own h.gs.1), h.gs⟩
theorem OSt.more {q' : Nat} (h : OSt W0 W1 g q S v os w) (hq : q ≤ q') : OSt W0 W1 g q' S v os w := { h with rd := h.rd.more hq }
theorem OSt.push (h : OSt W0 W1 g q S v os w) {o : Obj} {v' : Value} {x : Int} (hown : w'.ownsRow S 3 1 v' (os.length + 1) (os.map (Value.int .i64) ++ [.int .i64 x])) (hg : (w.alloc o).grownBy w' v.ownBlock) : OSt W0 W1 g q S v' (os ++ [x]) w' := by
  have hbA : Below w.heap.size w (w.alloc o) := (Below.refl _ _).alloc (Nat.le_refl _) _
  have ho := h.own.alloc o
  have hc := Chg.of_grown hg ho
  have hsz := h.chg.size
  have hgs := h.gs
  refine ⟨?_, (h.rd.keep hbA).grownO hg (fun q hq => by have := (ho.lt q hq).1; omega), by simpa using hown, h.gs⟩
  have h1 : Chg g (g + 1) W1 (w.alloc o) := h.chg.trans (Chg.of_below hbA)
  exact ⟨hc.os.trans h1.os, hc.tape.trans h1.tape, hc.output.trans h1.output, Nat.le_trans h1.size hc.size, fun k hk hd => (hc.block k (Nat.lt_of_lt_of_le hk h1.size) (.inl (by omega))).trans (h1.block k hk hd)⟩
end
end Go.Proofs.Ytbcbknebjbelmaa
namespace Go.Proofs.Ytbcbknebjbelmaa
open Go.RowKit Go.BigFrame Go.Deep
set_option linter.unusedVariables false
set_option linter.unusedSimpArgs false
set_option linter.unnecessarySimpa false
/-- A graph, a view of it and an order are drawn. -/
def DrawnO (w : World) (e : Ending) (w' : World) : Prop :=
  ∃ (n : Int) (es : List Ed) (s : Value) (m a : Int) (zs : List Int) (t : Value) (os : List Int) (u : Value), e = .returned (.tuple #[.agg #[.int .i64 n, s], .agg #[.int .i64 m, .int .i64 a, t], u]) ∧ (es.length ≤ 40 ∧ zs.length ≤ 12 ∧ os.length ≤ 151) ∧ (InR true w' w.heap.size w'.heap.size s es.length 3 (cellE es) ∧ okS s) ∧ (InR true w' w.heap.size w'.heap.size t zs.length 1 (cellI zs) ∧ okS t) ∧ (InR true w' w.heap.size w'.heap.size u os.length 1 (cellI os) ∧ okS u) ∧ Below w.heap.size w w'
theorem results_cct {fn : Func} {p r u : Tmp} {ty ty2 : TypeId} (h : fn.results = #[.cell p ty, .cell r ty2, .tmp u]) (tmps : Array Value) (P : Program) (w : World) :
    (results fn tmps).run P w = ((asAddr (tmps.getD p undef)).run P w).andThen fun a w₁ => ((loadVar ty a).run P w₁).andThen fun v w₂ => ((asAddr (tmps.getD r undef)).run P w₂).andThen fun b w₃ => ((loadVar ty2 b).run P w₃).andThen fun x w₄ => .ok (.tuple #[v, x, tmps.getD u undef]) w₄ := by
  simp only [results, h]
  simp
theorem drawnO_of {w w0 w1 W1 : World} {g q q' S B5 B6 : Nat} {n : Int} {es : List Ed} {va : Option Addr} {vc : Nat} {m a : Int} {zs : List Int} {sa : Option Addr} {sc lo1 hi1 lo2 hi2 : Nat} {u : Value} {os : List Int} (hb : Below w.heap.size w w0) (h0 : w.heap.size + 2 ≤ w0.heap.size) (h : CSt w0 g q B5 B6 n es va vc m a zs sa sc lo1 hi1 lo2 hi2 w1) (ho : OSt w0 W1 g q' S u os w1) (hl : os.length ≤ 151) (x0 x1 y0 y1 y2 : Value) :
    DrawnO w (.returned (.tuple #[.agg #[.int .i64 n, .slice va es.length vc], .agg #[.int .i64 m, .int .i64 a, .slice sa zs.length sc], u])) (((((w1.setCell ⟨w.heap.size, 0, none⟩ x0).setCell ⟨w.heap.size, 1, none⟩ x1).setCell ⟨w.heap.size + 1, 0, none⟩ y0).setCell ⟨w.heap.size + 1, 1, none⟩ y1).setCell ⟨w.heap.size + 1, 2, none⟩ y2).drew := by
  have hl1 := h.l1
  have hl2 := h.l2
  have hn := h.rd.new
  have hgs := ho.gs
  have hu : OwnV w0 w1 u os := OwnV.of ho.own (by omega)
  have hc : Chg w.heap.size (w.heap.size + 2) w1 (((((w1.setCell ⟨w.heap.size, 0, none⟩ x0).setCell ⟨w.heap.size, 1, none⟩ x1).setCell ⟨w.heap.size + 1, 0, none⟩ y0).setCell ⟨w.heap.size + 1, 1, none⟩ y1).setCell ⟨w.heap.size + 1, 2, none⟩ y2).drew :=
    (((((((Chg.refl _ _ _).setCell (by simp) (by simp) _).setCell (by simp) (by simp) _).setCell (by simp) (by simp) _).setCell (by simp) (by simp) _).setCell (by simp) (by simp) _)).drew
  exact ⟨n, es, _, m, a, zs, _, os, _, rfl, ⟨h.sz.1, h.sz.2, hl⟩, ⟨(h.r1.chg hc (.inl (by omega))).wider (by omega) (Nat.le_trans hl1.2 hc.size) (Nat.le_refl _), h.ok1⟩, ⟨(h.r2.chg hc (.inl (by omega))).wider (by omega) (Nat.le_trans hl2.2 hc.size) (Nat.le_refl _), h.ok2⟩, ⟨(InR.chg hu hc (.inl (by omega))).wider (by omega) hc.size (Nat.le_refl _), own_ok ho.own⟩, bel_chg (bel_trans hb h.rd.bel) hc (Nat.le_refl _)⟩
theorem info_intO : (Try.prog.info? 3).map (fun i => (i.zero, i.size, i.bytes)) = some (some (.int .i64 0), 1, 8) := by kernel_rfl

set_option maxRecDepth 20000 in
set_option maxHeartbeats 8000000 in
theorem l5Case (a : Option Addr) (n cap : Nat) (w : World) (hb : Bytes w a n) (hcap : n ≤ cap) (hn : n ≤ 281474976710656) :
    Calls Try.prog 72 #[.slice a n cap] w (DrawnO w) := by
  have hbl : Below w.heap.size w ((w.alloc (.cells #[.int .i64 0, .slice none 0 0] 25)).alloc (.cells #[.int .i64 0, .int .i64 0, .slice none 0 0] 28)) := ((Below.refl _ _).alloc (Nat.le_refl _) _).alloc (by simp) _
  have hx2 : Box ((w.alloc (.cells #[.int .i64 0, .slice none 0 0] 25)).alloc (.cells #[.int .i64 0, .int .i64 0, .slice none 0 0] 28)) w.heap.size 25 #[.int .i64 0, .slice none 0 0] := (Box.new _ _ _).alloc _
  have hx3 : Box ((w.alloc (.cells #[.int .i64 0, .slice none 0 0] 25)).alloc (.cells #[.int .i64 0, .int .i64 0, .slice none 0 0] 28)) (w.heap.size + 1) 28 #[.int .i64 0, .int .i64 0, .slice none 0 0] := by have := Box.new (w.alloc (.cells #[.int .i64 0, .slice none 0 0] 25)) 28 #[.int .i64 0, .int .i64 0, .slice none 0 0]; simpa using this
  have HC := Lib.hid hb
  obtain ⟨i0, hi, hz0, hz1, hz2⟩ := info_parts info_intO
  have HI := Lib.hid (And.intro hi (And.intro hz0 (And.intro hz1 hz2)))
  clear hb hi hz0 hz1 hz2
  go_enter Try.func72, Try.ntmps72
  go_wp2_with fail
  generalize ((w.alloc (.cells #[.int .i64 0, .slice none 0 0] 25)).alloc (.cells #[.int .i64 0, .int .i64 0, .slice none 0 0] 28)) = w0 at hbl hx2 hx3 ⊢
  have hs0 : w.heap.size + 2 ≤ w0.heap.size := hx3.lt
  have H0 := Lib.hid (And.intro hbl (And.intro hx2 hx3))
  clear hbl hx2 hx3
  refine (l3Views a n cap w0 (HC.out.keepB H0.out.1) hcap hn).mono ?_
  rintro e w1 ⟨n1, es, s, m, b, zs, t, rfl, hl, hr1, hr2, hb1⟩
  obtain ⟨va, vc, rfl, hz9⟩ := id hr1.1
  obtain ⟨sa, sc, rfl, hz8⟩ := id hr2.1
  have hs1 := hb1.size
  have K1 := Lib.hid (And.intro hl (And.intro hr1 (And.intro hr2 hb1)))
  clear hz9 hz8 hl hr1 hr2 hb1
  go_upto_region 2 with fail
  have hbA : Below w1.heap.size w1 ((w1.alloc (.cells #[.int .i64 n1, .slice va es.length vc] 25)).alloc (.cells #[.int .i64 m, .int .i64 b, .slice sa zs.length sc] 28)) := ((Below.refl _ _).alloc (Nat.le_refl _) _).alloc (by simp) _
  have hB5 : Box ((w1.alloc (.cells #[.int .i64 n1, .slice va es.length vc] 25)).alloc (.cells #[.int .i64 m, .int .i64 b, .slice sa zs.length sc] 28)) w1.heap.size 25 #[.int .i64 n1, .slice va es.length vc] := (Box.new _ _ _).alloc _
  have hB6 : Box ((w1.alloc (.cells #[.int .i64 n1, .slice va es.length vc] 25)).alloc (.cells #[.int .i64 m, .int .i64 b, .slice sa zs.length sc] 28)) (w1.heap.size + 1) 28 #[.int .i64 m, .int .i64 b, .slice sa zs.length sc] := by have := Box.new (w1.alloc (.cells #[.int .i64 n1, .slice va es.length vc] 25)) 28 #[.int .i64 m, .int .i64 b, .slice sa zs.length sc]; simpa using this
  have K2 := Lib.hid (And.intro hbA (And.intro hB5 hB6))
  clear hbA hB5 hB6
  generalize ((w1.alloc (.cells #[.int .i64 n1, .slice va es.length vc] 25)).alloc (.cells #[.int .i64 m, .int .i64 b, .slice sa zs.length sc] 28)) = w2 at K2 ⊢
  have hs2 := K2.out.1.size
  have hB6l := K2.out.2.2.lt
  go_wp2_with fail
  refine (l15OpenW w0 a n cap w2 (bel_trans K1.out.2.2.2 K2.out.1) (by omega) (HC.out.keepB H0.out.1) hcap hn).mono ?_
  rintro e w3 ⟨g, rfl, hg2, hb3, hR⟩
  have HS3 : Hid (CSt w0 g 0 w1.heap.size (w1.heap.size + 1) n1 es va vc m b zs sa sc w0.heap.size w1.heap.size w0.heap.size w1.heap.size w3) := Lib.hid ⟨K2.out.2.1.keep hb3, InR.keep (InR.keep K1.out.2.1.1 K2.out.1) hb3, K1.out.2.1.2, K2.out.2.2.keep hb3, InR.keep (InR.keep K1.out.2.2.1.1 K2.out.1) hb3, K1.out.2.2.1.2, hR, K1.out.1, ⟨Nat.le_refl _, Nat.le_trans hs2 hb3.size⟩, ⟨Nat.le_refl _, Nat.le_trans hs2 hb3.size⟩, ⟨hs1, by omega, by omega⟩, Nat.le_refl _, .inl (Nat.le_refl _)⟩
  have hBB : w1.heap.size + 1 < g := by omega
  clear hb3 hR hB6l hs2 hg2 K1 K2
  obtain ⟨B5, hB5⟩ : ∃ B5, B5 = w1.heap.size := ⟨_, rfl⟩
  obtain ⟨B6, hB6⟩ : ∃ B6, B6 = w1.heap.size + 1 := ⟨_, rfl⟩
  go_upto_region 3 with fail
  rw [← hB6, ← hB5] at HS3
  try simp only [← hB6]
  try simp only [← hB5]
  have hb56 : B5 < B6 ∧ B6 < g := by omega
  clear hB5 hB6 hBB hs1
  go_cut [26] from 19 to 91 (fun c wx => ∃ b0 : Bool, c = .bool b0 ∧ (b0 = true → vVal n1 es m b zs = true) ∧ CSt w0 g 10 B5 B6 n1 es va vc m b zs sa sc w0.heap.size B5 w0.heap.size B5 wx)
  case first =>
    go_wp2_with fail
    refine (pick 2 w0 w3 g _ HS3.out.rd (by omega) (by omega)).mono ?_
    rintro e w4 ⟨c, rfl, hx0, hx1, hR, hG⟩
    have HS4 := Lib.hid (HS3.out.draw hR hG)
    clear hR hG hx0 hx1 HS3
    by_cases hc0 : c = 0
    · subst hc0
      have hvv := sViewValid n1 m b es zs (.slice va es.length vc) (.slice sa zs.length sc) w4 HS4.out.r1.edges (InR.rowI HS4.out.r2) (by have := HS4.out.sz; omega) (by have := HS4.out.sz; omega)
      obtain ⟨b0, hb0⟩ : ∃ b0, b0 = vVal n1 es m b zs := ⟨_, rfl⟩
      rw [← hb0] at hvv
      have HV0 := Lib.hid hb0
      have HVV := Lib.hid hvv
      clear hb0 hvv
      obtain ⟨⟨c0, c1⟩, ⟨z0, z1, z2⟩, f0, f1, f2⟩ := HS4.out.cells
      go_wp2_with fail
      refine HVV.out.mono ?_
      rintro e w5 ⟨rfl, hb5⟩
      have HS5 := Lib.hid (HS4.out.keep hb5)
      clear hb5
      go_wp2_with fail
      go_meet
      exact ⟨b0, rfl, fun h => by rw [← HV0.out]; exact h, { HS5.out with rd := HS5.out.rd.more (by omega) }⟩
    · have d0 : (c == 0) = false := by simpa using hc0
      go_wp2_with fail
      go_meet
      exact ⟨false, rfl, (fun h => by cases h), { HS4.out with rd := HS4.out.rd.more (by omega) }⟩
  case rest =>
    obtain ⟨b0, rfl, hval, hS⟩ := hcut
    have HS := Lib.hid hS
    have HVA := Lib.hid hval
    clear hS hval HS3
    go_upto_if 26 with fail
    go_cut [] from 27 to 91 (fun wx => CS w0 g 10 B5 B6 wx)
    case first =>
      cases b0
      · go_wp2_with fail
        go_meet
        exact ⟨_, _, _, _, _, _, _, _, _, _, _, _, _, HS.out⟩
      · have hV := HVA.out rfl
        obtain ⟨hgv, hsr, hlen, hmk, hall⟩ := vVal_parts hV
        have hsz9 := HS.out.sz
        obtain ⟨N, hN⟩ : ∃ N : Nat, n1 = N := ⟨n1.toNat, by omega⟩
        subst hN
        obtain ⟨A, hA⟩ : ∃ A : Nat, b = A := ⟨b.toNat, by omega⟩
        subst hA
        have hlst := fun w' => l3Start m N A hmk (by omega) (by omega) va es.length vc w'
        have HLS := Lib.hid hlst
        have hN12 : N ≤ 12 := by omega
        obtain ⟨⟨c0, c1⟩, ⟨z0, z1, z2⟩, f0, f1, f2⟩ := HS.out.cells
        have hgl := HS.out.size
        clear hlst hV hgv hsr hlen hmk hall
        go_wp2_with fail
        refine (HLS.out _).mono ?_
        rintro e w7 ⟨v, rfl, hown, hok, hb7⟩
        obtain ⟨t7, k7, rfl⟩ := hown.slice
        have HS7 := Lib.hid (And.intro (HS.out.keep hb7) (And.intro hown hok))
        have hs7 := hb7.size
        obtain ⟨⟨c0, c1⟩, ⟨z0, z1, z2⟩, f0, f1, f2⟩ := HS7.out.1.cells
        clear hown hok hb7 HS
        go_wp2_with fail
        go_meet
        exact ⟨_, _, _, _, m, A, _, t7, k7, _, _, _, _, HS7.out.1.put (by rw [vStart_length]; omega) HS7.out.2.1 HS7.out.2.2 (by omega) (Nat.le_refl _)⟩
    case rest =>
      clear HS HVA
      obtain ⟨n2, es2, va2, vc2, m2, a2, zs2, sa2, sc2, l1, h1, l2, h2, hS⟩ := hcut
      have HS := Lib.hid hS
      have hE40 : es2.length ≤ 40 := hS.sz.1
      have hgc := hS.rd.lt
      obtain ⟨hb6c, hb5c, -⟩ := hS.size
      obtain ⟨⟨c0, c1⟩, -, -, -, -⟩ := hS.cells
      clear hS
      obtain ⟨wq, hwq⟩ : ∃ wq, wq = wc := ⟨_, rfl⟩
      subst hwq
      by_cases hE0 : es2.length = 0
      · have hE0' : (es2.length : Int) = 0 := by omega
        have HE0 := Lib.hid hE0
        have hOut := fun x0 x1 y0 y1 y2 => drawnO_of (q' := 10) (S := wq.heap.size) (W1 := wq) (w1 := wq.alloc (.cells #[] 3)) (u := .slice (some ⟨wq.heap.size, 0, none⟩) 0 0) (os := []) H0.out.1 hs0 (HS.out.keep ((Below.refl _ _).alloc (Nat.le_refl _) _)) ⟨Chg.of_below ((Below.refl _ _).alloc (Nat.le_refl _) _), (HS.out.keep ((Below.refl _ _).alloc (Nat.le_refl _) _)).rd, own_empty3 wq 3 1 wq.heap.size (Nat.le_refl _), ⟨hgc, rfl⟩⟩ (by simp) x0 x1 y0 y1 y2
        have HOUT := Lib.hid hOut
        have HCE := Lib.hid (HS.out.keep (w' := wq.alloc (.cells #[] 3)) ((Below.refl _ _).alloc (Nat.le_refl _) _))
        clear hOut hE0 HS
        go_upto_region 7 with fail
        generalize (wq.alloc (.cells #[] 3)) = w9 at HOUT HCE ⊢
        obtain ⟨ua, hua⟩ : ∃ x, x = some (⟨wq.heap.size, 0, none⟩ : Addr) := ⟨_, rfl⟩
        rw [← hua] at HOUT
        try simp only [← hua]
        clear hua c0 c1
        have hr2 := H0.out.2.1.keep HCE.out.rd.bel
        have hr3 := H0.out.2.2.keep HCE.out.rd.bel
        have hbbE := HCE.out.bb
        have hszE := HCE.out.size
        have hgE := HCE.out.rd.new
        obtain ⟨⟨x0, x1⟩, ⟨y0, y1, y2⟩, -, -, -⟩ := HCE.out.cells
        have p0 := hr2.cell 0
        have p1 := hr2.cell 1
        have q0 := hr3.cell 0
        have q1 := hr3.cell 1
        have q2 := hr3.cell 2
        have fp0 := hr2.frozen 0
        have fp1 := hr2.frozen 1
        have fq0 := hr3.frozen 0
        have fq1 := hr3.frozen 1
        have fq2 := hr3.frozen 2
        simp only [List.getElem?_toArray, List.getElem?_cons_succ, List.getElem?_cons_zero] at p0 p1 q0 q1 q2
        have e1 : ¬ w.heap.size = B5 := by omega
        have e2 : ¬ w.heap.size = B6 := by omega
        have e3 : ¬ w.heap.size + 1 = B5 := by omega
        have e4 : ¬ w.heap.size + 1 = B6 := by omega
        have e5 : ¬ B5 = w.heap.size := by omega
        have e6 : ¬ B6 = w.heap.size := by omega
        have e7 : ¬ B5 = w.heap.size + 1 := by omega
        have e8 : ¬ B6 = w.heap.size + 1 := by omega
        clear hr2 hr3
        go_wp2_with fail
        go_region_held3 (fun w' : World => w'.cell? ⟨B5, 0, none⟩ = some (.int .i64 n2) ∧ w'.cell? ⟨B5, 1, none⟩ = some (.slice va2 es2.length vc2) ∧ w'.cell? ⟨B6, 0, none⟩ = some (.int .i64 m2) ∧ w'.cell? ⟨B6, 1, none⟩ = some (.int .i64 a2) ∧ w'.cell? ⟨B6, 2, none⟩ = some (.slice sa2 zs2.length sc2)) (refine ⟨?_, ?_, ?_, ?_, ?_⟩ <;> go_simp) (fail)
        all_goals
          go_wp2
          try simp only [Exit.inBlock, Exit.then]
          refine bodyPost_ret (v := .tuple #[.agg #[.int .i64 n2, .slice va2 es2.length vc2], .agg #[.int .i64 m2, .int .i64 a2, .slice sa2 zs2.length sc2], .slice ua 0 0]) ?_ rfl ?_
          · rw [results_cct rfl]
            go_simp
          exact HOUT.out _ _ _ _ _
      · have hE0' : ¬ (es2.length : Int) = 0 := by omega
        have hEb : ((es2.length : Int) == 0) = false := by simpa using hE0'
        have hOS : OSt w0 wq g 10 wq.heap.size (.slice (some ⟨wq.heap.size, 0, none⟩) 0 0) [] (wq.alloc (.cells #[] 3)) := ⟨Chg.of_below ((Below.refl _ _).alloc (Nat.le_refl _) _), (HS.out.keep ((Below.refl _ _).alloc (Nat.le_refl _) _)).rd, own_empty3 wq 3 1 wq.heap.size (Nat.le_refl _), ⟨hgc, rfl⟩⟩
        have HOS := Lib.hid hOS
        clear hOS hE0 hE0'
        go_upto_region 8 with fail
        generalize (wq.alloc (.cells #[] 3)) = w9 at HOS ⊢
        clear c0 c1
        go_wp2_with fail
        refine (num_built [8, 4, 16, 30, 0] w0 w9 g _ HOS.out.rd (by omega) _ (by decide) (by decide)).mono ?_
        rintro e w10 ⟨x, hx, rfl, hR, hG⟩
        obtain ⟨J, hJ, hJ30⟩ : ∃ J : Nat, x = J ∧ J ≤ 30 := by
          simp only [List.mem_cons, List.not_mem_nil, or_false] at hx
          rcases hx with rfl | rfl | rfl | rfl | rfl
          · exact ⟨8, rfl, by omega⟩
          · exact ⟨4, rfl, by omega⟩
          · exact ⟨16, rfl, by omega⟩
          · exact ⟨30, rfl, by omega⟩
          · exact ⟨0, rfl, by omega⟩
        subst hJ
        have HOA := Lib.hid ((HOS.out.draw hR hG).more (show 10 + 1 ≤ 50 - J by omega))
        clear hx hR hG HOS
        go_wp2_with fail
        go_loopw [8, 9] (fun v c wr => ∃ (j : Nat) (os : List Int), j ≤ 30 ∧ c = .int .i64 j ∧ os.length + j ≤ 30 ∧ Hid (OSt w0 wq g (50 - j) wq.heap.size v os wr)) (fun _ c _ => (intOf c).toNat)
        case atStart => exact ⟨J, [], hJ30, rfl, by simpa using hJ30, HOA⟩
        case round =>
          obtain ⟨j, os, hj, rfl, hlen, HO⟩ := hrel
          by_cases hpos : 0 < j
          · have hpos' : (0 : Int) < j := by omega
            obtain ⟨⟨c0, c1⟩, -, -, -, -⟩ := (HS.out.chg HO.out.rd HO.out.chg).cells
            go_wp2_with fail
            refine (pick es2.length w0 wr g _ HO.out.rd (by omega) (by omega)).mono ?_
            rintro e w5 ⟨x, rfl, hx0, hx1, hR, hG⟩
            have HO5 := Lib.hid ((HO.out.draw hR hG).more (show 50 - j + 1 ≤ 50 - (j - 1) by omega))
            clear hR hG hx0 hx1 c0 c1
            obtain ⟨hi, hz0, hz1, hz2⟩ := HI.out
            have hgs := HO5.out.gs
            have hsz := HO5.out.chg.size
            go_wp2_with (at_builtin; refine wpList_append_own _ rfl _ _ 26 rfl wq.heap.size 3 i0 (.int .i64 0) 1 8 Try.underlying26 hi hz0 hz1 hz2 rfl (by decide) _ _ _ rfl (HO5.out.own.alloc _) ⟨w5.heap.size, 0, none⟩ 1 1 [.int .i64 (x)] rfl rfl ?kho5w51 ?kho5w52 ?kho5w53 ?kho5w54 ?kho5w55 ?_)
            try (case kho5w51 => exact cell_one_new _ _ _)
            case kho5w52 => simp [Value.oneCell']
            case kho5w53 => unfold maxLen; omega
            case kho5w54 => omega
            case kho5w55 => (try simp); omega
            intro v' w9 hown9 hgrow9 _
            have HOS9 := Lib.hid (HO5.out.push hown9 hgrow9)
            clear hown9 hgrow9 hi hz0 hz1 hz2
            go_wp2
            go_roundw
            case rel => first | exact ⟨j - 1, os ++ [x], by omega, by go_num, by simp; omega, HOS9⟩ | ((repeat apply Exists.intro); exact ⟨⟨j - 1, os ++ [x], by omega, by go_num, by simp; omega, HOS9⟩, rfl⟩)
            case measure => simp [intOf]; omega
          · have hpos' : ¬ ((0 : Int) < j) := by omega
            have HO1 := Lib.hid (HO.out.more (show 50 - j ≤ 50 by omega))
            have hl30 : os.length ≤ 30 := by omega
            clear HO hpos HOA hlen
            go_wp2_with fail
            refine (pick 3 w0 wr g _ HO1.out.rd (by omega) (by omega)).mono ?_
            rintro e w5 ⟨c, rfl, hx0, hx1, hR, hG⟩
            have HO5 := Lib.hid (HO1.out.draw hR hG)
            clear hR hG hx0 hx1 HO1
            go_upto_if 58 with fail
            go_cut [8] from 59 to 91 (fun v wx => ∃ os : List Int, os.length ≤ 150 ∧ OSt w0 wq g 60 wq.heap.size v os wx)
            case first =>
              by_cases hc0 : c = 0
              · subst hc0
                go_wp2_with fail
                go_loopw [8, 10, 11] (fun v c _ wr => ∃ (j : Nat) (os : List Int), j ≤ 3 ∧ c = .int .i64 j ∧ os.length ≤ 30 + 40 * j ∧ Hid (OSt w0 wq g 60 wq.heap.size v os wr)) (fun _ c _ _ => 3 - (intOf c).toNat)
                case atStart => exact ⟨0, os, by omega, rfl, by omega, Lib.hid (HO5.out.more (by omega))⟩
                case round =>
                  clear HO5
                  obtain ⟨j, os, hj, rfl, hlen, HO⟩ := hrel
                  by_cases hlt : j < 3
                  · have hlt' : (j : Int) < 3 := by omega
                    go_wp2_with fail
                    go_loopw [8, 11] (fun v d wr => ∃ (i : Nat) (os : List Int), i ≤ es2.length ∧ d = .int .i64 i ∧ os.length ≤ 30 + 40 * j + i ∧ Hid (OSt w0 wq g 60 wq.heap.size v os wr)) (fun _ d _ => es2.length - (intOf d).toNat)
                    case atStart => exact ⟨0, os, by omega, rfl, by omega, HO⟩
                    case round =>
                      clear HO
                      obtain ⟨i, os, hi9, rfl, hlen, HO⟩ := hrel
                      have hsz9 := HO.out.chg.size
                      obtain ⟨⟨c0, c1⟩, -, -, -, -⟩ := (HS.out.chg HO.out.rd HO.out.chg).cells
                      by_cases hlt9 : i < es2.length
                      · have hlt9' : (i : Int) < es2.length := by omega
                        obtain ⟨hi, hz0, hz1, hz2⟩ := HI.out
                        have hgs := HO.out.gs
                        have hsz := HO.out.chg.size
                        go_wp2_with (at_builtin; refine wpList_append_own _ rfl _ _ 26 rfl wq.heap.size 3 i0 (.int .i64 0) 1 8 Try.underlying26 hi hz0 hz1 hz2 rfl (by decide) _ _ _ rfl (HO.out.own.alloc _) ⟨wr.heap.size, 0, none⟩ 1 1 [.int .i64 ((es2.length : Int) - 1 - i)] rfl rfl ?khowr1 ?khowr2 ?khowr3 ?khowr4 ?khowr5 ?_)
                        try (case khowr1 => exact cell_one_new _ _ _)
                        case khowr2 => simp [Value.oneCell']
                        case khowr3 => unfold maxLen; omega
                        case khowr4 => omega
                        case khowr5 => (try simp); omega
                        intro v' w9 hown9 hgrow9 _
                        have HOS9 := Lib.hid (HO.out.push hown9 hgrow9)
                        clear hown9 hgrow9 hi hz0 hz1 hz2
                        go_wp2
                        go_roundw
                        case rel => first | exact ⟨i + 1, os ++ [(es2.length : Int) - 1 - i], by omega, by go_num, by simp; omega, HOS9⟩ | ((repeat apply Exists.intro); exact ⟨⟨i + 1, os ++ [(es2.length : Int) - 1 - i], by omega, by go_num, by simp; omega, HOS9⟩, rfl⟩)
                        case measure => simp [intOf]; omega
                      · have hlt9' : ¬ ((i : Int) < es2.length) := by omega
                        go_wp2
                        go_roundw
                        case rel => first | exact ⟨j + 1, os, by omega, by go_num, by omega, HO⟩ | ((repeat apply Exists.intro); exact ⟨⟨j + 1, os, by omega, by go_num, by omega, HO⟩, rfl⟩)
                        case measure => simp [intOf]; omega
                  · have hlt' : ¬ ((j : Int) < 3) := by omega
                    go_wp2_with fail
                    go_meet
                    exact ⟨os, by omega, HO.out⟩
              · have d0 : (c == 0) = false := by simpa using hc0
                go_wp2_with fail
                go_meet
                exact ⟨os, by omega, HO5.out.more (by omega)⟩
            case rest =>
              clear HO5
              obtain ⟨os, hl150, hO⟩ := hcut
              have HO := Lib.hid hO
              clear hO
              go_wp2_with fail
              refine (pick 24 w0 wc g _ HO.out.rd (by omega) (by omega)).mono ?_
              rintro e w5 ⟨c, rfl, hx0, hx1, hR, hG⟩
              have HO5 := Lib.hid (HO.out.draw hR hG)
              clear hR hG hx0 hx1 HO
              go_upto_if 81 with fail
              go_cut [8] from 82 to 91 (fun v wx => ∃ os : List Int, os.length ≤ 151 ∧ OSt w0 wq g 70 wq.heap.size v os wx)
              case first =>
                by_cases hc0 : c = 0
                · subst hc0
                  go_wp2_with fail
                  refine (num_built [-1, 40] w0 w5 g _ HO5.out.rd (by omega) _ (by decide) (by decide)).mono ?_
                  rintro e w6 ⟨y, hy, rfl, hR, hG⟩
                  have HO6 := Lib.hid ((HO5.out.draw hR hG).more (show _ ≤ 70 by omega))
                  clear hy hR hG HO5
                  obtain ⟨hi, hz0, hz1, hz2⟩ := HI.out
                  have hgs := HO6.out.gs
                  have hsz := HO6.out.chg.size
                  go_wp2_with (at_builtin; refine wpList_append_own _ rfl _ _ 26 rfl wq.heap.size 3 i0 (.int .i64 0) 1 8 Try.underlying26 hi hz0 hz1 hz2 rfl (by decide) _ _ _ rfl (HO6.out.own.alloc _) ⟨w6.heap.size, 0, none⟩ 1 1 [.int .i64 (y)] rfl rfl ?kho6w61 ?kho6w62 ?kho6w63 ?kho6w64 ?kho6w65 ?_)
                  try (case kho6w61 => exact cell_one_new _ _ _)
                  case kho6w62 => simp [Value.oneCell']
                  case kho6w63 => unfold maxLen; omega
                  case kho6w64 => omega
                  case kho6w65 => (try simp); omega
                  intro v' w9 hown9 hgrow9 _
                  have HOS9 := Lib.hid (HO6.out.push hown9 hgrow9)
                  clear hown9 hgrow9 hi hz0 hz1 hz2
                  go_wp2_with fail
                  go_meet
                  exact ⟨os ++ [y], by simp; omega, HOS9.out⟩
                · have d0 : (c == 0) = false := by simpa using hc0
                  go_wp2_with fail
                  go_meet
                  exact ⟨os, by omega, HO5.out.more (by omega)⟩
              case rest =>
                clear HO5
                obtain ⟨os, hl151, hO⟩ := hcut
                obtain ⟨ua, uc, rfl⟩ := own_slice hO.own
                have hOut := fun x0 x1 y0 y1 y2 => drawnO_of H0.out.1 hs0 (HS.out.chg hO.rd hO.chg) hO hl151 x0 x1 y0 y1 y2
                have HOUT := Lib.hid hOut
                have HCE := Lib.hid (HS.out.chg hO.rd hO.chg)
                clear hOut hO HS
                have hr2 := H0.out.2.1.keep HCE.out.rd.bel
                have hr3 := H0.out.2.2.keep HCE.out.rd.bel
                have hbbE := HCE.out.bb
                have hszE := HCE.out.size
                have hgE := HCE.out.rd.new
                obtain ⟨⟨x0, x1⟩, ⟨y0, y1, y2⟩, -, -, -⟩ := HCE.out.cells
                have p0 := hr2.cell 0
                have p1 := hr2.cell 1
                have q0 := hr3.cell 0
                have q1 := hr3.cell 1
                have q2 := hr3.cell 2
                have fp0 := hr2.frozen 0
                have fp1 := hr2.frozen 1
                have fq0 := hr3.frozen 0
                have fq1 := hr3.frozen 1
                have fq2 := hr3.frozen 2
                simp only [List.getElem?_toArray, List.getElem?_cons_succ, List.getElem?_cons_zero] at p0 p1 q0 q1 q2
                have e1 : ¬ w.heap.size = B5 := by omega
                have e2 : ¬ w.heap.size = B6 := by omega
                have e3 : ¬ w.heap.size + 1 = B5 := by omega
                have e4 : ¬ w.heap.size + 1 = B6 := by omega
                have e5 : ¬ B5 = w.heap.size := by omega
                have e6 : ¬ B6 = w.heap.size := by omega
                have e7 : ¬ B5 = w.heap.size + 1 := by omega
                have e8 : ¬ B6 = w.heap.size + 1 := by omega
                clear hr2 hr3
                go_wp2_with fail
                go_region_held3 (fun w' : World => w'.cell? ⟨B5, 0, none⟩ = some (.int .i64 n2) ∧ w'.cell? ⟨B5, 1, none⟩ = some (.slice va2 es2.length vc2) ∧ w'.cell? ⟨B6, 0, none⟩ = some (.int .i64 m2) ∧ w'.cell? ⟨B6, 1, none⟩ = some (.int .i64 a2) ∧ w'.cell? ⟨B6, 2, none⟩ = some (.slice sa2 zs2.length sc2)) (refine ⟨?_, ?_, ?_, ?_, ?_⟩ <;> go_simp) (fail)
                all_goals
                  go_wp2
                  try simp only [Exit.inBlock, Exit.then]
                  refine bodyPost_ret (v := .tuple #[.agg #[.int .i64 n2, .slice va2 es2.length vc2], .agg #[.int .i64 m2, .int .i64 a2, .slice sa2 zs2.length sc2], .slice ua os.length uc]) ?_ rfl ?_
                  · rw [results_cct rfl]
                    go_simp
                  exact HOUT.out _ _ _ _ _
end Go.Proofs.Ytbcbknebjbelmaa
namespace Go.Proofs.Ytbcbknebjbelmaa
open Go.RowKit Go.BigFrame Go.Deep
set_option linter.unusedVariables false
set_option linter.unusedSimpArgs false
set_option linter.unnecessarySimpa false
theorem drawnO_out {w w0 w1 : World} {n m a : Int} {es : List Ed} {zs os : List Int} {s t u : Value} (hb : Below w.heap.size w w0) (h0 : w.heap.size + 2 ≤ w0.heap.size) (hb1 : Below w0.heap.size w0 w1) (hl : es.length ≤ 40 ∧ zs.length ≤ 12 ∧ os.length ≤ 151) (hr1 : InR true w1 w0.heap.size w1.heap.size s es.length 3 (cellE es) ∧ okS s) (hr2 : InR true w1 w0.heap.size w1.heap.size t zs.length 1 (cellI zs) ∧ okS t) (hr3 : InR true w1 w0.heap.size w1.heap.size u os.length 1 (cellI os) ∧ okS u) (x0 x1 y0 y1 y2 : Value) :
    DrawnO w (.returned (.tuple #[.agg #[.int .i64 n, s], .agg #[.int .i64 m, .int .i64 a, t], u])) (((((w1.setCell ⟨w.heap.size, 0, none⟩ x0).setCell ⟨w.heap.size, 1, none⟩ x1).setCell ⟨w.heap.size + 1, 0, none⟩ y0).setCell ⟨w.heap.size + 1, 1, none⟩ y1).setCell ⟨w.heap.size + 1, 2, none⟩ y2) := by
  have hc := chg5 w1 w.heap.size x0 x1 y0 y1 y2
  exact ⟨n, es, _, m, a, zs, _, os, _, rfl, hl, ⟨(hr1.1.chg hc (.inl (by omega))).wider (by omega) hc.size (Nat.le_refl _), hr1.2⟩, ⟨(hr2.1.chg hc (.inl (by omega))).wider (by omega) hc.size (Nat.le_refl _), hr2.2⟩, ⟨(hr3.1.chg hc (.inl (by omega))).wider (by omega) hc.size (Nat.le_refl _), hr3.2⟩, bel_chg (bel_trans hb hb1) hc (Nat.le_refl _)⟩

set_option maxHeartbeats 1000000 in
theorem dDrawRunSchedule (a : Option Addr) (n cap : Nat) (w : World) (hb : Bytes w a n) (hcap : n ≤ cap) (hn : n ≤ 281474976710656) :
    Calls Try.prog 39 #[.slice a n cap] w (DrawnO w) := by
  have hbl : Below w.heap.size w ((w.alloc (.cells #[.int .i64 0, .slice none 0 0] 25)).alloc (.cells #[.int .i64 0, .int .i64 0, .slice none 0 0] 28)) := ((Below.refl _ _).alloc (Nat.le_refl _) _).alloc (by simp) _
  have hx2 : Box ((w.alloc (.cells #[.int .i64 0, .slice none 0 0] 25)).alloc (.cells #[.int .i64 0, .int .i64 0, .slice none 0 0] 28)) w.heap.size 25 #[.int .i64 0, .slice none 0 0] := (Box.new _ _ _).alloc _
  have hx3 : Box ((w.alloc (.cells #[.int .i64 0, .slice none 0 0] 25)).alloc (.cells #[.int .i64 0, .int .i64 0, .slice none 0 0] 28)) (w.heap.size + 1) 28 #[.int .i64 0, .int .i64 0, .slice none 0 0] := by have := Box.new (w.alloc (.cells #[.int .i64 0, .slice none 0 0] 25)) 28 #[.int .i64 0, .int .i64 0, .slice none 0 0]; simpa using this
  have HC := Lib.hid hb
  clear hb
  go_enter Try.func39, Try.ntmps39
  go_wp2_with fail
  generalize ((w.alloc (.cells #[.int .i64 0, .slice none 0 0] 25)).alloc (.cells #[.int .i64 0, .int .i64 0, .slice none 0 0] 28)) = w0 at hbl hx2 hx3 ⊢
  refine (l5Case a n cap w0 (HC.out.keepB hbl) hcap hn).mono ?_
  rintro e w1 ⟨n1, es, s, m, b, zs, t, os, u, rfl, hl, hr1, hr2, hr3, hb1⟩
  obtain ⟨va, vc, rfl, hz⟩ := id hr1.1
  obtain ⟨ta, tc, rfl, hz2⟩ := id hr2.1
  obtain ⟨ua, uc, rfl, hz3⟩ := id hr3.1
  have h0 : w.heap.size + 2 ≤ w0.heap.size := hx3.lt
  have h2 := hx2.keep hb1
  have h3 := hx3.keep hb1
  have p0 := h2.cell 0
  have p1 := h2.cell 1
  have q0 := h3.cell 0
  have q1 := h3.cell 1
  have q2 := h3.cell 2
  have fp0 := h2.frozen 0
  have fp1 := h2.frozen 1
  have fq0 := h3.frozen 0
  have fq1 := h3.frozen 1
  have fq2 := h3.frozen 2
  simp only [List.getElem?_toArray, List.getElem?_cons_succ, List.getElem?_cons_zero] at p0 p1 q0 q1 q2
  have HR := Lib.hid (fun x0 x1 y0 y1 y2 => drawnO_out (n := n1) (m := m) (a := b) hbl h0 hb1 hl hr1 hr2 hr3 x0 x1 y0 y1 y2)
  clear hz hz2 hz3 hr1 hr2 hr3 hb1 hbl h2 h3 hx2 hx3 hl
  go_wp2
  try simp only [Exit.inBlock, Exit.then]
  refine bodyPost_ret (v := .tuple #[.agg #[.int .i64 n1, .slice va es.length vc], .agg #[.int .i64 m, .int .i64 b, .slice ta zs.length tc], .slice ua os.length uc]) ?_ rfl (HR.out _ _ _ _ _)
  rw [results_cct rfl]
  go_simp
end Go.Proofs.Ytbcbknebjbelmaa
