/- The draw of a graph and a view of it, in the model. The draws of a graph and a view, in the model. The draw of a graph, a view of it and an order of its edges, in the model. The draw of a graph, a view of it and an order of its edges, in the model: its walk. The draws of a graph, a view and an order, in the model. The draws of a graph, a view and an order, in the model. -/
import Derived.Test.YtlgjcofpdaljnaaCase3
import Derived.Test.YtlgjcofpdaljnaaViewT
import Derived.Test.YtlgjcofpdaljnaaRelaxT
import Derived.Test.YtlgjcofpdaljnaaStartL
import Derived.Deep.CutBlock
import Derived.Deep.CutRange
import Derived.Deep.RegionHeld3
import Derived.Test.YtlgjcofpdaljnaaVValS
import Derived.Test.YtlgjcofpdaljnaaPutT
import Derived.Laws.OwnMore
import Derived.Deep.AppendLies
namespace Go.Proofs.Ytlgjcofpdaljnaa
open Go.RowKit Go.BigFrame Go.Deep
set_option linter.unusedVariables false
set_option linter.unusedSimpArgs false
set_option linter.unnecessarySimpa false

theorem l1KindV (W w : World) (g q : Nat) (h : Rd W w g q) (hq : q ≤ 1000000) :
    Calls Try.prog 79 #[.pointer (some ⟨g, 0, none⟩)] w fun e w' => ∃ x : Int, e = .returned (.int .i64 x) ∧ mKind x = true ∧ Rd W w' g (q + 1) ∧ w.grownBy w' (some g) := by
  have HD := Lib.hid h
  clear h
  go_enter Try.func79, Try.ntmps79
  go_wp2_with fail
  refine (num_built [1, 2, 3, 5, 4] W w g q HD.out hq _ (by decide) (by decide)).mono ?_
  rintro e w' ⟨x, hx, rfl, hR, hG⟩
  have hm : mKind x = true := by
    simp only [List.mem_cons, List.not_mem_nil, or_false] at hx
    rcases hx with rfl | rfl | rfl | rfl | rfl <;> rfl
  have HR := Lib.hid (And.intro hm (And.intro hR hG))
  clear hx hR hG hm
  go_wp2
  go_ret
  exact ⟨x, rfl, HR.out.1, HR.out.2.1, HR.out.2.2⟩

theorem InR.drew1 {fz : Bool} {w : World} {lo hi : Nat} {s : Value} {n sz : Nat} {cs : Nat → Value} (r : InR fz w lo hi s n sz cs) : InR fz w.drew lo hi s n sz cs := InR.keep r ((Below.refl _ _).drew)
/-- A graph in a box at B5 and a view of it in a box at B8, rows of their own, and the source of the draw. -/
structure VSt (W0 : World) (g q B5 B8 : Nat) (n : Int) (es : List Ed) (va : Option Addr) (vc : Nat) (m a : Int) (zs : List Int) (sa : Option Addr) (sc lo1 hi1 lo2 hi2 : Nat) (wr : World) : Prop where
  b5 : Box wr B5 25 #[.int .i64 n, .slice va es.length vc]
  gv : gVal n es = true
  r1 : InR true wr lo1 hi1 (.slice va es.length vc) es.length 3 (cellE es)
  ok1 : okS (.slice va es.length vc)
  b8 : Box wr B8 28 #[.int .i64 m, .int .i64 a, .slice sa zs.length sc]
  len : (zs.length : Int) = n
  kind : mKind m = true
  src : 0 ≤ a ∧ a < n
  r2 : InR true wr lo2 hi2 (.slice sa zs.length sc) zs.length 1 (cellI zs)
  ok2 : okS (.slice sa zs.length sc)
  rd : Rd W0 wr g q
  l1 : W0.heap.size ≤ lo1 ∧ hi1 ≤ wr.heap.size
  l2 : W0.heap.size ≤ lo2 ∧ hi2 ≤ wr.heap.size
  bb : g < B5 ∧ B5 < B8
  d1 : (g < lo1 ∨ hi1 ≤ g) ∧ (B5 < lo1 ∨ hi1 ≤ B5) ∧ (B8 < lo1 ∨ hi1 ≤ B8)
  d2 : (g < lo2 ∨ hi2 ≤ g) ∧ (B5 < lo2 ∨ hi2 ≤ B5) ∧ (B8 < lo2 ∨ hi2 ≤ B8)
  d12 : hi1 ≤ lo2 ∨ hi2 ≤ lo1
/-- The state, whatever it is. -/
def VS (W0 : World) (g q B5 B8 : Nat) (wr : World) : Prop := ∃ (n : Int) (es : List Ed) (va : Option Addr) (vc : Nat) (m a : Int) (zs : List Int) (sa : Option Addr) (sc lo1 hi1 lo2 hi2 : Nat), VSt W0 g q B5 B8 n es va vc m a zs sa sc lo1 hi1 lo2 hi2 wr
section
variable {W0 w w' : World} {g q B5 B8 : Nat} {n : Int} {es : List Ed} {va : Option Addr} {vc : Nat} {m a : Int} {zs : List Int} {sa : Option Addr} {sc lo1 hi1 lo2 hi2 : Nat}
theorem VSt.more {q' : Nat} (h : VSt W0 g q B5 B8 n es va vc m a zs sa sc lo1 hi1 lo2 hi2 w) (hq : q ≤ q') : VSt W0 g q' B5 B8 n es va vc m a zs sa sc lo1 hi1 lo2 hi2 w := { h with rd := h.rd.more hq }
theorem VSt.keep (h : VSt W0 g q B5 B8 n es va vc m a zs sa sc lo1 hi1 lo2 hi2 w) (hb : Below w.heap.size w w') : VSt W0 g q B5 B8 n es va vc m a zs sa sc lo1 hi1 lo2 hi2 w' :=
  { h with b5 := h.b5.keep hb, r1 := InR.keep h.r1 hb, b8 := h.b8.keep hb, r2 := InR.keep h.r2 hb, rd := h.rd.keep hb, l1 := ⟨h.l1.1, Nat.le_trans h.l1.2 hb.size⟩, l2 := ⟨h.l2.1, Nat.le_trans h.l2.2 hb.size⟩ }
theorem VSt.draw {q' : Nat} (h : VSt W0 g q B5 B8 n es va vc m a zs sa sc lo1 hi1 lo2 hi2 w) (hR : Rd W0 w' g q') (hG : w.grownBy w' (some g)) : VSt W0 g q' B5 B8 n es va vc m a zs sa sc lo1 hi1 lo2 hi2 w' :=
  { h with b5 := h.b5.grownG hG (by have := h.bb; omega), r1 := InR.chg h.r1 (g_chgG hG) (by have := h.d1; omega), b8 := h.b8.grownG hG (by have := h.bb; omega), r2 := InR.chg h.r2 (g_chgG hG) (by have := h.d2; omega), rd := hR, l1 := ⟨h.l1.1, Nat.le_trans h.l1.2 hG.size⟩, l2 := ⟨h.l2.1, Nat.le_trans h.l2.2 hG.size⟩ }
theorem VSt.n12 (h : VSt W0 g q B5 B8 n es va vc m a zs sa sc lo1 hi1 lo2 hi2 w) : (0 < zs.length ∧ zs.length ≤ 12) ∧ es.length ≤ 40 := by
  have h1 := gVal_n h.gv
  have h2 := h.len
  omega
theorem VSt.size (h : VSt W0 g q B5 B8 n es va vc m a zs sa sc lo1 hi1 lo2 hi2 w) : W0.heap.size ≤ g ∧ B8 < w.heap.size ∧ B5 < w.heap.size ∧ g < w.heap.size := ⟨h.rd.new, h.b8.lt, h.b5.lt, h.rd.lt⟩
/-- A new view is stored. -/
theorem VSt.put0 {c0 c1 c2 : Value} (hb5 : Box w B5 25 #[.int .i64 n, .slice va es.length vc]) (hgv : gVal n es = true) (hr1 : InR true w lo1 hi1 (.slice va es.length vc) es.length 3 (cellE es)) (hok1 : okS (.slice va es.length vc)) (hb8 : Box w B8 28 #[c0, c1, c2]) (hrd : Rd W0 w g q) (hl1 : W0.heap.size ≤ lo1 ∧ hi1 ≤ w.heap.size) (hbb : g < B5 ∧ B5 < B8)
    (hd1 : (g < lo1 ∨ hi1 ≤ g) ∧ (B5 < lo1 ∨ hi1 ≤ B5) ∧ (B8 < lo1 ∨ hi1 ≤ B8)) {ys : List Int} {ta : Option Addr} {tc lo hi : Nat} (hl : (ys.length : Int) = n) (hr : InR true w lo hi (.slice ta ys.length tc) ys.length 1 (cellI ys)) (hok : okS (.slice ta ys.length tc)) {m' a' : Int} (hm : mKind m' = true) (ha : 0 ≤ a' ∧ a' < n)
    (hlo : B8 < lo) (hhi : hi ≤ w.heap.size) (hd : hi1 ≤ lo ∨ hi ≤ lo1) :
    VSt W0 g q B5 B8 n es va vc m' a' ys ta tc lo1 hi1 lo hi (((w.setCell ⟨B8, 0, none⟩ (.int .i64 m')).setCell ⟨B8, 1, none⟩ (.int .i64 a')).setCell ⟨B8, 2, none⟩ (.slice ta ys.length tc)) := by
  have hn := hrd.new
  have hgl := hrd.lt
  have hb8l := hb8.lt
  have hc : Chg B8 (B8 + 1) w (((w.setCell ⟨B8, 0, none⟩ (.int .i64 m')).setCell ⟨B8, 1, none⟩ (.int .i64 a')).setCell ⟨B8, 2, none⟩ (.slice ta ys.length tc)) := (((Chg.refl _ _ _).setCell (by simp) (by simp) _).setCell (by simp) (by simp) _).setCell (by simp) (by simp) _
  have hb9 : Box (((w.setCell ⟨B8, 0, none⟩ (.int .i64 m')).setCell ⟨B8, 1, none⟩ (.int .i64 a')).setCell ⟨B8, 2, none⟩ (.slice ta ys.length tc)) B8 28 #[.int .i64 m', .int .i64 a', .slice ta ys.length tc] := by
    have := ((hb8.set 0 (.int .i64 m')).set 1 (.int .i64 a')).set 2 (.slice ta ys.length tc)
    unfold Box at this ⊢
    simpa using this
  exact ⟨(hc.block _ hb5.lt (.inl (by omega))).trans hb5, hgv, hr1.chg hc (by omega), hok1, hb9, hl, hm, ha, hr.chg hc (by omega), hok,
    ((hrd.set' (by omega) (by omega) _).set' (by omega) (by omega) _).set' (by omega) (by omega) _,
    ⟨hl1.1, Nat.le_trans hl1.2 hc.size⟩, ⟨by omega, Nat.le_trans hhi hc.size⟩, hbb, hd1, by omega, hd⟩
theorem VSt.put (h : VSt W0 g q B5 B8 n es va vc m a zs sa sc lo1 hi1 lo2 hi2 w) {ys : List Int} {ta : Option Addr} {tc lo hi : Nat} (hl : (ys.length : Int) = n) (hr : InR true w lo hi (.slice ta ys.length tc) ys.length 1 (cellI ys)) (hok : okS (.slice ta ys.length tc)) {m' a' : Int} (hm : mKind m' = true) (ha : 0 ≤ a' ∧ a' < n)
    (hlo : B8 < lo) (hhi : hi ≤ w.heap.size) (hd : hi1 ≤ lo ∨ hi ≤ lo1) :
    VSt W0 g q B5 B8 n es va vc m' a' ys ta tc lo1 hi1 lo hi (((w.setCell ⟨B8, 0, none⟩ (.int .i64 m')).setCell ⟨B8, 1, none⟩ (.int .i64 a')).setCell ⟨B8, 2, none⟩ (.slice ta ys.length tc)) :=
  VSt.put0 h.b5 h.gv h.r1 h.ok1 h.b8 h.rd h.l1 h.bb h.d1 hl hr hok hm ha hlo hhi hd
theorem VSt.cells (h : VSt W0 g q B5 B8 n es va vc m a zs sa sc lo1 hi1 lo2 hi2 w) : (w.cell? ⟨B5, 0, none⟩ = some (.int .i64 n) ∧ w.cell? ⟨B5, 1, none⟩ = some (.slice va es.length vc)) ∧ (w.cell? ⟨B8, 0, none⟩ = some (.int .i64 m) ∧ w.cell? ⟨B8, 1, none⟩ = some (.int .i64 a) ∧ w.cell? ⟨B8, 2, none⟩ = some (.slice sa zs.length sc)) ∧ (w.frozen? ⟨B8, 0, none⟩ = false ∧ w.frozen? ⟨B8, 1, none⟩ = false ∧ w.frozen? ⟨B8, 2, none⟩ = false) :=
  ⟨⟨by simpa using h.b5.cell 0, by simpa using h.b5.cell 1⟩, ⟨by simpa using h.b8.cell 0, by simpa using h.b8.cell 1, by simpa using h.b8.cell 2⟩, h.b8.frozen 0, h.b8.frozen 1, h.b8.frozen 2⟩
/-- A value is changed. -/
theorem VSt.set {b off : Nat} (h : VSt W0 g q B5 B8 n es va vc m a zs (some ⟨b, off, none⟩) sc lo1 hi1 lo2 hi2 w) {k : Nat} (hk : k < zs.length) (x : Int) : VSt W0 g q B5 B8 n es va vc m a (zs.set k x) (some ⟨b, off, none⟩) sc lo1 hi1 b (b + 1) (w.setCell ⟨b, off + k, none⟩ (.int .i64 x)) := by
  obtain ⟨a9, c9, he, hz⟩ := h.r2
  injection he with e1 e2 e3
  subst e1 e3
  rcases hz with hz | ⟨b9, o9, e9, hlo, hhi, hsz, hc⟩
  · omega
  injection e9 with e9
  injection e9 with e4 e5 e6
  subst e4 e5
  have hs := h.size
  have hbb := h.bb
  have hd1 := h.d1
  have hd2 := h.d2
  have hd12 := h.d12
  have hl2 := h.l2
  have hch : Chg b (b + 1) w (w.setCell ⟨b, off + k, none⟩ (.int .i64 x)) := (Chg.refl _ _ _).setCell (p := ⟨b, off + k, none⟩) (Nat.le_refl _) (Nat.lt_succ_self _) _
  have hwr : Wr w b off zs := ⟨by omega, fun i hi => ⟨(hc i (by omega)).1, (hc i (by omega)).2 rfl⟩⟩
  have hw2 := hwr.set hk x
  have hl : (zs.set k x).length = zs.length := by simp
  have hrd : Rd W0 (w.setCell ⟨b, off + k, none⟩ (.int .i64 x)) g q := by
    by_cases hg : g < b
    · exact h.rd.set' hg (by omega) _
    · have hg2 : b < g := by omega
      obtain ⟨p1, p2, p3, p4, p5, p6, p7, p8, p9⟩ := h.rd.cells
      have hbk := hch.block g h.rd.lt (by omega)
      exact ⟨h.rd.new, bel_chg h.rd.bel hch (by omega), ⟨p1, p2, p3, p4, p5, p6, p7, by rw [World.cell?_of_block (a := ⟨g, 0, none⟩) hbk]; exact p8, by rw [World.cell?_of_block (a := ⟨g, 1, none⟩) hbk]; exact p9⟩, by rw [World.frozen?_of_block (a := ⟨g, 1, none⟩) hbk]; exact h.rd.free, by simpa using h.rd.lt⟩
  have hr2 : InR true (w.setCell ⟨b, off + k, none⟩ (.int .i64 x)) b (b + 1) (.slice (some ⟨b, off, none⟩) (zs.set k x).length sc) (zs.set k x).length 1 (cellI (zs.set k x)) :=
    ⟨_, _, rfl, .inr ⟨b, off, rfl, Nat.le_refl _, Nat.lt_succ_self _, hw2.1, fun i hi => ⟨(hw2.2 i (by omega)).1, fun _ => (hw2.2 i (by omega)).2⟩⟩⟩
  have hb8 : Box (w.setCell ⟨b, off + k, none⟩ (.int .i64 x)) B8 28 #[.int .i64 m, .int .i64 a, .slice (some ⟨b, off, none⟩) (zs.set k x).length sc] := by rw [hl]; exact (hch.block _ h.b8.lt (by omega)).trans h.b8
  exact ⟨(hch.block _ h.b5.lt (by omega)).trans h.b5, h.gv, h.r1.chg hch (by omega), h.ok1, hb8, by rw [hl]; exact h.len, h.kind, h.src, hr2, by rw [hl]; exact h.ok2, hrd,
    ⟨h.l1.1, Nat.le_trans h.l1.2 hch.size⟩, ⟨by omega, hw2.1⟩, hbb, hd1, by omega, by omega⟩
theorem VSt.row (h : VSt W0 g q B5 B8 n es va vc m a zs sa sc lo1 hi1 lo2 hi2 w) : Row w (.slice sa zs.length sc) zs := InR.rowI h.r2
theorem VSt.edges (h : VSt W0 g q B5 B8 n es va vc m a zs sa sc lo1 hi1 lo2 hi2 w) : RowE w (.slice va es.length vc) es := h.r1.edges
end
/-- A graph and a view are drawn. -/
def DrawnV (w : World) (e : Ending) (w' : World) : Prop :=
  ∃ (n : Int) (es : List Ed) (s : Value) (m a : Int) (zs : List Int) (t : Value), e = .returned (.tuple #[.agg #[.int .i64 n, s], .agg #[.int .i64 m, .int .i64 a, t]]) ∧ (es.length ≤ 40 ∧ zs.length ≤ 12) ∧ (InR true w' w.heap.size w'.heap.size s es.length 3 (cellE es) ∧ okS s) ∧ (InR true w' w.heap.size w'.heap.size t zs.length 1 (cellI zs) ∧ okS t) ∧ Below w.heap.size w w'
/-- What the second change leaves. -/
structure VEn (W0 : World) (B5 B8 : Nat) (n : Int) (es : List Ed) (va : Option Addr) (vc : Nat) (m a : Int) (zs : List Int) (sa : Option Addr) (sc lo1 hi1 lo2 hi2 : Nat) (wr : World) : Prop where
  b5 : Box wr B5 25 #[.int .i64 n, .slice va es.length vc]
  r1 : InR true wr lo1 hi1 (.slice va es.length vc) es.length 3 (cellE es)
  ok1 : okS (.slice va es.length vc)
  b8 : Box wr B8 28 #[.int .i64 m, .int .i64 a, .slice sa zs.length sc]
  r2 : InR true wr lo2 hi2 (.slice sa zs.length sc) zs.length 1 (cellI zs)
  ok2 : okS (.slice sa zs.length sc)
  bel : Below W0.heap.size W0 wr
  sz : es.length ≤ 40 ∧ zs.length ≤ 12
  l1 : W0.heap.size ≤ lo1 ∧ hi1 ≤ wr.heap.size
  l2 : W0.heap.size ≤ lo2 ∧ hi2 ≤ wr.heap.size
def VE (W0 : World) (B5 B8 : Nat) (wr : World) : Prop := ∃ (n : Int) (es : List Ed) (va : Option Addr) (vc : Nat) (m a : Int) (zs : List Int) (sa : Option Addr) (sc lo1 hi1 lo2 hi2 : Nat), VEn W0 B5 B8 n es va vc m a zs sa sc lo1 hi1 lo2 hi2 wr
theorem VSt.en {W0 w : World} {g q B5 B8 : Nat} {n : Int} {es : List Ed} {va : Option Addr} {vc : Nat} {m a : Int} {zs : List Int} {sa : Option Addr} {sc lo1 hi1 lo2 hi2 : Nat} (h : VSt W0 g q B5 B8 n es va vc m a zs sa sc lo1 hi1 lo2 hi2 w) : VEn W0 B5 B8 n es va vc m a zs sa sc lo1 hi1 lo2 hi2 w :=
  ⟨h.b5, h.r1, h.ok1, h.b8, h.r2, h.ok2, h.rd.bel, ⟨h.n12.2, h.n12.1.2⟩, h.l1, h.l2⟩

theorem okS_cap {a : Option Addr} {n c : Nat} (h : okS (.slice a n c)) : n ≤ c := (h a n c rfl).1
theorem VSt.short {W0 w : World} {g q B5 B8 : Nat} {n : Int} {es : List Ed} {va : Option Addr} {vc : Nat} {m a : Int} {zs : List Int} {sa : Option Addr} {sc lo1 hi1 lo2 hi2 : Nat} (h : VSt W0 g q B5 B8 n es va vc m a zs sa sc lo1 hi1 lo2 hi2 w) :
    InR true w lo2 hi2 (.slice sa (zs.take (zs.length - 1)).length sc) (zs.take (zs.length - 1)).length 1 (cellI (zs.take (zs.length - 1))) ∧ okS (.slice sa (zs.take (zs.length - 1)).length sc) ∧ (zs.take (zs.length - 1)).length = zs.length - 1 := by
  have hl : (zs.take (zs.length - 1)).length = zs.length - 1 := by simp
  have h12 := h.n12
  refine ⟨?_, ?_, hl⟩
  · obtain ⟨a9, c9, he, hz⟩ := h.r2
    injection he with e1 e2 e3
    subst e1 e3
    refine ⟨_, _, rfl, ?_⟩
    rcases hz with hz | ⟨b, off, rfl, h1, h2, h3, hc⟩
    · omega
    · refine .inr ⟨b, off, rfl, h1, h2, h3, fun i hi => ?_⟩
      rw [hl] at hi
      have h9 := hc i (by omega)
      refine ⟨?_, h9.2⟩
      rw [h9.1]
      unfold cellI
      have h8 : (zs.take (zs.length - 1)).getD i 0 = zs.getD i 0 := by
        simp only [List.getD, List.getElem?_take]
        rw [if_pos (by omega)]
      rw [h8]
  · have h9 := h.ok2
    intro a9 n9 c9 he
    injection he with e1 e2 e3
    subst e1 e2 e3
    obtain ⟨k1, k2, k3⟩ := h9 _ _ _ rfl
    exact ⟨by omega, fun hn => by have := k2 hn; omega, k3⟩
theorem VSt.en9 {W0 w w' : World} {g q B5 B8 : Nat} {n : Int} {es : List Ed} {va : Option Addr} {vc : Nat} {m a m' a' : Int} {zs ys : List Int} {sa : Option Addr} {sc lo1 hi1 lo2 hi2 : Nat} (h : VSt W0 g q B5 B8 n es va vc m a zs sa sc lo1 hi1 lo2 hi2 w) (hc : Chg B8 (B8 + 1) w w') (hr : InR true w lo2 hi2 (.slice sa ys.length sc) ys.length 1 (cellI ys)) (hok : okS (.slice sa ys.length sc)) (hy : ys.length ≤ 12) (hb : Box w' B8 28 #[.int .i64 m', .int .i64 a', .slice sa ys.length sc]) :
    VEn W0 B5 B8 n es va vc m' a' ys sa sc lo1 hi1 lo2 hi2 w' := by
  have hbb := h.bb
  have hd1 := h.d1
  have hd2 := h.d2
  have hs := h.size
  exact ⟨(hc.block _ h.b5.lt (.inl (by omega))).trans h.b5, h.r1.chg hc (by omega), h.ok1, hb, hr.chg hc (by omega), hok, bel_chg h.rd.bel hc (by omega), ⟨h.n12.2, hy⟩, ⟨h.l1.1, Nat.le_trans h.l1.2 hc.size⟩, ⟨h.l2.1, Nat.le_trans h.l2.2 hc.size⟩⟩
theorem results_cc {fn : Func} {p r : Tmp} {ty ty2 : TypeId} (h : fn.results = #[.cell p ty, .cell r ty2]) (tmps : Array Value) (P : Program) (w : World) :
    (results fn tmps).run P w = ((asAddr (tmps.getD p undef)).run P w).andThen fun a w₁ => ((loadVar ty a).run P w₁).andThen fun v w₂ => ((asAddr (tmps.getD r undef)).run P w₂).andThen fun b w₃ => ((loadVar ty2 b).run P w₃).andThen fun u w₄ => .ok (.tuple #[v, u]) w₄ := by
  simp only [results, h]
  simp
theorem drawnV_of {w w0 w1 W0 : World} {B5 B8 : Nat} {n : Int} {es : List Ed} {va : Option Addr} {vc : Nat} {m a : Int} {zs : List Int} {sa : Option Addr} {sc lo1 hi1 lo2 hi2 : Nat} (hb : Below w.heap.size w w0) (h0 : w.heap.size + 2 ≤ w0.heap.size) (h : VEn W0 B5 B8 n es va vc m a zs sa sc lo1 hi1 lo2 hi2 w1) (hW : W0 = w0) (x0 x1 y0 y1 y2 : Value) :
    DrawnV w (.returned (.tuple #[.agg #[.int .i64 n, .slice va es.length vc], .agg #[.int .i64 m, .int .i64 a, .slice sa zs.length sc]])) (((((w1.setCell ⟨w.heap.size, 0, none⟩ x0).setCell ⟨w.heap.size, 1, none⟩ x1).setCell ⟨w.heap.size + 1, 0, none⟩ y0).setCell ⟨w.heap.size + 1, 1, none⟩ y1).setCell ⟨w.heap.size + 1, 2, none⟩ y2).drew := by
  subst hW
  have hl1 := h.l1
  have hl2 := h.l2
  have hc : Chg w.heap.size (w.heap.size + 2) w1 (((((w1.setCell ⟨w.heap.size, 0, none⟩ x0).setCell ⟨w.heap.size, 1, none⟩ x1).setCell ⟨w.heap.size + 1, 0, none⟩ y0).setCell ⟨w.heap.size + 1, 1, none⟩ y1).setCell ⟨w.heap.size + 1, 2, none⟩ y2).drew :=
    (((((((Chg.refl _ _ _).setCell (by simp) (by simp) _).setCell (by simp) (by simp) _).setCell (by simp) (by simp) _).setCell (by simp) (by simp) _).setCell (by simp) (by simp) _)).drew
  exact ⟨n, es, _, m, a, zs, _, rfl, h.sz, ⟨(h.r1.chg hc (.inl (by omega))).wider (by omega) (Nat.le_trans hl1.2 hc.size) (Nat.le_refl _), h.ok1⟩, ⟨(h.r2.chg hc (.inl (by omega))).wider (by omega) (Nat.le_trans hl2.2 hc.size) (Nat.le_refl _), h.ok2⟩, bel_chg (bel_trans hb h.bel) hc (Nat.le_refl _)⟩
theorem VSt.en8 {W0 w w' : World} {g q B5 B8 : Nat} {n : Int} {es : List Ed} {va : Option Addr} {vc : Nat} {m a m' a' : Int} {zs : List Int} {sa : Option Addr} {sc lo1 hi1 lo2 hi2 : Nat} (h : VSt W0 g q B5 B8 n es va vc m a zs sa sc lo1 hi1 lo2 hi2 w) (hc : Chg B8 (B8 + 1) w w') (hb : Box w' B8 28 #[.int .i64 m', .int .i64 a', .slice sa zs.length sc]) :
    VEn W0 B5 B8 n es va vc m' a' zs sa sc lo1 hi1 lo2 hi2 w' := by
  have hbb := h.bb
  have hd1 := h.d1
  have hd2 := h.d2
  have hs := h.size
  exact ⟨(hc.block _ h.b5.lt (.inl (by omega))).trans h.b5, h.r1.chg hc (by omega), h.ok1, hb, h.r2.chg hc (by omega), h.ok2, bel_chg h.rd.bel hc (by omega), ⟨h.n12.2, h.n12.1.2⟩, ⟨h.l1.1, Nat.le_trans h.l1.2 hc.size⟩, ⟨h.l2.1, Nat.le_trans h.l2.2 hc.size⟩⟩

set_option maxRecDepth 20000 in
set_option maxHeartbeats 8000000 in
theorem l3Views (a : Option Addr) (n cap : Nat) (w : World) (hb : Bytes w a n) (hcap : n ≤ cap) (hn : n ≤ 281474976710656) :
    Calls Try.prog 36 #[.slice a n cap] w (DrawnV w) := by
  have hbl : Below w.heap.size w ((w.alloc (.cells #[.int .i64 0, .slice none 0 0] 25)).alloc (.cells #[.int .i64 0, .int .i64 0, .slice none 0 0] 28)) := ((Below.refl _ _).alloc (Nat.le_refl _) _).alloc (by simp) _
  have hx2 : Box ((w.alloc (.cells #[.int .i64 0, .slice none 0 0] 25)).alloc (.cells #[.int .i64 0, .int .i64 0, .slice none 0 0] 28)) w.heap.size 25 #[.int .i64 0, .slice none 0 0] := (Box.new _ _ _).alloc _
  have hx3 : Box ((w.alloc (.cells #[.int .i64 0, .slice none 0 0] 25)).alloc (.cells #[.int .i64 0, .int .i64 0, .slice none 0 0] 28)) (w.heap.size + 1) 28 #[.int .i64 0, .int .i64 0, .slice none 0 0] := by have := Box.new (w.alloc (.cells #[.int .i64 0, .slice none 0 0] 25)) 28 #[.int .i64 0, .int .i64 0, .slice none 0 0]; simpa using this
  have HC := Lib.hid hb
  clear hb
  go_enter Try.func36, Try.ntmps36
  go_wp2_with fail
  generalize ((w.alloc (.cells #[.int .i64 0, .slice none 0 0] 25)).alloc (.cells #[.int .i64 0, .int .i64 0, .slice none 0 0] 28)) = w0 at hbl hx2 hx3 ⊢
  have hs0 : w.heap.size + 2 ≤ w0.heap.size := hx3.lt
  have H0 := Lib.hid (And.intro hbl (And.intro hx2 hx3))
  clear hbl hx2 hx3
  refine (l15Open a n cap w0 (HC.out.keepB H0.out.1) hcap hn).mono ?_
  rintro e w1 ⟨g, rfl, hR⟩
  have hg0 := hR.new
  have hs1 := hR.bel.size
  have hgl := hR.lt
  have K1 := Lib.hid hR
  clear hR
  go_wp2_with fail
  refine (l3Case a n cap w1 (HC.out.keepB (bel_trans H0.out.1 K1.out.bel)) hcap hn).mono ?_
  rintro e w2 ⟨n1, es, v, m, s, rfl, hl, hrow, hok, hb2⟩
  obtain ⟨va, vc, rfl, hz9⟩ := id hrow
  have hs2 := hb2.size
  have hbA : Below w2.heap.size w2 (w2.alloc (.cells #[.int .i64 n1, .slice va es.length vc] 25)) := (Below.refl _ _).alloc (Nat.le_refl _) _
  have hs23 : w2.heap.size < (w2.alloc (.cells #[.int .i64 n1, .slice va es.length vc] 25)).heap.size := by simp
  have K2 := Lib.hid (And.intro ((K1.out.keep hb2).keep hbA) (And.intro (Box.new w2 25 #[.int .i64 n1, .slice va es.length vc]) (And.intro (InR.keep hrow hbA) hok)))
  have x0 : (w2.alloc (.cells #[.int .i64 n1, .slice va es.length vc] 25)).cell? ⟨w2.heap.size, 0, none⟩ = some (.int .i64 n1) := by simpa using K2.out.2.1.cell 0
  have x1 : (w2.alloc (.cells #[.int .i64 n1, .slice va es.length vc] 25)).cell? ⟨w2.heap.size, 1, none⟩ = some (.slice va es.length vc) := by simpa using K2.out.2.1.cell 1
  clear hz9 hrow hok hb2 hbA
  go_wp2_with fail
  generalize (w2.alloc (.cells #[.int .i64 n1, .slice va es.length vc] 25)) = w3 at K2 hs23 x0 x1 ⊢
  have hvo := sViewOf n1 m s es (.slice va es.length vc) w3 K2.out.2.2.1.edges (by omega)
  obtain ⟨M, hM⟩ : ∃ M, M = stM n1 es m s := ⟨_, rfl⟩
  obtain ⟨A, hA⟩ : ∃ A, A = stA n1 es m s := ⟨_, rfl⟩
  obtain ⟨L, hL⟩ : ∃ L, L = voL n1 es m s := ⟨_, rfl⟩
  obtain ⟨O, hO⟩ : ∃ O, O = onOk n1 es m [s] := ⟨_, rfl⟩
  rw [← hM, ← hA, ← hL, ← hO] at hvo
  have hok9 : O = true → gVal n1 es = true ∧ (L.length : Int) = n1 ∧ mKind M = true ∧ 0 ≤ A ∧ A < n1 := by
    intro h
    rw [hO] at h
    obtain ⟨hgv, hsr, hmk⟩ := onOk_one3 h
    have h1 := gVal_n hgv
    have hl9 : L = vIter m es n1.toNat (vStart m n1 s) := by rw [hL]; unfold voL; rw [if_pos h]
    refine ⟨hgv, ?_, ?_, ?_⟩
    · rw [hl9, vIter_length, vStart_length]; omega
    · rw [hM]; unfold stM; rw [if_pos h]; exact hmk
    · rw [hA]; unfold stA; rw [if_pos h]; exact hsr
  have HOK9 := Lib.hid hok9
  clear hM hA hL hO hok9
  refine hvo.mono ?_
  rintro e w4 ⟨v, rfl, hown, hok4, hb4⟩
  obtain ⟨ta, tc, rfl⟩ := hown.slice
  have hs4 := hb4.size
  have hbA : Below w4.heap.size w4 (w4.alloc (.cells #[.int .i64 M, .int .i64 A, .slice ta L.length tc] 28)) := (Below.refl _ _).alloc (Nat.le_refl _) _
  have hs45 : w4.heap.size < (w4.alloc (.cells #[.int .i64 M, .int .i64 A, .slice ta L.length tc] 28)).heap.size := by simp
  have K4 := Lib.hid (And.intro ((K2.out.1.keep hb4).keep hbA) (And.intro ((K2.out.2.1.keep hb4).keep hbA) (And.intro (InR.keep (InR.keep K2.out.2.2.1 hb4) hbA) (And.intro K2.out.2.2.2 (And.intro (Box.new w4 28 #[.int .i64 M, .int .i64 A, .slice ta L.length tc]) (And.intro (InR.keep hown hbA) hok4))))))
  clear x0 x1 hvo hown hok4 hb4 hbA
  go_upto_if 26 with fail
  generalize (w4.alloc (.cells #[.int .i64 M, .int .i64 A, .slice ta L.length tc] 28)) = w5 at K4 hs45 ⊢
  go_cut [] from 27 to 91 (fun wx => VS w0 g 60 w2.heap.size w4.heap.size wx)
  case first =>
    cases O
    · clear HOK9
      have c0 : w5.cell? ⟨w2.heap.size, 0, none⟩ = some (.int .i64 n1) := by simpa using K4.out.2.1.cell 0
      have c1 : w5.cell? ⟨w2.heap.size, 1, none⟩ = some (.slice va es.length vc) := by simpa using K4.out.2.1.cell 1
      go_wp2_with fail
      refine (l2Draw w0 w5 g 0 K4.out.1 (by omega)).mono ?_
      rintro e w6 ⟨n6, es6, v6, rfl, hgv, hrow, hok, hR, hG⟩
      obtain ⟨va6, vc6, rfl, hz9⟩ := id hrow
      have h6 := gVal_n hgv
      have hs6 := hG.size
      have b5 := K4.out.2.1.grownG hG (by omega)
      have b8 := K4.out.2.2.2.2.1.grownG hG (by omega)
      have hch : ∀ x y, Chg w2.heap.size (w2.heap.size + 1) w6 ((w6.setCell ⟨w2.heap.size, 0, none⟩ x).setCell ⟨w2.heap.size, 1, none⟩ y) := fun x y => ((Chg.refl _ _ _).setCell (by simp) (by simp) _).setCell (by simp) (by simp) _
      have hb59 : Box ((w6.setCell ⟨w2.heap.size, 0, none⟩ (.int .i64 n6)).setCell ⟨w2.heap.size, 1, none⟩ (.slice va6 es6.length vc6)) w2.heap.size 25 #[.int .i64 n6, .slice va6 es6.length vc6] := by
        have := (b5.set 0 (.int .i64 n6)).set 1 (.slice va6 es6.length vc6)
        unfold Box at this ⊢
        simpa using this
      have b5l := b5.lt
      have hrd9 : Rd w0 ((w6.setCell ⟨w2.heap.size, 0, none⟩ (.int .i64 n6)).setCell ⟨w2.heap.size, 1, none⟩ (.slice va6 es6.length vc6)) g (0 + 44) := (hR.set' (by omega) (by omega) (.int .i64 n6)).set' (by omega) (by omega) (.slice va6 es6.length vc6)
      have hb89 : Box ((w6.setCell ⟨w2.heap.size, 0, none⟩ (.int .i64 n6)).setCell ⟨w2.heap.size, 1, none⟩ (.slice va6 es6.length vc6)) w4.heap.size 28 #[.int .i64 M, .int .i64 A, .slice ta L.length tc] := ((hch (.int .i64 n6) (.slice va6 es6.length vc6)).block _ b8.lt (.inr (by omega))).trans b8
      have K6 := Lib.hid (And.intro hgv (And.intro hrd9 (And.intro hb59 (And.intro hb89 (And.intro (hrow.chg (hch (.int .i64 n6) (.slice va6 es6.length vc6)) (.inl (by omega))) hok)))))
      have hs69 := (hch (.int .i64 n6) (.slice va6 es6.length vc6)).size
      have y0 : w6.cell? ⟨w2.heap.size, 0, none⟩ = some (.int .i64 n1) := by simpa using b5.cell 0
      have y1 : w6.cell? ⟨w2.heap.size, 1, none⟩ = some (.slice va es.length vc) := by simpa using b5.cell 1
      have y2 := b5.frozen 0
      have y3 := b5.frozen 1
      clear hz9 hgv hrow hok hR hG b5 b8 hb59 hb89 hch c0 c1 hrd9
      go_upto_region 6 with fail
      generalize ((w6.setCell ⟨w2.heap.size, 0, none⟩ (.int .i64 n6)).setCell ⟨w2.heap.size, 1, none⟩ (.slice va6 es6.length vc6)) = w7 at K6 hs69 ⊢
      clear y0 y1 y2 y3
      obtain ⟨N, hN⟩ : ∃ N : Nat, n6 = N := ⟨n6.toNat, by omega⟩
      subst hN
      have hlv : ∀ (x : Int) w', mKind x = true → RowE w' (.slice va6 es6.length vc6) es6 → Calls Try.prog 55 #[.agg #[.int .i64 (N : Int), .slice va6 es6.length vc6], .int .i64 x, .int .i64 0] w' fun e w'' => ∃ v, e = .returned (.agg #[.int .i64 x, .int .i64 0, v]) ∧ OwnV w' w'' v (vIter x es6 N (vStart x N 0)) ∧ okS v ∧ Below w'.heap.size w' w'' := fun x w' h1 h2 => l3View x es6 N 0 (.slice va6 es6.length vc6) w' h1 h2 (by omega) (by omega) (by omega) (by have := eAll_of K6.out.1; simpa using this)
      have HLV := Lib.hid hlv
      have hcel : ∀ w', Box w' w2.heap.size 25 #[.int .i64 (N : Int), .slice va6 es6.length vc6] → w'.cell? ⟨w2.heap.size, 0, none⟩ = some (.int .i64 (N : Int)) ∧ w'.cell? ⟨w2.heap.size, 1, none⟩ = some (.slice va6 es6.length vc6) := fun w' h => ⟨by simpa using h.cell 0, by simpa using h.cell 1⟩
      have HCE := Lib.hid hcel
      have hne : ¬ w4.heap.size = w2.heap.size := by omega
      have hne' : ¬ w2.heap.size = w4.heap.size := by omega
      have hq44 : 0 + 44 ≤ 1000000 := by omega
      have hga : ∀ wA, w7.drew.grownBy wA (some g) → Box wA w2.heap.size 25 #[.int .i64 (N : Int), .slice va6 es6.length vc6] ∧ Box wA w4.heap.size 28 #[.int .i64 M, .int .i64 A, .slice ta L.length tc] ∧ InR true wA w5.heap.size w6.heap.size (.slice va6 es6.length vc6) es6.length 3 (cellE es6) := fun wA hGA => ⟨K6.out.2.2.1.drew.grownG hGA (by omega), K6.out.2.2.2.1.drew.grownG hGA (by omega), InR.chg (InR.drew1 K6.out.2.2.2.2.1) (g_chgG hGA) (.inl (by omega))⟩
      have HGAX := Lib.hid hga
      clear hlv hcel hga
      go_region_held3 (fun w' : World => w'.cell? ⟨w2.heap.size, 0, none⟩ = some (.int .i64 (N : Int)) ∧ w'.cell? ⟨w2.heap.size, 1, none⟩ = some (.slice va6 es6.length vc6)) (first | exact HCE.out _ (K6.out.2.2.1.drew) | exact HCE.out _ HA.out.2.2.2.1 | exact HCE.out _ (HA.out.2.2.2.1.keep hbB) | (refine ⟨?_, ?_⟩ <;> go_simp)) (first | (go_at_call 79; (with_reducible refine (l1KindV w0 _ g _ (K6.out.2.1.drew') hq44).mono ?_); rintro e wA ⟨xk, rfl, hmk, hRA, hGA⟩; have hsA := hGA.size; have HA := Lib.hid (And.intro hmk (And.intro hRA (And.intro hGA (HGAX.out _ hGA)))); clear hmk hRA hGA) | (go_at_call 55; (with_reducible refine (HLV.out xk _ HA.out.1 HA.out.2.2.2.2.2.edges).mono ?_); rintro e wB ⟨vB, rfl, hoB, hkB, hbB⟩; obtain ⟨tB, cB, rfl⟩ := hoB.slice; have HB := Lib.hid (And.intro hoB hkB); have b8B := HA.out.2.2.2.2.1.keep hbB; have z0 := b8B.cell 0; have z1 := b8B.cell 1; have z2 := b8B.cell 2; have f0 := b8B.frozen 0; have f1 := b8B.frozen 1; have f2 := b8B.frozen 2; obtain ⟨p0, p1⟩ := HCE.out _ (HA.out.2.2.2.1.keep hbB); clear hoB hkB b8B; simp only [List.getElem?_toArray, List.getElem?_cons_succ, List.getElem?_cons_zero] at z0 z1 z2))
      all_goals
        go_wp2_with fail
        go_meet
        have hsB := hbB.size
        have hsA' : w7.heap.size ≤ wA.heap.size := hsA
        have hlB : ((vIter xk es6 N (vStart xk (N : Int) 0)).length : Int) = N := by rw [vIter_length, vStart_length]; omega
        have hRw := InR.keep HA.out.2.2.2.2.2 hbB
        have hRd := (HA.out.2.1.keep hbB).more (show _ ≤ 60 by omega)
        exact ⟨_, es6, va6, vc6, xk, 0, _, tB, cB, _, _, _, _, VSt.put0 (HA.out.2.2.2.1.keep hbB) K6.out.1 hRw K6.out.2.2.2.2.2 (HA.out.2.2.2.2.1.keep hbB) hRd ⟨by omega, by omega⟩ ⟨by omega, by omega⟩ ⟨by omega, by omega, by omega⟩ hlB HB.out.1 HB.out.2 HA.out.1 ⟨by omega, by omega⟩ (by omega) (Nat.le_refl _) (.inl (by omega))⟩
    · go_wp2_with fail
      go_meet
      obtain ⟨hgv, hll, hmk, hsr⟩ := HOK9.out (by trivial)
      exact ⟨n1, es, va, vc, M, A, L, ta, tc, _, _, _, _, ⟨K4.out.2.1, hgv, K4.out.2.2.1, K4.out.2.2.2.1, K4.out.2.2.2.2.1, hll, hmk, hsr, K4.out.2.2.2.2.2.1, K4.out.2.2.2.2.2.2, K4.out.1.more (by omega), ⟨by omega, by omega⟩, ⟨by omega, by omega⟩, ⟨by omega, by omega⟩, ⟨by omega, by omega, by omega⟩, ⟨by omega, by omega, by omega⟩, by omega⟩⟩
  case rest =>
    obtain ⟨n2, es2, va2, vc2, m2, a2, zs2, sa2, sc2, l1, h1, l2, h2, hS⟩ := hcut
    obtain ⟨N, hN⟩ : ∃ N : Nat, n2 = N := ⟨n2.toNat, by have := hS.len; omega⟩
    subst hN
    obtain ⟨S, hS0⟩ : ∃ S : Nat, a2 = S := ⟨a2.toNat, by have := hS.src; omega⟩
    subst hS0
    have hSN : S < N := by have := hS.src; omega
    have hN12 := hS.n12
    have hN13 : N ≤ 12 := by have := hS.len; omega
    have HS := Lib.hid hS
    clear hS HOK9
    go_wp2_with fail
    refine (pick 6 w0 wc g _ HS.out.rd (by omega) (by omega)).mono ?_
    rintro e w6 ⟨c, rfl, hx0, hx1, hR, hG⟩
    have HS6 := Lib.hid (HS.out.draw hR hG)
    clear hR hG HS hx0 hx1
    have hlst := fun w' => l3Start m2 N S HS6.out.kind (by omega) hSN va2 es2.length vc2 w'
    have HLS := Lib.hid hlst
    have hsz6 := HS6.out.size
    have hbb6 := HS6.out.bb
    have hl16 := HS6.out.l1
    have hd16 := HS6.out.d1
    clear hlst
    go_upto_block 0 with fail
    go_cut [] from 35 to 91 (fun wx => VS w0 g 80 w2.heap.size w4.heap.size wx)
    case first =>
      by_cases hc0 : c = 0
      · subst hc0
        obtain ⟨⟨c0, c1⟩, ⟨z0, z1, z2⟩, f0, f1, f2⟩ := HS6.out.cells
        go_wp2_with fail
        refine (HLS.out _).mono ?_
        rintro e w7 ⟨v, rfl, hown, hok, hb7⟩
        obtain ⟨t7, k7, rfl⟩ := hown.slice
        have HS7 := Lib.hid (And.intro (HS6.out.keep hb7) (And.intro hown hok))
        have hs7 := hb7.size
        obtain ⟨-, ⟨y0, y1, y2⟩, g0, g1, g2⟩ := HS7.out.1.cells
        clear hown hok hb7 c0 c1 z0 z1 z2 f0 f1 f2
        go_wp2_with fail
        go_meet
        have hl9 : ((vStart m2 (N : Int) (S : Int)).length : Int) = N := by rw [vStart_length]; omega
        exact ⟨_, _, _, _, m2, S, _, t7, k7, _, _, _, _, (HS7.out.1.put hl9 HS7.out.2.1 HS7.out.2.2 HS6.out.kind ⟨by omega, by omega⟩ (by omega) (Nat.le_refl _) (.inl (by omega))).more (by omega)⟩
      · have d0 : (c == 0) = false := by simpa using hc0
        by_cases hc1 : c = 1
        · subst hc1
          clear hc0 d0
          obtain ⟨a9, c9, he9, hz9⟩ := id HS6.out.r2
          injection he9 with e1 e2 e3
          subst e1
          clear e2 e3
          rcases hz9 with hz9 | ⟨b, off, rfl, hblo, hbhi, -, -⟩
          · omega
          have hd26 := HS6.out.d2
          have hl26 := HS6.out.l2
          have hbn : ¬ b = w4.heap.size := by omega
          have hbn' : ¬ w4.heap.size = b := by omega
          have hcel : ∀ w' q, VSt w0 g q w2.heap.size w4.heap.size (N : Int) es2 va2 vc2 m2 S zs2 (some ⟨b, off, none⟩) sc2 l1 h1 l2 h2 w' → w'.cell? ⟨w4.heap.size, 2, none⟩ = some (.slice (some ⟨b, off, none⟩) zs2.length sc2) := fun w' q h => h.cells.2.1.2.2
          have HCE := Lib.hid hcel
          have hrowc : ∀ w' q (X : Nat), X < zs2.length → VSt w0 g q w2.heap.size w4.heap.size (N : Int) es2 va2 vc2 m2 S zs2 (some ⟨b, off, none⟩) sc2 l1 h1 l2 h2 w' → w'.cell? ⟨b, off + X, none⟩ = some (.int .i64 (zs2.getD X 0)) ∧ w'.frozen? ⟨b, off + X, none⟩ = false := fun w' q X hX h => by
            obtain ⟨a8, c8, he8, hz8⟩ := h.r2
            injection he8 with e1 e2 e3
            subst e1
            rcases hz8 with hz8 | ⟨b8, o8, e8, -, -, -, hc8⟩
            · omega
            injection e8 with e8
            injection e8 with e4 e5
            subst e4 e5
            exact ⟨(hc8 X (by omega)).1, (hc8 X (by omega)).2 rfl⟩
          have HRC := Lib.hid hrowc
          clear hcel hrowc
          have z2 := HS6.out.cells.2.1.2.2
          have hz12 : (zs2.length : Int) ≤ 1000000 := by omega
          have hq61 : 60 + 1 ≤ 1000000 := by omega
          have hq62 : 60 + 1 + 1 ≤ 1000000 := by omega
          have HD1 := Lib.hid (HS6.out.keep ((Below.refl _ _).drew))
          have hna : ∀ wA (t : TypeId), Rd w0 wA g (60 + 1 + 1) → Calls Try.prog 45 #[.pointer (some ⟨g, 0, none⟩), .slice (some ⟨wA.heap.size, 0, none⟩) 5 5] (wA.alloc (.cells #[.int .i64 0, .int .i64 1, .int .i64 7, .int .i64 100, .int .i64 100000] t)) fun e w' => ∃ x : Int, e = .returned (.int .i64 x) ∧ Rd w0 w' g (60 + 1 + 1 + 1) ∧ wA.grownBy w' (some g) := fun wA t h => (num_at [0, 1, 7, 100, 100000] w0 wA g (60 + 1 + 1) _ rfl h (by omega) t (by decide) (by decide)).mono fun e w' ⟨x, _, h1, h2, h3⟩ => ⟨x, h1, h2, h3⟩
          have hnb : ∀ wA (t : TypeId), (w6.alloc (.cells #[.int .i64 0, .int .i64 1, .int .i64 7, .int .i64 100, .int .i64 100000] t)).drew.grownBy wA (some g) → Rd w0 wA g (60 + 1 + 1) → Calls Try.prog 45 #[.pointer (some ⟨g, 0, none⟩), .slice (some ⟨w6.heap.size, 0, none⟩) 5 5] wA fun e w' => ∃ x : Int, e = .returned (.int .i64 x) ∧ Rd w0 w' g (60 + 1 + 1 + 1) ∧ wA.grownBy w' (some g) := fun wA t hg h => (num [0, 1, 7, 100, 100000] _ w0 wA g (60 + 1 + 1) h (by omega) (RowN.grown (rowN_at [0, 1, 7, 100, 100000] w6 g t _ rfl HS6.out.rd.lt) (grown_trans' (g_drew (grown_refl _ _)) hg)) (by decide) (by decide)).mono fun e w' ⟨x, _, h1, h2, h3⟩ => ⟨x, h1, h2, h3⟩
          have HNA := Lib.hid hna
          have HNB := Lib.hid hnb
          clear hna hnb
          have HXA := Lib.hid (show ∀ xA : Int, 0 ≤ xA → (xA < (zs2.length : Int) ∨ xA = 0) → ∃ X : Nat, xA = X ∧ X < zs2.length ∧ (X : Int) < zs2.length from fun xA h0 h1 => ⟨xA.toNat, by omega, by omega, by omega⟩)
          go_upto_region 11 with fail
          go_region_held3 (fun w' : World => w'.cell? ⟨w4.heap.size, 2, none⟩ = some (.slice (some ⟨b, off, none⟩) zs2.length sc2)) (first | exact HCE.out _ _ (HS6.out.keep ((Below.refl _ _).drew)) | exact HCE.out _ _ ((HS6.out.keep ((Below.refl _ _).alloc (Nat.le_refl _) _)).keep ((Below.refl _ _).drew)) | exact HCE.out _ _ HSA.out | exact HCE.out _ _ (HSA.out.keep ((Below.refl _ _).alloc (Nat.le_refl _) _)) | exact HCE.out _ _ HSN.out | (go_simp; done)) (first | (go_at_call 80; (first | (with_reducible refine (pick (zs2.length : Int) w0 _ g _ HD1.out.rd hq61 hz12).mono ?_) | (with_reducible refine (pick (zs2.length : Int) w0 _ g _ (HS6.out.rd.alloc' _).drew' hq61 hz12).mono ?_)); rintro e wA ⟨xA, rfl, hA0, hA1, hRA, hGA⟩; obtain ⟨X, rfl, hX, hX'⟩ := HXA.out _ hA0 hA1; (first | have HSA := Lib.hid (VSt.draw HD1.out hRA hGA) | have HSA := Lib.hid (VSt.draw ((HS6.out.keep ((Below.refl _ _).alloc (Nat.le_refl _) _)).keep ((Below.refl _ _).drew)) hRA hGA)); have HGA := Lib.hid hGA; clear hRA hGA hA0 hA1) | (go_at_call 45; (first | (with_reducible refine (HNA.out wA _ HSA.out.rd).mono ?_) | (with_reducible refine (HNB.out wA _ HGA.out HSA.out.rd).mono ?_)); rintro e wN ⟨yN, rfl, hRN, hGN⟩; have HSN := Lib.hid (VSt.draw HSA.out hRN hGN); obtain ⟨r0, r1⟩ := HRC.out _ _ X hX HSN.out; have u2 := HCE.out _ _ HSN.out; clear hRN hGN))
          all_goals
            go_wp2_with fail
            go_meet
            exact ⟨_, _, _, _, _, _, _, _, _, _, _, _, _, (HSN.out.set hX yN).more (by omega)⟩
        · have d1 : (c == 1) = false := by simpa using hc1
          by_cases hc2 : c = 2
          · subst hc2
            clear hc0 hc1 d0 d1
            have hrx := fun (t : Value) w' (h1 : RowE w' (.slice va2 es2.length vc2) es2) (h2 : Row w' t (vStart m2 N S)) => l3Relax N m2 S es2 (vStart m2 N S) (.slice va2 es2.length vc2) t w' HS6.out.kind h1 h2 (by omega) (by rw [vStart_length]; omega) (by rw [vStart_length]; omega) (vStart_all HS6.out.kind) (by rw [vStart_length]; exact eAll_of HS6.out.gv)
            have HRX := Lib.hid hrx
            have hcel : ∀ w' q, VSt w0 g q w2.heap.size w4.heap.size (N : Int) es2 va2 vc2 m2 S zs2 sa2 sc2 l1 h1 l2 h2 w' → w'.cell? ⟨w2.heap.size, 0, none⟩ = some (.int .i64 (N : Int)) ∧ w'.cell? ⟨w2.heap.size, 1, none⟩ = some (.slice va2 es2.length vc2) ∧ w'.cell? ⟨w4.heap.size, 0, none⟩ = some (.int .i64 m2) ∧ w'.cell? ⟨w4.heap.size, 1, none⟩ = some (.int .i64 (S : Int)) := fun w' q h => ⟨h.cells.1.1, h.cells.1.2, h.cells.2.1.1, h.cells.2.1.2.1⟩
            have HCE := Lib.hid hcel
            have hne : ¬ w4.heap.size = w2.heap.size := by omega
            have hne' : ¬ w2.heap.size = w4.heap.size := by omega
            clear hcel hrx
            go_upto_region 13 with fail
            go_region_held3 (fun w' : World => w'.cell? ⟨w2.heap.size, 0, none⟩ = some (.int .i64 (N : Int)) ∧ w'.cell? ⟨w2.heap.size, 1, none⟩ = some (.slice va2 es2.length vc2) ∧ w'.cell? ⟨w4.heap.size, 0, none⟩ = some (.int .i64 m2) ∧ w'.cell? ⟨w4.heap.size, 1, none⟩ = some (.int .i64 (S : Int))) (first | exact HCE.out _ _ (HS6.out.keep ((Below.refl _ _).drew)) | exact HCE.out _ _ HSA.out | exact HCE.out _ _ HSB.out | (refine ⟨?_, ?_, ?_, ?_⟩ <;> go_simp)) (first | (go_at_call 81; (with_reducible refine (HLS.out _).mono ?_); rintro e wA ⟨vA, rfl, howA, hokA, hbA⟩; have HSA := Lib.hid ((HS6.out.keep ((Below.refl _ _).drew)).keep hbA); have HOA := Lib.hid howA; clear howA hokA hbA) | (go_at_call 82; (with_reducible refine (HRX.out _ _ HSA.out.edges HOA.out.row).mono ?_); rintro e wB ⟨vB, rfl, howB, hokB, hbB⟩; obtain ⟨tB, kB, rfl⟩ := howB.slice; have HSB := Lib.hid (HSA.out.keep hbB); have HOB := Lib.hid (And.intro howB (And.intro hokB (And.intro hbB.size HSA.out.size))); obtain ⟨-, ⟨y0, y1, y2⟩, g0, g1, g2⟩ := HSB.out.cells; obtain ⟨p0, p1, p2, p3⟩ := HCE.out _ _ HSB.out; have hl1A := HSA.out.l1; clear howB hokB hbB))
            all_goals
              go_wp2_with fail
              go_meet
              have hl9 : ((vRelax m2 es2 (vStart m2 (N : Int) (S : Int))).length : Int) = N := by rw [vRelax_length, vStart_length]; omega
              have ha1 := HOB.out.2.2.1
              have ha2 := HOB.out.2.2.2
              exact ⟨_, _, _, _, m2, S, _, tB, kB, _, _, _, _, (HSB.out.put hl9 HOB.out.1 HOB.out.2.1 HS6.out.kind ⟨by omega, by omega⟩ (by omega) (Nat.le_refl _) (.inl (by omega))).more (by omega)⟩
          · have d2 : (c == 2) = false := by simpa using hc2
            go_wp2_with fail
            go_meet
            exact ⟨_, _, _, _, _, _, _, _, _, _, _, _, _, HS6.out.more (by omega)⟩
    case rest =>
      clear HS6 HLS hl16 hd16
      obtain ⟨n3, es3, va3, vc3, m3, a3, zs3, sa3, sc3, l3, h3, l4, h4, hS⟩ := hcut
      have hN32 := hS.n12
      have HS := Lib.hid hS
      clear hS
      go_wp2_with fail
      refine (pick 24 w0 _ g _ HS.out.rd (by omega) (by omega)).mono ?_
      rintro e w7 ⟨c, rfl, hx0, hx1, hR, hG⟩
      have HS7 := Lib.hid (HS.out.draw hR hG)
      clear hR hG HS hx0 hx1
      have hsz7 := HS7.out.size
      have hbb7 := HS7.out.bb
      go_upto_block 1 with fail
      go_cut [] from 68 to 91 (fun wx => VE w0 w2.heap.size w4.heap.size wx)
      case first =>
        by_cases hc0 : c = 0
        · subst hc0
          obtain ⟨⟨c0, c1⟩, ⟨z0, z1, z2⟩, f0, f1, f2⟩ := HS7.out.cells
          have hsub : ((zs3.length : Int) - 1) = ((zs3.length - 1 : Nat) : Int) := by omega
          have hsl := VSt.short HS7.out
          have HSL := Lib.hid hsl
          have hm0 : 0 ≤ (zs3.length : Int) - 1 := by omega
          have hok3 := okS_cap HS7.out.ok2
          clear hsl
          go_wp2_with fail
          go_meet
          have hch : Chg w4.heap.size (w4.heap.size + 1) w7 (w7.setCell ⟨w4.heap.size, 2, none⟩ (.slice sa3 (zs3.length - 1) sc3)) := (Chg.refl _ _ _).setCell (by simp) (by simp) _
          have hb9 : Box (w7.setCell ⟨w4.heap.size, 2, none⟩ (.slice sa3 (zs3.length - 1) sc3)) w4.heap.size 28 #[.int .i64 m3, .int .i64 a3, .slice sa3 (zs3.length - 1) sc3] := by
            have := HS7.out.b8.set 2 (.slice sa3 (zs3.length - 1) sc3)
            unfold Box at this ⊢
            simpa using this
          have hen := HS7.out.en9 hch HSL.out.1 HSL.out.2.1 (by rw [HSL.out.2.2]; omega) (by rw [HSL.out.2.2]; exact hb9)
          exact ⟨_, _, _, _, _, _, _, _, _, _, _, _, _, hen⟩
        · have d0 : (c == 0) = false := by simpa using hc0
          by_cases hc1 : c = 1
          · subst hc1
            go_wp2_with fail
            refine (num_built [-1, 12, 0] w0 w7 g _ HS7.out.rd (by omega) _ (by decide) (by decide)).mono ?_
            rintro e w8 ⟨y, hy, rfl, hR, hG⟩
            have HS8 := Lib.hid (HS7.out.draw hR hG)
            clear hR hG hy
            obtain ⟨⟨c0, c1⟩, ⟨z0, z1, z2⟩, f0, f1, f2⟩ := HS8.out.cells
            go_wp2_with fail
            go_meet
            have hch : Chg w4.heap.size (w4.heap.size + 1) w8 (w8.setCell ⟨w4.heap.size, 1, none⟩ (.int .i64 y)) := (Chg.refl _ _ _).setCell (by simp) (by simp) _
            have hb9 : Box (w8.setCell ⟨w4.heap.size, 1, none⟩ (.int .i64 y)) w4.heap.size 28 #[.int .i64 m3, .int .i64 y, .slice sa3 zs3.length sc3] := by
              have := HS8.out.b8.set 1 (.int .i64 y)
              unfold Box at this ⊢
              simpa using this
            exact ⟨_, _, _, _, _, _, _, _, _, _, _, _, _, HS8.out.en8 hch hb9⟩
          · have d1 : (c == 1) = false := by simpa using hc1
            by_cases hc2 : c = 2
            · subst hc2
              go_wp2_with fail
              refine (num_built [0, 6, 4] w0 w7 g _ HS7.out.rd (by omega) _ (by decide) (by decide)).mono ?_
              rintro e w8 ⟨y, hy, rfl, hR, hG⟩
              have HS8 := Lib.hid (HS7.out.draw hR hG)
              clear hR hG hy
              obtain ⟨⟨c0, c1⟩, ⟨z0, z1, z2⟩, f0, f1, f2⟩ := HS8.out.cells
              go_wp2_with fail
              go_meet
              have hch : Chg w4.heap.size (w4.heap.size + 1) w8 (w8.setCell ⟨w4.heap.size, 0, none⟩ (.int .i64 y)) := (Chg.refl _ _ _).setCell (by simp) (by simp) _
              have hb9 : Box (w8.setCell ⟨w4.heap.size, 0, none⟩ (.int .i64 y)) w4.heap.size 28 #[.int .i64 y, .int .i64 a3, .slice sa3 zs3.length sc3] := by
                have := HS8.out.b8.set 0 (.int .i64 y)
                unfold Box at this ⊢
                simpa using this
              exact ⟨_, _, _, _, _, _, _, _, _, _, _, _, _, HS8.out.en8 hch hb9⟩
            · have d2 : (c == 2) = false := by simpa using hc2
              go_wp2_with fail
              go_meet
              exact ⟨_, _, _, _, _, _, _, _, _, _, _, _, _, HS7.out.en⟩
      case rest =>
        clear HS7 hsz7 hbb7
        obtain ⟨n5, es5, va5, vc5, m5, a5, zs5, sa5, sc5, l5, h5, l6, h6, hE⟩ := hcut
        have HE := Lib.hid hE
        have hr2 := H0.out.2.1.keep hE.bel
        have hr3 := H0.out.2.2.keep hE.bel
        have HR := Lib.hid (And.intro hr2 hr3)
        have hsz5 := hE.b5.lt
        have x0 := hE.b5.cell 0
        have x1 := hE.b5.cell 1
        have y0 := hE.b8.cell 0
        have y1 := hE.b8.cell 1
        have y2 := hE.b8.cell 2
        have p0 := hr2.cell 0
        have p1 := hr2.cell 1
        have q0 := hr3.cell 0
        have q1 := hr3.cell 1
        have q2 := hr3.cell 2
        have fp0 := hr2.frozen 0
        have fp1 := hr2.frozen 1
        have fq0 := hr3.frozen 0
        have fq1 := hr3.frozen 1
        have fq2 := hr3.frozen 2
        simp only [List.getElem?_toArray, List.getElem?_cons_succ, List.getElem?_cons_zero] at x0 x1 y0 y1 y2 p0 p1 q0 q1 q2
        have e1 : ¬ w.heap.size = w2.heap.size := by omega
        have e2 : ¬ w.heap.size = w4.heap.size := by omega
        have e3 : ¬ w.heap.size + 1 = w2.heap.size := by omega
        have e4 : ¬ w.heap.size + 1 = w4.heap.size := by omega
        have e5 : ¬ w2.heap.size = w.heap.size := by omega
        have e6 : ¬ w4.heap.size = w.heap.size := by omega
        have e7 : ¬ w2.heap.size = w.heap.size + 1 := by omega
        have e8 : ¬ w4.heap.size = w.heap.size + 1 := by omega
        clear hE hr2 hr3
        go_wp2_with fail
        go_region_held3 (fun w' : World => w'.cell? ⟨w2.heap.size, 0, none⟩ = some (.int .i64 n5) ∧ w'.cell? ⟨w2.heap.size, 1, none⟩ = some (.slice va5 es5.length vc5) ∧ w'.cell? ⟨w4.heap.size, 0, none⟩ = some (.int .i64 m5) ∧ w'.cell? ⟨w4.heap.size, 1, none⟩ = some (.int .i64 a5) ∧ w'.cell? ⟨w4.heap.size, 2, none⟩ = some (.slice sa5 zs5.length sc5)) (refine ⟨?_, ?_, ?_, ?_, ?_⟩ <;> go_simp) (fail)
        all_goals
          go_wp2
          try simp only [Exit.inBlock, Exit.then]
          refine bodyPost_ret (v := .tuple #[.agg #[.int .i64 n5, .slice va5 es5.length vc5], .agg #[.int .i64 m5, .int .i64 a5, .slice sa5 zs5.length sc5]]) ?_ rfl ?_
          · rw [results_cc rfl]
            go_simp
          exact drawnV_of H0.out.1 hs0 HE.out rfl _ _ _ _ _
end Go.Proofs.Ytlgjcofpdaljnaa
namespace Go.Proofs.Ytlgjcofpdaljnaa
open Go.RowKit Go.BigFrame Go.Deep
set_option linter.unusedVariables false
set_option linter.unusedSimpArgs false
set_option linter.unnecessarySimpa false
theorem chg5 (w : World) (B : Nat) (x0 x1 y0 y1 y2 : Value) : Chg B (B + 2) w (((((w.setCell ⟨B, 0, none⟩ x0).setCell ⟨B, 1, none⟩ x1).setCell ⟨B + 1, 0, none⟩ y0).setCell ⟨B + 1, 1, none⟩ y1).setCell ⟨B + 1, 2, none⟩ y2) :=
  (((((Chg.refl _ _ _).setCell (by simp) (by simp) _).setCell (by simp) (by simp) _).setCell (by simp) (by simp) _).setCell (by simp) (by simp) _).setCell (by simp) (by simp) _
theorem drawnV_out {w w0 w1 : World} {n m a : Int} {es : List Ed} {zs : List Int} {s t : Value} (hb : Below w.heap.size w w0) (h0 : w.heap.size + 2 ≤ w0.heap.size) (hb1 : Below w0.heap.size w0 w1) (hl : es.length ≤ 40 ∧ zs.length ≤ 12) (hr1 : InR true w1 w0.heap.size w1.heap.size s es.length 3 (cellE es) ∧ okS s) (hr2 : InR true w1 w0.heap.size w1.heap.size t zs.length 1 (cellI zs) ∧ okS t) (x0 x1 y0 y1 y2 : Value) :
    DrawnV w (.returned (.tuple #[.agg #[.int .i64 n, s], .agg #[.int .i64 m, .int .i64 a, t]])) (((((w1.setCell ⟨w.heap.size, 0, none⟩ x0).setCell ⟨w.heap.size, 1, none⟩ x1).setCell ⟨w.heap.size + 1, 0, none⟩ y0).setCell ⟨w.heap.size + 1, 1, none⟩ y1).setCell ⟨w.heap.size + 1, 2, none⟩ y2) := by
  have hc := chg5 w1 w.heap.size x0 x1 y0 y1 y2
  exact ⟨n, es, _, m, a, zs, _, rfl, hl, ⟨(hr1.1.chg hc (.inl (by omega))).wider (by omega) hc.size (Nat.le_refl _), hr1.2⟩, ⟨(hr2.1.chg hc (.inl (by omega))).wider (by omega) hc.size (Nat.le_refl _), hr2.2⟩, bel_chg (bel_trans hb hb1) hc (Nat.le_refl _)⟩

end Go.Proofs.Ytlgjcofpdaljnaa
namespace Go.Proofs.Ytlgjcofpdaljnaa
open Go.RowKit Go.BigFrame Go.Deep
set_option linter.unusedVariables false
set_option linter.unusedSimpArgs false
set_option linter.unnecessarySimpa false
theorem l15OpenW (W : World) (a : Option Addr) (n cap : Nat) (w : World) (hW : Below W.heap.size W w) (hs : W.heap.size ≤ w.heap.size) (hb : Bytes W a n) (hcap : n ≤ cap) (hn : n ≤ 281474976710656) :
    Calls Try.prog 44 #[.slice a n cap] w fun e w' => ∃ g, e = .returned (.pointer (some ⟨g, 0, none⟩)) ∧ w.heap.size ≤ g ∧ Below w.heap.size w w' ∧ Rd W w' g 0 := by
  by_cases h2 : 2000 < n
  · obtain ⟨b, off, rfl, hlt, hc⟩ := hb.resolve_left (by omega)
    have HC := Lib.hid hc
    clear hc hb
    go_enter Try.func44, Try.ntmps44
    go_wp2
    go_ret
    exact ⟨_, rfl, Nat.le_refl _, (Below.refl _ _).alloc (Nat.le_refl _) _, hs, bel_trans hW ((Below.refl _ _).alloc (Nat.le_refl _) _), ⟨_, 2000, cap, 0, by omega, by omega, .inr ⟨b, off, rfl, hlt, fun i hi => HC.out i (by omega)⟩, by go_simp, by go_simp⟩, by go_simp, by simp⟩
  · have HC := Lib.hid hb
    clear hb
    go_enter Try.func44, Try.ntmps44
    go_wp2
    go_ret
    exact ⟨_, rfl, Nat.le_refl _, (Below.refl _ _).alloc (Nat.le_refl _) _, hs, bel_trans hW ((Below.refl _ _).alloc (Nat.le_refl _) _), ⟨_, n, cap, 0, by omega, by omega, HC.out, by go_simp, by go_simp⟩, by go_simp, by simp⟩
theorem Rd.setLow {W w : World} {g q b k : Nat} (h : Rd W w g q) (hb : b ≠ g) (hw : W.heap.size ≤ b) (v : Value) : Rd W (w.setCell ⟨b, k, none⟩ v) g q := by
  obtain ⟨a, n, cap, p, h1, h2, h3, h4, h5⟩ := h.cells
  have hk : (w.setCell ⟨b, k, none⟩ v).heap[g]? = w.heap[g]? := Below.heap_setCell w _ _ g (by simp only; omega)
  exact ⟨h.new, h.bel.setCell hw _, ⟨a, n, cap, p, h1, h2, h3, by rw [World.cell?_of_block (a := ⟨g, 0, none⟩) hk]; exact h4, by rw [World.cell?_of_block (a := ⟨g, 1, none⟩) hk]; exact h5⟩,
    by rw [World.frozen?_of_block (a := ⟨g, 1, none⟩) hk]; exact h.free, by simpa using h.lt⟩
/-- A graph in a box at B5, a view in a box at B6, the source of the draw. -/
structure CSt (W0 : World) (g q B5 B6 : Nat) (n : Int) (es : List Ed) (va : Option Addr) (vc : Nat) (m a : Int) (zs : List Int) (sa : Option Addr) (sc lo1 hi1 lo2 hi2 : Nat) (wr : World) : Prop where
  b5 : Box wr B5 25 #[.int .i64 n, .slice va es.length vc]
  r1 : InR true wr lo1 hi1 (.slice va es.length vc) es.length 3 (cellE es)
  ok1 : okS (.slice va es.length vc)
  b6 : Box wr B6 28 #[.int .i64 m, .int .i64 a, .slice sa zs.length sc]
  r2 : InR true wr lo2 hi2 (.slice sa zs.length sc) zs.length 1 (cellI zs)
  ok2 : okS (.slice sa zs.length sc)
  rd : Rd W0 wr g q
  sz : es.length ≤ 40 ∧ zs.length ≤ 12
  l1 : W0.heap.size ≤ lo1 ∧ hi1 ≤ wr.heap.size
  l2 : W0.heap.size ≤ lo2 ∧ hi2 ≤ wr.heap.size
  bb : W0.heap.size ≤ B5 ∧ B5 < B6 ∧ B6 < g
  d1 : hi1 ≤ B5
  d2 : hi2 ≤ B5 ∨ g < lo2
/-- The same, whatever it is. -/
def CS (W0 : World) (g q B5 B6 : Nat) (wr : World) : Prop := ∃ (n : Int) (es : List Ed) (va : Option Addr) (vc : Nat) (m a : Int) (zs : List Int) (sa : Option Addr) (sc lo1 hi1 lo2 hi2 : Nat), CSt W0 g q B5 B6 n es va vc m a zs sa sc lo1 hi1 lo2 hi2 wr
section
variable {W0 w w' : World} {g q B5 B6 : Nat} {n : Int} {es : List Ed} {va : Option Addr} {vc : Nat} {m a : Int} {zs : List Int} {sa : Option Addr} {sc lo1 hi1 lo2 hi2 : Nat}
theorem CSt.keep (h : CSt W0 g q B5 B6 n es va vc m a zs sa sc lo1 hi1 lo2 hi2 w) (hb : Below w.heap.size w w') : CSt W0 g q B5 B6 n es va vc m a zs sa sc lo1 hi1 lo2 hi2 w' :=
  { h with b5 := h.b5.keep hb, r1 := InR.keep h.r1 hb, b6 := h.b6.keep hb, r2 := InR.keep h.r2 hb, rd := h.rd.keep hb, l1 := ⟨h.l1.1, Nat.le_trans h.l1.2 hb.size⟩, l2 := ⟨h.l2.1, Nat.le_trans h.l2.2 hb.size⟩ }
/-- A change of the source's own block, and of nothing else that was there. -/
theorem CSt.chg {q' : Nat} (h : CSt W0 g q B5 B6 n es va vc m a zs sa sc lo1 hi1 lo2 hi2 w) (hR : Rd W0 w' g q') (hG : Chg g (g + 1) w w') : CSt W0 g q' B5 B6 n es va vc m a zs sa sc lo1 hi1 lo2 hi2 w' :=
  { h with b5 := (hG.block _ h.b5.lt (by have := h.bb; omega)).trans h.b5, r1 := InR.chg h.r1 hG (by have := h.bb; have := h.d1; omega), b6 := (hG.block _ h.b6.lt (by have := h.bb; omega)).trans h.b6, r2 := InR.chg h.r2 hG (by have := h.bb; have := h.d2; omega), rd := hR, l1 := ⟨h.l1.1, Nat.le_trans h.l1.2 hG.size⟩, l2 := ⟨h.l2.1, Nat.le_trans h.l2.2 hG.size⟩ }
theorem CSt.draw {q' : Nat} (h : CSt W0 g q B5 B6 n es va vc m a zs sa sc lo1 hi1 lo2 hi2 w) (hR : Rd W0 w' g q') (hG : w.grownBy w' (some g)) : CSt W0 g q' B5 B6 n es va vc m a zs sa sc lo1 hi1 lo2 hi2 w' := h.chg hR (g_chgG hG)
theorem CSt.cells (h : CSt W0 g q B5 B6 n es va vc m a zs sa sc lo1 hi1 lo2 hi2 w) : (w.cell? ⟨B5, 0, none⟩ = some (.int .i64 n) ∧ w.cell? ⟨B5, 1, none⟩ = some (.slice va es.length vc)) ∧ (w.cell? ⟨B6, 0, none⟩ = some (.int .i64 m) ∧ w.cell? ⟨B6, 1, none⟩ = some (.int .i64 a) ∧ w.cell? ⟨B6, 2, none⟩ = some (.slice sa zs.length sc)) ∧ (w.frozen? ⟨B6, 0, none⟩ = false ∧ w.frozen? ⟨B6, 1, none⟩ = false ∧ w.frozen? ⟨B6, 2, none⟩ = false) :=
  ⟨⟨by simpa using h.b5.cell 0, by simpa using h.b5.cell 1⟩, ⟨by simpa using h.b6.cell 0, by simpa using h.b6.cell 1, by simpa using h.b6.cell 2⟩, h.b6.frozen 0, h.b6.frozen 1, h.b6.frozen 2⟩
theorem CSt.size (h : CSt W0 g q B5 B6 n es va vc m a zs sa sc lo1 hi1 lo2 hi2 w) : B6 < w.heap.size ∧ B5 < w.heap.size ∧ g < w.heap.size := ⟨h.b6.lt, h.b5.lt, h.rd.lt⟩
/-- A new view is stored. -/
theorem CSt.put (h : CSt W0 g q B5 B6 n es va vc m a zs sa sc lo1 hi1 lo2 hi2 w) {ys : List Int} {ta : Option Addr} {tc lo hi : Nat} (hl : ys.length ≤ 12) (hr : InR true w lo hi (.slice ta ys.length tc) ys.length 1 (cellI ys)) (hok : okS (.slice ta ys.length tc)) {m' a' : Int}
    (hlo : g < lo) (hhi : hi ≤ w.heap.size) :
    CSt W0 g q B5 B6 n es va vc m' a' ys ta tc lo1 hi1 lo hi (((w.setCell ⟨B6, 0, none⟩ (.int .i64 m')).setCell ⟨B6, 1, none⟩ (.int .i64 a')).setCell ⟨B6, 2, none⟩ (.slice ta ys.length tc)) := by
  have hbb := h.bb
  have hd1 := h.d1
  have hgl := h.rd.lt
  have hc : Chg B6 (B6 + 1) w (((w.setCell ⟨B6, 0, none⟩ (.int .i64 m')).setCell ⟨B6, 1, none⟩ (.int .i64 a')).setCell ⟨B6, 2, none⟩ (.slice ta ys.length tc)) := (((Chg.refl _ _ _).setCell (by simp) (by simp) _).setCell (by simp) (by simp) _).setCell (by simp) (by simp) _
  have hb9 : Box (((w.setCell ⟨B6, 0, none⟩ (.int .i64 m')).setCell ⟨B6, 1, none⟩ (.int .i64 a')).setCell ⟨B6, 2, none⟩ (.slice ta ys.length tc)) B6 28 #[.int .i64 m', .int .i64 a', .slice ta ys.length tc] := by
    have := ((h.b6.set 0 (.int .i64 m')).set 1 (.int .i64 a')).set 2 (.slice ta ys.length tc)
    unfold Box at this ⊢
    simpa using this
  exact ⟨(hc.block _ h.b5.lt (.inl (by omega))).trans h.b5, h.r1.chg hc (by omega), h.ok1, hb9, hr.chg hc (by omega), hok,
    ((h.rd.setLow (by omega) (by omega) _).setLow (by omega) (by omega) _).setLow (by omega) (by omega) _, ⟨h.sz.1, hl⟩,
    ⟨h.l1.1, Nat.le_trans h.l1.2 hc.size⟩, ⟨by omega, Nat.le_trans hhi hc.size⟩, hbb, hd1, .inr hlo⟩
end
theorem own_neO {w : World} {base g : Nat} {t : TypeId} {v : Value} {n : Nat} {xs : List Value} (h : w.ownsRow base t 1 v n xs) (hg : g < base) : v.ownBlock = none ∨ v.ownBlock ≠ some g := by
  refine .inr fun e => ?_
  have := (h.lt g e).1
  omega
theorem Rd.grownO {W w w' : World} {g q : Nat} {row : Option Nat} (h : Rd W w g q) (hg : w.grownBy w' row) (hr : ∀ k, row = some k → g < k) : Rd W w' g q := by
  obtain ⟨a, n, cap, p, h1, h2, h3, h4, h5⟩ := h.cells
  have hb : w'.heap[g]? = w.heap[g]? := hg.block g h.lt (fun e => by have := hr g e.symm; omega)
  exact ⟨h.new, h.bel.grown hg (Nat.le_of_lt (Nat.lt_of_le_of_lt h.new h.lt)) (fun k hk => by have := hr k hk; have := h.new; omega),
    ⟨a, n, cap, p, h1, h2, h3, by rw [World.cell?_of_block (a := ⟨g, 0, none⟩) hb]; exact h4, by rw [World.cell?_of_block (a := ⟨g, 1, none⟩) hb]; exact h5⟩,
    by rw [World.frozen?_of_block (a := ⟨g, 1, none⟩) hb]; exact h.free, Nat.lt_of_lt_of_le h.lt hg.size⟩
/-- The order, in memory of its own behind S; of what lay there before only the source's block is changed. -/
structure OSt (W0 W1 : World) (g q S : Nat) (v : Value) (os : List Int) (wr : World) : Prop where
  chg : Chg g (g + 1) W1 wr
  rd : Rd W0 wr g q
  own : wr.ownsRow S 3 1 v os.length (os.map (Value.int .i64))
  gs : g < S ∧ S = W1.heap.size
section
variable {W0 W1 w w' : World} {g q S : Nat} {v : Value} {os : List Int}
theorem OSt.draw {q' : Nat} (h : OSt W0 W1 g q S v os w) (hR : Rd W0 w' g q') (hG : w.grownBy w' (some g)) : OSt W0 W1 g q' S v os w' :=
  ⟨h.chg.trans (g_chgG hG), hR, h.own.kept hG (own_neO h.own h.gs.1), h.gs⟩
theorem OSt.more {q' : Nat} (h : OSt W0 W1 g q S v os w) (hq : q ≤ q') : OSt W0 W1 g q' S v os w := { h with rd := h.rd.more hq }
theorem OSt.push (h : OSt W0 W1 g q S v os w) {o : Obj} {v' : Value} {x : Int} (hown : w'.ownsRow S 3 1 v' (os.length + 1) (os.map (Value.int .i64) ++ [.int .i64 x])) (hg : (w.alloc o).grownBy w' v.ownBlock) : OSt W0 W1 g q S v' (os ++ [x]) w' := by
  have hbA : Below w.heap.size w (w.alloc o) := (Below.refl _ _).alloc (Nat.le_refl _) _
  have ho := h.own.alloc o
  have hc := Chg.of_grown hg ho
  have hsz := h.chg.size
  have hgs := h.gs
  refine ⟨?_, (h.rd.keep hbA).grownO hg (fun q hq => by have := (ho.lt q hq).1; omega), by simpa using hown, h.gs⟩
  have h1 : Chg g (g + 1) W1 (w.alloc o) := h.chg.trans (Chg.of_below hbA)
  exact ⟨hc.os.trans h1.os, hc.tape.trans h1.tape, hc.output.trans h1.output, Nat.le_trans h1.size hc.size, fun k hk hd => (hc.block k (Nat.lt_of_lt_of_le hk h1.size) (.inl (by omega))).trans (h1.block k hk hd)⟩
end
end Go.Proofs.Ytlgjcofpdaljnaa
namespace Go.Proofs.Ytlgjcofpdaljnaa
open Go.RowKit Go.BigFrame Go.Deep
set_option linter.unusedVariables false
set_option linter.unusedSimpArgs false
set_option linter.unnecessarySimpa false
/-- A graph, a view of it and an order are drawn. -/
def DrawnO (w : World) (e : Ending) (w' : World) : Prop :=
  ∃ (n : Int) (es : List Ed) (s : Value) (m a : Int) (zs : List Int) (t : Value) (os : List Int) (u : Value), e = .returned (.tuple #[.agg #[.int .i64 n, s], .agg #[.int .i64 m, .int .i64 a, t], u]) ∧ (es.length ≤ 40 ∧ zs.length ≤ 12 ∧ os.length ≤ 151) ∧ (InR true w' w.heap.size w'.heap.size s es.length 3 (cellE es) ∧ okS s) ∧ (InR true w' w.heap.size w'.heap.size t zs.length 1 (cellI zs) ∧ okS t) ∧ (InR true w' w.heap.size w'.heap.size u os.length 1 (cellI os) ∧ okS u) ∧ Below w.heap.size w w'
theorem results_cct {fn : Func} {p r u : Tmp} {ty ty2 : TypeId} (h : fn.results = #[.cell p ty, .cell r ty2, .tmp u]) (tmps : Array Value) (P : Program) (w : World) :
    (results fn tmps).run P w = ((asAddr (tmps.getD p undef)).run P w).andThen fun a w₁ => ((loadVar ty a).run P w₁).andThen fun v w₂ => ((asAddr (tmps.getD r undef)).run P w₂).andThen fun b w₃ => ((loadVar ty2 b).run P w₃).andThen fun x w₄ => .ok (.tuple #[v, x, tmps.getD u undef]) w₄ := by
  simp only [results, h]
  simp
theorem drawnO_of {w w0 w1 W1 : World} {g q q' S B5 B6 : Nat} {n : Int} {es : List Ed} {va : Option Addr} {vc : Nat} {m a : Int} {zs : List Int} {sa : Option Addr} {sc lo1 hi1 lo2 hi2 : Nat} {u : Value} {os : List Int} (hb : Below w.heap.size w w0) (h0 : w.heap.size + 2 ≤ w0.heap.size) (h : CSt w0 g q B5 B6 n es va vc m a zs sa sc lo1 hi1 lo2 hi2 w1) (ho : OSt w0 W1 g q' S u os w1) (hl : os.length ≤ 151) (x0 x1 y0 y1 y2 : Value) :
    DrawnO w (.returned (.tuple #[.agg #[.int .i64 n, .slice va es.length vc], .agg #[.int .i64 m, .int .i64 a, .slice sa zs.length sc], u])) (((((w1.setCell ⟨w.heap.size, 0, none⟩ x0).setCell ⟨w.heap.size, 1, none⟩ x1).setCell ⟨w.heap.size + 1, 0, none⟩ y0).setCell ⟨w.heap.size + 1, 1, none⟩ y1).setCell ⟨w.heap.size + 1, 2, none⟩ y2).drew := by
  have hl1 := h.l1
  have hl2 := h.l2
  have hn := h.rd.new
  have hgs := ho.gs
  have hu : OwnV w0 w1 u os := OwnV.of ho.own (by omega)
  have hc : Chg w.heap.size (w.heap.size + 2) w1 (((((w1.setCell ⟨w.heap.size, 0, none⟩ x0).setCell ⟨w.heap.size, 1, none⟩ x1).setCell ⟨w.heap.size + 1, 0, none⟩ y0).setCell ⟨w.heap.size + 1, 1, none⟩ y1).setCell ⟨w.heap.size + 1, 2, none⟩ y2).drew :=
    (((((((Chg.refl _ _ _).setCell (by simp) (by simp) _).setCell (by simp) (by simp) _).setCell (by simp) (by simp) _).setCell (by simp) (by simp) _).setCell (by simp) (by simp) _)).drew
  exact ⟨n, es, _, m, a, zs, _, os, _, rfl, ⟨h.sz.1, h.sz.2, hl⟩, ⟨(h.r1.chg hc (.inl (by omega))).wider (by omega) (Nat.le_trans hl1.2 hc.size) (Nat.le_refl _), h.ok1⟩, ⟨(h.r2.chg hc (.inl (by omega))).wider (by omega) (Nat.le_trans hl2.2 hc.size) (Nat.le_refl _), h.ok2⟩, ⟨(InR.chg hu hc (.inl (by omega))).wider (by omega) hc.size (Nat.le_refl _), own_ok ho.own⟩, bel_chg (bel_trans hb h.rd.bel) hc (Nat.le_refl _)⟩
theorem info_intO : (Try.prog.info? 3).map (fun i => (i.zero, i.size, i.bytes)) = some (some (.int .i64 0), 1, 8) := by kernel_rfl

end Go.Proofs.Ytlgjcofpdaljnaa
namespace Go.Proofs.Ytlgjcofpdaljnaa
open Go.RowKit Go.BigFrame Go.Deep
set_option linter.unusedVariables false
set_option linter.unusedSimpArgs false
set_option linter.unnecessarySimpa false
theorem drawnO_out {w w0 w1 : World} {n m a : Int} {es : List Ed} {zs os : List Int} {s t u : Value} (hb : Below w.heap.size w w0) (h0 : w.heap.size + 2 ≤ w0.heap.size) (hb1 : Below w0.heap.size w0 w1) (hl : es.length ≤ 40 ∧ zs.length ≤ 12 ∧ os.length ≤ 151) (hr1 : InR true w1 w0.heap.size w1.heap.size s es.length 3 (cellE es) ∧ okS s) (hr2 : InR true w1 w0.heap.size w1.heap.size t zs.length 1 (cellI zs) ∧ okS t) (hr3 : InR true w1 w0.heap.size w1.heap.size u os.length 1 (cellI os) ∧ okS u) (x0 x1 y0 y1 y2 : Value) :
    DrawnO w (.returned (.tuple #[.agg #[.int .i64 n, s], .agg #[.int .i64 m, .int .i64 a, t], u])) (((((w1.setCell ⟨w.heap.size, 0, none⟩ x0).setCell ⟨w.heap.size, 1, none⟩ x1).setCell ⟨w.heap.size + 1, 0, none⟩ y0).setCell ⟨w.heap.size + 1, 1, none⟩ y1).setCell ⟨w.heap.size + 1, 2, none⟩ y2) := by
  have hc := chg5 w1 w.heap.size x0 x1 y0 y1 y2
  exact ⟨n, es, _, m, a, zs, _, os, _, rfl, hl, ⟨(hr1.1.chg hc (.inl (by omega))).wider (by omega) hc.size (Nat.le_refl _), hr1.2⟩, ⟨(hr2.1.chg hc (.inl (by omega))).wider (by omega) hc.size (Nat.le_refl _), hr2.2⟩, ⟨(hr3.1.chg hc (.inl (by omega))).wider (by omega) hc.size (Nat.le_refl _), hr3.2⟩, bel_chg (bel_trans hb hb1) hc (Nat.le_refl _)⟩

end Go.Proofs.Ytlgjcofpdaljnaa
namespace Go.Proofs.Ytlgjcofpdaljnaa
open Go.RowKit Go.BigFrame Go.Deep
set_option linter.unusedVariables false
set_option linter.unusedSimpArgs false
set_option linter.unnecessarySimpa false
theorem DrawnV.drew {w w' : World} {e : Ending} (h : DrawnV w e w') : DrawnV w e w'.drew := by
  obtain ⟨n, es, s, m, a, zs, t, h1, h2, h3, h4, h5⟩ := h
  exact ⟨n, es, s, m, a, zs, t, h1, h2, ⟨InR.drew1 h3.1, h3.2⟩, ⟨InR.drew1 h4.1, h4.2⟩, h5.drew⟩
/-- A graph, a view of it and an edge's number are drawn. -/
def DrawnE (w : World) (e : Ending) (w' : World) : Prop :=
  ∃ (n : Int) (es : List Ed) (s : Value) (m a : Int) (zs : List Int) (t : Value) (i : Int), e = .returned (.tuple #[.agg #[.int .i64 n, s], .agg #[.int .i64 m, .int .i64 a, t], .int .i64 i]) ∧ (es.length ≤ 40 ∧ zs.length ≤ 12) ∧ (InR true w' w.heap.size w'.heap.size s es.length 3 (cellE es) ∧ okS s) ∧ (InR true w' w.heap.size w'.heap.size t zs.length 1 (cellI zs) ∧ okS t) ∧ Below w.heap.size w w'
theorem DrawnV.edge {w w' : World} {n m a i : Int} {s t : Value} (h : DrawnV w (.returned (.tuple #[.agg #[.int .i64 n, s], .agg #[.int .i64 m, .int .i64 a, t]])) w') : DrawnE w (.returned (.tuple #[.agg #[.int .i64 n, s], .agg #[.int .i64 m, .int .i64 a, t], .int .i64 i])) w' := by
  obtain ⟨n1, es, s1, m1, a1, zs, t1, h1, h2, h3, h4, h5⟩ := h
  injection h1 with h1
  injection h1 with h1
  simp only [Array.mk.injEq, List.cons.injEq, Value.agg.injEq, Value.int.injEq, true_and, and_true] at h1
  obtain ⟨⟨rfl, rfl⟩, rfl, rfl, rfl⟩ := h1
  exact ⟨n, es, s, m, a, zs, t, i, rfl, h2, h3, h4, h5⟩

end Go.Proofs.Ytlgjcofpdaljnaa
