/- Edges in an order, one by one: the iterator. RunSchedule: in the program. RelaxEdge and RunSchedule: in the program and in the model. RunSchedule: in the model. RelaxEdge and RunSchedule: what they answer, written out. -/
import Derived.RangeFuncNested
import Derived.RangeFuncBound
import Derived.RangeFuncCalls
import Derived.RangeFuncLeaves
import Derived.Shelf.Abstract
import Derived.Shelf.RegionOpen
import Derived.WalkKit
import Derived.OwnWalkIn
import Derived.TacticsInMore
import Derived.LoopNIn
import Derived.LoopIn
import Derived.Test.YtnomlefjldfgiaaOneS
import Derived.Test.YtnomlefjldfgiaaLooseM
import Derived.Laws.EntriesVeiled
namespace Go.Proofs.Ytnomlefjldfgiaa
open Go.RowKit Go.Shelf Go.BigFrame Go.Deep
set_option linter.unusedVariables false
set_option linter.unusedSimpArgs false

/-- An edge of a graph with N nodes. -/
abbrev EdN (N : Nat) := { e : Nat × Nat × Int // e.1 < N ∧ e.2.1 < N ∧ mWeight e.2.2 = true }
def edV {N : Nat} (x : EdN N) : Ed := ((x.1.1 : Int), (x.1.2.1 : Int), x.1.2.2)
def edA {N : Nat} (x : EdN N) : Value := .agg #[.int .i64 x.1.1, .int .i64 x.1.2.1, .int .i64 x.1.2.2]
/-- What a round keeps: the blocks that were there, but for one. -/
def KpB (b D : Nat) (W W' : World) : Prop := W.heap.size ≤ W'.heap.size ∧ ∀ k, k < D → k ≠ b → W'.heap[k]? = W.heap[k]?
theorem KpB.t {b D : Nat} {A B C : World} (h : KpB b D A B) (k : KpB b D B C) : KpB b D A C := ⟨Nat.le_trans h.1 k.1, fun i hi hb => (k.2 i hi hb).trans (h.2 i hi hb)⟩
theorem KpB.b {b : Nat} {w : World} (W : World) (l : Nat) (o o' : Obj) (hl : w.heap.size ≤ l) (_ : W.heap[l]? = some o) (_ : o.isCells = false) (_ : o.isWalk = false) : KpB b w.heap.size W (W.putObj l o') :=
  ⟨by simp, fun k hk _ => World.putObj_heap_other (by omega)⟩
theorem KpB.of_below {b D : Nat} {W W' : World} (h : Below W.heap.size W W') (hD : D ≤ W.heap.size) : KpB b D W W' := ⟨h.size, fun k hk _ => h.block k (by omega)⟩
theorem KpB.of_chg {b D : Nat} {W W' : World} (h : Chg b (b + 1) W W') (hD : D ≤ W.heap.size) : KpB b D W W' := ⟨h.size, fun k hk hb => h.block k (by omega) (by omega)⟩
theorem KpB.cell {b D : Nat} {W W' : World} (h : KpB b D W W') {p : Addr} (hp : p.block < D) (hb : p.block ≠ b) : W'.cell? p = W.cell? p := World.cell?_of_block (h.2 _ hp hb)
theorem KpB.box {b D B : Nat} {W W' : World} {t : TypeId} {cs : Array Value} (h : KpB b D W W') (hp : B < D) (hb : B ≠ b) (k : Box W B t cs) : Box W' B t cs := (h.2 _ hp hb).trans k
theorem kpB_own {β : Type} {b D : Nat} {W0 : World} (hD : D ≤ W0.heap.size) : OwnFrom D (fun (_ : β) W => KpB b D W0 W) := fun s A B row hs hg hr =>
  ⟨Nat.le_trans hs.1 hg.size, fun k hk hb => (hg.block k (by have := hs.1; omega) (fun e => by have := (hr k e.symm).1; omega)).trans (hs.2 k hk hb)⟩
theorem wr_own {β : Type} {b off D : Nat} (hb : b < D) (f : β → List Int) : OwnFrom D (fun s W => Wr W b off (f s)) := fun s A B row hs hg hr => by
  have h1 : B.heap[b]? = A.heap[b]? := hg.block b hs.1 (fun e => by have := (hr b e.symm).1; omega)
  exact ⟨Nat.lt_of_lt_of_le hs.1 hg.size, fun i hi => by rw [World.cell?_of_block (a := ⟨b, off + i, none⟩) h1, World.frozen?_of_block (a := ⟨b, off + i, none⟩) h1]; exact hs.2 i hi⟩
theorem oIn_nat {l : Nat} {i : Int} (h : oIn l i = true) : ∃ I : Nat, i = I ∧ I < l := by
  simp only [oIn, Bool.and_eq_true, decide_eq_true_eq] at h
  exact ⟨i.toNat, by omega, by omega⟩
/-- What the iterator reads. -/
structure EIO (Bo Be : Nat) (os : List Int) (es : List Ed) (so se : Value) (b D : Nat) (W : World) : Prop where
  bo : Box W Bo 26 #[so]
  be : Box W Be 23 #[se]
  lo : Bo < D ∧ Bo ≠ b
  le : Be < D ∧ Be ≠ b
  ro : ∃ a cap, so = .slice a os.length cap ∧ (os = [] ∨ ∃ p off, a = some ⟨p, off, none⟩ ∧ p < D ∧ p ≠ b ∧ ∀ i, i < os.length → W.cell? ⟨p, off + i, none⟩ = some (.int .i64 (os.getD i 0)))
  re : ∃ a cap, se = .slice a es.length cap ∧ (es = [] ∨ ∃ p off, a = some ⟨p, off, none⟩ ∧ p < D ∧ p ≠ b ∧ ∀ i, i < es.length → W.cell? ⟨p, off + i * 3, none⟩ = some (.int .i64 (es.getD i (0, 0, 0)).1) ∧ W.cell? ⟨p, off + i * 3 + 1, none⟩ = some (.int .i64 (es.getD i (0, 0, 0)).2.1) ∧ W.cell? ⟨p, off + i * 3 + 2, none⟩ = some (.int .i64 (es.getD i (0, 0, 0)).2.2))
theorem EIO.kept {Bo Be : Nat} {os : List Int} {es : List Ed} {so se : Value} {b D : Nat} {W W' : World} (h : EIO Bo Be os es so se b D W) (k : KpB b D W W') : EIO Bo Be os es so se b D W' := by
  refine ⟨k.box h.lo.1 h.lo.2 h.bo, k.box h.le.1 h.le.2 h.be, h.lo, h.le, ?_, ?_⟩
  · obtain ⟨a, cap, e, r⟩ := h.ro
    refine ⟨a, cap, e, ?_⟩
    rcases r with r | ⟨p, off, e2, h1, h2, hc⟩
    · exact .inl r
    · exact .inr ⟨p, off, e2, h1, h2, fun i hi => (k.cell (p := ⟨p, _, none⟩) h1 h2).trans (hc i hi)⟩
  · obtain ⟨a, cap, e, r⟩ := h.re
    refine ⟨a, cap, e, ?_⟩
    rcases r with r | ⟨p, off, e2, h1, h2, hc⟩
    · exact .inl r
    · exact .inr ⟨p, off, e2, h1, h2, fun i hi => ⟨(k.cell (p := ⟨p, _, none⟩) h1 h2).trans (hc i hi).1, (k.cell (p := ⟨p, _, none⟩) h1 h2).trans (hc i hi).2.1, (k.cell (p := ⟨p, _, none⟩) h1 h2).trans (hc i hi).2.2⟩⟩

set_option maxRecDepth 20000 in
set_option maxHeartbeats 1000000 in
theorem eioRun (F : Fence) (n : Nat) (hF : F.fn 39) (hro : F.round = none) (hn : 1 ≤ n) (l Bo Be b D N : Nat) (os : List Int) (es : List Ed) (so se : Value) (hos : ∀ i ∈ os, oIn es.length i = true) (he : eAll N es) (hl5 : os.length ≤ 500) (hl4 : es.length ≤ 1048576) (J Jx : List (EdN N) → World → Prop)
    (hY : ∀ pre x W, J pre W → pre.length < os.length → YieldAt F (n - 1) Try.prog l #[edA x] W fun e W' =>
      (e = .returned (.bool true) ∧ J (pre ++ [x]) W' ∧ KpB b D W W') ∨ (e = .returned (.bool false) ∧ Jx (pre ++ [x]) W'))
    (W : World) (hE : EIO Bo Be os es so se b D W) (h0 : J [] W) :
    CallsIn F n Try.prog 39 #[.func (.yield l) #[] #[], .pointer (some ⟨Bo, 0, none⟩), .pointer (some ⟨Be, 0, none⟩)] W fun e W' => (∃ v, e = .returned v) ∧
      ((∃ ys, ys.map edV = os.map (eAt es) ∧ J ys W') ∨ (∃ pre, True ∧ Jx pre W')) := by
  have hE0 := hE
  obtain ⟨bo, be, lo, le, ⟨a, cap, rfl, hro'⟩, ⟨a2, cap2, rfl, hre⟩⟩ := hE
  have x0 : W.cell? ⟨Bo, 0, none⟩ = some (.slice a os.length cap) := by simpa using bo.cell 0
  have HE := Lib.hid hE0
  have HO := Lib.hid hro'
  have HR := Lib.hid hre
  have HOS := Lib.hid hos
  have HEA := Lib.hid he
  have HY := Lib.hid hY
  clear bo be hro' hre hE0 hos he hY
  refine callsIn_of_wp Try.func39 rfl hF ?_ hro
  simp only [Try.ntmps39, List.size_toArray, List.length_cons, List.length_nil, Nat.reduceAdd, Nat.reduceSub, Array.replicate_succ, Array.replicate_zero, List.push_toArray, List.append_toArray, List.nil_append, List.cons_append]
  gi_wp2
  gi_loopw [8] (fun c wr => ∃ (k : Nat) (pre : List (EdN N)), k ≤ os.length ∧ c = .int .i64 k ∧ Hid (pre.map edV = (os.take k).map (eAt es)) ∧ Hid (J pre wr) ∧ Hid (EIO Bo Be os es (.slice a os.length cap) (.slice a2 es.length cap2) b D wr)) (fun c _ => os.length - (intOf c).toNat)
  case atStart => exact ⟨0, [], Nat.zero_le _, rfl, Lib.hid (by simp), Lib.hid h0, HE⟩
  case round =>
    obtain ⟨k, pre, hk, rfl, HP, HJ, HX⟩ := hrel
    have hlen : pre.length = k := by have := congrArg List.length HP.out; simpa [Nat.min_eq_left hk] using this
    have HL := Lib.hid hlen
    clear hlen
    by_cases hlt : k < os.length
    · have hlt' : (k : Int) < os.length := by omega
      rcases HX.out.ro with ⟨a9, c9, hs9, hr9⟩
      injection hs9 with e1 e2 e3
      subst e1 e3
      rcases hr9 with h00 | ⟨p, off, rfl, hp1, hp2, hc⟩
      · rw [h00] at hlt; simp at hlt
      have hok := oIn_nat (HOS.out (os.getD k 0) (by simp [List.getD, hlt]))
      obtain ⟨I, hI, hIl⟩ := hok
      have hck := hc k hlt
      rw [hI] at hck
      obtain ⟨x, y, z, hx⟩ : ∃ x y z, (x, y, z) = es.getD I (0, 0, 0) := ⟨_, _, _, rfl⟩
      obtain ⟨X, Y, rfl, rfl, hX, hY', hwz⟩ := edge_nat HEA.out hIl hx
      rcases HX.out.re with ⟨a8, c8, hs8, hr8⟩
      injection hs8 with e1 e2 e3
      subst e1 e3
      rcases hr8 with h00 | ⟨p2, off2, rfl, hq1, hq2, hc2⟩
      · rw [h00] at hIl; simp at hIl
      have hce := hc2 I hIl
      rw [← hx] at hce
      simp only at hce
      have hbe : wr.cell? ⟨Be, 0, none⟩ = some (.slice (some ⟨p2, off2, none⟩) es.length cap2) := by simpa using HX.out.be.cell 0
      have hIl' : (I : Int) < es.length := by omega
      obtain ⟨fn, tmps, assign, body, hy, hR⟩ := HY.out pre ⟨(X, Y, z), hX, hY', hwz⟩ wr HJ.out (by have := HL.out; omega)
      have hy' : (Instr.yield l #[.agg #[.int .i64 X, .int .i64 Y, .int .i64 z]]).run Try.prog wr = .ok (.round l fn tmps assign body) wr := hy
      have hnext : Hid ((pre ++ [(⟨(X, Y, z), hX, hY', hwz⟩ : EdN N)]).map edV = (os.take (k + 1)).map (eAt es)) := Lib.hid (by
        rw [List.take_succ_eq_append_getElem hlt, List.map_append, List.map_append, HP.out]
        have h1 : os[k] = (I : Int) := by rw [← hI]; simp [List.getD, hlt]
        rw [h1]
        simp only [List.map_cons, List.map_nil, edV, eAt, Int.toNat_natCast, ← hx])
      have HRR := Lib.hid hR
      have hk1 : (k : Int) + 1 ≤ 9223372036854775807 := by omega
      clear hc hc2 hx hy hI hR
      gi_wp2
      refine HRR.out.mono ?_
      rintro e W3 (⟨rfl, hJ3, hk3⟩ | ⟨rfl, hJx3⟩)
      · have HJ3 := Lib.hid hJ3
        have HX3 := Lib.hid (HX.out.kept hk3)
        clear hJ3 hk3
        gi_wp2
        go_roundw
        case rel => exact ⟨k + 1, _, by omega, by go_num, hnext, HJ3, HX3⟩
        case measure => simp [intOf]; omega
      · have HJ3 := Lib.hid hJx3
        clear hJx3
        gi_wp2
        refine bodyPost_ret (results_none rfl _ _ _) rfl ?_
        exact ⟨⟨_, rfl⟩, .inr ⟨_, trivial, HJ3.out⟩⟩
    · have hke : k = os.length := by omega
      have hkk : ¬ ((k : Int) < os.length) := by omega
      have HK := Lib.hid hke
      clear hke
      gi_wp2
      go_end0
      exact ⟨⟨_, rfl⟩, .inl ⟨pre, by rw [HP.out, HK.out, List.take_length], HJ.out⟩⟩
end Go.Proofs.Ytnomlefjldfgiaa
namespace Go.Proofs.Ytnomlefjldfgiaa
open Go.RowKit Go.Shelf Go.BigFrame Go.Deep
set_option linter.unusedVariables false
set_option linter.unusedSimpArgs false
attribute [local go_sem] Oper.semAt_some

def rsB (n : Int) (es : List Ed) (m a : Int) (zs os : List Int) : Bool := vVal n es m a zs && oOk es.length os
def rsM (n : Int) (es : List Ed) (m a : Int) (zs os : List Int) : Int := if rsB n es m a zs os = true then m else 0
def rsA (n : Int) (es : List Ed) (m a : Int) (zs os : List Int) : Int := if rsB n es m a zs os = true then a else 0
def rsL (n : Int) (es : List Ed) (m a : Int) (zs os : List Int) : List Int := if rsB n es m a zs os = true then vRun m es zs os else []

/-- A graph's box, a view's box and the box of a result, in new memory. -/
structure B3 (w : World) (n : Int) (s : Value) (m a : Int) (t : Value) (w' : World) : Prop where
  bel : Below w.heap.size w w'
  g : Box w' w.heap.size 25 #[.int .i64 n, s]
  v : Box w' (w.heap.size + 1) 33 #[.int .i64 m, .int .i64 a, t]
  r : Box w' (w.heap.size + 1 + 1) 33 #[.int .i64 0, .int .i64 0, .slice none 0 0]
theorem B3.new (w : World) (n : Int) (s : Value) (m a : Int) (t : Value) : B3 w n s m a t (((w.alloc (.cells #[.int .i64 n, s] 25)).alloc (.cells #[.int .i64 m, .int .i64 a, t] 33)).alloc (.cells #[.int .i64 0, .int .i64 0, .slice none 0 0] 33)) :=
  ⟨(((Below.refl _ _).alloc (Nat.le_refl _) _).alloc (by simp) _).alloc (by simp <;> omega) _, ((Box.new w _ _).alloc _).alloc _,
    Box.alloc (by have := Box.new (w.alloc (.cells #[.int .i64 n, s] 25)) 33 #[.int .i64 m, .int .i64 a, t]; simpa using this) _,
    by have := Box.new ((w.alloc (.cells #[.int .i64 n, s] 25)).alloc (.cells #[.int .i64 m, .int .i64 a, t] 33)) 33 #[.int .i64 0, .int .i64 0, .slice none 0 0]; simpa using this⟩
section
variable {w w1 w2 : World} {n m a : Int} {s t : Value}
theorem B3.keep (h : B3 w n s m a t w1) (hb : Below w1.heap.size w1 w2) : B3 w n s m a t w2 := ⟨bel_trans h.bel hb, h.g.keep hb, h.v.keep hb, h.r.keep hb⟩
theorem B3.lt (h : B3 w n s m a t w1) : w.heap.size + 3 ≤ w1.heap.size := h.r.lt
theorem B3.cells (h : B3 w n s m a t w1) : (w1.cell? ⟨w.heap.size, 0, none⟩ = some (.int .i64 n) ∧ w1.cell? ⟨w.heap.size, 1, none⟩ = some s) ∧ (w1.cell? ⟨w.heap.size + 1, 0, none⟩ = some (.int .i64 m) ∧ w1.cell? ⟨w.heap.size + 1, 1, none⟩ = some (.int .i64 a) ∧ w1.cell? ⟨w.heap.size + 1, 2, none⟩ = some t) ∧
    (w1.cell? ⟨w.heap.size + 1 + 1, 0, none⟩ = some (.int .i64 0) ∧ w1.cell? ⟨w.heap.size + 1 + 1, 1, none⟩ = some (.int .i64 0) ∧ w1.cell? ⟨w.heap.size + 1 + 1, 2, none⟩ = some (.slice none 0 0)) ∧ (w1.frozen? ⟨w.heap.size + 1 + 1, 0, none⟩ = false ∧ w1.frozen? ⟨w.heap.size + 1 + 1, 1, none⟩ = false ∧ w1.frozen? ⟨w.heap.size + 1 + 1, 2, none⟩ = false) :=
  ⟨⟨by simpa using h.g.cell 0, by simpa using h.g.cell 1⟩, ⟨by simpa using h.v.cell 0, by simpa using h.v.cell 1, by simpa using h.v.cell 2⟩, ⟨by simpa using h.r.cell 0, by simpa using h.r.cell 1, by simpa using h.r.cell 2⟩, h.r.frozen 0, h.r.frozen 1, h.r.frozen 2⟩
theorem B3.chg (h : B3 w n s m a t w1) (x y z : Value) : Chg (w.heap.size + 2) (w.heap.size + 3) w1 (((w1.setCell ⟨w.heap.size + 1 + 1, 0, none⟩ x).setCell ⟨w.heap.size + 1 + 1, 1, none⟩ y).setCell ⟨w.heap.size + 1 + 1, 2, none⟩ z) :=
  (((Chg.refl _ _ _).setCell (by simp only; omega) (by simp only; omega) _).setCell (by simp only; omega) (by simp only; omega) _).setCell (by simp only; omega) (by simp only; omega) _
/-- The end, with a row of its own. -/
theorem B3.out (h : B3 w n s m a t w1) {lo hi : Nat} {v : Value} {zs : List Int} (hw : InR true w1 lo hi v zs.length 1 (cellI zs)) (hlo : w.heap.size + 3 ≤ lo) (hhi : hi ≤ w1.heap.size) (x y z : Value) :
    OwnV w (((w1.setCell ⟨w.heap.size + 1 + 1, 0, none⟩ x).setCell ⟨w.heap.size + 1 + 1, 1, none⟩ y).setCell ⟨w.heap.size + 1 + 1, 2, none⟩ z) v zs ∧ Below w.heap.size w (((w1.setCell ⟨w.heap.size + 1 + 1, 0, none⟩ x).setCell ⟨w.heap.size + 1 + 1, 1, none⟩ y).setCell ⟨w.heap.size + 1 + 1, 2, none⟩ z) := by
  have hc := h.chg x y z
  refine ⟨?_, bel_chg h.bel hc (by omega)⟩
  exact (InR.chg hw hc (.inl (by omega))).wider (by omega) (Nat.le_trans hhi hc.size) (Nat.le_refl _)
/-- The end, with nothing. -/
theorem B3.out0 (h : B3 w n s m a t w1) (x y z : Value) :
    OwnV w (((w1.setCell ⟨w.heap.size + 1 + 1, 0, none⟩ x).setCell ⟨w.heap.size + 1 + 1, 1, none⟩ y).setCell ⟨w.heap.size + 1 + 1, 2, none⟩ z) (.slice none 0 0) [] ∧ okS (.slice none 0 0) ∧ Below w.heap.size w (((w1.setCell ⟨w.heap.size + 1 + 1, 0, none⟩ x).setCell ⟨w.heap.size + 1 + 1, 1, none⟩ y).setCell ⟨w.heap.size + 1 + 1, 2, none⟩ z) :=
  ⟨OwnV.nil _ _, okS_nil, bel_chg h.bel (h.chg x y z) (by omega)⟩
end

theorem chg_put (W : World) (D : Nat) (o : Obj) : Chg D (D + 1) W (W.putObj D o) := ⟨rfl, rfl, rfl, by simp, fun k _ hd => World.putObj_heap_other (by omega)⟩
theorem box_own {D : Nat} {A B : World} {row : Option Nat} {Bx : Nat} {t : TypeId} {cs : Array Value} (h : Box A Bx t cs) (hg : A.grownBy B row) (hr : ∀ r, row = some r → D ≤ r ∧ ∃ o : Obj, A.heap[r]? = some o ∧ o.isCells = false) : Box B Bx t cs :=
  (hg.block Bx h.lt (fun e => by
    obtain ⟨-, o, ho, hc⟩ := hr Bx e.symm
    have h1 : A.heap[Bx]? = some (.cells cs t (0, 0)) := h
    rw [h1] at ho
    injection ho with ho
    subst ho
    cases hc)).trans h
def RunPost (w : World) (n m a : Int) (es : List Ed) (zs os : List Int) (e : Ending) (w' : World) : Prop :=
  ∃ v, e = .returned (.tuple #[.agg #[.int .i64 (rsM n es m a zs os), .int .i64 (rsA n es m a zs os), v], .bool (rsB n es m a zs os)]) ∧ OwnV w w' v (rsL n es m a zs os) ∧ okS v ∧ Below w.heap.size w w'
theorem runPost_no {w w' : World} {n m a : Int} {es : List Ed} {zs os : List Int} (h : rsB n es m a zs os = false) (h1 : OwnV w w' (.slice none 0 0) [] ∧ okS (.slice none 0 0) ∧ Below w.heap.size w w') :
    RunPost w n m a es zs os (.returned (.tuple #[.agg #[.int .i64 0, .int .i64 0, .slice none 0 0], .bool false])) w' := by
  unfold RunPost rsM rsA rsL
  rw [h, if_neg (by decide), if_neg (by decide), if_neg (by decide)]
  exact ⟨_, rfl, h1⟩

set_option maxRecDepth 20000 in
set_option maxHeartbeats 2000000 in
theorem runNo1 (n m a : Int) (es : List Ed) (zs os : List Int) (s t o : Value) (w : World) (hs : RowE w s es) (ht : Row w t zs) (hl : es.length ≤ 281474976710656) (hl2 : zs.length ≤ 281474976710656) (hV : vVal n es m a zs = false) :
    Calls Try.prog 9 #[.agg #[.int .i64 n, s], .agg #[.int .i64 m, .int .i64 a, t], o] w (RunPost w n m a es zs os) := by
  have ho := fun w' (h : Below w.heap.size w w') => opsOfView n m a es zs s t w' (hs.keep h) (ht.keep h) hl hl2
  rw [hV, show opsR m false = .nilIface from rfl] at ho
  have HP := Lib.hid (fun w' h => runPost_no (w := w) (w' := w') (n := n) (m := m) (a := a) (es := es) (zs := zs) (os := os) (by unfold rsB; rw [hV]; rfl) h)
  have HO := Lib.hid ho
  obtain ⟨ad, cap, rfl, hz0⟩ := hs
  obtain ⟨ad2, cap2, rfl, hy0⟩ := ht
  have hb0 := B3.new w n (.slice ad es.length cap) m a (.slice ad2 zs.length cap2)
  clear hz0 hy0 ho hV
  go_enter Try.func9, Try.ntmps9
  go_wp2_with fail
  generalize (((w.alloc (.cells #[.int .i64 n, .slice ad es.length cap] 25)).alloc (.cells #[.int .i64 m, .int .i64 a, .slice ad2 zs.length cap2] 33)).alloc (.cells #[.int .i64 0, .int .i64 0, .slice none 0 0] 33)) = W1 at hb0 ⊢
  refine (HO.out _ hb0.bel).mono ?_
  rintro e w1 ⟨rfl, hb1⟩
  have h1 := hb0.keep hb1
  have HA' := Lib.hid (h1.keep ((Below.refl _ w1).alloc (Nat.le_refl _) (.cells #[.nilIface] 46)))
  have hlt := h1.lt
  obtain ⟨-, -, ⟨r0, r1, r2⟩, q0, q1, q2⟩ := h1.cells
  obtain ⟨-, -, ⟨r3, r4, r5⟩, q3, q4, q5⟩ := HA'.out.cells
  clear hb0 h1 hb1
  go_wp2
  try simp only [Exit.inBlock, Exit.then]
  refine bodyPost_ret (v := .tuple #[.agg #[.int .i64 0, .int .i64 0, .slice none 0 0], .bool false]) ?_ rfl ?_
  · rw [results_cell_tmp rfl]
    go_simp
  exact HP.out _ (HA'.out.out0 _ _ _)

set_option maxRecDepth 20000 in
set_option maxHeartbeats 2000000 in
theorem runNo2 (n m a : Int) (es : List Ed) (zs os : List Int) (s t o : Value) (w : World) (hs : RowE w s es) (ht : Row w t zs) (hq : Row w o os) (hl : es.length ≤ 281474976710656) (hl2 : zs.length ≤ 281474976710656) (hl3 : os.length ≤ 281474976710656) (hV : vVal n es m a zs = true) (hO : oOk es.length os = false) :
    Calls Try.prog 9 #[.agg #[.int .i64 n, s], .agg #[.int .i64 m, .int .i64 a, t], o] w (RunPost w n m a es zs os) := by
  have ho := fun w' (h : Below w.heap.size w w') => opsOfView n m a es zs s t w' (hs.keep h) (ht.keep h) hl hl2
  obtain ⟨T, rv, fn, fe, fb, fo, fj, rn, re, rb, ro, rj, D⟩ := disp (vVal_use hV).1
  rw [hV, show opsR m true = opsV m from rfl, D.val] at ho
  have HP := Lib.hid (fun w' h => runPost_no (w := w) (w' := w') (n := n) (m := m) (a := a) (es := es) (zs := zs) (os := os) (by unfold rsB; rw [hV, hO]; rfl) h)
  have HO := Lib.hid ho
  obtain ⟨ad, cap, rfl, hz0⟩ := hs
  obtain ⟨ad2, cap2, rfl, hy0⟩ := ht
  have hov := fun w' (h : Below w.heap.size w w') => orderValid n es os ad cap o w' (hq.keep h) hl hl3
  rw [hO] at hov
  have HOV := Lib.hid hov
  obtain ⟨ad3, cap3, rfl, hx0⟩ := hq
  have hb0 := B3.new w n (.slice ad es.length cap) m a (.slice ad2 zs.length cap2)
  clear hz0 hy0 hx0 ho hov hV hO D
  go_enter Try.func9, Try.ntmps9
  go_wp2_with fail
  generalize (((w.alloc (.cells #[.int .i64 n, .slice ad es.length cap] 25)).alloc (.cells #[.int .i64 m, .int .i64 a, .slice ad2 zs.length cap2] 33)).alloc (.cells #[.int .i64 0, .int .i64 0, .slice none 0 0] 33)) = W1 at hb0 ⊢
  refine (HO.out _ hb0.bel).mono ?_
  rintro e w1 ⟨rfl, hb1⟩
  have hA := (hb0.keep hb1).keep ((Below.refl _ w1).alloc (Nat.le_refl _) (.cells #[.iface T rv] 46))
  have HA := Lib.hid hA
  have hlt := hA.lt
  obtain ⟨⟨g0, g1⟩, -, -, -⟩ := hA.cells
  clear hb0 hb1 hA
  go_wp2_with fail
  generalize (w1.alloc (.cells #[.iface T rv] 46)) = W2 at HA g0 g1 hlt ⊢
  refine (HOV.out _ HA.out.bel).mono ?_
  rintro e w2 ⟨rfl, hb2⟩
  have hA2 := HA.out.keep hb2
  have HA2 := Lib.hid hA2
  have hlt2 := hA2.lt
  obtain ⟨-, -, ⟨r0, r1, r2⟩, q0, q1, q2⟩ := hA2.cells
  clear hA2 hb2 g0 g1 hlt
  go_wp2
  try simp only [Exit.inBlock, Exit.then]
  refine bodyPost_ret (v := .tuple #[.agg #[.int .i64 0, .int .i64 0, .slice none 0 0], .bool false]) ?_ rfl ?_
  · rw [results_cell_tmp rfl]
    go_simp
  exact HP.out _ (HA2.out.out0 _ _ _)

/-- What comes out of edges one by one. -/
def runN {N : Nat} (m : Int) (zs : List Int) (pre : List (EdN N)) : List Int := (pre.map edV).foldl (vOne m) zs
theorem runN_snoc {N : Nat} (m : Int) (zs : List Int) (pre : List (EdN N)) (x : EdN N) : runN m zs (pre ++ [x]) = vOne m (runN m zs pre) (edV x) := by simp [runN]
theorem runN_length {N : Nat} (m : Int) (zs : List Int) (pre : List (EdN N)) : (runN m zs pre).length = zs.length := by
  unfold runN
  generalize pre.map edV = es
  induction es generalizing zs with
  | nil => rfl
  | cons e es ih => rw [List.foldl_cons, ih, vOne_length]
theorem runN_all {N : Nat} {m : Int} (hm : mKind m = true) {zs : List Int} (hv : vAll m zs) (hN : zs.length = N) (pre : List (EdN N)) : vAll m (runN m zs pre) := by
  unfold runN
  induction pre generalizing zs with
  | nil => exact hv
  | cons e es ih =>
    rw [List.map_cons, List.foldl_cons]
    refine ih (vOne_all hm hv ?_ e.2.2.2) (by rw [vOne_length]; exact hN)
    rw [hN]
    simpa [edV] using e.2.1
theorem runN_run {N : Nat} {m : Int} {es : List Ed} {zs os : List Int} {ys : List (EdN N)} (h : ys.map edV = os.map (eAt es)) : runN m zs ys = vRun m es zs os := by
  unfold runN vRun
  rw [h, List.foldl_map]
theorem eioStops (F : Fence) (n : Nat) (hF : F.fn 39) (hro : F.round = none) (hn : 1 ≤ n) (Bo Be b N : Nat) (os : List Int) (es : List Ed) (so se : Value) (hos : ∀ i ∈ os, oIn es.length i = true) (he : eAll N es) (hl5 : os.length ≤ 500) (hl4 : es.length ≤ 1048576) (w : World) (hE : EIO Bo Be os es so se b w.heap.size w) :
    SeqStopsK F n Try.prog 39 #[.pointer (some ⟨Bo, 0, none⟩), .pointer (some ⟨Be, 0, none⟩)] (fun x : EdN N => #[edA x]) (KpB b w.heap.size) (fun ys => ys.map edV = os.map (eAt es)) (fun _ => True) os.length w := fun l J Jx W hW _ _ hY h0 =>
  eioRun F n hF hro hn l Bo Be b w.heap.size N os es so se hos he hl5 hl4 J Jx hY W (hE.kept (KpB.of_below hW (Nat.le_refl _))) h0
theorem edgesInOrder (os es : Value) (w : World) (h1 : ∃ a n c, es = .slice a n c) (h2 : ∃ a n c, os = .slice a n c) :
    Calls Try.prog 22 #[es, os] w fun e w' => e = .returned (.func (.func 39) #[] #[.pointer (some ⟨w.heap.size + 1, 0, none⟩), .pointer (some ⟨w.heap.size, 0, none⟩)]) ∧ (w.alloc (.cells #[es] 23)).alloc (.cells #[os] 26) = w' := by
  have hmf : ∀ (fn : Fn) (first cap : Array Value) (w : World), (Instr.makeFunc fn first cap).run Try.prog w = .ok (.func fn first cap) w := fun _ _ _ _ => rfl
  obtain ⟨a1, n1, c1, rfl⟩ := h1
  obtain ⟨a2, n2, c2, rfl⟩ := h2
  go_enter Try.func22, Try.ntmps22
  go_wp2
  go_ret
  exact ⟨rfl, rfl⟩

set_option maxRecDepth 100000 in
set_option maxHeartbeats 4000000 in
theorem runYes (n m a : Int) (es : List Ed) (zs os : List Int) (s t o : Value) (w : World) (hs : RowE w s es) (ht : Row w t zs) (hq : Row w o os) (hl : es.length ≤ 281474976710656) (hl2 : zs.length ≤ 281474976710656) (hl3 : os.length ≤ 281474976710656) (hV : vVal n es m a zs = true) (hO : oOk es.length os = true) :
    Calls Try.prog 9 #[.agg #[.int .i64 n, s], .agg #[.int .i64 m, .int .i64 a, t], o] w (RunPost w n m a es zs os) := by
  have ho := fun w' (h : Below w.heap.size w w') => opsOfView n m a es zs s t w' (hs.keep h) (ht.keep h) hl hl2
  obtain ⟨hm, h0, h12, h40, hv, he⟩ := vVal_use hV
  have hrx : ∀ (L : List Int) (b off cap X Y : Nat) (z : Int) (w' : World), L.length = zs.length → Wr w' b off L → X < zs.length → Y < zs.length → vAll m L → mWeight z = true → Calls Try.prog 23 #[opsV m, .slice (some ⟨b, off, none⟩) zs.length cap, .agg #[.int .i64 X, .int .i64 Y, .int .i64 z]] w' fun e w'' => (∃ q, e = .returned (.bool q)) ∧ Wr w'' b off (vOne m L (X, Y, z)) ∧ Chg b (b + 1) w' w'' := fun L b off cap X Y z w' hL h1 hX hY h2 h3 => by
    have h := relax m L b off cap X Y z w' hm h1 (by omega) (by omega) (by omega) h2 h3
    rw [hL] at h
    exact h.mono fun e w'' h => ⟨⟨_, h.1⟩, h.2⟩
  have hcl := fun w' (h : Below w.heap.size w w') => clone zs t w' (ht.keep h) h0 (by omega)
  obtain ⟨T, rv, fn, fe, fb, fo, fj, rn, re, rb, ro, rj, D⟩ := disp hm
  rw [D.val] at hrx
  rw [hV, show opsR m true = opsV m from rfl, D.val] at ho
  have HO := Lib.hid ho
  have HRX := Lib.hid hrx
  have HCL := Lib.hid hcl
  have HE := Lib.hid he
  have HV := Lib.hid hv
  have HM := Lib.hid hm
  have HRO := Lib.hid hs
  have HRQ := Lib.hid hq
  have hout : rsM n es m a zs os = m ∧ rsA n es m a zs os = a ∧ rsL n es m a zs os = vRun m es zs os ∧ rsB n es m a zs os = true := by
    have h : rsB n es m a zs os = true := by unfold rsB; rw [hV, hO]; rfl
    unfold rsM rsA rsL
    rw [if_pos h, if_pos h, if_pos h]
    exact ⟨rfl, rfl, rfl, h⟩
  have HOUT := Lib.hid hout
  have HOA := Lib.hid (And.intro (oOk_all hO) (oOk_len hO))
  obtain ⟨ad, cap, rfl, hz0⟩ := hs
  obtain ⟨ad2, cap2, rfl, hy0⟩ := ht
  have hov := fun w' (h : Below w.heap.size w w') => orderValid n es os ad cap o w' (hq.keep h) hl hl3
  rw [hO] at hov
  have HOV := Lib.hid hov
  obtain ⟨ad3, cap3, rfl, hx0⟩ := hq
  have hb0 := B3.new w n (.slice ad es.length cap) m a (.slice ad2 zs.length cap2)
  clear hz0 hy0 hx0 ho hov hV hO D hrx hcl he hv hm hout
  refine (callsIn_wide (n := 9)).1 ?_
  refine callsIn_of_wp_marks Try.func9 rfl trivial ?_ rfl
  simp only [Try.ntmps9, List.size_toArray, List.length_cons, List.length_nil, Nat.reduceAdd, Nat.reduceSub, Array.replicate_succ, Array.replicate_zero, List.push_toArray, List.append_toArray, List.nil_append, List.cons_append]
  gi_wp2_with (fail)
  generalize (((w.alloc (.cells #[.int .i64 n, .slice ad es.length cap] 25)).alloc (.cells #[.int .i64 m, .int .i64 a, .slice ad2 zs.length cap2] 33)).alloc (.cells #[.int .i64 0, .int .i64 0, .slice none 0 0] 33)) = W1 at hb0 ⊢
  refine ⟨trivial, (callsIn_wide.2 (HO.out _ hb0.bel)).mono ?_⟩
  rintro e w1 ⟨rfl, hb1⟩
  have hA := (hb0.keep hb1).keep ((Below.refl _ w1).alloc (Nat.le_refl _) (.cells #[.iface T rv] 46))
  have hbo := Box.new w1 46 #[.iface T rv]
  have HA := Lib.hid (And.intro hA hbo)
  have hlt := hA.lt
  obtain ⟨⟨g0, g1⟩, -, -, -⟩ := hA.cells
  clear hb0 hb1 hA hbo
  gi_wp2_with (fail)
  generalize (w1.alloc (.cells #[.iface T rv] 46)) = W2 at HA g0 g1 hlt ⊢
  refine ⟨trivial, (callsIn_wide.2 (HOV.out _ HA.out.1.bel)).mono ?_⟩
  rintro e w2 ⟨rfl, hb2⟩
  have hA2 := HA.out.1.keep hb2
  have HA2 := Lib.hid (And.intro hA2 (HA.out.2.keep hb2))
  have hlt2 := hA2.lt
  obtain ⟨⟨g2, g3⟩, ⟨v0, v1, v2⟩, -, -⟩ := hA2.cells
  clear hA2 hb2 g0 g1 hlt
  gi_wp2_with (fail)
  refine ⟨trivial, (callsIn_wide.2 (HCL.out _ HA2.out.1.bel)).mono ?_⟩
  rintro e w3 ⟨v, rfl, hown, hok, hb3⟩
  obtain ⟨b, off, cp, rfl, hbb, hwr⟩ := hown.wr h0
  have hbA : Below w3.heap.size w3 (w3.alloc (.cells #[.slice (some ⟨b, off, none⟩) zs.length cp] 26)) := (Below.refl _ _).alloc (Nat.le_refl _) _
  have hA3 := (HA2.out.1.keep hb3).keep hbA
  have HA3 := Lib.hid (And.intro hA3 (And.intro ((HA2.out.2.keep hb3).keep hbA) (And.intro (hwr.keep hbA) (And.intro (Box.new w3 26 #[.slice (some ⟨b, off, none⟩) zs.length cp]) hok))))
  have hlt3 := hA3.lt
  have hs23 := hb3.size
  have hbo3 := HA2.out.2.lt
  have hbw3 := hwr.1
  obtain ⟨⟨g4, g5⟩, ⟨v3, v4, v5⟩, -, -⟩ := hA3.cells
  have hs34 : w3.heap.size < (w3.alloc (.cells #[.slice (some ⟨b, off, none⟩) zs.length cp] 26)).heap.size := by simp
  clear hA3 hb3 g2 g3 v0 v1 v2 hown hok hwr hbA
  gi_wp2_with (fail)
  generalize (w3.alloc (.cells #[.slice (some ⟨b, off, none⟩) zs.length cp] 26)) = W3 at HA3 g4 g5 v3 v4 v5 hlt3 hs34 ⊢
  refine ⟨trivial, (callsIn_wide.2 (edgesInOrder _ _ _ ⟨_, _, _, rfl⟩ ⟨_, _, _, rfl⟩)).mono ?_⟩
  rintro e w4 ⟨rfl, hw4⟩
  subst hw4
  gi_wp2_with (fail)
  have hbA4 : Below W3.heap.size W3 ((W3.alloc (.cells #[.slice ad es.length cap] 23)).alloc (.cells #[.slice ad3 os.length cap3] 26)) := ((Below.refl _ _).alloc (Nat.le_refl _) _).alloc (by simp) _
  have hb4 : B3 w n (.slice ad es.length cap) m a (.slice ad2 zs.length cap2) ((W3.alloc (.cells #[.slice ad es.length cap] 23)).alloc (.cells #[.slice ad3 os.length cap3] 26)) := HA3.out.1.keep hbA4
  have hbe : Box ((W3.alloc (.cells #[.slice ad es.length cap] 23)).alloc (.cells #[.slice ad3 os.length cap3] 26)) W3.heap.size 23 #[.slice ad es.length cap] := (Box.new _ _ _).alloc _
  have hbo : Box ((W3.alloc (.cells #[.slice ad es.length cap] 23)).alloc (.cells #[.slice ad3 os.length cap3] 26)) (W3.heap.size + 1) 26 #[.slice ad3 os.length cap3] := by have := Box.new (W3.alloc (.cells #[.slice ad es.length cap] 23)) 26 #[.slice ad3 os.length cap3]; simpa using this
  have hsz : ((W3.alloc (.cells #[.slice ad es.length cap] 23)).alloc (.cells #[.slice ad3 os.length cap3] 26)).heap.size = W3.heap.size + 2 := by simp
  have hop := HA3.out.2.1.keep hbA4
  have hwr := HA3.out.2.2.1.keep hbA4
  have hvb := HA3.out.2.2.2.1.keep hbA4
  generalize ((W3.alloc (.cells #[.slice ad es.length cap] 23)).alloc (.cells #[.slice ad3 os.length cap3] 26)) = W4 at hbA4 hb4 hbe hbo hsz hop hwr hvb ⊢
  have hbn : w.heap.size + 3 ≤ b := by omega
  have hbD : b < W4.heap.size := by omega
  have hbo3' : w1.heap.size ≠ b := by omega
  have hvb' : w3.heap.size ≠ b := by omega
  have hE : EIO (W3.heap.size + 1) W3.heap.size os es (.slice ad3 os.length cap3) (.slice ad es.length cap) b W4.heap.size W4 := by
    refine ⟨hbo, hbe, ⟨by omega, by omega⟩, ⟨by omega, by omega⟩, ?_, ?_⟩
    · obtain ⟨a9, c9, h9, r9⟩ := HRQ.out
      refine ⟨a9, c9, h9, ?_⟩
      rcases r9 with r9 | ⟨p, q, rfl, hp, hc⟩
      · exact .inl r9
      · exact .inr ⟨p, q, rfl, by omega, by omega, fun i hi => (hb4.bel.cell (p := ⟨p, _, none⟩) hp).trans (hc i hi)⟩
    · obtain ⟨a9, c9, h9, r9⟩ := HRO.out
      refine ⟨a9, c9, h9, ?_⟩
      rcases r9 with r9 | ⟨p, q, rfl, hp, hc⟩
      · exact .inl r9
      · exact .inr ⟨p, q, rfl, by omega, by omega, fun i hi => ⟨(hb4.bel.cell (p := ⟨p, _, none⟩) hp).trans (hc i hi).1, (hb4.bel.cell (p := ⟨p, _, none⟩) hp).trans (hc i hi).2.1, (hb4.bel.cell (p := ⟨p, _, none⟩) hp).trans (hc i hi).2.2⟩⟩
  have HE4 := Lib.hid hE
  have HB4 := Lib.hid (And.intro hb4 (And.intro hop hvb))
  have HWR4 := Lib.hid hwr
  clear hbA4 hbe hbo hE g4 g5 v3 v4 v5 hb4 hop hvb hwr
  refine wpIn_rangeFunc_ownH (α := EdN zs.length) rfl (by omega) (gf := 39) (lb := #[.pointer (some ⟨W3.heap.size + 1, 0, none⟩), .pointer (some ⟨W3.heap.size, 0, none⟩)]) rfl trivial (enters_of Try.func39 (by kernel_rfl) rfl)
    (eioStops Fence.wide 8 trivial rfl (by omega) (W3.heap.size + 1) W3.heap.size b zs.length os es _ _ HOA.out.1 HE.out HOA.out.2 (by omega) W4 HE4.out) KpB.t KpB.b (Below.refl _ _) (fun _ => rfl)
    (fun pre W => KpB b W4.heap.size W4 W ∧ (Wr W b off (runN m zs pre) ∧ Below w.heap.size w W))
    (fun _ _ _ => False)
    (OwnFrom.and (kpB_own (Nat.le_refl _)) (OwnFrom.and (wr_own hbD _) (ownFrom_below (Nat.le_refl _) (by omega))))
    (fun _ _ _ _ _ hs _ _ => hs)
    ⟨⟨Nat.le_refl _, fun _ _ _ => rfl⟩, HWR4.out, HB4.out.1.bel⟩
    (fun x a' W => ∃ Bx, W4.heap.size ≤ Bx ∧ Box W Bx 56 #[.int .i64 x.1.1, .int .i64 x.1.2.1, .int .i64 x.1.2.2] ∧ a' = { tmps := #[.agg #[.int .i64 n, .slice ad es.length cap], .agg #[.int .i64 m, .int .i64 a, .slice ad2 zs.length cap2], .slice ad3 os.length cap3, .pointer (some ⟨w.heap.size, 0, none⟩), .pointer (some ⟨w.heap.size + 1, 0, none⟩), undef, .pointer (some ⟨w.heap.size + 1 + 1, 0, none⟩), .bool false, .pointer (some ⟨w1.heap.size, 0, none⟩), .bool true, .pointer (some ⟨w3.heap.size, 0, none⟩), .pointer (some ⟨Bx, 0, none⟩), .tuple #[.iface T rv, .bool true], .agg #[.int .i64 n, .slice ad es.length cap], .agg #[.int .i64 m, .int .i64 a, .slice ad2 zs.length cap2], .tuple #[.iface T rv, .bool true], .iface T rv, .bool true, .bool true, .bool false, .bool false, .agg #[.int .i64 n, .slice ad es.length cap], .slice ad3 os.length cap3, .bool true, .bool false, .bool false, undef, .pointer (some ⟨w.heap.size + 1, 2, none⟩), .slice ad2 zs.length cap2, .slice (some ⟨b, off, none⟩) zs.length cp, .pointer (some ⟨w.heap.size, 1, none⟩), .slice ad es.length cap, .slice ad3 os.length cap3, .func (.func 39) #[] #[.pointer (some ⟨W3.heap.size + 1, 0, none⟩), .pointer (some ⟨W3.heap.size, 0, none⟩)], edA x, undef, undef, undef, undef, undef, undef, undef, undef, undef, undef], defers := [] })
    (fun x a' _ X Y row hs hg hr => by obtain ⟨Bx, h1, h2, h3⟩ := hs; exact ⟨Bx, h1, box_own h2 hg hr, h3⟩)
    ?assign ?body ?done ?stop
  case assign =>
    rintro l pre x W K ⟨hk, hw, hbl⟩ hK
    have hal : Below W.heap.size W (W.alloc (.cells #[.int .i64 x.1.1, .int .i64 x.1.2.1, .int .i64 x.1.2.2] 56)) := (Below.refl _ _).alloc (Nat.le_refl _) _
    have HK := Lib.hid hK
    have HH := Lib.hid (And.intro hk (And.intro hw (And.intro hbl hal)))
    clear hK hk hw hbl hal
    unfold edA
    gi_wp2
    exact HK.out _ _ ((KeepsOthers.alloc _ _).from _) (KpB.of_below HH.out.2.2.2 HH.out.1.1) ⟨HH.out.1.t (KpB.of_below HH.out.2.2.2 HH.out.1.1), HH.out.2.1.keep HH.out.2.2.2, HH.out.2.2.1.alloc HH.out.2.2.1.size _⟩ ⟨W.heap.size, HH.out.1.1, Box.new W _ _, rfl⟩
  case body =>
    rintro l pre ⟨⟨X, Y, z⟩, hX, hY, hwz⟩ a' W hl ⟨r, hr⟩ ⟨hk, hw, hbl⟩ ⟨Bx, hBx, bX, rfl⟩ hlt
    simp only at bX
    have hN : (runN m zs pre).length = zs.length := runN_length m zs pre
    have hcall := HRX.out (runN m zs pre) b off cp X Y z W hN hw hX hY (runN_all HM.out HV.out rfl pre) hwz
    have hop := hk.box (by omega) hbo3' HB4.out.2.1
    have hvb := hk.box (by omega) hvb' HB4.out.2.2
    have o0 : W.cell? ⟨w1.heap.size, 0, none⟩ = some (.iface T rv) := by simpa using hop.cell 0
    have y0 : W.cell? ⟨w3.heap.size, 0, none⟩ = some (.slice (some ⟨b, off, none⟩) zs.length cp) := by simpa using hvb.cell 0
    have e0 : W.cell? ⟨Bx, 0, none⟩ = some (.int .i64 X) := by simpa using bX.cell 0
    have e1 : W.cell? ⟨Bx, 1, none⟩ = some (.int .i64 Y) := by simpa using bX.cell 1
    have e2 : W.cell? ⟨Bx, 2, none⟩ = some (.int .i64 z) := by simpa using bX.cell 2
    have HC := Lib.hid hcall
    have HH := Lib.hid (And.intro hk (And.intro hw hbl))
    have hsz9 := hk.1
    clear hcall hk hw hbl hop hvb bX hN
    unfold edA
    gi_wp2_with (fail)
    refine ⟨trivial, (CallsIn.inRound l (callsIn_wide.2 HC.out)).mono ?_⟩
    rintro e w5 ⟨⟨q, rfl⟩, hw5, hc5⟩
    have HC5 := Lib.hid (And.intro hw5 hc5)
    clear hw5 hc5
    gi_wp2
    exact ⟨⟨HC5.out.2.size, fun k o hk9 ho _ => (HC5.out.2.block k (Array.getElem?_eq_some_iff.1 ho).1 (.inr (by omega))).trans ho⟩, KpB.of_chg HC5.out.2 hsz9, HH.out.1.t (KpB.of_chg HC5.out.2 hsz9), by rw [runN_snoc]; exact HC5.out.1, bel_chg HH.out.2.2 HC5.out.2 (by omega)⟩
  case done =>
    rintro D xs W hD hxs ⟨hk, hw, hbl⟩ hK
    have hrun : runN m zs xs = vRun m es zs os := runN_run hxs
    have hgv := hk.box (by omega) (by omega) HB4.out.1.v
    have hgr := hk.box (by omega) (by omega) HB4.out.1.r
    have hvb := hk.box (by omega) hvb' HB4.out.2.2
    have hgg := hk.box (by omega) (by omega) HB4.out.1.g
    have hb9 : B3 w n (.slice ad es.length cap) m a (.slice ad2 zs.length cap2) W := ⟨hbl, hgg, hgv, hgr⟩
    obtain ⟨-, ⟨v0, v1, v2⟩, ⟨r0, r1, r2⟩, q0, q1, q2⟩ := hb9.cells
    have y0 : W.cell? ⟨w3.heap.size, 0, none⟩ = some (.slice (some ⟨b, off, none⟩) zs.length cp) := by simpa using hvb.cell 0
    have HH := Lib.hid (And.intro hb9 (And.intro hw hK))
    have HRUN := Lib.hid hrun
    have hsz9 := hk.1
    clear hk hw hbl hK hrun hgv hgr hvb hgg hb9 hxs
    gi_wp2
    have hK9 : (((W.setCell ⟨w.heap.size + 1 + 1, 0, none⟩ (.int .i64 m)).setCell ⟨w.heap.size + 1 + 1, 1, none⟩ (.int .i64 a)).setCell ⟨w.heap.size + 1 + 1, 2, none⟩ (.slice (some ⟨b, off, none⟩) zs.length cp)).heap[D]? = some (.deferred (some [])) := (KeepsOthers.setCell _ _ _).same D _ ((KeepsOthers.setCell _ _ _).same D _ ((KeepsOthers.setCell _ _ _).same D _ HH.out.2.2 rfl) rfl) rfl
    refine ⟨by simp, .inl ⟨_, _, rfl, run_takeDeferred hK9, ?_⟩⟩
    have hbx9 := ((HH.out.1.r.set 0 (.int .i64 m)).set 1 (.int .i64 a)).set 2 (.slice (some ⟨b, off, none⟩) zs.length cp)
    have hlr : (runN m zs xs).length = zs.length := runN_length m zs xs
    have hown := (HH.out.2.1.own (w := w) (cap := cp) (by omega))
    rw [hlr] at hown
    have hrow : InR true W b (b + 1) (.slice (some ⟨b, off, none⟩) zs.length cp) (runN m zs xs).length 1 (cellI (runN m zs xs)) :=
      ⟨_, cp, by rw [hlr], .inr ⟨b, off, rfl, Nat.le_refl _, Nat.lt_succ_self _, HH.out.2.1.1, fun i hi => ⟨(HH.out.2.1.2 i (by omega)).1, fun _ => (HH.out.2.1.2 i (by omega)).2⟩⟩⟩
    have hout := HH.out.1.out hrow (by omega) HH.out.2.1.1 (.int .i64 m) (.int .i64 a) (.slice (some ⟨b, off, none⟩) zs.length cp)
    have hw9 := HH.out.2.1.chg (HH.out.1.chg (.int .i64 m) (.int .i64 a) (.slice (some ⟨b, off, none⟩) zs.length cp)) (.inr (by omega))
    have hputs := chg_put (((W.setCell ⟨w.heap.size + 1 + 1, 0, none⟩ (.int .i64 m)).setCell ⟨w.heap.size + 1 + 1, 1, none⟩ (.int .i64 a)).setCell ⟨w.heap.size + 1 + 1, 2, none⟩ (.slice (some ⟨b, off, none⟩) zs.length cp)) D (.deferred none)
    generalize (((W.setCell ⟨w.heap.size + 1 + 1, 0, none⟩ (.int .i64 m)).setCell ⟨w.heap.size + 1 + 1, 1, none⟩ (.int .i64 a)).setCell ⟨w.heap.size + 1 + 1, 2, none⟩ (.slice (some ⟨b, off, none⟩) zs.length cp)) = W9 at hbx9 hout hputs hw9 ⊢
    generalize W9.putObj D (.deferred none) = W10 at hputs ⊢
    have hbx := (hputs.block _ hbx9.lt (.inl (by omega))).trans hbx9
    have hbx' : Box W10 (w.heap.size + 1 + 1) 33 #[.int .i64 m, .int .i64 a, .slice (some ⟨b, off, none⟩) zs.length cp] := by unfold Box; simpa using hbx
    have z0 : W10.cell? ⟨w.heap.size + 1 + 1, 0, none⟩ = some (.int .i64 m) := by simpa using hbx'.cell 0
    have z1 : W10.cell? ⟨w.heap.size + 1 + 1, 1, none⟩ = some (.int .i64 a) := by simpa using hbx'.cell 1
    have z2 : W10.cell? ⟨w.heap.size + 1 + 1, 2, none⟩ = some (.slice (some ⟨b, off, none⟩) zs.length cp) := by simpa using hbx'.cell 2
    refine ⟨.tuple #[.agg #[.int .i64 m, .int .i64 a, .slice (some ⟨b, off, none⟩) zs.length cp], .bool true], ?_, ?_⟩
    · rw [results_cell_tmp rfl]
      go_simp
    · unfold RunPost
      rw [HOUT.out.1, HOUT.out.2.1, HOUT.out.2.2.1, HOUT.out.2.2.2, ← HRUN.out]
      have h2 := (hw9.chg hputs (.inl (by omega))).own (w := w) (cap := cp) (by omega)
      rw [hlr] at h2
      exact ⟨_, rfl, h2, HA3.out.2.2.2.2, bel_chg hout.2 hputs (by omega)⟩
  case stop =>
    rintro D c pre W _ _ h _
    exact h.elim

/-- RunSchedule, in the program. -/
theorem runSchedule (n m a : Int) (es : List Ed) (zs os : List Int) (s t o : Value) (w : World) (hs : RowE w s es) (ht : Row w t zs) (hq : Row w o os) (hl : es.length ≤ 281474976710656) (hl2 : zs.length ≤ 281474976710656) (hl3 : os.length ≤ 281474976710656) :
    Calls Try.prog 9 #[.agg #[.int .i64 n, s], .agg #[.int .i64 m, .int .i64 a, t], o] w (RunPost w n m a es zs os) := by
  cases hV : vVal n es m a zs
  · exact runNo1 n m a es zs os s t o w hs ht hl hl2 hV
  · cases hO : oOk es.length os
    · exact runNo2 n m a es zs os s t o w hs ht hq hl hl2 hl3 hV hO
    · exact runYes n m a es zs os s t o w hs ht hq hl hl2 hl3 hV hO
end Go.Proofs.Ytnomlefjldfgiaa
namespace Go.Proofs.Ytnomlefjldfgiaa
open Go.RowKit Go.BigFrame Go.Deep
set_option linter.unusedVariables false
set_option linter.unusedSimpArgs false

theorem B3.chgK {w w1 w2 : World} {n m a : Int} {s t : Value} {lo hi : Nat} (h : B3 w n s m a t w1) (c : Chg lo hi w1 w2) (hlo : w.heap.size + 3 ≤ lo) : B3 w n s m a t w2 := by
  have hl := h.lt
  exact ⟨bel_chg h.bel c (by omega), (c.block _ h.g.lt (.inl (by omega))).trans h.g, (c.block _ h.v.lt (.inl (by omega))).trans h.v, (c.block _ h.r.lt (.inl (by omega))).trans h.r⟩
theorem oOk_one (l : Nat) (i : Int) : oOk l [i] = oIn l i := by simp [oOk]
theorem vRun_one (m : Int) (es : List Ed) (zs : List Int) (i : Int) : vRun m es zs [i] = vOne m zs (eAt es i) := rfl
theorem runPost_yes {w w' : World} {n m a : Int} {es : List Ed} {zs os : List Int} {v : Value} (h : rsB n es m a zs os = true) (h1 : OwnV w w' v (vRun m es zs os)) (h2 : okS v) (h3 : Below w.heap.size w w') :
    RunPost w n m a es zs os (.returned (.tuple #[.agg #[.int .i64 m, .int .i64 a, v], .bool true])) w' := by
  unfold RunPost rsM rsA rsL
  rw [h, if_pos rfl, if_pos rfl, if_pos rfl]
  exact ⟨_, rfl, h1, h2, h3⟩

end Go.Proofs.Ytnomlefjldfgiaa
namespace Go.Proofs.Ytnomlefjldfgiaa
open Go.RowKit Go.BigFrame Go.Deep
set_option linter.unusedVariables false
set_option linter.unusedSimpArgs false

/-- The view that is being relaxed: in a box at B, its values in memory of their own. -/
def OutV (w : World) (n : Int) (s : Value) (m a : Int) (t : Value) (B : Nat) (len : Nat) (zs : List Int) (wr : World) : Prop :=
  B3 w n s m a t wr ∧ ∃ va vc lo hi, Box wr B 33 #[.int .i64 m, .int .i64 a, .slice va len vc] ∧ InR true wr lo hi (.slice va len vc) len 1 (cellI zs) ∧ zs.length = len ∧ (w.heap.size + 3 ≤ lo ∧ w.heap.size + 3 ≤ B ∧ hi ≤ wr.heap.size ∧ (hi ≤ B ∨ B + 1 ≤ lo)) ∧ okS (.slice va len vc)

end Go.Proofs.Ytnomlefjldfgiaa
namespace Go.Proofs.Ytnomlefjldfgiaa
open Go.RowKit Go.BigFrame Go.Deep
set_option linter.unusedVariables false

theorem runScheduleU (n m a : Int) (es : List Ed) (zs os : List Int) (s t o : Value) (w : World) (hs : RowE w s es) (ht : Row w t zs) (hq : Row w o os) (hl : es.length ≤ 281474976710656) (hl2 : zs.length ≤ 281474976710656) (hl3 : os.length ≤ 281474976710656) :
    Calls Try.prog 9 #[.agg #[.int .i64 n, s], .agg #[.int .i64 m, .int .i64 a, t], o] w fun e w' =>
      ∃ v, e = .returned (.tuple #[.agg #[.int .i64 (rsM n es m a zs os), .int .i64 (rsA n es m a zs os), v], .bool (rsB n es m a zs os)]) ∧ OwnV w w' v (rsL n es m a zs os) ∧ okS v ∧ Below w.heap.size w w' := runSchedule n m a es zs os s t o w hs ht hq hl hl2 hl3
end Go.Proofs.Ytnomlefjldfgiaa
