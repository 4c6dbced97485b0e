/- Edges in an order, one by one: the iterator. -/
import Derived.RangeFuncNested
import Derived.RangeFuncBound
import Derived.RangeFuncCalls
import Derived.RangeFuncLeaves
import Derived.Shelf.Abstract
import Derived.Shelf.RegionOpen
import Derived.WalkKit
import Derived.OwnWalkIn
import Derived.TacticsInMore
import Derived.LoopNIn
import Derived.LoopIn
import Derived.Test.YtgfipdompmkjiaaOneS
import Derived.Test.YtgfipdompmkjiaaLooseE
namespace Go.Proofs.Ytgfipdompmkjiaa
open Go.RowKit Go.Shelf Go.BigFrame Go.Deep
set_option linter.unusedVariables false
set_option linter.unusedSimpArgs false

/-- An edge of a graph with N nodes. -/
abbrev EdN (N : Nat) := { e : Nat × Nat × Int // e.1 < N ∧ e.2.1 < N ∧ mWeight e.2.2 = true }
def edV {N : Nat} (x : EdN N) : Ed := ((x.1.1 : Int), (x.1.2.1 : Int), x.1.2.2)
def edA {N : Nat} (x : EdN N) : Value := .agg #[.int .i64 x.1.1, .int .i64 x.1.2.1, .int .i64 x.1.2.2]
/-- What a round keeps: the blocks that were there, but for one. -/
def KpB (b D : Nat) (W W' : World) : Prop := W.heap.size ≤ W'.heap.size ∧ ∀ k, k < D → k ≠ b → W'.heap[k]? = W.heap[k]?
theorem KpB.t {b D : Nat} {A B C : World} (h : KpB b D A B) (k : KpB b D B C) : KpB b D A C := ⟨Nat.le_trans h.1 k.1, fun i hi hb => (k.2 i hi hb).trans (h.2 i hi hb)⟩
theorem KpB.b {b : Nat} {w : World} (W : World) (l : Nat) (o o' : Obj) (hl : w.heap.size ≤ l) (_ : W.heap[l]? = some o) (_ : o.isCells = false) (_ : o.isWalk = false) : KpB b w.heap.size W (W.putObj l o') :=
  ⟨by simp, fun k hk _ => World.putObj_heap_other (by omega)⟩
theorem KpB.of_below {b D : Nat} {W W' : World} (h : Below W.heap.size W W') (hD : D ≤ W.heap.size) : KpB b D W W' := ⟨h.size, fun k hk _ => h.block k (by omega)⟩
theorem KpB.of_chg {b D : Nat} {W W' : World} (h : Chg b (b + 1) W W') (hD : D ≤ W.heap.size) : KpB b D W W' := ⟨h.size, fun k hk hb => h.block k (by omega) (by omega)⟩
theorem KpB.cell {b D : Nat} {W W' : World} (h : KpB b D W W') {p : Addr} (hp : p.block < D) (hb : p.block ≠ b) : W'.cell? p = W.cell? p := World.cell?_of_block (h.2 _ hp hb)
theorem KpB.box {b D B : Nat} {W W' : World} {t : TypeId} {cs : Array Value} (h : KpB b D W W') (hp : B < D) (hb : B ≠ b) (k : Box W B t cs) : Box W' B t cs := (h.2 _ hp hb).trans k
theorem kpB_own {β : Type} {b D : Nat} {W0 : World} (hD : D ≤ W0.heap.size) : OwnFrom D (fun (_ : β) W => KpB b D W0 W) := fun s A B row hs hg hr =>
  ⟨Nat.le_trans hs.1 hg.size, fun k hk hb => (hg.block k (by have := hs.1; omega) (fun e => by have := (hr k e.symm).1; omega)).trans (hs.2 k hk hb)⟩
theorem wr_own {β : Type} {b off D : Nat} (hb : b < D) (f : β → List Int) : OwnFrom D (fun s W => Wr W b off (f s)) := fun s A B row hs hg hr => by
  have h1 : B.heap[b]? = A.heap[b]? := hg.block b hs.1 (fun e => by have := (hr b e.symm).1; omega)
  exact ⟨Nat.lt_of_lt_of_le hs.1 hg.size, fun i hi => by rw [World.cell?_of_block (a := ⟨b, off + i, none⟩) h1, World.frozen?_of_block (a := ⟨b, off + i, none⟩) h1]; exact hs.2 i hi⟩
theorem oIn_nat {l : Nat} {i : Int} (h : oIn l i = true) : ∃ I : Nat, i = I ∧ I < l := by
  simp only [oIn, Bool.and_eq_true, decide_eq_true_eq] at h
  exact ⟨i.toNat, by omega, by omega⟩
/-- What the iterator reads. -/
structure EIO (Bo Be : Nat) (os : List Int) (es : List Ed) (so se : Value) (b D : Nat) (W : World) : Prop where
  bo : Box W Bo 25 #[so]
  be : Box W Be 33 #[se]
  lo : Bo < D ∧ Bo ≠ b
  le : Be < D ∧ Be ≠ b
  ro : ∃ a cap, so = .slice a os.length cap ∧ (os = [] ∨ ∃ p off, a = some ⟨p, off, none⟩ ∧ p < D ∧ p ≠ b ∧ ∀ i, i < os.length → W.cell? ⟨p, off + i, none⟩ = some (.int .i64 (os.getD i 0)))
  re : ∃ a cap, se = .slice a es.length cap ∧ (es = [] ∨ ∃ p off, a = some ⟨p, off, none⟩ ∧ p < D ∧ p ≠ b ∧ ∀ i, i < es.length → W.cell? ⟨p, off + i * 3, none⟩ = some (.int .i64 (es.getD i (0, 0, 0)).1) ∧ W.cell? ⟨p, off + i * 3 + 1, none⟩ = some (.int .i64 (es.getD i (0, 0, 0)).2.1) ∧ W.cell? ⟨p, off + i * 3 + 2, none⟩ = some (.int .i64 (es.getD i (0, 0, 0)).2.2))
theorem EIO.kept {Bo Be : Nat} {os : List Int} {es : List Ed} {so se : Value} {b D : Nat} {W W' : World} (h : EIO Bo Be os es so se b D W) (k : KpB b D W W') : EIO Bo Be os es so se b D W' := by
  refine ⟨k.box h.lo.1 h.lo.2 h.bo, k.box h.le.1 h.le.2 h.be, h.lo, h.le, ?_, ?_⟩
  · obtain ⟨a, cap, e, r⟩ := h.ro
    refine ⟨a, cap, e, ?_⟩
    rcases r with r | ⟨p, off, e2, h1, h2, hc⟩
    · exact .inl r
    · exact .inr ⟨p, off, e2, h1, h2, fun i hi => (k.cell (p := ⟨p, _, none⟩) h1 h2).trans (hc i hi)⟩
  · obtain ⟨a, cap, e, r⟩ := h.re
    refine ⟨a, cap, e, ?_⟩
    rcases r with r | ⟨p, off, e2, h1, h2, hc⟩
    · exact .inl r
    · exact .inr ⟨p, off, e2, h1, h2, fun i hi => ⟨(k.cell (p := ⟨p, _, none⟩) h1 h2).trans (hc i hi).1, (k.cell (p := ⟨p, _, none⟩) h1 h2).trans (hc i hi).2.1, (k.cell (p := ⟨p, _, none⟩) h1 h2).trans (hc i hi).2.2⟩⟩

set_option maxRecDepth 20000 in
set_option maxHeartbeats 1000000 in
theorem eioRun (F : Fence) (n : Nat) (hF : F.fn 74) (hro : F.round = none) (hn : 1 ≤ n) (l Bo Be b D N : Nat) (os : List Int) (es : List Ed) (so se : Value) (hos : ∀ i ∈ os, oIn es.length i = true) (he : eAll N es) (hl5 : os.length ≤ 500) (hl4 : es.length ≤ 1048576) (J Jx : List (EdN N) → World → Prop)
    (hY : ∀ pre x W, J pre W → pre.length < os.length → YieldAt F (n - 1) Try.prog l #[edA x] W fun e W' =>
      (e = .returned (.bool true) ∧ J (pre ++ [x]) W' ∧ KpB b D W W') ∨ (e = .returned (.bool false) ∧ Jx (pre ++ [x]) W'))
    (W : World) (hE : EIO Bo Be os es so se b D W) (h0 : J [] W) :
    CallsIn F n Try.prog 74 #[.func (.yield l) #[] #[], .pointer (some ⟨Bo, 0, none⟩), .pointer (some ⟨Be, 0, none⟩)] W fun e W' => (∃ v, e = .returned v) ∧
      ((∃ ys, ys.map edV = os.map (eAt es) ∧ J ys W') ∨ (∃ pre, True ∧ Jx pre W')) := by
  have hE0 := hE
  obtain ⟨bo, be, lo, le, ⟨a, cap, rfl, hro'⟩, ⟨a2, cap2, rfl, hre⟩⟩ := hE
  have x0 : W.cell? ⟨Bo, 0, none⟩ = some (.slice a os.length cap) := by simpa using bo.cell 0
  have HE := Lib.hid hE0
  have HO := Lib.hid hro'
  have HR := Lib.hid hre
  have HOS := Lib.hid hos
  have HEA := Lib.hid he
  have HY := Lib.hid hY
  clear bo be hro' hre hE0 hos he hY
  refine callsIn_of_wp Try.func74 rfl hF ?_ hro
  simp only [Try.ntmps74, List.size_toArray, List.length_cons, List.length_nil, Nat.reduceAdd, Nat.reduceSub, Array.replicate_succ, Array.replicate_zero, List.push_toArray, List.append_toArray, List.nil_append, List.cons_append]
  gi_wp2
  gi_loopw [8] (fun c wr => ∃ (k : Nat) (pre : List (EdN N)), k ≤ os.length ∧ c = .int .i64 k ∧ Hid (pre.map edV = (os.take k).map (eAt es)) ∧ Hid (J pre wr) ∧ Hid (EIO Bo Be os es (.slice a os.length cap) (.slice a2 es.length cap2) b D wr)) (fun c _ => os.length - (intOf c).toNat)
  case atStart => exact ⟨0, [], Nat.zero_le _, rfl, Lib.hid (by simp), Lib.hid h0, HE⟩
  case round =>
    obtain ⟨k, pre, hk, rfl, HP, HJ, HX⟩ := hrel
    have hlen : pre.length = k := by have := congrArg List.length HP.out; simpa [Nat.min_eq_left hk] using this
    have HL := Lib.hid hlen
    clear hlen
    by_cases hlt : k < os.length
    · have hlt' : (k : Int) < os.length := by omega
      rcases HX.out.ro with ⟨a9, c9, hs9, hr9⟩
      injection hs9 with e1 e2 e3
      subst e1 e3
      rcases hr9 with h00 | ⟨p, off, rfl, hp1, hp2, hc⟩
      · rw [h00] at hlt; simp at hlt
      have hok := oIn_nat (HOS.out (os.getD k 0) (by simp [List.getD, hlt]))
      obtain ⟨I, hI, hIl⟩ := hok
      have hck := hc k hlt
      rw [hI] at hck
      obtain ⟨x, y, z, hx⟩ : ∃ x y z, (x, y, z) = es.getD I (0, 0, 0) := ⟨_, _, _, rfl⟩
      obtain ⟨X, Y, rfl, rfl, hX, hY', hwz⟩ := edge_nat HEA.out hIl hx
      rcases HX.out.re with ⟨a8, c8, hs8, hr8⟩
      injection hs8 with e1 e2 e3
      subst e1 e3
      rcases hr8 with h00 | ⟨p2, off2, rfl, hq1, hq2, hc2⟩
      · rw [h00] at hIl; simp at hIl
      have hce := hc2 I hIl
      rw [← hx] at hce
      simp only at hce
      have hbe : wr.cell? ⟨Be, 0, none⟩ = some (.slice (some ⟨p2, off2, none⟩) es.length cap2) := by simpa using HX.out.be.cell 0
      have hIl' : (I : Int) < es.length := by omega
      obtain ⟨fn, tmps, assign, body, hy, hR⟩ := HY.out pre ⟨(X, Y, z), hX, hY', hwz⟩ wr HJ.out (by have := HL.out; omega)
      have hy' : (Instr.yield l #[.agg #[.int .i64 X, .int .i64 Y, .int .i64 z]]).run Try.prog wr = .ok (.round l fn tmps assign body) wr := hy
      have hnext : Hid ((pre ++ [(⟨(X, Y, z), hX, hY', hwz⟩ : EdN N)]).map edV = (os.take (k + 1)).map (eAt es)) := Lib.hid (by
        rw [List.take_succ_eq_append_getElem hlt, List.map_append, List.map_append, HP.out]
        have h1 : os[k] = (I : Int) := by rw [← hI]; simp [List.getD, hlt]
        rw [h1]
        simp only [List.map_cons, List.map_nil, edV, eAt, Int.toNat_natCast, ← hx])
      have HRR := Lib.hid hR
      have hk1 : (k : Int) + 1 ≤ 9223372036854775807 := by omega
      clear hc hc2 hx hy hI hR
      gi_wp2
      refine HRR.out.mono ?_
      rintro e W3 (⟨rfl, hJ3, hk3⟩ | ⟨rfl, hJx3⟩)
      · have HJ3 := Lib.hid hJ3
        have HX3 := Lib.hid (HX.out.kept hk3)
        clear hJ3 hk3
        gi_wp2
        go_roundw
        case rel => exact ⟨k + 1, _, by omega, by go_num, hnext, HJ3, HX3⟩
        case measure => simp [intOf]; omega
      · have HJ3 := Lib.hid hJx3
        clear hJx3
        gi_wp2
        refine bodyPost_ret (results_none rfl _ _ _) rfl ?_
        exact ⟨⟨_, rfl⟩, .inr ⟨_, trivial, HJ3.out⟩⟩
    · have hke : k = os.length := by omega
      have hkk : ¬ ((k : Int) < os.length) := by omega
      have HK := Lib.hid hke
      clear hke
      gi_wp2
      go_end0
      exact ⟨⟨_, rfl⟩, .inl ⟨pre, by rw [HP.out, HK.out, List.take_length], HJ.out⟩⟩
end Go.Proofs.Ytgfipdompmkjiaa
