/- The draws of a graph and an edge, in the model. -/
import Derived.Test.YtaoecegnjhbagaaCase2
import Derived.Test.YtaoecegnjhbagaaCase3
import Derived.Test.YtaoecegnjhbagaaDraws3
namespace Go.Proofs.Ytaoecegnjhbagaa
open Go.RowKit Go.BigFrame Go.Deep
set_option linter.unusedVariables false
set_option linter.unusedSimpArgs false
set_option linter.unnecessarySimpa false
theorem drawnC2_out {w w0 w1 : World} {n x y z : Int} {es : List Ed} {v : Value} (hb : Below w.heap.size w w0) (hlt : w.heap.size + 1 < w0.heap.size) (hb1 : Below w0.heap.size w0 w1) (hl : es.length ≤ 41) (hrow : InR true w1 w0.heap.size w1.heap.size v es.length 3 (cellE es)) (hok : okS v) :
    DrawnC2 w (.returned (.tuple #[.agg #[.int .i64 n, v], .agg #[.int .i64 x, .int .i64 y, .int .i64 z]])) (((((w1.setCell ⟨w.heap.size, 0, none⟩ (.int .i64 n)).setCell ⟨w.heap.size, 1, none⟩ v).setCell ⟨w.heap.size + 1, 0, none⟩ (.int .i64 x)).setCell ⟨w.heap.size + 1, 1, none⟩ (.int .i64 y)).setCell ⟨w.heap.size + 1, 2, none⟩ (.int .i64 z)) := by
  refine ⟨n, es, v, x, y, z, rfl, hl, ?_, hok, (((((bel_trans hb hb1).setCell (by simp) _).setCell (by simp) _).setCell (by simp) _).setCell (by simp) _).setCell (by simp) _⟩
  have h1 := ((((hrow.set8 (B := w.heap.size) (k := 0) (u := .int .i64 n) (by omega)).set8 (B := w.heap.size) (k := 1) (u := v) (by omega)).set8 (B := w.heap.size + 1) (k := 0) (u := .int .i64 x) (by omega)).set8 (B := w.heap.size + 1) (k := 1) (u := .int .i64 y) (by omega)).set8 (B := w.heap.size + 1) (k := 2) (u := .int .i64 z) (by omega)
  exact h1.wider (by omega) (by simp) (Nat.le_refl _)
set_option maxHeartbeats 2000000 in
theorem dDrawPutEdge (a : Option Addr) (n cap : Nat) (w : World) (hb : Bytes w a n) (hcap : n ≤ cap) (hn : n ≤ 281474976710656) :
    Calls Try.prog 26 #[.slice a n cap] w (DrawnC2 w) := by
  have hbx := (Box.new w 25 #[.int .i64 0, .slice none 0 0]).alloc (.cells #[.int .i64 0, .int .i64 0, .int .i64 0] 46)
  have hby := Box.new (w.alloc (.cells #[.int .i64 0, .slice none 0 0] 25)) 46 #[.int .i64 0, .int .i64 0, .int .i64 0]
  rw [show (w.alloc (.cells #[.int .i64 0, .slice none 0 0] 25)).heap.size = w.heap.size + 1 by simp] at hby
  have hbl : Below w.heap.size w ((w.alloc (.cells #[.int .i64 0, .slice none 0 0] 25)).alloc (.cells #[.int .i64 0, .int .i64 0, .int .i64 0] 46)) := ((Below.refl _ _).alloc (Nat.le_refl _) _).alloc (by simp) _
  have HC := Lib.hid hb
  clear hb
  go_enter Try.func26, Try.ntmps26
  go_wp2_with fail
  generalize ((w.alloc (.cells #[.int .i64 0, .slice none 0 0] 25)).alloc (.cells #[.int .i64 0, .int .i64 0, .int .i64 0] 46)) = w0 at hbx hby hbl ⊢
  refine (l2Case a n cap w0 (HC.out.keepB hbl) hcap hn).mono ?_
  rintro e w1 ⟨n1, es, v, x, y, z, rfl, hl, hrow, hok, hb1⟩
  obtain ⟨va, vc, rfl, hz⟩ := id hrow
  have hB := hbx.keep hb1
  have hC := hby.keep hb1
  have r0 : w1.cell? ⟨w.heap.size, 0, none⟩ = some (.int .i64 0) := by simpa using hB.cell 0
  have r1 : w1.cell? ⟨w.heap.size, 1, none⟩ = some (.slice none 0 0) := by simpa using hB.cell 1
  have r2 := hB.frozen 0
  have r3 := hB.frozen 1
  have s0 : w1.cell? ⟨w.heap.size + 1, 0, none⟩ = some (.int .i64 0) := by simpa using hC.cell 0
  have s1 : w1.cell? ⟨w.heap.size + 1, 1, none⟩ = some (.int .i64 0) := by simpa using hC.cell 1
  have s2 : w1.cell? ⟨w.heap.size + 1, 2, none⟩ = some (.int .i64 0) := by simpa using hC.cell 2
  have t0 := hC.frozen 0
  have t1 := hC.frozen 1
  have t2 := hC.frozen 2
  have HR := Lib.hid (drawnC2_out (n := n1) (x := x) (y := y) (z := z) hbl hby.lt hb1 hl hrow hok)
  clear hz hrow hok hb1 hB hC hbx hby hbl
  go_wp2
  try simp only [Exit.inBlock, Exit.then]
  refine bodyPost_ret (v := .tuple #[.agg #[.int .i64 n1, .slice va es.length vc], .agg #[.int .i64 x, .int .i64 y, .int .i64 z]]) ?_ rfl HR.out
  rw [results_cc rfl]
  go_simp
theorem DrawnC3.drew9 {w w' : World} {e : Ending} (h : DrawnC3 w e w') : DrawnC3 w e w'.drew := by
  obtain ⟨n, es, v, m, a, h0, h1, h2, h3, h4⟩ := h
  exact ⟨n, es, v, m, a, h0, h1, InR.keep h2 ((Below.refl _ _).drew), h3, h4.drew⟩
end Go.Proofs.Ytaoecegnjhbagaa
