/- The draws of a graph and an edge, in the model. -/
import Derived.Test.YtfciilpcjahfoaaCase2
import Derived.Test.YtfciilpcjahfoaaCase3
import Derived.Test.YtfciilpcjahfoaaDraws3
namespace Go.Proofs.Ytfciilpcjahfoaa
open Go.RowKit Go.BigFrame Go.Deep
set_option linter.unusedVariables false
set_option linter.unusedSimpArgs false
set_option linter.unnecessarySimpa false
theorem drawnC2_out {w w0 w1 : World} {n x y z : Int} {es : List Ed} {v : Value} (hb : Below w.heap.size w w0) (hlt : w.heap.size + 1 < w0.heap.size) (hb1 : Below w0.heap.size w0 w1) (hl : es.length ≤ 41) (hrow : InR true w1 w0.heap.size w1.heap.size v es.length 3 (cellE es)) (hok : okS v) :
    DrawnC2 w (.returned (.tuple #[.agg #[.int .i64 n, v], .agg #[.int .i64 x, .int .i64 y, .int .i64 z]])) (((((w1.setCell ⟨w.heap.size, 0, none⟩ (.int .i64 n)).setCell ⟨w.heap.size, 1, none⟩ v).setCell ⟨w.heap.size + 1, 0, none⟩ (.int .i64 x)).setCell ⟨w.heap.size + 1, 1, none⟩ (.int .i64 y)).setCell ⟨w.heap.size + 1, 2, none⟩ (.int .i64 z)) := by
  refine ⟨n, es, v, x, y, z, rfl, hl, ?_, hok, (((((bel_trans hb hb1).setCell (by simp) _).setCell (by simp) _).setCell (by simp) _).setCell (by simp) _).setCell (by simp) _⟩
  have h1 := ((((hrow.set8 (B := w.heap.size) (k := 0) (u := .int .i64 n) (by omega)).set8 (B := w.heap.size) (k := 1) (u := v) (by omega)).set8 (B := w.heap.size + 1) (k := 0) (u := .int .i64 x) (by omega)).set8 (B := w.heap.size + 1) (k := 1) (u := .int .i64 y) (by omega)).set8 (B := w.heap.size + 1) (k := 2) (u := .int .i64 z) (by omega)
  exact h1.wider (by omega) (by simp) (Nat.le_refl _)
set_option maxHeartbeats 2000000 in
theorem dDrawPutEdge (a : Option Addr) (n cap : Nat) (w : World) (hb : Bytes w a n) (hcap : n ≤ cap) (hn : n ≤ 281474976710656) :
    Calls Try.prog 19 #[.slice a n cap] w (DrawnC2 w) := by
  have hbx := (Box.new w 25 #[.int .i64 0, .slice none 0 0]).alloc (.cells #[.int .i64 0, .int .i64 0, .int .i64 0] 35)
  have hby := Box.new (w.alloc (.cells #[.int .i64 0, .slice none 0 0] 25)) 35 #[.int .i64 0, .int .i64 0, .int .i64 0]
  rw [show (w.alloc (.cells #[.int .i64 0, .slice none 0 0] 25)).heap.size = w.heap.size + 1 by simp] at hby
  have hbl : Below w.heap.size w ((w.alloc (.cells #[.int .i64 0, .slice none 0 0] 25)).alloc (.cells #[.int .i64 0, .int .i64 0, .int .i64 0] 35)) := ((Below.refl _ _).alloc (Nat.le_refl _) _).alloc (by simp) _
  have HC := Lib.hid hb
  clear hb
  go_enter Try.func19, Try.ntmps19
  go_wp2_with fail
  generalize ((w.alloc (.cells #[.int .i64 0, .slice none 0 0] 25)).alloc (.cells #[.int .i64 0, .int .i64 0, .int .i64 0] 35)) = w0 at hbx hby hbl ⊢
  refine (l2Case a n cap w0 (HC.out.keepB hbl) hcap hn).mono ?_
  rintro e w1 ⟨n1, es, v, x, y, z, rfl, hl, hrow, hok, hb1⟩
  obtain ⟨va, vc, rfl, hz⟩ := id hrow
  have hB := hbx.keep hb1
  have hC := hby.keep hb1
  have r0 : w1.cell? ⟨w.heap.size, 0, none⟩ = some (.int .i64 0) := by simpa using hB.cell 0
  have r1 : w1.cell? ⟨w.heap.size, 1, none⟩ = some (.slice none 0 0) := by simpa using hB.cell 1
  have r2 := hB.frozen 0
  have r3 := hB.frozen 1
  have s0 : w1.cell? ⟨w.heap.size + 1, 0, none⟩ = some (.int .i64 0) := by simpa using hC.cell 0
  have s1 : w1.cell? ⟨w.heap.size + 1, 1, none⟩ = some (.int .i64 0) := by simpa using hC.cell 1
  have s2 : w1.cell? ⟨w.heap.size + 1, 2, none⟩ = some (.int .i64 0) := by simpa using hC.cell 2
  have t0 := hC.frozen 0
  have t1 := hC.frozen 1
  have t2 := hC.frozen 2
  have HR := Lib.hid (drawnC2_out (n := n1) (x := x) (y := y) (z := z) hbl hby.lt hb1 hl hrow hok)
  clear hz hrow hok hb1 hB hC hbx hby hbl
  go_wp2
  try simp only [Exit.inBlock, Exit.then]
  refine bodyPost_ret (v := .tuple #[.agg #[.int .i64 n1, .slice va es.length vc], .agg #[.int .i64 x, .int .i64 y, .int .i64 z]]) ?_ rfl HR.out
  rw [results_cc rfl]
  go_simp
theorem DrawnC3.drew9 {w w' : World} {e : Ending} (h : DrawnC3 w e w') : DrawnC3 w e w'.drew := by
  obtain ⟨n, es, v, m, a, h0, h1, h2, h3, h4⟩ := h
  exact ⟨n, es, v, m, a, h0, h1, InR.keep h2 ((Below.refl _ _).drew), h3, h4.drew⟩
set_option maxHeartbeats 2000000 in
theorem dDrawWeightOf (a : Option Addr) (n cap : Nat) (w : World) (hb : Bytes w a n) (hcap : n ≤ cap) (hn : n ≤ 281474976710656) :
    Calls Try.prog 50 #[.slice a n cap] w (DrawnC3 w) := by
  have hbx := Box.new w 25 #[.int .i64 0, .slice none 0 0]
  have hbl : Below w.heap.size w (w.alloc (.cells #[.int .i64 0, .slice none 0 0] 25)) := (Below.refl _ _).alloc (Nat.le_refl _) _
  have HC := Lib.hid hb
  clear hb
  go_enter Try.func50, Try.ntmps50
  go_wp2_with fail
  generalize (w.alloc (.cells #[.int .i64 0, .slice none 0 0] 25)) = w0 at hbx hbl ⊢
  refine (l2Case a n cap w0 (HC.out.keepB hbl) hcap hn).mono ?_
  rintro e w1 ⟨n1, es, v, x, y, z, rfl, hl, hrow, hok, hb1⟩
  obtain ⟨va, vc, rfl, hz⟩ := id hrow
  have hB := hbx.keep hb1
  go_upto_region 2 with fail
  have hlt := hbx.lt
  have hbz := hb1.size
  have hb2 : Below w1.heap.size w1 ((w1.alloc (.cells #[.int .i64 n1, .slice va es.length vc] 25)).alloc (.cells #[.int .i64 x, .int .i64 y, .int .i64 z] 35)) := ((Below.refl _ _).alloc (Nat.le_refl _) _).alloc (by simp) _
  have hg2 := (Box.new w1 25 #[.int .i64 n1, .slice va es.length vc]).alloc (.cells #[.int .i64 x, .int .i64 y, .int .i64 z] 35)
  have he2 : Box ((w1.alloc (.cells #[.int .i64 n1, .slice va es.length vc] 25)).alloc (.cells #[.int .i64 x, .int .i64 y, .int .i64 z] 35)) (w1.heap.size + 1) 35 #[.int .i64 x, .int .i64 y, .int .i64 z] := by
    have := Box.new (w1.alloc (.cells #[.int .i64 n1, .slice va es.length vc] 25)) 35 #[.int .i64 x, .int .i64 y, .int .i64 z]
    simpa using this
  generalize ((w1.alloc (.cells #[.int .i64 n1, .slice va es.length vc] 25)).alloc (.cells #[.int .i64 x, .int .i64 y, .int .i64 z] 35)) = w2 at hb2 hg2 he2 ⊢
  have hB2 := hB.keep hb2
  have r0 : w2.cell? ⟨w.heap.size, 0, none⟩ = some (.int .i64 0) := by simpa using hB2.cell 0
  have r1 : w2.cell? ⟨w.heap.size, 1, none⟩ = some (.slice none 0 0) := by simpa using hB2.cell 1
  have r2 := hB2.frozen 0
  have r3 := hB2.frozen 1
  have y0 : w2.cell? ⟨w1.heap.size, 0, none⟩ = some (.int .i64 n1) := by simpa using hg2.cell 0
  have y1 : w2.cell? ⟨w1.heap.size, 1, none⟩ = some (.slice va es.length vc) := by simpa using hg2.cell 1
  have z0 : w2.cell? ⟨w1.heap.size + 1, 0, none⟩ = some (.int .i64 x) := by simpa using he2.cell 0
  have z1 : w2.cell? ⟨w1.heap.size + 1, 1, none⟩ = some (.int .i64 y) := by simpa using he2.cell 1
  have HR := Lib.hid (drawnC3_out (n := n1) (m := x) (a := y) hbl hlt (bel_trans hb1 hb2) hl ((InR.keep hrow hb2).wider (Nat.le_refl _) hb2.size (Nat.le_refl _)) hok)
  have hne1 : w.heap.size ≠ w1.heap.size := by omega
  have hne2 : w.heap.size ≠ w1.heap.size + 1 := by omega
  clear hz hrow hok hb1 hB hbx hbl hb2 hg2 he2 hB2
  go_region
  try simp only [Exit.inBlock, Exit.then]
  go_wp2
  try simp only [Exit.inBlock, Exit.then]
  refine bodyPost_ret (v := .tuple #[.agg #[.int .i64 n1, .slice va es.length vc], .int .i64 x, .int .i64 y]) ?_ rfl ?_
  · rw [results_ctt rfl]
    go_simp
  · exact HR.out.drew9
set_option maxHeartbeats 1000000 in
theorem dDrawCutEdge (a : Option Addr) (n cap : Nat) (w : World) (hb : Bytes w a n) (hcap : n ≤ cap) (hn : n ≤ 281474976710656) :
    Calls Try.prog 13 #[.slice a n cap] w (DrawnC3 w) := by
  have hbx := Box.new w 25 #[.int .i64 0, .slice none 0 0]
  have hbl : Below w.heap.size w (w.alloc (.cells #[.int .i64 0, .slice none 0 0] 25)) := (Below.refl _ _).alloc (Nat.le_refl _) _
  have HC := Lib.hid hb
  clear hb
  go_enter Try.func13, Try.ntmps13
  go_wp2_with fail
  generalize (w.alloc (.cells #[.int .i64 0, .slice none 0 0] 25)) = w0 at hbx hbl ⊢
  refine (dDrawWeightOf a n cap w0 (HC.out.keepB hbl) hcap hn).mono ?_
  rintro e w1 ⟨n1, es, v, m, s, rfl, hl, hrow, hok, hb1⟩
  obtain ⟨va, vc, rfl, hz⟩ := id hrow
  have hB := hbx.keep hb1
  have r0 : w1.cell? ⟨w.heap.size, 0, none⟩ = some (.int .i64 0) := by simpa using hB.cell 0
  have r1 : w1.cell? ⟨w.heap.size, 1, none⟩ = some (.slice none 0 0) := by simpa using hB.cell 1
  have r2 := hB.frozen 0
  have r3 := hB.frozen 1
  have HR := Lib.hid (drawnC3_out (n := n1) (m := m) (a := s) hbl hbx.lt hb1 hl hrow hok)
  clear hz hrow hok hb1 hB hbx hbl
  go_wp2
  try simp only [Exit.inBlock, Exit.then]
  refine bodyPost_ret (v := .tuple #[.agg #[.int .i64 n1, .slice va es.length vc], .int .i64 m, .int .i64 s]) ?_ rfl HR.out
  rw [results_ctt rfl]
  go_simp

end Go.Proofs.Ytfciilpcjahfoaa
