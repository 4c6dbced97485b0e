/- The draws of a graph and a view, for chapter 7. -/
import Derived.Test.YtjcfefpcilhelaaDrawsP
namespace Go.Proofs.Ytjcfefpcilhelaa
open Go.RowKit Go.BigFrame Go.Deep
set_option linter.unusedVariables false
set_option linter.unusedSimpArgs false
set_option linter.unnecessarySimpa false

set_option maxHeartbeats 1000000 in
theorem dDrawFirstFault (a : Option Addr) (n cap : Nat) (w : World) (hb : Bytes w a n) (hcap : n ≤ cap) (hn : n ≤ 281474976710656) :
    Calls Try.prog 25 #[.slice a n cap] w (DrawnV w) := by
  have hbl : Below w.heap.size w ((w.alloc (.cells #[.int .i64 0, .slice none 0 0] 25)).alloc (.cells #[.int .i64 0, .int .i64 0, .slice none 0 0] 30)) := ((Below.refl _ _).alloc (Nat.le_refl _) _).alloc (by simp) _
  have hx2 : Box ((w.alloc (.cells #[.int .i64 0, .slice none 0 0] 25)).alloc (.cells #[.int .i64 0, .int .i64 0, .slice none 0 0] 30)) w.heap.size 25 #[.int .i64 0, .slice none 0 0] := (Box.new _ _ _).alloc _
  have hx3 : Box ((w.alloc (.cells #[.int .i64 0, .slice none 0 0] 25)).alloc (.cells #[.int .i64 0, .int .i64 0, .slice none 0 0] 30)) (w.heap.size + 1) 30 #[.int .i64 0, .int .i64 0, .slice none 0 0] := by have := Box.new (w.alloc (.cells #[.int .i64 0, .slice none 0 0] 25)) 30 #[.int .i64 0, .int .i64 0, .slice none 0 0]; simpa using this
  have HC := Lib.hid hb
  clear hb
  go_enter Try.func25, Try.ntmps25
  go_wp2_with fail
  generalize ((w.alloc (.cells #[.int .i64 0, .slice none 0 0] 25)).alloc (.cells #[.int .i64 0, .int .i64 0, .slice none 0 0] 30)) = w0 at hbl hx2 hx3 ⊢
  refine (l3Views a n cap w0 (HC.out.keepB hbl) hcap hn).mono ?_
  rintro e w1 ⟨n1, es, s, m, b, zs, t, rfl, hl, hr1, hr2, hb1⟩
  obtain ⟨va, vc, rfl, hz⟩ := id hr1.1
  obtain ⟨ta, tc, rfl, hz2⟩ := id hr2.1
  have h0 : w.heap.size + 2 ≤ w0.heap.size := hx3.lt
  have h2 := hx2.keep hb1
  have h3 := hx3.keep hb1
  have p0 := h2.cell 0
  have p1 := h2.cell 1
  have q0 := h3.cell 0
  have q1 := h3.cell 1
  have q2 := h3.cell 2
  have fp0 := h2.frozen 0
  have fp1 := h2.frozen 1
  have fq0 := h3.frozen 0
  have fq1 := h3.frozen 1
  have fq2 := h3.frozen 2
  simp only [List.getElem?_toArray, List.getElem?_cons_succ, List.getElem?_cons_zero] at p0 p1 q0 q1 q2
  have HR := Lib.hid (fun x0 x1 y0 y1 y2 => drawnV_out (n := n1) (m := m) (a := b) hbl h0 hb1 hl hr1 hr2 x0 x1 y0 y1 y2)
  clear hz hz2 hr1 hr2 hb1 hbl h2 h3 hx2 hx3 hl
  go_wp2
  try simp only [Exit.inBlock, Exit.then]
  refine bodyPost_ret (v := .tuple #[.agg #[.int .i64 n1, .slice va es.length vc], .agg #[.int .i64 m, .int .i64 b, .slice ta zs.length tc]]) ?_ rfl (HR.out _ _ _ _ _)
  rw [results_cc rfl]
  go_simp

set_option maxHeartbeats 1000000 in
theorem dDrawTightEdges (a : Option Addr) (n cap : Nat) (w : World) (hb : Bytes w a n) (hcap : n ≤ cap) (hn : n ≤ 281474976710656) :
    Calls Try.prog 22 #[.slice a n cap] w (DrawnV w) := by
  have hbl : Below w.heap.size w ((w.alloc (.cells #[.int .i64 0, .slice none 0 0] 25)).alloc (.cells #[.int .i64 0, .int .i64 0, .slice none 0 0] 30)) := ((Below.refl _ _).alloc (Nat.le_refl _) _).alloc (by simp) _
  have hx2 : Box ((w.alloc (.cells #[.int .i64 0, .slice none 0 0] 25)).alloc (.cells #[.int .i64 0, .int .i64 0, .slice none 0 0] 30)) w.heap.size 25 #[.int .i64 0, .slice none 0 0] := (Box.new _ _ _).alloc _
  have hx3 : Box ((w.alloc (.cells #[.int .i64 0, .slice none 0 0] 25)).alloc (.cells #[.int .i64 0, .int .i64 0, .slice none 0 0] 30)) (w.heap.size + 1) 30 #[.int .i64 0, .int .i64 0, .slice none 0 0] := by have := Box.new (w.alloc (.cells #[.int .i64 0, .slice none 0 0] 25)) 30 #[.int .i64 0, .int .i64 0, .slice none 0 0]; simpa using this
  have HC := Lib.hid hb
  clear hb
  go_enter Try.func22, Try.ntmps22
  go_wp2_with fail
  generalize ((w.alloc (.cells #[.int .i64 0, .slice none 0 0] 25)).alloc (.cells #[.int .i64 0, .int .i64 0, .slice none 0 0] 30)) = w0 at hbl hx2 hx3 ⊢
  refine (l3Views a n cap w0 (HC.out.keepB hbl) hcap hn).mono ?_
  rintro e w1 ⟨n1, es, s, m, b, zs, t, rfl, hl, hr1, hr2, hb1⟩
  obtain ⟨va, vc, rfl, hz⟩ := id hr1.1
  obtain ⟨ta, tc, rfl, hz2⟩ := id hr2.1
  have h0 : w.heap.size + 2 ≤ w0.heap.size := hx3.lt
  have h2 := hx2.keep hb1
  have h3 := hx3.keep hb1
  have p0 := h2.cell 0
  have p1 := h2.cell 1
  have q0 := h3.cell 0
  have q1 := h3.cell 1
  have q2 := h3.cell 2
  have fp0 := h2.frozen 0
  have fp1 := h2.frozen 1
  have fq0 := h3.frozen 0
  have fq1 := h3.frozen 1
  have fq2 := h3.frozen 2
  simp only [List.getElem?_toArray, List.getElem?_cons_succ, List.getElem?_cons_zero] at p0 p1 q0 q1 q2
  have HR := Lib.hid (fun x0 x1 y0 y1 y2 => drawnV_out (n := n1) (m := m) (a := b) hbl h0 hb1 hl hr1 hr2 x0 x1 y0 y1 y2)
  clear hz hz2 hr1 hr2 hb1 hbl h2 h3 hx2 hx3 hl
  go_wp2
  try simp only [Exit.inBlock, Exit.then]
  refine bodyPost_ret (v := .tuple #[.agg #[.int .i64 n1, .slice va es.length vc], .agg #[.int .i64 m, .int .i64 b, .slice ta zs.length tc]]) ?_ rfl (HR.out _ _ _ _ _)
  rw [results_cc rfl]
  go_simp
end Go.Proofs.Ytjcfefpcilhelaa
