/- The draws of a graph and a view, in the model. -/
import Derived.Test.YtbcbknebjbelmaaViews
namespace Go.Proofs.Ytbcbknebjbelmaa
open Go.RowKit Go.BigFrame Go.Deep
set_option linter.unusedVariables false
set_option linter.unusedSimpArgs false
set_option linter.unnecessarySimpa false
theorem chg5 (w : World) (B : Nat) (x0 x1 y0 y1 y2 : Value) : Chg B (B + 2) w (((((w.setCell ⟨B, 0, none⟩ x0).setCell ⟨B, 1, none⟩ x1).setCell ⟨B + 1, 0, none⟩ y0).setCell ⟨B + 1, 1, none⟩ y1).setCell ⟨B + 1, 2, none⟩ y2) :=
  (((((Chg.refl _ _ _).setCell (by simp) (by simp) _).setCell (by simp) (by simp) _).setCell (by simp) (by simp) _).setCell (by simp) (by simp) _).setCell (by simp) (by simp) _
theorem drawnV_out {w w0 w1 : World} {n m a : Int} {es : List Ed} {zs : List Int} {s t : Value} (hb : Below w.heap.size w w0) (h0 : w.heap.size + 2 ≤ w0.heap.size) (hb1 : Below w0.heap.size w0 w1) (hl : es.length ≤ 40 ∧ zs.length ≤ 12) (hr1 : InR true w1 w0.heap.size w1.heap.size s es.length 3 (cellE es) ∧ okS s) (hr2 : InR true w1 w0.heap.size w1.heap.size t zs.length 1 (cellI zs) ∧ okS t) (x0 x1 y0 y1 y2 : Value) :
    DrawnV w (.returned (.tuple #[.agg #[.int .i64 n, s], .agg #[.int .i64 m, .int .i64 a, t]])) (((((w1.setCell ⟨w.heap.size, 0, none⟩ x0).setCell ⟨w.heap.size, 1, none⟩ x1).setCell ⟨w.heap.size + 1, 0, none⟩ y0).setCell ⟨w.heap.size + 1, 1, none⟩ y1).setCell ⟨w.heap.size + 1, 2, none⟩ y2) := by
  have hc := chg5 w1 w.heap.size x0 x1 y0 y1 y2
  exact ⟨n, es, _, m, a, zs, _, rfl, hl, ⟨(hr1.1.chg hc (.inl (by omega))).wider (by omega) hc.size (Nat.le_refl _), hr1.2⟩, ⟨(hr2.1.chg hc (.inl (by omega))).wider (by omega) hc.size (Nat.le_refl _), hr2.2⟩, bel_chg (bel_trans hb hb1) hc (Nat.le_refl _)⟩

set_option maxHeartbeats 1000000 in
theorem dDrawViewValid (a : Option Addr) (n cap : Nat) (w : World) (hb : Bytes w a n) (hcap : n ≤ cap) (hn : n ≤ 281474976710656) :
    Calls Try.prog 15 #[.slice a n cap] w (DrawnV w) := by
  have hbl : Below w.heap.size w ((w.alloc (.cells #[.int .i64 0, .slice none 0 0] 25)).alloc (.cells #[.int .i64 0, .int .i64 0, .slice none 0 0] 28)) := ((Below.refl _ _).alloc (Nat.le_refl _) _).alloc (by simp) _
  have hx2 : Box ((w.alloc (.cells #[.int .i64 0, .slice none 0 0] 25)).alloc (.cells #[.int .i64 0, .int .i64 0, .slice none 0 0] 28)) w.heap.size 25 #[.int .i64 0, .slice none 0 0] := (Box.new _ _ _).alloc _
  have hx3 : Box ((w.alloc (.cells #[.int .i64 0, .slice none 0 0] 25)).alloc (.cells #[.int .i64 0, .int .i64 0, .slice none 0 0] 28)) (w.heap.size + 1) 28 #[.int .i64 0, .int .i64 0, .slice none 0 0] := by have := Box.new (w.alloc (.cells #[.int .i64 0, .slice none 0 0] 25)) 28 #[.int .i64 0, .int .i64 0, .slice none 0 0]; simpa using this
  have HC := Lib.hid hb
  clear hb
  go_enter Try.func15, Try.ntmps15
  go_wp2_with fail
  generalize ((w.alloc (.cells #[.int .i64 0, .slice none 0 0] 25)).alloc (.cells #[.int .i64 0, .int .i64 0, .slice none 0 0] 28)) = w0 at hbl hx2 hx3 ⊢
  refine (l3Views a n cap w0 (HC.out.keepB hbl) hcap hn).mono ?_
  rintro e w1 ⟨n1, es, s, m, b, zs, t, rfl, hl, hr1, hr2, hb1⟩
  obtain ⟨va, vc, rfl, hz⟩ := id hr1.1
  obtain ⟨ta, tc, rfl, hz2⟩ := id hr2.1
  have h0 : w.heap.size + 2 ≤ w0.heap.size := hx3.lt
  have h2 := hx2.keep hb1
  have h3 := hx3.keep hb1
  have p0 := h2.cell 0
  have p1 := h2.cell 1
  have q0 := h3.cell 0
  have q1 := h3.cell 1
  have q2 := h3.cell 2
  have fp0 := h2.frozen 0
  have fp1 := h2.frozen 1
  have fq0 := h3.frozen 0
  have fq1 := h3.frozen 1
  have fq2 := h3.frozen 2
  simp only [List.getElem?_toArray, List.getElem?_cons_succ, List.getElem?_cons_zero] at p0 p1 q0 q1 q2
  have HR := Lib.hid (fun x0 x1 y0 y1 y2 => drawnV_out (n := n1) (m := m) (a := b) hbl h0 hb1 hl hr1 hr2 x0 x1 y0 y1 y2)
  clear hz hz2 hr1 hr2 hb1 hbl h2 h3 hx2 hx3 hl
  go_wp2
  try simp only [Exit.inBlock, Exit.then]
  refine bodyPost_ret (v := .tuple #[.agg #[.int .i64 n1, .slice va es.length vc], .agg #[.int .i64 m, .int .i64 b, .slice ta zs.length tc]]) ?_ rfl (HR.out _ _ _ _ _)
  rw [results_cc rfl]
  go_simp

set_option maxHeartbeats 1000000 in
theorem dDrawIsStable (a : Option Addr) (n cap : Nat) (w : World) (hb : Bytes w a n) (hcap : n ≤ cap) (hn : n ≤ 281474976710656) :
    Calls Try.prog 24 #[.slice a n cap] w (DrawnV w) := by
  have hbl : Below w.heap.size w ((w.alloc (.cells #[.int .i64 0, .slice none 0 0] 25)).alloc (.cells #[.int .i64 0, .int .i64 0, .slice none 0 0] 28)) := ((Below.refl _ _).alloc (Nat.le_refl _) _).alloc (by simp) _
  have hx2 : Box ((w.alloc (.cells #[.int .i64 0, .slice none 0 0] 25)).alloc (.cells #[.int .i64 0, .int .i64 0, .slice none 0 0] 28)) w.heap.size 25 #[.int .i64 0, .slice none 0 0] := (Box.new _ _ _).alloc _
  have hx3 : Box ((w.alloc (.cells #[.int .i64 0, .slice none 0 0] 25)).alloc (.cells #[.int .i64 0, .int .i64 0, .slice none 0 0] 28)) (w.heap.size + 1) 28 #[.int .i64 0, .int .i64 0, .slice none 0 0] := by have := Box.new (w.alloc (.cells #[.int .i64 0, .slice none 0 0] 25)) 28 #[.int .i64 0, .int .i64 0, .slice none 0 0]; simpa using this
  have HC := Lib.hid hb
  clear hb
  go_enter Try.func24, Try.ntmps24
  go_wp2_with fail
  generalize ((w.alloc (.cells #[.int .i64 0, .slice none 0 0] 25)).alloc (.cells #[.int .i64 0, .int .i64 0, .slice none 0 0] 28)) = w0 at hbl hx2 hx3 ⊢
  refine (l3Views a n cap w0 (HC.out.keepB hbl) hcap hn).mono ?_
  rintro e w1 ⟨n1, es, s, m, b, zs, t, rfl, hl, hr1, hr2, hb1⟩
  obtain ⟨va, vc, rfl, hz⟩ := id hr1.1
  obtain ⟨ta, tc, rfl, hz2⟩ := id hr2.1
  have h0 : w.heap.size + 2 ≤ w0.heap.size := hx3.lt
  have h2 := hx2.keep hb1
  have h3 := hx3.keep hb1
  have p0 := h2.cell 0
  have p1 := h2.cell 1
  have q0 := h3.cell 0
  have q1 := h3.cell 1
  have q2 := h3.cell 2
  have fp0 := h2.frozen 0
  have fp1 := h2.frozen 1
  have fq0 := h3.frozen 0
  have fq1 := h3.frozen 1
  have fq2 := h3.frozen 2
  simp only [List.getElem?_toArray, List.getElem?_cons_succ, List.getElem?_cons_zero] at p0 p1 q0 q1 q2
  have HR := Lib.hid (fun x0 x1 y0 y1 y2 => drawnV_out (n := n1) (m := m) (a := b) hbl h0 hb1 hl hr1 hr2 x0 x1 y0 y1 y2)
  clear hz hz2 hr1 hr2 hb1 hbl h2 h3 hx2 hx3 hl
  go_wp2
  try simp only [Exit.inBlock, Exit.then]
  refine bodyPost_ret (v := .tuple #[.agg #[.int .i64 n1, .slice va es.length vc], .agg #[.int .i64 m, .int .i64 b, .slice ta zs.length tc]]) ?_ rfl (HR.out _ _ _ _ _)
  rw [results_cc rfl]
  go_simp

set_option maxHeartbeats 1000000 in
theorem dDrawReachedNodes (a : Option Addr) (n cap : Nat) (w : World) (hb : Bytes w a n) (hcap : n ≤ cap) (hn : n ≤ 281474976710656) :
    Calls Try.prog 33 #[.slice a n cap] w (DrawnV w) := by
  have hbl : Below w.heap.size w ((w.alloc (.cells #[.int .i64 0, .slice none 0 0] 25)).alloc (.cells #[.int .i64 0, .int .i64 0, .slice none 0 0] 28)) := ((Below.refl _ _).alloc (Nat.le_refl _) _).alloc (by simp) _
  have hx2 : Box ((w.alloc (.cells #[.int .i64 0, .slice none 0 0] 25)).alloc (.cells #[.int .i64 0, .int .i64 0, .slice none 0 0] 28)) w.heap.size 25 #[.int .i64 0, .slice none 0 0] := (Box.new _ _ _).alloc _
  have hx3 : Box ((w.alloc (.cells #[.int .i64 0, .slice none 0 0] 25)).alloc (.cells #[.int .i64 0, .int .i64 0, .slice none 0 0] 28)) (w.heap.size + 1) 28 #[.int .i64 0, .int .i64 0, .slice none 0 0] := by have := Box.new (w.alloc (.cells #[.int .i64 0, .slice none 0 0] 25)) 28 #[.int .i64 0, .int .i64 0, .slice none 0 0]; simpa using this
  have HC := Lib.hid hb
  clear hb
  go_enter Try.func33, Try.ntmps33
  go_wp2_with fail
  generalize ((w.alloc (.cells #[.int .i64 0, .slice none 0 0] 25)).alloc (.cells #[.int .i64 0, .int .i64 0, .slice none 0 0] 28)) = w0 at hbl hx2 hx3 ⊢
  refine (l3Views a n cap w0 (HC.out.keepB hbl) hcap hn).mono ?_
  rintro e w1 ⟨n1, es, s, m, b, zs, t, rfl, hl, hr1, hr2, hb1⟩
  obtain ⟨va, vc, rfl, hz⟩ := id hr1.1
  obtain ⟨ta, tc, rfl, hz2⟩ := id hr2.1
  have h0 : w.heap.size + 2 ≤ w0.heap.size := hx3.lt
  have h2 := hx2.keep hb1
  have h3 := hx3.keep hb1
  have p0 := h2.cell 0
  have p1 := h2.cell 1
  have q0 := h3.cell 0
  have q1 := h3.cell 1
  have q2 := h3.cell 2
  have fp0 := h2.frozen 0
  have fp1 := h2.frozen 1
  have fq0 := h3.frozen 0
  have fq1 := h3.frozen 1
  have fq2 := h3.frozen 2
  simp only [List.getElem?_toArray, List.getElem?_cons_succ, List.getElem?_cons_zero] at p0 p1 q0 q1 q2
  have HR := Lib.hid (fun x0 x1 y0 y1 y2 => drawnV_out (n := n1) (m := m) (a := b) hbl h0 hb1 hl hr1 hr2 x0 x1 y0 y1 y2)
  clear hz hz2 hr1 hr2 hb1 hbl h2 h3 hx2 hx3 hl
  go_wp2
  try simp only [Exit.inBlock, Exit.then]
  refine bodyPost_ret (v := .tuple #[.agg #[.int .i64 n1, .slice va es.length vc], .agg #[.int .i64 m, .int .i64 b, .slice ta zs.length tc]]) ?_ rfl (HR.out _ _ _ _ _)
  rw [results_cc rfl]
  go_simp

set_option maxHeartbeats 1000000 in
theorem dDrawRelaxAll (a : Option Addr) (n cap : Nat) (w : World) (hb : Bytes w a n) (hcap : n ≤ cap) (hn : n ≤ 281474976710656) :
    Calls Try.prog 29 #[.slice a n cap] w (DrawnV w) := by
  have hbl : Below w.heap.size w ((w.alloc (.cells #[.int .i64 0, .slice none 0 0] 25)).alloc (.cells #[.int .i64 0, .int .i64 0, .slice none 0 0] 28)) := ((Below.refl _ _).alloc (Nat.le_refl _) _).alloc (by simp) _
  have hx2 : Box ((w.alloc (.cells #[.int .i64 0, .slice none 0 0] 25)).alloc (.cells #[.int .i64 0, .int .i64 0, .slice none 0 0] 28)) w.heap.size 25 #[.int .i64 0, .slice none 0 0] := (Box.new _ _ _).alloc _
  have hx3 : Box ((w.alloc (.cells #[.int .i64 0, .slice none 0 0] 25)).alloc (.cells #[.int .i64 0, .int .i64 0, .slice none 0 0] 28)) (w.heap.size + 1) 28 #[.int .i64 0, .int .i64 0, .slice none 0 0] := by have := Box.new (w.alloc (.cells #[.int .i64 0, .slice none 0 0] 25)) 28 #[.int .i64 0, .int .i64 0, .slice none 0 0]; simpa using this
  have HC := Lib.hid hb
  clear hb
  go_enter Try.func29, Try.ntmps29
  go_wp2_with fail
  generalize ((w.alloc (.cells #[.int .i64 0, .slice none 0 0] 25)).alloc (.cells #[.int .i64 0, .int .i64 0, .slice none 0 0] 28)) = w0 at hbl hx2 hx3 ⊢
  refine (l3Views a n cap w0 (HC.out.keepB hbl) hcap hn).mono ?_
  rintro e w1 ⟨n1, es, s, m, b, zs, t, rfl, hl, hr1, hr2, hb1⟩
  obtain ⟨va, vc, rfl, hz⟩ := id hr1.1
  obtain ⟨ta, tc, rfl, hz2⟩ := id hr2.1
  have h0 : w.heap.size + 2 ≤ w0.heap.size := hx3.lt
  have h2 := hx2.keep hb1
  have h3 := hx3.keep hb1
  have p0 := h2.cell 0
  have p1 := h2.cell 1
  have q0 := h3.cell 0
  have q1 := h3.cell 1
  have q2 := h3.cell 2
  have fp0 := h2.frozen 0
  have fp1 := h2.frozen 1
  have fq0 := h3.frozen 0
  have fq1 := h3.frozen 1
  have fq2 := h3.frozen 2
  simp only [List.getElem?_toArray, List.getElem?_cons_succ, List.getElem?_cons_zero] at p0 p1 q0 q1 q2
  have HR := Lib.hid (fun x0 x1 y0 y1 y2 => drawnV_out (n := n1) (m := m) (a := b) hbl h0 hb1 hl hr1 hr2 x0 x1 y0 y1 y2)
  clear hz hz2 hr1 hr2 hb1 hbl h2 h3 hx2 hx3 hl
  go_wp2
  try simp only [Exit.inBlock, Exit.then]
  refine bodyPost_ret (v := .tuple #[.agg #[.int .i64 n1, .slice va es.length vc], .agg #[.int .i64 m, .int .i64 b, .slice ta zs.length tc]]) ?_ rfl (HR.out _ _ _ _ _)
  rw [results_cc rfl]
  go_simp
end Go.Proofs.Ytbcbknebjbelmaa
