/- The draws of chapter 10 that are those of earlier chapters. -/
import Derived.Test.YtlgjcofpdaljnaaTarget
import Derived.Test.YtlgjcofpdaljnaaDrawsP
import Derived.Test.YtlgjcofpdaljnaaDraws3
namespace Go.Proofs.Ytlgjcofpdaljnaa
open Go.RowKit Go.BigFrame Go.Deep
set_option linter.unusedVariables false
set_option linter.unusedSimpArgs false
set_option linter.unnecessarySimpa false

set_option maxHeartbeats 1000000 in
theorem dDrawBridgeNodes (a : Option Addr) (n cap : Nat) (w : World) (hb : Bytes w a n) (hcap : n ≤ cap) (hn : n ≤ 281474976710656) :
    Calls Try.prog 26 #[.slice a n cap] w (DrawnC3 w) := by
  have hbx := Box.new w 25 #[.int .i64 0, .slice none 0 0]
  have hbl : Below w.heap.size w (w.alloc (.cells #[.int .i64 0, .slice none 0 0] 25)) := (Below.refl _ _).alloc (Nat.le_refl _) _
  have HC := Lib.hid hb
  clear hb
  go_enter Try.func26, Try.ntmps26
  go_wp2_with fail
  generalize (w.alloc (.cells #[.int .i64 0, .slice none 0 0] 25)) = w0 at hbx hbl ⊢
  refine (l4Target a n cap w0 (HC.out.keepB hbl) hcap hn).mono ?_
  rintro e w1 ⟨n1, es, v, m9, m, s, rfl, hl, hrow, hok, hb1⟩
  obtain ⟨va, vc, rfl, hz⟩ := id hrow
  have hB := hbx.keep hb1
  have r0 : w1.cell? ⟨w.heap.size, 0, none⟩ = some (.int .i64 0) := by simpa using hB.cell 0
  have r1 : w1.cell? ⟨w.heap.size, 1, none⟩ = some (.slice none 0 0) := by simpa using hB.cell 1
  have r2 := hB.frozen 0
  have r3 := hB.frozen 1
  have hlt1 := hB.lt
  have hb2 : Below w1.heap.size w1 (w1.alloc (.cells #[.int .i64 n1, .slice va es.length vc] 25)) := (Below.refl _ _).alloc (Nat.le_refl _) _
  have hr9 := drawnC3_out (n := n1) (m := m) (a := s) hbl hbx.lt (bel_trans hb1 hb2) hl ((hrow.keep hb2).wider (Nat.le_refl _) hb2.size (Nat.le_refl _)) hok
  rw [World.setCell_alloc_past _ _ _ _ hlt1] at hr9
  rw [World.setCell_alloc_past _ _ _ _ (by simpa using hlt1)] at hr9
  have HR := Lib.hid hr9
  clear hz hrow hok hb1 hb2 hr9 hB hbx hbl
  go_wp2
  try simp only [Exit.inBlock, Exit.then]
  refine bodyPost_ret (v := .tuple #[.agg #[.int .i64 n1, .slice va es.length vc], .int .i64 m, .int .i64 s]) ?_ rfl HR.out
  rw [results_ctt rfl]
  go_simp
set_option maxHeartbeats 1000000 in
theorem dDrawCriticalEdges (a : Option Addr) (n cap : Nat) (w : World) (hb : Bytes w a n) (hcap : n ≤ cap) (hn : n ≤ 281474976710656) :
    Calls Try.prog 31 #[.slice a n cap] w (DrawnC3 w) := by
  have hbx := Box.new w 25 #[.int .i64 0, .slice none 0 0]
  have hbl : Below w.heap.size w (w.alloc (.cells #[.int .i64 0, .slice none 0 0] 25)) := (Below.refl _ _).alloc (Nat.le_refl _) _
  have HC := Lib.hid hb
  clear hb
  go_enter Try.func31, Try.ntmps31
  go_wp2_with fail
  generalize (w.alloc (.cells #[.int .i64 0, .slice none 0 0] 25)) = w0 at hbx hbl ⊢
  refine (l3Case a n cap w0 (HC.out.keepB hbl) hcap hn).mono ?_
  rintro e w1 ⟨n1, es, v, m, s, rfl, hl, hrow, hok, hb1⟩
  obtain ⟨va, vc, rfl, hz⟩ := id hrow
  have hB := hbx.keep hb1
  have r0 : w1.cell? ⟨w.heap.size, 0, none⟩ = some (.int .i64 0) := by simpa using hB.cell 0
  have r1 : w1.cell? ⟨w.heap.size, 1, none⟩ = some (.slice none 0 0) := by simpa using hB.cell 1
  have r2 := hB.frozen 0
  have r3 := hB.frozen 1
  have HR := Lib.hid (drawnC3_out (n := n1) (m := m) (a := s) hbl hbx.lt hb1 hl hrow hok)
  clear hz hrow hok hb1 hB hbx hbl
  go_wp2
  try simp only [Exit.inBlock, Exit.then]
  refine bodyPost_ret (v := .tuple #[.agg #[.int .i64 n1, .slice va es.length vc], .int .i64 m, .int .i64 s]) ?_ rfl HR.out
  rw [results_ctt rfl]
  go_simp
set_option maxHeartbeats 1000000 in
theorem dDrawRanksOf (a : Option Addr) (n cap : Nat) (w : World) (hb : Bytes w a n) (hcap : n ≤ cap) (hn : n ≤ 281474976710656) :
    Calls Try.prog 8 #[.slice a n cap] w (DrawnV w) := by
  have hbl : Below w.heap.size w ((w.alloc (.cells #[.int .i64 0, .slice none 0 0] 25)).alloc (.cells #[.int .i64 0, .int .i64 0, .slice none 0 0] 28)) := ((Below.refl _ _).alloc (Nat.le_refl _) _).alloc (by simp) _
  have hx2 : Box ((w.alloc (.cells #[.int .i64 0, .slice none 0 0] 25)).alloc (.cells #[.int .i64 0, .int .i64 0, .slice none 0 0] 28)) w.heap.size 25 #[.int .i64 0, .slice none 0 0] := (Box.new _ _ _).alloc _
  have hx3 : Box ((w.alloc (.cells #[.int .i64 0, .slice none 0 0] 25)).alloc (.cells #[.int .i64 0, .int .i64 0, .slice none 0 0] 28)) (w.heap.size + 1) 28 #[.int .i64 0, .int .i64 0, .slice none 0 0] := by have := Box.new (w.alloc (.cells #[.int .i64 0, .slice none 0 0] 25)) 28 #[.int .i64 0, .int .i64 0, .slice none 0 0]; simpa using this
  have HC := Lib.hid hb
  clear hb
  go_enter Try.func8, Try.ntmps8
  go_wp2_with fail
  generalize ((w.alloc (.cells #[.int .i64 0, .slice none 0 0] 25)).alloc (.cells #[.int .i64 0, .int .i64 0, .slice none 0 0] 28)) = w0 at hbl hx2 hx3 ⊢
  refine (l3Views a n cap w0 (HC.out.keepB hbl) hcap hn).mono ?_
  rintro e w1 ⟨n1, es, s, m, b, zs, t, rfl, hl, hr1, hr2, hb1⟩
  obtain ⟨va, vc, rfl, hz⟩ := id hr1.1
  obtain ⟨ta, tc, rfl, hz2⟩ := id hr2.1
  have h0 : w.heap.size + 2 ≤ w0.heap.size := hx3.lt
  have h2 := hx2.keep hb1
  have h3 := hx3.keep hb1
  have p0 := h2.cell 0
  have p1 := h2.cell 1
  have q0 := h3.cell 0
  have q1 := h3.cell 1
  have q2 := h3.cell 2
  have fp0 := h2.frozen 0
  have fp1 := h2.frozen 1
  have fq0 := h3.frozen 0
  have fq1 := h3.frozen 1
  have fq2 := h3.frozen 2
  simp only [List.getElem?_toArray, List.getElem?_cons_succ, List.getElem?_cons_zero] at p0 p1 q0 q1 q2
  have HR := Lib.hid (fun x0 x1 y0 y1 y2 => drawnV_out (n := n1) (m := m) (a := b) hbl h0 hb1 hl hr1 hr2 x0 x1 y0 y1 y2)
  clear hz hz2 hr1 hr2 hb1 hbl h2 h3 hx2 hx3 hl
  go_wp2
  try simp only [Exit.inBlock, Exit.then]
  refine bodyPost_ret (v := .tuple #[.agg #[.int .i64 n1, .slice va es.length vc], .agg #[.int .i64 m, .int .i64 b, .slice ta zs.length tc]]) ?_ rfl (HR.out _ _ _ _ _)
  rw [results_cc rfl]
  go_simp
end Go.Proofs.Ytlgjcofpdaljnaa
