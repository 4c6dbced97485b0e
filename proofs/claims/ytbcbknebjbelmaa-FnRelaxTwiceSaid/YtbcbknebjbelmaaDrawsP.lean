/- The draws of a graph, a view and an order, in the model. -/
import Derived.Test.YtbcbknebjbelmaaDrawsO
namespace Go.Proofs.Ytbcbknebjbelmaa
open Go.RowKit Go.BigFrame Go.Deep
set_option linter.unusedVariables false
set_option linter.unusedSimpArgs false
set_option linter.unnecessarySimpa false
theorem DrawnV.drew {w w' : World} {e : Ending} (h : DrawnV w e w') : DrawnV w e w'.drew := by
  obtain ⟨n, es, s, m, a, zs, t, h1, h2, h3, h4, h5⟩ := h
  exact ⟨n, es, s, m, a, zs, t, h1, h2, ⟨InR.drew1 h3.1, h3.2⟩, ⟨InR.drew1 h4.1, h4.2⟩, h5.drew⟩
/-- A graph, a view of it and an edge's number are drawn. -/
def DrawnE (w : World) (e : Ending) (w' : World) : Prop :=
  ∃ (n : Int) (es : List Ed) (s : Value) (m a : Int) (zs : List Int) (t : Value) (i : Int), e = .returned (.tuple #[.agg #[.int .i64 n, s], .agg #[.int .i64 m, .int .i64 a, t], .int .i64 i]) ∧ (es.length ≤ 40 ∧ zs.length ≤ 12) ∧ (InR true w' w.heap.size w'.heap.size s es.length 3 (cellE es) ∧ okS s) ∧ (InR true w' w.heap.size w'.heap.size t zs.length 1 (cellI zs) ∧ okS t) ∧ Below w.heap.size w w'
theorem DrawnV.edge {w w' : World} {n m a i : Int} {s t : Value} (h : DrawnV w (.returned (.tuple #[.agg #[.int .i64 n, s], .agg #[.int .i64 m, .int .i64 a, t]])) w') : DrawnE w (.returned (.tuple #[.agg #[.int .i64 n, s], .agg #[.int .i64 m, .int .i64 a, t], .int .i64 i])) w' := by
  obtain ⟨n1, es, s1, m1, a1, zs, t1, h1, h2, h3, h4, h5⟩ := h
  injection h1 with h1
  injection h1 with h1
  simp only [Array.mk.injEq, List.cons.injEq, Value.agg.injEq, Value.int.injEq, true_and, and_true] at h1
  obtain ⟨⟨rfl, rfl⟩, rfl, rfl, rfl⟩ := h1
  exact ⟨n, es, s, m, a, zs, t, i, rfl, h2, h3, h4, h5⟩

set_option maxHeartbeats 4000000 in
theorem dDrawLooseEdges (a : Option Addr) (n cap : Nat) (w : World) (hb : Bytes w a n) (hcap : n ≤ cap) (hn : n ≤ 281474976710656) :
    Calls Try.prog 43 #[.slice a n cap] w (DrawnV w) := by
  have hbl : Below w.heap.size w ((w.alloc (.cells #[.int .i64 0, .slice none 0 0] 25)).alloc (.cells #[.int .i64 0, .int .i64 0, .slice none 0 0] 28)) := ((Below.refl _ _).alloc (Nat.le_refl _) _).alloc (by simp) _
  have hx2 : Box ((w.alloc (.cells #[.int .i64 0, .slice none 0 0] 25)).alloc (.cells #[.int .i64 0, .int .i64 0, .slice none 0 0] 28)) w.heap.size 25 #[.int .i64 0, .slice none 0 0] := (Box.new _ _ _).alloc _
  have hx3 : Box ((w.alloc (.cells #[.int .i64 0, .slice none 0 0] 25)).alloc (.cells #[.int .i64 0, .int .i64 0, .slice none 0 0] 28)) (w.heap.size + 1) 28 #[.int .i64 0, .int .i64 0, .slice none 0 0] := by have := Box.new (w.alloc (.cells #[.int .i64 0, .slice none 0 0] 25)) 28 #[.int .i64 0, .int .i64 0, .slice none 0 0]; simpa using this
  have HC := Lib.hid hb
  clear hb
  go_enter Try.func43, Try.ntmps43
  go_wp2_with fail
  generalize ((w.alloc (.cells #[.int .i64 0, .slice none 0 0] 25)).alloc (.cells #[.int .i64 0, .int .i64 0, .slice none 0 0] 28)) = w0 at hbl hx2 hx3 ⊢
  refine (l5Case a n cap w0 (HC.out.keepB hbl) hcap hn).mono ?_
  rintro e w1 ⟨n1, es, s, m, b, zs, t, os, u, rfl, hl, hr1, hr2, hr3, hb1⟩
  obtain ⟨va, vc, rfl, hz⟩ := id hr1.1
  obtain ⟨ta, tc, rfl, hz2⟩ := id hr2.1
  obtain ⟨ua, uc, rfl, hz3⟩ := id hr3.1
  have h0 : w.heap.size + 2 ≤ w0.heap.size := hx3.lt
  have hs1 := hb1.size
  have hbA : Below w1.heap.size w1 ((w1.alloc (.cells #[.int .i64 n1, .slice va es.length vc] 25)).alloc (.cells #[.int .i64 m, .int .i64 b, .slice ta zs.length tc] 28)) := ((Below.refl _ _).alloc (Nat.le_refl _) _).alloc (by simp) _
  have hB5 : Box ((w1.alloc (.cells #[.int .i64 n1, .slice va es.length vc] 25)).alloc (.cells #[.int .i64 m, .int .i64 b, .slice ta zs.length tc] 28)) w1.heap.size 25 #[.int .i64 n1, .slice va es.length vc] := (Box.new _ _ _).alloc _
  have hB6 : Box ((w1.alloc (.cells #[.int .i64 n1, .slice va es.length vc] 25)).alloc (.cells #[.int .i64 m, .int .i64 b, .slice ta zs.length tc] 28)) (w1.heap.size + 1) 28 #[.int .i64 m, .int .i64 b, .slice ta zs.length tc] := by have := Box.new (w1.alloc (.cells #[.int .i64 n1, .slice va es.length vc] 25)) 28 #[.int .i64 m, .int .i64 b, .slice ta zs.length tc]; simpa using this
  go_upto_region 2 with fail
  generalize ((w1.alloc (.cells #[.int .i64 n1, .slice va es.length vc] 25)).alloc (.cells #[.int .i64 m, .int .i64 b, .slice ta zs.length tc] 28)) = w2 at hbA hB5 hB6 ⊢
  have hsA := hbA.size
  have h2 := (hx2.keep hb1).keep hbA
  have h3 := (hx3.keep hb1).keep hbA
  have p0 := h2.cell 0
  have p1 := h2.cell 1
  have q0 := h3.cell 0
  have q1 := h3.cell 1
  have q2 := h3.cell 2
  have fp0 := h2.frozen 0
  have fp1 := h2.frozen 1
  have fq0 := h3.frozen 0
  have fq1 := h3.frozen 1
  have fq2 := h3.frozen 2
  have x0 := hB5.cell 0
  have x1 := hB5.cell 1
  have y0 := hB6.cell 0
  have y1 := hB6.cell 1
  have y2 := hB6.cell 2
  have hl2 := hB6.lt
  simp only [List.getElem?_toArray, List.getElem?_cons_succ, List.getElem?_cons_zero] at p0 p1 q0 q1 q2 x0 x1 y0 y1 y2
  have e1 : ¬ w.heap.size = w1.heap.size := by omega
  have e2 : ¬ w.heap.size = w1.heap.size + 1 := by omega
  have e3 : ¬ w.heap.size + 1 = w1.heap.size := by omega
  have e5 : ¬ w1.heap.size = w.heap.size := by omega
  have e6 : ¬ w1.heap.size + 1 = w.heap.size := by omega
  have e7 : ¬ w1.heap.size = w.heap.size + 1 := by omega
  have HR := Lib.hid (fun x0 x1 y0 y1 y2 => (drawnV_out (n := n1) (m := m) (a := b) hbl h0 (bel_trans hb1 hbA) ⟨hl.1, hl.2.1⟩ ⟨(InR.keep hr1.1 hbA).wider (Nat.le_refl _) hsA (Nat.le_refl _), hr1.2⟩ ⟨(InR.keep hr2.1 hbA).wider (Nat.le_refl _) hsA (Nat.le_refl _), hr2.2⟩ x0 x1 y0 y1 y2).drew)
  clear hz hz2 hz3 hr1 hr2 hr3 hb1 hbl hbA hB5 hB6 h2 h3 hx2 hx3 hl
  go_wp2_with fail
  go_region_held3 (fun w' : World => w'.cell? ⟨w1.heap.size, 0, none⟩ = some (.int .i64 n1) ∧ w'.cell? ⟨w1.heap.size, 1, none⟩ = some (.slice va es.length vc) ∧ w'.cell? ⟨w1.heap.size + 1, 0, none⟩ = some (.int .i64 m) ∧ w'.cell? ⟨w1.heap.size + 1, 1, none⟩ = some (.int .i64 b) ∧ w'.cell? ⟨w1.heap.size + 1, 2, none⟩ = some (.slice ta zs.length tc)) (refine ⟨?_, ?_, ?_, ?_, ?_⟩ <;> go_simp) (fail)
  all_goals
    go_wp2
    try simp only [Exit.inBlock, Exit.then]
    refine bodyPost_ret (v := .tuple #[.agg #[.int .i64 n1, .slice va es.length vc], .agg #[.int .i64 m, .int .i64 b, .slice ta zs.length tc]]) ?_ rfl (HR.out _ _ _ _ _)
    rw [results_cc rfl]
    go_simp

set_option maxHeartbeats 4000000 in
theorem dDrawRelaxEdge (a : Option Addr) (n cap : Nat) (w : World) (hb : Bytes w a n) (hcap : n ≤ cap) (hn : n ≤ 281474976710656) :
    Calls Try.prog 50 #[.slice a n cap] w (DrawnE w) := by
  have hbl : Below w.heap.size w ((w.alloc (.cells #[.int .i64 0, .slice none 0 0] 25)).alloc (.cells #[.int .i64 0, .int .i64 0, .slice none 0 0] 28)) := ((Below.refl _ _).alloc (Nat.le_refl _) _).alloc (by simp) _
  have hx2 : Box ((w.alloc (.cells #[.int .i64 0, .slice none 0 0] 25)).alloc (.cells #[.int .i64 0, .int .i64 0, .slice none 0 0] 28)) w.heap.size 25 #[.int .i64 0, .slice none 0 0] := (Box.new _ _ _).alloc _
  have hx3 : Box ((w.alloc (.cells #[.int .i64 0, .slice none 0 0] 25)).alloc (.cells #[.int .i64 0, .int .i64 0, .slice none 0 0] 28)) (w.heap.size + 1) 28 #[.int .i64 0, .int .i64 0, .slice none 0 0] := by have := Box.new (w.alloc (.cells #[.int .i64 0, .slice none 0 0] 25)) 28 #[.int .i64 0, .int .i64 0, .slice none 0 0]; simpa using this
  have HC := Lib.hid hb
  clear hb
  go_enter Try.func50, Try.ntmps50
  go_wp2_with fail
  generalize ((w.alloc (.cells #[.int .i64 0, .slice none 0 0] 25)).alloc (.cells #[.int .i64 0, .int .i64 0, .slice none 0 0] 28)) = w0 at hbl hx2 hx3 ⊢
  refine (l5Case a n cap w0 (HC.out.keepB hbl) hcap hn).mono ?_
  rintro e w1 ⟨n1, es, s, m, b, zs, t, os, u, rfl, hl, hr1, hr2, hr3, hb1⟩
  obtain ⟨va, vc, rfl, hz⟩ := id hr1.1
  obtain ⟨ta, tc, rfl, hz2⟩ := id hr2.1
  obtain ⟨ua, uc, rfl, hz3⟩ := id hr3.1
  have h0 : w.heap.size + 2 ≤ w0.heap.size := hx3.lt
  have hs1 := hb1.size
  have hbA : Below w1.heap.size w1 ((w1.alloc (.cells #[.int .i64 n1, .slice va es.length vc] 25)).alloc (.cells #[.int .i64 m, .int .i64 b, .slice ta zs.length tc] 28)) := ((Below.refl _ _).alloc (Nat.le_refl _) _).alloc (by simp) _
  have hB5 : Box ((w1.alloc (.cells #[.int .i64 n1, .slice va es.length vc] 25)).alloc (.cells #[.int .i64 m, .int .i64 b, .slice ta zs.length tc] 28)) w1.heap.size 25 #[.int .i64 n1, .slice va es.length vc] := (Box.new _ _ _).alloc _
  have hB6 : Box ((w1.alloc (.cells #[.int .i64 n1, .slice va es.length vc] 25)).alloc (.cells #[.int .i64 m, .int .i64 b, .slice ta zs.length tc] 28)) (w1.heap.size + 1) 28 #[.int .i64 m, .int .i64 b, .slice ta zs.length tc] := by have := Box.new (w1.alloc (.cells #[.int .i64 n1, .slice va es.length vc] 25)) 28 #[.int .i64 m, .int .i64 b, .slice ta zs.length tc]; simpa using this
  go_upto_region 2 with fail
  generalize ((w1.alloc (.cells #[.int .i64 n1, .slice va es.length vc] 25)).alloc (.cells #[.int .i64 m, .int .i64 b, .slice ta zs.length tc] 28)) = w2 at hbA hB5 hB6 ⊢
  have hsA := hbA.size
  have h2 := (hx2.keep hb1).keep hbA
  have h3 := (hx3.keep hb1).keep hbA
  have p0 := h2.cell 0
  have p1 := h2.cell 1
  have q0 := h3.cell 0
  have q1 := h3.cell 1
  have q2 := h3.cell 2
  have fp0 := h2.frozen 0
  have fp1 := h2.frozen 1
  have fq0 := h3.frozen 0
  have fq1 := h3.frozen 1
  have fq2 := h3.frozen 2
  have x0 := hB5.cell 0
  have x1 := hB5.cell 1
  have y0 := hB6.cell 0
  have y1 := hB6.cell 1
  have y2 := hB6.cell 2
  have hl2 := hB6.lt
  simp only [List.getElem?_toArray, List.getElem?_cons_succ, List.getElem?_cons_zero] at p0 p1 q0 q1 q2 x0 x1 y0 y1 y2
  have e1 : ¬ w.heap.size = w1.heap.size := by omega
  have e2 : ¬ w.heap.size = w1.heap.size + 1 := by omega
  have e3 : ¬ w.heap.size + 1 = w1.heap.size := by omega
  have e5 : ¬ w1.heap.size = w.heap.size := by omega
  have e6 : ¬ w1.heap.size + 1 = w.heap.size := by omega
  have e7 : ¬ w1.heap.size = w.heap.size + 1 := by omega
  have HR := Lib.hid (fun x0 x1 y0 y1 y2 => (drawnV_out (n := n1) (m := m) (a := b) hbl h0 (bel_trans hb1 hbA) ⟨hl.1, hl.2.1⟩ ⟨(InR.keep hr1.1 hbA).wider (Nat.le_refl _) hsA (Nat.le_refl _), hr1.2⟩ ⟨(InR.keep hr2.1 hbA).wider (Nat.le_refl _) hsA (Nat.le_refl _), hr2.2⟩ x0 x1 y0 y1 y2).drew)
  have hrow := InR.keep hr3.1 hbA
  have hlen := hl.2.2
  clear hz hz2 hz3 hr1 hr2 hr3 hb1 hbl hbA hB5 hB6 h2 h3 hx2 hx3 hl
  by_cases ho : os.length = 0
  · have ho' : (os.length : Int) = 0 := by omega
    have hob : ((os.length : Int) == 0) = true := by simpa using ho
    clear hrow
    go_wp2_with fail
    go_region_held3 (fun w' : World => w'.cell? ⟨w1.heap.size, 0, none⟩ = some (.int .i64 n1) ∧ w'.cell? ⟨w1.heap.size, 1, none⟩ = some (.slice va es.length vc) ∧ w'.cell? ⟨w1.heap.size + 1, 0, none⟩ = some (.int .i64 m) ∧ w'.cell? ⟨w1.heap.size + 1, 1, none⟩ = some (.int .i64 b) ∧ w'.cell? ⟨w1.heap.size + 1, 2, none⟩ = some (.slice ta zs.length tc)) (refine ⟨?_, ?_, ?_, ?_, ?_⟩ <;> go_simp) (fail)
    all_goals
      go_wp2
      try simp only [Exit.inBlock, Exit.then]
      refine bodyPost_ret (v := .tuple #[.agg #[.int .i64 n1, .slice va es.length vc], .agg #[.int .i64 m, .int .i64 b, .slice ta zs.length tc], .int .i64 0]) ?_ rfl ((HR.out _ _ _ _ _).edge)
      rw [results_cct rfl]
      go_simp
  · have ho' : ¬ (os.length : Int) = 0 := by omega
    have ho2 : (0 : Int) < os.length := by omega
    have ho3 : 0 < os.length := by omega
    have hob : ((os.length : Int) == 0) = false := by simpa using ho'
    obtain ⟨_, _, he9, hz9⟩ := hrow
    injection he9 with g1 g2 g3
    subst g1
    rcases hz9 with hz9 | ⟨bu, ou, rfl, k1, k2, k3, hcu⟩
    · omega
    have z0 : w2.cell? ⟨bu, ou, none⟩ = some (.int .i64 (os.getD 0 0)) := (hcu 0 (by omega)).1
    have e9 : ¬ bu = w.heap.size := by omega
    have e10 : ¬ bu = w.heap.size + 1 := by omega
    have e11 : ¬ w.heap.size = bu := by omega
    have e12 : ¬ w.heap.size + 1 = bu := by omega
    clear hcu g2 g3
    go_wp2_with fail
    go_region_held3 (fun w' : World => w'.cell? ⟨w1.heap.size, 0, none⟩ = some (.int .i64 n1) ∧ w'.cell? ⟨w1.heap.size, 1, none⟩ = some (.slice va es.length vc) ∧ w'.cell? ⟨w1.heap.size + 1, 0, none⟩ = some (.int .i64 m) ∧ w'.cell? ⟨w1.heap.size + 1, 1, none⟩ = some (.int .i64 b) ∧ w'.cell? ⟨w1.heap.size + 1, 2, none⟩ = some (.slice ta zs.length tc) ∧ w'.cell? ⟨bu, ou, none⟩ = some (.int .i64 (os.getD 0 0))) (refine ⟨?_, ?_, ?_, ?_, ?_, ?_⟩ <;> go_simp) (fail)
    all_goals
      go_wp2
      try simp only [Exit.inBlock, Exit.then]
      refine bodyPost_ret (v := .tuple #[.agg #[.int .i64 n1, .slice va es.length vc], .agg #[.int .i64 m, .int .i64 b, .slice ta zs.length tc], .int .i64 (os.getD 0 0)]) ?_ rfl ((HR.out _ _ _ _ _).edge)
      rw [results_cct rfl]
      go_simp
end Go.Proofs.Ytbcbknebjbelmaa
