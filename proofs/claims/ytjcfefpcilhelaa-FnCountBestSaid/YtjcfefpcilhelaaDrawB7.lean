/- The draw of a graph and two nodes. -/
import Derived.Test.YtjcfefpcilhelaaTarget
import Derived.Test.YtjcfefpcilhelaaDraws3
namespace Go.Proofs.Ytjcfefpcilhelaa
open Go.RowKit Go.BigFrame Go.Deep
set_option linter.unusedVariables false
set_option linter.unusedSimpArgs false
set_option linter.unnecessarySimpa false

set_option maxHeartbeats 1000000 in
theorem dDrawCountBest (a : Option Addr) (n cap : Nat) (w : World) (hb : Bytes w a n) (hcap : n ≤ cap) (hn : n ≤ 281474976710656) :
    Calls Try.prog 35 #[.slice a n cap] w (DrawnC3 w) := by
  have hbx := Box.new w 25 #[.int .i64 0, .slice none 0 0]
  have hbl : Below w.heap.size w (w.alloc (.cells #[.int .i64 0, .slice none 0 0] 25)) := (Below.refl _ _).alloc (Nat.le_refl _) _
  have HC := Lib.hid hb
  clear hb
  go_enter Try.func35, Try.ntmps35
  go_wp2_with fail
  generalize (w.alloc (.cells #[.int .i64 0, .slice none 0 0] 25)) = w0 at hbx hbl ⊢
  refine (l4Target a n cap w0 (HC.out.keepB hbl) hcap hn).mono ?_
  rintro e w1 ⟨n1, es, v, m9, m, s, rfl, hl, hrow, hok, hb1⟩
  obtain ⟨va, vc, rfl, hz⟩ := id hrow
  have hB := hbx.keep hb1
  have r0 : w1.cell? ⟨w.heap.size, 0, none⟩ = some (.int .i64 0) := by simpa using hB.cell 0
  have r1 : w1.cell? ⟨w.heap.size, 1, none⟩ = some (.slice none 0 0) := by simpa using hB.cell 1
  have r2 := hB.frozen 0
  have r3 := hB.frozen 1
  have hlt1 := hB.lt
  have hb2 : Below w1.heap.size w1 (w1.alloc (.cells #[.int .i64 n1, .slice va es.length vc] 25)) := (Below.refl _ _).alloc (Nat.le_refl _) _
  have hr9 := drawnC3_out (n := n1) (m := m) (a := s) hbl hbx.lt (bel_trans hb1 hb2) hl ((hrow.keep hb2).wider (Nat.le_refl _) hb2.size (Nat.le_refl _)) hok
  rw [World.setCell_alloc_past _ _ _ _ hlt1] at hr9
  rw [World.setCell_alloc_past _ _ _ _ (by simpa using hlt1)] at hr9
  have HR := Lib.hid hr9
  clear hz hrow hok hb1 hb2 hr9 hB hbx hbl
  go_wp2
  try simp only [Exit.inBlock, Exit.then]
  refine bodyPost_ret (v := .tuple #[.agg #[.int .i64 n1, .slice va es.length vc], .int .i64 m, .int .i64 s]) ?_ rfl HR.out
  rw [results_ctt rfl]
  go_simp
end Go.Proofs.Ytjcfefpcilhelaa
