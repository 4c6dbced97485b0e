/- The draws of a graph, a kind and a source, for chapters 6 and 7. -/
import Derived.Test.YtbhhbhopogkmnaaDraws3
namespace Go.Proofs.Ytbhhbhopogkmnaa
open Go.RowKit Go.BigFrame Go.Deep
set_option linter.unusedVariables false
set_option linter.unusedSimpArgs false
set_option linter.unnecessarySimpa false

set_option maxHeartbeats 1000000 in
theorem dDrawKeepView (a : Option Addr) (n cap : Nat) (w : World) (hb : Bytes w a n) (hcap : n ≤ cap) (hn : n ≤ 281474976710656) :
    Calls Try.prog 30 #[.slice a n cap] w (DrawnC3 w) := by
  have hbx := Box.new w 34 #[.int .i64 0, .slice none 0 0]
  have hbl : Below w.heap.size w (w.alloc (.cells #[.int .i64 0, .slice none 0 0] 34)) := (Below.refl _ _).alloc (Nat.le_refl _) _
  have HC := Lib.hid hb
  clear hb
  go_enter Try.func30, Try.ntmps30
  go_wp2_with fail
  generalize (w.alloc (.cells #[.int .i64 0, .slice none 0 0] 34)) = w0 at hbx hbl ⊢
  refine (l3Case a n cap w0 (HC.out.keepB hbl) hcap hn).mono ?_
  rintro e w1 ⟨n1, es, v, m, s, rfl, hl, hrow, hok, hb1⟩
  obtain ⟨va, vc, rfl, hz⟩ := id hrow
  have hB := hbx.keep hb1
  have r0 : w1.cell? ⟨w.heap.size, 0, none⟩ = some (.int .i64 0) := by simpa using hB.cell 0
  have r1 : w1.cell? ⟨w.heap.size, 1, none⟩ = some (.slice none 0 0) := by simpa using hB.cell 1
  have r2 := hB.frozen 0
  have r3 := hB.frozen 1
  have HR := Lib.hid (drawnC3_out (n := n1) (m := m) (a := s) hbl hbx.lt hb1 hl hrow hok)
  clear hz hrow hok hb1 hB hbx hbl
  go_wp2
  try simp only [Exit.inBlock, Exit.then]
  refine bodyPost_ret (v := .tuple #[.agg #[.int .i64 n1, .slice va es.length vc], .int .i64 m, .int .i64 s]) ?_ rfl HR.out
  rw [results_ctt rfl]
  go_simp
end Go.Proofs.Ytbhhbhopogkmnaa
