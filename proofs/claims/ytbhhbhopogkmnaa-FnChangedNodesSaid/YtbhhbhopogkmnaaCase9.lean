/- The cases that the laws on changes draw. -/
import Derived.Test.YtbhhbhopogkmnaaDraw9
namespace Go.Proofs.Ytbhhbhopogkmnaa
open Go.RowKit Go.BigFrame Go.Deep
set_option linter.unusedVariables false
set_option linter.unusedSimpArgs false
set_option linter.unnecessarySimpa false

/-- A graph and changes are drawn. -/
def DrawnC9 (w : World) (e : Ending) (w' : World) : Prop :=
  ∃ (n : Int) (es : List Ed) (v : Value) (cs : List Ch) (t : Value), e = .returned (.tuple #[.agg #[.int .i64 n, v], t]) ∧ (es.length ≤ 41 ∧ cs.length ≤ 7) ∧ (InR true w' w.heap.size w'.heap.size v es.length 3 (cellE es) ∧ okS v) ∧ (OwnCh w w' t cs ∧ okS t) ∧ Below w.heap.size w w'
theorem drawnC9_of {w w0 w9 : World} {lo hi lo2 hi2 : Nat} {n : Int} {es : List Ed} {v t : Value} {cs : List Ch} (h0 : w.heap.size < w0.heap.size) (hb : Below w.heap.size w w9)
    (hrow : InR true w9 lo hi v es.length 3 (cellE es)) (hlo : w0.heap.size ≤ lo) (hhi : hi ≤ w9.heap.size) (hok : okS v) (hl : es.length ≤ 41) (hrow2 : InR true w9 lo2 hi2 t cs.length 4 (cellCh cs)) (hlo2 : w0.heap.size ≤ lo2) (hhi2 : hi2 ≤ w9.heap.size) (hok2 : okS t) (hl2 : cs.length ≤ 7) :
    DrawnC9 w (.returned (.tuple #[.agg #[.int .i64 n, v], t])) ((w9.setCell ⟨w.heap.size, 0, none⟩ (.int .i64 n)).setCell ⟨w.heap.size, 1, none⟩ v) := by
  have hc : Chg w.heap.size (w.heap.size + 1) w9 ((w9.setCell ⟨w.heap.size, 0, none⟩ (.int .i64 n)).setCell ⟨w.heap.size, 1, none⟩ v) := ((Chg.refl _ _ _).setCell (by simp) (by simp) _).setCell (by simp) (by simp) _
  exact ⟨n, es, v, cs, t, rfl, ⟨hl, hl2⟩, ⟨(hrow.chg hc (.inl (by omega))).wider (by omega) (Nat.le_trans hhi hc.size) (Nat.le_refl _), hok⟩, ⟨(hrow2.chg hc (.inl (by omega))).wider (by omega) (Nat.le_trans hhi2 hc.size) (Nat.le_refl _), hok2⟩, bel_chg hb hc (Nat.le_refl _)⟩

set_option maxRecDepth 20000 in
set_option maxHeartbeats 4000000 in
theorem l9Case (a : Option Addr) (n cap : Nat) (w : World) (hb : Bytes w a n) (hcap : n ≤ cap) (hn : n ≤ 281474976710656) :
    Calls Try.prog 37 #[.slice a n cap] w (DrawnC9 w) := by
  have hbx := Box.new w 34 #[.int .i64 0, .slice none 0 0]
  have hbl : Below w.heap.size w (w.alloc (.cells #[.int .i64 0, .slice none 0 0] 34)) := (Below.refl _ _).alloc (Nat.le_refl _) _
  have HC := Lib.hid hb
  clear hb
  go_enter Try.func37, Try.ntmps37
  go_wp2_with fail
  generalize (w.alloc (.cells #[.int .i64 0, .slice none 0 0] 34)) = w0 at hbx hbl ⊢
  refine (l15Open a n cap w0 (HC.out.keepB hbl) hcap hn).mono ?_
  rintro e w1 ⟨g, rfl, hR⟩
  have hs0 : w.heap.size < w0.heap.size := hbx.lt
  have hg0 := hR.new
  have hs01 := hR.bel.size
  have K1 := Lib.hid (And.intro hR (hbx.keep hR.bel))
  clear hbx hR
  go_wp2_with fail
  refine (l2Draw w0 w1 g 0 K1.out.1 (by omega)).mono ?_
  rintro e w2 ⟨n0, es, v, rfl, hgv, hrow, hok, hR, hG⟩
  obtain ⟨va, vc, rfl, hz9⟩ := id hrow
  have h12 := (gVal_iff.1 hgv).1.2.1
  have h40 := (gVal_iff.1 hgv).1.2.2
  have hb2 : Below w2.heap.size w2 (w2.alloc (.cells #[.int .i64 n0, .slice va es.length vc] 34)) := (Below.refl _ _).alloc (Nat.le_refl _) _
  have hs1 := hG.size
  have hs23 := hb2.size
  have hlt1 := K1.out.1.lt
  have K2 := Lib.hid (And.intro (hR.keep hb2) (And.intro ((K1.out.2.grownG hG (by omega)).keep hb2) (And.intro (InR.keep hrow hb2) (And.intro hok (Box.new w2 34 #[.int .i64 n0, .slice va es.length vc])))))
  have HGV := Lib.hid hgv
  clear hz9 hgv hrow hok hR hG hb2
  go_wp2_with fail
  generalize (w2.alloc (.cells #[.int .i64 n0, .slice va es.length vc] 34)) = w3 at K2 hs23 ⊢
  have x0 : w3.cell? ⟨w2.heap.size, 0, none⟩ = some (.int .i64 n0) := by simpa using K2.out.2.2.2.2.cell 0
  have x1 : w3.cell? ⟨w2.heap.size, 1, none⟩ = some (.slice va es.length vc) := by simpa using K2.out.2.2.2.2.cell 1
  go_wp2_with fail
  refine (l9Changes w0 w3 g _ n0 es (.slice va es.length vc) w1.heap.size w2.heap.size K2.out.1 (by omega) K2.out.2.2.1 HGV.out (by omega) (by omega)).mono ?_
  rintro e w4 ⟨cs, t, rfl, hl7, hown, hokt, hR, hG⟩
  obtain ⟨ta, tc, rfl, hz9⟩ := id hown
  have hs4 := hG.size
  have K4 := Lib.hid (And.intro hR (And.intro (K2.out.2.1.grownG hG (by omega)) (And.intro (InR.grownG K2.out.2.2.1 hG (by omega)) (And.intro (K2.out.2.2.2.2.grownG hG (by omega)) (And.intro hown hokt)))))
  clear hR hG hz9 hown hokt x0 x1
  have x0 : w4.cell? ⟨w2.heap.size, 0, none⟩ = some (.int .i64 n0) := by simpa using K4.out.2.2.2.1.cell 0
  have x1 : w4.cell? ⟨w2.heap.size, 1, none⟩ = some (.slice va es.length vc) := by simpa using K4.out.2.2.2.1.cell 1
  go_wp2_with fail
  refine (l2Wrong w0 w4 g _ n0 es (.slice va es.length vc) K4.out.1 (by omega) K4.out.2.2.1.edges K2.out.2.2.2.1 (by omega)).mono ?_
  rintro e w9 ⟨n1, es1, v1, rfl, hl1, hrow1, hok1, hR, hG⟩
  obtain ⟨va1, vc1, rfl, hz9⟩ := id hrow1
  have hs9 := hG.size
  have K9 := Lib.hid (And.intro hR.bel (And.intro (K4.out.2.1.grownG hG (by omega)) (And.intro hrow1 (And.intro hok1 (InR.grownG K4.out.2.2.2.2.1 hG (by omega))))))
  have r0 : w9.cell? ⟨w.heap.size, 0, none⟩ = some (.int .i64 0) := by simpa using K9.out.2.1.cell 0
  have r1 : w9.cell? ⟨w.heap.size, 1, none⟩ = some (.slice none 0 0) := by simpa using K9.out.2.1.cell 1
  have r2 := K9.out.2.1.frozen 0
  have r3 := K9.out.2.1.frozen 1
  clear hz9 hrow1 hok1 hR hG x0 x1
  go_wp2
  try simp only [Exit.inBlock, Exit.then]
  refine bodyPost_ret (v := .tuple #[.agg #[.int .i64 n1, .slice va1 es1.length vc1], .slice ta cs.length tc]) ?_ rfl ?_
  · rw [results_cell_tmp rfl]
    go_simp
  exact drawnC9_of hs0 (bel_trans hbl K9.out.1) K9.out.2.2.1 (by omega) (Nat.le_refl _) K9.out.2.2.2.1 (by omega) K9.out.2.2.2.2 (by omega) (by omega) K4.out.2.2.2.2.2 (by omega)

set_option maxRecDepth 20000 in
set_option maxHeartbeats 2000000 in
theorem dDrawApplyChanges (a : Option Addr) (n cap : Nat) (w : World) (hb : Bytes w a n) (hcap : n ≤ cap) (hn : n ≤ 281474976710656) :
    Calls Try.prog 15 #[.slice a n cap] w (DrawnC9 w) := by
  have hbx := Box.new w 34 #[.int .i64 0, .slice none 0 0]
  have hbl : Below w.heap.size w (w.alloc (.cells #[.int .i64 0, .slice none 0 0] 34)) := (Below.refl _ _).alloc (Nat.le_refl _) _
  have HC := Lib.hid hb
  clear hb
  go_enter Try.func15, Try.ntmps15
  go_wp2_with fail
  generalize (w.alloc (.cells #[.int .i64 0, .slice none 0 0] 34)) = w0 at hbx hbl ⊢
  refine (l9Case a n cap w0 (HC.out.keepB hbl) hcap hn).mono ?_
  rintro e w9 ⟨n1, es1, v1, cs, t, rfl, ⟨hl1, hl2⟩, ⟨hrow1, hok1⟩, ⟨hrow2, hok2⟩, hb9⟩
  have hs0 : w.heap.size < w0.heap.size := hbx.lt
  obtain ⟨va1, vc1, rfl, hz9⟩ := id hrow1
  obtain ⟨ta, tc, rfl, hz8⟩ := id hrow2
  have K9 := Lib.hid (And.intro (hbx.keep hb9) (And.intro (bel_trans hbl hb9) (And.intro hrow1 (And.intro hok1 (And.intro hrow2 hok2)))))
  have r0 : w9.cell? ⟨w.heap.size, 0, none⟩ = some (.int .i64 0) := by simpa using K9.out.1.cell 0
  have r1 : w9.cell? ⟨w.heap.size, 1, none⟩ = some (.slice none 0 0) := by simpa using K9.out.1.cell 1
  have r2 := K9.out.1.frozen 0
  have r3 := K9.out.1.frozen 1
  clear hz9 hz8 hrow1 hok1 hrow2 hok2 hb9 hbx
  go_wp2
  try simp only [Exit.inBlock, Exit.then]
  refine bodyPost_ret (v := .tuple #[.agg #[.int .i64 n1, .slice va1 es1.length vc1], .slice ta cs.length tc]) ?_ rfl ?_
  · rw [results_cell_tmp rfl]
    go_simp
  exact drawnC9_of hs0 K9.out.2.1 K9.out.2.2.1 (Nat.le_refl _) (Nat.le_refl _) K9.out.2.2.2.1 hl1 K9.out.2.2.2.2.1 (Nat.le_refl _) (Nat.le_refl _) K9.out.2.2.2.2.2 hl2

set_option maxRecDepth 20000 in
set_option maxHeartbeats 2000000 in
theorem dDrawNetChanges (a : Option Addr) (n cap : Nat) (w : World) (hb : Bytes w a n) (hcap : n ≤ cap) (hn : n ≤ 281474976710656) :
    Calls Try.prog 20 #[.slice a n cap] w (DrawnC9 w) := by
  have hbx := Box.new w 34 #[.int .i64 0, .slice none 0 0]
  have hbl : Below w.heap.size w (w.alloc (.cells #[.int .i64 0, .slice none 0 0] 34)) := (Below.refl _ _).alloc (Nat.le_refl _) _
  have HC := Lib.hid hb
  clear hb
  go_enter Try.func20, Try.ntmps20
  go_wp2_with fail
  generalize (w.alloc (.cells #[.int .i64 0, .slice none 0 0] 34)) = w0 at hbx hbl ⊢
  refine (l9Case a n cap w0 (HC.out.keepB hbl) hcap hn).mono ?_
  rintro e w9 ⟨n1, es1, v1, cs, t, rfl, ⟨hl1, hl2⟩, ⟨hrow1, hok1⟩, ⟨hrow2, hok2⟩, hb9⟩
  have hs0 : w.heap.size < w0.heap.size := hbx.lt
  obtain ⟨va1, vc1, rfl, hz9⟩ := id hrow1
  obtain ⟨ta, tc, rfl, hz8⟩ := id hrow2
  have K9 := Lib.hid (And.intro (hbx.keep hb9) (And.intro (bel_trans hbl hb9) (And.intro hrow1 (And.intro hok1 (And.intro hrow2 hok2)))))
  have r0 : w9.cell? ⟨w.heap.size, 0, none⟩ = some (.int .i64 0) := by simpa using K9.out.1.cell 0
  have r1 : w9.cell? ⟨w.heap.size, 1, none⟩ = some (.slice none 0 0) := by simpa using K9.out.1.cell 1
  have r2 := K9.out.1.frozen 0
  have r3 := K9.out.1.frozen 1
  clear hz9 hz8 hrow1 hok1 hrow2 hok2 hb9 hbx
  go_wp2
  try simp only [Exit.inBlock, Exit.then]
  refine bodyPost_ret (v := .tuple #[.agg #[.int .i64 n1, .slice va1 es1.length vc1], .slice ta cs.length tc]) ?_ rfl ?_
  · rw [results_cell_tmp rfl]
    go_simp
  exact drawnC9_of hs0 K9.out.2.1 K9.out.2.2.1 (Nat.le_refl _) (Nat.le_refl _) K9.out.2.2.2.1 hl1 K9.out.2.2.2.2.1 (Nat.le_refl _) (Nat.le_refl _) K9.out.2.2.2.2.2 hl2

set_option maxRecDepth 20000 in
set_option maxHeartbeats 2000000 in
theorem dDrawUndoChanges (a : Option Addr) (n cap : Nat) (w : World) (hb : Bytes w a n) (hcap : n ≤ cap) (hn : n ≤ 281474976710656) :
    Calls Try.prog 24 #[.slice a n cap] w (DrawnC9 w) := by
  have hbx := Box.new w 34 #[.int .i64 0, .slice none 0 0]
  have hbl : Below w.heap.size w (w.alloc (.cells #[.int .i64 0, .slice none 0 0] 34)) := (Below.refl _ _).alloc (Nat.le_refl _) _
  have HC := Lib.hid hb
  clear hb
  go_enter Try.func24, Try.ntmps24
  go_wp2_with fail
  generalize (w.alloc (.cells #[.int .i64 0, .slice none 0 0] 34)) = w0 at hbx hbl ⊢
  refine (l9Case a n cap w0 (HC.out.keepB hbl) hcap hn).mono ?_
  rintro e w9 ⟨n1, es1, v1, cs, t, rfl, ⟨hl1, hl2⟩, ⟨hrow1, hok1⟩, ⟨hrow2, hok2⟩, hb9⟩
  have hs0 : w.heap.size < w0.heap.size := hbx.lt
  obtain ⟨va1, vc1, rfl, hz9⟩ := id hrow1
  obtain ⟨ta, tc, rfl, hz8⟩ := id hrow2
  have K9 := Lib.hid (And.intro (hbx.keep hb9) (And.intro (bel_trans hbl hb9) (And.intro hrow1 (And.intro hok1 (And.intro hrow2 hok2)))))
  have r0 : w9.cell? ⟨w.heap.size, 0, none⟩ = some (.int .i64 0) := by simpa using K9.out.1.cell 0
  have r1 : w9.cell? ⟨w.heap.size, 1, none⟩ = some (.slice none 0 0) := by simpa using K9.out.1.cell 1
  have r2 := K9.out.1.frozen 0
  have r3 := K9.out.1.frozen 1
  clear hz9 hz8 hrow1 hok1 hrow2 hok2 hb9 hbx
  go_wp2
  try simp only [Exit.inBlock, Exit.then]
  refine bodyPost_ret (v := .tuple #[.agg #[.int .i64 n1, .slice va1 es1.length vc1], .slice ta cs.length tc]) ?_ rfl ?_
  · rw [results_cell_tmp rfl]
    go_simp
  exact drawnC9_of hs0 K9.out.2.1 K9.out.2.2.1 (Nat.le_refl _) (Nat.le_refl _) K9.out.2.2.2.1 hl1 K9.out.2.2.2.2.1 (Nat.le_refl _) (Nat.le_refl _) K9.out.2.2.2.2.2 hl2
end Go.Proofs.Ytbhhbhopogkmnaa
