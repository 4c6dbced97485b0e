/- What the laws do with values of the type Kept: copies, comparisons, sizes, marks. -/
import Derived.Test.YtdlnekfifogcaaaSettled
import Derived.Test.YtdlnekfifogcaaaVEdges
import Derived.Test.YtdlnekfifogcaaaHeld
import Derived.Test.YtdlnekfifogcaaaMarks
namespace Go.Proofs.Ytdlnekfifogcaaa
open Go.RowKit Go.BigFrame Go.Deep Go.ChangeShapes Go.WideShapes Go.Joins
set_option linter.unusedVariables false
set_option linter.unusedSimpArgs false

/-- A row of edges and two rows of integers between two numbers; with dj: in blocks apart from each other. -/
def RK (dj fz : Bool) (w : World) (lo hi : Nat) (a b c : Value) (na nb nc : Nat) (ca cb cc : Nat → Value) : Prop :=
  ∃ l1 h1 l2 h2 l3 h3, (InR fz w l1 h1 a na 3 ca ∧ InR fz w l2 h2 b nb 1 cb ∧ InR fz w l3 h3 c nc 1 cc) ∧ (lo ≤ l1 ∧ h1 ≤ hi ∧ lo ≤ l2 ∧ h2 ≤ hi ∧ lo ≤ l3 ∧ h3 ≤ hi) ∧
    (dj = true → (h1 ≤ l2 ∨ h2 ≤ l1) ∧ (h1 ≤ l3 ∨ h3 ≤ l1) ∧ (h2 ≤ l3 ∨ h3 ≤ l2))
section
variable {dj fz : Bool} {w w' : World} {lo hi l h : Nat} {a b c : Value} {na nb nc : Nat} {ca cb cc : Nat → Value}
theorem RK.chg (r : RK dj fz w lo hi a b c na nb nc ca cb cc) (k : Chg l h w w') (d : h ≤ lo ∨ hi ≤ l) : RK dj fz w' lo hi a b c na nb nc ca cb cc := by
  obtain ⟨l1, h1, l2, h2, l3, h3, ⟨r1, r2, r3⟩, hb, hd⟩ := r
  exact ⟨l1, h1, l2, h2, l3, h3, ⟨r1.chg k (by omega), r2.chg k (by omega), r3.chg k (by omega)⟩, hb, hd⟩
theorem RK.keep (r : RK dj fz w lo hi a b c na nb nc ca cb cc) (k : Below w.heap.size w w') : RK dj fz w' lo hi a b c na nb nc ca cb cc := by
  obtain ⟨l1, h1, l2, h2, l3, h3, ⟨r1, r2, r3⟩, hb, hd⟩ := r
  exact ⟨l1, h1, l2, h2, l3, h3, ⟨r1.keep k, r2.keep k, r3.keep k⟩, hb, hd⟩
theorem RK.wider (r : RK dj fz w lo hi a b c na nb nc ca cb cc) (h1 : l ≤ lo) (h2 : hi ≤ h) (h3 : h ≤ w.heap.size) : RK dj fz w l h a b c na nb nc ca cb cc := by
  obtain ⟨l1, m1, l2, m2, l3, m3, rs, hb, hd⟩ := r
  exact ⟨l1, m1, l2, m2, l3, m3, rs, by omega, hd⟩
theorem RK.slices (r : RK dj fz w lo hi a b c na nb nc ca cb cc) : ∃ aa ac ba bc da dc, a = .slice aa na ac ∧ b = .slice ba nb bc ∧ c = .slice da nc dc := by
  obtain ⟨l1, h1, l2, h2, l3, h3, ⟨⟨aa, ac, e1, _⟩, ⟨ba, bc, e2, _⟩, ⟨da, dc, e3, _⟩⟩, _, _⟩ := r
  exact ⟨aa, ac, ba, bc, da, dc, e1, e2, e3⟩
end
theorem RK.rows {dj fz : Bool} {w : World} {lo hi : Nat} {a b c : Value} {x : List Ed} {y z : List Int} (r : RK dj fz w lo hi a b c x.length y.length z.length (cellE x) (cellI y) (cellI z)) : RowE w a x ∧ Row w b y ∧ Row w c z := by
  obtain ⟨l1, h1, l2, h2, l3, h3, ⟨r1, r2, r3⟩, _, _⟩ := r
  exact ⟨r1.edges, r2.rowI, r3.rowI⟩
theorem RK.of_rows {w : World} {a b c : Value} {x : List Ed} {y z : List Int} (ha : RowE w a x) (hb : Row w b y) (hc : Row w c z) : RK false false w 0 w.heap.size a b c x.length y.length z.length (cellE x) (cellI y) (cellI z) :=
  ⟨_, _, _, _, _, _, ⟨InR.of_edges ha, InR.of_row hb, InR.of_row hc⟩, by omega, fun h => by cases h⟩


set_option maxHeartbeats 2000000 in
theorem eqKept (n m A : Int) (x : List Ed) (y z : List Int) (a b c p q r : Value) (w : World) (ha : RowE w a x) (hb : Row w b y) (hc : Row w c z) (hp : RowE w p x) (hq : Row w q y) (hr : Row w r z) (hl : x.length ≤ 1048576) (hl2 : y.length ≤ 1048576) (hl3 : z.length ≤ 4194304) :
    Calls Try.prog 41 #[.agg #[.int .i64 n, a, .int .i64 m, .int .i64 A, b, c], .agg #[.int .i64 n, p, .int .i64 m, .int .i64 A, q, r]] w fun e w' => e = .returned (.bool true) ∧ Below w.heap.size w w' := by
  have hB : ∀ (A B : Obj), Below w.heap.size w ((w.alloc A).alloc B) := fun A B => ((Below.refl _ _).alloc (Nat.le_refl _) _).alloc (by simp) _
  have h1 := fun w' (h : Below w.heap.size w w') => eqGraph n x a p w' (ha.keep h) (hp.keep h) hl
  have h2 := fun w' (h : Below w.heap.size w w') => eqView m A y b q w' (hb.keep h) (hq.keep h) hl2
  have h3 := fun w' (h : Below w.heap.size w w') => eqIntS4 z c r w' (hc.keep h) (hr.keep h) hl3
  have H1 := Lib.hid h1
  have H2 := Lib.hid h2
  have H3 := Lib.hid h3
  have b0 : Box ((w.alloc (.cells #[.int .i64 n, a, .int .i64 m, .int .i64 A, b, c] 60)).alloc (.cells #[.int .i64 n, p, .int .i64 m, .int .i64 A, q, r] 60)) w.heap.size 60 #[.int .i64 n, a, .int .i64 m, .int .i64 A, b, c] := (Box.new w _ _).alloc _
  have b1 : Box ((w.alloc (.cells #[.int .i64 n, a, .int .i64 m, .int .i64 A, b, c] 60)).alloc (.cells #[.int .i64 n, p, .int .i64 m, .int .i64 A, q, r] 60)) (w.heap.size + 1) 60 #[.int .i64 n, p, .int .i64 m, .int .i64 A, q, r] := by
    have := Box.new (w.alloc (.cells #[.int .i64 n, a, .int .i64 m, .int .i64 A, b, c] 60)) 60 #[.int .i64 n, p, .int .i64 m, .int .i64 A, q, r]
    simpa using this
  have K0 := Lib.hid (And.intro (hB (.cells #[.int .i64 n, a, .int .i64 m, .int .i64 A, b, c] 60) (.cells #[.int .i64 n, p, .int .i64 m, .int .i64 A, q, r] 60)) (And.intro b0 b1))
  obtain ⟨aa, ac, rfl, hz0⟩ := ha
  obtain ⟨ba, bc, rfl, hz1⟩ := hb
  obtain ⟨da, dc, rfl, hz2⟩ := hc
  obtain ⟨pa, pc, rfl, hz3⟩ := hp
  obtain ⟨qa, qc, rfl, hz4⟩ := hq
  obtain ⟨ra, rc, rfl, hz5⟩ := hr
  clear hz0 hz1 hz2 hz3 hz4 hz5 h1 h2 h3 hB b0 b1
  go_enter Try.func41, Try.ntmps41
  go_wp2_with fail
  generalize ((w.alloc (.cells #[.int .i64 n, .slice aa x.length ac, .int .i64 m, .int .i64 A, .slice ba y.length bc, .slice da z.length dc] 60)).alloc (.cells #[.int .i64 n, .slice pa x.length pc, .int .i64 m, .int .i64 A, .slice qa y.length qc, .slice ra z.length rc] 60)) = v0 at K0 ⊢
  refine (H1.out _ K0.out.1).mono ?_
  rintro e v1 ⟨rfl, hb1⟩
  have K1 := Lib.hid (And.intro (bel_trans K0.out.1 hb1) (And.intro (K0.out.2.1.keep hb1) (K0.out.2.2.keep hb1)))
  have x2_1 : v1.cell? ⟨w.heap.size, 2, none⟩ = some (.int .i64 m) := by simpa using K1.out.2.1.cell 2
  have y2_1 : v1.cell? ⟨w.heap.size + 1, 2, none⟩ = some (.int .i64 m) := by simpa using K1.out.2.2.cell 2
  have x3_1 : v1.cell? ⟨w.heap.size, 3, none⟩ = some (.int .i64 A) := by simpa using K1.out.2.1.cell 3
  have y3_1 : v1.cell? ⟨w.heap.size + 1, 3, none⟩ = some (.int .i64 A) := by simpa using K1.out.2.2.cell 3
  have x4_1 : v1.cell? ⟨w.heap.size, 4, none⟩ = some (.slice ba y.length bc) := by simpa using K1.out.2.1.cell 4
  have y4_1 : v1.cell? ⟨w.heap.size + 1, 4, none⟩ = some (.slice qa y.length qc) := by simpa using K1.out.2.2.cell 4
  clear hb1
  go_wp2_with fail
  refine (H2.out _ K1.out.1).mono ?_
  rintro e v2 ⟨rfl, hb2⟩
  have K2 := Lib.hid (And.intro (bel_trans K1.out.1 hb2) (And.intro (K1.out.2.1.keep hb2) (K1.out.2.2.keep hb2)))
  have x5_2 : v2.cell? ⟨w.heap.size, 5, none⟩ = some (.slice da z.length dc) := by simpa using K2.out.2.1.cell 5
  have y5_2 : v2.cell? ⟨w.heap.size + 1, 5, none⟩ = some (.slice ra z.length rc) := by simpa using K2.out.2.2.cell 5
  clear hb2 x2_1 x3_1 x4_1 y2_1 y3_1 y4_1
  go_wp2_with fail
  refine (H3.out _ K2.out.1).mono ?_
  rintro e v3 ⟨rfl, hb3⟩
  have K3 := Lib.hid (bel_trans K2.out.1 hb3)
  clear hb3 x5_2 y5_2
  go_wp2
  go_ret
  exact ⟨rfl, K3.out⟩


set_option maxHeartbeats 2000000 in
theorem markKept (k : Nat) (n m A : Int) (w : World) (lo hi na nb nc : Nat) (a b c : Value) (ca cb cc : Nat → Value) (h : RK true true w lo hi a b c na nb nc ca cb cc) (hna : na ≤ 1048576) (hnb : nb ≤ 1048576) (hnc : nc ≤ 1048576) (hk : k ≤ 1000000000) (hhi : hi ≤ w.heap.size) :
    Calls Try.prog 42 #[.agg #[.int .i64 n, a, .int .i64 m, .int .i64 A, b, c], .int .i64 (k : Int)] w fun e w' => e = .returned (.int .i64 ((k + (na * 3 + nb + nc) : Nat) : Int)) ∧ RK true true w' lo hi a b c na nb nc (marked k) (marked (k + na * 3 : Nat)) (marked (k + na * 3 + nb : Nat)) ∧ Chg lo hi w w' := by
  obtain ⟨aa, ac, ba, bc, da, dc, rfl, rfl, rfl⟩ := id h.slices
  obtain ⟨l1, h1, l2, h2, l3, h3, ⟨r1, r2, r3⟩, hb, hd⟩ := h
  obtain ⟨d1, d2, d3⟩ := hd rfl
  have HR1 := Lib.hid r1
  have HR2 := Lib.hid r2
  have HR3 := Lib.hid r3
  have HBD := Lib.hid hb
  have HD := Lib.hid (And.intro d1 (And.intro d2 d3))
  have b0 := Box.new w 60 #[.int .i64 n, .slice aa na ac, .int .i64 m, .int .i64 A, .slice ba nb bc, .slice da nc dc]
  have hb0 : Below w.heap.size w (w.alloc (.cells #[.int .i64 n, .slice aa na ac, .int .i64 m, .int .i64 A, .slice ba nb bc, .slice da nc dc] 60)) := (Below.refl _ _).alloc (Nat.le_refl _) _
  have K0 := Lib.hid (And.intro hb0 b0)
  have m1 := fun w' (h : InR true w' l1 h1 (.slice aa na ac) na 3 ca) (hh : h1 ≤ w'.heap.size) => markGraph k n w' l1 h1 na (.slice aa na ac) ca h (by omega) (by omega) hh
  have m2 := fun w' (h : InR true w' l2 h2 (.slice ba nb bc) nb 1 cb) (hh : h2 ≤ w'.heap.size) => markView (k + na * 3) m A w' l2 h2 nb (.slice ba nb bc) cb h (by omega) (by omega) hh
  have m3 := fun w' (h : InR true w' l3 h3 (.slice da nc dc) nc 1 cc) => markIntS (k + na * 3 + nb) w' l3 h3 nc (.slice da nc dc) cc h (by omega) (by omega)
  have M1 := Lib.hid m1
  have M2 := Lib.hid m2
  have M3 := Lib.hid m3
  have HH := Lib.hid hhi
  clear r1 r2 r3 hb hd d1 d2 d3 b0 hb0 m1 m2 m3 hhi
  go_enter Try.func42, Try.ntmps42
  go_wp2_with fail
  generalize (w.alloc (.cells #[.int .i64 n, .slice aa na ac, .int .i64 m, .int .i64 A, .slice ba nb bc, .slice da nc dc] 60)) = v0 at K0 ⊢
  refine (M1.out _ (HR1.out.keep K0.out.1) (by have := HBD.out; have := HH.out; have := K0.out.1.size; omega)).mono ?_
  rintro e v1 ⟨rfl, q1, g1⟩
  have hBD := HBD.out
  have hDD := HD.out
  have hHH := HH.out
  have K1 := Lib.hid (And.intro ((Chg.of_below (lo := lo) (hi := hi) K0.out.1).trans (g1.mono (by omega) (by omega))) (And.intro (show Box v1 w.heap.size 60 #[.int .i64 n, .slice aa na ac, .int .i64 m, .int .i64 A, .slice ba nb bc, .slice da nc dc] from (g1.block _ K0.out.2.lt (.inr (by omega))).trans K0.out.2) (And.intro q1 (And.intro ((HR2.out.keep K0.out.1).chg g1 (by omega)) ((HR3.out.keep K0.out.1).chg g1 (by omega))))))
  have x2 : v1.cell? ⟨w.heap.size, 2, none⟩ = some (.int .i64 m) := by simpa using K1.out.2.1.cell 2
  have x3 : v1.cell? ⟨w.heap.size, 3, none⟩ = some (.int .i64 A) := by simpa using K1.out.2.1.cell 3
  have x4 : v1.cell? ⟨w.heap.size, 4, none⟩ = some (.slice ba nb bc) := by simpa using K1.out.2.1.cell 4
  clear q1 g1 hBD hDD hHH
  go_wp2_with fail
  refine (M2.out _ K1.out.2.2.2.1 (by have := HBD.out; have := HH.out; have := K1.out.1.size; omega)).mono ?_
  rintro e v2 ⟨rfl, q2, g2⟩
  have hBD := HBD.out
  have hDD := HD.out
  have hHH := HH.out
  have K2 := Lib.hid (And.intro (K1.out.1.trans (g2.mono (by omega) (by omega))) (And.intro (show Box v2 w.heap.size 60 #[.int .i64 n, .slice aa na ac, .int .i64 m, .int .i64 A, .slice ba nb bc, .slice da nc dc] from (g2.block _ K1.out.2.1.lt (.inr (by omega))).trans K1.out.2.1) (And.intro (K1.out.2.2.1.chg g2 (by omega)) (And.intro q2 (K1.out.2.2.2.2.chg g2 (by omega))))))
  have x5 : v2.cell? ⟨w.heap.size, 5, none⟩ = some (.slice da nc dc) := by simpa using K2.out.2.1.cell 5
  clear q2 g2 x2 x3 x4 hBD hDD hHH
  go_wp2_with fail
  refine (M3.out _ K2.out.2.2.2.2).mono ?_
  rintro e v3 ⟨rfl, q3, g3⟩
  have hBD := HBD.out
  have hDD := HD.out
  have K3 := Lib.hid (And.intro (K2.out.1.trans (g3.mono (by omega) (by omega))) (And.intro (K2.out.2.2.1.chg g3 (by omega)) (And.intro (K2.out.2.2.2.1.chg g3 (by omega)) q3)))
  clear q3 g3 x5 hBD hDD
  go_wp2
  go_ret
  refine ⟨congrArg (fun z => Ending.returned (Value.int .i64 z)) (by omega), ⟨l1, h1, l2, h2, l3, h3, ⟨K3.out.2.1, K3.out.2.2.1, K3.out.2.2.2⟩, HBD.out, fun _ => HD.out⟩, K3.out.1⟩

set_option maxHeartbeats 2000000 in
theorem heldKept (k : Nat) (n m A : Int) (dj fz : Bool) (w : World) (lo hi na nb nc : Nat) (a b c : Value) (h : RK dj fz w lo hi a b c na nb nc (marked k) (marked (k + na * 3 : Nat)) (marked (k + na * 3 + nb : Nat))) (hna : na ≤ 1048576) (hnb : nb ≤ 1048576) (hnc : nc ≤ 1048576) (hk : k ≤ 1000000000) (hhi : hi ≤ w.heap.size) :
    Calls Try.prog 43 #[.agg #[.int .i64 n, a, .int .i64 m, .int .i64 A, b, c], .int .i64 (k : Int)] w fun e w' => e = .returned (.int .i64 ((k + (na * 3 + nb + nc) : Nat) : Int)) ∧ Below w.heap.size w w' := by
  obtain ⟨aa, ac, ba, bc, da, dc, rfl, rfl, rfl⟩ := id h.slices
  obtain ⟨l1, h1, l2, h2, l3, h3, ⟨r1, r2, r3⟩, hb, hd⟩ := h
  have b0 := Box.new w 60 #[.int .i64 n, .slice aa na ac, .int .i64 m, .int .i64 A, .slice ba nb bc, .slice da nc dc]
  have hb0 : Below w.heap.size w (w.alloc (.cells #[.int .i64 n, .slice aa na ac, .int .i64 m, .int .i64 A, .slice ba nb bc, .slice da nc dc] 60)) := (Below.refl _ _).alloc (Nat.le_refl _) _
  have K0 := Lib.hid (And.intro hb0 b0)
  have m1 := fun w' (h : Below w.heap.size w w') => heldGraph k n w' l1 h1 na (.slice aa na ac) fz (r1.keep h) (by omega) (by omega) (by have := h.size; omega)
  have m2 := fun w' (h : Below w.heap.size w w') => heldView (k + na * 3) m A w' l2 h2 nb (.slice ba nb bc) fz (r2.keep h) (by omega) (by omega) (by have := h.size; omega)
  have m3 := fun w' (h : Below w.heap.size w w') => heldIntS (k + na * 3 + nb) fz w' l3 h3 nc (.slice da nc dc) (r3.keep h) (by omega) (by omega)
  have M1 := Lib.hid m1
  have M2 := Lib.hid m2
  have M3 := Lib.hid m3
  clear r1 r2 r3 hb hd b0 hb0 m1 m2 m3
  have n1 : decide (((k + na * 3 : Nat) : Int) < 0) = false := decide_eq_false (by omega)
  have n2 : decide (((k + na * 3 + nb : Nat) : Int) < 0) = false := decide_eq_false (by omega)
  have n3 : decide (((k + na * 3 + nb + nc : Nat) : Int) < 0) = false := decide_eq_false (by omega)
  go_enter Try.func43, Try.ntmps43
  go_wp2_with fail
  generalize (w.alloc (.cells #[.int .i64 n, .slice aa na ac, .int .i64 m, .int .i64 A, .slice ba nb bc, .slice da nc dc] 60)) = v0 at K0 ⊢
  refine (M1.out _ K0.out.1).mono ?_
  rintro e v1 ⟨rfl, hb1⟩
  have K1 := Lib.hid (And.intro (bel_trans K0.out.1 hb1) (K0.out.2.keep hb1))
  have x2 : v1.cell? ⟨w.heap.size, 2, none⟩ = some (.int .i64 m) := by simpa using K1.out.2.cell 2
  have x3 : v1.cell? ⟨w.heap.size, 3, none⟩ = some (.int .i64 A) := by simpa using K1.out.2.cell 3
  have x4 : v1.cell? ⟨w.heap.size, 4, none⟩ = some (.slice ba nb bc) := by simpa using K1.out.2.cell 4
  clear hb1
  go_wp2_with fail
  refine (M2.out _ K1.out.1).mono ?_
  rintro e v2 ⟨rfl, hb2⟩
  have K2 := Lib.hid (And.intro (bel_trans K1.out.1 hb2) (K1.out.2.keep hb2))
  have x5 : v2.cell? ⟨w.heap.size, 5, none⟩ = some (.slice da nc dc) := by simpa using K2.out.2.cell 5
  clear hb2 x2 x3 x4
  go_wp2_with fail
  refine (M3.out _ K2.out.1).mono ?_
  rintro e v3 ⟨rfl, hb3⟩
  have K3 := Lib.hid (bel_trans K2.out.1 hb3)
  clear hb3 x5
  go_wp2
  go_ret
  exact ⟨congrArg (fun z => Ending.returned (Value.int .i64 z)) (by omega), K3.out⟩


section
variable {H : Type} {enc : TypeId × Value → H} {w : World} {base : Nat} {spare : Nat → Bool} {held : Bool}
theorem array6 {α : Type} {cs : Array α} (h : cs.size = 6) : ∃ c0 c1 c2 c3 c4 c5, cs = #[c0, c1, c2, c3, c4, c5] := by
  obtain ⟨l⟩ := cs
  match l, h with
  | [c0, c1, c2, c3, c4, c5], _ => exact ⟨c0, c1, c2, c3, c4, c5, rfl⟩
end
end Go.Proofs.Ytdlnekfifogcaaa
