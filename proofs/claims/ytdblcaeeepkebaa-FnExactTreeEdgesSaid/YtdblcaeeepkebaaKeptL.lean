/- What the laws do with values of the type Kept: copies, comparisons, sizes, marks. -/
import Derived.Test.YtdblcaeeepkebaaSettled
import Derived.Test.YtdblcaeeepkebaaMarksI
import Derived.Test.YtdblcaeeepkebaaHeld
import Derived.Test.YtdblcaeeepkebaaMarks
namespace Go.Proofs.Ytdblcaeeepkebaa
open Go.RowKit Go.BigFrame Go.Deep Go.ChangeShapes Go.WideShapes Go.Joins
set_option linter.unusedVariables false
set_option linter.unusedSimpArgs false

/-- A row of edges and two rows of integers between two numbers; with dj: in blocks apart from each other. -/
def RK (dj fz : Bool) (w : World) (lo hi : Nat) (a b c : Value) (na nb nc : Nat) (ca cb cc : Nat → Value) : Prop :=
  ∃ l1 h1 l2 h2 l3 h3, (InR fz w l1 h1 a na 3 ca ∧ InR fz w l2 h2 b nb 1 cb ∧ InR fz w l3 h3 c nc 1 cc) ∧ (lo ≤ l1 ∧ h1 ≤ hi ∧ lo ≤ l2 ∧ h2 ≤ hi ∧ lo ≤ l3 ∧ h3 ≤ hi) ∧
    (dj = true → (h1 ≤ l2 ∨ h2 ≤ l1) ∧ (h1 ≤ l3 ∨ h3 ≤ l1) ∧ (h2 ≤ l3 ∨ h3 ≤ l2))
section
variable {dj fz : Bool} {w w' : World} {lo hi l h : Nat} {a b c : Value} {na nb nc : Nat} {ca cb cc : Nat → Value}
theorem RK.chg (r : RK dj fz w lo hi a b c na nb nc ca cb cc) (k : Chg l h w w') (d : h ≤ lo ∨ hi ≤ l) : RK dj fz w' lo hi a b c na nb nc ca cb cc := by
  obtain ⟨l1, h1, l2, h2, l3, h3, ⟨r1, r2, r3⟩, hb, hd⟩ := r
  exact ⟨l1, h1, l2, h2, l3, h3, ⟨r1.chg k (by omega), r2.chg k (by omega), r3.chg k (by omega)⟩, hb, hd⟩
theorem RK.keep (r : RK dj fz w lo hi a b c na nb nc ca cb cc) (k : Below w.heap.size w w') : RK dj fz w' lo hi a b c na nb nc ca cb cc := by
  obtain ⟨l1, h1, l2, h2, l3, h3, ⟨r1, r2, r3⟩, hb, hd⟩ := r
  exact ⟨l1, h1, l2, h2, l3, h3, ⟨r1.keep k, r2.keep k, r3.keep k⟩, hb, hd⟩
theorem RK.wider (r : RK dj fz w lo hi a b c na nb nc ca cb cc) (h1 : l ≤ lo) (h2 : hi ≤ h) (h3 : h ≤ w.heap.size) : RK dj fz w l h a b c na nb nc ca cb cc := by
  obtain ⟨l1, m1, l2, m2, l3, m3, rs, hb, hd⟩ := r
  exact ⟨l1, m1, l2, m2, l3, m3, rs, by omega, hd⟩
theorem RK.slices (r : RK dj fz w lo hi a b c na nb nc ca cb cc) : ∃ aa ac ba bc da dc, a = .slice aa na ac ∧ b = .slice ba nb bc ∧ c = .slice da nc dc := by
  obtain ⟨l1, h1, l2, h2, l3, h3, ⟨⟨aa, ac, e1, _⟩, ⟨ba, bc, e2, _⟩, ⟨da, dc, e3, _⟩⟩, _, _⟩ := r
  exact ⟨aa, ac, ba, bc, da, dc, e1, e2, e3⟩
end
theorem RK.rows {dj fz : Bool} {w : World} {lo hi : Nat} {a b c : Value} {x : List Ed} {y z : List Int} (r : RK dj fz w lo hi a b c x.length y.length z.length (cellE x) (cellI y) (cellI z)) : RowE w a x ∧ Row w b y ∧ Row w c z := by
  obtain ⟨l1, h1, l2, h2, l3, h3, ⟨r1, r2, r3⟩, _, _⟩ := r
  exact ⟨r1.edges, r2.rowI, r3.rowI⟩
theorem RK.of_rows {w : World} {a b c : Value} {x : List Ed} {y z : List Int} (ha : RowE w a x) (hb : Row w b y) (hc : Row w c z) : RK false false w 0 w.heap.size a b c x.length y.length z.length (cellE x) (cellI y) (cellI z) :=
  ⟨_, _, _, _, _, _, ⟨InR.of_edges ha, InR.of_row hb, InR.of_row hc⟩, by omega, fun h => by cases h⟩


set_option maxHeartbeats 4000000 in
theorem toKept (n m A : Int) (x : List Ed) (y z : List Int) (a b c : Value) (w : World) (ha : RowE w a x) (hb : Row w b y) (hc : Row w c z) (hl : x.length ≤ 1048576) (hl2 : y.length ≤ 1048576) (hl3 : z.length ≤ 1048576) :
    Calls Try.prog 36 #[.agg #[.int .i64 n, a, .int .i64 m, .int .i64 A, b, c]] w fun e w' => ∃ p q r, e = .returned (.agg #[.int .i64 n, p, .int .i64 m, .int .i64 A, q, r]) ∧ RK true true w' w.heap.size w'.heap.size p q r x.length y.length z.length (cellE x) (cellI y) (cellI z) ∧ (okS p ∧ okS q ∧ okS r) ∧ Below w.heap.size w w' := by
  obtain ⟨aa, ac, rfl, hz0⟩ := id ha
  obtain ⟨ba, bc, rfl, hz1⟩ := id hb
  obtain ⟨da, dc, rfl, hz2⟩ := id hc
  clear hz0 hz1 hz2
  have HA := Lib.hid ha
  have HB := Lib.hid hb
  have HC := Lib.hid hc
  have h1 := fun w' h => toGraph n x (.slice aa x.length ac) w' (HA.out.keep h) hl
  have h2 := fun w' h => toView m A y (.slice ba y.length bc) w' (HB.out.keep h) hl2
  have h3 := fun w' h => toIntSN z (.slice da z.length dc) w' (HC.out.keep h) hl3
  have H1 := Lib.hid h1
  have H2 := Lib.hid h2
  have H3 := Lib.hid h3
  clear ha hb hc h1 h2 h3
  obtain ⟨w0, hw0⟩ : ∃ w0, w0 = w := ⟨_, rfl⟩
  subst hw0
  have hb0 : Below w0.heap.size w0 (((w0.alloc (.cells #[.int .i64 n, .slice aa x.length ac, .int .i64 m, .int .i64 A, .slice ba y.length bc, .slice da z.length dc] 53)).alloc (.cells #[.int .i64 0, .slice none 0 0, .int .i64 0, .int .i64 0, .slice none 0 0, .slice none 0 0] 57)).alloc (.cells #[.int .i64 0, .slice none 0 0, .int .i64 0, .int .i64 0, .slice none 0 0, .slice none 0 0] 57)) := (((Below.refl _ _).alloc (Nat.le_refl _) _).alloc (by simp) _).alloc (by simp <;> omega) _
  have b0 : Box (((w0.alloc (.cells #[.int .i64 n, .slice aa x.length ac, .int .i64 m, .int .i64 A, .slice ba y.length bc, .slice da z.length dc] 53)).alloc (.cells #[.int .i64 0, .slice none 0 0, .int .i64 0, .int .i64 0, .slice none 0 0, .slice none 0 0] 57)).alloc (.cells #[.int .i64 0, .slice none 0 0, .int .i64 0, .int .i64 0, .slice none 0 0, .slice none 0 0] 57)) w0.heap.size 53 #[.int .i64 n, .slice aa x.length ac, .int .i64 m, .int .i64 A, .slice ba y.length bc, .slice da z.length dc] := ((Box.new w0 53 _).alloc _).alloc _
  have b1 : Box (((w0.alloc (.cells #[.int .i64 n, .slice aa x.length ac, .int .i64 m, .int .i64 A, .slice ba y.length bc, .slice da z.length dc] 53)).alloc (.cells #[.int .i64 0, .slice none 0 0, .int .i64 0, .int .i64 0, .slice none 0 0, .slice none 0 0] 57)).alloc (.cells #[.int .i64 0, .slice none 0 0, .int .i64 0, .int .i64 0, .slice none 0 0, .slice none 0 0] 57)) (w0.heap.size + 1) 57 #[.int .i64 0, .slice none 0 0, .int .i64 0, .int .i64 0, .slice none 0 0, .slice none 0 0] := by
    have := (Box.new (w0.alloc (.cells #[.int .i64 n, .slice aa x.length ac, .int .i64 m, .int .i64 A, .slice ba y.length bc, .slice da z.length dc] 53)) 57 #[.int .i64 0, .slice none 0 0, .int .i64 0, .int .i64 0, .slice none 0 0, .slice none 0 0]).alloc (.cells #[.int .i64 0, .slice none 0 0, .int .i64 0, .int .i64 0, .slice none 0 0, .slice none 0 0] 57)
    simpa using this
  have b2 : Box (((w0.alloc (.cells #[.int .i64 n, .slice aa x.length ac, .int .i64 m, .int .i64 A, .slice ba y.length bc, .slice da z.length dc] 53)).alloc (.cells #[.int .i64 0, .slice none 0 0, .int .i64 0, .int .i64 0, .slice none 0 0, .slice none 0 0] 57)).alloc (.cells #[.int .i64 0, .slice none 0 0, .int .i64 0, .int .i64 0, .slice none 0 0, .slice none 0 0] 57)) (w0.heap.size + 1 + 1) 57 #[.int .i64 0, .slice none 0 0, .int .i64 0, .int .i64 0, .slice none 0 0, .slice none 0 0] := by
    have := Box.new ((w0.alloc (.cells #[.int .i64 n, .slice aa x.length ac, .int .i64 m, .int .i64 A, .slice ba y.length bc, .slice da z.length dc] 53)).alloc (.cells #[.int .i64 0, .slice none 0 0, .int .i64 0, .int .i64 0, .slice none 0 0, .slice none 0 0] 57)) 57 #[.int .i64 0, .slice none 0 0, .int .i64 0, .int .i64 0, .slice none 0 0, .slice none 0 0]
    simpa using this
  have K0 := Lib.hid (And.intro hb0 (And.intro b0 (And.intro b1 b2)))
  clear hb0 b0 b1 b2
  go_enter Try.func36, Try.ntmps36
  go_wp2_with fail
  generalize (((w0.alloc (.cells #[.int .i64 n, .slice aa x.length ac, .int .i64 m, .int .i64 A, .slice ba y.length bc, .slice da z.length dc] 53)).alloc (.cells #[.int .i64 0, .slice none 0 0, .int .i64 0, .int .i64 0, .slice none 0 0, .slice none 0 0] 57)).alloc (.cells #[.int .i64 0, .slice none 0 0, .int .i64 0, .int .i64 0, .slice none 0 0, .slice none 0 0] 57)) = v0 at K0 ⊢
  refine (H1.out _ (K0.out.1)).mono ?_
  rintro e v1 ⟨_, rfl, hn1, hb1⟩
  have ok1 := Lib.hid hn1.ok
  obtain ⟨g1, c1, rfl, hg1, hr1⟩ := hn1
  have K1 := Lib.hid (And.intro (bel_trans K0.out.1 hb1) (And.intro (K0.out.2.1.keep hb1) (And.intro (K0.out.2.2.1.keep hb1) (K0.out.2.2.2.keep hb1))))
  have hgs1 : w0.heap.size + 3 ≤ g1 := by have h1 := hg1.1; have h2 := K0.out.2.2.2.lt; omega
  have GS1 := Lib.hid hgs1
  have GL1 := Lib.hid hr1.lt
  have GB1 := Lib.hid hg1.2
  have Q1_1 : Hid (InR true v1 g1 (g1 + 1) (.slice (some ⟨g1, 0, none⟩) x.length c1) x.length 3 (cellE x)) := Lib.hid (InR.of_rowIs hr1 (by omega) (fun i hi => rfl) c1 (Nat.le_refl _) (Nat.lt_succ_self _) hr1.lt)
  clear hb1 hg1 hr1 hgs1
  have x0_1 : v1.cell? ⟨w0.heap.size, 0, none⟩ = some (.int .i64 n) := by simpa using K1.out.2.1.cell 0
  have x1_1 : v1.cell? ⟨w0.heap.size, 1, none⟩ = some (.slice aa x.length ac) := by simpa using K1.out.2.1.cell 1
  have x2_1 : v1.cell? ⟨w0.heap.size, 2, none⟩ = some (.int .i64 m) := by simpa using K1.out.2.1.cell 2
  have x3_1 : v1.cell? ⟨w0.heap.size, 3, none⟩ = some (.int .i64 A) := by simpa using K1.out.2.1.cell 3
  have x4_1 : v1.cell? ⟨w0.heap.size, 4, none⟩ = some (.slice ba y.length bc) := by simpa using K1.out.2.1.cell 4
  have x5_1 : v1.cell? ⟨w0.heap.size, 5, none⟩ = some (.slice da z.length dc) := by simpa using K1.out.2.1.cell 5
  have y0_1 : v1.cell? ⟨w0.heap.size + 1 + 1, 0, none⟩ = some (.int .i64 0) := by simpa using K1.out.2.2.2.cell 0
  have y1_1 : v1.cell? ⟨w0.heap.size + 1 + 1, 1, none⟩ = some (.slice none 0 0) := by simpa using K1.out.2.2.2.cell 1
  have y2_1 : v1.cell? ⟨w0.heap.size + 1 + 1, 2, none⟩ = some (.int .i64 0) := by simpa using K1.out.2.2.2.cell 2
  have y3_1 : v1.cell? ⟨w0.heap.size + 1 + 1, 3, none⟩ = some (.int .i64 0) := by simpa using K1.out.2.2.2.cell 3
  have y4_1 : v1.cell? ⟨w0.heap.size + 1 + 1, 4, none⟩ = some (.slice none 0 0) := by simpa using K1.out.2.2.2.cell 4
  have y5_1 : v1.cell? ⟨w0.heap.size + 1 + 1, 5, none⟩ = some (.slice none 0 0) := by simpa using K1.out.2.2.2.cell 5
  have f0_1 : v1.frozen? ⟨w0.heap.size + 1 + 1, 0, none⟩ = false := K1.out.2.2.2.frozen 0
  have f1_1 : v1.frozen? ⟨w0.heap.size + 1 + 1, 1, none⟩ = false := K1.out.2.2.2.frozen 1
  have f2_1 : v1.frozen? ⟨w0.heap.size + 1 + 1, 2, none⟩ = false := K1.out.2.2.2.frozen 2
  have f3_1 : v1.frozen? ⟨w0.heap.size + 1 + 1, 3, none⟩ = false := K1.out.2.2.2.frozen 3
  have f4_1 : v1.frozen? ⟨w0.heap.size + 1 + 1, 4, none⟩ = false := K1.out.2.2.2.frozen 4
  have f5_1 : v1.frozen? ⟨w0.heap.size + 1 + 1, 5, none⟩ = false := K1.out.2.2.2.frozen 5
  go_wp2_with fail
  refine (H2.out _ (((K1.out.1).setCell (by simp only; omega) _).setCell (by simp only; omega) _)).mono ?_
  rintro e v2 ⟨_, rfl, hn2, hb2⟩
  have ok2 := Lib.hid hn2.ok
  obtain ⟨g2, c2, rfl, hg2, hr2⟩ := hn2
  have hgs2 : w0.heap.size + 3 ≤ g2 := by have h1 := hg2.1; have h2 := K1.out.2.2.2.lt; simp at h1; omega
  have K2 : Hid (Below w0.heap.size w0 v2 ∧ Box v2 w0.heap.size 53 #[.int .i64 n, .slice aa x.length ac, .int .i64 m, .int .i64 A, .slice ba y.length bc, .slice da z.length dc] ∧ Box v2 (w0.heap.size + 1) 57 #[.int .i64 0, .slice none 0 0, .int .i64 0, .int .i64 0, .slice none 0 0, .slice none 0 0] ∧ Box v2 (w0.heap.size + 1 + 1) 57 #[.int .i64 n, .slice (some ⟨g1, 0, none⟩) x.length c1, .int .i64 0, .int .i64 0, .slice none 0 0, .slice none 0 0]) := Lib.hid ⟨bel_trans (((K1.out.1).setCell (by simp only; omega) _).setCell (by simp only; omega) _) hb2, ((K1.out.2.1.setOther (by omega) _ _).setOther (by omega) _ _).keep hb2, ((K1.out.2.2.1.setOther (by omega) _ _).setOther (by omega) _ _).keep hb2, by have := ((K1.out.2.2.2.set 0 (.int .i64 n)).set 1 (.slice (some ⟨g1, 0, none⟩) x.length c1)).keep hb2; simpa using this⟩
  have Q1_2 := Lib.hid (((Q1_1.out.set9 (u := .int .i64 n) (k := 0) (B := w0.heap.size + 1 + 1) (by have := GS1.out; omega)).set9 (u := .slice (some ⟨g1, 0, none⟩) x.length c1) (k := 1) (B := w0.heap.size + 1 + 1) (by have := GS1.out; omega)).keep hb2)
  clear x0_1 x1_1 x2_1 x3_1 x4_1 x5_1 y0_1 y1_1 y2_1 y3_1 y4_1 y5_1 f0_1 f1_1 f2_1 f3_1 f4_1 f5_1
  have GS2 := Lib.hid hgs2
  have GL2 := Lib.hid hr2.lt
  have GB2 := Lib.hid hg2.2
  have Q2_2 : Hid (InR true v2 g2 (g2 + 1) (.slice (some ⟨g2, 0, none⟩) y.length c2) y.length 1 (cellI y)) := Lib.hid (InR.of_rowIs hr2 (by omega) (fun i hi => rfl) c2 (Nat.le_refl _) (Nat.lt_succ_self _) hr2.lt)
  have GO2 : Hid (g1 < g2) := Lib.hid (by have h1 := hg2.1; have h2 := GL1.out; simp at h1; omega)
  clear hb2 hg2 hr2 hgs2
  have x0_2 : v2.cell? ⟨w0.heap.size, 0, none⟩ = some (.int .i64 n) := by simpa using K2.out.2.1.cell 0
  have x1_2 : v2.cell? ⟨w0.heap.size, 1, none⟩ = some (.slice aa x.length ac) := by simpa using K2.out.2.1.cell 1
  have x2_2 : v2.cell? ⟨w0.heap.size, 2, none⟩ = some (.int .i64 m) := by simpa using K2.out.2.1.cell 2
  have x3_2 : v2.cell? ⟨w0.heap.size, 3, none⟩ = some (.int .i64 A) := by simpa using K2.out.2.1.cell 3
  have x4_2 : v2.cell? ⟨w0.heap.size, 4, none⟩ = some (.slice ba y.length bc) := by simpa using K2.out.2.1.cell 4
  have x5_2 : v2.cell? ⟨w0.heap.size, 5, none⟩ = some (.slice da z.length dc) := by simpa using K2.out.2.1.cell 5
  have y0_2 : v2.cell? ⟨w0.heap.size + 1 + 1, 0, none⟩ = some (.int .i64 n) := by simpa using K2.out.2.2.2.cell 0
  have y1_2 : v2.cell? ⟨w0.heap.size + 1 + 1, 1, none⟩ = some (.slice (some ⟨g1, 0, none⟩) x.length c1) := by simpa using K2.out.2.2.2.cell 1
  have y2_2 : v2.cell? ⟨w0.heap.size + 1 + 1, 2, none⟩ = some (.int .i64 0) := by simpa using K2.out.2.2.2.cell 2
  have y3_2 : v2.cell? ⟨w0.heap.size + 1 + 1, 3, none⟩ = some (.int .i64 0) := by simpa using K2.out.2.2.2.cell 3
  have y4_2 : v2.cell? ⟨w0.heap.size + 1 + 1, 4, none⟩ = some (.slice none 0 0) := by simpa using K2.out.2.2.2.cell 4
  have y5_2 : v2.cell? ⟨w0.heap.size + 1 + 1, 5, none⟩ = some (.slice none 0 0) := by simpa using K2.out.2.2.2.cell 5
  have f0_2 : v2.frozen? ⟨w0.heap.size + 1 + 1, 0, none⟩ = false := K2.out.2.2.2.frozen 0
  have f1_2 : v2.frozen? ⟨w0.heap.size + 1 + 1, 1, none⟩ = false := K2.out.2.2.2.frozen 1
  have f2_2 : v2.frozen? ⟨w0.heap.size + 1 + 1, 2, none⟩ = false := K2.out.2.2.2.frozen 2
  have f3_2 : v2.frozen? ⟨w0.heap.size + 1 + 1, 3, none⟩ = false := K2.out.2.2.2.frozen 3
  have f4_2 : v2.frozen? ⟨w0.heap.size + 1 + 1, 4, none⟩ = false := K2.out.2.2.2.frozen 4
  have f5_2 : v2.frozen? ⟨w0.heap.size + 1 + 1, 5, none⟩ = false := K2.out.2.2.2.frozen 5
  go_wp2_with fail
  refine (H3.out _ ((((K2.out.1).setCell (by simp only; omega) _).setCell (by simp only; omega) _).setCell (by simp only; omega) _)).mono ?_
  rintro e v3 ⟨_, rfl, hn3, hb3⟩
  have ok3 := Lib.hid hn3.ok
  obtain ⟨g3, c3, rfl, hg3, hr3⟩ := hn3
  have hgs3 : w0.heap.size + 3 ≤ g3 := by have h1 := hg3.1; have h2 := K2.out.2.2.2.lt; simp at h1; omega
  have K3 : Hid (Below w0.heap.size w0 v3 ∧ Box v3 w0.heap.size 53 #[.int .i64 n, .slice aa x.length ac, .int .i64 m, .int .i64 A, .slice ba y.length bc, .slice da z.length dc] ∧ Box v3 (w0.heap.size + 1) 57 #[.int .i64 0, .slice none 0 0, .int .i64 0, .int .i64 0, .slice none 0 0, .slice none 0 0] ∧ Box v3 (w0.heap.size + 1 + 1) 57 #[.int .i64 n, .slice (some ⟨g1, 0, none⟩) x.length c1, .int .i64 m, .int .i64 A, .slice (some ⟨g2, 0, none⟩) y.length c2, .slice none 0 0]) := Lib.hid ⟨bel_trans ((((K2.out.1).setCell (by simp only; omega) _).setCell (by simp only; omega) _).setCell (by simp only; omega) _) hb3, (((K2.out.2.1.setOther (by omega) _ _).setOther (by omega) _ _).setOther (by omega) _ _).keep hb3, (((K2.out.2.2.1.setOther (by omega) _ _).setOther (by omega) _ _).setOther (by omega) _ _).keep hb3, by have := (((K2.out.2.2.2.set 2 (.int .i64 m)).set 3 (.int .i64 A)).set 4 (.slice (some ⟨g2, 0, none⟩) y.length c2)).keep hb3; simpa using this⟩
  have Q1_3 := Lib.hid ((((Q1_2.out.set9 (u := .int .i64 m) (k := 2) (B := w0.heap.size + 1 + 1) (by have := GS1.out; omega)).set9 (u := .int .i64 A) (k := 3) (B := w0.heap.size + 1 + 1) (by have := GS1.out; omega)).set9 (u := .slice (some ⟨g2, 0, none⟩) y.length c2) (k := 4) (B := w0.heap.size + 1 + 1) (by have := GS1.out; omega)).keep hb3)
  have Q2_3 := Lib.hid ((((Q2_2.out.set9 (u := .int .i64 m) (k := 2) (B := w0.heap.size + 1 + 1) (by have := GS2.out; omega)).set9 (u := .int .i64 A) (k := 3) (B := w0.heap.size + 1 + 1) (by have := GS2.out; omega)).set9 (u := .slice (some ⟨g2, 0, none⟩) y.length c2) (k := 4) (B := w0.heap.size + 1 + 1) (by have := GS2.out; omega)).keep hb3)
  clear x0_2 x1_2 x2_2 x3_2 x4_2 x5_2 y0_2 y1_2 y2_2 y3_2 y4_2 y5_2 f0_2 f1_2 f2_2 f3_2 f4_2 f5_2
  have GS3 := Lib.hid hgs3
  have GL3 := Lib.hid hr3.lt
  have GB3 := Lib.hid hg3.2
  have Q3_3 : Hid (InR true v3 g3 (g3 + 1) (.slice (some ⟨g3, 0, none⟩) z.length c3) z.length 1 (cellI z)) := Lib.hid (InR.of_rowIs hr3 (by omega) (fun i hi => rfl) c3 (Nat.le_refl _) (Nat.lt_succ_self _) hr3.lt)
  have GO3 : Hid (g2 < g3) := Lib.hid (by have h1 := hg3.1; have h2 := GL2.out; simp at h1; omega)
  clear hb3 hg3 hr3 hgs3
  have x0_3 : v3.cell? ⟨w0.heap.size, 0, none⟩ = some (.int .i64 n) := by simpa using K3.out.2.1.cell 0
  have x1_3 : v3.cell? ⟨w0.heap.size, 1, none⟩ = some (.slice aa x.length ac) := by simpa using K3.out.2.1.cell 1
  have x2_3 : v3.cell? ⟨w0.heap.size, 2, none⟩ = some (.int .i64 m) := by simpa using K3.out.2.1.cell 2
  have x3_3 : v3.cell? ⟨w0.heap.size, 3, none⟩ = some (.int .i64 A) := by simpa using K3.out.2.1.cell 3
  have x4_3 : v3.cell? ⟨w0.heap.size, 4, none⟩ = some (.slice ba y.length bc) := by simpa using K3.out.2.1.cell 4
  have x5_3 : v3.cell? ⟨w0.heap.size, 5, none⟩ = some (.slice da z.length dc) := by simpa using K3.out.2.1.cell 5
  have y0_3 : v3.cell? ⟨w0.heap.size + 1 + 1, 0, none⟩ = some (.int .i64 n) := by simpa using K3.out.2.2.2.cell 0
  have y1_3 : v3.cell? ⟨w0.heap.size + 1 + 1, 1, none⟩ = some (.slice (some ⟨g1, 0, none⟩) x.length c1) := by simpa using K3.out.2.2.2.cell 1
  have y2_3 : v3.cell? ⟨w0.heap.size + 1 + 1, 2, none⟩ = some (.int .i64 m) := by simpa using K3.out.2.2.2.cell 2
  have y3_3 : v3.cell? ⟨w0.heap.size + 1 + 1, 3, none⟩ = some (.int .i64 A) := by simpa using K3.out.2.2.2.cell 3
  have y4_3 : v3.cell? ⟨w0.heap.size + 1 + 1, 4, none⟩ = some (.slice (some ⟨g2, 0, none⟩) y.length c2) := by simpa using K3.out.2.2.2.cell 4
  have y5_3 : v3.cell? ⟨w0.heap.size + 1 + 1, 5, none⟩ = some (.slice none 0 0) := by simpa using K3.out.2.2.2.cell 5
  have f0_3 : v3.frozen? ⟨w0.heap.size + 1 + 1, 0, none⟩ = false := K3.out.2.2.2.frozen 0
  have f1_3 : v3.frozen? ⟨w0.heap.size + 1 + 1, 1, none⟩ = false := K3.out.2.2.2.frozen 1
  have f2_3 : v3.frozen? ⟨w0.heap.size + 1 + 1, 2, none⟩ = false := K3.out.2.2.2.frozen 2
  have f3_3 : v3.frozen? ⟨w0.heap.size + 1 + 1, 3, none⟩ = false := K3.out.2.2.2.frozen 3
  have f4_3 : v3.frozen? ⟨w0.heap.size + 1 + 1, 4, none⟩ = false := K3.out.2.2.2.frozen 4
  have f5_3 : v3.frozen? ⟨w0.heap.size + 1 + 1, 5, none⟩ = false := K3.out.2.2.2.frozen 5
  have z0_3 : v3.cell? ⟨w0.heap.size + 1, 0, none⟩ = some (.int .i64 0) := by simpa using K3.out.2.2.1.cell 0
  have g0_3 : v3.frozen? ⟨w0.heap.size + 1, 0, none⟩ = false := K3.out.2.2.1.frozen 0
  have z1_3 : v3.cell? ⟨w0.heap.size + 1, 1, none⟩ = some (.slice none 0 0) := by simpa using K3.out.2.2.1.cell 1
  have g1_3 : v3.frozen? ⟨w0.heap.size + 1, 1, none⟩ = false := K3.out.2.2.1.frozen 1
  have z2_3 : v3.cell? ⟨w0.heap.size + 1, 2, none⟩ = some (.int .i64 0) := by simpa using K3.out.2.2.1.cell 2
  have g2_3 : v3.frozen? ⟨w0.heap.size + 1, 2, none⟩ = false := K3.out.2.2.1.frozen 2
  have z3_3 : v3.cell? ⟨w0.heap.size + 1, 3, none⟩ = some (.int .i64 0) := by simpa using K3.out.2.2.1.cell 3
  have g3_3 : v3.frozen? ⟨w0.heap.size + 1, 3, none⟩ = false := K3.out.2.2.1.frozen 3
  have z4_3 : v3.cell? ⟨w0.heap.size + 1, 4, none⟩ = some (.slice none 0 0) := by simpa using K3.out.2.2.1.cell 4
  have g4_3 : v3.frozen? ⟨w0.heap.size + 1, 4, none⟩ = false := K3.out.2.2.1.frozen 4
  have z5_3 : v3.cell? ⟨w0.heap.size + 1, 5, none⟩ = some (.slice none 0 0) := by simpa using K3.out.2.2.1.cell 5
  have g5_3 : v3.frozen? ⟨w0.heap.size + 1, 5, none⟩ = false := K3.out.2.2.1.frozen 5
  go_wp2
  try simp only [Exit.inBlock, Exit.then]
  refine bodyPost_ret (v := .agg #[.int .i64 n, .slice (some ⟨g1, 0, none⟩) x.length c1, .int .i64 m, .int .i64 A, .slice (some ⟨g2, 0, none⟩) y.length c2, .slice (some ⟨g3, 0, none⟩) z.length c3]) ?_ rfl ?_
  · rw [results_cell1 rfl]
    go_simp
  have hch : ∀ u0 u1 u2 u3 u4 u5 u6, Chg (w0.heap.size + 1) (w0.heap.size + 3) v3 (((((((v3.setCell ⟨w0.heap.size + 1 + 1, 5, none⟩ u0).setCell ⟨w0.heap.size + 1, 0, none⟩ u1).setCell ⟨w0.heap.size + 1, 1, none⟩ u2).setCell ⟨w0.heap.size + 1, 2, none⟩ u3).setCell ⟨w0.heap.size + 1, 3, none⟩ u4).setCell ⟨w0.heap.size + 1, 4, none⟩ u5).setCell ⟨w0.heap.size + 1, 5, none⟩ u6) := fun u0 u1 u2 u3 u4 u5 u6 => ((((((((Chg.refl _ _ _).setCell (by simp only; omega) (by simp only; omega) _).setCell (by simp only; omega) (by simp only; omega) _).setCell (by simp only; omega) (by simp only; omega) _).setCell (by simp only; omega) (by simp only; omega) _).setCell (by simp only; omega) (by simp only; omega) _).setCell (by simp only; omega) (by simp only; omega) _).setCell (by simp only; omega) (by simp only; omega) _)
  have s1 := GS1.out
  have s2 := GO2.out
  have s3 := GO3.out
  refine ⟨_, _, _, rfl, ?_, ⟨ok1.out, ok2.out, ok3.out⟩, bel_chg K3.out.1 (hch _ _ _ _ _ _ _) (by omega)⟩
  exact ⟨_, _, _, _, _, _, ⟨Q1_3.out.chg (hch _ _ _ _ _ _ _) (.inl (by omega)), Q2_3.out.chg (hch _ _ _ _ _ _ _) (.inl (by omega)), Q3_3.out.chg (hch _ _ _ _ _ _ _) (.inl (by omega))⟩, by have := GL3.out; have := (hch (.int .i64 0) (.int .i64 0) (.int .i64 0) (.int .i64 0) (.int .i64 0) (.int .i64 0) (.int .i64 0)).size; simp at this ⊢; omega, fun _ => ⟨.inl (by omega), .inl (by omega), .inl (by omega)⟩⟩


set_option maxHeartbeats 2000000 in
theorem eqKept (n m A : Int) (x : List Ed) (y z : List Int) (a b c p q r : Value) (w : World) (ha : RowE w a x) (hb : Row w b y) (hc : Row w c z) (hp : RowE w p x) (hq : Row w q y) (hr : Row w r z) (hl : x.length ≤ 1048576) (hl2 : y.length ≤ 1048576) (hl3 : z.length ≤ 4194304) :
    Calls Try.prog 38 #[.agg #[.int .i64 n, a, .int .i64 m, .int .i64 A, b, c], .agg #[.int .i64 n, p, .int .i64 m, .int .i64 A, q, r]] w fun e w' => e = .returned (.bool true) ∧ Below w.heap.size w w' := by
  have hB : ∀ (A B : Obj), Below w.heap.size w ((w.alloc A).alloc B) := fun A B => ((Below.refl _ _).alloc (Nat.le_refl _) _).alloc (by simp) _
  have h1 := fun w' (h : Below w.heap.size w w') => eqGraph n x a p w' (ha.keep h) (hp.keep h) hl
  have h2 := fun w' (h : Below w.heap.size w w') => eqView m A y b q w' (hb.keep h) (hq.keep h) hl2
  have h3 := fun w' (h : Below w.heap.size w w') => eqIntS4 z c r w' (hc.keep h) (hr.keep h) hl3
  have H1 := Lib.hid h1
  have H2 := Lib.hid h2
  have H3 := Lib.hid h3
  have b0 : Box ((w.alloc (.cells #[.int .i64 n, a, .int .i64 m, .int .i64 A, b, c] 57)).alloc (.cells #[.int .i64 n, p, .int .i64 m, .int .i64 A, q, r] 57)) w.heap.size 57 #[.int .i64 n, a, .int .i64 m, .int .i64 A, b, c] := (Box.new w _ _).alloc _
  have b1 : Box ((w.alloc (.cells #[.int .i64 n, a, .int .i64 m, .int .i64 A, b, c] 57)).alloc (.cells #[.int .i64 n, p, .int .i64 m, .int .i64 A, q, r] 57)) (w.heap.size + 1) 57 #[.int .i64 n, p, .int .i64 m, .int .i64 A, q, r] := by
    have := Box.new (w.alloc (.cells #[.int .i64 n, a, .int .i64 m, .int .i64 A, b, c] 57)) 57 #[.int .i64 n, p, .int .i64 m, .int .i64 A, q, r]
    simpa using this
  have K0 := Lib.hid (And.intro (hB (.cells #[.int .i64 n, a, .int .i64 m, .int .i64 A, b, c] 57) (.cells #[.int .i64 n, p, .int .i64 m, .int .i64 A, q, r] 57)) (And.intro b0 b1))
  obtain ⟨aa, ac, rfl, hz0⟩ := ha
  obtain ⟨ba, bc, rfl, hz1⟩ := hb
  obtain ⟨da, dc, rfl, hz2⟩ := hc
  obtain ⟨pa, pc, rfl, hz3⟩ := hp
  obtain ⟨qa, qc, rfl, hz4⟩ := hq
  obtain ⟨ra, rc, rfl, hz5⟩ := hr
  clear hz0 hz1 hz2 hz3 hz4 hz5 h1 h2 h3 hB b0 b1
  go_enter Try.func38, Try.ntmps38
  go_wp2_with fail
  generalize ((w.alloc (.cells #[.int .i64 n, .slice aa x.length ac, .int .i64 m, .int .i64 A, .slice ba y.length bc, .slice da z.length dc] 57)).alloc (.cells #[.int .i64 n, .slice pa x.length pc, .int .i64 m, .int .i64 A, .slice qa y.length qc, .slice ra z.length rc] 57)) = v0 at K0 ⊢
  refine (H1.out _ K0.out.1).mono ?_
  rintro e v1 ⟨rfl, hb1⟩
  have K1 := Lib.hid (And.intro (bel_trans K0.out.1 hb1) (And.intro (K0.out.2.1.keep hb1) (K0.out.2.2.keep hb1)))
  have x2_1 : v1.cell? ⟨w.heap.size, 2, none⟩ = some (.int .i64 m) := by simpa using K1.out.2.1.cell 2
  have y2_1 : v1.cell? ⟨w.heap.size + 1, 2, none⟩ = some (.int .i64 m) := by simpa using K1.out.2.2.cell 2
  have x3_1 : v1.cell? ⟨w.heap.size, 3, none⟩ = some (.int .i64 A) := by simpa using K1.out.2.1.cell 3
  have y3_1 : v1.cell? ⟨w.heap.size + 1, 3, none⟩ = some (.int .i64 A) := by simpa using K1.out.2.2.cell 3
  have x4_1 : v1.cell? ⟨w.heap.size, 4, none⟩ = some (.slice ba y.length bc) := by simpa using K1.out.2.1.cell 4
  have y4_1 : v1.cell? ⟨w.heap.size + 1, 4, none⟩ = some (.slice qa y.length qc) := by simpa using K1.out.2.2.cell 4
  clear hb1
  go_wp2_with fail
  refine (H2.out _ K1.out.1).mono ?_
  rintro e v2 ⟨rfl, hb2⟩
  have K2 := Lib.hid (And.intro (bel_trans K1.out.1 hb2) (And.intro (K1.out.2.1.keep hb2) (K1.out.2.2.keep hb2)))
  have x5_2 : v2.cell? ⟨w.heap.size, 5, none⟩ = some (.slice da z.length dc) := by simpa using K2.out.2.1.cell 5
  have y5_2 : v2.cell? ⟨w.heap.size + 1, 5, none⟩ = some (.slice ra z.length rc) := by simpa using K2.out.2.2.cell 5
  clear hb2 x2_1 x3_1 x4_1 y2_1 y3_1 y4_1
  go_wp2_with fail
  refine (H3.out _ K2.out.1).mono ?_
  rintro e v3 ⟨rfl, hb3⟩
  have K3 := Lib.hid (bel_trans K2.out.1 hb3)
  clear hb3 x5_2 y5_2
  go_wp2
  go_ret
  exact ⟨rfl, K3.out⟩


set_option maxHeartbeats 2000000 in
theorem szKept (n m A : Int) (na nb nc ac bc dc : Nat) (aa ba da : Option Addr) (l : Nat) (w : World) (hl : l ≤ 1048576) (hna : na ≤ 9223372036854775807) (hnb : nb ≤ 9223372036854775807) (hnc : nc ≤ 9223372036854775807) :
    Calls Try.prog 34 #[.agg #[.int .i64 n, .slice aa na ac, .int .i64 m, .int .i64 A, .slice ba nb bc, .slice da nc dc], .int .i64 l] w fun e w' => e = .returned (.int .i64 (sz3 l na nb nc)) ∧ Below w.heap.size w w' := by
  have b0 := Box.new w 53 #[.int .i64 n, .slice aa na ac, .int .i64 m, .int .i64 A, .slice ba nb bc, .slice da nc dc]
  have hb0 : Below w.heap.size w (w.alloc (.cells #[.int .i64 n, .slice aa na ac, .int .i64 m, .int .i64 A, .slice ba nb bc, .slice da nc dc] 53)) := (Below.refl _ _).alloc (Nat.le_refl _) _
  have K0 := Lib.hid (And.intro hb0 b0)
  have h1 := fun w => szGraph n na ac aa l w hl hna
  clear b0 hb0
  by_cases c1 : na ≤ l
  rotate_left
  · have e0 : sz3 l na nb nc = -1 := by unfold sz3; rw [if_neg (by omega)]
    rw [e0]
    rw [show szR l na = -1 by rw [szR, if_neg c1]] at h1
    have H1 := Lib.hid h1
    clear h1 e0
    go_enter Try.func34, Try.ntmps34
    go_wp2_with (go_at_call 13; refine (H1.out _).mono ?_; rintro e w1 ⟨rfl, hb1⟩)
    go_ret
    exact ⟨rfl, bel_trans K0.out.1 hb1⟩
  rw [show szR l na = ((l - na : Nat) : Int) by rw [szR, if_pos c1]] at h1
  have h2 := fun w => szView m A nb bc ba (l - na) w (by omega) hnb
  have n1 : ¬ (((l - na : Nat) : Int) < 0) := by omega
  by_cases c2 : nb ≤ l - na
  rotate_left
  · have e0 : sz3 l na nb nc = -1 := by unfold sz3; rw [if_neg (by omega)]
    rw [e0]
    rw [show szR (l - na) nb = -1 by rw [szR, if_neg c2]] at h2
    have H1 := Lib.hid h1
    have H2 := Lib.hid h2
    clear h1 h2 e0 c1 c2
    generalize hg : ((l - na : Nat) : Int) = l1 at H1 H2 n1
    clear hg
    go_enter Try.func34, Try.ntmps34
    go_wp2_with fail
    generalize (w.alloc (.cells #[.int .i64 n, .slice aa na ac, .int .i64 m, .int .i64 A, .slice ba nb bc, .slice da nc dc] 53)) = v0 at K0 ⊢
    refine (H1.out _).mono ?_
    rintro e v1 ⟨rfl, hb1⟩
    have K1 := Lib.hid (And.intro (bel_trans K0.out.1 hb1) (K0.out.2.keep hb1))
    have x2 : v1.cell? ⟨w.heap.size, 2, none⟩ = some (.int .i64 m) := by simpa using K1.out.2.cell 2
    have x3 : v1.cell? ⟨w.heap.size, 3, none⟩ = some (.int .i64 A) := by simpa using K1.out.2.cell 3
    have x4 : v1.cell? ⟨w.heap.size, 4, none⟩ = some (.slice ba nb bc) := by simpa using K1.out.2.cell 4
    clear hb1
    go_wp2_with fail
    refine (H2.out _).mono ?_
    rintro e v2 ⟨rfl, hb2⟩
    have K2 := Lib.hid (bel_trans K1.out.1 hb2)
    clear hb2 x2 x3 x4
    go_wp2
    go_ret
    exact ⟨rfl, K2.out⟩
  rw [show szR (l - na) nb = ((l - na - nb : Nat) : Int) by rw [szR, if_pos c2]] at h2
  have h3 := fun w => szIntS nc dc da (l - na - nb) w (by omega) hnc
  have n2 : ¬ (((l - na - nb : Nat) : Int) < 0) := by omega
  obtain ⟨R, hR⟩ : ∃ R, R = sz3 l na nb nc := ⟨_, rfl⟩
  have e3 : szR (l - na - nb) nc = R := by
    rw [hR]; unfold sz3 szR
    by_cases c3 : nc ≤ l - na - nb
    · rw [if_pos c3, if_pos (by omega)]
    · rw [if_neg c3, if_neg (by omega)]
  have e4 : R = -1 ∨ ¬ (R < 0) := by
    rw [hR]; unfold sz3; split <;> omega
  rw [← hR]
  rw [e3] at h3
  have H1 := Lib.hid h1
  have H2 := Lib.hid h2
  have H3 := Lib.hid h3
  clear h1 h2 h3 hR e3 c1 c2
  generalize hg2 : ((l - na - nb : Nat) : Int) = l2 at H2 H3 n2
  generalize hg : ((l - na : Nat) : Int) = l1 at H1 H2 n1
  clear hg hg2
  rcases e4 with rfl | n3
  all_goals
    go_enter Try.func34, Try.ntmps34
    go_wp2_with fail
    generalize (w.alloc (.cells #[.int .i64 n, .slice aa na ac, .int .i64 m, .int .i64 A, .slice ba nb bc, .slice da nc dc] 53)) = v0 at K0 ⊢
    refine (H1.out _).mono ?_
    rintro e v1 ⟨rfl, hb1⟩
    have K1 := Lib.hid (And.intro (bel_trans K0.out.1 hb1) (K0.out.2.keep hb1))
    have x2 : v1.cell? ⟨w.heap.size, 2, none⟩ = some (.int .i64 m) := by simpa using K1.out.2.cell 2
    have x3 : v1.cell? ⟨w.heap.size, 3, none⟩ = some (.int .i64 A) := by simpa using K1.out.2.cell 3
    have x4 : v1.cell? ⟨w.heap.size, 4, none⟩ = some (.slice ba nb bc) := by simpa using K1.out.2.cell 4
    clear hb1
    go_wp2_with fail
    refine (H2.out _).mono ?_
    rintro e v2 ⟨rfl, hb2⟩
    have K2 := Lib.hid (And.intro (bel_trans K1.out.1 hb2) (K1.out.2.keep hb2))
    have x5 : v2.cell? ⟨w.heap.size, 5, none⟩ = some (.slice da nc dc) := by simpa using K2.out.2.cell 5
    clear hb2 x2 x3 x4
    go_wp2_with fail
    refine (H3.out _).mono ?_
    rintro e v3 ⟨rfl, rfl⟩
    go_wp2
    go_ret
    exact ⟨rfl, K2.out.1⟩


set_option maxHeartbeats 2000000 in
theorem markKept (k : Nat) (n m A : Int) (w : World) (lo hi na nb nc : Nat) (a b c : Value) (ca cb cc : Nat → Value) (h : RK true true w lo hi a b c na nb nc ca cb cc) (hna : na ≤ 1048576) (hnb : nb ≤ 1048576) (hnc : nc ≤ 1048576) (hk : k ≤ 1000000000) (hhi : hi ≤ w.heap.size) :
    Calls Try.prog 41 #[.agg #[.int .i64 n, a, .int .i64 m, .int .i64 A, b, c], .int .i64 (k : Int)] w fun e w' => e = .returned (.int .i64 ((k + (na * 3 + nb + nc) : Nat) : Int)) ∧ RK true true w' lo hi a b c na nb nc (marked k) (marked (k + na * 3 : Nat)) (marked (k + na * 3 + nb : Nat)) ∧ Chg lo hi w w' := by
  obtain ⟨aa, ac, ba, bc, da, dc, rfl, rfl, rfl⟩ := id h.slices
  obtain ⟨l1, h1, l2, h2, l3, h3, ⟨r1, r2, r3⟩, hb, hd⟩ := h
  obtain ⟨d1, d2, d3⟩ := hd rfl
  have HR1 := Lib.hid r1
  have HR2 := Lib.hid r2
  have HR3 := Lib.hid r3
  have HBD := Lib.hid hb
  have HD := Lib.hid (And.intro d1 (And.intro d2 d3))
  have b0 := Box.new w 57 #[.int .i64 n, .slice aa na ac, .int .i64 m, .int .i64 A, .slice ba nb bc, .slice da nc dc]
  have hb0 : Below w.heap.size w (w.alloc (.cells #[.int .i64 n, .slice aa na ac, .int .i64 m, .int .i64 A, .slice ba nb bc, .slice da nc dc] 57)) := (Below.refl _ _).alloc (Nat.le_refl _) _
  have K0 := Lib.hid (And.intro hb0 b0)
  have m1 := fun w' (h : InR true w' l1 h1 (.slice aa na ac) na 3 ca) (hh : h1 ≤ w'.heap.size) => markGraph k n w' l1 h1 na (.slice aa na ac) ca h (by omega) (by omega) hh
  have m2 := fun w' (h : InR true w' l2 h2 (.slice ba nb bc) nb 1 cb) (hh : h2 ≤ w'.heap.size) => markView (k + na * 3) m A w' l2 h2 nb (.slice ba nb bc) cb h (by omega) (by omega) hh
  have m3 := fun w' (h : InR true w' l3 h3 (.slice da nc dc) nc 1 cc) => markIntS (k + na * 3 + nb) w' l3 h3 nc (.slice da nc dc) cc h (by omega) (by omega)
  have M1 := Lib.hid m1
  have M2 := Lib.hid m2
  have M3 := Lib.hid m3
  have HH := Lib.hid hhi
  clear r1 r2 r3 hb hd d1 d2 d3 b0 hb0 m1 m2 m3 hhi
  go_enter Try.func41, Try.ntmps41
  go_wp2_with fail
  generalize (w.alloc (.cells #[.int .i64 n, .slice aa na ac, .int .i64 m, .int .i64 A, .slice ba nb bc, .slice da nc dc] 57)) = v0 at K0 ⊢
  refine (M1.out _ (HR1.out.keep K0.out.1) (by have := HBD.out; have := HH.out; have := K0.out.1.size; omega)).mono ?_
  rintro e v1 ⟨rfl, q1, g1⟩
  have hBD := HBD.out
  have hDD := HD.out
  have hHH := HH.out
  have K1 := Lib.hid (And.intro ((Chg.of_below (lo := lo) (hi := hi) K0.out.1).trans (g1.mono (by omega) (by omega))) (And.intro (show Box v1 w.heap.size 57 #[.int .i64 n, .slice aa na ac, .int .i64 m, .int .i64 A, .slice ba nb bc, .slice da nc dc] from (g1.block _ K0.out.2.lt (.inr (by omega))).trans K0.out.2) (And.intro q1 (And.intro ((HR2.out.keep K0.out.1).chg g1 (by omega)) ((HR3.out.keep K0.out.1).chg g1 (by omega))))))
  have x2 : v1.cell? ⟨w.heap.size, 2, none⟩ = some (.int .i64 m) := by simpa using K1.out.2.1.cell 2
  have x3 : v1.cell? ⟨w.heap.size, 3, none⟩ = some (.int .i64 A) := by simpa using K1.out.2.1.cell 3
  have x4 : v1.cell? ⟨w.heap.size, 4, none⟩ = some (.slice ba nb bc) := by simpa using K1.out.2.1.cell 4
  clear q1 g1 hBD hDD hHH
  go_wp2_with fail
  refine (M2.out _ K1.out.2.2.2.1 (by have := HBD.out; have := HH.out; have := K1.out.1.size; omega)).mono ?_
  rintro e v2 ⟨rfl, q2, g2⟩
  have hBD := HBD.out
  have hDD := HD.out
  have hHH := HH.out
  have K2 := Lib.hid (And.intro (K1.out.1.trans (g2.mono (by omega) (by omega))) (And.intro (show Box v2 w.heap.size 57 #[.int .i64 n, .slice aa na ac, .int .i64 m, .int .i64 A, .slice ba nb bc, .slice da nc dc] from (g2.block _ K1.out.2.1.lt (.inr (by omega))).trans K1.out.2.1) (And.intro (K1.out.2.2.1.chg g2 (by omega)) (And.intro q2 (K1.out.2.2.2.2.chg g2 (by omega))))))
  have x5 : v2.cell? ⟨w.heap.size, 5, none⟩ = some (.slice da nc dc) := by simpa using K2.out.2.1.cell 5
  clear q2 g2 x2 x3 x4 hBD hDD hHH
  go_wp2_with fail
  refine (M3.out _ K2.out.2.2.2.2).mono ?_
  rintro e v3 ⟨rfl, q3, g3⟩
  have hBD := HBD.out
  have hDD := HD.out
  have K3 := Lib.hid (And.intro (K2.out.1.trans (g3.mono (by omega) (by omega))) (And.intro (K2.out.2.2.1.chg g3 (by omega)) (And.intro (K2.out.2.2.2.1.chg g3 (by omega)) q3)))
  clear q3 g3 x5 hBD hDD
  go_wp2
  go_ret
  refine ⟨congrArg (fun z => Ending.returned (Value.int .i64 z)) (by omega), ⟨l1, h1, l2, h2, l3, h3, ⟨K3.out.2.1, K3.out.2.2.1, K3.out.2.2.2⟩, HBD.out, fun _ => HD.out⟩, K3.out.1⟩

section
variable {H : Type} {enc : TypeId × Value → H} {w : World} {base : Nat} {spare : Nat → Bool} {held : Bool}
theorem array6 {α : Type} {cs : Array α} (h : cs.size = 6) : ∃ c0 c1 c2 c3 c4 c5, cs = #[c0, c1, c2, c3, c4, c5] := by
  obtain ⟨l⟩ := cs
  match l, h with
  | [c0, c1, c2, c3, c4, c5], _ => exact ⟨c0, c1, c2, c3, c4, c5, rfl⟩
set_option maxRecDepth 100000 in
/-- An argument of the type Kept. -/
theorem openKept {r : Reach} {b0 : Nat} {v : Value} {d : DataW H} {p : List MemPlace} (hv : Value.okWide Try.prog w r b0 53 v) (h : DataW.Trod enc Try.prog w base spare held 53 v d p) :
    ∃ (n m A : Int) (a b c : Value) (x : List Ed) (y z : List Int), v = .agg #[.int .i64 n, a, .int .i64 m, .int .i64 A, b, c] ∧ (RowE w a x ∧ Row w b y ∧ Row w c z) ∧ x.length ≤ 9223372036854775807 ∧ y.length ≤ 9223372036854775807 ∧ z.length ≤ 9223372036854775807 := by
  obtain ⟨cs, rfl, hsz⟩ := okWide_struct Try.underlying53 hv
  obtain ⟨c0, c1, c2, c3, c4, c5, rfl⟩ := array6 (hsz.trans (by kernel_rfl))
  obtain ⟨fuel, hf⟩ := h
  obtain ⟨y0, y1, y2, k, _, _, h0, h1, h2⟩ := trod_struct3 Try.underlying53 hf
  have eG : Try.prog.cellsOf 24 = 2 := by kernel_rfl
  have eV : Try.prog.cellsOf 39 = 3 := by kernel_rfl
  have eI : Try.prog.cellsOf 3 = 1 := by kernel_rfl
  have eS : Try.prog.cellsOf 26 = 1 := by kernel_rfl
  have eE : Try.prog.cellsOf 22 = 1 := by kernel_rfl
  simp only [Value.cells, eG, eV, eS] at h0 h1 h2
  simp at h0 h1 h2
  obtain ⟨g0, g1, k1, _, _, i0, i1⟩ := trod_struct2 Try.underlying24 h0
  obtain ⟨q0, q1, q2, k2, _, _, j0, j1, j2⟩ := trod_struct3 Try.underlying39 h1
  simp only [eI, eS, eE] at i0 i1 j0 j1 j2
  simp at i0 i1 j0 j1 j2
  obtain ⟨n, hn⟩ := one_int Try.underlying3 i0
  obtain ⟨m, hm⟩ := one_int Try.underlying3 j0
  obtain ⟨A, hA⟩ := one_int Try.underlying3 j1
  simp only [List.cons.injEq, and_true] at hn hm hA
  subst hn hm hA
  obtain ⟨x, r0, l0⟩ := openEdges i1
  obtain ⟨y, r1, l1⟩ := openInts1 j2
  obtain ⟨z, r2, l2⟩ := openInts1 h2
  exact ⟨n, m, A, c1, c4, c5, x, y, z, rfl, ⟨r0, r1, r2⟩, l0, l1, l2⟩
end
theorem toKeptN (n m A : Int) (x : List Ed) (y z : List Int) (a b c : Value) (w : World) (ha : RowE w a x) (hb : Row w b y) (hc : Row w c z) (hl : x.length ≤ 1048576) (hl2 : y.length ≤ 1048576) (hl3 : z.length ≤ 1048576) :
    Calls Try.prog 36 #[.agg #[.int .i64 n, a, .int .i64 m, .int .i64 A, b, c]] w fun e w' => ∃ p q r, e = .returned (.agg #[.int .i64 n, p, .int .i64 m, .int .i64 A, q, r]) ∧ RK true true w' w.heap.size w'.heap.size p q r x.length y.length z.length (cellE x) (cellI y) (cellI z) ∧ Below w.heap.size w w' :=
  (toKept n m A x y z a b c w ha hb hc hl hl2 hl3).mono fun e w' ⟨p, q, r, h1, h2, _, h3⟩ => ⟨p, q, r, h1, h2, h3⟩
end Go.Proofs.Ytdblcaeeepkebaa
