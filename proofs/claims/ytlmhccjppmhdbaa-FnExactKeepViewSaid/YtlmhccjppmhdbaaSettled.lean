/- What the laws do with values of the type Settled: copies, comparisons, sizes, marks. -/
import Derived.Test.YtlmhccjppmhdbaaVEdges
import Derived.Test.YtlmhccjppmhdbaaVStartJ
import Derived.Test.YtlmhccjppmhdbaaOpenV
import Derived.Test.YtlmhccjppmhdbaaMarksI
import Derived.Test.YtlmhccjppmhdbaaBoxes
namespace Go.Proofs.Ytlmhccjppmhdbaa
open Go.RowKit Go.BigFrame Go.Deep Go.ChangeShapes Go.WideShapes Go.Joins
set_option linter.unusedVariables false
set_option linter.unusedSimpArgs false

theorem Chg.mono {lo hi l h : Nat} {w w' : World} (c : Chg l h w w') (h1 : lo ≤ l) (h2 : h ≤ hi) : Chg lo hi w w' := ⟨c.os, c.tape, c.output, c.size, fun k hk hd => c.block k hk (by omega)⟩
/-- Three rows of integers between two numbers; with dj: in blocks apart from each other. -/
def R3 (dj fz : Bool) (w : World) (lo hi : Nat) (a b c : Value) (na nb nc : Nat) (ca cb cc : Nat → Value) : Prop :=
  ∃ l1 h1 l2 h2 l3 h3, (InR fz w l1 h1 a na 1 ca ∧ InR fz w l2 h2 b nb 1 cb ∧ InR fz w l3 h3 c nc 1 cc) ∧ (lo ≤ l1 ∧ h1 ≤ hi ∧ lo ≤ l2 ∧ h2 ≤ hi ∧ lo ≤ l3 ∧ h3 ≤ hi) ∧
    (dj = true → (h1 ≤ l2 ∨ h2 ≤ l1) ∧ (h1 ≤ l3 ∨ h3 ≤ l1) ∧ (h2 ≤ l3 ∨ h3 ≤ l2))
section
variable {dj fz : Bool} {w w' : World} {lo hi l h : Nat} {a b c : Value} {na nb nc : Nat} {ca cb cc : Nat → Value}
theorem R3.chg (r : R3 dj fz w lo hi a b c na nb nc ca cb cc) (k : Chg l h w w') (d : h ≤ lo ∨ hi ≤ l) : R3 dj fz w' lo hi a b c na nb nc ca cb cc := by
  obtain ⟨l1, h1, l2, h2, l3, h3, ⟨r1, r2, r3⟩, hb, hd⟩ := r
  exact ⟨l1, h1, l2, h2, l3, h3, ⟨r1.chg k (by omega), r2.chg k (by omega), r3.chg k (by omega)⟩, hb, hd⟩
theorem R3.keep (r : R3 dj fz w lo hi a b c na nb nc ca cb cc) (k : Below w.heap.size w w') : R3 dj fz w' lo hi a b c na nb nc ca cb cc := by
  obtain ⟨l1, h1, l2, h2, l3, h3, ⟨r1, r2, r3⟩, hb, hd⟩ := r
  exact ⟨l1, h1, l2, h2, l3, h3, ⟨r1.keep k, r2.keep k, r3.keep k⟩, hb, hd⟩
theorem R3.wider (r : R3 dj fz w lo hi a b c na nb nc ca cb cc) (h1 : l ≤ lo) (h2 : hi ≤ h) (h3 : h ≤ w.heap.size) : R3 dj fz w l h a b c na nb nc ca cb cc := by
  obtain ⟨l1, m1, l2, m2, l3, m3, rs, hb, hd⟩ := r
  exact ⟨l1, m1, l2, m2, l3, m3, rs, by omega, hd⟩
theorem R3.slices (r : R3 dj fz w lo hi a b c na nb nc ca cb cc) : ∃ aa ac ba bc da dc, a = .slice aa na ac ∧ b = .slice ba nb bc ∧ c = .slice da nc dc := by
  obtain ⟨l1, h1, l2, h2, l3, h3, ⟨⟨aa, ac, e1, _⟩, ⟨ba, bc, e2, _⟩, ⟨da, dc, e3, _⟩⟩, _, _⟩ := r
  exact ⟨aa, ac, ba, bc, da, dc, e1, e2, e3⟩
end
theorem R3.rows {dj fz : Bool} {w : World} {lo hi : Nat} {a b c : Value} {x y z : List Int} (r : R3 dj fz w lo hi a b c x.length y.length z.length (cellI x) (cellI y) (cellI z)) : Row w a x ∧ Row w b y ∧ Row w c z := by
  obtain ⟨l1, h1, l2, h2, l3, h3, ⟨r1, r2, r3⟩, _, _⟩ := r
  exact ⟨r1.rowI, r2.rowI, r3.rowI⟩
theorem R3.of_rows {w : World} {a b c : Value} {x y z : List Int} (ha : Row w a x) (hb : Row w b y) (hc : Row w c z) : R3 false false w 0 w.heap.size a b c x.length y.length z.length (cellI x) (cellI y) (cellI z) :=
  ⟨_, _, _, _, _, _, ⟨InR.of_row ha, InR.of_row hb, InR.of_row hc⟩, by omega, fun h => by cases h⟩

theorem InR.set9 {fz : Bool} {w : World} {lo hi B k : Nat} {s u : Value} {n sz : Nat} {cs : Nat → Value} (r : InR fz w lo hi s n sz cs) (hB : B < lo) : InR fz (w.setCell ⟨B, k, none⟩ u) lo hi s n sz cs :=
  r.chg (l := B) (h := B + 1) ((Chg.refl B (B + 1) w).setCell (p := ⟨B, k, none⟩) (by simp) (by simp) u) (.inl hB)
set_option maxHeartbeats 2000000 in
theorem eqSettled (L : Int) (x y z : List Int) (a b c p q r : Value) (w : World) (ha : Row w a x) (hb : Row w b y) (hc : Row w c z) (hp : Row w p x) (hq : Row w q y) (hr : Row w r z) (hl : x.length ≤ 4194304) (hl2 : y.length ≤ 4194304) (hl3 : z.length ≤ 4194304) :
    Calls Try.prog 18 #[.agg #[a, b, c, .int .i64 L], .agg #[p, q, r, .int .i64 L]] w fun e w' => e = .returned (.bool true) ∧ Below w.heap.size w w' := by
  have hB : ∀ (A B : Obj), Below w.heap.size w ((w.alloc A).alloc B) := fun A B => ((Below.refl _ _).alloc (Nat.le_refl _) _).alloc (by simp) _
  have h1 := fun w' (h : Below w.heap.size w w') => eqIntS4 x a p w' (ha.keep h) (hp.keep h) hl
  have h2 := fun w' (h : Below w.heap.size w w') => eqIntS4 y b q w' (hb.keep h) (hq.keep h) hl2
  have h3 := fun w' (h : Below w.heap.size w w') => eqIntS4 z c r w' (hc.keep h) (hr.keep h) hl3
  have H1 := Lib.hid h1
  have H2 := Lib.hid h2
  have H3 := Lib.hid h3
  have b0 : Box ((w.alloc (.cells #[a, b, c, .int .i64 L] 28)).alloc (.cells #[p, q, r, .int .i64 L] 28)) w.heap.size 28 #[a, b, c, .int .i64 L] := (Box.new w _ _).alloc _
  have b1 : Box ((w.alloc (.cells #[a, b, c, .int .i64 L] 28)).alloc (.cells #[p, q, r, .int .i64 L] 28)) (w.heap.size + 1) 28 #[p, q, r, .int .i64 L] := by
    have := Box.new (w.alloc (.cells #[a, b, c, .int .i64 L] 28)) 28 #[p, q, r, .int .i64 L]
    simpa using this
  have K0 := Lib.hid (And.intro (hB (.cells #[a, b, c, .int .i64 L] 28) (.cells #[p, q, r, .int .i64 L] 28)) (And.intro b0 b1))
  obtain ⟨aa, ac, rfl, hz0⟩ := ha
  obtain ⟨ba, bc, rfl, hz1⟩ := hb
  obtain ⟨da, dc, rfl, hz2⟩ := hc
  obtain ⟨pa, pc, rfl, hz3⟩ := hp
  obtain ⟨qa, qc, rfl, hz4⟩ := hq
  obtain ⟨ra, rc, rfl, hz5⟩ := hr
  clear hz0 hz1 hz2 hz3 hz4 hz5 h1 h2 h3 hB b0 b1
  go_enter Try.func18, Try.ntmps18
  go_wp2_with fail
  generalize ((w.alloc (.cells #[.slice aa x.length ac, .slice ba y.length bc, .slice da z.length dc, .int .i64 L] 28)).alloc (.cells #[.slice pa x.length pc, .slice qa y.length qc, .slice ra z.length rc, .int .i64 L] 28)) = v0 at K0 ⊢
  refine (H1.out _ K0.out.1).mono ?_
  rintro e v1 ⟨rfl, hb1⟩
  have K1 := Lib.hid (And.intro (bel_trans K0.out.1 hb1) (And.intro (K0.out.2.1.keep hb1) (K0.out.2.2.keep hb1)))
  have x1 : v1.cell? ⟨w.heap.size, 1, none⟩ = some (.slice ba y.length bc) := by simpa using K1.out.2.1.cell 1
  have y1 : v1.cell? ⟨w.heap.size + 1, 1, none⟩ = some (.slice qa y.length qc) := by simpa using K1.out.2.2.cell 1
  clear hb1
  go_wp2_with fail
  refine (H2.out _ K1.out.1).mono ?_
  rintro e v2 ⟨rfl, hb2⟩
  have K2 := Lib.hid (And.intro (bel_trans K1.out.1 hb2) (And.intro (K1.out.2.1.keep hb2) (K1.out.2.2.keep hb2)))
  have x2 : v2.cell? ⟨w.heap.size, 2, none⟩ = some (.slice da z.length dc) := by simpa using K2.out.2.1.cell 2
  have y2 : v2.cell? ⟨w.heap.size + 1, 2, none⟩ = some (.slice ra z.length rc) := by simpa using K2.out.2.2.cell 2
  clear hb2 x1 y1
  go_wp2_with fail
  refine (H3.out _ K2.out.1).mono ?_
  rintro e v3 ⟨rfl, hb3⟩
  have K3 := Lib.hid (And.intro (bel_trans K2.out.1 hb3) (And.intro (K2.out.2.1.keep hb3) (K2.out.2.2.keep hb3)))
  have x3 : v3.cell? ⟨w.heap.size, 3, none⟩ = some (.int .i64 L) := by simpa using K3.out.2.1.cell 3
  have y3 : v3.cell? ⟨w.heap.size + 1, 3, none⟩ = some (.int .i64 L) := by simpa using K3.out.2.2.cell 3
  clear hb3 x2 y2
  go_wp2
  go_ret
  exact ⟨rfl, K3.out.1⟩

/-- What three sizes leave of a room. -/
def sz3 (l a b c : Nat) : Int := if a + b + c ≤ l then ((l - a - b - c : Nat) : Int) else -1
set_option maxHeartbeats 2000000 in
theorem markSettled (k : Nat) (L : Int) (w : World) (lo hi na nb nc : Nat) (a b c : Value) (ca cb cc : Nat → Value) (h : R3 true true w lo hi a b c na nb nc ca cb cc) (hna : na ≤ 4194304) (hnb : nb ≤ 4194304) (hnc : nc ≤ 4194304) (hk : k ≤ 1000000000) (hhi : hi ≤ w.heap.size) :
    Calls Try.prog 21 #[.agg #[a, b, c, .int .i64 L], .int .i64 (k : Int)] w fun e w' => e = .returned (.int .i64 ((k + (na + nb + nc) : Nat) : Int)) ∧ R3 true true w' lo hi a b c na nb nc (marked k) (marked (k + na)) (marked (k + na + nb)) ∧ Chg lo hi w w' := by
  obtain ⟨aa, ac, ba, bc, da, dc, rfl, rfl, rfl⟩ := id h.slices
  obtain ⟨l1, h1, l2, h2, l3, h3, ⟨r1, r2, r3⟩, hb, hd⟩ := h
  obtain ⟨d1, d2, d3⟩ := hd rfl
  have HR1 := Lib.hid r1
  have HR2 := Lib.hid r2
  have HR3 := Lib.hid r3
  have HBD := Lib.hid hb
  have HD := Lib.hid (And.intro d1 (And.intro d2 d3))
  have b0 := Box.new w 28 #[.slice aa na ac, .slice ba nb bc, .slice da nc dc, .int .i64 L]
  have hb0 : Below w.heap.size w (w.alloc (.cells #[.slice aa na ac, .slice ba nb bc, .slice da nc dc, .int .i64 L] 28)) := (Below.refl _ _).alloc (Nat.le_refl _) _
  have K0 := Lib.hid (And.intro hb0 b0)
  have m1 := fun w' (h : InR true w' l1 h1 (.slice aa na ac) na 1 ca) => markIntS k w' l1 h1 na (.slice aa na ac) ca h hna (by omega)
  have m2 := fun w' (h : InR true w' l2 h2 (.slice ba nb bc) nb 1 cb) => markIntS (k + na) w' l2 h2 nb (.slice ba nb bc) cb h hnb (by omega)
  have m3 := fun w' (h : InR true w' l3 h3 (.slice da nc dc) nc 1 cc) => markIntS (k + na + nb) w' l3 h3 nc (.slice da nc dc) cc h hnc (by omega)
  have M1 := Lib.hid m1
  have M2 := Lib.hid m2
  have M3 := Lib.hid m3
  clear r1 r2 r3 hb hd d1 d2 d3 b0 hb0 m1 m2 m3
  have n1 : decide (((k + na : Nat) : Int) < 0) = false := decide_eq_false (by omega)
  have n2 : decide (((k + na + nb : Nat) : Int) < 0) = false := decide_eq_false (by omega)
  have n3 : decide (((k + na + nb + nc : Nat) : Int) < 0) = false := decide_eq_false (by omega)
  go_enter Try.func21, Try.ntmps21
  go_wp2_with fail
  generalize (w.alloc (.cells #[.slice aa na ac, .slice ba nb bc, .slice da nc dc, .int .i64 L] 28)) = v0 at K0 ⊢
  refine (M1.out _ (HR1.out.keep K0.out.1)).mono ?_
  rintro e v1 ⟨rfl, q1, g1⟩
  have hBD := HBD.out
  have hDD := HD.out
  have K1 := Lib.hid (And.intro ((Chg.of_below (lo := lo) (hi := hi) K0.out.1).trans (g1.mono (by omega) (by omega))) (And.intro (show Box v1 w.heap.size 28 #[.slice aa na ac, .slice ba nb bc, .slice da nc dc, .int .i64 L] from (g1.block _ K0.out.2.lt (.inr (by omega))).trans K0.out.2) (And.intro q1 (And.intro ((HR2.out.keep K0.out.1).chg g1 (by omega)) ((HR3.out.keep K0.out.1).chg g1 (by omega))))))
  have x1 : v1.cell? ⟨w.heap.size, 1, none⟩ = some (.slice ba nb bc) := by simpa using K1.out.2.1.cell 1
  clear q1 g1 hBD hDD
  go_wp2_with fail
  refine (M2.out _ K1.out.2.2.2.1).mono ?_
  rintro e v2 ⟨rfl, q2, g2⟩
  have hBD := HBD.out
  have hDD := HD.out
  have K2 := Lib.hid (And.intro (K1.out.1.trans (g2.mono (by omega) (by omega))) (And.intro (show Box v2 w.heap.size 28 #[.slice aa na ac, .slice ba nb bc, .slice da nc dc, .int .i64 L] from (g2.block _ K1.out.2.1.lt (.inr (by omega))).trans K1.out.2.1) (And.intro (K1.out.2.2.1.chg g2 (by omega)) (And.intro q2 (K1.out.2.2.2.2.chg g2 (by omega))))))
  have x2 : v2.cell? ⟨w.heap.size, 2, none⟩ = some (.slice da nc dc) := by simpa using K2.out.2.1.cell 2
  clear q2 g2 x1 hBD hDD
  go_wp2_with fail
  refine (M3.out _ K2.out.2.2.2.2).mono ?_
  rintro e v3 ⟨rfl, q3, g3⟩
  have hBD := HBD.out
  have hDD := HD.out
  have K3 := Lib.hid (And.intro (K2.out.1.trans (g3.mono (by omega) (by omega))) (And.intro (K2.out.2.2.1.chg g3 (by omega)) (And.intro (K2.out.2.2.2.1.chg g3 (by omega)) q3)))
  clear q3 g3 x2 hBD hDD
  go_wp2
  go_ret
  refine ⟨congrArg (fun z => Ending.returned (Value.int .i64 z)) (by omega), ⟨l1, h1, l2, h2, l3, h3, ⟨K3.out.2.1, K3.out.2.2.1, K3.out.2.2.2⟩, HBD.out, fun _ => HD.out⟩, K3.out.1⟩

set_option maxHeartbeats 2000000 in
theorem heldSettled (k : Nat) (L : Int) (dj fz : Bool) (w : World) (lo hi na nb nc : Nat) (a b c : Value) (h : R3 dj fz w lo hi a b c na nb nc (marked k) (marked (k + na)) (marked (k + na + nb))) (hna : na ≤ 4194304) (hnb : nb ≤ 4194304) (hnc : nc ≤ 4194304) (hk : k ≤ 1000000000) :
    Calls Try.prog 22 #[.agg #[a, b, c, .int .i64 L], .int .i64 (k : Int)] w fun e w' => e = .returned (.int .i64 ((k + (na + nb + nc) : Nat) : Int)) ∧ Below w.heap.size w w' := by
  obtain ⟨aa, ac, ba, bc, da, dc, rfl, rfl, rfl⟩ := id h.slices
  obtain ⟨l1, h1, l2, h2, l3, h3, ⟨r1, r2, r3⟩, hb, hd⟩ := h
  have b0 := Box.new w 28 #[.slice aa na ac, .slice ba nb bc, .slice da nc dc, .int .i64 L]
  have hb0 : Below w.heap.size w (w.alloc (.cells #[.slice aa na ac, .slice ba nb bc, .slice da nc dc, .int .i64 L] 28)) := (Below.refl _ _).alloc (Nat.le_refl _) _
  have K0 := Lib.hid (And.intro hb0 b0)
  have m1 := fun w' (h : Below w.heap.size w w') => heldIntS k fz w' l1 h1 na (.slice aa na ac) (r1.keep h) hna (by omega)
  have m2 := fun w' (h : Below w.heap.size w w') => heldIntS (k + na) fz w' l2 h2 nb (.slice ba nb bc) (r2.keep h) hnb (by omega)
  have m3 := fun w' (h : Below w.heap.size w w') => heldIntS (k + na + nb) fz w' l3 h3 nc (.slice da nc dc) (r3.keep h) hnc (by omega)
  have M1 := Lib.hid m1
  have M2 := Lib.hid m2
  have M3 := Lib.hid m3
  clear r1 r2 r3 hb hd b0 hb0 m1 m2 m3
  have n1 : decide (((k + na : Nat) : Int) < 0) = false := decide_eq_false (by omega)
  have n2 : decide (((k + na + nb : Nat) : Int) < 0) = false := decide_eq_false (by omega)
  have n3 : decide (((k + na + nb + nc : Nat) : Int) < 0) = false := decide_eq_false (by omega)
  go_enter Try.func22, Try.ntmps22
  go_wp2_with fail
  generalize (w.alloc (.cells #[.slice aa na ac, .slice ba nb bc, .slice da nc dc, .int .i64 L] 28)) = v0 at K0 ⊢
  refine (M1.out _ K0.out.1).mono ?_
  rintro e v1 ⟨rfl, hb1⟩
  have K1 := Lib.hid (And.intro (bel_trans K0.out.1 hb1) (K0.out.2.keep hb1))
  have x1 : v1.cell? ⟨w.heap.size, 1, none⟩ = some (.slice ba nb bc) := by simpa using K1.out.2.cell 1
  clear hb1
  go_wp2_with fail
  refine (M2.out _ K1.out.1).mono ?_
  rintro e v2 ⟨rfl, hb2⟩
  have K2 := Lib.hid (And.intro (bel_trans K1.out.1 hb2) (K1.out.2.keep hb2))
  have x2 : v2.cell? ⟨w.heap.size, 2, none⟩ = some (.slice da nc dc) := by simpa using K2.out.2.cell 2
  clear hb2 x1
  go_wp2_with fail
  refine (M3.out _ K2.out.1).mono ?_
  rintro e v3 ⟨rfl, hb3⟩
  have K3 := Lib.hid (bel_trans K2.out.1 hb3)
  clear hb3 x2
  go_wp2
  go_ret
  exact ⟨congrArg (fun z => Ending.returned (Value.int .i64 z)) (by omega), K3.out⟩

section
variable {H : Type} {enc : TypeId × Value → H} {w : World} {base : Nat} {spare : Nat → Bool} {held : Bool}
end
end Go.Proofs.Ytlmhccjppmhdbaa
