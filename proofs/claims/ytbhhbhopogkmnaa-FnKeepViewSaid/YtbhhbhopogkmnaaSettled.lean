/- What the laws do with values of the type Settled: copies, comparisons, sizes, marks. -/
import Derived.Test.YtbhhbhopogkmnaaVEdges
import Derived.Test.YtbhhbhopogkmnaaVStartT
import Derived.Test.YtbhhbhopogkmnaaOpenV
import Derived.Test.YtbhhbhopogkmnaaBoxes
namespace Go.Proofs.Ytbhhbhopogkmnaa
open Go.RowKit Go.BigFrame Go.Deep Go.ChangeShapes Go.WideShapes Go.Joins
set_option linter.unusedVariables false
set_option linter.unusedSimpArgs false

theorem Chg.mono {lo hi l h : Nat} {w w' : World} (c : Chg l h w w') (h1 : lo ≤ l) (h2 : h ≤ hi) : Chg lo hi w w' := ⟨c.os, c.tape, c.output, c.size, fun k hk hd => c.block k hk (by omega)⟩
/-- Three rows of integers between two numbers; with dj: in blocks apart from each other. -/
def R3 (dj fz : Bool) (w : World) (lo hi : Nat) (a b c : Value) (na nb nc : Nat) (ca cb cc : Nat → Value) : Prop :=
  ∃ l1 h1 l2 h2 l3 h3, (InR fz w l1 h1 a na 1 ca ∧ InR fz w l2 h2 b nb 1 cb ∧ InR fz w l3 h3 c nc 1 cc) ∧ (lo ≤ l1 ∧ h1 ≤ hi ∧ lo ≤ l2 ∧ h2 ≤ hi ∧ lo ≤ l3 ∧ h3 ≤ hi) ∧
    (dj = true → (h1 ≤ l2 ∨ h2 ≤ l1) ∧ (h1 ≤ l3 ∨ h3 ≤ l1) ∧ (h2 ≤ l3 ∨ h3 ≤ l2))
section
variable {dj fz : Bool} {w w' : World} {lo hi l h : Nat} {a b c : Value} {na nb nc : Nat} {ca cb cc : Nat → Value}
theorem R3.chg (r : R3 dj fz w lo hi a b c na nb nc ca cb cc) (k : Chg l h w w') (d : h ≤ lo ∨ hi ≤ l) : R3 dj fz w' lo hi a b c na nb nc ca cb cc := by
  obtain ⟨l1, h1, l2, h2, l3, h3, ⟨r1, r2, r3⟩, hb, hd⟩ := r
  exact ⟨l1, h1, l2, h2, l3, h3, ⟨r1.chg k (by omega), r2.chg k (by omega), r3.chg k (by omega)⟩, hb, hd⟩
theorem R3.keep (r : R3 dj fz w lo hi a b c na nb nc ca cb cc) (k : Below w.heap.size w w') : R3 dj fz w' lo hi a b c na nb nc ca cb cc := by
  obtain ⟨l1, h1, l2, h2, l3, h3, ⟨r1, r2, r3⟩, hb, hd⟩ := r
  exact ⟨l1, h1, l2, h2, l3, h3, ⟨r1.keep k, r2.keep k, r3.keep k⟩, hb, hd⟩
theorem R3.wider (r : R3 dj fz w lo hi a b c na nb nc ca cb cc) (h1 : l ≤ lo) (h2 : hi ≤ h) (h3 : h ≤ w.heap.size) : R3 dj fz w l h a b c na nb nc ca cb cc := by
  obtain ⟨l1, m1, l2, m2, l3, m3, rs, hb, hd⟩ := r
  exact ⟨l1, m1, l2, m2, l3, m3, rs, by omega, hd⟩
theorem R3.slices (r : R3 dj fz w lo hi a b c na nb nc ca cb cc) : ∃ aa ac ba bc da dc, a = .slice aa na ac ∧ b = .slice ba nb bc ∧ c = .slice da nc dc := by
  obtain ⟨l1, h1, l2, h2, l3, h3, ⟨⟨aa, ac, e1, _⟩, ⟨ba, bc, e2, _⟩, ⟨da, dc, e3, _⟩⟩, _, _⟩ := r
  exact ⟨aa, ac, ba, bc, da, dc, e1, e2, e3⟩
end
theorem R3.rows {dj fz : Bool} {w : World} {lo hi : Nat} {a b c : Value} {x y z : List Int} (r : R3 dj fz w lo hi a b c x.length y.length z.length (cellI x) (cellI y) (cellI z)) : Row w a x ∧ Row w b y ∧ Row w c z := by
  obtain ⟨l1, h1, l2, h2, l3, h3, ⟨r1, r2, r3⟩, _, _⟩ := r
  exact ⟨r1.rowI, r2.rowI, r3.rowI⟩
theorem R3.of_rows {w : World} {a b c : Value} {x y z : List Int} (ha : Row w a x) (hb : Row w b y) (hc : Row w c z) : R3 false false w 0 w.heap.size a b c x.length y.length z.length (cellI x) (cellI y) (cellI z) :=
  ⟨_, _, _, _, _, _, ⟨InR.of_row ha, InR.of_row hb, InR.of_row hc⟩, by omega, fun h => by cases h⟩

theorem InR.set9 {fz : Bool} {w : World} {lo hi B k : Nat} {s u : Value} {n sz : Nat} {cs : Nat → Value} (r : InR fz w lo hi s n sz cs) (hB : B < lo) : InR fz (w.setCell ⟨B, k, none⟩ u) lo hi s n sz cs :=
  r.chg (l := B) (h := B + 1) ((Chg.refl B (B + 1) w).setCell (p := ⟨B, k, none⟩) (by simp) (by simp) u) (.inl hB)
/-- What three sizes leave of a room. -/
def sz3 (l a b c : Nat) : Int := if a + b + c ≤ l then ((l - a - b - c : Nat) : Int) else -1
section
variable {H : Type} {enc : TypeId × Value → H} {w : World} {base : Nat} {spare : Nat → Bool} {held : Bool}
end
end Go.Proofs.Ytbhhbhopogkmnaa
