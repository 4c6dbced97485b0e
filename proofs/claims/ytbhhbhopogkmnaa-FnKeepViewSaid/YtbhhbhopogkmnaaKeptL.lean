/- What the laws do with values of the type Kept: copies, comparisons, sizes, marks. -/
import Derived.Test.YtbhhbhopogkmnaaSettled
import Derived.Test.YtbhhbhopogkmnaaVEdges
import Derived.Test.YtbhhbhopogkmnaaHeld
import Derived.Test.YtbhhbhopogkmnaaMarks
namespace Go.Proofs.Ytbhhbhopogkmnaa
open Go.RowKit Go.BigFrame Go.Deep Go.ChangeShapes Go.WideShapes Go.Joins
set_option linter.unusedVariables false
set_option linter.unusedSimpArgs false

/-- A row of edges and two rows of integers between two numbers; with dj: in blocks apart from each other. -/
def RK (dj fz : Bool) (w : World) (lo hi : Nat) (a b c : Value) (na nb nc : Nat) (ca cb cc : Nat → Value) : Prop :=
  ∃ l1 h1 l2 h2 l3 h3, (InR fz w l1 h1 a na 3 ca ∧ InR fz w l2 h2 b nb 1 cb ∧ InR fz w l3 h3 c nc 1 cc) ∧ (lo ≤ l1 ∧ h1 ≤ hi ∧ lo ≤ l2 ∧ h2 ≤ hi ∧ lo ≤ l3 ∧ h3 ≤ hi) ∧
    (dj = true → (h1 ≤ l2 ∨ h2 ≤ l1) ∧ (h1 ≤ l3 ∨ h3 ≤ l1) ∧ (h2 ≤ l3 ∨ h3 ≤ l2))
section
variable {dj fz : Bool} {w w' : World} {lo hi l h : Nat} {a b c : Value} {na nb nc : Nat} {ca cb cc : Nat → Value}
theorem RK.chg (r : RK dj fz w lo hi a b c na nb nc ca cb cc) (k : Chg l h w w') (d : h ≤ lo ∨ hi ≤ l) : RK dj fz w' lo hi a b c na nb nc ca cb cc := by
  obtain ⟨l1, h1, l2, h2, l3, h3, ⟨r1, r2, r3⟩, hb, hd⟩ := r
  exact ⟨l1, h1, l2, h2, l3, h3, ⟨r1.chg k (by omega), r2.chg k (by omega), r3.chg k (by omega)⟩, hb, hd⟩
theorem RK.keep (r : RK dj fz w lo hi a b c na nb nc ca cb cc) (k : Below w.heap.size w w') : RK dj fz w' lo hi a b c na nb nc ca cb cc := by
  obtain ⟨l1, h1, l2, h2, l3, h3, ⟨r1, r2, r3⟩, hb, hd⟩ := r
  exact ⟨l1, h1, l2, h2, l3, h3, ⟨r1.keep k, r2.keep k, r3.keep k⟩, hb, hd⟩
theorem RK.wider (r : RK dj fz w lo hi a b c na nb nc ca cb cc) (h1 : l ≤ lo) (h2 : hi ≤ h) (h3 : h ≤ w.heap.size) : RK dj fz w l h a b c na nb nc ca cb cc := by
  obtain ⟨l1, m1, l2, m2, l3, m3, rs, hb, hd⟩ := r
  exact ⟨l1, m1, l2, m2, l3, m3, rs, by omega, hd⟩
theorem RK.slices (r : RK dj fz w lo hi a b c na nb nc ca cb cc) : ∃ aa ac ba bc da dc, a = .slice aa na ac ∧ b = .slice ba nb bc ∧ c = .slice da nc dc := by
  obtain ⟨l1, h1, l2, h2, l3, h3, ⟨⟨aa, ac, e1, _⟩, ⟨ba, bc, e2, _⟩, ⟨da, dc, e3, _⟩⟩, _, _⟩ := r
  exact ⟨aa, ac, ba, bc, da, dc, e1, e2, e3⟩
end
theorem RK.rows {dj fz : Bool} {w : World} {lo hi : Nat} {a b c : Value} {x : List Ed} {y z : List Int} (r : RK dj fz w lo hi a b c x.length y.length z.length (cellE x) (cellI y) (cellI z)) : RowE w a x ∧ Row w b y ∧ Row w c z := by
  obtain ⟨l1, h1, l2, h2, l3, h3, ⟨r1, r2, r3⟩, _, _⟩ := r
  exact ⟨r1.edges, r2.rowI, r3.rowI⟩
theorem RK.of_rows {w : World} {a b c : Value} {x : List Ed} {y z : List Int} (ha : RowE w a x) (hb : Row w b y) (hc : Row w c z) : RK false false w 0 w.heap.size a b c x.length y.length z.length (cellE x) (cellI y) (cellI z) :=
  ⟨_, _, _, _, _, _, ⟨InR.of_edges ha, InR.of_row hb, InR.of_row hc⟩, by omega, fun h => by cases h⟩


section
variable {H : Type} {enc : TypeId × Value → H} {w : World} {base : Nat} {spare : Nat → Bool} {held : Bool}
theorem array6 {α : Type} {cs : Array α} (h : cs.size = 6) : ∃ c0 c1 c2 c3 c4 c5, cs = #[c0, c1, c2, c3, c4, c5] := by
  obtain ⟨l⟩ := cs
  match l, h with
  | [c0, c1, c2, c3, c4, c5], _ => exact ⟨c0, c1, c2, c3, c4, c5, rfl⟩
end
end Go.Proofs.Ytbhhbhopogkmnaa
