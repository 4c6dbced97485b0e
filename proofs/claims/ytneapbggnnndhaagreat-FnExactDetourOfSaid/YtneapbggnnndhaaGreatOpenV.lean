/- Arguments that are graphs and edges, opened. Arguments that are views, opened. -/
import Derived.Test.YtneapbggnnndhaaGreatRowAt
import Derived.Deep.Slices
import Derived.Deep.Fields
import Derived.Deep.Strs
import Derived.Lib.SmallJoins
import Derived.ChangeSame
import Derived.Deep.RegionHeld3
namespace Go.Proofs.YtneapbggnnndhaaGreat
open Go.RowKit Go.BigFrame Go.Deep Go.ChangeShapes Go.WideShapes Go.Joins
set_option linter.unusedVariables false
set_option linter.unusedSimpArgs false

def intIn (v : Option Value) : Int := match v with | some (.int _ x) => x | _ => 0

section
variable {H : Type} {enc : TypeId × Value → H} {w : World} {base : Nat} {spare : Nat → Bool} {held : Bool}

theorem one_int {t : TypeId} {fuel : Nat} {cs : List Value} {x : DataW H × List MemPlace} (ht : Tryz.prog.underlying t = some (.int .i64)) (h : DataW.trod enc Tryz.prog w base spare held fuel t cs = some x) : ∃ n, cs = [.int .i64 n] := by
  obtain ⟨n, h1, _⟩ := DataW.trod_int ht h
  exact ⟨n, h1⟩

set_option maxRecDepth 100000 in
/-- A slice of edges (of the laws' own type) reads as a list. -/
theorem openEdges {fuel : Nat} {s : Value} {x : DataW H × List MemPlace} (h : DataW.trod enc Tryz.prog w base spare held fuel 22 [s] = some x) :
    ∃ es : List Ed, RowE w s es ∧ es.length ≤ 9223372036854775807 := by
  rcases open_slice Tryz.underlying22 h with ⟨hcs, _⟩ | ⟨a, len, cap, m, n, D, Pl, hcs, hb, hl, hm, hmm, hx, hi⟩
  · simp only [List.cons.injEq, and_true] at hcs
    subst hcs
    exact ⟨[], ⟨none, 0, rfl, .inl rfl⟩, by simp⟩
  · simp only [List.cons.injEq, and_true] at hcs
    subst hcs
    have hC : Tryz.prog.cellsOf 69 = 3 := by kernel_rfl
    have hlm : len ≤ m := by rw [hmm]; split <;> omega
    have key : ∀ i, i < len → ∃ p q r : Int, w.cell? (a.add (i * 3)) = some (.int .i64 p) ∧ w.cell? ((a.add (i * 3)).add 1) = some (.int .i64 q) ∧ w.cell? ((a.add (i * 3)).add 2) = some (.int .i64 r) := by
      intro i hil
      obtain ⟨cs', hc, ht'⟩ := hi i (by omega)
      rw [hC] at hc
      obtain ⟨_, hcl, hat⟩ := World.cells?_some hc
      obtain ⟨y0, y1, y2, n', _, _, t0, t1, t2⟩ := trod_struct3 Tryz.underlying69 ht'
      match cs', hcl with
      | [c0, c1, c2], _ =>
        have hi1 : Tryz.prog.cellsOf 3 = 1 := by kernel_rfl
        simp only [hi1, List.drop_zero, List.drop_succ_cons, List.take_succ_cons, List.take_zero] at t0 t1 t2
        obtain ⟨p, hp⟩ := one_int Tryz.underlying3 t0
        obtain ⟨q, hq⟩ := one_int Tryz.underlying3 t1
        obtain ⟨r, hr⟩ := one_int Tryz.underlying3 t2
        simp only [List.cons.injEq, and_true] at hp hq hr
        have a0 := hat 0 (by omega)
        have a1 := hat 1 (by omega)
        have a2 := hat 2 (by omega)
        have e0 : (a.add (i * 3)).add 0 = a.add (i * 3) := by simp [Addr.add]
        rw [e0] at a0
        subst hp hq hr
        exact ⟨p, q, r, by simpa using a0, by simpa using a1, by simpa using a2⟩
    by_cases h0 : len = 0
    · subst h0
      exact ⟨[], ⟨some a, cap, rfl, .inl rfl⟩, by simp⟩
    obtain ⟨p0, _, _, c0, _, _⟩ := key 0 (by omega)
    obtain ⟨b, off, spot⟩ := a
    have hspot : spot = none := by simpa [Addr.add] using World.cell?_spot c0
    subst hspot
    let es : List Ed := (List.range len).map fun i => (intIn (w.cell? ⟨b, off + i * 3, none⟩), intIn (w.cell? ⟨b, off + i * 3 + 1, none⟩), intIn (w.cell? ⟨b, off + i * 3 + 2, none⟩))
    have hes : es.length = len := by simp [es]
    refine ⟨es, ⟨some ⟨b, off, none⟩, cap, by rw [hes], .inr ⟨b, off, rfl, World.block_lt_of_cell? _ _ (by simpa [Addr.add] using c0), fun i hil => ?_⟩⟩, ?_⟩
    · rw [hes] at hil
      obtain ⟨p, q, r, k0, k1, k2⟩ := key i hil
      rw [Go.WideShapes.add_plain] at k0 k1 k2
      rw [Go.WideShapes.add_plain] at k1 k2
      have hg : es.getD i (0, 0, 0) = (intIn (w.cell? ⟨b, off + i * 3, none⟩), intIn (w.cell? ⟨b, off + i * 3 + 1, none⟩), intIn (w.cell? ⟨b, off + i * 3 + 2, none⟩)) := by simp [es, List.getD, hil]
      rw [hg, k0, k1, k2]
      exact ⟨rfl, rfl, rfl⟩
    · rw [hes]
      have : maxLen ≤ 9223372036854775807 := by decide
      omega

set_option maxRecDepth 100000 in
/-- An argument that is a graph. -/
theorem openGraph {r : Reach} {b0 : Nat} {v : Value} {d : DataW H} {p : List MemPlace} (hv : Value.okWide Tryz.prog w r b0 24 v) (h : DataW.Trod enc Tryz.prog w base spare held 24 v d p) :
    ∃ (n : Int) (s : Value) (es : List Ed), v = .agg #[.int .i64 n, s] ∧ RowE w s es ∧ es.length ≤ 9223372036854775807 := by
  obtain ⟨v0, v1, y0, y1, n, rfl, _, _, h0, h1⟩ := open_agg2 Tryz.underlying24 (by kernel_rfl) (by kernel_rfl) hv h
  obtain ⟨x, hx⟩ := one_int Tryz.underlying3 h0
  simp only [List.cons.injEq, and_true] at hx
  subst hx
  obtain ⟨es, he, hl⟩ := openEdges h1
  exact ⟨x, v1, es, rfl, he, hl⟩

set_option maxRecDepth 100000 in
/-- An argument that is an edge. -/
theorem openEdge {r : Reach} {b0 : Nat} {v : Value} {d : DataW H} {p : List MemPlace} (hv : Value.okWide Tryz.prog w r b0 69 v) (h : DataW.Trod enc Tryz.prog w base spare held 69 v d p) :
    ∃ x y z : Int, v = .agg #[.int .i64 x, .int .i64 y, .int .i64 z] := by
  obtain ⟨v0, v1, v2, y0, y1, y2, n, rfl, _, _, h0, h1, h2⟩ := open_agg3 Tryz.underlying69 (by kernel_rfl) (by kernel_rfl) hv h
  obtain ⟨x, hx⟩ := one_int Tryz.underlying3 h0
  obtain ⟨y, hy⟩ := one_int Tryz.underlying3 h1
  obtain ⟨z, hz⟩ := one_int Tryz.underlying3 h2
  simp only [List.cons.injEq, and_true] at hx hy hz
  exact ⟨x, y, z, by rw [hx, hy, hz]⟩
end
end Go.Proofs.YtneapbggnnndhaaGreat
namespace Go.Proofs.YtneapbggnnndhaaGreat
open Go.RowKit Go.BigFrame Go.Deep Go.ChangeShapes Go.WideShapes Go.Joins
set_option linter.unusedVariables false
set_option linter.unusedSimpArgs false

section
variable {H : Type} {enc : TypeId × Value → H} {w : World} {base : Nat} {spare : Nat → Bool} {held : Bool}

set_option maxRecDepth 100000 in
/-- A slice of integers reads as a list. -/
theorem openInts1 {fuel : Nat} {s : Value} {x : DataW H × List MemPlace} (h : DataW.trod enc Tryz.prog w base spare held fuel 25 [s] = some x) :
    ∃ zs : List Int, Row w s zs ∧ zs.length ≤ 9223372036854775807 := by
  rcases open_slice Tryz.underlying25 h with ⟨hcs, _⟩ | ⟨a, len, cap, m, n, D, Pl, hcs, hb, hl, hm, hmm, hx, hi⟩
  · simp only [List.cons.injEq, and_true] at hcs
    subst hcs
    exact ⟨[], ⟨none, 0, rfl, .inl rfl⟩, by simp⟩
  · simp only [List.cons.injEq, and_true] at hcs
    subst hcs
    have hC : Tryz.prog.cellsOf 3 = 1 := by kernel_rfl
    have hlm : len ≤ m := by rw [hmm]; split <;> omega
    have key : ∀ i, i < len → ∃ p : Int, w.cell? (a.add i) = some (.int .i64 p) := by
      intro i hil
      obtain ⟨cs', hc, ht'⟩ := hi i (by omega)
      rw [hC] at hc
      obtain ⟨_, hcl, hat⟩ := World.cells?_some hc
      obtain ⟨p, hp⟩ := one_int Tryz.underlying3 ht'
      subst hp
      have a0 := hat 0 (by omega)
      refine ⟨p, ?_⟩
      have e0 : (a.add (i * 1)).add 0 = a.add i := by simp [Addr.add]
      rw [e0] at a0
      simpa using a0
    by_cases h0 : len = 0
    · subst h0
      exact ⟨[], ⟨some a, cap, rfl, .inl rfl⟩, by simp⟩
    obtain ⟨p0, c0⟩ := key 0 (by omega)
    obtain ⟨b, off, spot⟩ := a
    have hspot : spot = none := by simpa [Addr.add] using World.cell?_spot c0
    subst hspot
    let zs : List Int := (List.range len).map fun i => intIn (w.cell? ⟨b, off + i, none⟩)
    have hes : zs.length = len := by simp [zs]
    refine ⟨zs, ⟨some ⟨b, off, none⟩, cap, by rw [hes], .inr ⟨b, off, rfl, World.block_lt_of_cell? _ _ (by simpa [Addr.add] using c0), fun i hil => ?_⟩⟩, ?_⟩
    · rw [hes] at hil
      obtain ⟨p, k0⟩ := key i hil
      rw [Go.WideShapes.add_plain] at k0
      have hg : zs.getD i 0 = intIn (w.cell? ⟨b, off + i, none⟩) := by simp [zs, List.getD, hil]
      rw [hg, k0]
      rfl
    · rw [hes]
      have : maxLen ≤ 9223372036854775807 := by decide
      omega

set_option maxRecDepth 100000 in
/-- An argument that is a slice of integers. -/
theorem openInts {r : Reach} {b0 : Nat} {v : Value} {d : DataW H} {p : List MemPlace} (hv : Value.okWide Tryz.prog w r b0 25 v) (h : DataW.Trod enc Tryz.prog w base spare held 25 v d p) :
    ∃ (s : Value) (zs : List Int), v = s ∧ Row w s zs ∧ zs.length ≤ 9223372036854775807 := by
  obtain ⟨a, len, cap, rfl⟩ := okWide_slice Tryz.underlying25 hv
  obtain ⟨fuel, hf⟩ := h
  have hc : (Value.slice a len cap).cells.toList = [.slice a len cap] := by simp [Value.cells]
  rw [hc] at hf
  obtain ⟨zs, hr, hl⟩ := openInts1 hf
  exact ⟨_, zs, rfl, hr, hl⟩
end
end Go.Proofs.YtneapbggnnndhaaGreat
