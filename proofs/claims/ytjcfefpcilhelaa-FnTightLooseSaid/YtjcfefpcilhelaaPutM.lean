/- PutEdge of the program. PutEdge of the program: the way on. PutEdge of the program: what it answers. -/
import Derived.Test.YtjcfefpcilhelaaFind3
import Derived.Test.YtjcfefpcilhelaaConcat
import Derived.Laws.ResultCell
import Derived.Deep.RegionHeld3
namespace Go.Proofs.Ytjcfefpcilhelaa
open Go.RowKit Go.BigFrame Go.Deep
set_option linter.unusedVariables false
set_option linter.unusedSimpArgs false

/-- How many edges an edge replaces. -/
def fdN (es : List Ed) (a b : Int) : Nat := if fdE es a b = true then 1 else 0
/-- The edges with an edge in its place. -/
def pL (es : List Ed) (e : Ed) : List Ed := es.take (lbE es e.1 e.2.1) ++ e :: es.drop (lbE es e.1 e.2.1 + fdN es e.1 e.2.1)
def putB (n : Int) (es : List Ed) (e : Ed) : Bool := (gVal n es && eFits n e.1 e.2.1 e.2.2) && decide ((pL es e).length ≤ 40)
def putN (n : Int) (es : List Ed) (e : Ed) : Int := if putB n es e = true then n else 0
def putL (n : Int) (es : List Ed) (e : Ed) : List Ed := if putB n es e = true then pL es e else []

theorem ownE_nil (w w' : World) : OwnE w w' (.slice none 0 0) [] := ⟨none, 0, rfl, .inl rfl⟩
theorem okS_nil : okS (.slice none 0 0) := by
  intro a n c e
  injection e with e1 e2 e3
  subst e1 e2 e3
  exact ⟨Nat.le_refl _, (fun _ => rfl), fun x h => by cases h⟩
theorem okS_some {b off n c : Nat} (h : n ≤ c) : okS (.slice (some ⟨b, off, none⟩) n c) := by
  intro a n c e
  injection e with e1 e2 e3
  subst e1 e2 e3
  exact ⟨h, (fun h => by cases h), fun x h => by injection h with h; rw [← h]⟩
theorem rowE_take {w : World} {b off cap : Nat} {es : List Ed} (hc : ∀ i, i < es.length → w.cell? ⟨b, off + i * 3, none⟩ = some (.int .i64 (es.getD i (0, 0, 0)).1) ∧ w.cell? ⟨b, off + i * 3 + 1, none⟩ = some (.int .i64 (es.getD i (0, 0, 0)).2.1) ∧ w.cell? ⟨b, off + i * 3 + 2, none⟩ = some (.int .i64 (es.getD i (0, 0, 0)).2.2))
    (hb : b < w.heap.size) {p : Nat} (hp : p ≤ es.length) : RowE w (.slice (some ⟨b, off, none⟩) p cap) (es.take p) := by
  have hl : (es.take p).length = p := by rw [List.length_take]; omega
  refine ⟨_, cap, by rw [hl], .inr ⟨b, off, rfl, hb, fun i hi => ?_⟩⟩
  rw [hl] at hi
  have e : (es.take p).getD i (0, 0, 0) = es.getD i (0, 0, 0) := by simp [List.getD, hi]
  rw [e]
  exact hc i (by omega)
theorem rowE_drop {w : World} {b off cap : Nat} {es : List Ed} (hc : ∀ i, i < es.length → w.cell? ⟨b, off + i * 3, none⟩ = some (.int .i64 (es.getD i (0, 0, 0)).1) ∧ w.cell? ⟨b, off + i * 3 + 1, none⟩ = some (.int .i64 (es.getD i (0, 0, 0)).2.1) ∧ w.cell? ⟨b, off + i * 3 + 2, none⟩ = some (.int .i64 (es.getD i (0, 0, 0)).2.2))
    (hb : b < w.heap.size) (q : Nat) : RowE w (.slice (some ⟨b, off + q * 3, none⟩) (es.length - q) cap) (es.drop q) := by
  have hl : (es.drop q).length = es.length - q := by rw [List.length_drop]
  refine ⟨_, cap, by rw [hl], .inr ⟨b, off + q * 3, rfl, hb, fun i hi => ?_⟩⟩
  rw [hl] at hi
  have e : (es.drop q).getD i (0, 0, 0) = es.getD (q + i) (0, 0, 0) := by simp [List.getD, List.getElem?_drop]
  rw [e]
  have h := hc (q + i) (by omega)
  have e2 : off + (q + i) * 3 = off + q * 3 + i * 3 := by omega
  rw [e2] at h
  exact h

/-- What a slice from a place on is. -/
def dropV (b off len cap q : Nat) : Value := .slice (if cap = q then some ⟨b, off, none⟩ else some ⟨b, off + q * 3, none⟩) (len - q) (cap - q)
theorem rowE_dropV {w : World} {b off cap : Nat} {es : List Ed} (hc : ∀ i, i < es.length → w.cell? ⟨b, off + i * 3, none⟩ = some (.int .i64 (es.getD i (0, 0, 0)).1) ∧ w.cell? ⟨b, off + i * 3 + 1, none⟩ = some (.int .i64 (es.getD i (0, 0, 0)).2.1) ∧ w.cell? ⟨b, off + i * 3 + 2, none⟩ = some (.int .i64 (es.getD i (0, 0, 0)).2.2))
    (hb : b < w.heap.size) (q : Nat) (hcap : es.length ≤ cap) : RowE w (dropV b off es.length cap q) (es.drop q) := by
  unfold dropV
  by_cases h : cap = q
  · rw [if_pos h]
    have e : es.drop q = [] := List.drop_eq_nil_of_le (by omega)
    rw [e]
    have : es.length - q = 0 := by omega
    rw [this]
    exact ⟨_, _, rfl, .inl rfl⟩
  · rw [if_neg h]
    exact rowE_drop hc hb q
theorem okS_dropV {b off len cap q : Nat} (h : len ≤ cap) : okS (dropV b off len cap q) := by
  unfold dropV
  split <;> exact okS_some (by omega)

end Go.Proofs.Ytjcfefpcilhelaa
namespace Go.Proofs.Ytjcfefpcilhelaa
open Go.RowKit Go.BigFrame Go.Deep
set_option linter.unusedVariables false
set_option linter.unusedSimpArgs false

end Go.Proofs.Ytjcfefpcilhelaa
namespace Go.Proofs.Ytjcfefpcilhelaa
open Go.RowKit Go.BigFrame Go.Deep
set_option linter.unusedVariables false
set_option linter.unusedSimpArgs false

end Go.Proofs.Ytjcfefpcilhelaa
