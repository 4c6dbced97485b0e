/- slices.Concat of slices of edges. PutEdge of the program. PutEdge of the program: the way on. PutEdge of the program: what it answers. -/
import Derived.Test.YtlgjcofpdaljnaaRowAt
import Derived.Test.YtlgjcofpdaljnaaFind3
import Derived.Lib.AppendZeros
import Derived.Laws.AppendOwnNone
import Derived.Laws.ResultCell
import Derived.Deep.RegionHeld3
namespace Go.Proofs.Ytlgjcofpdaljnaa
open Go.RowKit Go.BigFrame Go.Deep
set_option linter.unusedVariables false
set_option linter.unusedSimpArgs false

theorem own_keep3 {w w' : World} {base : Nat} {t : TypeId} {sz : Nat} {v : Value} {n : Nat} {xs : List Value} (h : w.ownsRow base t sz v n xs) (hb : Below w.heap.size w w') : w'.ownsRow base t sz v n xs :=
  h.kept (row := none) ⟨hb.os, hb.tape, hb.output, hb.size, fun i hi _ => hb.block i hi⟩ (Classical.em _)
/-- The cells of a row of edges, as a list. -/
def cellsE (es : List Ed) : List Value := (List.range (es.length * 3)).map (cellE es)
theorem cellsE_len (es : List Ed) : (cellsE es).length = es.length * 3 := by simp [cellsE]
theorem cellsE_get (es : List Ed) (j : Nat) (u : Value) (h : (cellsE es)[j]? = some u) : j < es.length * 3 ∧ u = cellE es j := by
  unfold cellsE at h
  rw [List.getElem?_map] at h
  by_cases hj : j < es.length * 3
  · simp [hj] at h; exact ⟨hj, h.symm⟩
  · simp [hj] at h
theorem cellE_app1 (es fs : List Ed) {j : Nat} (h : j < es.length * 3) : cellE (es ++ fs) j = cellE es j := by
  have : j / 3 < es.length := by omega
  simp only [cellE, List.getD, List.getElem?_append_left this]
theorem cellE_app2 (es fs : List Ed) (j : Nat) : cellE (es ++ fs) (es.length * 3 + j) = cellE fs j := by
  have h1 : (es.length * 3 + j) / 3 = es.length + j / 3 := by omega
  have h2 : (es.length * 3 + j) % 3 = j % 3 := by omega
  have h3 : es.length ≤ es.length + j / 3 := by omega
  simp only [cellE, List.getD, h1, h2, List.getElem?_append_right h3, Nat.add_sub_cancel_left]
theorem cellsE_app (es fs : List Ed) : cellsE (es ++ fs) = cellsE es ++ cellsE fs := by
  unfold cellsE
  rw [List.length_append, Nat.add_mul, List.range_add, List.map_append, List.map_map]
  congr 1
  · apply List.map_congr_left
    intro j hj
    exact cellE_app1 es fs (by simpa using hj)
  · apply List.map_congr_left
    intro j hj
    exact cellE_app2 es fs j
theorem cellsE_one (es : List Ed) : ∀ u ∈ cellsE es, u.oneCell' = true := by
  intro u hu
  unfold cellsE at hu
  rw [List.mem_map] at hu
  obtain ⟨j, _, rfl⟩ := hu
  rfl
/-- A list of edges, in a slice of the call's own. -/
def OwnE (w w' : World) (v : Value) (es : List Ed) : Prop := InR true w' w.heap.size w'.heap.size v es.length 3 (cellE es)
theorem OwnE.of {w w' : World} {base : Nat} {v : Value} {es : List Ed} (h : w'.ownsRow base 67 3 v es.length (cellsE es)) (hb : w.heap.size ≤ base) : OwnE w w' v es := by
  have h1 := (InR.of_own h).wider (l := w.heap.size) (h := w'.heap.size) hb (Nat.le_refl _) (Nat.le_refl _)
  obtain ⟨a, cap, rfl, hz⟩ := h1
  refine ⟨a, cap, rfl, ?_⟩
  rcases hz with h0 | ⟨b, off, rfl, k1, k2, k3, hc⟩
  · exact .inl h0
  · refine .inr ⟨b, off, rfl, k1, k2, k3, fun i hi => ⟨?_, (hc i hi).2⟩⟩
    rw [(hc i hi).1]
    simp [cellsE, List.getD, hi]

/-- How many edges there are in the first k lists. -/
def catE (ess : List (List Ed)) (k : Nat) : List Ed := (ess.take k).flatten
def lens (ess : List (List Ed)) (k : Nat) : Nat := (catE ess k).length
theorem lens_succ (ess : List (List Ed)) {k : Nat} (h : k < ess.length) : catE ess (k + 1) = catE ess k ++ ess.getD k [] := by
  unfold catE
  rw [List.take_succ_eq_append_getElem h, List.flatten_append]
  simp [List.getD, h]
theorem lens_le (ess : List (List Ed)) (k : Nat) : lens ess k ≤ ess.flatten.length := by
  unfold lens catE
  conv => rhs; rw [← List.take_append_drop k ess, List.flatten_append, List.length_append]
  omega

end Go.Proofs.Ytlgjcofpdaljnaa
namespace Go.Proofs.Ytlgjcofpdaljnaa
open Go.RowKit Go.BigFrame Go.Deep
set_option linter.unusedVariables false
set_option linter.unusedSimpArgs false

/-- How many edges an edge replaces. -/
def fdN (es : List Ed) (a b : Int) : Nat := if fdE es a b = true then 1 else 0
/-- The edges with an edge in its place. -/
def pL (es : List Ed) (e : Ed) : List Ed := es.take (lbE es e.1 e.2.1) ++ e :: es.drop (lbE es e.1 e.2.1 + fdN es e.1 e.2.1)
def putB (n : Int) (es : List Ed) (e : Ed) : Bool := (gVal n es && eFits n e.1 e.2.1 e.2.2) && decide ((pL es e).length ≤ 40)
def putN (n : Int) (es : List Ed) (e : Ed) : Int := if putB n es e = true then n else 0
def putL (n : Int) (es : List Ed) (e : Ed) : List Ed := if putB n es e = true then pL es e else []

theorem ownE_nil (w w' : World) : OwnE w w' (.slice none 0 0) [] := ⟨none, 0, rfl, .inl rfl⟩
theorem okS_nil : okS (.slice none 0 0) := by
  intro a n c e
  injection e with e1 e2 e3
  subst e1 e2 e3
  exact ⟨Nat.le_refl _, (fun _ => rfl), fun x h => by cases h⟩
theorem okS_some {b off n c : Nat} (h : n ≤ c) : okS (.slice (some ⟨b, off, none⟩) n c) := by
  intro a n c e
  injection e with e1 e2 e3
  subst e1 e2 e3
  exact ⟨h, (fun h => by cases h), fun x h => by injection h with h; rw [← h]⟩
theorem rowE_take {w : World} {b off cap : Nat} {es : List Ed} (hc : ∀ i, i < es.length → w.cell? ⟨b, off + i * 3, none⟩ = some (.int .i64 (es.getD i (0, 0, 0)).1) ∧ w.cell? ⟨b, off + i * 3 + 1, none⟩ = some (.int .i64 (es.getD i (0, 0, 0)).2.1) ∧ w.cell? ⟨b, off + i * 3 + 2, none⟩ = some (.int .i64 (es.getD i (0, 0, 0)).2.2))
    (hb : b < w.heap.size) {p : Nat} (hp : p ≤ es.length) : RowE w (.slice (some ⟨b, off, none⟩) p cap) (es.take p) := by
  have hl : (es.take p).length = p := by rw [List.length_take]; omega
  refine ⟨_, cap, by rw [hl], .inr ⟨b, off, rfl, hb, fun i hi => ?_⟩⟩
  rw [hl] at hi
  have e : (es.take p).getD i (0, 0, 0) = es.getD i (0, 0, 0) := by simp [List.getD, hi]
  rw [e]
  exact hc i (by omega)
theorem rowE_drop {w : World} {b off cap : Nat} {es : List Ed} (hc : ∀ i, i < es.length → w.cell? ⟨b, off + i * 3, none⟩ = some (.int .i64 (es.getD i (0, 0, 0)).1) ∧ w.cell? ⟨b, off + i * 3 + 1, none⟩ = some (.int .i64 (es.getD i (0, 0, 0)).2.1) ∧ w.cell? ⟨b, off + i * 3 + 2, none⟩ = some (.int .i64 (es.getD i (0, 0, 0)).2.2))
    (hb : b < w.heap.size) (q : Nat) : RowE w (.slice (some ⟨b, off + q * 3, none⟩) (es.length - q) cap) (es.drop q) := by
  have hl : (es.drop q).length = es.length - q := by rw [List.length_drop]
  refine ⟨_, cap, by rw [hl], .inr ⟨b, off + q * 3, rfl, hb, fun i hi => ?_⟩⟩
  rw [hl] at hi
  have e : (es.drop q).getD i (0, 0, 0) = es.getD (q + i) (0, 0, 0) := by simp [List.getD, List.getElem?_drop]
  rw [e]
  have h := hc (q + i) (by omega)
  have e2 : off + (q + i) * 3 = off + q * 3 + i * 3 := by omega
  rw [e2] at h
  exact h

/-- What a slice from a place on is. -/
def dropV (b off len cap q : Nat) : Value := .slice (if cap = q then some ⟨b, off, none⟩ else some ⟨b, off + q * 3, none⟩) (len - q) (cap - q)
theorem rowE_dropV {w : World} {b off cap : Nat} {es : List Ed} (hc : ∀ i, i < es.length → w.cell? ⟨b, off + i * 3, none⟩ = some (.int .i64 (es.getD i (0, 0, 0)).1) ∧ w.cell? ⟨b, off + i * 3 + 1, none⟩ = some (.int .i64 (es.getD i (0, 0, 0)).2.1) ∧ w.cell? ⟨b, off + i * 3 + 2, none⟩ = some (.int .i64 (es.getD i (0, 0, 0)).2.2))
    (hb : b < w.heap.size) (q : Nat) (hcap : es.length ≤ cap) : RowE w (dropV b off es.length cap q) (es.drop q) := by
  unfold dropV
  by_cases h : cap = q
  · rw [if_pos h]
    have e : es.drop q = [] := List.drop_eq_nil_of_le (by omega)
    rw [e]
    have : es.length - q = 0 := by omega
    rw [this]
    exact ⟨_, _, rfl, .inl rfl⟩
  · rw [if_neg h]
    exact rowE_drop hc hb q
theorem okS_dropV {b off len cap q : Nat} (h : len ≤ cap) : okS (dropV b off len cap q) := by
  unfold dropV
  split <;> exact okS_some (by omega)

end Go.Proofs.Ytlgjcofpdaljnaa
namespace Go.Proofs.Ytlgjcofpdaljnaa
open Go.RowKit Go.BigFrame Go.Deep
set_option linter.unusedVariables false
set_option linter.unusedSimpArgs false

end Go.Proofs.Ytlgjcofpdaljnaa
namespace Go.Proofs.Ytlgjcofpdaljnaa
open Go.RowKit Go.BigFrame Go.Deep
set_option linter.unusedVariables false
set_option linter.unusedSimpArgs false

end Go.Proofs.Ytlgjcofpdaljnaa
