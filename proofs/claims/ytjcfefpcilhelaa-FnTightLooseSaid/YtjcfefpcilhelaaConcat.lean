/- slices.Concat of slices of edges. -/
import Derived.Test.YtjcfefpcilhelaaRow
import Derived.Test.YtjcfefpcilhelaaFind3
import Derived.Lib.AppendZeros
import Derived.Laws.AppendOwnNone
namespace Go.Proofs.Ytjcfefpcilhelaa
open Go.RowKit Go.BigFrame Go.Deep
set_option linter.unusedVariables false
set_option linter.unusedSimpArgs false

theorem own_keep3 {w w' : World} {base : Nat} {t : TypeId} {sz : Nat} {v : Value} {n : Nat} {xs : List Value} (h : w.ownsRow base t sz v n xs) (hb : Below w.heap.size w w') : w'.ownsRow base t sz v n xs :=
  h.kept (row := none) ⟨hb.os, hb.tape, hb.output, hb.size, fun i hi _ => hb.block i hi⟩ (Classical.em _)
/-- The cells of a row of edges, as a list. -/
def cellsE (es : List Ed) : List Value := (List.range (es.length * 3)).map (cellE es)
theorem cellsE_len (es : List Ed) : (cellsE es).length = es.length * 3 := by simp [cellsE]
theorem cellsE_get (es : List Ed) (j : Nat) (u : Value) (h : (cellsE es)[j]? = some u) : j < es.length * 3 ∧ u = cellE es j := by
  unfold cellsE at h
  rw [List.getElem?_map] at h
  by_cases hj : j < es.length * 3
  · simp [hj] at h; exact ⟨hj, h.symm⟩
  · simp [hj] at h
theorem cellE_app1 (es fs : List Ed) {j : Nat} (h : j < es.length * 3) : cellE (es ++ fs) j = cellE es j := by
  have : j / 3 < es.length := by omega
  simp only [cellE, List.getD, List.getElem?_append_left this]
theorem cellE_app2 (es fs : List Ed) (j : Nat) : cellE (es ++ fs) (es.length * 3 + j) = cellE fs j := by
  have h1 : (es.length * 3 + j) / 3 = es.length + j / 3 := by omega
  have h2 : (es.length * 3 + j) % 3 = j % 3 := by omega
  have h3 : es.length ≤ es.length + j / 3 := by omega
  simp only [cellE, List.getD, h1, h2, List.getElem?_append_right h3, Nat.add_sub_cancel_left]
theorem cellsE_app (es fs : List Ed) : cellsE (es ++ fs) = cellsE es ++ cellsE fs := by
  unfold cellsE
  rw [List.length_append, Nat.add_mul, List.range_add, List.map_append, List.map_map]
  congr 1
  · apply List.map_congr_left
    intro j hj
    exact cellE_app1 es fs (by simpa using hj)
  · apply List.map_congr_left
    intro j hj
    exact cellE_app2 es fs j
theorem cellsE_one (es : List Ed) : ∀ u ∈ cellsE es, u.oneCell' = true := by
  intro u hu
  unfold cellsE at hu
  rw [List.mem_map] at hu
  obtain ⟨j, _, rfl⟩ := hu
  rfl
/-- A list of edges, in a slice of the call's own. -/
def OwnE (w w' : World) (v : Value) (es : List Ed) : Prop := InR true w' w.heap.size w'.heap.size v es.length 3 (cellE es)
theorem OwnE.of {w w' : World} {base : Nat} {v : Value} {es : List Ed} (h : w'.ownsRow base 36 3 v es.length (cellsE es)) (hb : w.heap.size ≤ base) : OwnE w w' v es := by
  have h1 := (InR.of_own h).wider (l := w.heap.size) (h := w'.heap.size) hb (Nat.le_refl _) (Nat.le_refl _)
  obtain ⟨a, cap, rfl, hz⟩ := h1
  refine ⟨a, cap, rfl, ?_⟩
  rcases hz with h0 | ⟨b, off, rfl, k1, k2, k3, hc⟩
  · exact .inl h0
  · refine .inr ⟨b, off, rfl, k1, k2, k3, fun i hi => ⟨?_, (hc i hi).2⟩⟩
    rw [(hc i hi).1]
    simp [cellsE, List.getD, hi]

/-- How many edges there are in the first k lists. -/
def catE (ess : List (List Ed)) (k : Nat) : List Ed := (ess.take k).flatten
def lens (ess : List (List Ed)) (k : Nat) : Nat := (catE ess k).length
theorem lens_succ (ess : List (List Ed)) {k : Nat} (h : k < ess.length) : catE ess (k + 1) = catE ess k ++ ess.getD k [] := by
  unfold catE
  rw [List.take_succ_eq_append_getElem h, List.flatten_append]
  simp [List.getD, h]
theorem lens_le (ess : List (List Ed)) (k : Nat) : lens ess k ≤ ess.flatten.length := by
  unfold lens catE
  conv => rhs; rw [← List.take_append_drop k ess, List.flatten_append, List.length_append]
  omega

end Go.Proofs.Ytjcfefpcilhelaa
