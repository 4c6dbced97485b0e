/- Mathematics of derived views (chapter 10): lists of different nodes, graphs without nodes or edges, the nodes for which something holds. -/
import Derived.Test.YtlgjcofpdaljnaaPutT
import Derived.Test.YtlgjcofpdaljnaaViewT
namespace Go.Proofs.Ytlgjcofpdaljnaa
open Go.RowKit Go.BigFrame Go.Deep
set_option linter.unusedVariables false
set_option linter.unusedSimpArgs false

/-- Nodes of a graph, none of them twice. -/
def ndB (n : Int) (ns : List Int) : Bool := ns.all (inN n) && decide ns.Nodup
theorem ndB_iff {n : Int} {ns : List Int} : ndB n ns = true ↔ (∀ x ∈ ns, inN n x = true) ∧ ns.Nodup := by
  simp [ndB]
theorem take_snoc {α : Type} (l : List α) (d : α) {k : Nat} (hk : k < l.length) : l.take (k + 1) = l.take k ++ [l.getD k d] := by
  rw [List.take_succ_eq_append_getElem hk]; simp [List.getD, hk]
theorem ndB_nil (n : Int) : ndB n [] = true := by simp [ndB]
theorem ndB_take {n : Int} {ns : List Int} {k : Nat} (hk : k < ns.length) :
    ndB n (ns.take (k + 1)) = (ndB n (ns.take k) && (inN n (ns.getD k 0) && !(decide (ns.getD k 0 ∈ ns.take k)))) := by
  rw [take_snoc ns 0 hk]
  generalize ns.take k = l
  generalize ns.getD k 0 = x
  rw [Bool.eq_iff_iff]
  simp only [Bool.and_eq_true, ndB_iff, Bool.not_eq_true', decide_eq_false_iff_not, List.nodup_append, List.mem_append, List.mem_singleton]
  constructor
  · rintro ⟨h1, h2, h3, h4⟩
    exact ⟨⟨fun y hy => h1 y (.inl hy), h2⟩, h1 x (.inr rfl), fun hx => h4 x hx x rfl rfl⟩
  · rintro ⟨⟨h1, h2⟩, h3, h4⟩
    refine ⟨?_, h2, by simp, ?_⟩
    · rintro y (hy | rfl)
      · exact h1 y hy
      · exact h3
    · rintro y hy z rfl rfl
      exact h4 hy
theorem ndB_pre {n : Int} {ns : List Int} (h : ndB n ns = true) (k : Nat) : ndB n (ns.take k) = true := by
  rw [ndB_iff] at h ⊢
  exact ⟨fun x hx => h.1 x (List.mem_of_mem_take hx), h.2.sublist (List.take_sublist _ _)⟩
theorem ndB_bad {n : Int} {ns : List Int} {k : Nat} (h : ndB n (ns.take k) = false) : ndB n ns = false := by
  cases hb : ndB n ns
  · rfl
  · rw [ndB_pre hb k] at h; exact h
theorem nodup_sub0 : ∀ (l k : List Int), l.Nodup → (∀ x ∈ l, x ∈ k) → l.length ≤ k.length
  | [], _, _, _ => by simp
  | x :: l, k, hd, h => by
    obtain ⟨h1, h2⟩ := List.nodup_cons.1 hd
    have h3 := nodup_sub0 l (k.erase x) h2 (fun y hy => (List.mem_erase_of_ne (fun e => by rw [e] at hy; exact h1 hy)).2 (h y (List.mem_cons_of_mem _ hy)))
    have h4 := List.length_erase_of_mem (h x (List.mem_cons_self ..))
    have h5 := List.length_pos_of_mem (h x (List.mem_cons_self ..))
    simp only [List.length_cons]
    omega
theorem inN_iff {n x : Int} : inN n x = true ↔ 0 ≤ x ∧ x < n := by simp [inN]
theorem ndB_len {n : Int} {ns : List Int} (h : ndB n ns = true) : (ns.length : Int) ≤ n ∨ ns = [] := by
  rw [ndB_iff] at h
  by_cases he : ns = []
  · exact .inr he
  · left
    have := nodup_sub0 ns ((List.range n.toNat).map (fun i : Nat => (i : Int))) h.2 (fun y hy => by
      have := inN_iff.1 (h.1 y hy)
      exact List.mem_map.2 ⟨y.toNat, List.mem_range.2 (by omega), by omega⟩)
    rw [List.length_map, List.length_range] at this
    obtain ⟨x, hx⟩ := List.exists_mem_of_ne_nil ns he
    have := inN_iff.1 (h.1 x hx)
    omega
theorem ndB_len12 {n : Int} {ns : List Int} (h : ndB n ns = true) (hn : n ≤ 12) : ns.length ≤ 12 := by
  rcases ndB_len h with h1 | h1
  · omega
  · rw [h1]; simp

/-- The edges for which something holds. -/
theorem filter_takeE (p : Ed → Bool) (es : List Ed) {k : Nat} (hk : k < es.length) :
    (es.take (k + 1)).filter p = (es.take k).filter p ++ (if p (es.getD k (0, 0, 0)) = true then [es.getD k (0, 0, 0)] else []) := by
  rw [take_snoc es (0, 0, 0) hk, List.filter_append]
  congr 1
  by_cases h : p (es.getD k (0, 0, 0)) = true <;> simp [List.filter_cons, h]
theorem filter_lenE (p : Ed → Bool) (es : List Ed) : (es.filter p).length ≤ es.length := List.length_filter_le _ _
theorem gVal_filter {n : Int} {es : List Ed} (p : Ed → Bool) (h : gVal n es = true) : gVal n (es.filter p) = true := by
  rw [gVal_iff] at h ⊢
  obtain ⟨⟨h1, h2, h3⟩, h4, h5⟩ := h
  exact ⟨⟨h1, h2, Nat.le_trans (filter_lenE _ _) h3⟩, fun d hd => h4 d (List.mem_filter.1 hd).1, h5.sublist List.filter_sublist⟩

/-- The edges that are left without some nodes. -/
def woP (ns : List Int) (e : Ed) : Bool := !(decide (e.1 ∈ ns)) && !(decide (e.2.1 ∈ ns))
def woL (es : List Ed) (ns : List Int) : List Ed := es.filter (woP ns)
def woB (n : Int) (es : List Ed) (ns : List Int) : Bool := gVal n es && ndB n ns
def woN (n : Int) (es : List Ed) (ns : List Int) : Int := if woB n es ns = true then n else 0
def woR (n : Int) (es : List Ed) (ns : List Int) : List Ed := if woB n es ns = true then woL es ns else []
theorem woR_len (n : Int) (es : List Ed) (ns : List Int) : (woR n es ns).length ≤ es.length := by
  unfold woR
  split
  · exact filter_lenE _ _
  · simp

theorem woR_len40 (n : Int) (es : List Ed) (ns : List Int) : (woR n es ns).length ≤ 40 := by
  unfold woR
  split
  · rename_i h
    simp only [woB, Bool.and_eq_true] at h
    exact Nat.le_trans (filter_lenE _ _) (gVal_iff.1 h.1).1.2.2
  · simp

/-- The nodes for which something holds. -/
def ndsL (N : Nat) : List Int := (List.range N).map (fun i : Nat => (i : Int))
def nwL (N : Nat) (p : Int → Bool) : List Int := (ndsL N).filter p
theorem nwL_zero (p : Int → Bool) : nwL 0 p = [] := rfl
theorem nwL_succ (k : Nat) (p : Int → Bool) : nwL (k + 1) p = nwL k p ++ (if p (k : Int) = true then [(k : Int)] else []) := by
  unfold nwL ndsL
  rw [List.range_succ, List.map_append, List.filter_append]
  congr 1
  by_cases h : p (k : Int) = true <;> simp [List.filter_cons, h]
theorem nwL_len (N : Nat) (p : Int → Bool) : (nwL N p).length ≤ N := by
  have := List.length_filter_le p (ndsL N)
  simpa [nwL, ndsL] using this
theorem nwL_mem {N : Nat} {p : Int → Bool} {x : Int} : x ∈ nwL N p ↔ (0 ≤ x ∧ x < N) ∧ p x = true := by
  unfold nwL ndsL
  rw [List.mem_filter, List.mem_map]
  constructor
  · rintro ⟨⟨i, hi, rfl⟩, h⟩
    have := List.mem_range.1 hi
    exact ⟨⟨by omega, by omega⟩, h⟩
  · rintro ⟨⟨h0, h1⟩, h⟩
    exact ⟨⟨x.toNat, List.mem_range.2 (by omega), by omega⟩, h⟩
theorem nwL_congr {N : Nat} {p q : Int → Bool} (h : ∀ i : Nat, i < N → p (i : Int) = q (i : Int)) : nwL N p = nwL N q := by
  unfold nwL ndsL
  apply List.filter_congr
  intro x hx
  obtain ⟨i, hi, rfl⟩ := List.mem_map.1 hx
  exact h i (List.mem_range.1 hi)
end Go.Proofs.Ytlgjcofpdaljnaa
