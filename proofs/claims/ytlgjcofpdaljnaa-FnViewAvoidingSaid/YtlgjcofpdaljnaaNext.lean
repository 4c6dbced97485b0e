/- NextNodes, in the program and in the model. -/
import Derived.Test.YtlgjcofpdaljnaaGraph3
import Derived.Test.YtlgjcofpdaljnaaRowAt
namespace Go.Proofs.Ytlgjcofpdaljnaa
open Go.RowKit Go.BigFrame Go.Deep
set_option linter.unusedVariables false
set_option linter.unusedSimpArgs false

/-- The nodes to which edges lead from a node. -/
def nxt (es : List Ed) (x : Int) : List Int := (es.filter (fun e => decide (e.1 = x))).map (·.2.1)
def nxtV (n : Int) (es : List Ed) (x : Int) : List Int := if gVal n es = true then nxt es x else []
theorem nxt_take (es : List Ed) (x : Int) {k : Nat} (hk : k < es.length) : nxt (es.take (k + 1)) x = nxt (es.take k) x ++ (if (es.getD k (0, 0, 0)).1 = x then [(es.getD k (0, 0, 0)).2.1] else []) := by
  have : es.take (k + 1) = es.take k ++ [es.getD k (0, 0, 0)] := by rw [List.take_succ_eq_append_getElem hk]; simp [List.getD, hk]
  rw [this]
  generalize es.getD k (0, 0, 0) = e
  unfold nxt
  rw [List.filter_append, List.map_append]
  congr 1
  by_cases h : e.1 = x <;> simp [List.filter_cons, h]
theorem nxt_len (es : List Ed) (x : Int) : (nxt es x).length ≤ es.length := by
  unfold nxt; rw [List.length_map]; exact List.length_filter_le _ _
theorem info_int2 : (Try.prog.info? 3).map (fun i => (i.zero, i.size, i.bytes)) = some (some (.int .i64 0), 1, 8) := by kernel_rfl
/-- A list of integers, in a slice of the call's own. -/
def OwnI (w w' : World) (v : Value) (zs : List Int) : Prop := InR true w' w.heap.size w'.heap.size v zs.length 1 (fun i => .int .i64 (zs.getD i 0))
theorem own_keep {w w' : World} {base : Nat} {t : TypeId} {sz : Nat} {v : Value} {n : Nat} {xs : List Value} (h : w.ownsRow base t sz v n xs) (hb : Below w.heap.size w w') : w'.ownsRow base t sz v n xs :=
  h.kept (row := none) ⟨hb.os, hb.tape, hb.output, hb.size, fun i hi _ => hb.block i hi⟩ (Classical.em _)
theorem OwnI.of {w w' : World} {base : Nat} {v : Value} {zs : List Int} (h : w'.ownsRow base 3 1 v zs.length (zs.map (Value.int .i64))) (hb : w.heap.size ≤ base) : OwnI w w' v zs := by
  have h1 := (InR.of_own h).wider (l := w.heap.size) (h := w'.heap.size) hb (Nat.le_refl _) (Nat.le_refl _)
  obtain ⟨a, cap, rfl, hz⟩ := h1
  refine ⟨a, cap, rfl, ?_⟩
  rcases hz with h0 | ⟨b, off, rfl, k1, k2, k3, hc⟩
  · exact .inl h0
  · refine .inr ⟨b, off, rfl, k1, k2, k3, fun i hi => ⟨?_, (hc i hi).2⟩⟩
    rw [(hc i hi).1]
    have hi2 : i < zs.length := by omega
    simp [List.getD, hi2]

theorem own_empty (w : World) (t : TypeId) (B : Nat) (hB : B ≤ w.heap.size) : (w.alloc (Obj.cells #[] t)).ownsRow B t 1 (.slice (some ⟨w.heap.size, 0, none⟩) 0 0) 0 [] :=
  ⟨rfl, .inr ⟨w.heap.size, 0, #[], rfl, hB, blk_alloc_new _ _, Nat.le_refl _, by unfold maxLen; omega, rfl, rfl⟩⟩

end Go.Proofs.Ytlgjcofpdaljnaa
