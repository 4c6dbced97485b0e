/- Worlds in which only blocks of some types have changed; rows of the call's own: read, cut, written. -/
import Derived.Test.YtneapbggnnndhaaGreatBoxes
import Derived.Test.YtneapbggnnndhaaGreatBase
namespace Go.Proofs.YtneapbggnnndhaaGreat
open Go.RowKit Go.BigFrame Go.Deep
set_option linter.unusedVariables false
set_option linter.unusedSimpArgs false

/-- Only blocks from base on of the types A have changed. -/
structure ChaT (A : TypeId → Prop) (base : Nat) (w w' : World) : Prop where
  os : w'.os = w.os
  tape : w'.tape = w.tape
  output : w'.output = w.output
  size : w.heap.size ≤ w'.heap.size
  block : ∀ k, k < w.heap.size → ¬ (base ≤ k ∧ ∃ cs t, A t ∧ w.heap[k]? = some (.cells cs t (0, 0))) → w'.heap[k]? = w.heap[k]?
section
variable {A A2 : TypeId → Prop} {base : Nat} {w w' w'' : World}
theorem ChaT.refl (A : TypeId → Prop) (base : Nat) (w : World) : ChaT A base w w := ⟨rfl, rfl, rfl, Nat.le_refl _, fun _ _ _ => rfl⟩
theorem ChaT.trans (h : ChaT A base w w') (k : ChaT A base w' w'') : ChaT A base w w'' := by
  refine ⟨k.os.trans h.os, k.tape.trans h.tape, k.output.trans h.output, Nat.le_trans h.size k.size, fun j hj hn => ?_⟩
  have h1 := h.block j hj hn
  rw [← h1]
  refine k.block j (Nat.lt_of_lt_of_le hj h.size) (fun hc => hn ?_)
  obtain ⟨hb, cs, t, ht, hh⟩ := hc
  rw [h1] at hh
  exact ⟨hb, cs, t, ht, hh⟩
theorem ChaT.mono (h : ChaT A base w w') (hA : ∀ t, A t → A2 t) : ChaT A2 base w w' :=
  ⟨h.os, h.tape, h.output, h.size, fun j hj hn => h.block j hj (fun ⟨hb, cs, t, ht, hh⟩ => hn ⟨hb, cs, t, hA t ht, hh⟩)⟩
theorem ChaT.of_below (h : Below w.heap.size w w') : ChaT A base w w' := ⟨h.os, h.tape, h.output, h.size, fun j hj _ => h.block j hj⟩
theorem ChaT.below (h : ChaT A base w w') (hb : base ≤ w.heap.size) : Below base w w' := ⟨h.os, h.tape, h.output, h.size, fun k hk => h.block k (by omega) (fun hc => by omega)⟩
theorem ChaT.bel {W : World} (h : ChaT A base w w') (hb : base ≤ w.heap.size) (hW : W.heap.size ≤ base) (k : Below W.heap.size W w) : Below W.heap.size W w' := k.trans ((h.below hb).mono hW)
theorem ChaT.of_grown {e : TypeId} {u : Value} {sz m : Nat} {xs : List Value} (hg : w.grownBy w' u.ownBlock) (ho : w.ownsRow base e sz u m xs) (hA : A e) : ChaT A base w w' := by
  refine ⟨hg.os, hg.tape, hg.output, hg.size, fun k hk hn => hg.block k hk (fun hb => hn ?_)⟩
  rcases ho.2 with ⟨rfl, _⟩ | ⟨g, cap, cur, rfl, hbg, hgg, _⟩
  · simp [Value.ownBlock] at hb
  · simp [Value.ownBlock] at hb
    subst hb
    exact ⟨hbg, cur, e, hA, hgg⟩
theorem ChaT.set {B : Nat} {cs : Array Value} {t : TypeId} (hB : w.heap[B]? = some (.cells cs t (0, 0))) (hb : base ≤ B) (hA : A t) (o : Nat) (u : Value) : ChaT A base w (w.setCell ⟨B, o, none⟩ u) := by
  refine ⟨rfl, rfl, rfl, by simp, fun k hk hn => Below.heap_setCell w ⟨B, o, none⟩ u k (fun e => hn ?_)⟩
  simp only at e
  subst e
  exact ⟨hb, cs, t, hA, hB⟩
theorem ChaT.box {X : Nat} {t : TypeId} {cs : Array Value} (h : ChaT A base w w') (b : Box w X t cs) (hA : ¬ A t ∨ X < base) : Box w' X t cs := by
  have hX := b.lt
  unfold Box at *
  rw [h.block X hX (fun ⟨hb, cs', t', ht, hh⟩ => ?_)]
  · exact b
  · rw [b] at hh
    simp at hh
    rcases hA with hA | hA
    · exact hA (hh.2 ▸ ht)
    · omega
theorem ChaT.rowIs {X : Nat} {t : TypeId} {n : Nat} {f : Nat → Value} (h : ChaT A base w w') (b : w.rowIs X t n f) (hA : ¬ A t) : w'.rowIs X t n f := by
  obtain ⟨cur, h1, h2⟩ := b
  refine ⟨cur, ?_, h2⟩
  rw [h.block X (Array.getElem?_eq_some_iff.1 h1).1 (fun ⟨hb, cs', t', ht, hh⟩ => ?_)]
  · exact h1
  · rw [h1] at hh
    simp at hh
    exact hA (hh.2 ▸ ht)
theorem ChaT.own {e : TypeId} {u : Value} {sz m : Nat} {xs : List Value} (h : ChaT A base w w') (ho : w.ownsRow base e sz u m xs) (hA : ¬ A e) : w'.ownsRow base e sz u m xs := by
  refine ⟨ho.1, ?_⟩
  rcases ho.2 with h0 | ⟨g, cap, cur, rfl, hbg, hgg, rest⟩
  · exact .inl h0
  · refine .inr ⟨g, cap, cur, rfl, hbg, ?_, rest⟩
    rw [h.block g (Array.getElem?_eq_some_iff.1 hgg).1 (fun ⟨hb, cs', t', ht, hh⟩ => ?_)]
    · exact hgg
    · rw [hgg] at hh
      simp at hh
      exact hA (hh.2 ▸ ht)
end
theorem own_set1 {w : World} {base g n cap sz : Nat} {e : TypeId} {xs : List Value} (h : w.ownsRow base e sz (.slice (some ⟨g, 0, none⟩) n cap) n xs) {i : Nat} (u : Value) : (w.setCell ⟨g, i, none⟩ u).ownsRow base e sz (.slice (some ⟨g, 0, none⟩) n cap) n (xs.set i u) := by
  refine ⟨by rw [List.length_set]; exact h.1, ?_⟩
  rcases h.2 with ⟨h0, _⟩ | ⟨g', cap', cur, he, hbg, hgg, h1, h2, h3, h4⟩
  · cases h0
  · injection he with e1 e2 e3
    injection e1 with e1
    injection e1 with e1
    subst e1 e3
    refine .inr ⟨g, cap, cur.setIfInBounds i u, rfl, hbg, ?_, h1, h2, by simpa using h3, ?_⟩
    · simp [World.setCell, Array.getElem?_modify, hgg]
    · rw [← h4]
      simp [List.take_set]
theorem own_heap {w : World} {base g n cap sz : Nat} {e : TypeId} {xs : List Value} (h : w.ownsRow base e sz (.slice (some ⟨g, 0, none⟩) n cap) n xs) : base ≤ g ∧ ∃ cs, w.heap[g]? = some (.cells cs e (0, 0)) := by
  rcases h.2 with ⟨h0, _⟩ | ⟨g', cap', cur, he, hbg, hgg, h1, h2, h3, h4⟩
  · cases h0
  · injection he with e1 e2 e3
    injection e1 with e1
    injection e1 with e1
    subst e1
    exact ⟨hbg, cur, hgg⟩
theorem own_pos {w : World} {base n sz : Nat} {e : TypeId} {u : Value} {xs : List Value} (h : w.ownsRow base e sz u n xs) (hn : 0 < n) : ∃ g cap, u = .slice (some ⟨g, 0, none⟩) n cap ∧ base ≤ g ∧ g < w.heap.size ∧ n ≤ cap := by
  rcases h.2 with ⟨_, h0⟩ | ⟨g, cap, cur, rfl, hbg, hgg, h1, _⟩
  · omega
  · exact ⟨g, cap, rfl, hbg, (Array.getElem?_eq_some_iff.1 hgg).1, h1⟩
theorem own_cell {w : World} {base g n cap sz : Nat} {e : TypeId} {xs : List Value} (h : w.ownsRow base e sz (.slice (some ⟨g, 0, none⟩) n cap) n xs) {j : Nat} {u : Value} (hu : xs[j]? = some u) : w.cell? ⟨g, j, none⟩ = some u ∧ w.frozen? ⟨g, j, none⟩ = false := by
  have h1 := h.cells (g := g) rfl j u hu
  have ha : Addr.add ⟨g, 0, none⟩ j = ⟨g, j, none⟩ := by rw [Go.WideShapes.add_plain, Nat.zero_add]
  rw [ha] at h1
  obtain ⟨_, cs, hh⟩ := own_heap h
  exact ⟨h1, by simp [World.frozen?, hh]⟩
/-- A slice is cut at its end. -/
theorem own_cut {w : World} {base g n cap sz k : Nat} {e : TypeId} {xs : List Value} (h : w.ownsRow base e sz (.slice (some ⟨g, 0, none⟩) n cap) n xs) (hk : k ≤ n) : w.ownsRow base e sz (.slice (some ⟨g, 0, none⟩) k cap) k (xs.take (k * sz)) := by
  have hks : k * sz ≤ n * sz := Nat.mul_le_mul_right _ hk
  refine ⟨by rw [List.length_take, h.1]; omega, ?_⟩
  rcases h.2 with ⟨h0, _⟩ | ⟨g', cap', cur, he, hbg, hgg, h1, h2, h3, h4⟩
  · cases h0
  · injection he with e1 e2 e3
    injection e1 with e1
    injection e1 with e1
    subst e1 e3
    refine .inr ⟨g, cap, cur, rfl, hbg, hgg, by omega, h2, h3, ?_⟩
    rw [← h4, List.take_take, Nat.min_eq_left hks]
theorem own_other {w : World} {base sz n : Nat} {e t : TypeId} {u : Value} {xs : List Value} {B : Nat} {cs : Array Value} (h : w.ownsRow base e sz u n xs) (hB : Box w B t cs) (hne : e ≠ t) (o : Nat) (v : Value) : (w.setCell ⟨B, o, none⟩ v).ownsRow base e sz u n xs := hB.own h hne
end Go.Proofs.YtneapbggnnndhaaGreat
