/- Heaps: the mathematics. Worlds in which only blocks of some types have changed; a row of entries that a heap is. The methods of the heap of waiting nodes. container/heap over the waiting nodes: Push, Pop. container/heap over the waiting nodes: Push and Pop, whole. -/
import Derived.Test.YtbhhbhopogkmnaaBase
import Derived.Test.YtbhhbhopogkmnaaBoxes
import Derived.Test.YtbhhbhopogkmnaaVEdges
import Derived.Test.YtbhhbhopogkmnaaNext
import Derived.Test.YtbhhbhopogkmnaaDisp
import Derived.BigRegion
import Derived.Test.YtbhhbhopogkmnaaEndV
namespace Go.Proofs.Ytbhhbhopogkmnaa
set_option linter.unusedVariables false
set_option linter.unusedSimpArgs false

section
variable {α : Type} (lt : α → α → Bool)
/-- A row in the order of a heap. -/
def Heap (n : Nat) (f : Nat → α) : Prop := ∀ k, 0 < k → k < n → lt (f k) (f ((k - 1) / 2)) = false
/-- All in order but for the place j, which may have to go up. -/
def HeapUp (n : Nat) (f : Nat → α) (j : Nat) : Prop :=
  (∀ k, 0 < k → k < n → k ≠ j → lt (f k) (f ((k - 1) / 2)) = false) ∧ (∀ k, 0 < k → k < n → (k - 1) / 2 = j → 0 < j → lt (f k) (f ((j - 1) / 2)) = false)
/-- All in order but for the place i, which may have to go down. -/
def HeapDown (n : Nat) (f : Nat → α) (i : Nat) : Prop :=
  (∀ k, 0 < k → k < n → (k - 1) / 2 ≠ i → lt (f k) (f ((k - 1) / 2)) = false) ∧ (∀ k, 0 < k → k < n → (k - 1) / 2 = i → 0 < i → lt (f k) (f ((i - 1) / 2)) = false)
end
/-- Two places change their elements. -/
def swp {α : Type} (f : Nat → α) (i j : Nat) : Nat → α := fun k => if k = i then f j else if k = j then f i else f k
theorem swp_l {α : Type} (f : Nat → α) (i j : Nat) : swp f i j i = f j := by simp [swp]
theorem swp_r {α : Type} (f : Nat → α) (i j : Nat) : swp f i j j = f i := by
  unfold swp
  by_cases h : j = i
  · rw [if_pos h, h]
  · rw [if_neg h, if_pos rfl]
theorem swp_o {α : Type} (f : Nat → α) {i j k : Nat} (h : k ≠ i) (h2 : k ≠ j) : swp f i j k = f k := by simp [swp, h, h2]
theorem swp_mem {α : Type} (f : Nat → α) {n i j : Nat} (hi : i < n) (hj : j < n) (x : α) : (∃ k, k < n ∧ swp f i j k = x) ↔ (∃ k, k < n ∧ f k = x) := by
  constructor
  · rintro ⟨k, hk, rfl⟩
    by_cases h1 : k = i
    · exact ⟨j, hj, by rw [h1, swp_l]⟩
    · by_cases h2 : k = j
      · exact ⟨i, hi, by rw [h2, swp_r]⟩
      · exact ⟨k, hk, (swp_o f h1 h2).symm⟩
  · rintro ⟨k, hk, rfl⟩
    by_cases h1 : k = i
    · exact ⟨j, hj, by rw [h1, swp_r]⟩
    · by_cases h2 : k = j
      · exact ⟨i, hi, by rw [h2, swp_l]⟩
      · exact ⟨k, hk, swp_o f h1 h2⟩

/-- An order in which "not ahead" is transitive. -/
structure Ord {α : Type} (lt : α → α → Bool) : Prop where
  trans : ∀ a b c, lt b a = false → lt c b = false → lt c a = false
  asym : ∀ a b, lt a b = true → lt b a = false

section
variable {α : Type} {lt : α → α → Bool}
theorem up_step (O : Ord lt) {n j : Nat} {f : Nat → α} (h : HeapUp lt n f j) (hj : 0 < j) (hn : j < n) (hl : lt (f j) (f ((j - 1) / 2)) = true) : HeapUp lt n (swp f ((j - 1) / 2) j) ((j - 1) / 2) := by
  obtain ⟨h1, h2⟩ := h
  obtain ⟨i, hi⟩ : ∃ i, i = (j - 1) / 2 := ⟨_, rfl⟩
  rw [← hi] at hl ⊢
  have hij : i < j := by omega
  refine ⟨fun k hk hkn hki => ?_, fun k hk hkn hkp hip => ?_⟩
  · by_cases e1 : k = j
    · rw [e1, swp_r, ← hi, swp_l]; exact O.asym _ _ hl
    · rw [swp_o f hki e1]
      by_cases e2 : (k - 1) / 2 = i
      · rw [e2, swp_l]
        have := h1 k hk hkn e1
        rw [e2] at this
        exact O.trans _ _ _ (O.asym _ _ hl) this
      · by_cases e3 : (k - 1) / 2 = j
        · rw [e3, swp_r, hi]
          exact h2 k hk hkn e3 hj
        · rw [swp_o f e2 e3]
          exact h1 k hk hkn e1
  · have e0 : (i - 1) / 2 ≠ i := by omega
    have e1 : (i - 1) / 2 ≠ j := by omega
    rw [swp_o f e0 e1]
    have hg := h1 i hip (by omega) (by omega)
    by_cases e2 : k = j
    · rw [e2, swp_r]; exact hg
    · have e3 : k ≠ i := by omega
      rw [swp_o f e3 e2]
      have := h1 k hk hkn e2
      rw [hkp] at this
      exact O.trans _ _ _ hg this
theorem up_end {n j : Nat} {f : Nat → α} (h : HeapUp lt n f j) (he : j = 0 ∨ lt (f j) (f ((j - 1) / 2)) = false) : Heap lt n f := by
  intro k hk hkn
  by_cases e : k = j
  · rcases he with e0 | e0
    · omega
    · rw [e]; exact e0
  · exact h.1 k hk hkn e
theorem up_start {n : Nat} {f g : Nat → α} (h : Heap lt n f) (hg : ∀ k, k < n → g k = f k) : HeapUp lt (n + 1) g n := by
  refine ⟨fun k hk hkn hne => ?_, fun k hk hkn hp hn => by omega⟩
  rw [hg k (by omega), hg ((k - 1) / 2) (by omega)]
  exact h k hk (by omega)
theorem down_start {n : Nat} {f : Nat → α} (h : Heap lt (n + 1) f) : HeapDown lt n (swp f 0 n) 0 := by
  refine ⟨fun k hk hkn hne => ?_, fun k hk hkn hp h0 => by omega⟩
  rw [swp_o f (by omega) (by omega), swp_o f hne (by omega)]
  exact h k hk (by omega)
theorem down_step (O : Ord lt) {n i j : Nat} {f : Nat → α} (h : HeapDown lt n f i) (hj0 : 0 < j) (hj : (j - 1) / 2 = i) (hn : j < n) (hc : ∀ k, 0 < k → k < n → (k - 1) / 2 = i → lt (f k) (f j) = false) (hl : lt (f j) (f i) = true) : HeapDown lt n (swp f i j) j := by
  obtain ⟨h1, h2⟩ := h
  have hij : i < j := by omega
  refine ⟨fun k hk hkn hne => ?_, fun k hk hkn hp h0 => ?_⟩
  · by_cases e1 : (k - 1) / 2 = i
    · rw [e1, swp_l]
      by_cases e2 : k = j
      · rw [e2, swp_r]; exact O.asym _ _ hl
      · rw [swp_o f (by omega) e2]; exact hc k hk hkn e1
    · rw [swp_o f e1 hne]
      by_cases e2 : k = i
      · rw [e2, swp_l, ← e2]
        have := h2 j hj0 hn hj (by omega)
        rw [e2]
        exact this
      · have e3 : k ≠ j := by intro e; rw [e] at e1; exact e1 hj
        rw [swp_o f e2 e3]
        exact h1 k hk hkn e1
  · rw [hj, swp_l, swp_o f (by omega) (by omega)]
    have := h1 k hk hkn (by omega)
    rw [hp] at this
    exact this
theorem down_end {n i : Nat} {f : Nat → α} (h : HeapDown lt n f i) (hc : ∀ k, 0 < k → k < n → (k - 1) / 2 = i → lt (f k) (f i) = false) : Heap lt n f := by
  intro k hk hkn
  by_cases e : (k - 1) / 2 = i
  · rw [e]; exact hc k hk hkn e
  · exact h.1 k hk hkn e
theorem heap_root (O : Ord lt) {n : Nat} {f : Nat → α} (h : Heap lt n f) : ∀ k, k < n → lt (f k) (f 0) = false := by
  intro k
  induction k using Nat.strongRecOn with
  | _ k ih =>
    intro hk
    by_cases e : k = 0
    · rw [e]
      cases hc : lt (f 0) (f 0) with
      | false => rfl
      | true => have := O.asym _ _ hc; rw [hc] at this; exact this
    · exact O.trans _ _ _ (ih ((k - 1) / 2) (by omega) (by omega)) (h k (by omega) hk)
end

/-- An entry: a node and a value. -/
abbrev En := Int × Int
/-- Is one entry in front of another? -/
def eLess (m : Int) (a b : En) : Bool := if a.2 = b.2 then decide (a.1 < b.1) else mBet m a.2 b.2
end Go.Proofs.Ytbhhbhopogkmnaa
namespace Go.Proofs.Ytbhhbhopogkmnaa
open Go.RowKit Go.BigFrame Go.Deep
set_option linter.unusedVariables false
set_option linter.unusedSimpArgs false

/-- Only blocks from base on of the types A have changed. -/
structure ChaT (A : TypeId → Prop) (base : Nat) (w w' : World) : Prop where
  os : w'.os = w.os
  tape : w'.tape = w.tape
  output : w'.output = w.output
  size : w.heap.size ≤ w'.heap.size
  block : ∀ k, k < w.heap.size → ¬ (base ≤ k ∧ ∃ cs t, A t ∧ w.heap[k]? = some (.cells cs t (0, 0))) → w'.heap[k]? = w.heap[k]?
section
variable {A A2 : TypeId → Prop} {base : Nat} {w w' w'' : World}
theorem ChaT.refl (A : TypeId → Prop) (base : Nat) (w : World) : ChaT A base w w := ⟨rfl, rfl, rfl, Nat.le_refl _, fun _ _ _ => rfl⟩
theorem ChaT.trans (h : ChaT A base w w') (k : ChaT A base w' w'') : ChaT A base w w'' := by
  refine ⟨k.os.trans h.os, k.tape.trans h.tape, k.output.trans h.output, Nat.le_trans h.size k.size, fun j hj hn => ?_⟩
  have h1 := h.block j hj hn
  rw [← h1]
  refine k.block j (Nat.lt_of_lt_of_le hj h.size) (fun hc => hn ?_)
  obtain ⟨hb, cs, t, ht, hh⟩ := hc
  rw [h1] at hh
  exact ⟨hb, cs, t, ht, hh⟩
theorem ChaT.mono (h : ChaT A base w w') (hA : ∀ t, A t → A2 t) : ChaT A2 base w w' :=
  ⟨h.os, h.tape, h.output, h.size, fun j hj hn => h.block j hj (fun ⟨hb, cs, t, ht, hh⟩ => hn ⟨hb, cs, t, hA t ht, hh⟩)⟩
theorem ChaT.of_below (h : Below w.heap.size w w') : ChaT A base w w' := ⟨h.os, h.tape, h.output, h.size, fun j hj _ => h.block j hj⟩
theorem ChaT.below (h : ChaT A base w w') (hb : base ≤ w.heap.size) : Below base w w' := ⟨h.os, h.tape, h.output, h.size, fun k hk => h.block k (by omega) (fun hc => by omega)⟩
theorem ChaT.bel {W : World} (h : ChaT A base w w') (hb : base ≤ w.heap.size) (hW : W.heap.size ≤ base) (k : Below W.heap.size W w) : Below W.heap.size W w' := k.trans ((h.below hb).mono hW)
theorem ChaT.of_grown {e : TypeId} {u : Value} {sz m : Nat} {xs : List Value} (hg : w.grownBy w' u.ownBlock) (ho : w.ownsRow base e sz u m xs) (hA : A e) : ChaT A base w w' := by
  refine ⟨hg.os, hg.tape, hg.output, hg.size, fun k hk hn => hg.block k hk (fun hb => hn ?_)⟩
  rcases ho.2 with ⟨rfl, _⟩ | ⟨g, cap, cur, rfl, hbg, hgg, _⟩
  · simp [Value.ownBlock] at hb
  · simp [Value.ownBlock] at hb
    subst hb
    exact ⟨hbg, cur, e, hA, hgg⟩
theorem ChaT.set {B : Nat} {cs : Array Value} {t : TypeId} (hB : w.heap[B]? = some (.cells cs t (0, 0))) (hb : base ≤ B) (hA : A t) (o : Nat) (u : Value) : ChaT A base w (w.setCell ⟨B, o, none⟩ u) := by
  refine ⟨rfl, rfl, rfl, by simp, fun k hk hn => Below.heap_setCell w ⟨B, o, none⟩ u k (fun e => hn ?_)⟩
  simp only at e
  subst e
  exact ⟨hb, cs, t, hA, hB⟩
theorem ChaT.box {X : Nat} {t : TypeId} {cs : Array Value} (h : ChaT A base w w') (b : Box w X t cs) (hA : ¬ A t ∨ X < base) : Box w' X t cs := by
  have hX := b.lt
  unfold Box at *
  rw [h.block X hX (fun ⟨hb, cs', t', ht, hh⟩ => ?_)]
  · exact b
  · rw [b] at hh
    simp at hh
    rcases hA with hA | hA
    · exact hA (hh.2 ▸ ht)
    · omega
theorem ChaT.rowIs {X : Nat} {t : TypeId} {n : Nat} {f : Nat → Value} (h : ChaT A base w w') (b : w.rowIs X t n f) (hA : ¬ A t) : w'.rowIs X t n f := by
  obtain ⟨cur, h1, h2⟩ := b
  refine ⟨cur, ?_, h2⟩
  rw [h.block X (Array.getElem?_eq_some_iff.1 h1).1 (fun ⟨hb, cs', t', ht, hh⟩ => ?_)]
  · exact h1
  · rw [h1] at hh
    simp at hh
    exact hA (hh.2 ▸ ht)
theorem ChaT.own {e : TypeId} {u : Value} {sz m : Nat} {xs : List Value} (h : ChaT A base w w') (ho : w.ownsRow base e sz u m xs) (hA : ¬ A e) : w'.ownsRow base e sz u m xs := by
  refine ⟨ho.1, ?_⟩
  rcases ho.2 with h0 | ⟨g, cap, cur, rfl, hbg, hgg, rest⟩
  · exact .inl h0
  · refine .inr ⟨g, cap, cur, rfl, hbg, ?_, rest⟩
    rw [h.block g (Array.getElem?_eq_some_iff.1 hgg).1 (fun ⟨hb, cs', t', ht, hh⟩ => ?_)]
    · exact hgg
    · rw [hgg] at hh
      simp at hh
      exact hA (hh.2 ▸ ht)
end
theorem own_set1 {w : World} {base g n cap sz : Nat} {e : TypeId} {xs : List Value} (h : w.ownsRow base e sz (.slice (some ⟨g, 0, none⟩) n cap) n xs) {i : Nat} (u : Value) : (w.setCell ⟨g, i, none⟩ u).ownsRow base e sz (.slice (some ⟨g, 0, none⟩) n cap) n (xs.set i u) := by
  refine ⟨by rw [List.length_set]; exact h.1, ?_⟩
  rcases h.2 with ⟨h0, _⟩ | ⟨g', cap', cur, he, hbg, hgg, h1, h2, h3, h4⟩
  · cases h0
  · injection he with e1 e2 e3
    injection e1 with e1
    injection e1 with e1
    subst e1 e3
    refine .inr ⟨g, cap, cur.setIfInBounds i u, rfl, hbg, ?_, h1, h2, by simpa using h3, ?_⟩
    · simp [World.setCell, Array.getElem?_modify, hgg]
    · rw [← h4]
      simp [List.take_set]
theorem own_heap {w : World} {base g n cap sz : Nat} {e : TypeId} {xs : List Value} (h : w.ownsRow base e sz (.slice (some ⟨g, 0, none⟩) n cap) n xs) : base ≤ g ∧ ∃ cs, w.heap[g]? = some (.cells cs e (0, 0)) := by
  rcases h.2 with ⟨h0, _⟩ | ⟨g', cap', cur, he, hbg, hgg, h1, h2, h3, h4⟩
  · cases h0
  · injection he with e1 e2 e3
    injection e1 with e1
    injection e1 with e1
    subst e1
    exact ⟨hbg, cur, hgg⟩
theorem own_pos {w : World} {base n sz : Nat} {e : TypeId} {u : Value} {xs : List Value} (h : w.ownsRow base e sz u n xs) (hn : 0 < n) : ∃ g cap, u = .slice (some ⟨g, 0, none⟩) n cap ∧ base ≤ g ∧ g < w.heap.size ∧ n ≤ cap := by
  rcases h.2 with ⟨_, h0⟩ | ⟨g, cap, cur, rfl, hbg, hgg, h1, _⟩
  · omega
  · exact ⟨g, cap, rfl, hbg, (Array.getElem?_eq_some_iff.1 hgg).1, h1⟩
theorem own_cell {w : World} {base g n cap sz : Nat} {e : TypeId} {xs : List Value} (h : w.ownsRow base e sz (.slice (some ⟨g, 0, none⟩) n cap) n xs) {j : Nat} {u : Value} (hu : xs[j]? = some u) : w.cell? ⟨g, j, none⟩ = some u ∧ w.frozen? ⟨g, j, none⟩ = false := by
  have h1 := h.cells (g := g) rfl j u hu
  have ha : Addr.add ⟨g, 0, none⟩ j = ⟨g, j, none⟩ := by rw [Go.WideShapes.add_plain, Nat.zero_add]
  rw [ha] at h1
  obtain ⟨_, cs, hh⟩ := own_heap h
  exact ⟨h1, by simp [World.frozen?, hh]⟩
/-- A slice is cut at its end. -/
theorem own_cut {w : World} {base g n cap sz k : Nat} {e : TypeId} {xs : List Value} (h : w.ownsRow base e sz (.slice (some ⟨g, 0, none⟩) n cap) n xs) (hk : k ≤ n) : w.ownsRow base e sz (.slice (some ⟨g, 0, none⟩) k cap) k (xs.take (k * sz)) := by
  have hks : k * sz ≤ n * sz := Nat.mul_le_mul_right _ hk
  refine ⟨by rw [List.length_take, h.1]; omega, ?_⟩
  rcases h.2 with ⟨h0, _⟩ | ⟨g', cap', cur, he, hbg, hgg, h1, h2, h3, h4⟩
  · cases h0
  · injection he with e1 e2 e3
    injection e1 with e1
    injection e1 with e1
    subst e1 e3
    refine .inr ⟨g, cap, cur, rfl, hbg, hgg, by omega, h2, h3, ?_⟩
    rw [← h4, List.take_take, Nat.min_eq_left hks]
theorem own_other {w : World} {base sz n : Nat} {e t : TypeId} {u : Value} {xs : List Value} {B : Nat} {cs : Array Value} (h : w.ownsRow base e sz u n xs) (hB : Box w B t cs) (hne : e ≠ t) (o : Nat) (v : Value) : (w.setCell ⟨B, o, none⟩ v).ownsRow base e sz u n xs := hB.own h hne

/-- The cells of a row of entries. -/
def cellN (es : List En) (j : Nat) : Value := .int .i64 (if j % 2 = 0 then (es.getD (j / 2) (0, 0)).1 else (es.getD (j / 2) (0, 0)).2)
def cellsN (es : List En) : List Value := (List.range (es.length * 2)).map (cellN es)
theorem cellsN_len (es : List En) : (cellsN es).length = es.length * 2 := by simp [cellsN]
theorem cellsN_get {es : List En} {j : Nat} (h : j < es.length * 2) : (cellsN es)[j]? = some (cellN es j) := by simp [cellsN, h]
theorem cellN0 (es : List En) (i : Nat) : cellN es (i * 2) = .int .i64 (es.getD i (0, 0)).1 := by
  have h1 : i * 2 % 2 = 0 := by omega
  have h2 : i * 2 / 2 = i := by omega
  simp only [cellN, h1, h2, if_pos]
theorem cellN1 (es : List En) (i : Nat) : cellN es (i * 2 + 1) = .int .i64 (es.getD i (0, 0)).2 := by
  have h1 : (i * 2 + 1) % 2 = 1 := by omega
  have h2 : (i * 2 + 1) / 2 = i := by omega
  simp [cellN, h1, h2]
theorem cellsN_app (es : List En) (x : En) : cellsN (es ++ [x]) = cellsN es ++ [.int .i64 x.1, .int .i64 x.2] := by
  apply List.ext_getElem?
  intro j
  by_cases h : j < es.length * 2
  · rw [cellsN_get (by simp; omega), List.getElem?_append_left (by rw [cellsN_len]; exact h), cellsN_get h]
    unfold cellN
    rw [show (es ++ [x]).getD (j / 2) (0, 0) = es.getD (j / 2) (0, 0) by simp [List.getD, List.getElem?_append_left (show j / 2 < es.length by omega)]]
  · rw [List.getElem?_append_right (by rw [cellsN_len]; omega), cellsN_len]
    by_cases h2 : j < (es.length + 1) * 2
    · rw [cellsN_get (by simp; omega)]
      have hj : j = es.length * 2 ∨ j = es.length * 2 + 1 := by omega
      rcases hj with rfl | rfl
      · rw [cellN0]; simp
      · rw [cellN1]; simp
    · rw [List.getElem?_eq_none (by rw [cellsN_len]; simp; omega), List.getElem?_eq_none (by simp; omega)]
theorem cellsN_set (es : List En) (i : Nat) (x : En) (hi : i < es.length) : ((cellsN es).set (i * 2) (.int .i64 x.1)).set (i * 2 + 1) (.int .i64 x.2) = cellsN (es.set i x) := by
  apply List.ext_getElem?
  intro j
  by_cases h : j < es.length * 2
  · rw [cellsN_get (by simpa using h), List.getElem?_set, List.getElem?_set]
    by_cases h1 : i * 2 + 1 = j
    · subst h1
      rw [if_pos rfl, if_pos (by simp [cellsN_len]; omega), cellN1]
      simp [List.getD, hi]
    · rw [if_neg h1]
      by_cases h2 : i * 2 = j
      · subst h2
        rw [if_pos rfl, if_pos (by simp [cellsN_len]; omega), cellN0]
        simp [List.getD, hi]
      · rw [if_neg h2, cellsN_get h]
        unfold cellN
        have : i ≠ j / 2 := by omega
        rw [show (es.set i x).getD (j / 2) (0, 0) = es.getD (j / 2) (0, 0) by simp [List.getD, List.getElem?_set, this]]
  · rw [List.getElem?_eq_none (by simp [cellsN_len]; omega), List.getElem?_eq_none (by rw [cellsN_len]; simp; omega)]
theorem cellsN_take (es : List En) (k : Nat) (hk : k ≤ es.length) : (cellsN es).take (k * 2) = cellsN (es.take k) := by
  apply List.ext_getElem?
  intro j
  by_cases h : j < k * 2
  · rw [List.getElem?_take, if_pos h, cellsN_get (by omega), cellsN_get (by simp; omega)]
    unfold cellN
    rw [show (es.take k).getD (j / 2) (0, 0) = es.getD (j / 2) (0, 0) by simp [List.getD, List.getElem?_take, show j / 2 < k by omega]]
  · rw [List.getElem?_eq_none (by simp [cellsN_len]; omega), List.getElem?_eq_none (by rw [cellsN_len]; simp; omega)]

/-- Two entries change their places. -/
def lsw (es : List En) (i j : Nat) : List En := (es.set i (es.getD j (0, 0))).set j (es.getD i (0, 0))
theorem lsw_len (es : List En) (i j : Nat) : (lsw es i j).length = es.length := by simp [lsw]
theorem lsw_get {es : List En} {i j : Nat} (hi : i < es.length) (hj : j < es.length) (k : Nat) : (lsw es i j).getD k (0, 0) = swp (fun k => es.getD k (0, 0)) i j k := by
  unfold lsw swp
  by_cases hk : k < es.length
  · by_cases h1 : k = i
    · subst h1
      rw [if_pos rfl]
      by_cases h2 : k = j
      · subst h2; simp [List.getD, hk]
      · have h3 : ¬ j = k := fun e => h2 e.symm
        simp [List.getD, List.getElem?_set, h3, hk]
    · rw [if_neg h1]
      by_cases h2 : k = j
      · subst h2; simp [List.getD, hk]
      · have h3 : ¬ j = k := fun e => h2 e.symm
        have h4 : ¬ i = k := fun e => h1 e.symm
        simp [List.getD, List.getElem?_set, h3, h4, h2]
  · have h1 : ¬ k = i := by omega
    have h2 : ¬ k = j := by omega
    rw [if_neg h1, if_neg h2]
    simp [List.getD, List.getElem?_eq_none (show es.length ≤ k by omega)]
    rw [List.getElem?_eq_none (by simp; omega)]
    rfl
/-- What is in a row below a number. -/
def inB (n : Nat) (es : List En) (x : En) : Prop := ∃ k, k < n ∧ es.getD k (0, 0) = x
theorem inB_lsw {es : List En} {n i j : Nat} (hn : n ≤ es.length) (hi : i < n) (hj : j < n) (x : En) : inB n (lsw es i j) x ↔ inB n es x := by
  unfold inB
  rw [← swp_mem (fun k => es.getD k (0, 0)) hi hj x]
  constructor
  · rintro ⟨k, hk, h⟩; exact ⟨k, hk, by rw [← lsw_get (by omega) (by omega)]; exact h⟩
  · rintro ⟨k, hk, h⟩; exact ⟨k, hk, by rw [lsw_get (by omega) (by omega)]; exact h⟩
theorem inB_all (es : List En) (x : En) : inB es.length es x ↔ x ∈ es := by
  unfold inB
  constructor
  · rintro ⟨k, hk, rfl⟩
    rw [show es.getD k (0, 0) = es[k] by simp [List.getD, hk]]
    exact List.getElem_mem hk
  · intro h
    obtain ⟨k, hk, rfl⟩ := List.getElem_of_mem h
    exact ⟨k, hk, by simp [List.getD, hk]⟩
end Go.Proofs.Ytbhhbhopogkmnaa
namespace Go.Proofs.Ytbhhbhopogkmnaa
open Go.RowKit Go.BigFrame Go.Deep
set_option linter.unusedVariables false
set_option linter.unusedSimpArgs false

/-- The cells of a search. -/
abbrev sC (c0 c1 c2 c3 c4 c5 c6 o ev : Value) : Array Value := #[c0, c1, c2, c3, c4, c5, c6, o, ev]
/-- The types that the heap's methods change. -/
def AF (t : TypeId) : Prop := t = 145 ∨ t = 178
/-- A search's box, with its heap of entries. -/
structure Fro (w : World) (base B : Nat) (c0 c1 c2 c3 c4 c5 c6 o ev : Value) (es : List En) : Prop where
  box : Box w B 145 (sC c0 c1 c2 c3 c4 c5 c6 o ev)
  own : w.ownsRow base 178 2 ev es.length (cellsN es)
  hB : base ≤ B
  hb : base ≤ w.heap.size
section
variable {w w' : World} {base B : Nat} {c0 c1 c2 c3 c4 c5 c6 o ev : Value} {es : List En}
theorem Fro.keep (h : Fro w base B c0 c1 c2 c3 c4 c5 c6 o ev es) (b : Below w.heap.size w w') : Fro w' base B c0 c1 c2 c3 c4 c5 c6 o ev es :=
  ⟨h.box.keep b, own_keep h.own b, h.hB, Nat.le_trans h.hb b.size⟩
theorem Fro.slice (h : Fro w base B c0 c1 c2 c3 c4 c5 c6 o ev es) : ∃ a c, ev = .slice a es.length c := own_slice h.own
theorem Fro.cells (h : Fro w base B c0 c1 c2 c3 c4 c5 c6 o ev es) : w.cell? ⟨B, 7, none⟩ = some o ∧ w.cell? ⟨B, 8, none⟩ = some ev ∧ w.frozen? ⟨B, 8, none⟩ = false ∧ B < w.heap.size :=
  ⟨by simpa using h.box.cell 7, by simpa using h.box.cell 8, h.box.frozen 8, h.box.lt⟩
end

set_option maxHeartbeats 1000000 in
theorem frLen {base B : Nat} {c0 c1 c2 c3 c4 c5 c6 o ev : Value} {es : List En} {w : World} (h : Fro w base B c0 c1 c2 c3 c4 c5 c6 o ev es) :
    Calls Try.prog 123 #[.pointer (some ⟨B, 7, none⟩)] w fun e w' => e = .returned (.int .i64 (es.length : Nat)) ∧ Below w.heap.size w w' := by
  obtain ⟨va, vc, rfl⟩ := h.slice
  obtain ⟨x7, x8, f8, hB⟩ := h.cells
  clear h
  go_enter Try.func123, Try.ntmps123
  go_wp2
  go_ret
  exact ⟨rfl, Below.refl _ _⟩

set_option maxRecDepth 20000 in
set_option maxHeartbeats 4000000 in
theorem frSwap {base B : Nat} {c0 c1 c2 c3 c4 c5 c6 o ev : Value} {es : List En} {w : World} (h : Fro w base B c0 c1 c2 c3 c4 c5 c6 o ev es) {i j : Nat} (hi : i < es.length) (hj : j < es.length) :
    Calls Try.prog 166 #[.pointer (some ⟨B, 7, none⟩), .int .i64 i, .int .i64 j] w fun e w' => e = .returned (.tuple #[]) ∧ Fro w' base B c0 c1 c2 c3 c4 c5 c6 o ev (lsw es i j) ∧ ChaT AF base w w' := by
  obtain ⟨g, cap, rfl, hbg, hg, hcap⟩ := own_pos h.own (by omega)
  obtain ⟨x7, x8, f8, hB⟩ := h.cells
  obtain ⟨X, hX⟩ : ∃ X, X = es.getD i (0, 0) := ⟨_, rfl⟩
  obtain ⟨Y, hY⟩ : ∃ Y, Y = es.getD j (0, 0) := ⟨_, rfl⟩
  have a0 := own_cell h.own (cellsN_get (show i * 2 < es.length * 2 by omega))
  have a1 := own_cell h.own (cellsN_get (show i * 2 + 1 < es.length * 2 by omega))
  have b0 := own_cell h.own (cellsN_get (show j * 2 < es.length * 2 by omega))
  have b1 := own_cell h.own (cellsN_get (show j * 2 + 1 < es.length * 2 by omega))
  rw [cellN0, ← hX] at a0
  rw [cellN1, ← hX] at a1
  rw [cellN0, ← hY] at b0
  rw [cellN1, ← hY] at b1
  obtain ⟨a0, fa0⟩ := a0
  obtain ⟨a1, fa1⟩ := a1
  obtain ⟨b0, fb0⟩ := b0
  obtain ⟨b1, fb1⟩ := b1
  obtain ⟨X1, X2⟩ := X
  obtain ⟨Y1, Y2⟩ := Y
  simp only at a0 a1 b0 b1
  have hi' : (i : Int) < es.length := by omega
  have hj' : (j : Int) < es.length := by omega
  have HX := Lib.hid hX
  have HY := Lib.hid hY
  have HF := Lib.hid h
  clear hX hY h
  have hfin : Fro ((((w.setCell ⟨g, i * 2, none⟩ (.int .i64 Y1)).setCell ⟨g, i * 2 + 1, none⟩ (.int .i64 Y2)).setCell ⟨g, j * 2, none⟩ (.int .i64 X1)).setCell ⟨g, j * 2 + 1, none⟩ (.int .i64 X2)) base B c0 c1 c2 c3 c4 c5 c6 o (.slice (some ⟨g, 0, none⟩) es.length cap) (lsw es i j) ∧ ChaT AF base w ((((w.setCell ⟨g, i * 2, none⟩ (.int .i64 Y1)).setCell ⟨g, i * 2 + 1, none⟩ (.int .i64 Y2)).setCell ⟨g, j * 2, none⟩ (.int .i64 X1)).setCell ⟨g, j * 2 + 1, none⟩ (.int .i64 X2)) := by
    have hne : B ≠ g := by
      intro e
      obtain ⟨_, cs, hh⟩ := own_heap HF.out.own
      have hb := HF.out.box
      unfold Box at hb
      rw [e, hh] at hb
      simp at hb
    have h1 := own_set1 (own_set1 (own_set1 (own_set1 HF.out.own (i := i * 2) (.int .i64 Y1)) (i := i * 2 + 1) (.int .i64 Y2)) (i := j * 2) (.int .i64 X1)) (i := j * 2 + 1) (.int .i64 X2)
    have e1 := cellsN_set es i (Y1, Y2) hi
    have e2 := cellsN_set (es.set i (Y1, Y2)) j (X1, X2) (by simpa using hj)
    simp only at e1 e2
    rw [e1, e2] at h1
    have e3 : lsw es i j = (es.set i (Y1, Y2)).set j (X1, X2) := by unfold lsw; rw [← HX.out, ← HY.out]
    rw [e3]
    refine ⟨⟨(((HF.out.box.setOther hne _ _).setOther hne _ _).setOther hne _ _).setOther hne _ _, ?_, HF.out.hB, by simpa using HF.out.hb⟩, ?_⟩
    · rw [List.length_set, List.length_set]; exact h1
    · obtain ⟨k0, cs0, hh0⟩ := own_heap HF.out.own
      have s1 := ChaT.set (A := AF) hh0 hbg (.inr rfl) (i * 2) (.int .i64 Y1)
      obtain ⟨_, cs1, hh1⟩ := own_heap (own_set1 HF.out.own (i := i * 2) (.int .i64 Y1))
      have s2 := ChaT.set (A := AF) hh1 hbg (.inr rfl) (i * 2 + 1) (.int .i64 Y2)
      obtain ⟨_, cs2, hh2⟩ := own_heap (own_set1 (own_set1 HF.out.own (i := i * 2) (.int .i64 Y1)) (i := i * 2 + 1) (.int .i64 Y2))
      have s3 := ChaT.set (A := AF) hh2 hbg (.inr rfl) (j * 2) (.int .i64 X1)
      obtain ⟨_, cs3, hh3⟩ := own_heap (own_set1 (own_set1 (own_set1 HF.out.own (i := i * 2) (.int .i64 Y1)) (i := i * 2 + 1) (.int .i64 Y2)) (i := j * 2) (.int .i64 X1))
      have s4 := ChaT.set (A := AF) hh3 hbg (.inr rfl) (j * 2 + 1) (.int .i64 X2)
      exact ((s1.trans s2).trans s3).trans s4
  have HFIN := Lib.hid hfin
  clear hfin
  by_cases hij : i = j
  · subst hij
    have hXY : X1 = Y1 ∧ X2 = Y2 := by
      have := HX.out.trans HY.out.symm
      simpa using this
    obtain ⟨rfl, rfl⟩ := hXY
    go_enter Try.func166, Try.ntmps166
    go_wp2
    go_region
    all_goals
      go_wp2
      go_end0
      exact ⟨rfl, HFIN.out.1.keep ((Below.refl _ _).drew), HFIN.out.2.trans (ChaT.of_below ((Below.refl _ _).drew))⟩
  · have n1 : ¬ (i * 2 = j * 2) := by omega
    have n2 : ¬ (j * 2 = i * 2) := by omega
    have n3 : ¬ (j = i) := fun e => hij e.symm
    go_enter Try.func166, Try.ntmps166
    go_wp2
    go_region
    all_goals
      go_wp2
      go_end0
      exact ⟨rfl, HFIN.out.1.keep ((Below.refl _ _).drew), HFIN.out.2.trans (ChaT.of_below ((Below.refl _ _).drew))⟩

set_option maxRecDepth 20000 in
set_option maxHeartbeats 4000000 in
theorem frLess {m : Int} (hm : mKind m = true) {base B : Nat} {c0 c1 c2 c3 c4 c5 c6 ev : Value} {es : List En} {w : World} (h : Fro w base B c0 c1 c2 c3 c4 c5 c6 (opsV m) ev es) {i j : Nat} (hi : i < es.length) (hj : j < es.length) :
    Calls Try.prog 163 #[.pointer (some ⟨B, 7, none⟩), .int .i64 i, .int .i64 j] w fun e w' => e = .returned (.bool (eLess m (es.getD i (0, 0)) (es.getD j (0, 0)))) ∧ Below w.heap.size w w' := by
  obtain ⟨g, cap, rfl, hbg, hg, hcap⟩ := own_pos h.own (by omega)
  obtain ⟨x7, x8, f8, hB⟩ := h.cells
  obtain ⟨X, hX⟩ : ∃ X, X = es.getD i (0, 0) := ⟨_, rfl⟩
  obtain ⟨Y, hY⟩ : ∃ Y, Y = es.getD j (0, 0) := ⟨_, rfl⟩
  have a0 := own_cell h.own (cellsN_get (show i * 2 < es.length * 2 by omega))
  have a1 := own_cell h.own (cellsN_get (show i * 2 + 1 < es.length * 2 by omega))
  have b0 := own_cell h.own (cellsN_get (show j * 2 < es.length * 2 by omega))
  have b1 := own_cell h.own (cellsN_get (show j * 2 + 1 < es.length * 2 by omega))
  rw [cellN0, ← hX] at a0
  rw [cellN1, ← hX] at a1
  rw [cellN0, ← hY] at b0
  rw [cellN1, ← hY] at b1
  rw [← hX, ← hY]
  obtain ⟨a0, fa0⟩ := a0
  obtain ⟨a1, fa1⟩ := a1
  obtain ⟨b0, fb0⟩ := b0
  obtain ⟨b1, fb1⟩ := b1
  obtain ⟨X1, X2⟩ := X
  obtain ⟨Y1, Y2⟩ := Y
  simp only at a0 a1 b0 b1
  have hi' : (i : Int) < es.length := by omega
  have hj' : (j : Int) < es.length := by omega
  have HX := Lib.hid hX
  have HY := Lib.hid hY
  have HF := Lib.hid h
  clear hX hY h fa0 fa1 fb0 fb1 f8
  unfold eLess
  obtain ⟨T, rv, fn, fe, fb, fo, fj, rn, re, rb, ro, rj, D⟩ := disp hm
  have hval := D.val
  rw [hval] at x7
  have hn1 := D.mb.run
  have hn2 := D.mb.ahead
  have hn3 := D.mb.enter
  have HC := Lib.hid (D.cb X2 Y2)
  clear D
  have HVAL := Lib.hid hval
  clear hval
  by_cases he : X2 = Y2
  · have d1 : (X2 == Y2) = true := by simpa using he
    rw [if_pos he]
    have HE := Lib.hid he
    clear he
    go_enter Try.func163, Try.ntmps163
    go_wp2
    go_region
    all_goals
      go_wp2
      go_ret
      exact ⟨rfl, (((Below.refl _ _).alloc (Nat.le_refl _) _).alloc (by simp) _).drew⟩
  · have d1 : (X2 == Y2) = false := by simpa using he
    rw [if_neg he]
    have HE := Lib.hid he
    clear he
    go_enter Try.func163, Try.ntmps163
    go_wp2
    go_region
    · have hb0 : Below w.heap.size w (((w.alloc (.cells #[.int .i64 X1, .int .i64 X2] 178)).alloc (.cells #[.int .i64 Y1, .int .i64 Y2] 178)).drew) := (((Below.refl _ _).alloc (Nat.le_refl _) _).alloc (by simp) _).drew
      have k0 : (((w.alloc (.cells #[.int .i64 X1, .int .i64 X2] 178)).alloc (.cells #[.int .i64 Y1, .int .i64 Y2] 178)).drew).cell? ⟨w.heap.size, 1, none⟩ = some (.int .i64 X2) := by go_simp
      have k1 : (((w.alloc (.cells #[.int .i64 X1, .int .i64 X2] 178)).alloc (.cells #[.int .i64 Y1, .int .i64 Y2] 178)).drew).cell? ⟨w.heap.size + 1, 1, none⟩ = some (.int .i64 Y2) := by go_simp
      have z0 : w.heap.size + 1 < (((w.alloc (.cells #[.int .i64 X1, .int .i64 X2] 178)).alloc (.cells #[.int .i64 Y1, .int .i64 Y2] 178)).drew).heap.size := by simp
      have z1 : w.heap.size < (((w.alloc (.cells #[.int .i64 X1, .int .i64 X2] 178)).alloc (.cells #[.int .i64 Y1, .int .i64 Y2] 178)).drew).heap.size := by simp <;> omega
      go_wp2_with fail
      generalize (((w.alloc (.cells #[.int .i64 X1, .int .i64 X2] 178)).alloc (.cells #[.int .i64 Y1, .int .i64 Y2] 178)).drew) = w0 at hb0 k0 k1 z0 z1 ⊢
      have ff : ∀ w', Below w0.heap.size w0 w' → w'.cell? ⟨B, 7, none⟩ = some (.iface T rv) ∧ w'.cell? ⟨w.heap.size, 1, none⟩ = some (.int .i64 X2) ∧ w'.cell? ⟨w.heap.size + 1, 1, none⟩ = some (.int .i64 Y2) := fun w' h => ⟨((bel_trans hb0 h).cell (p := ⟨B, _, none⟩) hB).trans x7, (h.cell (p := ⟨_, _, none⟩) (by simp only; omega)).trans k0, (h.cell (p := ⟨_, _, none⟩) (by simp only; omega)).trans k1⟩
      have FF := Lib.hid ff
      clear ff k0 k1 z0 z1 x7 x8 a0 a1 b0 b1
      refine wp_region_below (by kernel_rfl) (by kernel_rfl) ?_
      repeat (go_big_quiet_step ((intro hw; first | with_reducible rfl | (obtain ⟨f0, f1, f2⟩ := FF.out _ hw; simp only [f0, f1, f2, Result.andThen]; first | exact ⟨trivial, rfl⟩ | exact ⟨rfl, rfl⟩) | (with_reducible exact quietB (HC.out _) hw))))
      refine wpQuiet_nil ?_
      intro w1 hw1
      go_wp2
      go_ret
      exact ⟨rfl, bel_trans hb0 hw1⟩
    · have hb0 : Below w.heap.size w (((w.alloc (.cells #[.int .i64 Y1, .int .i64 Y2] 178)).alloc (.cells #[.int .i64 X1, .int .i64 X2] 178)).drew) := (((Below.refl _ _).alloc (Nat.le_refl _) _).alloc (by simp) _).drew
      have k0 : (((w.alloc (.cells #[.int .i64 Y1, .int .i64 Y2] 178)).alloc (.cells #[.int .i64 X1, .int .i64 X2] 178)).drew).cell? ⟨w.heap.size + 1, 1, none⟩ = some (.int .i64 X2) := by go_simp
      have k1 : (((w.alloc (.cells #[.int .i64 Y1, .int .i64 Y2] 178)).alloc (.cells #[.int .i64 X1, .int .i64 X2] 178)).drew).cell? ⟨w.heap.size, 1, none⟩ = some (.int .i64 Y2) := by go_simp
      have z0 : w.heap.size + 1 < (((w.alloc (.cells #[.int .i64 Y1, .int .i64 Y2] 178)).alloc (.cells #[.int .i64 X1, .int .i64 X2] 178)).drew).heap.size := by simp
      have z1 : w.heap.size < (((w.alloc (.cells #[.int .i64 Y1, .int .i64 Y2] 178)).alloc (.cells #[.int .i64 X1, .int .i64 X2] 178)).drew).heap.size := by simp <;> omega
      go_wp2_with fail
      generalize (((w.alloc (.cells #[.int .i64 Y1, .int .i64 Y2] 178)).alloc (.cells #[.int .i64 X1, .int .i64 X2] 178)).drew) = w0 at hb0 k0 k1 z0 z1 ⊢
      have ff : ∀ w', Below w0.heap.size w0 w' → w'.cell? ⟨B, 7, none⟩ = some (.iface T rv) ∧ w'.cell? ⟨w.heap.size + 1, 1, none⟩ = some (.int .i64 X2) ∧ w'.cell? ⟨w.heap.size, 1, none⟩ = some (.int .i64 Y2) := fun w' h => ⟨((bel_trans hb0 h).cell (p := ⟨B, _, none⟩) hB).trans x7, (h.cell (p := ⟨_, _, none⟩) (by simp only; omega)).trans k0, (h.cell (p := ⟨_, _, none⟩) (by simp only; omega)).trans k1⟩
      have FF := Lib.hid ff
      clear ff k0 k1 z0 z1 x7 x8 a0 a1 b0 b1
      refine wp_region_below (by kernel_rfl) (by kernel_rfl) ?_
      repeat (go_big_quiet_step ((intro hw; first | with_reducible rfl | (obtain ⟨f0, f1, f2⟩ := FF.out _ hw; simp only [f0, f1, f2, Result.andThen]; first | exact ⟨trivial, rfl⟩ | exact ⟨rfl, rfl⟩) | (with_reducible exact quietB (HC.out _) hw))))
      refine wpQuiet_nil ?_
      intro w1 hw1
      go_wp2
      go_ret
      exact ⟨rfl, bel_trans hb0 hw1⟩

theorem info_reached : (Try.prog.info? 178).map (fun i => (i.zero, i.size, i.bytes)) = some (some (.agg #[.int .i64 0, .int .i64 0]), 2, 16) := by kernel_rfl
theorem cells_new2 (w : World) (x y : Value) (t : TypeId) : ∀ j u, [x, y][j]? = some u → ((w.alloc (.cells #[x, y] t)).drew).cell? (Addr.add ⟨w.heap.size, 0, none⟩ j) = some u := by
  intro j u h
  have hn : (w.alloc (.cells #[x, y] t)).heap[w.heap.size]? = some (.cells #[x, y] t (0, 0)) := blk_alloc_new _ _
  have hc : ((w.alloc (.cells #[x, y] t)).drew).cell? ⟨w.heap.size, j, none⟩ = #[x, y][j]? := by
    show (w.alloc (.cells #[x, y] t)).cell? ⟨w.heap.size, j, none⟩ = _
    unfold World.cell?
    simp only [hn]
    simp
  have ha : Addr.add ⟨w.heap.size, 0, none⟩ j = ⟨w.heap.size, j, none⟩ := by rw [Go.WideShapes.add_plain, Nat.zero_add]
  rw [ha, hc]
  simpa using h
theorem assert_reached (v : Value) (w : World) : (Instr.typeAssert (.iface 178 v) 20 178 true).run Try.prog w = .ok (.tuple #[v, .bool true]) w := by kernel_rfl
set_option maxRecDepth 20000 in
set_option maxHeartbeats 4000000 in
theorem frPush {base B : Nat} {c0 c1 c2 c3 c4 c5 c6 o ev : Value} {es : List En} {w : World} (h : Fro w base B c0 c1 c2 c3 c4 c5 c6 o ev es) (hn : es.length ≤ 1048576) (a b : Int) :
    Calls Try.prog 165 #[.pointer (some ⟨B, 7, none⟩), .iface 178 (.agg #[.int .i64 a, .int .i64 b])] w fun e w' => e = .returned (.tuple #[]) ∧ (∃ ev', Fro w' base B c0 c1 c2 c3 c4 c5 c6 o ev' (es ++ [(a, b)])) ∧ ChaT AF base w w' := by
  obtain ⟨va, vc, rfl⟩ := h.slice
  have hb0 : Below w.heap.size w (w.alloc (.cells #[.int .i64 a, .int .i64 b] 178)) := (Below.refl _ _).alloc (Nat.le_refl _) _
  have HF := Lib.hid (And.intro (h.keep hb0) hb0)
  have HX := Lib.hid (Box.new w 178 #[.int .i64 a, .int .i64 b])
  obtain ⟨i0, hi, hz0, hz1, hz2⟩ := info_parts info_reached
  have hta := assert_reached
  clear h hb0
  go_enter Try.func165, Try.ntmps165
  go_wp2
  generalize (w.alloc (.cells #[.int .i64 a, .int .i64 b] 178)) = w1 at HF HX ⊢
  obtain ⟨x7, x8, f8, hB⟩ := HF.out.1.cells
  have y0 : w1.cell? ⟨w.heap.size, 0, none⟩ = some (.int .i64 a) := by simpa using HX.out.cell 0
  have y1 : w1.cell? ⟨w.heap.size, 1, none⟩ = some (.int .i64 b) := by simpa using HX.out.cell 1
  have hxg : ∀ A w6, World.grownBy ((w1.alloc A).drew) w6 (Value.slice va es.length vc).ownBlock → Box w6 B 145 (sC c0 c1 c2 c3 c4 c5 c6 o (.slice va es.length vc)) := fun A w6 h => Box.grown (w := (w1.alloc A).drew) (HF.out.1.box.alloc A) h (own_drew (HF.out.1.own.alloc A)) (by decide)
  have HXG := Lib.hid hxg
  have hwr := HF.out.1.hb
  clear hxg
  go_region_law (first | (refine step_append_own rfl (.tmp 16) (.tmp 18) 141 rfl base 178 i0 (.agg #[.int .i64 0, .int .i64 0]) 2 16 Try.underlying141 hi hz0 hz1 hz2 rfl (by decide) _ _ _ rfl (own_drew (HF.out.1.own.alloc _)) ⟨w1.heap.size, 0, none⟩ 1 1 [.int .i64 a, .int .i64 b] rfl rfl (cells_new2 _ _ _ _) (by simp [Value.oneCell']) (by unfold maxLen; omega) (by omega) (by simp; omega) ?_; intro v' w6 hown6 hgrow6; obtain ⟨va6, vc6, rfl⟩ := own_slice hown6; have HX6 := Lib.hid (HXG.out _ _ hgrow6); have x86 : w6.cell? ⟨B, 8, none⟩ = some (.slice va es.length vc) := (by simpa using HX6.out.cell 8); have f86 : w6.frozen? ⟨B, 8, none⟩ = false := HX6.out.frozen 8))
  all_goals
    go_wp2
    go_end0
    have hw6 : base ≤ w6.heap.size := by have := hgrow6.size; simp at this; omega
    refine ⟨rfl, ⟨_, ⟨HX6.out.set 8 _, ?_, HF.out.1.hB, by simpa using hw6⟩⟩, ?_⟩
    · have h := own_other hown6 HX6.out (by decide) 8 (.slice va6 (es.length + 1) vc6)
      rw [List.length_append, cellsN_app]
      exact h
    · have s1 : ChaT AF base w ((w1.alloc (.cells #[.int .i64 a, .int .i64 b] 178)).drew) := ChaT.of_below ((HF.out.2.alloc HF.out.2.size _).drew)
      have s2 := ChaT.of_grown (A := AF) hgrow6 (own_drew (HF.out.1.own.alloc (.cells #[.int .i64 a, .int .i64 b] 178))) (.inr rfl)
      have s3 := ChaT.set (A := AF) (base := base) HX6.out HF.out.1.hB (.inl rfl) 8 (.slice va6 (es.length + 1) vc6)
      exact (s1.trans s2).trans s3

set_option maxRecDepth 20000 in
set_option maxHeartbeats 4000000 in
theorem frPop {base B : Nat} {c0 c1 c2 c3 c4 c5 c6 o ev : Value} {es : List En} {w : World} (h : Fro w base B c0 c1 c2 c3 c4 c5 c6 o ev es) {n : Nat} (hn : es.length = n + 1) (hl : es.length ≤ 1048576) :
    Calls Try.prog 164 #[.pointer (some ⟨B, 7, none⟩)] w fun e w' => e = .returned (.iface 178 (.agg #[.int .i64 (es.getD n (0, 0)).1, .int .i64 (es.getD n (0, 0)).2])) ∧ (∃ ev', Fro w' base B c0 c1 c2 c3 c4 c5 c6 o ev' (es.take n)) ∧ ChaT AF base w w' := by
  obtain ⟨g, cap, rfl, hbg, hg, hcap⟩ := own_pos h.own (by omega)
  obtain ⟨x7, x8, f8, hB⟩ := h.cells
  obtain ⟨X, hX⟩ : ∃ X, X = es.getD n (0, 0) := ⟨_, rfl⟩
  have a0 := own_cell h.own (cellsN_get (show n * 2 < es.length * 2 by omega))
  have a1 := own_cell h.own (cellsN_get (show n * 2 + 1 < es.length * 2 by omega))
  rw [cellN0, ← hX] at a0
  rw [cellN1, ← hX] at a1
  rw [← hX]
  obtain ⟨a0, fa0⟩ := a0
  obtain ⟨a1, fa1⟩ := a1
  obtain ⟨X1, X2⟩ := X
  simp only at a0 a1
  have hlen := frLen h
  rw [hn] at hlen
  have HLEN := Lib.hid hlen
  have hn' : (n : Int) < es.length := by omega
  have hsub : ((n + 1 : Nat) : Int) - 1 = n := by omega
  have HX := Lib.hid hX
  have HF := Lib.hid h
  have HN := Lib.hid hn
  clear hX h hlen fa0 fa1 hn
  go_enter Try.func164, Try.ntmps164
  go_wp2_with (go_at_call 123; (with_reducible refine (HLEN.out).mono ?_); rintro e w1 ⟨rfl, hb1⟩; have a01 := (hb1.cell (p := ⟨g, _, none⟩) hg).trans a0; have a11 := (hb1.cell (p := ⟨g, _, none⟩) hg).trans a1; have x81 := (hb1.cell (p := ⟨B, _, none⟩) hB).trans x8; have f81 := (hb1.frozen (p := ⟨B, _, none⟩) hB).trans f8; have hB1 := Nat.lt_of_lt_of_le hB hb1.size; have hg1 := Nat.lt_of_lt_of_le hg hb1.size)
  go_ret
  have F1 := HF.out.keep hb1
  have hne := HN.out
  have F2 : Fro (w1.setCell ⟨B, 8, none⟩ (.slice (some ⟨g, 0, none⟩) n cap)) base B c0 c1 c2 c3 c4 c5 c6 o (.slice (some ⟨g, 0, none⟩) n cap) (es.take n) := by
    refine ⟨F1.box.set 8 _, ?_, F1.hB, by simpa using F1.hb⟩
    have h1 := own_cut F1.own (k := n) (by omega)
    rw [cellsN_take es n (by omega)] at h1
    have h2 := own_other h1 F1.box (by decide) 8 (.slice (some ⟨g, 0, none⟩) n cap)
    rw [show (es.take n).length = n by simp; omega]
    exact h2
  exact ⟨rfl, ⟨_, F2.keep ((Below.refl _ _).alloc (Nat.le_refl _) _)⟩, ((ChaT.of_below hb1).trans (ChaT.set F1.box F1.hB (.inl rfl) 8 _)).trans (ChaT.of_below ((Below.refl _ _).alloc (Nat.le_refl _) _))⟩
end Go.Proofs.Ytbhhbhopogkmnaa
namespace Go.Proofs.Ytbhhbhopogkmnaa
open Go.RowKit Go.BigFrame Go.Deep
set_option linter.unusedVariables false
set_option linter.unusedSimpArgs false

theorem eLess_iff {m : Int} (hm : mKind m = true) (a b : En) : eLess m a b = true ↔ (if m = 2 ∨ m = 4 then (b.2 < a.2 ∨ (a.2 = b.2 ∧ a.1 < b.1)) else (a.2 < b.2 ∨ (a.2 = b.2 ∧ a.1 < b.1))) := by
  unfold eLess mBet
  by_cases h : a.2 = b.2
  · rw [if_pos h, decide_eq_true_eq]
    split <;> omega
  · rw [if_neg h]
    split
    · rw [decide_eq_true_eq]; omega
    · rw [decide_eq_true_eq]; omega
theorem eLess_ord {m : Int} (hm : mKind m = true) : Ord (eLess m) where
  trans := by
    intro a b c h1 h2
    rw [Bool.eq_false_iff, ne_eq, eLess_iff hm] at *
    split at h1
    · rename_i hc
      rw [if_pos hc] at h2 ⊢
      omega
    · rename_i hc
      rw [if_neg hc] at h2 ⊢
      omega
  asym := by
    intro a b h
    rw [Bool.eq_false_iff, ne_eq]
    rw [eLess_iff hm] at *
    split at h
    · rename_i hc
      rw [if_pos hc]
      omega
    · rename_i hc
      rw [if_neg hc]
      omega
/-- A row in the order of a heap. -/
def hOk (m : Int) (n : Nat) (es : List En) : Prop := Heap (eLess m) n (fun k => es.getD k (0, 0))
/-- A method of the heap, called through the interface. -/
structure MethH (B : Nat) (name : String) (F : FuncId) : Prop where
  run : ∀ w, (method 320 176 (.pointer (some ⟨B, 7, none⟩)) name).run Try.prog w = .ok (F, .pointer (some ⟨B, 7, none⟩)) w
  ahead : ∀ w, (nilAhead 320 176 (.pointer (some ⟨B, 7, none⟩)) name).run Try.prog w = .ok (some false) w
  enter : ∀ args w, (callFunc F args).run Try.prog w = .ok (.enter F args) w
theorem mLen (B : Nat) : MethH B "Len" 123 := ⟨fun w => by kernel_rfl, fun w => by kernel_rfl, fun args w => by kernel_rfl⟩
theorem mLess (B : Nat) : MethH B "Less" 163 := ⟨fun w => by kernel_rfl, fun w => by kernel_rfl, fun args w => by kernel_rfl⟩
theorem mSwap (B : Nat) : MethH B "Swap" 166 := ⟨fun w => by kernel_rfl, fun w => by kernel_rfl, fun args w => by kernel_rfl⟩
theorem mPush (B : Nat) : MethH B "Push" 165 := ⟨fun w => by kernel_rfl, fun w => by kernel_rfl, fun args w => by kernel_rfl⟩
theorem mPop (B : Nat) : MethH B "Pop" 164 := ⟨fun w => by kernel_rfl, fun w => by kernel_rfl, fun args w => by kernel_rfl⟩

theorem hUp_lsw {m : Int} (hm : mKind m = true) {n j : Nat} {es : List En} (hl : n ≤ es.length) (h : HeapUp (eLess m) n (fun k => es.getD k (0, 0)) j) (hj : 0 < j) (hn : j < n) (hlt : eLess m (es.getD j (0, 0)) (es.getD ((j - 1) / 2) (0, 0)) = true) : HeapUp (eLess m) n (fun k => (lsw es ((j - 1) / 2) j).getD k (0, 0)) ((j - 1) / 2) := by
  have h1 := up_step (eLess_ord hm) h hj hn hlt
  have e : (fun k => (lsw es ((j - 1) / 2) j).getD k (0, 0)) = swp (fun k => es.getD k (0, 0)) ((j - 1) / 2) j := funext (fun k => lsw_get (by omega) (by omega) k)
  rw [e]; exact h1
set_option maxRecDepth 20000 in
set_option maxHeartbeats 4000000 in
theorem heapUp {m : Int} (hm : mKind m = true) {base B : Nat} {c0 c1 c2 c3 c4 c5 c6 ev : Value} {es : List En} {w : World} (h : Fro w base B c0 c1 c2 c3 c4 c5 c6 (opsV m) ev es) {j : Nat} (hj : j < es.length) (hl : es.length ≤ 1048576) (hu : HeapUp (eLess m) es.length (fun k => es.getD k (0, 0)) j) :
    Calls Try.prog 122 #[.iface 176 (.pointer (some ⟨B, 7, none⟩)), .int .i64 j] w fun e w' => e = .returned (.tuple #[]) ∧ (∃ es', Fro w' base B c0 c1 c2 c3 c4 c5 c6 (opsV m) ev es' ∧ es'.length = es.length ∧ hOk m es.length es' ∧ ∀ x, inB es.length es' x ↔ inB es.length es x) ∧ ChaT AF base w w' := by
  obtain ⟨l1, l2, l3⟩ := mLess B
  obtain ⟨s1, s2, s3⟩ := mSwap B
  have HF := Lib.hid h
  have HU := Lib.hid hu
  clear h hu
  go_enter Try.func122, Try.ntmps122
  go_wp2
  go_loopw [1] (fun c wr => ∃ (k : Nat) (fs : List En), k < es.length ∧ c = .int .i64 k ∧ Hid (Fro wr base B c0 c1 c2 c3 c4 c5 c6 (opsV m) ev fs ∧ fs.length = es.length ∧ HeapUp (eLess m) es.length (fun k => fs.getD k (0, 0)) k ∧ (∀ x, inB es.length fs x ↔ inB es.length es x) ∧ ChaT AF base w wr)) (fun c _ => (intOf c).toNat)
  case atStart => exact ⟨j, es, hj, rfl, Lib.hid ⟨HF.out, rfl, HU.out, fun x => Iff.rfl, ChaT.refl _ _ _⟩⟩
  case round =>
    obtain ⟨k, fs, hk, rfl, HI⟩ := hrel
    by_cases h0 : k = 0
    · subst h0
      go_wp2
      go_end0
      obtain ⟨i1, i2, i3, i4, i5⟩ := HI.out
      exact ⟨rfl, ⟨fs, i1, i2, up_end i3 (.inl rfl), i4⟩, i5⟩
    · obtain ⟨p, hp⟩ : ∃ p, p = (k - 1) / 2 := ⟨_, rfl⟩
      have hq : Int.tdiv ((k : Int) - 1) 2 = (p : Int) := by
        rw [show ((k : Int) - 1) = ((k - 1 : Nat) : Int) by omega, hp]
        rfl
      have hpk : p < k := by omega
      have d0 : ((p : Int) == (k : Int)) = false := by simp; omega
      have hle := frLess hm HI.out.1 (i := k) (j := p) (by rw [HI.out.2.1]; omega) (by rw [HI.out.2.1]; omega)
      cases hlt : eLess m (fs.getD k (0, 0)) (fs.getD p (0, 0))
      · rw [hlt] at hle
        have HLE := Lib.hid hle
        have HLT := Lib.hid hlt
        have HPP := Lib.hid hp
        clear hle hlt hp
        go_wp2_with (with_reducible refine (HLE.out).mono ?_; rintro e w1 ⟨rfl, hb1⟩)
        go_end0
        obtain ⟨i1, i2, i3, i4, i5⟩ := HI.out
        refine ⟨rfl, ⟨fs, i1.keep hb1, i2, up_end i3 (.inr ?_), i4⟩, i5.trans (ChaT.of_below hb1)⟩
        show eLess m (fs.getD k (0, 0)) (fs.getD ((k - 1) / 2) (0, 0)) = false
        rw [← HPP.out]; exact HLT.out
      · rw [hlt] at hle
        have HLE := Lib.hid hle
        have HLT := Lib.hid hlt
        have HPP := Lib.hid hp
        have hsw := fun w' (hb : Below wr.heap.size wr w') => frSwap (HI.out.1.keep hb) (i := p) (j := k) (by rw [HI.out.2.1]; omega) (by rw [HI.out.2.1]; omega)
        have HSW := Lib.hid hsw
        clear hle hlt hp hsw
        go_wp2_with (first | (with_reducible refine (HLE.out).mono ?_; rintro e w1 ⟨rfl, hb1⟩) | (with_reducible refine (HSW.out _ hb1).mono ?_; rintro e w2 ⟨rfl, hf2, hc2⟩; have H2 := Lib.hid (And.intro hf2 (And.intro hc2 hb1)); clear hf2 hc2 hb1))
        go_roundw
        case rel =>
          have hrel2 : Hid (Fro w2 base B c0 c1 c2 c3 c4 c5 c6 (opsV m) ev (lsw fs p k) ∧ (lsw fs p k).length = es.length ∧ HeapUp (eLess m) es.length (fun i => (lsw fs p k).getD i (0, 0)) p ∧ (∀ x, inB es.length (lsw fs p k) x ↔ inB es.length es x) ∧ ChaT AF base w w2) := Lib.hid (by
            obtain ⟨i1, i2, i3, i4, i5⟩ := HI.out
            refine ⟨H2.out.1, by rw [lsw_len]; exact i2, ?_, fun x => ?_, (i5.trans (ChaT.of_below H2.out.2.2)).trans H2.out.2.1⟩
            · have := hUp_lsw hm (by omega) i3 (by omega) hk (by have := HLT.out; rw [HPP.out] at this; exact this)
              rw [← HPP.out] at this
              exact this
            · exact (inB_lsw (by omega) (by omega) hk x).trans (i4 x))
          first | exact ⟨p, lsw fs p k, by omega, rfl, hrel2⟩ | ((repeat apply Exists.intro); exact ⟨⟨p, lsw fs p k, by omega, rfl, hrel2⟩, rfl⟩)
        case measure => simp [intOf]; omega

theorem hDown_lsw {m : Int} (hm : mKind m = true) {n i j : Nat} {es : List En} (hl : n ≤ es.length) (h : HeapDown (eLess m) n (fun k => es.getD k (0, 0)) i) (hj0 : 0 < j) (hj : (j - 1) / 2 = i) (hn : j < n) (hc : ∀ k, 0 < k → k < n → (k - 1) / 2 = i → eLess m (es.getD k (0, 0)) (es.getD j (0, 0)) = false) (hlt : eLess m (es.getD j (0, 0)) (es.getD i (0, 0)) = true) : HeapDown (eLess m) n (fun k => (lsw es i j).getD k (0, 0)) j := by
  have h1 := down_step (eLess_ord hm) h hj0 hj hn hc hlt
  have e : (fun k => (lsw es i j).getD k (0, 0)) = swp (fun k => es.getD k (0, 0)) i j := funext (fun k => lsw_get (by omega) (by omega) k)
  rw [e]; exact h1
theorem eLess_irr {m : Int} (hm : mKind m = true) (a : En) : eLess m a a = false := by
  rw [Bool.eq_false_iff, ne_eq, eLess_iff hm]; split <;> omega
set_option maxRecDepth 20000 in
set_option maxHeartbeats 8000000 in
theorem heapDown {m : Int} (hm : mKind m = true) {base B : Nat} {c0 c1 c2 c3 c4 c5 c6 ev : Value} {es : List En} {w : World} (h : Fro w base B c0 c1 c2 c3 c4 c5 c6 (opsV m) ev es) {n : Nat} (hn : es.length = n + 1) (hl : es.length ≤ 1048576) (hu : HeapDown (eLess m) n (fun k => es.getD k (0, 0)) 0) :
    Calls Try.prog 126 #[.iface 176 (.pointer (some ⟨B, 7, none⟩)), .int .i64 0, .int .i64 n] w fun e w' => (∃ r, e = .returned (.bool r)) ∧ (∃ es', Fro w' base B c0 c1 c2 c3 c4 c5 c6 (opsV m) ev es' ∧ es'.length = n + 1 ∧ hOk m n es' ∧ (es'.getD n (0, 0) = es.getD n (0, 0) ∧ ∀ x, inB n es' x ↔ inB n es x)) ∧ ChaT AF base w w' := by
  obtain ⟨l1, l2, l3⟩ := mLess B
  obtain ⟨s1, s2, s3⟩ := mSwap B
  have HF := Lib.hid h
  have HU := Lib.hid hu
  have HN := Lib.hid hn
  have hnl : n ≤ 1048576 := by omega
  clear h hu hn hl
  go_enter Try.func126, Try.ntmps126
  go_wp2
  go_loopw [7] (fun c wr => ∃ (i : Nat) (fs : List En), i ≤ n ∧ c = .int .i64 i ∧ Hid (Fro wr base B c0 c1 c2 c3 c4 c5 c6 (opsV m) ev fs ∧ fs.length = n + 1 ∧ HeapDown (eLess m) n (fun k => fs.getD k (0, 0)) i ∧ (fs.getD n (0, 0) = es.getD n (0, 0) ∧ ∀ x, inB n fs x ↔ inB n es x) ∧ ChaT AF base w wr)) (fun c _ => n - (intOf c).toNat)
  case atStart => exact ⟨0, es, Nat.zero_le _, rfl, Lib.hid ⟨HF.out, HN.out, HU.out, ⟨rfl, fun x => Iff.rfl⟩, ChaT.refl _ _ _⟩⟩
  case round =>
    obtain ⟨i, fs, hi, rfl, HI⟩ := hrel
    by_cases h1 : n ≤ 2 * i + 1
    · have d1 : decide ((n : Int) ≤ 2 * (i : Int) + 1) = true := decide_eq_true (by omega)
      have d2 : decide (2 * (i : Int) + 1 ≥ (n : Int)) = true := decide_eq_true (by omega)
      go_wp2
      go_ret
      obtain ⟨i1, i2, i3, i4, i5⟩ := HI.out
      refine ⟨⟨_, rfl⟩, ⟨fs, i1, i2, down_end i3 (fun k hk hkn hki => ?_), i4⟩, i5⟩
      omega
    have d1 : decide ((n : Int) ≤ 2 * (i : Int) + 1) = false := decide_eq_false (by omega)
    have d0 : decide (2 * (i : Int) + 1 < 0) = false := decide_eq_false (by omega)
    obtain ⟨j, hj⟩ : ∃ j : Nat, j = 2 * i + 1 := ⟨_, rfl⟩
    have hji : 2 * (i : Int) + 1 = (j : Int) := by omega
    rw [hji] at d0 d1
    clear hj
    by_cases h2 : j + 1 < n
    · have d3 : decide ((j : Int) + 1 < (n : Int)) = true := decide_eq_true (by omega)
      have hl2 := frLess hm HI.out.1 (i := j + 1) (j := j) (by rw [HI.out.2.1]; omega) (by rw [HI.out.2.1]; omega)
      rw [show ((j + 1 : Nat) : Int) = (j : Int) + 1 by omega] at hl2
      cases hlt2 : eLess m (fs.getD (j + 1) (0, 0)) (fs.getD j (0, 0))
      · rw [hlt2] at hl2
        have HL2 := Lib.hid hl2
        have hcc : ∀ k, 0 < k → k < n → (k - 1) / 2 = i → eLess m (fs.getD k (0, 0)) (fs.getD j (0, 0)) = false := by
          intro k hk hkn hki
          have : k = j ∨ k = j + 1 := by omega
          rcases this with rfl | rfl
          · exact eLess_irr hm _
          · exact hlt2
        have HCC := Lib.hid hcc
        clear hl2 hlt2 hcc
        have hl9 := fun w' (hb : Below wr.heap.size wr w') => frLess hm (HI.out.1.keep hb) (i := j) (j := i) (by rw [HI.out.2.1]; omega) (by rw [HI.out.2.1]; omega)
        cases hlt : eLess m (fs.getD (j) (0, 0)) (fs.getD i (0, 0))
        · rw [hlt] at hl9
          have HL9 := Lib.hid hl9
          have HLT := Lib.hid hlt
          clear hl9 hlt
          go_wp2_with (first | (with_reducible refine (HL2.out).mono ?_; rintro e w2 ⟨rfl, hb2⟩) | (with_reducible refine (HL9.out _ (hb2)).mono ?_; rintro e w9 ⟨rfl, hb9⟩))
          go_ret
          obtain ⟨i1, i2, i3, i4, i5⟩ := HI.out
          refine ⟨⟨_, rfl⟩, ⟨fs, i1.keep (bel_trans (hb2) hb9), i2, down_end i3 (fun k hk hkn hki => ?_), i4⟩, i5.trans (ChaT.of_below (bel_trans (hb2) hb9))⟩
          exact (eLess_ord hm).trans _ _ _ HLT.out (HCC.out k hk hkn hki)
        · rw [hlt] at hl9
          have HL9 := Lib.hid hl9
          have HLT := Lib.hid hlt
          have hsw := fun w' (hb : Below wr.heap.size wr w') => frSwap (HI.out.1.keep hb) (i := i) (j := j) (by rw [HI.out.2.1]; omega) (by rw [HI.out.2.1]; omega)
          have HSW := Lib.hid hsw
          clear hl9 hlt hsw
          go_wp2_with (first | (with_reducible refine (HL2.out).mono ?_; rintro e w2 ⟨rfl, hb2⟩) | (with_reducible refine (HL9.out _ (hb2)).mono ?_; rintro e w9 ⟨rfl, hb9⟩) | (with_reducible refine (HSW.out _ (bel_trans (hb2) hb9)).mono ?_; rintro e w8 ⟨rfl, hf8, hc8⟩; have H8 := Lib.hid (And.intro hf8 (And.intro hc8 (bel_trans (hb2) hb9))); clear hf8 hc8))
          go_roundw
          case rel =>
            have hrel2 : Hid (Fro w8 base B c0 c1 c2 c3 c4 c5 c6 (opsV m) ev (lsw fs i (j)) ∧ (lsw fs i (j)).length = n + 1 ∧ HeapDown (eLess m) n (fun k => (lsw fs i (j)).getD k (0, 0)) (j) ∧ ((lsw fs i (j)).getD n (0, 0) = es.getD n (0, 0) ∧ ∀ x, inB n (lsw fs i (j)) x ↔ inB n es x) ∧ ChaT AF base w w8) := Lib.hid (by
              obtain ⟨i1, i2, i3, ⟨i4, i6⟩, i5⟩ := HI.out
              refine ⟨H8.out.1, by rw [lsw_len]; exact i2, hDown_lsw hm (by omega) i3 (by omega) (by omega) (by omega) HCC.out HLT.out, ⟨?_, fun x => ?_⟩, (i5.trans (ChaT.of_below H8.out.2.2)).trans H8.out.2.1⟩
              · rw [lsw_get (by omega) (by omega), swp_o _ (by omega) (by omega)]; exact i4
              · exact (inB_lsw (by omega) (by omega) (by omega) x).trans (i6 x))
            first | exact ⟨j, lsw fs i (j), by omega, by go_num, hrel2⟩ | ((repeat apply Exists.intro); exact ⟨⟨j, lsw fs i (j), by omega, by go_num, hrel2⟩, rfl⟩)
          case measure => simp [intOf]; omega
      · rw [hlt2] at hl2
        have HL2 := Lib.hid hl2
        have hcc : ∀ k, 0 < k → k < n → (k - 1) / 2 = i → eLess m (fs.getD k (0, 0)) (fs.getD (j + 1) (0, 0)) = false := by
          intro k hk hkn hki
          have : k = j ∨ k = j + 1 := by omega
          rcases this with rfl | rfl
          · exact (eLess_ord hm).asym _ _ hlt2
          · exact eLess_irr hm _
        have HCC := Lib.hid hcc
        clear hl2 hlt2 hcc
        have hl9 := fun w' (hb : Below wr.heap.size wr w') => frLess hm (HI.out.1.keep hb) (i := j + 1) (j := i) (by rw [HI.out.2.1]; omega) (by rw [HI.out.2.1]; omega)
        rw [show ((j + 1 : Nat) : Int) = (j : Int) + 1 by omega] at hl9
        cases hlt : eLess m (fs.getD (j + 1) (0, 0)) (fs.getD i (0, 0))
        · rw [hlt] at hl9
          have HL9 := Lib.hid hl9
          have HLT := Lib.hid hlt
          clear hl9 hlt
          go_wp2_with (first | (with_reducible refine (HL2.out).mono ?_; rintro e w2 ⟨rfl, hb2⟩) | (with_reducible refine (HL9.out _ (hb2)).mono ?_; rintro e w9 ⟨rfl, hb9⟩))
          go_ret
          obtain ⟨i1, i2, i3, i4, i5⟩ := HI.out
          refine ⟨⟨_, rfl⟩, ⟨fs, i1.keep (bel_trans (hb2) hb9), i2, down_end i3 (fun k hk hkn hki => ?_), i4⟩, i5.trans (ChaT.of_below (bel_trans (hb2) hb9))⟩
          exact (eLess_ord hm).trans _ _ _ HLT.out (HCC.out k hk hkn hki)
        · rw [hlt] at hl9
          have HL9 := Lib.hid hl9
          have HLT := Lib.hid hlt
          have hsw := fun w' (hb : Below wr.heap.size wr w') => frSwap (HI.out.1.keep hb) (i := i) (j := j + 1) (by rw [HI.out.2.1]; omega) (by rw [HI.out.2.1]; omega)
          rw [show ((j + 1 : Nat) : Int) = (j : Int) + 1 by omega] at hsw
          have HSW := Lib.hid hsw
          clear hl9 hlt hsw
          go_wp2_with (first | (with_reducible refine (HL2.out).mono ?_; rintro e w2 ⟨rfl, hb2⟩) | (with_reducible refine (HL9.out _ (hb2)).mono ?_; rintro e w9 ⟨rfl, hb9⟩) | (with_reducible refine (HSW.out _ (bel_trans (hb2) hb9)).mono ?_; rintro e w8 ⟨rfl, hf8, hc8⟩; have H8 := Lib.hid (And.intro hf8 (And.intro hc8 (bel_trans (hb2) hb9))); clear hf8 hc8))
          go_roundw
          case rel =>
            have hrel2 : Hid (Fro w8 base B c0 c1 c2 c3 c4 c5 c6 (opsV m) ev (lsw fs i (j + 1)) ∧ (lsw fs i (j + 1)).length = n + 1 ∧ HeapDown (eLess m) n (fun k => (lsw fs i (j + 1)).getD k (0, 0)) (j + 1) ∧ ((lsw fs i (j + 1)).getD n (0, 0) = es.getD n (0, 0) ∧ ∀ x, inB n (lsw fs i (j + 1)) x ↔ inB n es x) ∧ ChaT AF base w w8) := Lib.hid (by
              obtain ⟨i1, i2, i3, ⟨i4, i6⟩, i5⟩ := HI.out
              refine ⟨H8.out.1, by rw [lsw_len]; exact i2, hDown_lsw hm (by omega) i3 (by omega) (by omega) (by omega) HCC.out HLT.out, ⟨?_, fun x => ?_⟩, (i5.trans (ChaT.of_below H8.out.2.2)).trans H8.out.2.1⟩
              · rw [lsw_get (by omega) (by omega), swp_o _ (by omega) (by omega)]; exact i4
              · exact (inB_lsw (by omega) (by omega) (by omega) x).trans (i6 x))
            first | exact ⟨j + 1, lsw fs i (j + 1), by omega, by go_num, hrel2⟩ | ((repeat apply Exists.intro); exact ⟨⟨j + 1, lsw fs i (j + 1), by omega, by go_num, hrel2⟩, rfl⟩)
          case measure => simp [intOf]; omega
    · have d3 : decide ((j : Int) + 1 < (n : Int)) = false := decide_eq_false (by omega)
      have hcc : ∀ k, 0 < k → k < n → (k - 1) / 2 = i → eLess m (fs.getD k (0, 0)) (fs.getD j (0, 0)) = false := by
        intro k hk hkn hki
        have : k = j := by omega
        subst this
        exact eLess_irr hm _
      have HCC := Lib.hid hcc
      clear hcc
      have hl9 := fun w' (hb : Below wr.heap.size wr w') => frLess hm (HI.out.1.keep hb) (i := j) (j := i) (by rw [HI.out.2.1]; omega) (by rw [HI.out.2.1]; omega)
      cases hlt : eLess m (fs.getD (j) (0, 0)) (fs.getD i (0, 0))
      · rw [hlt] at hl9
        have HL9 := Lib.hid hl9
        have HLT := Lib.hid hlt
        clear hl9 hlt
        go_wp2_with (first | (with_reducible refine (HL9.out _ (Below.refl _ _)).mono ?_; rintro e w9 ⟨rfl, hb9⟩))
        go_ret
        obtain ⟨i1, i2, i3, i4, i5⟩ := HI.out
        refine ⟨⟨_, rfl⟩, ⟨fs, i1.keep (hb9), i2, down_end i3 (fun k hk hkn hki => ?_), i4⟩, i5.trans (ChaT.of_below (hb9))⟩
        exact (eLess_ord hm).trans _ _ _ HLT.out (HCC.out k hk hkn hki)
      · rw [hlt] at hl9
        have HL9 := Lib.hid hl9
        have HLT := Lib.hid hlt
        have hsw := fun w' (hb : Below wr.heap.size wr w') => frSwap (HI.out.1.keep hb) (i := i) (j := j) (by rw [HI.out.2.1]; omega) (by rw [HI.out.2.1]; omega)
        have HSW := Lib.hid hsw
        clear hl9 hlt hsw
        go_wp2_with (first | (with_reducible refine (HL9.out _ (Below.refl _ _)).mono ?_; rintro e w9 ⟨rfl, hb9⟩) | (with_reducible refine (HSW.out _ (hb9)).mono ?_; rintro e w8 ⟨rfl, hf8, hc8⟩; have H8 := Lib.hid (And.intro hf8 (And.intro hc8 (hb9))); clear hf8 hc8))
        go_roundw
        case rel =>
          have hrel2 : Hid (Fro w8 base B c0 c1 c2 c3 c4 c5 c6 (opsV m) ev (lsw fs i (j)) ∧ (lsw fs i (j)).length = n + 1 ∧ HeapDown (eLess m) n (fun k => (lsw fs i (j)).getD k (0, 0)) (j) ∧ ((lsw fs i (j)).getD n (0, 0) = es.getD n (0, 0) ∧ ∀ x, inB n (lsw fs i (j)) x ↔ inB n es x) ∧ ChaT AF base w w8) := Lib.hid (by
            obtain ⟨i1, i2, i3, ⟨i4, i6⟩, i5⟩ := HI.out
            refine ⟨H8.out.1, by rw [lsw_len]; exact i2, hDown_lsw hm (by omega) i3 (by omega) (by omega) (by omega) HCC.out HLT.out, ⟨?_, fun x => ?_⟩, (i5.trans (ChaT.of_below H8.out.2.2)).trans H8.out.2.1⟩
            · rw [lsw_get (by omega) (by omega), swp_o _ (by omega) (by omega)]; exact i4
            · exact (inB_lsw (by omega) (by omega) (by omega) x).trans (i6 x))
          first | exact ⟨j, lsw fs i (j), by omega, by go_num, hrel2⟩ | ((repeat apply Exists.intro); exact ⟨⟨j, lsw fs i (j), by omega, by go_num, hrel2⟩, rfl⟩)
        case measure => simp [intOf]; omega
end Go.Proofs.Ytbhhbhopogkmnaa
namespace Go.Proofs.Ytbhhbhopogkmnaa
open Go.RowKit Go.BigFrame Go.Deep
set_option linter.unusedVariables false
set_option linter.unusedSimpArgs false

set_option maxRecDepth 20000 in
set_option maxHeartbeats 4000000 in
theorem heapPush {m : Int} (hm : mKind m = true) {base B : Nat} {c0 c1 c2 c3 c4 c5 c6 ev : Value} {es : List En} {w : World} (h : Fro w base B c0 c1 c2 c3 c4 c5 c6 (opsV m) ev es) (hl : es.length ≤ 1000000) (hh : hOk m es.length es) (a b : Int) :
    Calls Try.prog 114 #[.iface 176 (.pointer (some ⟨B, 7, none⟩)), .iface 178 (.agg #[.int .i64 a, .int .i64 b])] w fun e w' => e = .returned (.tuple #[]) ∧ (∃ ev' es', Fro w' base B c0 c1 c2 c3 c4 c5 c6 (opsV m) ev' es' ∧ es'.length = es.length + 1 ∧ hOk m es'.length es' ∧ ∀ x, x ∈ es' ↔ x ∈ es ∨ x = (a, b)) ∧ ChaT AF base w w' := by
  obtain ⟨l1, l2, l3⟩ := mLen B
  obtain ⟨s1, s2, s3⟩ := mPush B
  have hp := frPush h (by omega) a b
  have HP := Lib.hid hp
  have HH := Lib.hid hh
  have HL := Lib.hid hl
  have hlen : (es ++ [(a, b)]).length = es.length + 1 := by simp
  have hup : HeapUp (eLess m) (es ++ [(a, b)]).length (fun k => (es ++ [(a, b)]).getD k (0, 0)) es.length := by
    rw [hlen]
    exact up_start hh (fun k hk => by simp [List.getD, List.getElem?_append_left hk])
  have HUP := Lib.hid hup
  have HLEN := Lib.hid hlen
  have hsub : (((es.length + 1 : Nat) : Int)) - 1 = (es.length : Nat) := by omega
  clear h hp hh hup hlen
  go_enter Try.func114, Try.ntmps114
  go_wp2_with fail
  refine (HP.out).mono ?_
  rintro e w1 ⟨rfl, ⟨ev1, hf1⟩, hc1⟩
  have HF1 := Lib.hid (And.intro hf1 hc1)
  have hle := frLen hf1
  rw [HLEN.out] at hle
  have HLE := Lib.hid hle
  have hu := fun w' (hb : Below w1.heap.size w1 w') => heapUp hm (hf1.keep hb) (j := es.length) (by rw [HLEN.out]; omega) (by rw [HLEN.out]; have := HL.out; omega) HUP.out
  have HU := Lib.hid hu
  clear hf1 hc1 hle hu
  go_wp2_with (first | (with_reducible refine (HLE.out).mono ?_; rintro e w2 ⟨rfl, hb2⟩) | (go_at_call 122; (with_reducible refine (HU.out _ hb2).mono ?_); rintro e w3 ⟨rfl, ⟨es', hf3, hn3, hh3, hi3⟩, hc3⟩))
  go_end0
  have hn4 : es'.length = es.length + 1 := by rw [hn3, HLEN.out]
  refine ⟨rfl, ⟨ev1, es', hf3, hn4, by rw [hn3]; exact hh3, fun x => ?_⟩, (HF1.out.2.trans (ChaT.of_below hb2)).trans hc3⟩
  have := hi3 x
  rw [inB_all, ← hn3, inB_all] at this
  rw [this]
  simp
theorem inB_pop {es : List En} {n : Nat} (hn : es.length = n + 1) (x : En) : (inB n (lsw es 0 n) x → x ∈ es) ∧ (x ∈ es → x = es.getD 0 (0, 0) ∨ inB n (lsw es 0 n) x) := by
  constructor
  · rintro ⟨k, hk, rfl⟩
    rw [lsw_get (by omega) (by omega)]
    have hmem : ∀ j, j < es.length → es.getD j (0, 0) ∈ es := fun j hj => by
      rw [show es.getD j (0, 0) = es[j] by simp [List.getD, hj]]; exact List.getElem_mem hj
    unfold swp
    split
    · exact hmem _ (by omega)
    · split
      · exact hmem _ (by omega)
      · exact hmem _ (by omega)
  · intro hx
    obtain ⟨k, hk, rfl⟩ := List.getElem_of_mem hx
    have e : es[k] = es.getD k (0, 0) := by simp [List.getD, hk]
    rw [e]
    by_cases h0 : k = 0
    · subst h0; exact .inl rfl
    · refine .inr ?_
      by_cases h1 : k = n
      · subst h1
        exact ⟨0, by omega, by rw [lsw_get (by omega) (by omega), swp_l]⟩
      · exact ⟨k, by omega, by rw [lsw_get (by omega) (by omega), swp_o _ h0 h1]⟩
set_option maxRecDepth 20000 in
set_option maxHeartbeats 4000000 in
theorem heapPop {m : Int} (hm : mKind m = true) {base B : Nat} {c0 c1 c2 c3 c4 c5 c6 ev : Value} {es : List En} {w : World} (h : Fro w base B c0 c1 c2 c3 c4 c5 c6 (opsV m) ev es) {n : Nat} (hn : es.length = n + 1) (hl : es.length ≤ 1000000) (hh : hOk m es.length es) :
    Calls Try.prog 124 #[.iface 176 (.pointer (some ⟨B, 7, none⟩))] w fun e w' => e = .returned (.iface 178 (.agg #[.int .i64 (es.getD 0 (0, 0)).1, .int .i64 (es.getD 0 (0, 0)).2])) ∧ (∃ ev' es', Fro w' base B c0 c1 c2 c3 c4 c5 c6 (opsV m) ev' es' ∧ es'.length = n ∧ hOk m n es' ∧ ∀ x, (x ∈ es' → x ∈ es) ∧ (x ∈ es → x = es.getD 0 (0, 0) ∨ x ∈ es')) ∧ ChaT AF base w w' := by
  obtain ⟨l1, l2, l3⟩ := mLen B
  obtain ⟨s1, s2, s3⟩ := mSwap B
  obtain ⟨p1, p2, p3⟩ := mPop B
  have hle := frLen h
  rw [hn] at hle hh
  have hsw := fun w' (hb : Below w.heap.size w w') => frSwap (h.keep hb) (i := 0) (j := n) (by omega) (by omega)
  rw [show ((0 : Nat) : Int) = 0 from rfl] at hsw
  have hdn : HeapDown (eLess m) n (fun k => (lsw es 0 n).getD k (0, 0)) 0 := by
    have h1 := down_start (n := n) hh
    have e : (fun k => (lsw es 0 n).getD k (0, 0)) = swp (fun k => es.getD k (0, 0)) 0 n := funext (fun k => lsw_get (by omega) (by omega) k)
    rw [e]; exact h1
  have hd := fun w' (hf : Fro w' base B c0 c1 c2 c3 c4 c5 c6 (opsV m) ev (lsw es 0 n)) => heapDown hm hf (n := n) (by rw [lsw_len]; exact hn) (by rw [lsw_len]; omega) hdn
  have HLE := Lib.hid hle
  have HSW := Lib.hid hsw
  have HD := Lib.hid hd
  have HN := Lib.hid hn
  have HL := Lib.hid hl
  have hsub : ((n + 1 : Nat) : Int) - 1 = n := by omega
  have hn9 : n ≤ 1000000 := by omega
  clear h hle hsw hd hdn hn hh hl
  go_enter Try.func124, Try.ntmps124
  go_wp2_with (first | (with_reducible refine (HLE.out).mono ?_; rintro e w1 ⟨rfl, hb1⟩) | (with_reducible refine (HSW.out _ hb1).mono ?_; rintro e w2 ⟨rfl, hf2, hc2⟩; have H2 := Lib.hid (And.intro hf2 (And.intro hc2 hb1)); clear hf2 hc2 hb1) | (go_at_call 126; (with_reducible refine (HD.out _ H2.out.1).mono ?_); rintro e w3 ⟨⟨r, rfl⟩, ⟨es3, hf3, hn3, hh3, hg3, hi3⟩, hc3⟩))
  have hpo := frPop hf3 hn3 (by have := HL.out; have := HN.out; omega)
  have e0 : es3.getD n (0, 0) = es.getD 0 (0, 0) := by rw [hg3, lsw_get (by have := HN.out; omega) (by have := HN.out; omega), swp_r]
  rw [e0] at hpo
  have HPO := Lib.hid hpo
  have H3 := Lib.hid (And.intro hn3 (And.intro hh3 (And.intro hi3 hc3)))
  clear hpo e0 hf3 hn3 hh3 hg3 hi3 hc3
  go_wp2_with (with_reducible refine (HPO.out).mono ?_; rintro e w4 ⟨rfl, ⟨ev4, hf4⟩, hc4⟩)
  go_ret
  obtain ⟨hn3, hh3, hi3, hc3⟩ := H3.out
  have htk : ∀ k, k < n → (es3.take n).getD k (0, 0) = es3.getD k (0, 0) := fun k hk => by simp [List.getD, List.getElem?_take, hk]
  have htl : (es3.take n).length = n := by simp; omega
  refine ⟨rfl, ⟨ev4, es3.take n, hf4, htl, ?_, fun x => ?_⟩, (((ChaT.of_below H2.out.2.2).trans H2.out.2.1).trans hc3).trans hc4⟩
  · intro k hk0 hk
    show eLess m ((es3.take n).getD k (0, 0)) ((es3.take n).getD ((k - 1) / 2) (0, 0)) = false
    rw [htk k hk, htk ((k - 1) / 2) (by omega)]
    exact hh3 k hk0 hk
  · have e1 : x ∈ es3.take n ↔ inB n (lsw es 0 n) x := by
      rw [← hi3 x, ← inB_all, htl]
      unfold inB
      constructor
      · rintro ⟨k, hk, h⟩; exact ⟨k, hk, by rw [← htk k hk]; exact h⟩
      · rintro ⟨k, hk, h⟩; exact ⟨k, hk, by rw [htk k hk]; exact h⟩
    rw [e1]
    exact inB_pop HN.out x
end Go.Proofs.Ytbhhbhopogkmnaa
