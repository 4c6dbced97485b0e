/- Heaps: the mathematics. -/
import Derived.Test.YtdblcaeeepkebaaMath2
namespace Go.Proofs.Ytdblcaeeepkebaa
set_option linter.unusedVariables false
set_option linter.unusedSimpArgs false

section
variable {α : Type} (lt : α → α → Bool)
/-- A row in the order of a heap. -/
def Heap (n : Nat) (f : Nat → α) : Prop := ∀ k, 0 < k → k < n → lt (f k) (f ((k - 1) / 2)) = false
/-- All in order but for the place j, which may have to go up. -/
def HeapUp (n : Nat) (f : Nat → α) (j : Nat) : Prop :=
  (∀ k, 0 < k → k < n → k ≠ j → lt (f k) (f ((k - 1) / 2)) = false) ∧ (∀ k, 0 < k → k < n → (k - 1) / 2 = j → 0 < j → lt (f k) (f ((j - 1) / 2)) = false)
/-- All in order but for the place i, which may have to go down. -/
def HeapDown (n : Nat) (f : Nat → α) (i : Nat) : Prop :=
  (∀ k, 0 < k → k < n → (k - 1) / 2 ≠ i → lt (f k) (f ((k - 1) / 2)) = false) ∧ (∀ k, 0 < k → k < n → (k - 1) / 2 = i → 0 < i → lt (f k) (f ((i - 1) / 2)) = false)
end
/-- Two places change their elements. -/
def swp {α : Type} (f : Nat → α) (i j : Nat) : Nat → α := fun k => if k = i then f j else if k = j then f i else f k
theorem swp_l {α : Type} (f : Nat → α) (i j : Nat) : swp f i j i = f j := by simp [swp]
theorem swp_r {α : Type} (f : Nat → α) (i j : Nat) : swp f i j j = f i := by
  unfold swp
  by_cases h : j = i
  · rw [if_pos h, h]
  · rw [if_neg h, if_pos rfl]
theorem swp_o {α : Type} (f : Nat → α) {i j k : Nat} (h : k ≠ i) (h2 : k ≠ j) : swp f i j k = f k := by simp [swp, h, h2]
theorem swp_mem {α : Type} (f : Nat → α) {n i j : Nat} (hi : i < n) (hj : j < n) (x : α) : (∃ k, k < n ∧ swp f i j k = x) ↔ (∃ k, k < n ∧ f k = x) := by
  constructor
  · rintro ⟨k, hk, rfl⟩
    by_cases h1 : k = i
    · exact ⟨j, hj, by rw [h1, swp_l]⟩
    · by_cases h2 : k = j
      · exact ⟨i, hi, by rw [h2, swp_r]⟩
      · exact ⟨k, hk, (swp_o f h1 h2).symm⟩
  · rintro ⟨k, hk, rfl⟩
    by_cases h1 : k = i
    · exact ⟨j, hj, by rw [h1, swp_r]⟩
    · by_cases h2 : k = j
      · exact ⟨i, hi, by rw [h2, swp_l]⟩
      · exact ⟨k, hk, swp_o f h1 h2⟩

/-- An order in which "not ahead" is transitive. -/
structure Ord {α : Type} (lt : α → α → Bool) : Prop where
  trans : ∀ a b c, lt b a = false → lt c b = false → lt c a = false
  asym : ∀ a b, lt a b = true → lt b a = false

section
variable {α : Type} {lt : α → α → Bool}
theorem up_step (O : Ord lt) {n j : Nat} {f : Nat → α} (h : HeapUp lt n f j) (hj : 0 < j) (hn : j < n) (hl : lt (f j) (f ((j - 1) / 2)) = true) : HeapUp lt n (swp f ((j - 1) / 2) j) ((j - 1) / 2) := by
  obtain ⟨h1, h2⟩ := h
  obtain ⟨i, hi⟩ : ∃ i, i = (j - 1) / 2 := ⟨_, rfl⟩
  rw [← hi] at hl ⊢
  have hij : i < j := by omega
  refine ⟨fun k hk hkn hki => ?_, fun k hk hkn hkp hip => ?_⟩
  · by_cases e1 : k = j
    · rw [e1, swp_r, ← hi, swp_l]; exact O.asym _ _ hl
    · rw [swp_o f hki e1]
      by_cases e2 : (k - 1) / 2 = i
      · rw [e2, swp_l]
        have := h1 k hk hkn e1
        rw [e2] at this
        exact O.trans _ _ _ (O.asym _ _ hl) this
      · by_cases e3 : (k - 1) / 2 = j
        · rw [e3, swp_r, hi]
          exact h2 k hk hkn e3 hj
        · rw [swp_o f e2 e3]
          exact h1 k hk hkn e1
  · have e0 : (i - 1) / 2 ≠ i := by omega
    have e1 : (i - 1) / 2 ≠ j := by omega
    rw [swp_o f e0 e1]
    have hg := h1 i hip (by omega) (by omega)
    by_cases e2 : k = j
    · rw [e2, swp_r]; exact hg
    · have e3 : k ≠ i := by omega
      rw [swp_o f e3 e2]
      have := h1 k hk hkn e2
      rw [hkp] at this
      exact O.trans _ _ _ hg this
theorem up_end {n j : Nat} {f : Nat → α} (h : HeapUp lt n f j) (he : j = 0 ∨ lt (f j) (f ((j - 1) / 2)) = false) : Heap lt n f := by
  intro k hk hkn
  by_cases e : k = j
  · rcases he with e0 | e0
    · omega
    · rw [e]; exact e0
  · exact h.1 k hk hkn e
theorem up_start {n : Nat} {f g : Nat → α} (h : Heap lt n f) (hg : ∀ k, k < n → g k = f k) : HeapUp lt (n + 1) g n := by
  refine ⟨fun k hk hkn hne => ?_, fun k hk hkn hp hn => by omega⟩
  rw [hg k (by omega), hg ((k - 1) / 2) (by omega)]
  exact h k hk (by omega)
theorem down_start {n : Nat} {f : Nat → α} (h : Heap lt (n + 1) f) : HeapDown lt n (swp f 0 n) 0 := by
  refine ⟨fun k hk hkn hne => ?_, fun k hk hkn hp h0 => by omega⟩
  rw [swp_o f (by omega) (by omega), swp_o f hne (by omega)]
  exact h k hk (by omega)
theorem down_step (O : Ord lt) {n i j : Nat} {f : Nat → α} (h : HeapDown lt n f i) (hj0 : 0 < j) (hj : (j - 1) / 2 = i) (hn : j < n) (hc : ∀ k, 0 < k → k < n → (k - 1) / 2 = i → lt (f k) (f j) = false) (hl : lt (f j) (f i) = true) : HeapDown lt n (swp f i j) j := by
  obtain ⟨h1, h2⟩ := h
  have hij : i < j := by omega
  refine ⟨fun k hk hkn hne => ?_, fun k hk hkn hp h0 => ?_⟩
  · by_cases e1 : (k - 1) / 2 = i
    · rw [e1, swp_l]
      by_cases e2 : k = j
      · rw [e2, swp_r]; exact O.asym _ _ hl
      · rw [swp_o f (by omega) e2]; exact hc k hk hkn e1
    · rw [swp_o f e1 hne]
      by_cases e2 : k = i
      · rw [e2, swp_l, ← e2]
        have := h2 j hj0 hn hj (by omega)
        rw [e2]
        exact this
      · have e3 : k ≠ j := by intro e; rw [e] at e1; exact e1 hj
        rw [swp_o f e2 e3]
        exact h1 k hk hkn e1
  · rw [hj, swp_l, swp_o f (by omega) (by omega)]
    have := h1 k hk hkn (by omega)
    rw [hp] at this
    exact this
theorem down_end {n i : Nat} {f : Nat → α} (h : HeapDown lt n f i) (hc : ∀ k, 0 < k → k < n → (k - 1) / 2 = i → lt (f k) (f i) = false) : Heap lt n f := by
  intro k hk hkn
  by_cases e : (k - 1) / 2 = i
  · rw [e]; exact hc k hk hkn e
  · exact h.1 k hk hkn e
theorem heap_root (O : Ord lt) {n : Nat} {f : Nat → α} (h : Heap lt n f) : ∀ k, k < n → lt (f k) (f 0) = false := by
  intro k
  induction k using Nat.strongRecOn with
  | _ k ih =>
    intro hk
    by_cases e : k = 0
    · rw [e]
      cases hc : lt (f 0) (f 0) with
      | false => rfl
      | true => have := O.asym _ _ hc; rw [hc] at this; exact this
    · exact O.trans _ _ _ (ih ((k - 1) / 2) (by omega) (by omega)) (h k (by omega) hk)
end

/-- An entry: a node and a value. -/
abbrev En := Int × Int
/-- Is one entry in front of another? -/
def eLess (m : Int) (a b : En) : Bool := if a.2 = b.2 then decide (a.1 < b.1) else mBet m a.2 b.2
end Go.Proofs.Ytdblcaeeepkebaa
