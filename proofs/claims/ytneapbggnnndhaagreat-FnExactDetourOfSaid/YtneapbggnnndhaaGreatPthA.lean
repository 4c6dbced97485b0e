/- Slices of paths: read, compared, marked and held by the laws. -/
import Derived.Test.YtneapbggnnndhaaGreatPathF
import Derived.Test.YtneapbggnnndhaaGreatChaT
import Derived.Test.YtneapbggnnndhaaGreatWlkA
namespace Go.Proofs.YtneapbggnnndhaaGreat
open Go.RowKit Go.BigFrame Go.Deep Go.ChangeShapes Go.WideShapes Go.Joins
set_option linter.unusedVariables false
set_option linter.unusedSimpArgs false

theorem Chg.wideP {lo hi l h : Nat} {w w' : World} (c : Chg l h w w') (h1 : lo ≤ l) (h2 : h ≤ hi) : Chg lo hi w w' := ⟨c.os, c.tape, c.output, c.size, fun k hk hd => c.block k hk (by omega)⟩
/-- A slice of paths reads as a list. -/
def PRd (w : World) (s : Value) (ps : List Pt) : Prop :=
  ∃ a cap, s = .slice a ps.length cap ∧ (ps = [] ∨ ∃ (b off : Nat) (T : Nat → Value), a = some ⟨b, off, none⟩ ∧ b < w.heap.size ∧ ∀ i, i < ps.length → w.cell? ⟨b, off + i * 2, none⟩ = some (T i) ∧ w.cell? ⟨b, off + i * 2 + 1, none⟩ = some (.int .i64 (ps.getD i ([], 0)).2) ∧ Row w (T i) (ps.getD i ([], 0)).1)
theorem PRd.keep {w w' : World} {s : Value} {ps : List Pt} (h : PRd w s ps) (hb : Below w.heap.size w w') : PRd w' s ps := by
  obtain ⟨a, cap, rfl, h⟩ := h
  refine ⟨a, cap, rfl, ?_⟩
  rcases h with h | ⟨b, off, T, rfl, hlt, hc⟩
  · exact .inl h
  · exact .inr ⟨b, off, T, rfl, Nat.lt_of_lt_of_le hlt hb.size, fun i hi => ⟨by rw [hb.cell (p := ⟨b, off + i * 2, none⟩) hlt]; exact (hc i hi).1, by rw [hb.cell (p := ⟨b, off + i * 2 + 1, none⟩) hlt]; exact (hc i hi).2.1, (hc i hi).2.2.keep hb⟩⟩
theorem PRd.nil (w : World) (a : Option Addr) (c : Nat) : PRd w (.slice a 0 c) [] := ⟨a, c, rfl, .inl rfl⟩

/-- Paths, each with its row in a block of its own, all between two numbers, all to be written: L lengths, C nodes, X values. -/
structure PAt (w : World) (lo hi g : Nat) (T : Nat → Value) (B : Nat → Nat) (N : Nat) (L : Nat → Nat) (C : Nat → Nat → Value) (X : Nat → Int) : Prop where
  place : lo ≤ g ∧ g < hi ∧ hi ≤ w.heap.size
  cell : ∀ i, i < N → w.cell? ⟨g, i * 2, none⟩ = some (T i) ∧ w.cell? ⟨g, i * 2 + 1, none⟩ = some (.int .i64 (X i)) ∧ w.frozen? ⟨g, i * 2 + 1, none⟩ = false
  row : ∀ i, i < N → InR true w (B i) (B i + 1) (T i) (L i) 1 (C i)
  blk : ∀ i, i < N → lo ≤ B i ∧ B i < hi ∧ B i ≠ g
  dis : ∀ i j, i < N → j < N → i ≠ j → B i ≠ B j
/-- A slice of paths between two numbers. -/
def OwnPF (w : World) (lo hi : Nat) (s : Value) (N : Nat) (L : Nat → Nat) (C : Nat → Nat → Value) (X : Nat → Int) : Prop :=
  (N = 0 ∧ ∃ a c, s = .slice a 0 c) ∨ ∃ (g cap : Nat) (T : Nat → Value) (B : Nat → Nat), s = .slice (some ⟨g, 0, none⟩) N cap ∧ PAt w lo hi g T B N L C X
section
variable {w w' : World} {lo hi l h g N : Nat} {T : Nat → Value} {B : Nat → Nat} {s : Value} {L : Nat → Nat} {C : Nat → Nat → Value} {X : Nat → Int}
theorem PAt.chg (r : PAt w lo hi g T B N L C X) (c : Chg l h w w') (d : h ≤ lo ∨ hi ≤ l) : PAt w' lo hi g T B N L C X := by
  have hp := r.place
  refine ⟨⟨hp.1, hp.2.1, Nat.le_trans hp.2.2 c.size⟩, fun i hi => ?_, fun i hi => (r.row i hi).chg c ?_, r.blk, r.dis⟩
  · rw [c.cell (p := ⟨g, i * 2, none⟩) (by simp only; omega) (by simp only; omega), c.cell (p := ⟨g, i * 2 + 1, none⟩) (by simp only; omega) (by simp only; omega), c.frozen (p := ⟨g, i * 2 + 1, none⟩) (by simp only; omega) (by simp only; omega)]
    exact r.cell i hi
  · have := r.blk i hi
    omega
theorem PAt.keep (r : PAt w lo hi g T B N L C X) (b : Below w.heap.size w w') : PAt w' lo hi g T B N L C X := r.chg (l := 0) (h := 0) (Chg.of_below b) (by omega)
theorem OwnPF.chg (r : OwnPF w lo hi s N L C X) (c : Chg l h w w') (d : h ≤ lo ∨ hi ≤ l) : OwnPF w' lo hi s N L C X := by
  rcases r with r | ⟨g, cap, T, B, e, r⟩
  · exact .inl r
  · exact .inr ⟨g, cap, T, B, e, r.chg c d⟩
theorem OwnPF.keep (r : OwnPF w lo hi s N L C X) (b : Below w.heap.size w w') : OwnPF w' lo hi s N L C X := r.chg (l := 0) (h := 0) (Chg.of_below b) (by omega)
theorem OwnPF.wider (r : OwnPF w lo hi s N L C X) (h1 : l ≤ lo) (h2 : hi ≤ h) (h3 : h ≤ w.heap.size) : OwnPF w l h s N L C X := by
  rcases r with r | ⟨g, cap, T, B, e, r⟩
  · exact .inl r
  · have hp := r.place
    exact .inr ⟨g, cap, T, B, e, ⟨⟨by omega, by omega, h3⟩, r.cell, r.row, fun i hi => by have := r.blk i hi; omega, r.dis⟩⟩
theorem OwnPF.slice (r : OwnPF w lo hi s N L C X) : ∃ a c, s = .slice a N c := by
  rcases r with ⟨rfl, a, c, rfl⟩ | ⟨g, cap, T, B, rfl, _⟩
  · exact ⟨_, _, rfl⟩
  · exact ⟨_, _, rfl⟩
/-- One path is written over. -/
theorem PAt.setOne {L' : Nat → Nat} {C' : Nat → Nat → Value} {X' : Nat → Int} (r : PAt w lo hi g T B N L C X) {k : Nat} (hk : k < N) (c : Chg (B k) (B k + 1) w w') (x : Int)
    (hk2 : InR true w' (B k) (B k + 1) (T k) (L' k) 1 (C' k)) (hx : X' k = x) (ho : ∀ i, i < N → i ≠ k → L' i = L i ∧ C' i = C i ∧ X' i = X i) : PAt (w'.setCell ⟨g, k * 2 + 1, none⟩ (.int .i64 x)) lo hi g T B N L' C' X' := by
  have hp := r.place
  have hkb := r.blk k hk
  have hs := c.size
  have cc : ∀ i, i < N → w'.cell? ⟨g, i * 2, none⟩ = some (T i) ∧ w'.cell? ⟨g, i * 2 + 1, none⟩ = some (.int .i64 (X i)) ∧ w'.frozen? ⟨g, i * 2 + 1, none⟩ = false := fun i hi => by
    rw [c.cell (p := ⟨g, i * 2, none⟩) (by simp only; omega) (by simp only; omega), c.cell (p := ⟨g, i * 2 + 1, none⟩) (by simp only; omega) (by simp only; omega), c.frozen (p := ⟨g, i * 2 + 1, none⟩) (by simp only; omega) (by simp only; omega)]
    exact r.cell i hi
  have hset : Chg g (g + 1) w' (w'.setCell ⟨g, k * 2 + 1, none⟩ (.int .i64 x)) := Chg.setCell (p := ⟨g, k * 2 + 1, none⟩) (Chg.refl g (g + 1) w') (Nat.le_refl g) (Nat.lt_succ_self g) _
  refine ⟨⟨hp.1, hp.2.1, Nat.le_trans hp.2.2 (Nat.le_trans hs hset.size)⟩, fun i hi => ?_, fun i hi => ?_, r.blk, r.dis⟩
  · obtain ⟨c1, c2, c3⟩ := cc i hi
    refine ⟨?_, ?_, by rw [World.frozen?_setCell]; exact c3⟩
    · rw [World.cell?_setCell_other _ _ _ _ (by intro e; injection e with _ e _; omega)]
      exact c1
    · by_cases e : i = k
      · subst e
        rw [World.cell?_setCell_same _ _ _ c2, hx]
      · rw [World.cell?_setCell_other _ _ _ _ (by intro e; injection e with _ e _; omega), (ho i hi e).2.2]
        exact c2
  · have hib := r.blk i hi
    refine InR.chg ?_ hset (by omega)
    by_cases e : i = k
    · subst e; exact hk2
    · obtain ⟨e1, e2, -⟩ := ho i hi e
      rw [e1, e2]
      refine (r.row i hi).chg c ?_
      have := r.dis i k hi hk e
      omega
end
/-- Paths as a list. -/
def OwnPs (w : World) (lo hi : Nat) (s : Value) (ps : List Pt) : Prop := OwnPF w lo hi s ps.length (fun i => (ps.getD i ([], 0)).1.length) (fun i => cellI (ps.getD i ([], 0)).1) (fun i => (ps.getD i ([], 0)).2)
theorem OwnPs.read {w : World} {lo hi : Nat} {s : Value} {ps : List Pt} (h : OwnPs w lo hi s ps) : PRd w s ps := by
  rcases h with ⟨h0, a, c, rfl⟩ | ⟨g, cap, T, B, rfl, r⟩
  · exact ⟨a, c, by rw [h0], .inl (List.length_eq_zero_iff.1 h0)⟩
  · have hp := r.place
    refine ⟨_, cap, rfl, .inr ⟨g, 0, T, rfl, by omega, fun i hi => ?_⟩⟩
    obtain ⟨c1, c2, -⟩ := r.cell i hi
    exact ⟨by rw [Nat.zero_add]; exact c1, by rw [Nat.zero_add]; exact c2, (r.row i hi).ints⟩

/-- How many numbers the first i paths have. -/
def pt (L : Nat → Nat) : Nat → Nat
  | 0 => 0
  | i + 1 => pt L i + L i + 1
theorem pt_mono (L : Nat → Nat) (i : Nat) : ∀ j, pt L i ≤ pt L (i + j)
  | 0 => Nat.le_refl _
  | j + 1 => by
    have := pt_mono L i j
    rw [Nat.add_succ]
    simp only [pt]
    omega
theorem pt_le (L : Nat → Nat) {i N : Nat} (h : i ≤ N) : pt L i ≤ pt L N := by
  have := pt_mono L i (N - i)
  rwa [Nat.add_sub_cancel' h] at this
theorem pt_bound {L : Nat → Nat} {M : Nat} : ∀ {N : Nat}, (∀ i, i < N → L i ≤ M) → pt L N ≤ N * (M + 1)
  | 0, _ => by simp [pt]
  | N + 1, h => by
    have := pt_bound (L := L) (M := M) (N := N) (fun i hi => h i (by omega))
    have := h N (by omega)
    rw [Nat.succ_mul]
    simp only [pt]
    omega
def pkC (k : Nat) (L : Nat → Nat) (C : Nat → Nat → Value) (i : Nat) (j : Nat) : Nat → Value := if j < i then marked ((k + pt L j : Nat) : Int) else C j
def pkX (k : Nat) (L : Nat → Nat) (X : Nat → Int) (i : Nat) (j : Nat) : Int := if j < i then ((k + pt L j + L j : Nat) : Int) else X j

end Go.Proofs.YtneapbggnnndhaaGreat
