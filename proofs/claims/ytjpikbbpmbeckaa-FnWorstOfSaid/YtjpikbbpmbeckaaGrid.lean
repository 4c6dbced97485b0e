/- Slices of slices of integers that read as lists of lists: copied, compared, measured, marked and held by the laws; matrices. -/
import Derived.Test.YtjpikbbpmbeckaaVEdges
import Derived.Test.YtjpikbbpmbeckaaOpenV
namespace Go.Proofs.Ytjpikbbpmbeckaa
open Go.RowKit Go.BigFrame Go.Deep
set_option linter.unusedVariables false
set_option linter.unusedSimpArgs false

/-- A slice of slices of integers that reads as a list of lists. -/
def Grid (w : World) (s : Value) (zss : List (List Int)) : Prop :=
  ∃ a cap, s = .slice a zss.length cap ∧ (zss = [] ∨ ∃ (b off : Nat) (T : Nat → Value), a = some ⟨b, off, none⟩ ∧ b < w.heap.size ∧ ∀ i, i < zss.length → w.cell? ⟨b, off + i, none⟩ = some (T i) ∧ Row w (T i) (zss.getD i []))
theorem Grid.keep {w w' : World} {s : Value} {zss : List (List Int)} (h : Grid w s zss) (hb : Below w.heap.size w w') : Grid w' s zss := by
  obtain ⟨a, cap, rfl, h⟩ := h
  refine ⟨a, cap, rfl, ?_⟩
  rcases h with h | ⟨b, off, T, rfl, hlt, hc⟩
  · exact .inl h
  · exact .inr ⟨b, off, T, rfl, Nat.lt_of_lt_of_le hlt hb.size, fun i hi => ⟨by rw [hb.cell (p := ⟨b, off + i, none⟩) hlt]; exact (hc i hi).1, (hc i hi).2.keep hb⟩⟩

/-- A slice of slices of integers, each in a block of its own, all between two numbers, all to be written. -/
structure GridAt (w : World) (lo hi g : Nat) (T : Nat → Value) (B : Nat → Nat) (zss : List (List Int)) : Prop where
  place : lo ≤ g ∧ g < hi ∧ hi ≤ w.heap.size
  cell : ∀ i, i < zss.length → w.cell? ⟨g, i, none⟩ = some (T i) ∧ w.frozen? ⟨g, i, none⟩ = false
  row : ∀ i, i < zss.length → InR true w (B i) (B i + 1) (T i) (zss.getD i []).length 1 (cellI (zss.getD i []))
  ok : ∀ i, i < zss.length → okS (T i)
  blk : ∀ i, i < zss.length → lo ≤ B i ∧ B i < hi ∧ B i ≠ g
  dis : ∀ i j, i < zss.length → j < zss.length → i ≠ j → B i ≠ B j
/-- A grid of one's own between two numbers. -/
def OwnG (w : World) (lo hi : Nat) (s : Value) (zss : List (List Int)) : Prop :=
  (s = .slice none 0 0 ∧ zss = []) ∨ ∃ (g cap : Nat) (T : Nat → Value) (B : Nat → Nat), s = .slice (some ⟨g, 0, none⟩) zss.length cap ∧ zss.length ≤ cap ∧ GridAt w lo hi g T B zss
theorem OwnG.slice {w : World} {lo hi : Nat} {s : Value} {zss : List (List Int)} (h : OwnG w lo hi s zss) : ∃ a c, s = .slice a zss.length c := by
  rcases h with ⟨rfl, rfl⟩ | ⟨g, cap, T, B, rfl, _⟩
  · exact ⟨_, _, rfl⟩
  · exact ⟨_, _, rfl⟩
theorem OwnG.nil (w : World) (lo hi : Nat) : OwnG w lo hi (.slice none 0 0) [] := .inl ⟨rfl, rfl⟩
theorem OwnG.ok {w : World} {lo hi : Nat} {s : Value} {zss : List (List Int)} (h : OwnG w lo hi s zss) : okS s := by
  rcases h with ⟨rfl, rfl⟩ | ⟨g, cap, T, B, rfl, hc, _⟩
  · intro a n c e
    injection e with e1 e2 e3
    subst e1 e2 e3
    exact ⟨Nat.le_refl _, (fun _ => rfl), fun x h => by cases h⟩
  · intro a n c e
    injection e with e1 e2 e3
    subst e1 e2 e3
    exact ⟨hc, (fun h => by cases h), fun x h => by injection h with h; rw [← h]⟩
theorem OwnG.grid {w : World} {lo hi : Nat} {s : Value} {zss : List (List Int)} (h : OwnG w lo hi s zss) : Grid w s zss := by
  rcases h with ⟨rfl, rfl⟩ | ⟨g, cap, T, B, rfl, hc, h⟩
  · exact ⟨_, _, rfl, .inl rfl⟩
  · exact ⟨_, _, rfl, .inr ⟨g, 0, T, rfl, by have := h.place; omega, fun i hi => ⟨by rw [Nat.zero_add]; exact (h.cell i hi).1, (h.row i hi).ints⟩⟩⟩
section
variable {w w' : World} {lo hi l h g : Nat} {T : Nat → Value} {B : Nat → Nat} {s : Value} {zss : List (List Int)}
theorem GridAt.chg (r : GridAt w lo hi g T B zss) (c : Chg l h w w') (d : h ≤ lo ∨ hi ≤ l) : GridAt w' lo hi g T B zss := by
  have hp := r.place
  refine ⟨⟨hp.1, hp.2.1, Nat.le_trans hp.2.2 c.size⟩, fun i hi => ?_, fun i hi => (r.row i hi).chg c ?_, r.ok, r.blk, r.dis⟩
  · rw [c.cell (p := ⟨g, i, none⟩) (by simp only; omega) (by simp only; omega), c.frozen (p := ⟨g, i, none⟩) (by simp only; omega) (by simp only; omega)]
    exact r.cell i hi
  · have := r.blk i hi
    omega
theorem GridAt.keep (r : GridAt w lo hi g T B zss) (b : Below w.heap.size w w') : GridAt w' lo hi g T B zss := r.chg (l := 0) (h := 0) (Chg.of_below b) (by omega)
theorem OwnG.chg (r : OwnG w lo hi s zss) (c : Chg l h w w') (d : h ≤ lo ∨ hi ≤ l) : OwnG w' lo hi s zss := by
  rcases r with r | ⟨g, cap, T, B, e, hc, r⟩
  · exact .inl r
  · exact .inr ⟨g, cap, T, B, e, hc, r.chg c d⟩
theorem OwnG.keep (r : OwnG w lo hi s zss) (b : Below w.heap.size w w') : OwnG w' lo hi s zss := r.chg (l := 0) (h := 0) (Chg.of_below b) (by omega)
theorem OwnG.wider (r : OwnG w lo hi s zss) (h1 : l ≤ lo) (h2 : hi ≤ h) (h3 : h ≤ w.heap.size) : OwnG w l h s zss := by
  rcases r with r | ⟨g, cap, T, B, e, hc, r⟩
  · exact .inl r
  · have hp := r.place
    exact .inr ⟨g, cap, T, B, e, hc, ⟨⟨by omega, by omega, h3⟩, r.cell, r.row, r.ok, fun i hi => by have := r.blk i hi; omega, r.dis⟩⟩
theorem InR.congr {fz : Bool} {n sz : Nat} {cs cs' : Nat → Value} (r : InR fz w lo hi s n sz cs) (he : ∀ i, i < n * sz → cs i = cs' i) : InR fz w lo hi s n sz cs' := by
  obtain ⟨a, cap, rfl, hz⟩ := r
  refine ⟨a, cap, rfl, ?_⟩
  rcases hz with h0 | ⟨b, off, rfl, h1, h2, h3, hc⟩
  · exact .inl h0
  · exact .inr ⟨b, off, rfl, h1, h2, h3, fun i hi => by rw [← he i hi]; exact hc i hi⟩
/-- One row is written over. -/
theorem GridAt.setRow (r : GridAt w lo hi g T B zss) {k : Nat} (hk : k < zss.length) (c : Chg (B k) (B k + 1) w w') {zss' : List (List Int)} (hl : zss'.length = zss.length)
    (hk2 : InR true w' (B k) (B k + 1) (T k) (zss'.getD k []).length 1 (cellI (zss'.getD k []))) (ho : ∀ i, i < zss.length → i ≠ k → zss'.getD i [] = zss.getD i []) : GridAt w' lo hi g T B zss' := by
  have hp := r.place
  have hkb := r.blk k hk
  refine ⟨⟨hp.1, hp.2.1, Nat.le_trans hp.2.2 c.size⟩, fun i hi => ?_, fun i hi => ?_, fun i hi => r.ok i (by omega), fun i hi => r.blk i (by omega), fun i j hi hj => r.dis i j (by omega) (by omega)⟩
  · rw [c.cell (p := ⟨g, i, none⟩) (by simp only; omega) (by simp only; omega), c.frozen (p := ⟨g, i, none⟩) (by simp only; omega) (by simp only; omega)]
    exact r.cell i (by omega)
  · by_cases e : i = k
    · subst e; exact hk2
    · rw [ho i (by omega) e]
      refine (r.row i (by omega)).chg c ?_
      have := r.dis i k (by omega) hk e
      omega
end

/-- A grid that is being made: its slice's block, and its first k rows. -/
def PartG (w : World) (g N k : Nat) (zss : List (List Int)) : Prop :=
  ∃ (T : Nat → Value) (B : Nat → Nat), w.rowIs g 23 N (fun i => if i < k then T i else .slice none 0 0) ∧ (∀ i, i < k → InR true w (B i) (B i + 1) (T i) (zss.getD i []).length 1 (cellI (zss.getD i [])) ∧ okS (T i) ∧ g < B i ∧ B i < w.heap.size) ∧ ∀ i j, i < k → j < k → i ≠ j → B i ≠ B j
theorem PartG.keep {w w' : World} {g N k : Nat} {zss : List (List Int)} (h : PartG w g N k zss) (hb : Below w.heap.size w w') : PartG w' g N k zss := by
  obtain ⟨T, B, hr, hc, hd⟩ := h
  exact ⟨T, B, hr.of_block (hb.block g hr.lt), fun i hi => ⟨(hc i hi).1.keep hb, (hc i hi).2.1, (hc i hi).2.2.1, Nat.lt_of_lt_of_le (hc i hi).2.2.2 hb.size⟩, hd⟩
theorem PartG.cell {w : World} {g N k : Nat} {zss : List (List Int)} (h : PartG w g N k zss) (hk : k < N) : w.cell? ⟨g, k, none⟩ = some (.slice none 0 0) := by
  obtain ⟨T, B, hr, hc, hd⟩ := h
  rw [hr.cell hk, if_neg (Nat.lt_irrefl _)]
theorem PartG.frozen {w : World} {g N k : Nat} {zss : List (List Int)} (h : PartG w g N k zss) (i : Nat) : w.frozen? ⟨g, i, none⟩ = false := by
  obtain ⟨T, B, hr, hc, hd⟩ := h
  exact hr.frozen i
/-- The next row is put in. -/
theorem PartG.step {w w' : World} {g N k : Nat} {zss : List (List Int)} (h : PartG w g N k zss) (hb : Below w.heap.size w w') {v : Value} {zs : List Int} {b : Nat} (hv : InR true w' b (b + 1) v zs.length 1 (cellI zs)) (hok : okS v) (h1 : w.heap.size ≤ b) (h2 : b < w'.heap.size) (hz : zss.getD k [] = zs) :
    PartG (w'.setCell ⟨g, k, none⟩ v) g N (k + 1) zss := by
  obtain ⟨T, B, hr, hc, hd⟩ := h
  have hg := hr.lt
  have hr' := hr.of_block (hb.block g hr.lt)
  have hchg : Chg g (g + 1) w' (w'.setCell ⟨g, k, none⟩ v) := Chg.setCell (p := ⟨g, k, none⟩) (Chg.refl g (g + 1) w') (Nat.le_refl g) (Nat.lt_succ_self g) v
  refine ⟨fun i => if i = k then v else T i, fun i => if i = k then b else B i, (hr'.set k v).congr (fun i hi => ?_), fun i hi => ?_, fun i j hi hj hne => ?_⟩
  · by_cases e : i = k
    · simp [e]
    · simp only [e, if_false]
      by_cases h2 : i < k
      · rw [if_pos h2, if_pos (by omega)]
      · rw [if_neg h2, if_neg (by omega)]
  · by_cases e : i = k
    · subst e
      simp only [if_true]
      rw [hz]
      exact ⟨hv.chg hchg (by omega), hok, by omega, by simpa using h2⟩
    · simp only [e, if_false]
      have hi2 : i < k := by omega
      obtain ⟨c1, c2, c3, c4⟩ := hc i hi2
      exact ⟨(c1.keep hb).chg hchg (by omega), c2, c3, by simpa using Nat.lt_of_lt_of_le c4 hb.size⟩
  · by_cases e : i = k
    · have e2 : j ≠ k := by omega
      simp only [e, e2, if_true, if_false]
      have := (hc j (by omega)).2.2.2
      omega
    · by_cases e2 : j = k
      · simp only [e, e2, if_true, if_false]
        have := (hc i (by omega)).2.2.2
        omega
      · simp only [e, e2, if_false]
        exact hd i j (by omega) (by omega) hne
theorem PartG.all {w : World} {g : Nat} {zss : List (List Int)} (h : PartG w g zss.length zss.length zss) (lo : Nat) (hlo : lo ≤ g) (cap : Nat) (hc : zss.length ≤ cap) : OwnG w lo w.heap.size (.slice (some ⟨g, 0, none⟩) zss.length cap) zss := by
  obtain ⟨T, B, hr, hcc, hd⟩ := h
  refine .inr ⟨g, cap, T, B, rfl, hc, ⟨⟨hlo, hr.lt, Nat.le_refl _⟩, fun i hi => ⟨by rw [hr.cell hi, if_pos hi], hr.frozen i⟩, fun i hi => (hcc i hi).1, fun i hi => (hcc i hi).2.1, fun i hi => ?_, hd⟩⟩
  have := (hcc i hi).2.2
  omega
theorem PartG.made (w : World) (n : Nat) (zss : List (List Int)) : PartG (w.alloc (.cells (madeCells #[.slice none 0 0] n) 23)) w.heap.size n 0 zss :=
  ⟨fun _ => .slice none 0 0, fun _ => 0, (World.rowIs_made w _ _ _).congr (fun i _ => by simp), fun i hi => absurd hi (Nat.not_lt_zero _), fun i j hi => absurd hi (Nat.not_lt_zero _)⟩
theorem NewI.blk {W w' : World} {v : Value} {zs : List Int} (h : NewI W w' v zs) : ∃ b, InR true w' b (b + 1) v zs.length 1 (cellI zs) ∧ okS v ∧ W.heap.size ≤ b ∧ b < w'.heap.size := by
  have hok := h.ok
  obtain ⟨g, cap, rfl, hg, hr⟩ := h
  exact ⟨g, InR.of_rowIs hr (by omega) (fun _ _ => rfl) cap (Nat.le_refl _) (by omega) hr.lt, hok, hg.1, hr.lt⟩

theorem info_ints : (Try.prog.info? 23).map (fun i => (i.zero, i.size, i.bytes)) = some (some (.slice none 0 0), 1, 24) := by kernel_rfl

/-- How many numbers there are. -/
def tl (zss : List (List Int)) : Nat := zss.flatten.length
/-- How many numbers the first i rows have. -/
def tot (zss : List (List Int)) (i : Nat) : Nat := (zss.take i).flatten.length
theorem tot_zero (zss : List (List Int)) : tot zss 0 = 0 := by simp [tot]
theorem tot_succ (zss : List (List Int)) {i : Nat} (h : i < zss.length) : tot zss (i + 1) = tot zss i + (zss.getD i []).length := by
  unfold tot
  rw [List.take_succ_eq_append_getElem h, List.flatten_append, List.length_append]
  simp [List.getD, h]
theorem tot_le (zss : List (List Int)) (i : Nat) : tot zss i ≤ tl zss := by
  unfold tot tl
  conv => rhs; rw [← List.take_append_drop i zss, List.flatten_append, List.length_append]
  omega
theorem tot_all (zss : List (List Int)) : tot zss zss.length = tl zss := by unfold tot tl; rw [List.take_length]
theorem ret_i {a b : Int} (h : a = b) : Ending.returned (.int .i64 a) = .returned (.int .i64 b) := by rw [h]
theorem row_le (zss : List (List Int)) {i : Nat} (h : i < zss.length) : (zss.getD i []).length ≤ tl zss := by
  have h1 := tot_succ zss h
  have h2 := tot_le zss (i + 1)
  omega
/-- What is left of a budget behind a grid. -/
def szG (l : Nat) (zss : List (List Int)) : Int := if zss.length + tl zss ≤ l then ((l - (zss.length + tl zss) : Nat) : Int) else -1

/-- A row of following numbers. -/
def mkRow (k n : Nat) : List Int := (List.range n).map fun i => ((k + i : Nat) : Int)
theorem mkRow_len (k n : Nat) : (mkRow k n).length = n := by simp [mkRow]
theorem mkRow_cell (k n : Nat) {i : Nat} (h : i < n) : cellI (mkRow k n) i = marked k i := by
  unfold cellI mkRow marked
  simp [List.getD, h]
/-- A grid whose first n rows are marked. -/
def mkU (k : Nat) (zss : List (List Int)) (n : Nat) : List (List Int) := (List.range zss.length).map fun i => if i < n then mkRow (k + tot zss i) (zss.getD i []).length else zss.getD i []
theorem mkU_len (k : Nat) (zss : List (List Int)) (n : Nat) : (mkU k zss n).length = zss.length := by simp [mkU]
theorem mkU_at (k : Nat) (zss : List (List Int)) (n : Nat) {i : Nat} (h : i < zss.length) : (mkU k zss n).getD i [] = if i < n then mkRow (k + tot zss i) (zss.getD i []).length else zss.getD i [] := by
  unfold mkU
  simp only [List.getD, List.getElem?_map, List.getElem?_range h, Option.map_some, Option.getD_some]
theorem mkU_zero (k : Nat) (zss : List (List Int)) : mkU k zss 0 = zss := by
  apply List.ext_getElem (mkU_len k zss 0)
  intro i h1 h2
  have := mkU_at k zss 0 h2
  simp [List.getD, h1, h2] at this
  exact this
theorem Chg.wider {lo hi l h : Nat} {w w' : World} (c : Chg l h w w') (h1 : lo ≤ l) (h2 : h ≤ hi) : Chg lo hi w w' := ⟨c.os, c.tape, c.output, c.size, fun k hk hd => c.block k hk (by omega)⟩

end Go.Proofs.Ytjpikbbpmbeckaa
namespace Go.Proofs.Ytjpikbbpmbeckaa
open Go.RowKit Go.BigFrame Go.Deep Go.ChangeShapes Go.WideShapes Go.Joins
set_option linter.unusedVariables false
set_option linter.unusedSimpArgs false

section
variable {H : Type} {enc : TypeId × Value → H} {w : World} {base : Nat} {spare : Nat → Bool} {held : Bool}

set_option maxRecDepth 100000 in
/-- A slice of slices of integers reads as a list of lists. -/
theorem openGrid {fuel : Nat} {s : Value} {x : DataW H × List MemPlace} (h : DataW.trod enc Try.prog w base spare held fuel 31 [s] = some x) :
    ∃ zss : List (List Int), Grid w s zss ∧ zss.length ≤ 9223372036854775807 ∧ ∀ i, i < zss.length → (zss.getD i []).length ≤ 9223372036854775807 := by
  rcases open_slice Try.underlying31 h with ⟨hcs, _⟩ | ⟨a, len, cap, m, n, D, Pl, hcs, hb, hl, hm, hmm, hx, hi⟩
  · simp only [List.cons.injEq, and_true] at hcs
    subst hcs
    exact ⟨[], ⟨none, 0, rfl, .inl rfl⟩, by simp, fun i hi => absurd hi (Nat.not_lt_zero _)⟩
  · simp only [List.cons.injEq, and_true] at hcs
    subst hcs
    have hC : Try.prog.cellsOf 23 = 1 := by kernel_rfl
    have hlm : len ≤ m := by rw [hmm]; split <;> omega
    have key : ∀ i, ∃ (p : Value) (zs : List Int), i < len → (w.cell? (a.add i) = some p ∧ Row w p zs ∧ zs.length ≤ 9223372036854775807) := by
      intro i
      by_cases hil : i < len
      · obtain ⟨cs', hc, ht'⟩ := hi i (by omega)
        rw [hC] at hc
        obtain ⟨_, hcl, hat⟩ := World.cells?_some hc
        match cs', hcl with
        | [c0], _ =>
          obtain ⟨zs, hr, hzl⟩ := openInts1 ht'
          have a0 := hat 0 (by omega)
          have e0 : (a.add (i * 1)).add 0 = a.add i := by simp [Addr.add]
          rw [e0] at a0
          exact ⟨c0, zs, fun _ => ⟨by simpa using a0, hr, hzl⟩⟩
      · exact ⟨.slice none 0 0, [], fun h => absurd h hil⟩
    obtain ⟨T, hT⟩ := Classical.skolem.1 key
    obtain ⟨Z, hZ⟩ := Classical.skolem.1 hT
    have hmax : maxLen ≤ 9223372036854775807 := by decide
    by_cases h0 : len = 0
    · subst h0
      exact ⟨[], ⟨some a, cap, rfl, .inl rfl⟩, by simp, fun i hi => absurd hi (Nat.not_lt_zero _)⟩
    have c0 := (hZ 0 (by omega)).1
    obtain ⟨b, off, spot⟩ := a
    have hspot : spot = none := by simpa [Addr.add] using World.cell?_spot c0
    subst hspot
    let zss : List (List Int) := (List.range len).map Z
    have hes : zss.length = len := by simp [zss]
    have hg : ∀ i, i < len → zss.getD i [] = Z i := fun i hil => by simp [zss, List.getD, hil]
    refine ⟨zss, ⟨some ⟨b, off, none⟩, cap, by rw [hes], .inr ⟨b, off, T, rfl, World.block_lt_of_cell? _ _ (by simpa [Addr.add] using c0), fun i hil => ?_⟩⟩, ?_, fun i hil => ?_⟩
    · rw [hes] at hil
      obtain ⟨k0, k1, _⟩ := hZ i hil
      rw [Go.WideShapes.add_plain] at k0
      rw [hg i hil]
      exact ⟨k0, k1⟩
    · rw [hes]; omega
    · rw [hes] at hil
      rw [hg i hil]
      exact (hZ i hil).2.2

end
end Go.Proofs.Ytjpikbbpmbeckaa
