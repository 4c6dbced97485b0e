/- Slices of edges that the laws copy and compare. Rows of cells in blocks between two numbers: what is kept when other blocks are written. Rows at a place. -/
import Derived.Test.YtlgjcofpdaljnaaGraph3
import Derived.Deep.OwnRows
namespace Go.Proofs.Ytlgjcofpdaljnaa
open Go.RowKit Go.BigFrame Go.Deep
set_option linter.unusedVariables false
set_option linter.unusedSimpArgs false

theorem RowE.keep {w w' : World} {s : Value} {es : List Ed} (h : RowE w s es) (hb : Below w.heap.size w w') : RowE w' s es := by
  obtain ⟨a, cap, rfl, hz⟩ := h
  refine ⟨a, cap, rfl, ?_⟩
  rcases hz with h0 | ⟨b, off, rfl, hlt, hc⟩
  · exact .inl h0
  · refine .inr ⟨b, off, rfl, Nat.lt_of_lt_of_le hlt hb.size, fun i hi => ?_⟩
    obtain ⟨c0, c1, c2⟩ := hc i hi
    exact ⟨(hb.cell (p := ⟨b, _, none⟩) hlt).trans c0, (hb.cell (p := ⟨b, _, none⟩) hlt).trans c1, (hb.cell (p := ⟨b, _, none⟩) hlt).trans c2⟩

/-- make of elements of several cells, with a variable size. -/
theorem run_make_rowN {P : Program} (t e : TypeId) (z : Value) (zs : Array Value) (size bytes : Nat) (ht : P.underlying t = some (.slice e)) (hinfo : (P.info? e).map (fun i => (i.zero, i.size, i.bytes)) = some (some z, size, bytes)) (hz1 : z.cells = zs)
    (kl kc : IntKind) (n : Nat) (hbytes : bytes * n ≤ 281474976710656) (h63 : n ≤ 9223372036854775807) (w : World) :
    (Instr.makeSlice t (.int kl (n : Int)) (.int kc (n : Int))).run P w = .ok (.slice (some ⟨w.heap.size, 0, none⟩) n n) (w.alloc (.cells (madeCells zs (n * size)) e)) := by
  obtain ⟨i, hi, hzz⟩ := Option.map_eq_some_iff.1 hinfo
  simp only [Prod.mk.injEq] at hzz
  obtain ⟨hz, hs, hb⟩ := hzz
  have hb' : (i.bytes : Int) * (n : Int) ≤ 281474976710656 := by
    have h : ((i.bytes * n : Nat) : Int) ≤ 281474976710656 := by rw [hb]; omega
    rwa [Int.natCast_mul] at h
  have hr := run_make (P := P) w t e i z ht hi hz kl kc n n (by omega) (Int.le_refl _) hb' (by omega)
  simp only [Int.toNat_natCast, hs, hz1] at hr
  exact hr

/-- The cells of a row of edges. -/
def cellE (es : List Ed) (j : Nat) : Value :=
  .int .i64 (if j % 3 = 0 then (es.getD (j / 3) (0, 0, 0)).1 else if j % 3 = 1 then (es.getD (j / 3) (0, 0, 0)).2.1 else (es.getD (j / 3) (0, 0, 0)).2.2)
theorem cellE0 (es : List Ed) (i : Nat) : cellE es (i * 3) = .int .i64 (es.getD i (0, 0, 0)).1 := by
  have h1 : i * 3 % 3 = 0 := by omega
  have h2 : i * 3 / 3 = i := by omega
  simp only [cellE, h1, h2, if_pos]
theorem cellE1 (es : List Ed) (i : Nat) : cellE es (i * 3 + 1) = .int .i64 (es.getD i (0, 0, 0)).2.1 := by
  have h1 : (i * 3 + 1) % 3 = 1 := by omega
  have h2 : (i * 3 + 1) / 3 = i := by omega
  simp [cellE, h1, h2]
theorem cellE2 (es : List Ed) (i : Nat) : cellE es (i * 3 + 2) = .int .i64 (es.getD i (0, 0, 0)).2.2 := by
  have h1 : (i * 3 + 2) % 3 = 2 := by omega
  have h2 : (i * 3 + 2) / 3 = i := by omega
  simp [cellE, h1, h2]
/-- A row of edges that is being made. -/
def partE (es : List Ed) (k : Nat) : Nat → Value := fun j => if j < k * 3 then cellE es j else .int .i64 0
theorem rowE_of_rowIs {w : World} {b : Nat} {t : TypeId} {es : List Ed} (h : w.rowIs b t (es.length * 3) (cellE es)) (cap : Nat) : RowE w (.slice (some ⟨b, 0, none⟩) es.length cap) es :=
  ⟨_, cap, rfl, .inr ⟨b, 0, rfl, h.lt, fun i hi => ⟨by rw [Nat.zero_add, h.cell (by omega), cellE0], by rw [Nat.zero_add, h.cell (by omega), cellE1], by rw [Nat.zero_add, h.cell (by omega), cellE2]⟩⟩⟩
theorem info_edge : (Try.prog.info? 67).map (fun i => (i.zero, i.size, i.bytes)) = some (some (.agg #[.int .i64 0, .int .i64 0, .int .i64 0]), 3, 24) := by kernel_rfl
theorem made_part (es : List Ed) (w : World) (t : TypeId) (n : Nat) : (w.alloc (.cells (madeCells #[.int .i64 0, .int .i64 0, .int .i64 0] (n * 3)) t)).rowIs w.heap.size t (n * 3) (partE es 0) :=
  ⟨_, blk_alloc_new _ _, size_madeCells _ _, fun i hi => by
    have h3 : i % 3 = 0 ∨ i % 3 = 1 ∨ i % 3 = 2 := by omega
    rcases h3 with h | h | h <;> simp [madeCells, hi, partE, h]⟩
theorem part_step (es : List Ed) (k j : Nat) : partE es (k + 1) j = if j = k * 3 + 2 then .int .i64 (es.getD k (0, 0, 0)).2.2 else if j = k * 3 + 1 then .int .i64 (es.getD k (0, 0, 0)).2.1 else if j = k * 3 then .int .i64 (es.getD k (0, 0, 0)).1 else partE es k j := by
  unfold partE
  by_cases h2 : j = k * 3 + 2
  · subst h2; rw [if_pos rfl, if_pos (by omega), cellE2]
  · rw [if_neg h2]
    by_cases h1 : j = k * 3 + 1
    · subst h1; rw [if_pos rfl, if_pos (by omega), cellE1]
    · rw [if_neg h1]
      by_cases h0 : j = k * 3
      · subst h0; rw [if_pos rfl, if_pos (by omega), cellE0]
      · rw [if_neg h0]
        by_cases hk : j < k * 3
        · rw [if_pos hk, if_pos (by omega)]
        · rw [if_neg hk, if_neg (by omega)]

theorem results_cell1 {fn : Func} {p : Tmp} {ty : TypeId} (h : fn.results = #[.cell p ty]) (tmps : Array Value) (P : Program) (w : World) :
    (results fn tmps).run P w = ((asAddr (tmps.getD p undef)).run P w).andThen fun a w₁ => (loadVar ty a).run P w₁ := by
  simp only [results, h]
  simp

/-- A slice of edges in a block that is new since a world. -/
def NewE (W w' : World) (v : Value) (es : List Ed) : Prop :=
  ∃ g cap, v = .slice (some ⟨g, 0, none⟩) es.length cap ∧ (W.heap.size ≤ g ∧ es.length ≤ cap) ∧ w'.rowIs g 67 (es.length * 3) (cellE es)
/-- A slice's length is within its room, and without an array there is no room. -/
def okS (s : Value) : Prop := ∀ a n c, s = .slice a n c → n ≤ c ∧ (a = none → c = 0) ∧ (∀ x, a = some x → x.spot = none)
theorem NewE.ok {W w' : World} {v : Value} {es : List Ed} (h : NewE W w' v es) : okS v := by
  obtain ⟨g, cap, rfl, hg, hr⟩ := h
  intro a n c e
  injection e with e1 e2 e3
  subst e1 e2 e3
  exact ⟨hg.2, (fun h => by cases h), fun x h => by injection h with h; rw [← h]⟩
theorem NewE.row {W w' : World} {v : Value} {es : List Ed} (h : NewE W w' v es) : RowE w' v es := by
  obtain ⟨g, cap, rfl, _, hr⟩ := h
  exact rowE_of_rowIs hr cap

/-- What is left of a budget. -/
def szR (l len : Nat) : Int := if len ≤ l then ((l - len : Nat) : Int) else -1
end Go.Proofs.Ytlgjcofpdaljnaa
namespace Go.Proofs.Ytlgjcofpdaljnaa
open Go.RowKit Go.BigFrame Go.Deep
set_option linter.unusedVariables false
set_option linter.unusedSimpArgs false

/-- A slice of n elements of sz cells each, in a block from lo on and before hi, reads as cs; with fz: it can be written. -/
def InR (fz : Bool) (w : World) (lo hi : Nat) (s : Value) (n sz : Nat) (cs : Nat → Value) : Prop :=
  ∃ a cap, s = .slice a n cap ∧ (n = 0 ∨ ∃ b off, a = some ⟨b, off, none⟩ ∧ lo ≤ b ∧ b < hi ∧ hi ≤ w.heap.size ∧ ∀ i, i < n * sz → w.cell? ⟨b, off + i, none⟩ = some (cs i) ∧ (fz = true → w.frozen? ⟨b, off + i, none⟩ = false))
/-- Only blocks from lo on and before hi have changed, and new ones are there. -/
structure Chg (lo hi : Nat) (w w' : World) : Prop where
  os : w'.os = w.os
  tape : w'.tape = w.tape
  output : w'.output = w.output
  size : w.heap.size ≤ w'.heap.size
  block : ∀ k, k < w.heap.size → (k < lo ∨ hi ≤ k) → w'.heap[k]? = w.heap[k]?
theorem Chg.of_below {lo hi : Nat} {w w' : World} (h : Below w.heap.size w w') : Chg lo hi w w' := ⟨h.os, h.tape, h.output, h.size, fun k hk _ => h.block k hk⟩
theorem Chg.trans {lo hi : Nat} {a b c : World} (h : Chg lo hi a b) (k : Chg lo hi b c) : Chg lo hi a c :=
  ⟨k.os.trans h.os, k.tape.trans h.tape, k.output.trans h.output, Nat.le_trans h.size k.size, fun i hi h2 => (k.block i (Nat.lt_of_lt_of_le hi h.size) h2).trans (h.block i hi h2)⟩
theorem Chg.below {lo hi B : Nat} {w w' : World} (h : Chg lo hi w w') (hB : B ≤ lo) (hs : B ≤ w.heap.size) : Below B w w' :=
  ⟨h.os, h.tape, h.output, h.size, fun k hk => h.block k (Nat.lt_of_lt_of_le hk hs) (.inl (Nat.lt_of_lt_of_le hk hB))⟩
theorem bel_chg {lo hi : Nat} {W w w' : World} (h : Below W.heap.size W w) (k : Chg lo hi w w') (hB : W.heap.size ≤ lo) : Below W.heap.size W w' := h.trans (k.below hB h.size)
theorem Chg.setCell {lo hi : Nat} {a w : World} (h : Chg lo hi a w) {p : Addr} (h1 : lo ≤ p.block) (h2 : p.block < hi) (u : Value) : Chg lo hi a (w.setCell p u) :=
  ⟨h.os, h.tape, h.output, Nat.le_trans h.size (by simp), fun k hk hd => (Below.heap_setCell w p u k (by omega)).trans (h.block k hk hd)⟩
theorem Chg.drew {lo hi : Nat} {a w : World} (h : Chg lo hi a w) : Chg lo hi a w.drew := ⟨h.os, h.tape, h.output, h.size, h.block⟩
theorem Chg.refl (lo hi : Nat) (w : World) : Chg lo hi w w := ⟨rfl, rfl, rfl, Nat.le_refl _, fun _ _ _ => rfl⟩
theorem Chg.cell {lo hi : Nat} {w w' : World} (h : Chg lo hi w w') {p : Addr} (hp : p.block < w.heap.size) (hd : p.block < lo ∨ hi ≤ p.block) : w'.cell? p = w.cell? p := World.cell?_of_block (h.block p.block hp hd)
theorem Chg.frozen {lo hi : Nat} {w w' : World} (h : Chg lo hi w w') {p : Addr} (hp : p.block < w.heap.size) (hd : p.block < lo ∨ hi ≤ p.block) : w'.frozen? p = w.frozen? p := World.frozen?_of_block (h.block p.block hp hd)

section
variable {fz : Bool} {w w' : World} {lo hi l h : Nat} {s : Value} {n sz : Nat} {cs : Nat → Value}
theorem InR.chg (r : InR fz w lo hi s n sz cs) (c : Chg l h w w') (d : h ≤ lo ∨ hi ≤ l) : InR fz w' lo hi s n sz cs := by
  obtain ⟨a, cap, rfl, hz⟩ := r
  refine ⟨a, cap, rfl, ?_⟩
  rcases hz with h0 | ⟨b, off, rfl, h1, h2, h3, hc⟩
  · exact .inl h0
  · refine .inr ⟨b, off, rfl, h1, h2, Nat.le_trans h3 c.size, fun i hi => ?_⟩
    have hb : b < w.heap.size := Nat.lt_of_lt_of_le h2 h3
    have hd : b < l ∨ h ≤ b := by omega
    rw [c.cell (p := ⟨b, off + i, none⟩) hb hd, c.frozen (p := ⟨b, off + i, none⟩) hb hd]
    exact hc i hi
theorem InR.keep (r : InR fz w lo hi s n sz cs) (b : Below w.heap.size w w') : InR fz w' lo hi s n sz cs := r.chg (l := 0) (h := 0) (Chg.of_below b) (by omega)
theorem InR.wider (r : InR fz w lo hi s n sz cs) (h1 : l ≤ lo) (h2 : hi ≤ h) (h3 : h ≤ w.heap.size) : InR fz w l h s n sz cs := by
  obtain ⟨a, cap, rfl, hz⟩ := r
  refine ⟨a, cap, rfl, ?_⟩
  rcases hz with h0 | ⟨b, off, rfl, k1, k2, k3, hc⟩
  · exact .inl h0
  · exact .inr ⟨b, off, rfl, by omega, by omega, h3, hc⟩
theorem InR.free (r : InR true w lo hi s n sz cs) : InR fz w lo hi s n sz cs := by
  obtain ⟨a, cap, rfl, hz⟩ := r
  refine ⟨a, cap, rfl, ?_⟩
  rcases hz with h0 | ⟨b, off, rfl, k1, k2, k3, hc⟩
  · exact .inl h0
  · exact .inr ⟨b, off, rfl, k1, k2, k3, fun i hi => ⟨(hc i hi).1, fun _ => (hc i hi).2 rfl⟩⟩
theorem InR.of_rowIs {t : TypeId} {g N : Nat} {f : Nat → Value} (r : w.rowIs g t N f) (hN : n * sz ≤ N) (hf : ∀ i, i < n * sz → f i = cs i) (cap : Nat) (h1 : lo ≤ g) (h2 : g < hi) (h3 : hi ≤ w.heap.size) : InR fz w lo hi (.slice (some ⟨g, 0, none⟩) n cap) n sz cs :=
  ⟨_, cap, rfl, .inr ⟨g, 0, rfl, h1, h2, h3, fun i hi => by rw [Nat.zero_add]; exact ⟨by rw [r.cell (by omega), hf i hi], fun _ => r.frozen i⟩⟩⟩
end
theorem InR.ints {fz : Bool} {w : World} {lo hi : Nat} {s : Value} {zs : List Int} (r : InR fz w lo hi s zs.length 1 (fun i => .int .i64 (zs.getD i 0))) : Row w s zs := by
  obtain ⟨a, cap, rfl, hz⟩ := r
  refine ⟨a, cap, rfl, ?_⟩
  rcases hz with h0 | ⟨b, off, rfl, k1, k2, k3, hc⟩
  · exact .inl (List.length_eq_zero_iff.1 h0)
  · exact .inr ⟨b, off, rfl, by omega, fun i hi => (hc i (by omega)).1⟩
theorem InR.edges {fz : Bool} {w : World} {lo hi : Nat} {s : Value} {es : List Ed} (r : InR fz w lo hi s es.length 3 (cellE es)) : RowE w s es := by
  obtain ⟨a, cap, rfl, hz⟩ := r
  refine ⟨a, cap, rfl, ?_⟩
  rcases hz with h0 | ⟨b, off, rfl, k1, k2, k3, hc⟩
  · exact .inl (List.length_eq_zero_iff.1 h0)
  · refine .inr ⟨b, off, rfl, by omega, fun i hi => ?_⟩
    have e0 := (hc (i * 3) (by omega)).1
    have e1 := (hc (i * 3 + 1) (by omega)).1
    have e2 := (hc (i * 3 + 2) (by omega)).1
    rw [cellE0] at e0
    rw [cellE1] at e1
    rw [cellE2] at e2
    exact ⟨e0, by rw [Nat.add_assoc]; exact e1, by rw [Nat.add_assoc]; exact e2⟩
theorem InR.of_edges {w : World} {s : Value} {es : List Ed} (h : RowE w s es) : InR false w 0 w.heap.size s es.length 3 (cellE es) := by
  obtain ⟨a, cap, rfl, hz⟩ := h
  refine ⟨a, cap, rfl, ?_⟩
  rcases hz with h0 | ⟨b, off, rfl, hlt, hc⟩
  · exact .inl (by rw [h0]; rfl)
  · refine .inr ⟨b, off, rfl, Nat.zero_le _, hlt, Nat.le_refl _, fun i hi => ⟨?_, fun h => by cases h⟩⟩
    obtain ⟨c0, c1, c2⟩ := hc (i / 3) (by omega)
    have h3 : i % 3 = 0 ∨ i % 3 = 1 ∨ i % 3 = 2 := by omega
    rcases h3 with h | h | h
    · have e : i = i / 3 * 3 := by omega
      rw [e, cellE0]; exact c0
    · have e : i = i / 3 * 3 + 1 := by omega
      rw [e, cellE1, ← Nat.add_assoc]; exact c1
    · have e : i = i / 3 * 3 + 2 := by omega
      rw [e, cellE2, ← Nat.add_assoc]; exact c2
theorem NewE.inR {W w' : World} {v : Value} {es : List Ed} (h : NewE W w' v es) : InR true w' W.heap.size w'.heap.size v es.length 3 (cellE es) := by
  obtain ⟨g, cap, rfl, hg, hr⟩ := h
  exact InR.of_rowIs hr (Nat.le_refl _) (fun _ _ => rfl) cap hg.1 hr.lt (Nat.le_refl _)
/-- What is appended to a slice of the call's own. -/
theorem InR.of_own {w : World} {base : Nat} {t : TypeId} {v : Value} {n sz : Nat} {xs : List Value} (h : w.ownsRow base t sz v n xs) : InR true w base w.heap.size v n sz (fun i => xs.getD i undef) := by
  obtain ⟨hl, h⟩ := h
  rcases h with ⟨rfl, rfl⟩ | ⟨g, cap, cur, rfl, hb, hg, hn, hc, hs, ht⟩
  · exact ⟨none, 0, rfl, .inl rfl⟩
  · have hlt : g < w.heap.size := (Array.getElem?_eq_some_iff.1 hg).1
    refine ⟨_, cap, rfl, .inr ⟨g, 0, rfl, hb, hlt, Nat.le_refl _, fun i hi => ?_⟩⟩
    have hcs : i < cur.size := by rw [hs]; exact Nat.lt_of_lt_of_le hi (Nat.mul_le_mul_right _ hn)
    constructor
    · have hx : i < xs.length := by omega
      have e : xs[i] = cur[i] := by simp [← ht]
      have e2 : xs.getD i undef = cur[i] := by simp [List.getD, hx, e]
      show w.cell? ⟨g, 0 + i, none⟩ = some (xs.getD i undef)
      rw [e2]
      simp [World.cell?, hg, hcs]
    · intro _
      simp [World.frozen?, hg]
end Go.Proofs.Ytlgjcofpdaljnaa
namespace Go.Proofs.Ytlgjcofpdaljnaa
open Go.RowKit Go.BigFrame Go.Deep
set_option linter.unusedVariables false
set_option linter.unusedSimpArgs false

theorem Row.nil (w : World) : Row w (.slice none 0 0) [] := ⟨none, 0, rfl, .inl rfl⟩
theorem Row.at {w : World} {s : Value} {zs : List Int} (h : Row w s zs) {i : Nat} (hi : i < zs.length) : ∃ b off cap, s = .slice (some ⟨b, off, none⟩) zs.length cap ∧ b < w.heap.size ∧ ∀ j, j < zs.length → w.cell? ⟨b, off + j, none⟩ = some (.int .i64 (zs.getD j 0)) := by
  obtain ⟨a, cap, rfl, h⟩ := h
  rcases h with h | ⟨b, off, rfl, hb, hc⟩
  · rw [h] at hi; simp at hi
  · exact ⟨b, off, cap, rfl, hb, hc⟩
theorem RowE.at {w : World} {s : Value} {es : List Ed} (h : RowE w s es) {i : Nat} (hi : i < es.length) : ∃ b off cap, s = .slice (some ⟨b, off, none⟩) es.length cap ∧ b < w.heap.size ∧ ∀ j, j < es.length → w.cell? ⟨b, off + j * 3, none⟩ = some (.int .i64 (es.getD j (0, 0, 0)).1) ∧ w.cell? ⟨b, off + j * 3 + 1, none⟩ = some (.int .i64 (es.getD j (0, 0, 0)).2.1) ∧ w.cell? ⟨b, off + j * 3 + 2, none⟩ = some (.int .i64 (es.getD j (0, 0, 0)).2.2) := by
  obtain ⟨a, cap, rfl, h⟩ := h
  rcases h with h | ⟨b, off, rfl, hb, hc⟩
  · rw [h] at hi; simp at hi
  · exact ⟨b, off, cap, rfl, hb, hc⟩
end Go.Proofs.Ytlgjcofpdaljnaa
