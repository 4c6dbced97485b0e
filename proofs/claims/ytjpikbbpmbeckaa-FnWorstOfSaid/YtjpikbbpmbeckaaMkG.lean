/- Grids that are made row by row, by append: in the model. -/
import Derived.Test.YtjpikbbpmbeckaaRows8
import Derived.Test.YtjpikbbpmbeckaaMatT
import Derived.Test.YtjpikbbpmbeckaaBoxes
namespace Go.Proofs.Ytjpikbbpmbeckaa
open Go.RowKit Go.BigFrame Go.Deep
set_option linter.unusedVariables false
set_option linter.unusedSimpArgs false

theorem mk_heap {w : World} {base g n cap sz : Nat} {e : TypeId} {xs : List Value} (h : w.ownsRow base e sz (.slice (some ⟨g, 0, none⟩) n cap) n xs) : base ≤ g ∧ ∃ cs, w.heap[g]? = some (.cells cs e (0, 0)) := by
  rcases h.2 with ⟨h0, _⟩ | ⟨g', cap', cur, he, hbg, hgg, h1, h2, h3, h4⟩
  · cases h0
  · injection he with e1 e2 e3
    injection e1 with e1
    injection e1 with e1
    subst e1
    exact ⟨hbg, cur, hgg⟩
theorem mk_pos {w : World} {base n sz : Nat} {e : TypeId} {u : Value} {xs : List Value} (h : w.ownsRow base e sz u n xs) (hn : 0 < n) : ∃ g cap, u = .slice (some ⟨g, 0, none⟩) n cap ∧ base ≤ g ∧ g < w.heap.size ∧ n ≤ cap := by
  rcases h.2 with ⟨_, h0⟩ | ⟨g, cap, cur, rfl, hbg, hgg, h1, _⟩
  · omega
  · exact ⟨g, cap, rfl, hbg, (Array.getElem?_eq_some_iff.1 hgg).1, h1⟩
theorem mk_cell {w : World} {base g n cap sz : Nat} {e : TypeId} {xs : List Value} (h : w.ownsRow base e sz (.slice (some ⟨g, 0, none⟩) n cap) n xs) {j : Nat} {u : Value} (hu : xs[j]? = some u) : w.cell? ⟨g, j, none⟩ = some u ∧ w.frozen? ⟨g, j, none⟩ = false := by
  have h1 := h.cells (g := g) rfl j u hu
  have ha : Addr.add ⟨g, 0, none⟩ j = ⟨g, j, none⟩ := by rw [Go.WideShapes.add_plain, Nat.zero_add]
  rw [ha] at h1
  obtain ⟨_, cs, hh⟩ := mk_heap h
  exact ⟨h1, by simp [World.frozen?, hh]⟩
theorem own_grown {w w' : World} {base base' sz sz' m n : Nat} {e e' : TypeId} {u v : Value} {xs ys : List Value} (h : w.ownsRow base e sz u m xs) (ho : w.ownsRow base' e' sz' v n ys) (hg : w.grownBy w' v.ownBlock) (hne : e ≠ e') : w'.ownsRow base e sz u m xs := by
  refine ⟨h.1, ?_⟩
  rcases h.2 with h2 | ⟨g, cap, cur, rfl, hb, hgg, rest⟩
  · exact .inl h2
  · refine .inr ⟨g, cap, cur, rfl, hb, ?_, rest⟩
    rw [← hgg]
    refine hg.block g (Array.getElem?_eq_some_iff.1 hgg).1 (fun hb => ?_)
    rcases ho.2 with ⟨rfl, _⟩ | ⟨g', cap', cur', rfl, _, hgg', _⟩
    · simp [Value.ownBlock] at hb
    · simp [Value.ownBlock] at hb
      subst hb
      rw [hgg] at hgg'
      simp at hgg'
      exact hne hgg'.2

/-- A grid of which k rows are made. -/
def MkG (w : World) (base : Nat) (v : Value) (Z : List (List Int)) (k : Nat) : Prop :=
  ∃ (Ts : List Value) (B : Nat → Nat), Ts.length = k ∧ w.ownsRow base 23 1 v k Ts ∧ (∀ i, i < k → w.ownsRow base 3 1 (Ts.getD i undef) (Z.getD i []).length (cellsI (Z.getD i [])) ∧ (Ts.getD i undef).ownBlock = some (B i) ∧ B i < w.heap.size) ∧ ∀ i j, i < k → j < k → i ≠ j → B i ≠ B j
theorem MkG.slice {w : World} {base : Nat} {v : Value} {Z : List (List Int)} {k : Nat} (h : MkG w base v Z k) : ∃ a c, v = .slice a k c := by
  obtain ⟨Ts, B, _, h, _⟩ := h
  exact own_slice h
theorem MkG.ok {w : World} {base : Nat} {v : Value} {Z : List (List Int)} {k : Nat} (h : MkG w base v Z k) : okS v := by
  obtain ⟨Ts, B, _, h, _⟩ := h
  exact own_ok h
theorem MkG.nil (w : World) (base : Nat) (Z : List (List Int)) : MkG w base (.slice none 0 0) Z 0 :=
  ⟨[], fun _ => 0, rfl, ⟨rfl, .inl ⟨rfl, rfl⟩⟩, fun i hi => absurd hi (Nat.not_lt_zero _), fun i j hi => absurd hi (Nat.not_lt_zero _)⟩
theorem MkG.keep {w w' : World} {base : Nat} {v : Value} {Z : List (List Int)} {k : Nat} (h : MkG w base v Z k) (hb : Below w.heap.size w w') : MkG w' base v Z k := by
  obtain ⟨Ts, B, hl, ho, hr, hd⟩ := h
  exact ⟨Ts, B, hl, own_keepI ho hb, fun i hi => ⟨own_keepI (hr i hi).1 hb, (hr i hi).2.1, Nat.lt_of_lt_of_le (hr i hi).2.2 hb.size⟩, hd⟩
/-- A box is written. -/
theorem MkG.box {w : World} {base : Nat} {v : Value} {Z : List (List Int)} {k : Nat} (h : MkG w base v Z k) {bo o : Nat} {t : TypeId} {cs : Array Value} (hx : Box w bo t cs) (h1 : 23 ≠ t) (h2 : 3 ≠ t) (u : Value) : MkG (w.setCell ⟨bo, o, none⟩ u) base v Z k := by
  obtain ⟨Ts, B, hl, ho, hr, hd⟩ := h
  exact ⟨Ts, B, hl, hx.own ho h1, fun i hi => ⟨hx.own (hr i hi).1 h2, (hr i hi).2.1, by simpa using (hr i hi).2.2⟩, hd⟩
theorem own_base {w : World} {base base' sz n : Nat} {e : TypeId} {u : Value} {xs : List Value} (h : w.ownsRow base e sz u n xs) (hb : base' ≤ base) : w.ownsRow base' e sz u n xs := by
  refine ⟨h.1, ?_⟩
  rcases h.2 with h2 | ⟨g, cap, cur, rfl, hbg, rest⟩
  · exact .inl h2
  · exact .inr ⟨g, cap, cur, rfl, Nat.le_trans hb hbg, rest⟩
/-- What holds of the slices of the rows. -/
def MkT (w : World) (base : Nat) (v : Value) (Z : List (List Int)) (k : Nat) (Ts : List Value) : Prop :=
  ∃ B : Nat → Nat, Ts.length = k ∧ w.ownsRow base 23 1 v k Ts ∧ (∀ i, i < k → w.ownsRow base 3 1 (Ts.getD i undef) (Z.getD i []).length (cellsI (Z.getD i [])) ∧ (Ts.getD i undef).ownBlock = some (B i) ∧ B i < w.heap.size) ∧ ∀ i j, i < k → j < k → i ≠ j → B i ≠ B j
theorem MkG.slices {w : World} {base : Nat} {v : Value} {Z : List (List Int)} {k : Nat} (h : MkG w base v Z k) : ∃ Ts, MkT w base v Z k Ts := h
theorem MkT.own {w : World} {base : Nat} {v : Value} {Z : List (List Int)} {k : Nat} {Ts : List Value} (h : MkT w base v Z k Ts) : w.ownsRow base 23 1 v k Ts := by
  obtain ⟨B, _, h, _⟩ := h
  exact h
/-- The next row is appended: ws: the world in which the row was begun, w: the present one, w1: with the slice of the one row, w6: behind the append. -/
theorem mk_step {ws w w1 w6 : World} {base : Nat} {v v' : Value} {Z : List (List Int)} {k : Nat} {Ts : List Value} (hs : MkT ws base v Z k Ts)
    (hb : Below ws.heap.size ws w) {u : Value} (hrow : w.ownsRow ws.heap.size 3 1 u (Z.getD k []).length (cellsI (Z.getD k []))) (h0 : 0 < (Z.getD k []).length) (hbase : base ≤ ws.heap.size)
    (hb1 : Below w.heap.size w w1) (hown : w6.ownsRow base 23 1 v' (k + 1) (Ts ++ [u])) (hg : w1.grownBy w6 v.ownBlock) : MkG w6 base v' Z (k + 1) := by
  obtain ⟨B, hl, ho, hr, hd⟩ := hs
  obtain ⟨g, cap, rfl, hge, hglt, hgc⟩ := mk_pos hrow h0
  have ho1 := own_keepI (own_keepI ho hb) hb1
  have hrow1 := own_keepI hrow hb1
  refine ⟨_, fun i => if i = k then g else B i, by rw [List.length_append, hl]; rfl, hown, fun i hi => ?_, fun i j hi hj hne => ?_⟩
  · by_cases e : i = k
    · subst e
      have hgd : (Ts ++ [Value.slice (some ⟨g, 0, none⟩) (Z.getD i []).length cap]).getD i undef = .slice (some ⟨g, 0, none⟩) (Z.getD i []).length cap := by
        unfold List.getD
        rw [List.getElem?_append_right (by omega), hl, Nat.sub_self]
        rfl
      rw [hgd]
      simp only [if_true]
      refine ⟨own_grown (own_base hrow1 hbase) ho1 hg (by decide), rfl, Nat.lt_of_lt_of_le hglt (Nat.le_trans hb1.size hg.size)⟩
    · have hi2 : i < k := by omega
      have hgd : (Ts ++ [Value.slice (some ⟨g, 0, none⟩) (Z.getD k []).length cap]).getD i undef = Ts.getD i undef := by
        unfold List.getD
        rw [List.getElem?_append_left (by omega)]
      rw [hgd]
      simp only [e, if_false]
      obtain ⟨r1, r2, r3⟩ := hr i hi2
      exact ⟨own_grown (own_keepI (own_keepI r1 hb) hb1) ho1 hg (by decide), r2, Nat.lt_of_lt_of_le r3 (Nat.le_trans hb.size (Nat.le_trans hb1.size hg.size))⟩
  · by_cases e : i = k
    · have e2 : j ≠ k := by omega
      simp only [e, e2, if_true, if_false]
      have := (hr j (by omega)).2.2
      omega
    · by_cases e2 : j = k
      · simp only [e, e2, if_true, if_false]
        have := (hr i (by omega)).2.2
        omega
      · simp only [e, e2, if_false]
        exact hd i j (by omega) (by omega) hne
theorem MkG.all {w : World} {base : Nat} {v : Value} {Z : List (List Int)} (h : MkG w base v Z Z.length) (h0 : ∀ i, i < Z.length → 0 < (Z.getD i []).length) : OwnG w base w.heap.size v Z := by
  obtain ⟨Ts, B, hl, ho, hr, hd⟩ := h
  by_cases hz : Z.length = 0
  · have hz2 := List.length_eq_zero_iff.1 hz
    subst hz2
    rcases ho.2 with ⟨rfl, _⟩ | ⟨g, cap, cur, rfl, hb, hgg, hc, _⟩
    · exact .inl ⟨rfl, rfl⟩
    · exact .inr ⟨g, cap, fun _ => undef, fun _ => 0, rfl, hc, ⟨⟨hb, (Array.getElem?_eq_some_iff.1 hgg).1, Nat.le_refl _⟩, fun i hi => absurd hi (Nat.not_lt_zero _), fun i hi => absurd hi (Nat.not_lt_zero _), fun i hi => absurd hi (Nat.not_lt_zero _), fun i hi => absurd hi (Nat.not_lt_zero _), fun i j hi => absurd hi (Nat.not_lt_zero _)⟩⟩
  · obtain ⟨g, cap, rfl, hbg, hglt, hc⟩ := mk_pos ho (by omega)
    refine .inr ⟨g, cap, fun i => Ts.getD i undef, B, rfl, hc, ⟨⟨hbg, hglt, Nat.le_refl _⟩, fun i hi => ?_, fun i hi => ?_, fun i hi => own_ok (hr i hi).1, fun i hi => ?_, hd⟩⟩
    · have hti : Ts[i]? = some (Ts.getD i undef) := by simp [List.getD, hl, hi]
      exact mk_cell ho hti
    · obtain ⟨r1, r2, r3⟩ := hr i hi
      obtain ⟨b, c, hT, hbb, hlt, hcc⟩ := mk_pos r1 (h0 i hi)
      rw [hT] at r1 r2 ⊢
      have hbB : b = B i := by simpa [Value.ownBlock] using r2
      subst hbB
      refine ⟨_, c, rfl, .inr ⟨B i, 0, rfl, Nat.le_refl _, Nat.lt_succ_self _, hlt, fun j hj => ?_⟩⟩
      have hj2 : j < (Z.getD i []).length := by omega
      have hu : (cellsI (Z.getD i []))[j]? = some (cellI (Z.getD i []) j) := by
        unfold cellsI cellI
        rw [List.getElem?_map, List.getElem?_eq_getElem hj2, getD_of hj2]
        rfl
      rw [Nat.zero_add]
      exact ⟨(mk_cell r1 hu).1, fun _ => (mk_cell r1 hu).2⟩
    · obtain ⟨r1, r2, r3⟩ := hr i hi
      obtain ⟨b, c, hT, hbb, hlt, hcc⟩ := mk_pos r1 (h0 i hi)
      rw [hT] at r1 r2
      have hbB : b = B i := by simpa [Value.ownBlock] using r2
      subst hbB
      refine ⟨hbb, r3, fun e => ?_⟩
      obtain ⟨_, cs1, hh1⟩ := mk_heap r1
      obtain ⟨_, cs2, hh2⟩ := mk_heap ho
      rw [e, hh2] at hh1
      simp at hh1
theorem cellsI_take (zs : List Int) {k : Nat} (h : k < zs.length) : cellsI (zs.take (k + 1)) = cellsI (zs.take k) ++ [.int .i64 (zs.getD k 0)] := by
  unfold cellsI
  rw [List.take_succ_eq_append_getElem h, List.map_append, getD_of h]
  rfl
end Go.Proofs.Ytjpikbbpmbeckaa
