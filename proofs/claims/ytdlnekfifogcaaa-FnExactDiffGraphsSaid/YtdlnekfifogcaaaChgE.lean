/- Slices of changes that the laws copy, compare, measure, mark and hold. -/
import Derived.Test.YtdlnekfifogcaaaChgL
import Derived.Test.YtdlnekfifogcaaaOpenV
namespace Go.Proofs.Ytdlnekfifogcaaa
open Go.RowKit Go.BigFrame Go.Deep
set_option linter.unusedVariables false
set_option linter.unusedSimpArgs false

/-- The cells of a row of changes. -/
def cellCh (cs : List Ch) (j : Nat) : Value :=
  if j % 4 = 0 then .bool (cs.getD (j / 4) chZ).1 else .int .i64 (if j % 4 = 1 then (cs.getD (j / 4) chZ).2.1 else if j % 4 = 2 then (cs.getD (j / 4) chZ).2.2.1 else (cs.getD (j / 4) chZ).2.2.2)
theorem cellCh0 (cs : List Ch) (i : Nat) : cellCh cs (i * 4) = .bool (cs.getD i chZ).1 := by
  have h1 : i * 4 % 4 = 0 := by omega
  have h2 : i * 4 / 4 = i := by omega
  simp only [cellCh, h1, h2, if_pos]
theorem cellCh1 (cs : List Ch) (i : Nat) : cellCh cs (i * 4 + 1) = .int .i64 (cs.getD i chZ).2.1 := by
  have h1 : (i * 4 + 1) % 4 = 1 := by omega
  have h2 : (i * 4 + 1) / 4 = i := by omega
  simp [cellCh, h1, h2]
theorem cellCh2 (cs : List Ch) (i : Nat) : cellCh cs (i * 4 + 2) = .int .i64 (cs.getD i chZ).2.2.1 := by
  have h1 : (i * 4 + 2) % 4 = 2 := by omega
  have h2 : (i * 4 + 2) / 4 = i := by omega
  simp [cellCh, h1, h2]
theorem cellCh3 (cs : List Ch) (i : Nat) : cellCh cs (i * 4 + 3) = .int .i64 (cs.getD i chZ).2.2.2 := by
  have h1 : (i * 4 + 3) % 4 = 3 := by omega
  have h2 : (i * 4 + 3) / 4 = i := by omega
  simp [cellCh, h1, h2]
/-- A slice of changes that reads as a list. -/
def RowCh (w : World) (s : Value) (cs : List Ch) : Prop := InR false w 0 w.heap.size s cs.length 4 (cellCh cs)
theorem RowCh.keep {w w' : World} {s : Value} {cs : List Ch} (h : RowCh w s cs) (hb : Below w.heap.size w w') : RowCh w' s cs := (InR.keep h hb).wider (Nat.le_refl _) hb.size (Nat.le_refl _)
theorem InR.changes {fz : Bool} {w : World} {lo hi : Nat} {s : Value} {cs : List Ch} (r : InR fz w lo hi s cs.length 4 (cellCh cs)) : RowCh w s cs := by
  obtain ⟨a, cap, rfl, hz⟩ := r
  refine ⟨a, cap, rfl, ?_⟩
  rcases hz with h0 | ⟨b, off, rfl, k1, k2, k3, hc⟩
  · exact .inl h0
  · exact .inr ⟨b, off, rfl, Nat.zero_le _, by omega, Nat.le_refl _, fun i hi => ⟨(hc i hi).1, fun h => by cases h⟩⟩
theorem RowCh.at {w : World} {s : Value} {cs : List Ch} (h : RowCh w s cs) {i : Nat} (hi : i < cs.length) : ∃ b off cap, s = .slice (some ⟨b, off, none⟩) cs.length cap ∧ b < w.heap.size ∧ ∀ j, j < cs.length → w.cell? ⟨b, off + j * 4, none⟩ = some (.bool (cs.getD j chZ).1) ∧ w.cell? ⟨b, off + j * 4 + 1, none⟩ = some (.int .i64 (cs.getD j chZ).2.1) ∧ w.cell? ⟨b, off + j * 4 + 2, none⟩ = some (.int .i64 (cs.getD j chZ).2.2.1) ∧ w.cell? ⟨b, off + j * 4 + 3, none⟩ = some (.int .i64 (cs.getD j chZ).2.2.2) := by
  obtain ⟨a, cap, rfl, hz⟩ := h
  rcases hz with h0 | ⟨b, off, rfl, _, hb, _, hc⟩
  · omega
  · refine ⟨b, off, cap, rfl, hb, fun j hj => ?_⟩
    have e0 := (hc (j * 4) (by omega)).1
    have e1 := (hc (j * 4 + 1) (by omega)).1
    have e2 := (hc (j * 4 + 2) (by omega)).1
    have e3 := (hc (j * 4 + 3) (by omega)).1
    rw [cellCh0] at e0
    rw [cellCh1, ← Nat.add_assoc] at e1
    rw [cellCh2, ← Nat.add_assoc] at e2
    rw [cellCh3, ← Nat.add_assoc] at e3
    exact ⟨e0, e1, e2, e3⟩
theorem RowCh.nil (w : World) : RowCh w (.slice none 0 0) [] := ⟨none, 0, rfl, .inl rfl⟩
theorem RowCh.slice {w : World} {s : Value} {cs : List Ch} (h : RowCh w s cs) : ∃ a c, s = .slice a cs.length c := by
  obtain ⟨a, c, rfl, _⟩ := h
  exact ⟨a, c, rfl⟩
/-- The zero of a change's cells. -/
def zeroCh (j : Nat) : Value := if j % 4 = 0 then .bool false else .int .i64 0
/-- A row of changes that is being made. -/
def partCh (cs : List Ch) (k : Nat) : Nat → Value := fun j => if j < k * 4 then cellCh cs j else zeroCh j
theorem info_change : (Try.prog.info? 71).map (fun i => (i.zero, i.size, i.bytes)) = some (some (.agg #[.bool false, .int .i64 0, .int .i64 0, .int .i64 0]), 4, 32) := by kernel_rfl
theorem made_partCh (cs : List Ch) (w : World) (t : TypeId) (n : Nat) : (w.alloc (.cells (madeCells #[.bool false, .int .i64 0, .int .i64 0, .int .i64 0] (n * 4)) t)).rowIs w.heap.size t (n * 4) (partCh cs 0) :=
  ⟨_, blk_alloc_new _ _, size_madeCells _ _, fun i hi => by
    have h3 : i % 4 = 0 ∨ i % 4 = 1 ∨ i % 4 = 2 ∨ i % 4 = 3 := by omega
    rcases h3 with h | h | h | h <;> simp [madeCells, hi, partCh, zeroCh, h]⟩
theorem partCh_step (cs : List Ch) (k j : Nat) : partCh cs (k + 1) j = if j = k * 4 + 3 then .int .i64 (cs.getD k chZ).2.2.2 else if j = k * 4 + 2 then .int .i64 (cs.getD k chZ).2.2.1 else if j = k * 4 + 1 then .int .i64 (cs.getD k chZ).2.1 else if j = k * 4 then .bool (cs.getD k chZ).1 else partCh cs k j := by
  unfold partCh
  by_cases h3 : j = k * 4 + 3
  · subst h3; rw [if_pos rfl, if_pos (by omega), cellCh3]
  · rw [if_neg h3]
    by_cases h2 : j = k * 4 + 2
    · subst h2; rw [if_pos rfl, if_pos (by omega), cellCh2]
    · rw [if_neg h2]
      by_cases h1 : j = k * 4 + 1
      · subst h1; rw [if_pos rfl, if_pos (by omega), cellCh1]
      · rw [if_neg h1]
        by_cases h0 : j = k * 4
        · subst h0; rw [if_pos rfl, if_pos (by omega), cellCh0]
        · rw [if_neg h0]
          by_cases hk : j < k * 4
          · rw [if_pos hk, if_pos (by omega)]
          · rw [if_neg hk, if_neg (by omega)]
/-- A slice of changes in a block that is new since a world. -/
def NewCh (W w' : World) (v : Value) (cs : List Ch) : Prop :=
  ∃ g cap, v = .slice (some ⟨g, 0, none⟩) cs.length cap ∧ (W.heap.size ≤ g ∧ cs.length ≤ cap) ∧ w'.rowIs g 71 (cs.length * 4) (cellCh cs)
theorem NewCh.inR {W w' : World} {v : Value} {cs : List Ch} (h : NewCh W w' v cs) : InR true w' W.heap.size w'.heap.size v cs.length 4 (cellCh cs) := by
  obtain ⟨g, cap, rfl, hg, hr⟩ := h
  exact InR.of_rowIs hr (Nat.le_refl _) (fun _ _ => rfl) cap hg.1 hr.lt (Nat.le_refl _)
theorem NewCh.row {W w' : World} {v : Value} {cs : List Ch} (h : NewCh W w' v cs) : RowCh w' v cs := h.inR.changes
theorem NewCh.ok {W w' : World} {v : Value} {cs : List Ch} (h : NewCh W w' v cs) : okS v := by
  obtain ⟨g, cap, rfl, hg, hr⟩ := h
  intro a n c e
  injection e with e1 e2 e3
  subst e1 e2 e3
  exact ⟨hg.2, (fun h => by cases h), fun x h => by injection h with h; rw [← h]⟩

theorem toChange (c : Bool) (x y z : Int) (w : World) :
    Calls Try.prog 46 #[.agg #[.bool c, .int .i64 x, .int .i64 y, .int .i64 z]] w fun e w' => e = .returned (.agg #[.bool c, .int .i64 x, .int .i64 y, .int .i64 z]) ∧ Below w.heap.size w w' := by
  have hB : ∀ A B C, Below w.heap.size w (((w.alloc A).alloc B).alloc C) := fun A B C => (((Below.refl _ _).alloc (Nat.le_refl _) _).alloc (by simp) _).alloc (by simp; omega) _
  have HB := Lib.hid hB
  clear hB
  go_enter Try.func46, Try.ntmps46
  go_wp2_with (go_at_call 64; (with_reducible refine (toEdge x y z _).mono ?_); rintro e w1 ⟨rfl, hb1⟩; have x0 := hb1.cell (p := ⟨w.heap.size + 1 + 1, 0, none⟩) (by simp); have x1 := hb1.cell (p := ⟨w.heap.size + 1 + 1, 1, none⟩) (by simp); have x2 := hb1.cell (p := ⟨w.heap.size + 1 + 1, 2, none⟩) (by simp); have x3 := hb1.cell (p := ⟨w.heap.size + 1 + 1, 3, none⟩) (by simp); have z0 := hb1.cell (p := ⟨w.heap.size + 1, 0, none⟩) (by simp); have z1 := hb1.cell (p := ⟨w.heap.size + 1, 1, none⟩) (by simp); have z2 := hb1.cell (p := ⟨w.heap.size + 1, 2, none⟩) (by simp); have z3 := hb1.cell (p := ⟨w.heap.size + 1, 3, none⟩) (by simp); have y1 := hb1.frozen (p := ⟨w.heap.size + 1 + 1, 1, none⟩) (by simp); have y2 := hb1.frozen (p := ⟨w.heap.size + 1 + 1, 2, none⟩) (by simp); have y3 := hb1.frozen (p := ⟨w.heap.size + 1 + 1, 3, none⟩) (by simp); have u0 := hb1.frozen (p := ⟨w.heap.size + 1, 0, none⟩) (by simp); have u1 := hb1.frozen (p := ⟨w.heap.size + 1, 1, none⟩) (by simp); have u2 := hb1.frozen (p := ⟨w.heap.size + 1, 2, none⟩) (by simp); have u3 := hb1.frozen (p := ⟨w.heap.size + 1, 3, none⟩) (by simp))
  try simp only [Exit.inBlock, Exit.then]
  refine bodyPost_ret (v := .agg #[.bool c, .int .i64 x, .int .i64 y, .int .i64 z]) ?_ rfl ?_
  · rw [results_cell1 rfl]
    go_simp
  refine ⟨rfl, ?_⟩
  have h9 := bel_trans (HB.out _ _ _) hb1
  exact (((((((h9.setCell (by simp <;> omega) _).setCell (by simp <;> omega) _).setCell (by simp <;> omega) _).setCell (by simp <;> omega) _).setCell (by simp <;> omega) _).setCell (by simp <;> omega) _).setCell (by simp <;> omega) _)

theorem toChangeS (cs : List Ch) (s : Value) (w : World) (hr : RowCh w s cs) (hl : cs.length ≤ 1048576) :
    Calls Try.prog 14 #[s] w fun e w' => ∃ s', e = .returned s' ∧ NewCh w w' s' cs ∧ Below w.heap.size w w' := by
  have hR := Lib.hid hr
  obtain ⟨a, cap, rfl⟩ := hr.slice
  have hmk := run_make_rowN (P := Try.prog) 33 71 (.agg #[.bool false, .int .i64 0, .int .i64 0, .int .i64 0]) #[.bool false, .int .i64 0, .int .i64 0, .int .i64 0] 4 32 Try.underlying33 info_change (by rfl) .i64 .i64 cs.length (by omega) (by omega)
  clear hr
  go_enter Try.func14, Try.ntmps14
  go_wp2
  clear hmk
  go_loopw [4] (fun c wr => ∃ k : Nat, k ≤ cs.length ∧ c = .int .i64 k ∧ wr.rowIs w.heap.size 71 (cs.length * 4) (partCh cs k) ∧ Below w.heap.size w wr) (fun c _ => cs.length - (intOf c).toNat)
  case atStart => exact ⟨0, Nat.zero_le _, rfl, made_partCh cs _ _ _, (Below.refl _ _).alloc (Nat.le_refl _) _⟩
  case round =>
    obtain ⟨k, hk, rfl, hrow, hbel⟩ := hrel
    by_cases hlt : k < cs.length
    · have hlt' : (k : Int) < cs.length := by omega
      obtain ⟨b, off, cap', he, hb, hc⟩ := hR.out.at hlt
      injection he with he1 he2 he3
      subst he1 he3
      obtain ⟨u, x, y, z, hx⟩ : ∃ u x y z, (u, x, y, z) = cs.getD k chZ := ⟨_, _, _, _, rfl⟩
      obtain ⟨c0, c1, c2, c3⟩ := hc k hlt
      rw [← hbel.cell (p := ⟨b, _, none⟩) hb, ← hx] at c0 c1 c2 c3
      simp only at c0 c1 c2 c3
      have HX := Lib.hid hx
      have HR := Lib.hid hrow
      clear hc hx hrow
      have s0 : wr.cell? ⟨w.heap.size, k * 4, none⟩ = some (partCh cs k (k * 4)) := HR.out.cell (by omega)
      go_wp2_with (go_at_call 46; (with_reducible refine (toChange u x y z _).mono ?_); rintro e w1 ⟨rfl, hb1⟩; have HR1 := Lib.hid (HR.out.of_block (hb1.block _ HR.out.lt)); have t0 := HR1.out.cell (i := k * 4) (by omega); have t1 := HR1.out.cell (i := k * 4 + 1) (by omega); have t2 := HR1.out.cell (i := k * 4 + 2) (by omega); have t3 := HR1.out.cell (i := k * 4 + 3) (by omega); have u0 := HR1.out.frozen (k * 4); have u1 := HR1.out.frozen (k * 4 + 1); have u2 := HR1.out.frozen (k * 4 + 2); have u3 := HR1.out.frozen (k * 4 + 3))
      go_roundw
      case rel => exact ⟨k + 1, by omega, by go_num, ((((HR1.out.set _ _).set _ _).set _ _).set _ _).congr (fun i hi => by rw [partCh_step, ← HX.out]), (((((bel_trans hbel hb1).setCell (Nat.le_refl _) _).setCell (Nat.le_refl _) _).setCell (Nat.le_refl _) _).setCell (Nat.le_refl _) _)⟩
      case measure => simp [intOf]; omega
    · have hke : k = cs.length := by omega
      have hkk : ¬ ((k : Int) < cs.length) := by omega
      have HK := Lib.hid hke
      clear hke
      go_wp2
      go_ret
      exact ⟨_, rfl, ⟨_, _, rfl, ⟨Nat.le_refl _, Nat.le_refl _⟩, hrow.congr (fun i hi => by unfold partCh; rw [if_pos (by rw [HK.out]; exact hi)])⟩, hbel⟩

theorem eqChange (c : Bool) (x y z : Int) (w : World) :
    Calls Try.prog 48 #[.agg #[.bool c, .int .i64 x, .int .i64 y, .int .i64 z], .agg #[.bool c, .int .i64 x, .int .i64 y, .int .i64 z]] w fun e w' => e = .returned (.bool true) ∧ Below w.heap.size w w' := by
  have hB : ∀ (A B : Obj), Below w.heap.size w ((w.alloc A).alloc B) := fun A B => ((Below.refl _ _).alloc (Nat.le_refl _) _).alloc (by simp) _
  have HB := Lib.hid hB
  clear hB
  go_enter Try.func48, Try.ntmps48
  go_wp2_with (go_at_call 65; (with_reducible refine (eqEdge x y z _).mono ?_); rintro e w1 ⟨rfl, hb1⟩)
  go_ret
  exact ⟨rfl, bel_trans (HB.out _ _) hb1⟩

theorem eqChangeS (cs : List Ch) (s t : Value) (w : World) (hs : RowCh w s cs) (ht : RowCh w t cs) (hl : cs.length ≤ 1048576) :
    Calls Try.prog 17 #[s, t] w fun e w' => e = .returned (.bool true) ∧ Below w.heap.size w w' := by
  have hS := Lib.hid hs
  have hT := Lib.hid ht
  obtain ⟨a, cap, rfl⟩ := hs.slice
  obtain ⟨a2, cap2, rfl⟩ := ht.slice
  clear hs ht
  go_enter Try.func17, Try.ntmps17
  go_wp2
  go_loopw [5] (fun c wr => ∃ k : Nat, k ≤ cs.length ∧ c = .int .i64 k ∧ Below w.heap.size w wr) (fun c _ => cs.length - (intOf c).toNat)
  case atStart => exact ⟨0, Nat.zero_le _, rfl, Below.refl _ _⟩
  case round =>
    obtain ⟨k, hk, rfl, hbel⟩ := hrel
    by_cases hlt : k < cs.length
    · have hlt' : (k : Int) < cs.length := by omega
      obtain ⟨b, off, cap', he, hb, hc⟩ := hS.out.at hlt
      injection he with he1 he2 he3
      subst he1 he3
      obtain ⟨b2, off2, cap2', he, hb2, hc2⟩ := hT.out.at hlt
      injection he with he1 he2 he3
      subst he1 he3
      obtain ⟨u, x, y, z, hx⟩ : ∃ u x y z, (u, x, y, z) = cs.getD k chZ := ⟨_, _, _, _, rfl⟩
      have h1 := hc k hlt
      have h2 := hc2 k hlt
      rw [← hx] at h1 h2
      simp only at h1 h2
      have ff : ∀ w', Below wr.heap.size wr w' → w'.cell? ⟨b, off + k * 4, none⟩ = some (.bool u) ∧ w'.cell? ⟨b, off + k * 4 + 1, none⟩ = some (.int .i64 x) ∧ w'.cell? ⟨b, off + k * 4 + 2, none⟩ = some (.int .i64 y) ∧ w'.cell? ⟨b, off + k * 4 + 3, none⟩ = some (.int .i64 z) ∧
          w'.cell? ⟨b2, off2 + k * 4, none⟩ = some (.bool u) ∧ w'.cell? ⟨b2, off2 + k * 4 + 1, none⟩ = some (.int .i64 x) ∧ w'.cell? ⟨b2, off2 + k * 4 + 2, none⟩ = some (.int .i64 y) ∧ w'.cell? ⟨b2, off2 + k * 4 + 3, none⟩ = some (.int .i64 z) := by
        intro w' h
        have hB := bel_trans hbel h
        exact ⟨(hB.cell (p := ⟨b, _, none⟩) hb).trans h1.1, (hB.cell (p := ⟨b, _, none⟩) hb).trans h1.2.1, (hB.cell (p := ⟨b, _, none⟩) hb).trans h1.2.2.1, (hB.cell (p := ⟨b, _, none⟩) hb).trans h1.2.2.2, (hB.cell (p := ⟨b2, _, none⟩) hb2).trans h2.1, (hB.cell (p := ⟨b2, _, none⟩) hb2).trans h2.2.1, (hB.cell (p := ⟨b2, _, none⟩) hb2).trans h2.2.2.1, (hB.cell (p := ⟨b2, _, none⟩) hb2).trans h2.2.2.2⟩
      have FF := Lib.hid ff
      clear hc hc2 hx h1 h2 ff
      go_wp2
      refine wp_region_below (by kernel_rfl) (by kernel_rfl) ?_
      repeat (go_big_quiet_step ((intro hw; first | with_reducible rfl | (obtain ⟨f0, f1, f2, f3, g0, g1, g2, g3⟩ := FF.out _ hw; simp only [f0, f1, f2, f3, g0, g1, g2, g3, Result.andThen]; first | exact ⟨trivial, rfl⟩ | exact ⟨rfl, rfl⟩) | (go_at_call 48; exact quietB (eqChange _ _ _ _ _) hw))))
      refine wpQuiet_nil ?_
      intro w1 hw1
      go_wp2
      go_roundw
      case rel => first | exact ⟨k + 1, by omega, by go_num, bel_trans hbel hw1⟩ | ((repeat apply Exists.intro); exact ⟨⟨k + 1, by omega, by go_num, bel_trans hbel hw1⟩, rfl⟩)
      case measure => simp [intOf]; omega
    · have hke : k = cs.length := by omega
      have hkk : ¬ ((k : Int) < cs.length) := by omega
      have HK := Lib.hid hke
      clear hke
      go_wp2
      go_ret
      exact ⟨rfl, hbel⟩

theorem szChangeS (len cap : Nat) (a : Option Addr) (l : Nat) (w : World) (hl : l ≤ 1048576) (hn : len ≤ 9223372036854775807) :
    Calls Try.prog 11 #[.slice a len cap, .int .i64 l] w fun e w' => e = .returned (.int .i64 (szR l len)) ∧ Below w.heap.size w w' := by
  by_cases h : len ≤ l
  · have h1 : ¬ ((l : Int) - len < 0) := by omega
    have e0 : szR l len = (l : Int) - len := by rw [szR, if_pos h]; omega
    rw [e0]
    clear e0
    go_enter Try.func11, Try.ntmps11
    go_wp2
    go_ret
    exact ⟨rfl, Below.refl _ _⟩
  · have h1 : ((l : Int) - len < 0) := by omega
    have e0 : szR l len = -1 := by rw [szR, if_neg h]
    rw [e0]
    clear e0
    go_enter Try.func11, Try.ntmps11
    go_wp2
    go_ret
    exact ⟨rfl, Below.refl _ _⟩

/-- What a marked row of changes holds. -/
def mk3 (x : Int) : Bool := x % 3 == 0
def markedC (k : Int) : Nat → Value := fun j => if j % 4 = 0 then .bool (mk3 (k + j)) else .int .i64 (k + j)
/-- A row that is being marked, in its block. -/
def MidC (w : World) (b off N c : Nat) (k : Int) (cs : Nat → Value) : Prop :=
  b < w.heap.size ∧ ∀ i, i < N → w.cell? ⟨b, off + i, none⟩ = some (if i < c then markedC k i else cs i) ∧ w.frozen? ⟨b, off + i, none⟩ = false
theorem MidC.set {w : World} {b off N c : Nat} {k : Int} {cs : Nat → Value} (h : MidC w b off N c k cs) (hc : c < N) (v : Value) (hv : v = markedC k c) : MidC (w.setCell ⟨b, off + c, none⟩ v) b off N (c + 1) k cs := by
  subst hv
  obtain ⟨hb, hh⟩ := h
  refine ⟨by simpa using hb, fun i hi => ?_⟩
  obtain ⟨h1, h2⟩ := hh i hi
  constructor
  · by_cases e : i = c
    · subst e
      rw [if_pos (by omega), World.cell?_setCell_same _ _ _ h1]
    · have ne : (⟨b, off + c, none⟩ : Addr) ≠ ⟨b, off + i, none⟩ := by intro h; injection h with _ h _; omega
      rw [World.cell?_setCell_other _ _ _ _ ne, h1]
      by_cases h3 : i < c
      · rw [if_pos h3, if_pos (by omega)]
      · rw [if_neg h3, if_neg (by omega)]
  · rw [World.frozen?_setCell]; exact h2

set_option maxHeartbeats 1000000 in
theorem markChangeS (k : Nat) (w : World) (lo hi n : Nat) (s : Value) (cs : Nat → Value) (h : InR true w lo hi s n 4 cs) (hn : n ≤ 1048576) (hk : k ≤ 1073741824) :
    Calls Try.prog 21 #[s, .int .i64 (k : Int)] w fun e w' => e = .returned (.int .i64 ((k + n * 4 : Nat) : Int)) ∧ InR true w' lo hi s n 4 (markedC k) ∧ Chg lo hi w w' := by
  obtain ⟨a, cap, rfl, hz0⟩ := h
  by_cases h0 : n = 0
  · subst h0
    clear hz0
    go_enter Try.func21, Try.ntmps21
    go_wp2
    go_loopw [5, 1] (fun c d wr => c = .int .i64 0 ∧ d = .int .i64 (k : Int) ∧ wr = w) (fun c _ _ => 0)
    case atStart => exact ⟨rfl, rfl, rfl⟩
    case round =>
      obtain ⟨rfl, rfl, rfl⟩ := hrel
      go_wp2
      go_ret
      exact ⟨by simp, ⟨a, cap, rfl, .inl rfl⟩, Chg.refl _ _ _⟩
  rcases hz0 with h1 | ⟨b, off, rfl, hb1, hb2, hb3, hc⟩
  · exact absurd h1 h0
  have hm : MidC w b off (n * 4) 0 k cs := ⟨by omega, fun i hi => ⟨by rw [if_neg (by omega)]; exact (hc i hi).1, (hc i hi).2 rfl⟩⟩
  have HM := Lib.hid hm
  clear hc hm
  go_enter Try.func21, Try.ntmps21
  go_wp2
  go_loopw [5, 1] (fun c d wr => ∃ i : Nat, i ≤ n ∧ c = .int .i64 i ∧ d = .int .i64 ((k + i * 4 : Nat) : Int) ∧ MidC wr b off (n * 4) (i * 4) k cs ∧ Chg lo hi w wr) (fun c _ _ => n - (intOf c).toNat)
  case atStart => exact ⟨0, Nat.zero_le _, rfl, rfl, HM.out, Chg.refl _ _ _⟩
  case round =>
    obtain ⟨i, hi, rfl, rfl, hmid, hchg⟩ := hrel
    have H1 := Lib.hid hmid
    by_cases hlt : i < n
    · have hlt' : (i : Int) < n := by omega
      have c0 := (hmid.2 (i * 4) (by omega)).1
      have f0 := (hmid.2 (i * 4) (by omega)).2
      have c1 := (hmid.2 (i * 4 + 1) (by omega)).1
      have f1 := (hmid.2 (i * 4 + 1) (by omega)).2
      have c2 := (hmid.2 (i * 4 + 2) (by omega)).1
      have f2 := (hmid.2 (i * 4 + 2) (by omega)).2
      have c3 := (hmid.2 (i * 4 + 3) (by omega)).1
      have f3 := (hmid.2 (i * 4 + 3) (by omega)).2
      rw [← Nat.add_assoc] at c1 f1 c2 f2 c3 f3
      clear hmid
      go_wp2
      go_roundw
      case rel =>
        refine ⟨i + 1, by omega, by go_num, by go_num, ?_, (((hchg.setCell (by omega) (by omega) _).setCell (by omega) (by omega) _).setCell (by omega) (by omega) _).setCell (by omega) (by omega) _⟩
        have m0 := H1.out.set (show i * 4 < n * 4 by omega) (.bool (((k : Int) + (i : Int) * 4) % 3 == 0)) (by simp [markedC, mk3])
        have m1 := m0.set (show i * 4 + 1 < n * 4 by omega) (.int .i64 ((k : Int) + (i : Int) * 4 + 1)) (by unfold markedC; rw [if_neg (by omega)]; first | (congr 1; done) | (congr 1; omega))
        have m2 := m1.set (show i * 4 + 1 + 1 < n * 4 by omega) (.int .i64 ((k : Int) + (i : Int) * 4 + 1 + 1)) (by unfold markedC; rw [if_neg (by omega)]; first | (congr 1; done) | (congr 1; omega))
        have m3 := m2.set (show i * 4 + 1 + 1 + 1 < n * 4 by omega) (.int .i64 ((k : Int) + (i : Int) * 4 + 1 + 1 + 1)) (by unfold markedC; rw [if_neg (by omega)]; first | (congr 1; done) | (congr 1; omega))
        have e4 : (i + 1) * 4 = i * 4 + 1 + 1 + 1 + 1 := by omega
        rw [e4]
        exact m3
      case measure => simp [intOf]; omega
    · have hke : i = n := by omega
      have hkk : ¬ ((i : Int) < n) := by omega
      have HK := Lib.hid hke
      clear hke hmid
      go_wp2
      go_ret
      exact ⟨by rw [HK.out]; rfl, ⟨_, cap, rfl, .inr ⟨b, off, rfl, hb1, hb2, Nat.le_trans hb3 hchg.size, fun j hj => ⟨by rw [(H1.out.2 j hj).1, if_pos (by rw [HK.out]; omega)], fun _ => (H1.out.2 j hj).2⟩⟩⟩, hchg⟩

set_option maxHeartbeats 1000000 in
theorem heldChangeS (k : Nat) (fz : Bool) (w : World) (lo hi n : Nat) (s : Value) (h : InR fz w lo hi s n 4 (markedC k)) (hn : n ≤ 1048576) (hk : k ≤ 1073741824) :
    Calls Try.prog 25 #[s, .int .i64 (k : Int)] w fun e w' => e = .returned (.int .i64 ((k + n * 4 : Nat) : Int)) ∧ Below w.heap.size w w' := by
  obtain ⟨a, cap, rfl, hz0⟩ := h
  have hz := Lib.hid hz0
  clear hz0
  go_enter Try.func25, Try.ntmps25
  go_wp2
  go_loopw [5, 1] (fun c d wr => ∃ i : Nat, i ≤ n ∧ c = .int .i64 i ∧ d = .int .i64 ((k + i * 4 : Nat) : Int) ∧ Below w.heap.size w wr) (fun c _ _ => n - (intOf c).toNat)
  case atStart => exact ⟨0, Nat.zero_le _, rfl, rfl, Below.refl _ _⟩
  case round =>
    obtain ⟨i, hi, rfl, rfl, hbel⟩ := hrel
    by_cases hlt : i < n
    · have hlt' : (i : Int) < n := by omega
      rcases hz.out with h0 | ⟨b, off, rfl, hb1, hb2, hb3, hc⟩
      · omega
      have c0 := (hbel.cell (p := ⟨b, off + i * 4, none⟩) (by simp only; omega)).trans (hc (i * 4) (by omega)).1
      have c1 := (hbel.cell (p := ⟨b, off + (i * 4 + 1), none⟩) (by simp only; omega)).trans (hc (i * 4 + 1) (by omega)).1
      have c2 := (hbel.cell (p := ⟨b, off + (i * 4 + 2), none⟩) (by simp only; omega)).trans (hc (i * 4 + 2) (by omega)).1
      have c3 := (hbel.cell (p := ⟨b, off + (i * 4 + 3), none⟩) (by simp only; omega)).trans (hc (i * 4 + 3) (by omega)).1
      have e0 : markedC k (i * 4) = .bool (((k + i * 4 : Nat) : Int) % 3 == 0) := by simp [markedC, mk3]
      have e1 : markedC k (i * 4 + 1) = .int .i64 ((k + (i * 4 + 1) : Nat) : Int) := by
        unfold markedC
        rw [if_neg (by omega)]
        congr 1
      have e2 : markedC k (i * 4 + 2) = .int .i64 ((k + (i * 4 + 2) : Nat) : Int) := by
        unfold markedC
        rw [if_neg (by omega)]
        congr 1
      have e3 : markedC k (i * 4 + 3) = .int .i64 ((k + (i * 4 + 3) : Nat) : Int) := by
        unfold markedC
        rw [if_neg (by omega)]
        congr 1
      rw [e0] at c0
      rw [e1] at c1
      rw [e2] at c2
      rw [e3] at c3
      rw [← Nat.add_assoc] at c1 c2 c3
      clear hc e0 e1 e2 e3
      go_wp2
      go_roundw
      case rel => exact ⟨i + 1, by omega, by go_num, by go_num, hbel⟩
      case measure => simp [intOf]; omega
    · have hke : i = n := by omega
      have hkk : ¬ ((i : Int) < n) := by omega
      have HK := Lib.hid hke
      clear hke
      go_wp2
      go_ret
      exact ⟨by rw [HK.out]; rfl, hbel⟩

section
variable {H : Type} {enc : TypeId × Value → H} {w : World} {base : Nat} {spare : Nat → Bool} {held : Bool}
open Go.ChangeShapes Go.WideShapes Go.Joins

def boolIn (v : Option Value) : Bool := match v with | some (.bool x) => x | _ => false

set_option maxRecDepth 100000 in
/-- A slice of changes (of the laws' own type) reads as a list. -/
theorem openChangeS1 {fuel : Nat} {s : Value} {x : DataW H × List MemPlace} (h : DataW.trod enc Try.prog w base spare held fuel 25 [s] = some x) :
    ∃ cs : List Ch, RowCh w s cs ∧ cs.length ≤ 9223372036854775807 := by
  rcases open_slice Try.underlying25 h with ⟨hcs, _⟩ | ⟨a, len, cap, m, n, D, Pl, hcs, hb, hl, hm, hmm, hx, hi⟩
  · simp only [List.cons.injEq, and_true] at hcs
    subst hcs
    exact ⟨[], RowCh.nil _, by simp⟩
  · simp only [List.cons.injEq, and_true] at hcs
    subst hcs
    have hC : Try.prog.cellsOf 75 = 4 := by kernel_rfl
    have hlm : len ≤ m := by rw [hmm]; split <;> omega
    have key : ∀ i, i < len → ∃ (u : Bool) (p q r : Int), w.cell? (a.add (i * 4)) = some (.bool u) ∧ w.cell? ((a.add (i * 4)).add 1) = some (.int .i64 p) ∧ w.cell? ((a.add (i * 4)).add 2) = some (.int .i64 q) ∧ w.cell? ((a.add (i * 4)).add 3) = some (.int .i64 r) := by
      intro i hil
      obtain ⟨cs', hc, ht'⟩ := hi i (by omega)
      rw [hC] at hc
      obtain ⟨_, hcl, hat⟩ := World.cells?_some hc
      obtain ⟨y0, y1, n', _, _, t0, t1⟩ := trod_struct2 Try.underlying75 ht'
      match cs', hcl with
      | [c0, c1, c2, c3], _ =>
        have hi1 : Try.prog.cellsOf 3 = 1 := by kernel_rfl
        have hi2 : Try.prog.cellsOf 4 = 1 := by kernel_rfl
        have hi3 : Try.prog.cellsOf 73 = 3 := by kernel_rfl
        simp only [hi1, hi2, hi3, List.drop_zero, List.drop_succ_cons, List.take_succ_cons, List.take_zero] at t0 t1
        obtain ⟨u, hu, _⟩ := DataW.trod_bool Try.underlying4 t0
        obtain ⟨z0, z1, z2, n2, _, _, k0, k1, k2⟩ := trod_struct3 Try.underlying73 t1
        simp only [hi1, List.drop_zero, List.drop_succ_cons, List.take_succ_cons, List.take_zero] at k0 k1 k2
        obtain ⟨p, hp⟩ := one_int Try.underlying3 k0
        obtain ⟨q, hq⟩ := one_int Try.underlying3 k1
        obtain ⟨r, hr⟩ := one_int Try.underlying3 k2
        simp only [List.cons.injEq, and_true] at hu hp hq hr
        have a0 := hat 0 (by omega)
        have a1 := hat 1 (by omega)
        have a2 := hat 2 (by omega)
        have a3 := hat 3 (by omega)
        have e0 : (a.add (i * 4)).add 0 = a.add (i * 4) := by simp [Addr.add]
        rw [e0] at a0
        subst hu hp hq hr
        exact ⟨u, p, q, r, by simpa using a0, by simpa using a1, by simpa using a2, by simpa using a3⟩
    by_cases h0 : len = 0
    · subst h0
      exact ⟨[], ⟨some a, cap, rfl, .inl rfl⟩, by simp⟩
    obtain ⟨u0, _, _, _, c0, _, _, _⟩ := key 0 (by omega)
    obtain ⟨b, off, spot⟩ := a
    have hspot : spot = none := by simpa [Addr.add] using World.cell?_spot c0
    subst hspot
    let cs : List Ch := (List.range len).map fun i => (boolIn (w.cell? ⟨b, off + i * 4, none⟩), intIn (w.cell? ⟨b, off + i * 4 + 1, none⟩), intIn (w.cell? ⟨b, off + i * 4 + 2, none⟩), intIn (w.cell? ⟨b, off + i * 4 + 3, none⟩))
    have hes : cs.length = len := by simp [cs]
    have hblt : b < w.heap.size := World.block_lt_of_cell? _ _ (by simpa [Addr.add] using c0)
    refine ⟨cs, ⟨some ⟨b, off, none⟩, cap, by rw [hes], .inr ⟨b, off, rfl, Nat.zero_le _, hblt, Nat.le_refl _, fun j hj => ⟨?_, fun h => by cases h⟩⟩⟩, ?_⟩
    · rw [hes] at hj
      obtain ⟨u, p, q, r, k0, k1, k2, k3⟩ := key (j / 4) (by omega)
      rw [Go.WideShapes.add_plain] at k0 k1 k2 k3
      rw [Go.WideShapes.add_plain] at k1 k2 k3
      have hg : cs.getD (j / 4) chZ = (u, p, q, r) := by
        have hil : j / 4 < len := by omega
        have : cs.getD (j / 4) chZ = (boolIn (w.cell? ⟨b, off + j / 4 * 4, none⟩), intIn (w.cell? ⟨b, off + j / 4 * 4 + 1, none⟩), intIn (w.cell? ⟨b, off + j / 4 * 4 + 2, none⟩), intIn (w.cell? ⟨b, off + j / 4 * 4 + 3, none⟩)) := by simp [cs, List.getD, hil]
        rw [this, k0, k1, k2, k3]
        rfl
      have h4 : j % 4 = 0 ∨ j % 4 = 1 ∨ j % 4 = 2 ∨ j % 4 = 3 := by omega
      unfold cellCh
      rw [hg]
      rcases h4 with h | h | h | h
      · rw [show off + j = off + j / 4 * 4 by omega, k0, if_pos h]
      · rw [show off + j = off + j / 4 * 4 + 1 by omega, k1, if_neg (by omega), if_pos h]
      · rw [show off + j = off + j / 4 * 4 + 2 by omega, k2, if_neg (by omega), if_neg (by omega), if_pos h]
      · rw [show off + j = off + j / 4 * 4 + 3 by omega, k3, if_neg (by omega), if_neg (by omega), if_neg (by omega)]
    · rw [hes]
      have : maxLen ≤ 9223372036854775807 := by decide
      omega

set_option maxRecDepth 100000 in
/-- An argument that is a slice of changes. -/
theorem openChangeS {r : Reach} {b0 : Nat} {v : Value} {d : DataW H} {p : List MemPlace} (hv : Value.okWide Try.prog w r b0 25 v) (h : DataW.Trod enc Try.prog w base spare held 25 v d p) :
    ∃ (s : Value) (cs : List Ch), v = s ∧ RowCh w s cs ∧ cs.length ≤ 9223372036854775807 := by
  obtain ⟨a, len, cap, rfl⟩ := okWide_slice Try.underlying25 hv
  obtain ⟨fuel, hf⟩ := h
  have hc : (Value.slice a len cap).cells.toList = [.slice a len cap] := by simp [Value.cells]
  rw [hc] at hf
  obtain ⟨cs, hr, hl⟩ := openChangeS1 hf
  exact ⟨_, cs, rfl, hr, hl⟩
end
end Go.Proofs.Ytdlnekfifogcaaa
