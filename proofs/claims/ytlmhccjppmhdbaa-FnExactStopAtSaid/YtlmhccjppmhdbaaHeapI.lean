/- The methods of the heap of waiting nodes. -/
import Derived.Test.YtlmhccjppmhdbaaHeapW
import Derived.Test.YtlmhccjppmhdbaaDisp
import Derived.BigRegion
namespace Go.Proofs.Ytlmhccjppmhdbaa
open Go.RowKit Go.BigFrame Go.Deep
set_option linter.unusedVariables false
set_option linter.unusedSimpArgs false

/-- The cells of a search. -/
abbrev sC (c0 c1 c2 c3 c4 c5 c6 o ev : Value) : Array Value := #[c0, c1, c2, c3, c4, c5, c6, o, ev]
/-- The types that the heap's methods change. -/
def AF (t : TypeId) : Prop := t = 125 ∨ t = 166
/-- A search's box, with its heap of entries. -/
structure Fro (w : World) (base B : Nat) (c0 c1 c2 c3 c4 c5 c6 o ev : Value) (es : List En) : Prop where
  box : Box w B 125 (sC c0 c1 c2 c3 c4 c5 c6 o ev)
  own : w.ownsRow base 166 2 ev es.length (cellsN es)
  hB : base ≤ B
  hb : base ≤ w.heap.size
section
variable {w w' : World} {base B : Nat} {c0 c1 c2 c3 c4 c5 c6 o ev : Value} {es : List En}
theorem Fro.keep (h : Fro w base B c0 c1 c2 c3 c4 c5 c6 o ev es) (b : Below w.heap.size w w') : Fro w' base B c0 c1 c2 c3 c4 c5 c6 o ev es :=
  ⟨h.box.keep b, own_keep h.own b, h.hB, Nat.le_trans h.hb b.size⟩
theorem Fro.slice (h : Fro w base B c0 c1 c2 c3 c4 c5 c6 o ev es) : ∃ a c, ev = .slice a es.length c := own_slice h.own
theorem Fro.cells (h : Fro w base B c0 c1 c2 c3 c4 c5 c6 o ev es) : w.cell? ⟨B, 7, none⟩ = some o ∧ w.cell? ⟨B, 8, none⟩ = some ev ∧ w.frozen? ⟨B, 8, none⟩ = false ∧ B < w.heap.size :=
  ⟨by simpa using h.box.cell 7, by simpa using h.box.cell 8, h.box.frozen 8, h.box.lt⟩
end

set_option maxHeartbeats 1000000 in
theorem frLen {base B : Nat} {c0 c1 c2 c3 c4 c5 c6 o ev : Value} {es : List En} {w : World} (h : Fro w base B c0 c1 c2 c3 c4 c5 c6 o ev es) :
    Calls Try.prog 130 #[.pointer (some ⟨B, 7, none⟩)] w fun e w' => e = .returned (.int .i64 (es.length : Nat)) ∧ Below w.heap.size w w' := by
  obtain ⟨va, vc, rfl⟩ := h.slice
  obtain ⟨x7, x8, f8, hB⟩ := h.cells
  clear h
  go_enter Try.func130, Try.ntmps130
  go_wp2
  go_ret
  exact ⟨rfl, Below.refl _ _⟩

set_option maxRecDepth 20000 in
set_option maxHeartbeats 4000000 in
theorem frSwap {base B : Nat} {c0 c1 c2 c3 c4 c5 c6 o ev : Value} {es : List En} {w : World} (h : Fro w base B c0 c1 c2 c3 c4 c5 c6 o ev es) {i j : Nat} (hi : i < es.length) (hj : j < es.length) :
    Calls Try.prog 171 #[.pointer (some ⟨B, 7, none⟩), .int .i64 i, .int .i64 j] w fun e w' => e = .returned (.tuple #[]) ∧ Fro w' base B c0 c1 c2 c3 c4 c5 c6 o ev (lsw es i j) ∧ ChaT AF base w w' := by
  obtain ⟨g, cap, rfl, hbg, hg, hcap⟩ := own_pos h.own (by omega)
  obtain ⟨x7, x8, f8, hB⟩ := h.cells
  obtain ⟨X, hX⟩ : ∃ X, X = es.getD i (0, 0) := ⟨_, rfl⟩
  obtain ⟨Y, hY⟩ : ∃ Y, Y = es.getD j (0, 0) := ⟨_, rfl⟩
  have a0 := own_cell h.own (cellsN_get (show i * 2 < es.length * 2 by omega))
  have a1 := own_cell h.own (cellsN_get (show i * 2 + 1 < es.length * 2 by omega))
  have b0 := own_cell h.own (cellsN_get (show j * 2 < es.length * 2 by omega))
  have b1 := own_cell h.own (cellsN_get (show j * 2 + 1 < es.length * 2 by omega))
  rw [cellN0, ← hX] at a0
  rw [cellN1, ← hX] at a1
  rw [cellN0, ← hY] at b0
  rw [cellN1, ← hY] at b1
  obtain ⟨a0, fa0⟩ := a0
  obtain ⟨a1, fa1⟩ := a1
  obtain ⟨b0, fb0⟩ := b0
  obtain ⟨b1, fb1⟩ := b1
  obtain ⟨X1, X2⟩ := X
  obtain ⟨Y1, Y2⟩ := Y
  simp only at a0 a1 b0 b1
  have hi' : (i : Int) < es.length := by omega
  have hj' : (j : Int) < es.length := by omega
  have HX := Lib.hid hX
  have HY := Lib.hid hY
  have HF := Lib.hid h
  clear hX hY h
  have hfin : Fro ((((w.setCell ⟨g, i * 2, none⟩ (.int .i64 Y1)).setCell ⟨g, i * 2 + 1, none⟩ (.int .i64 Y2)).setCell ⟨g, j * 2, none⟩ (.int .i64 X1)).setCell ⟨g, j * 2 + 1, none⟩ (.int .i64 X2)) base B c0 c1 c2 c3 c4 c5 c6 o (.slice (some ⟨g, 0, none⟩) es.length cap) (lsw es i j) ∧ ChaT AF base w ((((w.setCell ⟨g, i * 2, none⟩ (.int .i64 Y1)).setCell ⟨g, i * 2 + 1, none⟩ (.int .i64 Y2)).setCell ⟨g, j * 2, none⟩ (.int .i64 X1)).setCell ⟨g, j * 2 + 1, none⟩ (.int .i64 X2)) := by
    have hne : B ≠ g := by
      intro e
      obtain ⟨_, cs, hh⟩ := own_heap HF.out.own
      have hb := HF.out.box
      unfold Box at hb
      rw [e, hh] at hb
      simp at hb
    have h1 := own_set1 (own_set1 (own_set1 (own_set1 HF.out.own (i := i * 2) (.int .i64 Y1)) (i := i * 2 + 1) (.int .i64 Y2)) (i := j * 2) (.int .i64 X1)) (i := j * 2 + 1) (.int .i64 X2)
    have e1 := cellsN_set es i (Y1, Y2) hi
    have e2 := cellsN_set (es.set i (Y1, Y2)) j (X1, X2) (by simpa using hj)
    simp only at e1 e2
    rw [e1, e2] at h1
    have e3 : lsw es i j = (es.set i (Y1, Y2)).set j (X1, X2) := by unfold lsw; rw [← HX.out, ← HY.out]
    rw [e3]
    refine ⟨⟨(((HF.out.box.setOther hne _ _).setOther hne _ _).setOther hne _ _).setOther hne _ _, ?_, HF.out.hB, by simpa using HF.out.hb⟩, ?_⟩
    · rw [List.length_set, List.length_set]; exact h1
    · obtain ⟨k0, cs0, hh0⟩ := own_heap HF.out.own
      have s1 := ChaT.set (A := AF) hh0 hbg (.inr rfl) (i * 2) (.int .i64 Y1)
      obtain ⟨_, cs1, hh1⟩ := own_heap (own_set1 HF.out.own (i := i * 2) (.int .i64 Y1))
      have s2 := ChaT.set (A := AF) hh1 hbg (.inr rfl) (i * 2 + 1) (.int .i64 Y2)
      obtain ⟨_, cs2, hh2⟩ := own_heap (own_set1 (own_set1 HF.out.own (i := i * 2) (.int .i64 Y1)) (i := i * 2 + 1) (.int .i64 Y2))
      have s3 := ChaT.set (A := AF) hh2 hbg (.inr rfl) (j * 2) (.int .i64 X1)
      obtain ⟨_, cs3, hh3⟩ := own_heap (own_set1 (own_set1 (own_set1 HF.out.own (i := i * 2) (.int .i64 Y1)) (i := i * 2 + 1) (.int .i64 Y2)) (i := j * 2) (.int .i64 X1))
      have s4 := ChaT.set (A := AF) hh3 hbg (.inr rfl) (j * 2 + 1) (.int .i64 X2)
      exact ((s1.trans s2).trans s3).trans s4
  have HFIN := Lib.hid hfin
  clear hfin
  by_cases hij : i = j
  · subst hij
    have hXY : X1 = Y1 ∧ X2 = Y2 := by
      have := HX.out.trans HY.out.symm
      simpa using this
    obtain ⟨rfl, rfl⟩ := hXY
    go_enter Try.func171, Try.ntmps171
    go_wp2
    go_region
    all_goals
      go_wp2
      go_end0
      exact ⟨rfl, HFIN.out.1.keep ((Below.refl _ _).drew), HFIN.out.2.trans (ChaT.of_below ((Below.refl _ _).drew))⟩
  · have n1 : ¬ (i * 2 = j * 2) := by omega
    have n2 : ¬ (j * 2 = i * 2) := by omega
    have n3 : ¬ (j = i) := fun e => hij e.symm
    go_enter Try.func171, Try.ntmps171
    go_wp2
    go_region
    all_goals
      go_wp2
      go_end0
      exact ⟨rfl, HFIN.out.1.keep ((Below.refl _ _).drew), HFIN.out.2.trans (ChaT.of_below ((Below.refl _ _).drew))⟩

set_option maxRecDepth 20000 in
set_option maxHeartbeats 4000000 in
theorem frLess {m : Int} (hm : mKind m = true) {base B : Nat} {c0 c1 c2 c3 c4 c5 c6 ev : Value} {es : List En} {w : World} (h : Fro w base B c0 c1 c2 c3 c4 c5 c6 (opsV m) ev es) {i j : Nat} (hi : i < es.length) (hj : j < es.length) :
    Calls Try.prog 168 #[.pointer (some ⟨B, 7, none⟩), .int .i64 i, .int .i64 j] w fun e w' => e = .returned (.bool (eLess m (es.getD i (0, 0)) (es.getD j (0, 0)))) ∧ Below w.heap.size w w' := by
  obtain ⟨g, cap, rfl, hbg, hg, hcap⟩ := own_pos h.own (by omega)
  obtain ⟨x7, x8, f8, hB⟩ := h.cells
  obtain ⟨X, hX⟩ : ∃ X, X = es.getD i (0, 0) := ⟨_, rfl⟩
  obtain ⟨Y, hY⟩ : ∃ Y, Y = es.getD j (0, 0) := ⟨_, rfl⟩
  have a0 := own_cell h.own (cellsN_get (show i * 2 < es.length * 2 by omega))
  have a1 := own_cell h.own (cellsN_get (show i * 2 + 1 < es.length * 2 by omega))
  have b0 := own_cell h.own (cellsN_get (show j * 2 < es.length * 2 by omega))
  have b1 := own_cell h.own (cellsN_get (show j * 2 + 1 < es.length * 2 by omega))
  rw [cellN0, ← hX] at a0
  rw [cellN1, ← hX] at a1
  rw [cellN0, ← hY] at b0
  rw [cellN1, ← hY] at b1
  rw [← hX, ← hY]
  obtain ⟨a0, fa0⟩ := a0
  obtain ⟨a1, fa1⟩ := a1
  obtain ⟨b0, fb0⟩ := b0
  obtain ⟨b1, fb1⟩ := b1
  obtain ⟨X1, X2⟩ := X
  obtain ⟨Y1, Y2⟩ := Y
  simp only at a0 a1 b0 b1
  have hi' : (i : Int) < es.length := by omega
  have hj' : (j : Int) < es.length := by omega
  have HX := Lib.hid hX
  have HY := Lib.hid hY
  have HF := Lib.hid h
  clear hX hY h fa0 fa1 fb0 fb1 f8
  unfold eLess
  obtain ⟨T, rv, fn, fe, fb, fo, fj, rn, re, rb, ro, rj, D⟩ := disp hm
  have hval := D.val
  rw [hval] at x7
  have hn1 := D.mb.run
  have hn2 := D.mb.ahead
  have hn3 := D.mb.enter
  have HC := Lib.hid (D.cb X2 Y2)
  clear D
  have HVAL := Lib.hid hval
  clear hval
  by_cases he : X2 = Y2
  · have d1 : (X2 == Y2) = true := by simpa using he
    rw [if_pos he]
    have HE := Lib.hid he
    clear he
    go_enter Try.func168, Try.ntmps168
    go_wp2
    go_region
    all_goals
      go_wp2
      go_ret
      exact ⟨rfl, (((Below.refl _ _).alloc (Nat.le_refl _) _).alloc (by simp) _).drew⟩
  · have d1 : (X2 == Y2) = false := by simpa using he
    rw [if_neg he]
    have HE := Lib.hid he
    clear he
    go_enter Try.func168, Try.ntmps168
    go_wp2
    go_region
    · have hb0 : Below w.heap.size w (((w.alloc (.cells #[.int .i64 X1, .int .i64 X2] 166)).alloc (.cells #[.int .i64 Y1, .int .i64 Y2] 166)).drew) := (((Below.refl _ _).alloc (Nat.le_refl _) _).alloc (by simp) _).drew
      have k0 : (((w.alloc (.cells #[.int .i64 X1, .int .i64 X2] 166)).alloc (.cells #[.int .i64 Y1, .int .i64 Y2] 166)).drew).cell? ⟨w.heap.size, 1, none⟩ = some (.int .i64 X2) := by go_simp
      have k1 : (((w.alloc (.cells #[.int .i64 X1, .int .i64 X2] 166)).alloc (.cells #[.int .i64 Y1, .int .i64 Y2] 166)).drew).cell? ⟨w.heap.size + 1, 1, none⟩ = some (.int .i64 Y2) := by go_simp
      have z0 : w.heap.size + 1 < (((w.alloc (.cells #[.int .i64 X1, .int .i64 X2] 166)).alloc (.cells #[.int .i64 Y1, .int .i64 Y2] 166)).drew).heap.size := by simp
      have z1 : w.heap.size < (((w.alloc (.cells #[.int .i64 X1, .int .i64 X2] 166)).alloc (.cells #[.int .i64 Y1, .int .i64 Y2] 166)).drew).heap.size := by simp <;> omega
      go_wp2_with fail
      generalize (((w.alloc (.cells #[.int .i64 X1, .int .i64 X2] 166)).alloc (.cells #[.int .i64 Y1, .int .i64 Y2] 166)).drew) = w0 at hb0 k0 k1 z0 z1 ⊢
      have ff : ∀ w', Below w0.heap.size w0 w' → w'.cell? ⟨B, 7, none⟩ = some (.iface T rv) ∧ w'.cell? ⟨w.heap.size, 1, none⟩ = some (.int .i64 X2) ∧ w'.cell? ⟨w.heap.size + 1, 1, none⟩ = some (.int .i64 Y2) := fun w' h => ⟨((bel_trans hb0 h).cell (p := ⟨B, _, none⟩) hB).trans x7, (h.cell (p := ⟨_, _, none⟩) (by simp only; omega)).trans k0, (h.cell (p := ⟨_, _, none⟩) (by simp only; omega)).trans k1⟩
      have FF := Lib.hid ff
      clear ff k0 k1 z0 z1 x7 x8 a0 a1 b0 b1
      refine wp_region_below (by kernel_rfl) (by kernel_rfl) ?_
      repeat (go_big_quiet_step ((intro hw; first | with_reducible rfl | (obtain ⟨f0, f1, f2⟩ := FF.out _ hw; simp only [f0, f1, f2, Result.andThen]; first | exact ⟨trivial, rfl⟩ | exact ⟨rfl, rfl⟩) | (with_reducible exact quietB (HC.out _) hw))))
      refine wpQuiet_nil ?_
      intro w1 hw1
      go_wp2
      go_ret
      exact ⟨rfl, bel_trans hb0 hw1⟩
    · have hb0 : Below w.heap.size w (((w.alloc (.cells #[.int .i64 Y1, .int .i64 Y2] 166)).alloc (.cells #[.int .i64 X1, .int .i64 X2] 166)).drew) := (((Below.refl _ _).alloc (Nat.le_refl _) _).alloc (by simp) _).drew
      have k0 : (((w.alloc (.cells #[.int .i64 Y1, .int .i64 Y2] 166)).alloc (.cells #[.int .i64 X1, .int .i64 X2] 166)).drew).cell? ⟨w.heap.size + 1, 1, none⟩ = some (.int .i64 X2) := by go_simp
      have k1 : (((w.alloc (.cells #[.int .i64 Y1, .int .i64 Y2] 166)).alloc (.cells #[.int .i64 X1, .int .i64 X2] 166)).drew).cell? ⟨w.heap.size, 1, none⟩ = some (.int .i64 Y2) := by go_simp
      have z0 : w.heap.size + 1 < (((w.alloc (.cells #[.int .i64 Y1, .int .i64 Y2] 166)).alloc (.cells #[.int .i64 X1, .int .i64 X2] 166)).drew).heap.size := by simp
      have z1 : w.heap.size < (((w.alloc (.cells #[.int .i64 Y1, .int .i64 Y2] 166)).alloc (.cells #[.int .i64 X1, .int .i64 X2] 166)).drew).heap.size := by simp <;> omega
      go_wp2_with fail
      generalize (((w.alloc (.cells #[.int .i64 Y1, .int .i64 Y2] 166)).alloc (.cells #[.int .i64 X1, .int .i64 X2] 166)).drew) = w0 at hb0 k0 k1 z0 z1 ⊢
      have ff : ∀ w', Below w0.heap.size w0 w' → w'.cell? ⟨B, 7, none⟩ = some (.iface T rv) ∧ w'.cell? ⟨w.heap.size + 1, 1, none⟩ = some (.int .i64 X2) ∧ w'.cell? ⟨w.heap.size, 1, none⟩ = some (.int .i64 Y2) := fun w' h => ⟨((bel_trans hb0 h).cell (p := ⟨B, _, none⟩) hB).trans x7, (h.cell (p := ⟨_, _, none⟩) (by simp only; omega)).trans k0, (h.cell (p := ⟨_, _, none⟩) (by simp only; omega)).trans k1⟩
      have FF := Lib.hid ff
      clear ff k0 k1 z0 z1 x7 x8 a0 a1 b0 b1
      refine wp_region_below (by kernel_rfl) (by kernel_rfl) ?_
      repeat (go_big_quiet_step ((intro hw; first | with_reducible rfl | (obtain ⟨f0, f1, f2⟩ := FF.out _ hw; simp only [f0, f1, f2, Result.andThen]; first | exact ⟨trivial, rfl⟩ | exact ⟨rfl, rfl⟩) | (with_reducible exact quietB (HC.out _) hw))))
      refine wpQuiet_nil ?_
      intro w1 hw1
      go_wp2
      go_ret
      exact ⟨rfl, bel_trans hb0 hw1⟩

theorem info_reached : (Try.prog.info? 166).map (fun i => (i.zero, i.size, i.bytes)) = some (some (.agg #[.int .i64 0, .int .i64 0]), 2, 16) := by kernel_rfl
theorem cells_new2 (w : World) (x y : Value) (t : TypeId) : ∀ j u, [x, y][j]? = some u → ((w.alloc (.cells #[x, y] t)).drew).cell? (Addr.add ⟨w.heap.size, 0, none⟩ j) = some u := by
  intro j u h
  have hn : (w.alloc (.cells #[x, y] t)).heap[w.heap.size]? = some (.cells #[x, y] t (0, 0)) := blk_alloc_new _ _
  have hc : ((w.alloc (.cells #[x, y] t)).drew).cell? ⟨w.heap.size, j, none⟩ = #[x, y][j]? := by
    show (w.alloc (.cells #[x, y] t)).cell? ⟨w.heap.size, j, none⟩ = _
    unfold World.cell?
    simp only [hn]
    simp
  have ha : Addr.add ⟨w.heap.size, 0, none⟩ j = ⟨w.heap.size, j, none⟩ := by rw [Go.WideShapes.add_plain, Nat.zero_add]
  rw [ha, hc]
  simpa using h
theorem assert_reached (v : Value) (w : World) : (Instr.typeAssert (.iface 166 v) 20 166 true).run Try.prog w = .ok (.tuple #[v, .bool true]) w := by kernel_rfl
set_option maxRecDepth 20000 in
set_option maxHeartbeats 4000000 in
theorem frPush {base B : Nat} {c0 c1 c2 c3 c4 c5 c6 o ev : Value} {es : List En} {w : World} (h : Fro w base B c0 c1 c2 c3 c4 c5 c6 o ev es) (hn : es.length ≤ 1048576) (a b : Int) :
    Calls Try.prog 170 #[.pointer (some ⟨B, 7, none⟩), .iface 166 (.agg #[.int .i64 a, .int .i64 b])] w fun e w' => e = .returned (.tuple #[]) ∧ (∃ ev', Fro w' base B c0 c1 c2 c3 c4 c5 c6 o ev' (es ++ [(a, b)])) ∧ ChaT AF base w w' := by
  obtain ⟨va, vc, rfl⟩ := h.slice
  have hb0 : Below w.heap.size w (w.alloc (.cells #[.int .i64 a, .int .i64 b] 166)) := (Below.refl _ _).alloc (Nat.le_refl _) _
  have HF := Lib.hid (And.intro (h.keep hb0) hb0)
  have HX := Lib.hid (Box.new w 166 #[.int .i64 a, .int .i64 b])
  obtain ⟨i0, hi, hz0, hz1, hz2⟩ := info_parts info_reached
  have hta := assert_reached
  clear h hb0
  go_enter Try.func170, Try.ntmps170
  go_wp2
  generalize (w.alloc (.cells #[.int .i64 a, .int .i64 b] 166)) = w1 at HF HX ⊢
  obtain ⟨x7, x8, f8, hB⟩ := HF.out.1.cells
  have y0 : w1.cell? ⟨w.heap.size, 0, none⟩ = some (.int .i64 a) := by simpa using HX.out.cell 0
  have y1 : w1.cell? ⟨w.heap.size, 1, none⟩ = some (.int .i64 b) := by simpa using HX.out.cell 1
  have hxg : ∀ A w6, World.grownBy ((w1.alloc A).drew) w6 (Value.slice va es.length vc).ownBlock → Box w6 B 125 (sC c0 c1 c2 c3 c4 c5 c6 o (.slice va es.length vc)) := fun A w6 h => Box.grown (w := (w1.alloc A).drew) (HF.out.1.box.alloc A) h (own_drew (HF.out.1.own.alloc A)) (by decide)
  have HXG := Lib.hid hxg
  have hwr := HF.out.1.hb
  clear hxg
  go_region_law (first | (refine step_append_own rfl (.tmp 16) (.tmp 18) 121 rfl base 166 i0 (.agg #[.int .i64 0, .int .i64 0]) 2 16 Try.underlying121 hi hz0 hz1 hz2 rfl (by decide) _ _ _ rfl (own_drew (HF.out.1.own.alloc _)) ⟨w1.heap.size, 0, none⟩ 1 1 [.int .i64 a, .int .i64 b] rfl rfl (cells_new2 _ _ _ _) (by simp [Value.oneCell']) (by unfold maxLen; omega) (by omega) (by simp; omega) ?_; intro v' w6 hown6 hgrow6; obtain ⟨va6, vc6, rfl⟩ := own_slice hown6; have HX6 := Lib.hid (HXG.out _ _ hgrow6); have x86 : w6.cell? ⟨B, 8, none⟩ = some (.slice va es.length vc) := (by simpa using HX6.out.cell 8); have f86 : w6.frozen? ⟨B, 8, none⟩ = false := HX6.out.frozen 8))
  all_goals
    go_wp2
    go_end0
    have hw6 : base ≤ w6.heap.size := by have := hgrow6.size; simp at this; omega
    refine ⟨rfl, ⟨_, ⟨HX6.out.set 8 _, ?_, HF.out.1.hB, by simpa using hw6⟩⟩, ?_⟩
    · have h := own_other hown6 HX6.out (by decide) 8 (.slice va6 (es.length + 1) vc6)
      rw [List.length_append, cellsN_app]
      exact h
    · have s1 : ChaT AF base w ((w1.alloc (.cells #[.int .i64 a, .int .i64 b] 166)).drew) := ChaT.of_below ((HF.out.2.alloc HF.out.2.size _).drew)
      have s2 := ChaT.of_grown (A := AF) hgrow6 (own_drew (HF.out.1.own.alloc (.cells #[.int .i64 a, .int .i64 b] 166))) (.inr rfl)
      have s3 := ChaT.set (A := AF) (base := base) HX6.out HF.out.1.hB (.inl rfl) 8 (.slice va6 (es.length + 1) vc6)
      exact (s1.trans s2).trans s3

set_option maxRecDepth 20000 in
set_option maxHeartbeats 4000000 in
theorem frPop {base B : Nat} {c0 c1 c2 c3 c4 c5 c6 o ev : Value} {es : List En} {w : World} (h : Fro w base B c0 c1 c2 c3 c4 c5 c6 o ev es) {n : Nat} (hn : es.length = n + 1) (hl : es.length ≤ 1048576) :
    Calls Try.prog 169 #[.pointer (some ⟨B, 7, none⟩)] w fun e w' => e = .returned (.iface 166 (.agg #[.int .i64 (es.getD n (0, 0)).1, .int .i64 (es.getD n (0, 0)).2])) ∧ (∃ ev', Fro w' base B c0 c1 c2 c3 c4 c5 c6 o ev' (es.take n)) ∧ ChaT AF base w w' := by
  obtain ⟨g, cap, rfl, hbg, hg, hcap⟩ := own_pos h.own (by omega)
  obtain ⟨x7, x8, f8, hB⟩ := h.cells
  obtain ⟨X, hX⟩ : ∃ X, X = es.getD n (0, 0) := ⟨_, rfl⟩
  have a0 := own_cell h.own (cellsN_get (show n * 2 < es.length * 2 by omega))
  have a1 := own_cell h.own (cellsN_get (show n * 2 + 1 < es.length * 2 by omega))
  rw [cellN0, ← hX] at a0
  rw [cellN1, ← hX] at a1
  rw [← hX]
  obtain ⟨a0, fa0⟩ := a0
  obtain ⟨a1, fa1⟩ := a1
  obtain ⟨X1, X2⟩ := X
  simp only at a0 a1
  have hlen := frLen h
  rw [hn] at hlen
  have HLEN := Lib.hid hlen
  have hn' : (n : Int) < es.length := by omega
  have hsub : ((n + 1 : Nat) : Int) - 1 = n := by omega
  have HX := Lib.hid hX
  have HF := Lib.hid h
  have HN := Lib.hid hn
  clear hX h hlen fa0 fa1 hn
  go_enter Try.func169, Try.ntmps169
  go_wp2_with (go_at_call 130; (with_reducible refine (HLEN.out).mono ?_); rintro e w1 ⟨rfl, hb1⟩; have a01 := (hb1.cell (p := ⟨g, _, none⟩) hg).trans a0; have a11 := (hb1.cell (p := ⟨g, _, none⟩) hg).trans a1; have x81 := (hb1.cell (p := ⟨B, _, none⟩) hB).trans x8; have f81 := (hb1.frozen (p := ⟨B, _, none⟩) hB).trans f8; have hB1 := Nat.lt_of_lt_of_le hB hb1.size; have hg1 := Nat.lt_of_lt_of_le hg hb1.size)
  go_ret
  have F1 := HF.out.keep hb1
  have hne := HN.out
  have F2 : Fro (w1.setCell ⟨B, 8, none⟩ (.slice (some ⟨g, 0, none⟩) n cap)) base B c0 c1 c2 c3 c4 c5 c6 o (.slice (some ⟨g, 0, none⟩) n cap) (es.take n) := by
    refine ⟨F1.box.set 8 _, ?_, F1.hB, by simpa using F1.hb⟩
    have h1 := own_cut F1.own (k := n) (by omega)
    rw [cellsN_take es n (by omega)] at h1
    have h2 := own_other h1 F1.box (by decide) 8 (.slice (some ⟨g, 0, none⟩) n cap)
    rw [show (es.take n).length = n by simp; omega]
    exact h2
  exact ⟨rfl, ⟨_, F2.keep ((Below.refl _ _).alloc (Nat.le_refl _) _)⟩, ((ChaT.of_below hb1).trans (ChaT.set F1.box F1.hB (.inl rfl) 8 _)).trans (ChaT.of_below ((Below.refl _ _).alloc (Nat.le_refl _) _))⟩
end Go.Proofs.Ytlmhccjppmhdbaa
