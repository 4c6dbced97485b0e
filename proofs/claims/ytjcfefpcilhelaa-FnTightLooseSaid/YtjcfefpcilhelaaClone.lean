/- Copies of rows of numbers, to be written into. -/
import Derived.Test.YtjcfefpcilhelaaVStartT
import Derived.Lib.SliceRun
namespace Go.Proofs.Ytjcfefpcilhelaa
open Go.RowKit Go.BigFrame Go.Deep
set_option linter.unusedVariables false
set_option linter.unusedSimpArgs false

/-- A row that can be written. -/
def Wr (w : World) (b off : Nat) (zs : List Int) : Prop := b < w.heap.size ∧ ∀ i, i < zs.length → w.cell? ⟨b, off + i, none⟩ = some (.int .i64 (zs.getD i 0)) ∧ w.frozen? ⟨b, off + i, none⟩ = false
theorem Wr.keep {w w' : World} {b off : Nat} {zs : List Int} (h : Wr w b off zs) (hb : Below w.heap.size w w') : Wr w' b off zs :=
  ⟨Nat.lt_of_lt_of_le h.1 hb.size, fun i hi => ⟨(hb.cell (p := ⟨b, _, none⟩) h.1).trans (h.2 i hi).1, (hb.frozen (p := ⟨b, _, none⟩) h.1).trans (h.2 i hi).2⟩⟩
theorem Wr.set {w : World} {b off : Nat} {zs : List Int} (h : Wr w b off zs) {k : Nat} (hk : k < zs.length) (x : Int) : Wr (w.setCell ⟨b, off + k, none⟩ (.int .i64 x)) b off (zs.set k x) := by
  refine ⟨by simpa using h.1, fun i hi => ?_⟩
  rw [List.length_set] at hi
  obtain ⟨h1, h2⟩ := h.2 i hi
  constructor
  · rw [getD_set _ _ _ _ hi]
    by_cases e : k = i
    · subst e
      rw [if_pos rfl, World.cell?_setCell_same _ _ _ h1]
    · have ne : (⟨b, off + k, none⟩ : Addr) ≠ ⟨b, off + i, none⟩ := by intro h; injection h with _ h _; omega
      rw [if_neg e, World.cell?_setCell_other _ _ _ _ ne, h1]
  · rw [World.frozen?_setCell]; exact h2
theorem Wr.own {w w' : World} {b off cap : Nat} {zs : List Int} (h : Wr w' b off zs) (hb : w.heap.size ≤ b) : OwnV w w' (.slice (some ⟨b, off, none⟩) zs.length cap) zs :=
  ⟨_, cap, rfl, .inr ⟨b, off, rfl, hb, h.1, Nat.le_refl _, fun i hi => ⟨(h.2 i (by omega)).1, fun _ => (h.2 i (by omega)).2⟩⟩⟩
theorem OwnV.wr {w w' : World} {v : Value} {zs : List Int} (h : OwnV w w' v zs) (h0 : 0 < zs.length) : ∃ b off cap, v = .slice (some ⟨b, off, none⟩) zs.length cap ∧ w.heap.size ≤ b ∧ Wr w' b off zs := by
  obtain ⟨a, cap, rfl, h | ⟨b, off, rfl, h1, h2, h3, hc⟩⟩ := h
  · omega
  · exact ⟨b, off, cap, rfl, h1, Nat.lt_of_lt_of_le h2 h3, fun i hi => ⟨(hc i (by omega)).1, (hc i (by omega)).2 rfl⟩⟩
theorem Wr.row {w : World} {b off cap : Nat} {zs : List Int} (h : Wr w b off zs) : Row w (.slice (some ⟨b, off, none⟩) zs.length cap) zs := ⟨_, cap, rfl, .inr ⟨b, off, rfl, h.1, fun i hi => (h.2 i hi).1⟩⟩
theorem row_news {w : World} {b off : Nat} {zs : List Int} (hc : ∀ i, i < zs.length → w.cell? ⟨b, off + i, none⟩ = some (.int .i64 (zs.getD i 0))) : ∀ j u, (zs.map (Value.int .i64))[j]? = some u → w.cell? ((⟨b, off, none⟩ : Addr).add j) = some u := by
  intro j u hj
  have hjn : j < zs.length := by
    have := (List.getElem?_eq_some_iff.1 hj).1
    simpa using this
  have e : (zs.map (Value.int .i64))[j]? = some (Value.int .i64 (zs.getD j 0)) := by simp [List.getD, hjn]
  rw [e] at hj
  injection hj with hj
  rw [← hj, ← hc j hjn, Go.WideShapes.add_plain]

set_option maxRecDepth 20000 in
set_option maxHeartbeats 1000000 in
theorem clone (zs : List Int) (s : Value) (w : World) (hr : Row w s zs) (h0 : 0 < zs.length) (hl : zs.length ≤ 1048576) :
    Calls Try.prog 144 #[s] w fun e w' => ∃ v, e = .returned v ∧ OwnV w w' v zs ∧ okS v ∧ Below w.heap.size w w' := by
  obtain ⟨a, cap, rfl, hz⟩ := hr
  rcases hz with hz | ⟨b, off, rfl, hb, hc⟩
  · rw [hz] at h0; simp at h0
  have hnews := row_news (fun i hi => (Lib.cell?_alloc_some (.cells #[] 3) (hc i hi)))
  have HN := Lib.hid hnews
  obtain ⟨i0, hi, hz0, hz1, hz2⟩ := info_parts info_int2
  have HI := Lib.hid (And.intro hi (And.intro hz0 (And.intro hz1 hz2)))
  have hown0 : (w.alloc (.cells #[] 3)).ownsRow w.heap.size 3 1 (.slice (some ⟨w.heap.size, 0, none⟩) 0 0) 0 [] := World.ownsRow_made w #[] 0 (Nat.le_refl _) (by unfold maxLen; omega) rfl
  have HO := Lib.hid hown0
  have hall : ∀ u ∈ zs.map (Value.int .i64), u.oneCell' = true := by intro u hu; obtain ⟨x, _, rfl⟩ := List.mem_map.1 hu; rfl
  have HALL := Lib.hid hall
  have hq : ∀ w, (binOp .eql 28 (.slice (some ⟨b, off, none⟩) zs.length cap) (.slice none 0 0)).run Try.prog w = .ok (.bool false) w := fun w => Lib.run_eql_slice_nil w _ _ (some ⟨b, off, none⟩) zs.length cap 0 0 Try.underlying28
  clear hown0 hc hnews hi hz0 hz1 hz2 hall
  go_enter Try.func144, Try.ntmps144
  obtain ⟨hi, hz0, hz1, hz2⟩ := HI.out
  go_wp2_with (at_builtin; refine wpList_append_own _ rfl _ _ 28 rfl w.heap.size 3 i0 (.int .i64 0) 1 8 Try.underlying28 hi hz0 hz1 hz2 rfl (by decide) _ _ _ rfl HO.out ⟨b, off, none⟩ zs.length cap (zs.map (Value.int .i64)) rfl ?c1 HN.out HALL.out ?c3 ?c4 ?c5 ?_)
  case c1 => simp
  case c3 => unfold maxLen; omega
  case c4 => omega
  case c5 => simp
  intro v' w6 hown6 hgrow6 _
  have hown7 : w6.ownsRow w.heap.size 3 1 v' zs.length (zs.map (Value.int .i64)) := by simpa using hown6
  have H7 := Lib.hid hown7
  have hB : Below w.heap.size w w6 := ((Below.refl _ w).alloc (Nat.le_refl _) _).grown hgrow6 (by simp) (by intro k hk; simp [Value.ownBlock] at hk; omega)
  clear hown6 hown7 hgrow6 hi hz0 hz1 hz2
  go_wp2
  go_ret
  exact ⟨v', rfl, OwnV.of H7.out (Nat.le_refl _), own_ok H7.out, hB⟩

set_option maxRecDepth 20000 in
set_option maxHeartbeats 2000000 in
theorem l3Copy (m a : Int) (zs : List Int) (s : Value) (w : World) (hr : Row w s zs) (h0 : 0 < zs.length) (hl : zs.length ≤ 1048576) :
    Calls Try.prog 93 #[.agg #[.int .i64 m, .int .i64 a, s]] w fun e w' => ∃ v, e = .returned (.agg #[.int .i64 m, .int .i64 a, v]) ∧ OwnV w w' v zs ∧ okS v ∧ Below w.heap.size w w' := by
  obtain ⟨ad, cap, rfl, hz⟩ := hr
  rcases hz with hz | ⟨b, off, rfl, hb, hc⟩
  · rw [hz] at h0; simp at h0
  obtain ⟨i0, hi, hz0, hz1, hz2⟩ := info_parts info_int2
  have hB3 : ∀ (A B C : Obj), Below w.heap.size w (((w.alloc A).alloc B).alloc C) := fun A B C => (((Below.refl _ _).alloc (Nat.le_refl _) _).alloc (by simp) _).alloc (by simp; omega) _
  have hnews := fun A B C => row_news (w := (((w.alloc A).alloc B).alloc C).drew) (fun i hi => ((hB3 A B C).cell (p := ⟨b, off + i, none⟩) hb).trans (hc i hi))
  have HN := Lib.hid hnews
  have hown0 : ∀ (A B : Obj), (((w.alloc A).alloc B).alloc (.cells #[] 3)).drew.ownsRow w.heap.size 3 1 (.slice (some ⟨w.heap.size + 1 + 1, 0, none⟩) 0 0) 0 [] := fun A B => by
    have := World.ownsRow_made (e := 3) (size := 1) ((w.alloc A).alloc B) #[] 0 (base := w.heap.size) (by simp; omega) (by unfold maxLen; omega) rfl
    simpa using own_drew this
  have HO := Lib.hid hown0
  have hall : ∀ u ∈ zs.map (Value.int .i64), u.oneCell' = true := by intro u hu; obtain ⟨x, _, rfl⟩ := List.mem_map.1 hu; rfl
  have HALL := Lib.hid hall
  have hbx : ∀ (C : Obj) (w6 : World), World.grownBy (((w.alloc (.cells #[.int .i64 m, .int .i64 a, .slice (some ⟨b, off, none⟩) zs.length cap] 30)).alloc (.cells #[.int .i64 0, .int .i64 0, .slice none 0 0] 30)).alloc (.cells #[] 3)).drew w6 (Value.slice (some ⟨w.heap.size + 1 + 1, 0, none⟩) 0 0).ownBlock →
      Box w6 w.heap.size 30 #[.int .i64 m, .int .i64 a, .slice (some ⟨b, off, none⟩) zs.length cap] ∧ Box w6 (w.heap.size + 1) 30 #[.int .i64 0, .int .i64 0, .slice none 0 0] ∧ Below w.heap.size w w6 := fun C w6 h =>
    ⟨Box.grown (Box.drew (((Box.new w 30 _).alloc _).alloc _)) h (HO.out _ _) (by decide), Box.grown (Box.drew (Box.alloc (by have := Box.new (w.alloc (.cells #[.int .i64 m, .int .i64 a, .slice (some ⟨b, off, none⟩) zs.length cap] 30)) 30 #[.int .i64 0, .int .i64 0, .slice none 0 0]; simpa using this) _)) h (HO.out _ _) (by decide),
      ((hB3 _ _ _).drew).grown h (by simp; omega) (by intro k hk; simp [Value.ownBlock] at hk; omega)⟩
  have HBX := Lib.hid hbx
  clear hc hnews hown0 hall hbx hB3
  go_enter Try.func93, Try.ntmps93
  go_wp2
  go_region_law (first | (refine step_append_own rfl (.tmp 7) (.tmp 9) 28 rfl w.heap.size 3 i0 (.int .i64 0) 1 8 Try.underlying28 hi hz0 hz1 hz2 rfl (by decide) _ _ _ rfl (HO.out _ _) ⟨b, off, none⟩ zs.length cap (zs.map (Value.int .i64)) rfl (by simp) (HN.out _ _ _) HALL.out (by unfold maxLen; omega) (by omega) (by simp; omega) ?_; intro v' w6 hown6 hgrow6; obtain ⟨va, vc, rfl⟩ := own_slice hown6; have HX6 := Lib.hid (HBX.out (.cells #[] 0) _ hgrow6); have x0 := HX6.out.1.cell 0; have x1 := HX6.out.1.cell 1; have r0 := HX6.out.2.1.cell 0; have r1 := HX6.out.2.1.cell 1; have r2 := HX6.out.2.1.cell 2; have s0 := HX6.out.2.1.frozen 0; have s1 := HX6.out.2.1.frozen 1; have s2 := HX6.out.2.1.frozen 2; simp only [List.getElem?_toArray, List.getElem?_cons_succ, List.getElem?_cons_zero] at x0 x1 r0 r1 r2; have H7 := Lib.hid hown6; clear hown6 hgrow6))
  all_goals
    go_wp2
    try simp only [Exit.inBlock, Exit.then]
    refine bodyPost_ret (v := .agg #[.int .i64 m, .int .i64 a, .slice va zs.length vc]) ?_ rfl ?_
    · rw [results_cell1 rfl]
      go_simp
    have ho : w6.ownsRow w.heap.size 3 1 (.slice va zs.length vc) zs.length (zs.map (Value.int .i64)) := by simpa using H7.out
    have hr := HX6.out.2.1
    exact ⟨_, rfl, OwnV.of (((hr.set 0 _).set 1 _).own ((hr.set 0 _).own (hr.own ho (by decide)) (by decide)) (by decide)) (Nat.le_refl _), own_ok ho, ((HX6.out.2.2.setCell (by simp) _).setCell (by simp) _).setCell (by simp) _⟩
end Go.Proofs.Ytjcfefpcilhelaa
