/- ChangedNodes, in the program and in the model. -/
import Derived.Test.YtbhhbhopogkmnaaNext
import Derived.Test.YtbhhbhopogkmnaaBoxes
import Derived.Test.YtbhhbhopogkmnaaVEdges
import Derived.Maps.AppendAt
namespace Go.Proofs.Ytbhhbhopogkmnaa
open Go.RowKit Go.BigFrame Go.Deep
set_option linter.unusedVariables false
set_option linter.unusedSimpArgs false

/-- Can two views be compared? -/
def cnB (m m2 : Int) (zs ys : List Int) : Bool := decide (m = m2) && decide (zs.length = ys.length)
/-- The first nodes whose values differ. -/
def cnK (zs ys : List Int) (k : Nat) : List Int := ((List.range k).filter (fun i => zs.getD i 0 != ys.getD i 0)).map (fun (i : Nat) => (i : Int))
def cnL (m m2 : Int) (zs ys : List Int) : List Int := if cnB m m2 zs ys = true then cnK zs ys zs.length else []
theorem cnK_succ (zs ys : List Int) (k : Nat) : cnK zs ys (k + 1) = cnK zs ys k ++ (if (zs.getD k 0 != ys.getD k 0) = true then [(k : Int)] else []) := by
  unfold cnK
  rw [List.range_succ, List.filter_append, List.map_append]
  simp only [List.filter_cons, List.filter_nil]
  generalize (zs.getD k 0 != ys.getD k 0) = b
  cases b <;> simp
theorem cnK_len (zs ys : List Int) (k : Nat) : (cnK zs ys k).length ≤ k := by
  unfold cnK; rw [List.length_map]; exact Nat.le_trans (List.length_filter_le _ _) (by simp)
theorem cnL_len (m m2 : Int) (zs ys : List Int) : (cnL m m2 zs ys).length ≤ zs.length := by
  unfold cnL; split; exact cnK_len _ _ _; simp

set_option maxRecDepth 20000 in
set_option maxHeartbeats 4000000 in
theorem changedNodes (m a m2 a2 : Int) (zs ys : List Int) (s t : Value) (w : World) (hs : Row w s zs) (ht : Row w t ys) (hl : zs.length ≤ 1048576) (hl2 : ys.length ≤ 1048576) :
    Calls Try.prog 12 #[.agg #[.int .i64 m, .int .i64 a, s], .agg #[.int .i64 m2, .int .i64 a2, t]] w fun e w' => ∃ v, e = .returned (.tuple #[v, .bool (cnB m m2 zs ys)]) ∧ OwnI w w' v (cnL m m2 zs ys) ∧ Below w.heap.size w w' := by
  have hB : ∀ (A B : Obj), Below w.heap.size w ((w.alloc A).alloc B) := fun A B => ((Below.refl _ _).alloc (Nat.le_refl _) _).alloc (by simp) _
  obtain ⟨ad, cap, rfl, hz0⟩ := hs
  obtain ⟨ad2, cap2, rfl, hy0⟩ := ht
  have HY := Lib.hid hy0
  have HZ := Lib.hid hz0
  have HB := Lib.hid hB
  clear hz0 hB hy0
  unfold cnL
  by_cases hm : m = m2
  rotate_left
  · have d1 : (m != m2) = true := by simpa using hm
    have d2 : (m == m2) = false := by simpa using hm
    have hc : cnB m m2 zs ys = false := by simp [cnB, hm]
    rw [hc, if_neg (by decide)]
    clear hc
    go_enter Try.func12, Try.ntmps12
    go_wp2
    go_ret2
    exact ⟨_, rfl, ⟨none, 0, rfl, .inl rfl⟩, HB.out _ _⟩
  have d1 : (m != m2) = false := by simpa using hm
  have d2 : (m == m2) = true := by simpa using hm
  by_cases hn : zs.length = ys.length
  rotate_left
  · have e1 : ((zs.length : Int) != ys.length) = true := by simp; omega
    have e2 : ((zs.length : Int) == ys.length) = false := by simp; omega
    have e3 : ¬ ((zs.length : Int) = ys.length) := by omega
    have hc : cnB m m2 zs ys = false := by simp [cnB, hn]
    rw [hc, if_neg (by decide)]
    clear hc
    go_enter Try.func12, Try.ntmps12
    go_wp2
    go_ret2
    exact ⟨_, rfl, ⟨none, 0, rfl, .inl rfl⟩, HB.out _ _⟩
  have hc : cnB m m2 zs ys = true := by simp [cnB, hm, hn]
  rw [hc, if_pos rfl]
  have hnI : (ys.length : Int) = zs.length := by omega
  have HN := Lib.hid hn
  subst hm
  obtain ⟨i0, hi, hz0', hz1, hz2⟩ := info_parts info_int2
  have HI : Hid (Try.prog.info? 3 = some i0 ∧ i0.zero = some (.int .i64 0) ∧ i0.size = 1 ∧ i0.bytes = 8) := Lib.hid ⟨hi, hz0', hz1, hz2⟩
  obtain ⟨L2, hL2⟩ : ∃ L2, L2 = ys.length := ⟨_, rfl⟩
  rw [← hL2] at hnI
  have hbx0 : Box ((w.alloc (.cells #[.int .i64 m, .int .i64 a, .slice ad zs.length cap] 25)).alloc (.cells #[.int .i64 m, .int .i64 a2, .slice ad2 zs.length cap2] 25)) (w.heap.size + 1) 25 #[.int .i64 m, .int .i64 a2, .slice ad2 zs.length cap2] := by
    have := Box.new (w.alloc (.cells #[.int .i64 m, .int .i64 a, .slice ad zs.length cap] 25)) 25 #[.int .i64 m, .int .i64 a2, .slice ad2 zs.length cap2]
    simpa using this
  have HX0 := Lib.hid (And.intro (HB.out (.cells #[.int .i64 m, .int .i64 a, .slice ad zs.length cap] 25) (.cells #[.int .i64 m, .int .i64 a2, .slice ad2 zs.length cap2] 25)) hbx0)
  clear hi hz0' hz1 hz2 hbx0 hc hL2 hnI
  rw [← hn]
  clear hn
  go_enter Try.func12, Try.ntmps12
  go_wp2
  go_loopw [26, 6] (fun c v wr => ∃ k : Nat, k ≤ zs.length ∧ c = .int .i64 k ∧ wr.ownsRow w.heap.size 3 1 v (cnK zs ys k).length ((cnK zs ys k).map (Value.int .i64)) ∧ Hid (Below w.heap.size w wr ∧ Box wr (w.heap.size + 1) 25 #[.int .i64 m, .int .i64 a2, .slice ad2 zs.length cap2])) (fun c _ _ => zs.length - (intOf c).toNat)
  case atStart => exact ⟨0, Nat.zero_le _, rfl, ⟨by simp [cnK], .inl ⟨rfl, by simp [cnK]⟩⟩, HX0⟩
  case round =>
    obtain ⟨k, hk, rfl, hown, HX⟩ := hrel
    have HOW := Lib.hid hown
    clear hown
    by_cases hlt : k < zs.length
    · have hlt' : (k : Int) < zs.length := by omega
      rcases HZ.out with h0' | ⟨b, off, rfl, hb, hc⟩
      · rw [h0'] at hlt; simp at hlt
      rcases HY.out with h0'' | ⟨b2, off2, rfl, hb2, hc2⟩
      · have := HN.out; rw [h0''] at this; simp at this; rw [this] at hlt; simp at hlt
      obtain ⟨x, hx⟩ : ∃ x, x = zs.getD k 0 := ⟨_, rfl⟩
      obtain ⟨y, hy⟩ : ∃ y, y = ys.getD k 0 := ⟨_, rfl⟩
      have h1 := hc k hlt
      have h2 := hc2 k (by have := HN.out; omega)
      rw [← hx] at h1
      rw [← hy] at h2
      have hst := cnK_succ zs ys k
      rw [← hx, ← hy] at hst
      have c0 := (HX.out.1.cell (p := ⟨b, off + k, none⟩) hb).trans h1
      have c1 := (HX.out.1.cell (p := ⟨b2, off2 + k, none⟩) hb2).trans h2
      have y2 : wr.cell? ⟨w.heap.size + 1, 2, none⟩ = some (.slice (some ⟨b2, off2, none⟩) zs.length cap2) := by simpa using HX.out.2.cell 2
      have hln : (cnK zs ys k).length ≤ k := cnK_len _ _ _
      clear hc hc2 h1 h2 hx hy
      cases hxy : (x != y)
      · rw [hxy, if_neg (by decide), List.append_nil] at hst
        have HT := Lib.hid hst
        clear hst
        go_wp2
        go_roundw
        case rel => first | exact ⟨k + 1, by omega, by go_num, by rw [HT.out]; exact HOW.out, HX⟩ | ((repeat apply Exists.intro); exact ⟨⟨k + 1, by omega, by go_num, by rw [HT.out]; exact HOW.out, HX⟩, rfl⟩)
        case measure => simp [intOf]; omega
      · rw [hxy, if_pos rfl] at hst
        have HT := Lib.hid hst
        clear hst
        obtain ⟨hi, hz0, hz1, hz2⟩ := HI.out
        go_wp2_with (at_builtin; refine wpList_append_own _ rfl (.tmp 38) (.tmp 40) 23 rfl w.heap.size 3 i0 (.int .i64 0) 1 8 Try.underlying23 hi hz0 hz1 hz2 rfl (by decide) _ _ _ rfl (HOW.out.alloc _) ⟨wr.heap.size, 0, none⟩ 1 1 [.int .i64 k] rfl rfl ?c1 ?c2 ?c3 ?c4 ?c5 ?_)
        case c1 => exact cell_one_new _ _ _
        case c2 => simp [Value.oneCell']
        case c3 => unfold maxLen; omega
        case c4 => omega
        case c5 => have := HX.out.1.size; simp; omega
        intro v' w6 hown6 hgrow6 _
        have hown6' : w6.ownsRow w.heap.size 3 1 v' (cnK zs ys (k + 1)).length ((cnK zs ys (k + 1)).map (Value.int .i64)) := by rw [HT.out]; simpa using hown6
        have H7 := Lib.hid hown6'
        have H8 := Lib.hid (And.intro ((HX.out.1.alloc HX.out.1.size _).grown hgrow6 (by have := HX.out.1.size; simp; omega) (fun q hq => (HOW.out.lt q hq).1)) ((HX.out.2.alloc _).grown hgrow6 (HOW.out.alloc _) (by decide)))
        clear hown6 hown6' hgrow6 hi hz0 hz1 hz2
        go_wp2
        go_roundw
        case rel => first | exact ⟨k + 1, by omega, by go_num, H7.out, H8⟩ | ((repeat apply Exists.intro); exact ⟨⟨k + 1, by omega, by go_num, H7.out, H8⟩, rfl⟩)
        case measure => simp [intOf]; omega
    · have hke : k = zs.length := by omega
      have hkk : ¬ ((k : Int) < zs.length) := by omega
      have HK := Lib.hid hke
      clear hke
      go_wp2
      go_ret2
      refine ⟨_, rfl, OwnI.of ?_ (Nat.le_refl _), HX.out.1⟩
      rw [← HK.out]
      exact HOW.out

set_option maxRecDepth 20000 in
set_option maxHeartbeats 4000000 in
theorem sChangedNodes (m a m2 a2 : Int) (zs ys : List Int) (s t : Value) (w : World) (hs : Row w s zs) (ht : Row w t ys) (hl : zs.length ≤ 1048576) (hl2 : ys.length ≤ 1048576) :
    Calls Try.prog 13 #[.agg #[.int .i64 m, .int .i64 a, s], .agg #[.int .i64 m2, .int .i64 a2, t]] w fun e w' => ∃ v, e = .returned (.tuple #[v, .bool (cnB m m2 zs ys)]) ∧ OwnI w w' v (cnL m m2 zs ys) ∧ Below w.heap.size w w' := by
  have hB : ∀ (A B C : Obj), Below w.heap.size w (((w.alloc A).alloc B).alloc C) := fun A B C => (((Below.refl _ _).alloc (Nat.le_refl _) _).alloc (by simp) _).alloc (by simp <;> omega) _
  obtain ⟨ad, cap, rfl, hz0⟩ := hs
  obtain ⟨ad2, cap2, rfl, hy0⟩ := ht
  have HY := Lib.hid hy0
  have HZ := Lib.hid hz0
  have HB := Lib.hid hB
  clear hz0 hB hy0
  unfold cnL
  by_cases hm : m = m2
  rotate_left
  · have d1 : (m != m2) = true := by simpa using hm
    have d2 : (m == m2) = false := by simpa using hm
    have hc : cnB m m2 zs ys = false := by simp [cnB, hm]
    rw [hc, if_neg (by decide)]
    clear hc
    go_enter Try.func13, Try.ntmps13
    go_wp2
    go_ret2
    exact ⟨_, rfl, ⟨_, 0, rfl, .inl rfl⟩, HB.out _ _ _⟩
  have d1 : (m != m2) = false := by simpa using hm
  have d2 : (m == m2) = true := by simpa using hm
  by_cases hn : zs.length = ys.length
  rotate_left
  · have e1 : ((zs.length : Int) != ys.length) = true := by simp; omega
    have e2 : ((zs.length : Int) == ys.length) = false := by simp; omega
    have e3 : ¬ ((zs.length : Int) = ys.length) := by omega
    have hc : cnB m m2 zs ys = false := by simp [cnB, hn]
    rw [hc, if_neg (by decide)]
    clear hc
    go_enter Try.func13, Try.ntmps13
    go_wp2
    go_ret2
    exact ⟨_, rfl, ⟨_, 0, rfl, .inl rfl⟩, HB.out _ _ _⟩
  have hc : cnB m m2 zs ys = true := by simp [cnB, hm, hn]
  rw [hc, if_pos rfl]
  have HN := Lib.hid hn
  subst hm
  obtain ⟨i0, hi, hz0', hz1, hz2⟩ := info_parts info_int2
  have HI : Hid (Try.prog.info? 3 = some i0 ∧ i0.zero = some (.int .i64 0) ∧ i0.size = 1 ∧ i0.bytes = 8) := Lib.hid ⟨hi, hz0', hz1, hz2⟩
  have hx0 : Box (((w.alloc (.cells #[.int .i64 m, .int .i64 a, .slice ad zs.length cap] 25)).alloc (.cells #[.int .i64 m, .int .i64 a2, .slice ad2 zs.length cap2] 25)).alloc (.cells #[] 3)) w.heap.size 25 #[.int .i64 m, .int .i64 a, .slice ad zs.length cap] := ((Box.new w _ _).alloc _).alloc _
  have hx1 : Box (((w.alloc (.cells #[.int .i64 m, .int .i64 a, .slice ad zs.length cap] 25)).alloc (.cells #[.int .i64 m, .int .i64 a2, .slice ad2 zs.length cap2] 25)).alloc (.cells #[] 3)) (w.heap.size + 1) 25 #[.int .i64 m, .int .i64 a2, .slice ad2 zs.length cap2] := by
    have := (Box.new (w.alloc (.cells #[.int .i64 m, .int .i64 a, .slice ad zs.length cap] 25)) 25 #[.int .i64 m, .int .i64 a2, .slice ad2 zs.length cap2]).alloc (.cells #[] 3)
    simpa using this
  have HX0 := Lib.hid (And.intro (HB.out (.cells #[.int .i64 m, .int .i64 a, .slice ad zs.length cap] 25) (.cells #[.int .i64 m, .int .i64 a2, .slice ad2 zs.length cap2] 25) (.cells #[] 3)) (And.intro hx0 hx1))
  clear hi hz0' hz1 hz2 hx0 hx1 hc
  rw [← hn]
  clear hn
  go_enter Try.func13, Try.ntmps13
  go_wp2
  go_loopw [7, 6] (fun c v wr => ∃ k : Nat, k ≤ zs.length ∧ c = .int .i64 k ∧ wr.ownsRow (w.heap.size + 2) 3 1 v (cnK zs ys k).length ((cnK zs ys k).map (Value.int .i64)) ∧ Hid (Below w.heap.size w wr ∧ Box wr w.heap.size 25 #[.int .i64 m, .int .i64 a, .slice ad zs.length cap] ∧ Box wr (w.heap.size + 1) 25 #[.int .i64 m, .int .i64 a2, .slice ad2 zs.length cap2])) (fun c _ _ => zs.length - (intOf c).toNat)
  case atStart => exact ⟨0, Nat.zero_le _, rfl, by have := own_empty ((w.alloc (.cells #[.int .i64 m, .int .i64 a, .slice ad zs.length cap] 25)).alloc (.cells #[.int .i64 m, .int .i64 a2, .slice ad2 zs.length cap2] 25)) 3 (w.heap.size + 2) (by simp); simpa [cnK] using this, HX0⟩
  case round =>
    obtain ⟨k, hk, rfl, hown, HX⟩ := hrel
    have HOW := Lib.hid hown
    have hlo := HX.out.2.1.lt
    have hlo2 := HX.out.2.2.lt
    have x2 : wr.cell? ⟨w.heap.size, 2, none⟩ = some (.slice ad zs.length cap) := by simpa using HX.out.2.1.cell 2
    have y2 : wr.cell? ⟨w.heap.size + 1, 2, none⟩ = some (.slice ad2 zs.length cap2) := by simpa using HX.out.2.2.cell 2
    clear hown
    by_cases hlt : k < zs.length
    · have hlt' : (k : Int) < zs.length := by omega
      rcases HZ.out with h0' | ⟨b, off, rfl, hb, hc⟩
      · rw [h0'] at hlt; simp at hlt
      rcases HY.out with h0'' | ⟨b2, off2, rfl, hb2, hc2⟩
      · have := HN.out; rw [h0''] at this; simp at this; rw [this] at hlt; simp at hlt
      obtain ⟨x, hx⟩ : ∃ x, x = zs.getD k 0 := ⟨_, rfl⟩
      obtain ⟨y, hy⟩ : ∃ y, y = ys.getD k 0 := ⟨_, rfl⟩
      have h1 := hc k hlt
      have h2 := hc2 k (by have := HN.out; omega)
      rw [← hx] at h1
      rw [← hy] at h2
      have hst := cnK_succ zs ys k
      rw [← hx, ← hy] at hst
      have ff : ∀ w', Below wr.heap.size wr w' → w'.cell? ⟨w.heap.size, 2, none⟩ = some (.slice (some ⟨b, off, none⟩) zs.length cap) ∧ w'.cell? ⟨w.heap.size + 1, 2, none⟩ = some (.slice (some ⟨b2, off2, none⟩) zs.length cap2) ∧ w'.cell? ⟨b, off + k, none⟩ = some (.int .i64 x) ∧ w'.cell? ⟨b2, off2 + k, none⟩ = some (.int .i64 y) := fun w' h =>
        ⟨(h.cell (p := ⟨_, _, none⟩) hlo).trans x2, (h.cell (p := ⟨_, _, none⟩) hlo2).trans y2, ((bel_trans HX.out.1 h).cell (p := ⟨b, _, none⟩) hb).trans h1, ((bel_trans HX.out.1 h).cell (p := ⟨b2, _, none⟩) hb2).trans h2⟩
      have FF := Lib.hid ff
      have hln : (cnK zs ys k).length ≤ k := cnK_len _ _ _
      clear hc hc2 h1 h2 hx hy ff
      cases hxy : (x != y)
      · rw [hxy, if_neg (by decide), List.append_nil] at hst
        have HT := Lib.hid hst
        have hxe : x = y := by simpa using hxy
        clear hst
        go_wp2
        clear x2 y2
        refine wp_region_below (by kernel_rfl) (by kernel_rfl) ?_
        repeat (go_big_quiet_step ((intro hw; first | with_reducible rfl | (obtain ⟨f0, f1, f2, f3⟩ := FF.out _ hw; simp only [f0, f1, f2, f3, Result.andThen]; first | exact ⟨trivial, rfl⟩ | exact ⟨rfl, rfl⟩))))
        refine wpQuiet_nil ?_
        intro w2 hw2
        have HX2 := Lib.hid (And.intro (bel_trans HX.out.1 hw2) (And.intro (HX.out.2.1.keep hw2) (HX.out.2.2.keep hw2)))
        have HOW2 := Lib.hid (own_keep HOW.out hw2)
        clear hw2
        go_wp2
        go_roundw
        case rel => first | exact ⟨k + 1, by omega, by go_num, by rw [HT.out]; exact HOW2.out, HX2⟩ | ((repeat apply Exists.intro); exact ⟨⟨k + 1, by omega, by go_num, by rw [HT.out]; exact HOW2.out, HX2⟩, rfl⟩)
        case measure => simp [intOf]; omega
      · rw [hxy, if_pos rfl] at hst
        have HT := Lib.hid hst
        have hxe : ¬ x = y := by simpa using hxy
        clear hst
        go_wp2
        clear x2 y2
        refine wp_region_below (by kernel_rfl) (by kernel_rfl) ?_
        repeat (go_big_quiet_step ((intro hw; first | with_reducible rfl | (obtain ⟨f0, f1, f2, f3⟩ := FF.out _ hw; simp only [f0, f1, f2, f3, Result.andThen]; first | exact ⟨trivial, rfl⟩ | exact ⟨rfl, rfl⟩))))
        refine wpQuiet_nil ?_
        intro w2 hw2
        have HX2 := Lib.hid (And.intro (bel_trans HX.out.1 hw2) (And.intro (HX.out.2.1.keep hw2) (HX.out.2.2.keep hw2)))
        have HOW2 := Lib.hid (own_keep HOW.out hw2)
        clear hw2
        obtain ⟨hi, hz0, hz1, hz2⟩ := HI.out
        go_wp2_with (at_builtin; refine wpList_append_own _ rfl (.tmp 42) (.tmp 44) 23 rfl (w.heap.size + 2) 3 i0 (.int .i64 0) 1 8 Try.underlying23 hi hz0 hz1 hz2 rfl (by decide) _ _ _ rfl (HOW2.out.alloc _) ⟨w2.heap.size, 0, none⟩ 1 1 [.int .i64 k] rfl rfl ?c1 ?c2 ?c3 ?c4 ?c5 ?_)
        case c1 => exact cell_one_new _ _ _
        case c2 => simp [Value.oneCell']
        case c3 => unfold maxLen; omega
        case c4 => omega
        case c5 => have := HX2.out.2.2.lt; simp; omega
        intro v' w6 hown6 hgrow6 _
        have hown6' : w6.ownsRow (w.heap.size + 2) 3 1 v' (cnK zs ys (k + 1)).length ((cnK zs ys (k + 1)).map (Value.int .i64)) := by rw [HT.out]; simpa using hown6
        have H7 := Lib.hid hown6'
        have H8 := Lib.hid (And.intro ((HX2.out.1.alloc HX2.out.1.size _).grown hgrow6 (by have := HX2.out.1.size; simp; omega) (fun q hq => by have := (HOW2.out.lt q hq).1; omega)) (And.intro ((HX2.out.2.1.alloc _).grown hgrow6 (HOW2.out.alloc _) (by decide)) ((HX2.out.2.2.alloc _).grown hgrow6 (HOW2.out.alloc _) (by decide))))
        clear hown6 hown6' hgrow6 hi hz0 hz1 hz2
        go_wp2
        go_roundw
        case rel => first | exact ⟨k + 1, by omega, by go_num, H7.out, H8⟩ | ((repeat apply Exists.intro); exact ⟨⟨k + 1, by omega, by go_num, H7.out, H8⟩, rfl⟩)
        case measure => simp [intOf]; omega
    · have hke : k = zs.length := by omega
      have hkk : ¬ ((k : Int) < zs.length) := by omega
      have HK := Lib.hid hke
      clear hke
      go_wp2
      go_ret2
      refine ⟨_, rfl, OwnI.of ?_ (show w.heap.size ≤ w.heap.size + 2 by omega), HX.out.1⟩
      rw [← HK.out]
      exact HOW.out
end Go.Proofs.Ytbhhbhopogkmnaa
