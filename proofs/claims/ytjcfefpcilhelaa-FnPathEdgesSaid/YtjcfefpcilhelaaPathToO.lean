/- PathTo of the model: the path is in memory that can be appended to. -/
import Derived.Test.YtjcfefpcilhelaaPathToS
namespace Go.Proofs.Ytjcfefpcilhelaa
open Go.RowKit Go.BigFrame Go.Deep Go.Joins
set_option linter.unusedVariables false
set_option linter.unusedSimpArgs false

set_option maxRecDepth 20000 in
set_option maxHeartbeats 4000000 in
theorem sPathToO (L src x : Int) (xs ps vs : List Int) (a b c : Value) (w : World) (ha : Row w a xs) (hb : Row w b ps) (hc : Row w c vs) (hl : ps.length ≤ 1048576) :
    Calls Try.prog 48 #[.agg #[a, b, c, .int .i64 L], .int .i64 src, .int .i64 x] w fun e w' => ∃ v, e = .returned (.tuple #[v, .bool (ptB ps src x)]) ∧ OwnI w w' v (ptL ps src x) ∧ Below w.heap.size w w' ∧ (ptB ps src x = true → w'.ownsRow (w.heap.size + 1) 3 1 v (ptL ps src x).length ((ptL ps src x).map (Value.int .i64))) := by
  obtain ⟨aa, ac, rfl, hz0⟩ := ha
  obtain ⟨ba, bc, rfl, hz1⟩ := hb
  obtain ⟨da, dc, rfl, hz2⟩ := hc
  have HY := Lib.hid hz1
  have hx0 : Box ((w.alloc (.cells #[.slice aa xs.length ac, .slice ba ps.length bc, .slice da vs.length dc, .int .i64 L] 64)).alloc (.cells #[] 3)) w.heap.size 64 #[.slice aa xs.length ac, .slice ba ps.length bc, .slice da vs.length dc, .int .i64 L] := (Box.new w 64 #[.slice aa xs.length ac, .slice ba ps.length bc, .slice da vs.length dc, .int .i64 L]).alloc _
  have hb2 : Below w.heap.size w ((w.alloc (.cells #[.slice aa xs.length ac, .slice ba ps.length bc, .slice da vs.length dc, .int .i64 L] 64)).alloc (.cells #[] 3)) := ((Below.refl w.heap.size w).alloc (Nat.le_refl _) _).alloc (by simp) _
  have HX0 := Lib.hid (And.intro hb2 hx0)
  have HO0 : Hid (World.ownsRow ((w.alloc (.cells #[.slice aa xs.length ac, .slice ba ps.length bc, .slice da vs.length dc, .int .i64 L] 64)).alloc (.cells #[] 3)) (w.heap.size + 1) 3 1 (.slice (some ⟨w.heap.size + 1, 0, none⟩) 0 0) 0 []) := Lib.hid (by have := own_empty (w.alloc (.cells #[.slice aa xs.length ac, .slice ba ps.length bc, .slice da vs.length dc, .int .i64 L] 64)) 3 (w.heap.size + 1) (by simp); simpa using this)
  obtain ⟨i0, hi, hz0', hz1', hz2'⟩ := info_parts info_int2
  have HI : Hid (Try.prog.info? 3 = some i0 ∧ i0.zero = some (.int .i64 0) ∧ i0.size = 1 ∧ i0.bytes = 8) := Lib.hid ⟨hi, hz0', hz1', hz2'⟩
  clear hz0 hz1 hz2 hx0 hb2 hi hz0' hz1' hz2'
  go_enter Try.func48, Try.ntmps48
  go_wp2
  go_loopw [10, 9, 8] (fun c nd v wr => ∃ (k : Nat) (y : Int) (acc : List Int) (g cap : Nat), k ≤ ps.length + 1 ∧ c = .int .i64 k ∧ nd = .int .i64 y ∧ v = .slice (some ⟨g, 0, none⟩) acc.length cap ∧ Hid (acc.length = k ∧ ptR ps src x = ptGo ps src (ps.length + 1 - k) y acc) ∧ Hid (wr.ownsRow (w.heap.size + 1) 3 1 (.slice (some ⟨g, 0, none⟩) acc.length cap) acc.length (acc.map (Value.int .i64))) ∧ Hid (Below w.heap.size w wr ∧ Box wr w.heap.size 64 #[.slice aa xs.length ac, .slice ba ps.length bc, .slice da vs.length dc, .int .i64 L])) (fun c _ _ _ => ps.length + 1 - (intOf c).toNat)
  case atStart => exact ⟨0, x, [], w.heap.size + 1, 0, Nat.zero_le _, rfl, rfl, rfl, Lib.hid ⟨rfl, rfl⟩, HO0, HX0⟩
  case round =>
    obtain ⟨k, y, acc, g, cap, hk, rfl, rfl, rfl, HE, HOW, HX⟩ := hrel
    have x1 : wr.cell? ⟨w.heap.size, 1, none⟩ = some (.slice ba ps.length bc) := by simpa using HX.out.2.cell 1
    by_cases hlt : k < ps.length + 1
    · have hlt' : (k : Int) ≤ (ps.length : Int) := by omega
      have hstep : ptR ps src x = ptGo ps src ((ps.length - k) + 1) y acc := by rw [HE.out.2]; congr 1; omega
      rw [ptGo] at hstep
      by_cases hneg : y < 0
      · have e0 : inP ps y = false := by unfold inP; rw [decide_eq_false (by omega)]; rfl
        rw [e0, if_neg (by decide)] at hstep
        obtain ⟨e1, e2⟩ := pt_none hstep
        have HE1 := Lib.hid (And.intro e1 e2)
        clear hstep e0 e1 e2
        go_wp2
        go_ret2
        exact ⟨.slice (some ⟨wr.heap.size, 0, none⟩) 0 0, by rw [HE1.out.1]; rfl, by rw [HE1.out.2]; exact ⟨_, 0, rfl, .inl rfl⟩, HX.out.1.alloc HX.out.1.size _, fun h9 => by rw [HE1.out.1] at h9; cases h9⟩
      obtain ⟨Y, rfl⟩ : ∃ Y : Nat, y = Y := ⟨y.toNat, by omega⟩
      have d0 : decide ((Y : Int) < 0) = false := decide_eq_false hneg
      by_cases hge : ps.length ≤ Y
      · have e0 : inP ps Y = false := by unfold inP; rw [decide_eq_false (show ¬ ((Y : Int) < ps.length) by omega), Bool.and_false]
        rw [e0, if_neg (by decide)] at hstep
        obtain ⟨e1, e2⟩ := pt_none hstep
        have HE1 := Lib.hid (And.intro e1 e2)
        have d1 : (ps.length : Int) ≤ Y := by omega
        clear hstep e0 e1 e2 hge hneg
        go_wp2
        go_ret2
        exact ⟨.slice (some ⟨wr.heap.size, 0, none⟩) 0 0, by rw [HE1.out.1]; rfl, by rw [HE1.out.2]; exact ⟨_, 0, rfl, .inl rfl⟩, HX.out.1.alloc HX.out.1.size _, fun h9 => by rw [HE1.out.1] at h9; cases h9⟩
      have d1 : decide ((ps.length : Int) ≤ Y) = false := decide_eq_false (by omega)
      have hyl : Y < ps.length := by omega
      have hyl' : (Y : Int) < ps.length := by omega
      have e0 : inP ps Y = true := by unfold inP; rw [decide_eq_true (by omega), decide_eq_true hyl']; rfl
      rw [e0, if_pos rfl, Int.toNat_natCast] at hstep
      have hal : acc.length = k := HE.out.1
      have HAL := Lib.hid hal
      have hsz : w.heap.size + 1 ≤ wr.heap.size := HX.out.2.lt
      obtain ⟨hi, hz0, hz1, hz2⟩ := HI.out
      have HON := Lib.hid (own_one wr 3 (w.heap.size + 1) hsz (.int .i64 (Y : Int)))
      have HCE := Lib.hid (own_cells (HOW.out.alloc (.cells #[.int .i64 (Y : Int)] 3)))
      clear e0 hge hneg hal
      by_cases hs : (Y : Int) = src
      · rw [if_pos hs] at hstep
        obtain ⟨e1, e2⟩ := pt_some hstep
        have HE1 := Lib.hid (And.intro e1 e2)
        have ds : ((Y : Int) == src) = true := by simpa using hs
        clear hstep e1 e2 hs
        go_wp2_with (at_builtin; refine wpList_append_own _ rfl (.tmp 31) (.tmp 32) 28 rfl (w.heap.size + 1) 3 i0 (.int .i64 0) 1 8 Try.underlying28 hi hz0 hz1 hz2 rfl (by decide) _ _ _ rfl HON.out ⟨g, 0, none⟩ acc.length cap (acc.map (Value.int .i64)) rfl (by simp) ?c1 ?c2 ?c3 ?c4 ?c5 ?_)
        case c1 => exact HCE.out
        case c2 => intro u hu; obtain ⟨q, _, rfl⟩ := List.mem_map.1 hu; rfl
        case c3 => have := HAL.out; unfold maxLen; omega
        case c4 => have := HAL.out; omega
        case c5 => simp; omega
        intro v' w6 hown6 hgrow6 _
        have HO6 : Hid (w6.ownsRow (w.heap.size + 1) 3 1 v' ((Y : Int) :: acc).length ((((Y : Int) :: acc)).map (Value.int .i64))) := Lib.hid (by simpa [Nat.add_comm] using hown6)
        have HB6 := Lib.hid ((HX.out.1.alloc HX.out.1.size _).grown hgrow6 (by simp; omega) (fun q hq => by have := (HON.out.lt q hq).1; omega))
        clear hown6 hgrow6 hi hz0 hz1 hz2 HI x1
        go_wp2
        go_ret2
        refine ⟨_, by rw [HE1.out.1]; rfl, ?_, HB6.out, fun _ => by rw [HE1.out.2]; exact HO6.out⟩
        rw [HE1.out.2]
        exact OwnI.of HO6.out (Nat.le_succ _)
      · rw [if_neg hs] at hstep
        have ds : ((Y : Int) == src) = false := by simpa using hs
        rcases HY.out with h0 | ⟨pb, po, rfl, hpb, hpc⟩
        · rw [h0] at hyl; simp at hyl
        obtain ⟨z, hz⟩ : ∃ z, z = ps.getD Y 0 := ⟨_, rfl⟩
        have hcz := hpc Y hyl
        rw [← hz] at hcz hstep
        have HCZ := Lib.hid hcz
        have HST := Lib.hid hstep
        clear hstep hs hpc hcz hz
        go_wp2_with (at_builtin; refine wpList_append_own _ rfl (.tmp 31) (.tmp 32) 28 rfl (w.heap.size + 1) 3 i0 (.int .i64 0) 1 8 Try.underlying28 hi hz0 hz1 hz2 rfl (by decide) _ _ _ rfl HON.out ⟨g, 0, none⟩ acc.length cap (acc.map (Value.int .i64)) rfl (by simp) ?c1 ?c2 ?c3 ?c4 ?c5 ?_)
        case c1 => exact HCE.out
        case c2 => intro u hu; obtain ⟨q, _, rfl⟩ := List.mem_map.1 hu; rfl
        case c3 => have := HAL.out; unfold maxLen; omega
        case c4 => have := HAL.out; omega
        case c5 => simp; omega
        intro v' w6 hown6 hgrow6 _
        have HO6 : Hid (w6.ownsRow (w.heap.size + 1) 3 1 v' ((Y : Int) :: acc).length ((((Y : Int) :: acc)).map (Value.int .i64))) := Lib.hid (by simpa [Nat.add_comm] using hown6)
        have HX6 := Lib.hid (And.intro ((HX.out.1.alloc HX.out.1.size _).grown hgrow6 (by simp; omega) (fun q hq => by have := (HON.out.lt q hq).1; omega)) ((HX.out.2.alloc _).grown hgrow6 HON.out (by decide)))
        have y1 : w6.cell? ⟨w.heap.size, 1, none⟩ = some (.slice (some ⟨pb, po, none⟩) ps.length bc) := by simpa using HX6.out.2.cell 1
        have y2 := (HX6.out.1.cell (p := ⟨pb, po + Y, none⟩) hpb).trans HCZ.out
        obtain ⟨g6, cp6, e6⟩ := ownsRow_form HO6.out (by simp)
        have HE6 := Lib.hid e6
        clear hown6 hgrow6 hi hz0 hz1 hz2 x1 e6
        go_wp2
        go_roundw
        case rel => first | exact ⟨k + 1, z, (Y : Int) :: acc, g6, cp6, by omega, by go_num, rfl, HE6.out, Lib.hid ⟨by have := HAL.out; simp; omega, by rw [HST.out]; congr 1; omega⟩, Lib.hid (by rw [← HE6.out]; exact HO6.out), HX6⟩ | ((repeat apply Exists.intro); exact ⟨⟨k + 1, z, (Y : Int) :: acc, g6, cp6, by omega, by go_num, rfl, HE6.out, Lib.hid ⟨by have := HAL.out; simp; omega, by rw [HST.out]; congr 1; omega⟩, Lib.hid (by rw [← HE6.out]; exact HO6.out), HX6⟩, rfl⟩)
        case measure => simp [intOf]; omega
    · have hkk : ¬ ((k : Int) ≤ (ps.length : Int)) := by omega
      have e0 : ptR ps src x = none := by rw [HE.out.2, show ps.length + 1 - k = 0 by omega]; rfl
      obtain ⟨e1, e2⟩ := pt_none e0
      have HE1 := Lib.hid (And.intro e1 e2)
      clear e0 e1 e2
      go_wp2
      go_ret2
      exact ⟨.slice (some ⟨wr.heap.size, 0, none⟩) 0 0, by rw [HE1.out.1]; rfl, by rw [HE1.out.2]; exact ⟨_, 0, rfl, .inl rfl⟩, HX.out.1.alloc HX.out.1.size _, fun h9 => by rw [HE1.out.1] at h9; cases h9⟩
end Go.Proofs.Ytjcfefpcilhelaa
