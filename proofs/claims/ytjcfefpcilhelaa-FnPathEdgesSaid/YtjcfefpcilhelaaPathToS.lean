/- slices.Reverse at a row of the call's own. PathTo, in the program. PathTo, in the model. -/
import Derived.Test.YtjcfefpcilhelaaShR
import Derived.Test.YtjcfefpcilhelaaNext
import Derived.Lib.OwnBridge
import Derived.Test.YtjcfefpcilhelaaBoxes
import Derived.Lib.FrozenHead
import Derived.Lib.SmallJoins
namespace Go.Proofs.Ytjcfefpcilhelaa
open Go.RowKit Go.BigFrame Go.Deep Go.Lib Go.Sort
set_option linter.unusedVariables false
set_option linter.unusedSimpArgs false

theorem reverseI (zs : List Int) (base : Nat) (v : Value) (w : World) (h : w.ownsRow base 3 1 v zs.length (zs.map (Value.int .i64))) (hl : zs.length ≤ 9223372036854775807) :
    Calls Try.prog 90 #[v] w fun e w' => e = .returned (.tuple #[]) ∧ w'.ownsRow base 3 1 v zs.length (zs.reverse.map (Value.int .i64)) ∧ (∀ W : World, W.heap.size ≤ base → Below W.heap.size W w → Below W.heap.size W w') := by
  by_cases hv : v = .slice none 0 0
  · subst hv
    have hz : zs = [] := by
      rcases h.2 with ⟨_, h0⟩ | ⟨g, cap, cur, e0, _⟩
      · exact List.length_eq_zero_iff.1 h0
      · cases e0
    subst hz
    exact (Any.slices_Reverse_int_empty Try.lays112 none 0 w).mono fun e w' ⟨he, hw⟩ => ⟨he, by subst hw; exact h, fun W _ hb => by subst hw; exact hb⟩
  · obtain ⟨g, cap, rfl, hb, hg, hn, hm, _, hH⟩ := holds_of_ownsRow h hv
    refine (Any.slices_Reverse_int Try.lays112 g 0 cap zs w hH hl).mono ?_
    rintro e w' ⟨he, q, rfl⟩
    refine ⟨he, ?_, fun W hW hB => below_putRow hB (by omega)⟩
    have h2 := ownsRow_putRow (ys := zs.reverse) (q := q) (k := zs.length) h (by simp) (Nat.le_refl _)
    rw [List.take_of_length_le (by simp)] at h2
    exact h2
end Go.Proofs.Ytjcfefpcilhelaa
namespace Go.Proofs.Ytjcfefpcilhelaa
open Go.RowKit Go.BigFrame Go.Deep
set_option linter.unusedVariables false
set_option linter.unusedSimpArgs false

/-- Is it the index of an element? -/
def inP (ps : List Int) (x : Int) : Bool := decide (0 ≤ x) && decide (x < ps.length)
/-- The nodes from the source to a node: k steps at most; what has been passed lies ahead, the last one first. -/
def ptGo (ps : List Int) (src : Int) : Nat → Int → List Int → Option (List Int)
  | 0, _, _ => none
  | k + 1, x, acc => if inP ps x = true then (if x = src then some (x :: acc) else ptGo ps src k (ps.getD x.toNat 0) (x :: acc)) else none
def ptR (ps : List Int) (src x : Int) : Option (List Int) := ptGo ps src (ps.length + 1) x []
def ptB (ps : List Int) (src x : Int) : Bool := (ptR ps src x).isSome
def ptL (ps : List Int) (src x : Int) : List Int := (ptR ps src x).getD []
theorem ptGo_len {ps : List Int} {src : Int} : ∀ {k : Nat} {x : Int} {acc r : List Int}, ptGo ps src k x acc = some r → r.length ≤ acc.length + k := by
  intro k
  induction k with
  | zero => intro x acc r h; cases h
  | succ k ih =>
    intro x acc r h
    rw [ptGo] at h
    split at h
    · split at h
      · injection h with h; rw [← h]; simp
      · have := ih h; simp at this; omega
    · cases h
theorem ptL_len (ps : List Int) (src x : Int) : (ptL ps src x).length ≤ ps.length + 1 := by
  unfold ptL ptR
  cases h : ptGo ps src (ps.length + 1) x [] with
  | none => simp
  | some r => have := ptGo_len h; simpa using this
theorem pt_none {ps : List Int} {src x : Int} (h : ptR ps src x = none) : ptB ps src x = false ∧ ptL ps src x = [] := by unfold ptB ptL; rw [h]; exact ⟨rfl, rfl⟩
theorem pt_some {ps : List Int} {src x : Int} {r : List Int} (h : ptR ps src x = some r) : ptB ps src x = true ∧ ptL ps src x = r := by unfold ptB ptL; rw [h]; exact ⟨rfl, rfl⟩

set_option maxRecDepth 20000 in
set_option maxHeartbeats 4000000 in
theorem pathTo (L src x : Int) (xs ps vs : List Int) (a b c : Value) (w : World) (ha : Row w a xs) (hb : Row w b ps) (hc : Row w c vs) (hl : ps.length ≤ 1048576) :
    Calls Try.prog 47 #[.agg #[a, b, c, .int .i64 L], .int .i64 src, .int .i64 x] w fun e w' => ∃ v, e = .returned (.tuple #[v, .bool (ptB ps src x)]) ∧ OwnI w w' v (ptL ps src x) ∧ Below w.heap.size w w' := by
  obtain ⟨aa, ac, rfl, hz0⟩ := ha
  obtain ⟨ba, bc, rfl, hz1⟩ := hb
  obtain ⟨da, dc, rfl, hz2⟩ := hc
  have HY := Lib.hid hz1
  have hx0 := Box.new w 64 #[.slice aa xs.length ac, .slice ba ps.length bc, .slice da vs.length dc, .int .i64 L]
  have HX0 := Lib.hid (And.intro ((Below.refl w.heap.size w).alloc (Nat.le_refl _) (.cells #[.slice aa xs.length ac, .slice ba ps.length bc, .slice da vs.length dc, .int .i64 L] 64)) hx0)
  obtain ⟨i0, hi, hz0', hz1', hz2'⟩ := info_parts info_int2
  have HI : Hid (Try.prog.info? 3 = some i0 ∧ i0.zero = some (.int .i64 0) ∧ i0.size = 1 ∧ i0.bytes = 8) := Lib.hid ⟨hi, hz0', hz1', hz2'⟩
  clear hz0 hz1 hz2 hx0 hi hz0' hz1' hz2'
  have hrev := fun zs v w' h h2 => reverseI zs w.heap.size v w' h h2
  have HREV := Lib.hid hrev
  clear hrev
  go_enter Try.func47, Try.ntmps47
  go_wp2
  go_loopw [13, 2, 8] (fun c nd v wr => ∃ (k : Nat) (y : Int) (acc : List Int), k ≤ ps.length + 1 ∧ c = .int .i64 k ∧ nd = .int .i64 y ∧ Hid (acc.length = k ∧ ptR ps src x = ptGo ps src (ps.length + 1 - k) y acc) ∧ Hid (wr.ownsRow w.heap.size 3 1 v acc.length (acc.reverse.map (Value.int .i64))) ∧ Hid (Below w.heap.size w wr ∧ Box wr w.heap.size 64 #[.slice aa xs.length ac, .slice ba ps.length bc, .slice da vs.length dc, .int .i64 L])) (fun c _ _ _ => ps.length + 1 - (intOf c).toNat)
  case atStart => exact ⟨0, x, [], Nat.zero_le _, rfl, rfl, Lib.hid ⟨rfl, rfl⟩, Lib.hid ⟨by simp, .inl ⟨rfl, by simp⟩⟩, HX0⟩
  case round =>
    obtain ⟨k, y, acc, hk, rfl, rfl, HE, HOW, HX⟩ := hrel
    have x1 : wr.cell? ⟨w.heap.size, 1, none⟩ = some (.slice ba ps.length bc) := by simpa using HX.out.2.cell 1
    by_cases hlt : k < ps.length + 1
    · have hlt' : (k : Int) < (ps.length : Int) + 1 := by omega
      have hstep : ptR ps src x = ptGo ps src ((ps.length - k) + 1) y acc := by rw [HE.out.2]; congr 1; omega
      rw [ptGo] at hstep
      by_cases hneg : y < 0
      · have e0 : inP ps y = false := by unfold inP; rw [decide_eq_false (by omega)]; rfl
        rw [e0, if_neg (by decide)] at hstep
        obtain ⟨e1, e2⟩ := pt_none hstep
        have HE1 := Lib.hid (And.intro e1 e2)
        clear hstep e0 e1 e2
        go_wp2
        go_ret2
        exact ⟨.slice none 0 0, by rw [HE1.out.1]; rfl, by rw [HE1.out.2]; exact ⟨none, 0, rfl, .inl rfl⟩, HX.out.1⟩
      obtain ⟨Y, rfl⟩ : ∃ Y : Nat, y = Y := ⟨y.toNat, by omega⟩
      have d0 : decide ((Y : Int) < 0) = false := decide_eq_false hneg
      by_cases hge : ps.length ≤ Y
      · have e0 : inP ps Y = false := by unfold inP; rw [decide_eq_false (show ¬ ((Y : Int) < ps.length) by omega), Bool.and_false]
        rw [e0, if_neg (by decide)] at hstep
        obtain ⟨e1, e2⟩ := pt_none hstep
        have HE1 := Lib.hid (And.intro e1 e2)
        have d1 : (ps.length : Int) ≤ Y := by omega
        clear hstep e0 e1 e2 hge hneg
        go_wp2
        go_ret2
        exact ⟨.slice none 0 0, by rw [HE1.out.1]; rfl, by rw [HE1.out.2]; exact ⟨none, 0, rfl, .inl rfl⟩, HX.out.1⟩
      have d1 : decide ((ps.length : Int) ≤ Y) = false := decide_eq_false (by omega)
      have hyl : Y < ps.length := by omega
      have hyl' : (Y : Int) < ps.length := by omega
      have e0 : inP ps Y = true := by unfold inP; rw [decide_eq_true (by omega), decide_eq_true hyl']; rfl
      rw [e0, if_pos rfl, Int.toNat_natCast] at hstep
      have hal : acc.length = k := HE.out.1
      have HAL := Lib.hid hal
      obtain ⟨hi, hz0, hz1, hz2⟩ := HI.out
      by_cases hs : (Y : Int) = src
      · rw [if_pos hs] at hstep
        obtain ⟨e1, e2⟩ := pt_some hstep
        have HE1 := Lib.hid (And.intro e1 e2)
        have ds : ((Y : Int) == src) = true := by simpa using hs
        clear hstep e0 e1 e2 hge hneg hal hs
        go_wp2_with (first | (at_builtin; refine wpList_append_own _ rfl (.tmp 24) (.tmp 26) 28 rfl w.heap.size 3 i0 (.int .i64 0) 1 8 Try.underlying28 hi hz0 hz1 hz2 rfl (by decide) _ _ _ rfl (HOW.out.alloc _) ⟨wr.heap.size, 0, none⟩ 1 1 [.int .i64 (Y : Int)] rfl rfl ?c1 ?c2 ?c3 ?c4 ?c5 ?_))
        case c1 => exact cell_one_new _ _ _
        case c2 => simp [Value.oneCell']
        case c3 => have := HAL.out; unfold maxLen; omega
        case c4 => have := HAL.out; omega
        case c5 => have := HX.out.2.lt; simp; omega
        intro v' w6 hown6 hgrow6 _
        have HO6 : Hid (w6.ownsRow w.heap.size 3 1 v' (((Y : Int) :: acc).reverse).length ((((Y : Int) :: acc).reverse).map (Value.int .i64))) := Lib.hid (by simpa using hown6)
        have HB6 := Lib.hid ((HX.out.1.alloc HX.out.1.size _).grown hgrow6 (by have := HX.out.1.size; simp; omega) (fun q hq => by have := (HOW.out.lt q hq).1; omega))
        clear hown6 hgrow6 hi hz0 hz1 hz2 HI x1
        go_wp2_with (go_at_call 90; refine (HREV.out _ v' w6 HO6.out (by have := HAL.out; simp; omega)).mono ?_; rintro e w7 ⟨rfl, hown7, hB7⟩)
        go_ret2
        refine ⟨_, by rw [HE1.out.1]; rfl, ?_, hB7 w (Nat.le_refl _) HB6.out⟩
        rw [HE1.out.2]
        have h8 : w7.ownsRow w.heap.size 3 1 v' ((Y : Int) :: acc).length (((Y : Int) :: acc).map (Value.int .i64)) := by simpa using hown7
        exact OwnI.of h8 (Nat.le_refl _)
      · rw [if_neg hs] at hstep
        have ds : ((Y : Int) == src) = false := by simpa using hs
        rcases HY.out with h0 | ⟨pb, po, rfl, hpb, hpc⟩
        · rw [h0] at hyl; simp at hyl
        obtain ⟨z, hz⟩ : ∃ z, z = ps.getD Y 0 := ⟨_, rfl⟩
        have hcz := hpc Y hyl
        rw [← hz] at hcz hstep
        have HCZ := Lib.hid hcz
        have HST := Lib.hid hstep
        clear hstep e0 hge hneg hal hs hpc hcz hz
        go_wp2_with (at_builtin; refine wpList_append_own _ rfl (.tmp 24) (.tmp 26) 28 rfl w.heap.size 3 i0 (.int .i64 0) 1 8 Try.underlying28 hi hz0 hz1 hz2 rfl (by decide) _ _ _ rfl (HOW.out.alloc _) ⟨wr.heap.size, 0, none⟩ 1 1 [.int .i64 (Y : Int)] rfl rfl ?c1 ?c2 ?c3 ?c4 ?c5 ?_)
        case c1 => exact cell_one_new _ _ _
        case c2 => simp [Value.oneCell']
        case c3 => have := HAL.out; unfold maxLen; omega
        case c4 => have := HAL.out; omega
        case c5 => have := HX.out.2.lt; simp; omega
        intro v' w6 hown6 hgrow6 _
        have HO6 : Hid (w6.ownsRow w.heap.size 3 1 v' ((Y : Int) :: acc).length ((((Y : Int) :: acc).reverse).map (Value.int .i64))) := Lib.hid (by simpa using hown6)
        have HX6 := Lib.hid (And.intro ((HX.out.1.alloc HX.out.1.size _).grown hgrow6 (by have := HX.out.1.size; simp; omega) (fun q hq => by have := (HOW.out.lt q hq).1; omega)) ((HX.out.2.alloc _).grown hgrow6 (HOW.out.alloc _) (by decide)))
        have y1 : w6.cell? ⟨w.heap.size, 1, none⟩ = some (.slice (some ⟨pb, po, none⟩) ps.length bc) := by simpa using HX6.out.2.cell 1
        have y2 := (HX6.out.1.cell (p := ⟨pb, po + Y, none⟩) hpb).trans HCZ.out
        clear hown6 hgrow6 hi hz0 hz1 hz2 x1
        go_wp2
        go_roundw
        case rel => first | exact ⟨k + 1, z, (Y : Int) :: acc, by omega, by go_num, rfl, Lib.hid ⟨by have := HAL.out; simp; omega, by rw [HST.out]; congr 1; omega⟩, HO6, HX6⟩ | ((repeat apply Exists.intro); exact ⟨⟨k + 1, z, (Y : Int) :: acc, by omega, by go_num, rfl, Lib.hid ⟨by have := HAL.out; simp; omega, by rw [HST.out]; congr 1; omega⟩, HO6, HX6⟩, rfl⟩)
        case measure => simp [intOf]; omega
    · have hkk : ¬ ((k : Int) < (ps.length : Int) + 1) := by omega
      have e0 : ptR ps src x = none := by rw [HE.out.2, show ps.length + 1 - k = 0 by omega]; rfl
      obtain ⟨e1, e2⟩ := pt_none e0
      have HE1 := Lib.hid (And.intro e1 e2)
      clear e0 e1 e2
      go_wp2
      go_ret2
      exact ⟨.slice none 0 0, by rw [HE1.out.1]; rfl, by rw [HE1.out.2]; exact ⟨none, 0, rfl, .inl rfl⟩, HX.out.1⟩
end Go.Proofs.Ytjcfefpcilhelaa
namespace Go.Proofs.Ytjcfefpcilhelaa
open Go.RowKit Go.BigFrame Go.Deep Go.Joins
set_option linter.unusedVariables false
set_option linter.unusedSimpArgs false

theorem own_cells {w : World} {base : Nat} {t : TypeId} {n g cap : Nat} {xs : List Value} (h : w.ownsRow base t 1 (.slice (some ⟨g, 0, none⟩) n cap) n xs) : ∀ j u, xs[j]? = some u → w.cell? ((⟨g, 0, none⟩ : Addr).add j) = some u :=
  World.ownsRowF.cells (World.ownsRowF_of h) rfl
theorem own_one (w : World) (t : TypeId) (B : Nat) (hB : B ≤ w.heap.size) (u : Value) : (w.alloc (Obj.cells #[u] t)).ownsRow B t 1 (.slice (some ⟨w.heap.size, 0, none⟩) 1 1) 1 [u] :=
  ⟨rfl, .inr ⟨w.heap.size, 1, #[u], rfl, hB, blk_alloc_new _ _, Nat.le_refl _, by unfold maxLen; omega, rfl, rfl⟩⟩

set_option maxRecDepth 20000 in
set_option maxHeartbeats 4000000 in
theorem sPathTo (L src x : Int) (xs ps vs : List Int) (a b c : Value) (w : World) (ha : Row w a xs) (hb : Row w b ps) (hc : Row w c vs) (hl : ps.length ≤ 1048576) :
    Calls Try.prog 48 #[.agg #[a, b, c, .int .i64 L], .int .i64 src, .int .i64 x] w fun e w' => ∃ v, e = .returned (.tuple #[v, .bool (ptB ps src x)]) ∧ OwnI w w' v (ptL ps src x) ∧ Below w.heap.size w w' := by
  obtain ⟨aa, ac, rfl, hz0⟩ := ha
  obtain ⟨ba, bc, rfl, hz1⟩ := hb
  obtain ⟨da, dc, rfl, hz2⟩ := hc
  have HY := Lib.hid hz1
  have hx0 : Box ((w.alloc (.cells #[.slice aa xs.length ac, .slice ba ps.length bc, .slice da vs.length dc, .int .i64 L] 64)).alloc (.cells #[] 3)) w.heap.size 64 #[.slice aa xs.length ac, .slice ba ps.length bc, .slice da vs.length dc, .int .i64 L] := (Box.new w 64 #[.slice aa xs.length ac, .slice ba ps.length bc, .slice da vs.length dc, .int .i64 L]).alloc _
  have hb2 : Below w.heap.size w ((w.alloc (.cells #[.slice aa xs.length ac, .slice ba ps.length bc, .slice da vs.length dc, .int .i64 L] 64)).alloc (.cells #[] 3)) := ((Below.refl w.heap.size w).alloc (Nat.le_refl _) _).alloc (by simp) _
  have HX0 := Lib.hid (And.intro hb2 hx0)
  have HO0 : Hid (World.ownsRow ((w.alloc (.cells #[.slice aa xs.length ac, .slice ba ps.length bc, .slice da vs.length dc, .int .i64 L] 64)).alloc (.cells #[] 3)) (w.heap.size + 1) 3 1 (.slice (some ⟨w.heap.size + 1, 0, none⟩) 0 0) 0 []) := Lib.hid (by have := own_empty (w.alloc (.cells #[.slice aa xs.length ac, .slice ba ps.length bc, .slice da vs.length dc, .int .i64 L] 64)) 3 (w.heap.size + 1) (by simp); simpa using this)
  obtain ⟨i0, hi, hz0', hz1', hz2'⟩ := info_parts info_int2
  have HI : Hid (Try.prog.info? 3 = some i0 ∧ i0.zero = some (.int .i64 0) ∧ i0.size = 1 ∧ i0.bytes = 8) := Lib.hid ⟨hi, hz0', hz1', hz2'⟩
  clear hz0 hz1 hz2 hx0 hb2 hi hz0' hz1' hz2'
  go_enter Try.func48, Try.ntmps48
  go_wp2
  go_loopw [10, 9, 8] (fun c nd v wr => ∃ (k : Nat) (y : Int) (acc : List Int) (g cap : Nat), k ≤ ps.length + 1 ∧ c = .int .i64 k ∧ nd = .int .i64 y ∧ v = .slice (some ⟨g, 0, none⟩) acc.length cap ∧ Hid (acc.length = k ∧ ptR ps src x = ptGo ps src (ps.length + 1 - k) y acc) ∧ Hid (wr.ownsRow (w.heap.size + 1) 3 1 (.slice (some ⟨g, 0, none⟩) acc.length cap) acc.length (acc.map (Value.int .i64))) ∧ Hid (Below w.heap.size w wr ∧ Box wr w.heap.size 64 #[.slice aa xs.length ac, .slice ba ps.length bc, .slice da vs.length dc, .int .i64 L])) (fun c _ _ _ => ps.length + 1 - (intOf c).toNat)
  case atStart => exact ⟨0, x, [], w.heap.size + 1, 0, Nat.zero_le _, rfl, rfl, rfl, Lib.hid ⟨rfl, rfl⟩, HO0, HX0⟩
  case round =>
    obtain ⟨k, y, acc, g, cap, hk, rfl, rfl, rfl, HE, HOW, HX⟩ := hrel
    have x1 : wr.cell? ⟨w.heap.size, 1, none⟩ = some (.slice ba ps.length bc) := by simpa using HX.out.2.cell 1
    by_cases hlt : k < ps.length + 1
    · have hlt' : (k : Int) ≤ (ps.length : Int) := by omega
      have hstep : ptR ps src x = ptGo ps src ((ps.length - k) + 1) y acc := by rw [HE.out.2]; congr 1; omega
      rw [ptGo] at hstep
      by_cases hneg : y < 0
      · have e0 : inP ps y = false := by unfold inP; rw [decide_eq_false (by omega)]; rfl
        rw [e0, if_neg (by decide)] at hstep
        obtain ⟨e1, e2⟩ := pt_none hstep
        have HE1 := Lib.hid (And.intro e1 e2)
        clear hstep e0 e1 e2
        go_wp2
        go_ret2
        exact ⟨.slice (some ⟨wr.heap.size, 0, none⟩) 0 0, by rw [HE1.out.1]; rfl, by rw [HE1.out.2]; exact ⟨_, 0, rfl, .inl rfl⟩, HX.out.1.alloc HX.out.1.size _⟩
      obtain ⟨Y, rfl⟩ : ∃ Y : Nat, y = Y := ⟨y.toNat, by omega⟩
      have d0 : decide ((Y : Int) < 0) = false := decide_eq_false hneg
      by_cases hge : ps.length ≤ Y
      · have e0 : inP ps Y = false := by unfold inP; rw [decide_eq_false (show ¬ ((Y : Int) < ps.length) by omega), Bool.and_false]
        rw [e0, if_neg (by decide)] at hstep
        obtain ⟨e1, e2⟩ := pt_none hstep
        have HE1 := Lib.hid (And.intro e1 e2)
        have d1 : (ps.length : Int) ≤ Y := by omega
        clear hstep e0 e1 e2 hge hneg
        go_wp2
        go_ret2
        exact ⟨.slice (some ⟨wr.heap.size, 0, none⟩) 0 0, by rw [HE1.out.1]; rfl, by rw [HE1.out.2]; exact ⟨_, 0, rfl, .inl rfl⟩, HX.out.1.alloc HX.out.1.size _⟩
      have d1 : decide ((ps.length : Int) ≤ Y) = false := decide_eq_false (by omega)
      have hyl : Y < ps.length := by omega
      have hyl' : (Y : Int) < ps.length := by omega
      have e0 : inP ps Y = true := by unfold inP; rw [decide_eq_true (by omega), decide_eq_true hyl']; rfl
      rw [e0, if_pos rfl, Int.toNat_natCast] at hstep
      have hal : acc.length = k := HE.out.1
      have HAL := Lib.hid hal
      have hsz : w.heap.size + 1 ≤ wr.heap.size := HX.out.2.lt
      obtain ⟨hi, hz0, hz1, hz2⟩ := HI.out
      have HON := Lib.hid (own_one wr 3 (w.heap.size + 1) hsz (.int .i64 (Y : Int)))
      have HCE := Lib.hid (own_cells (HOW.out.alloc (.cells #[.int .i64 (Y : Int)] 3)))
      clear e0 hge hneg hal
      by_cases hs : (Y : Int) = src
      · rw [if_pos hs] at hstep
        obtain ⟨e1, e2⟩ := pt_some hstep
        have HE1 := Lib.hid (And.intro e1 e2)
        have ds : ((Y : Int) == src) = true := by simpa using hs
        clear hstep e1 e2 hs
        go_wp2_with (at_builtin; refine wpList_append_own _ rfl (.tmp 31) (.tmp 32) 28 rfl (w.heap.size + 1) 3 i0 (.int .i64 0) 1 8 Try.underlying28 hi hz0 hz1 hz2 rfl (by decide) _ _ _ rfl HON.out ⟨g, 0, none⟩ acc.length cap (acc.map (Value.int .i64)) rfl (by simp) ?c1 ?c2 ?c3 ?c4 ?c5 ?_)
        case c1 => exact HCE.out
        case c2 => intro u hu; obtain ⟨q, _, rfl⟩ := List.mem_map.1 hu; rfl
        case c3 => have := HAL.out; unfold maxLen; omega
        case c4 => have := HAL.out; omega
        case c5 => simp; omega
        intro v' w6 hown6 hgrow6 _
        have HO6 : Hid (w6.ownsRow (w.heap.size + 1) 3 1 v' ((Y : Int) :: acc).length ((((Y : Int) :: acc)).map (Value.int .i64))) := Lib.hid (by simpa [Nat.add_comm] using hown6)
        have HB6 := Lib.hid ((HX.out.1.alloc HX.out.1.size _).grown hgrow6 (by simp; omega) (fun q hq => by have := (HON.out.lt q hq).1; omega))
        clear hown6 hgrow6 hi hz0 hz1 hz2 HI x1
        go_wp2
        go_ret2
        refine ⟨_, by rw [HE1.out.1]; rfl, ?_, HB6.out⟩
        rw [HE1.out.2]
        exact OwnI.of HO6.out (Nat.le_succ _)
      · rw [if_neg hs] at hstep
        have ds : ((Y : Int) == src) = false := by simpa using hs
        rcases HY.out with h0 | ⟨pb, po, rfl, hpb, hpc⟩
        · rw [h0] at hyl; simp at hyl
        obtain ⟨z, hz⟩ : ∃ z, z = ps.getD Y 0 := ⟨_, rfl⟩
        have hcz := hpc Y hyl
        rw [← hz] at hcz hstep
        have HCZ := Lib.hid hcz
        have HST := Lib.hid hstep
        clear hstep hs hpc hcz hz
        go_wp2_with (at_builtin; refine wpList_append_own _ rfl (.tmp 31) (.tmp 32) 28 rfl (w.heap.size + 1) 3 i0 (.int .i64 0) 1 8 Try.underlying28 hi hz0 hz1 hz2 rfl (by decide) _ _ _ rfl HON.out ⟨g, 0, none⟩ acc.length cap (acc.map (Value.int .i64)) rfl (by simp) ?c1 ?c2 ?c3 ?c4 ?c5 ?_)
        case c1 => exact HCE.out
        case c2 => intro u hu; obtain ⟨q, _, rfl⟩ := List.mem_map.1 hu; rfl
        case c3 => have := HAL.out; unfold maxLen; omega
        case c4 => have := HAL.out; omega
        case c5 => simp; omega
        intro v' w6 hown6 hgrow6 _
        have HO6 : Hid (w6.ownsRow (w.heap.size + 1) 3 1 v' ((Y : Int) :: acc).length ((((Y : Int) :: acc)).map (Value.int .i64))) := Lib.hid (by simpa [Nat.add_comm] using hown6)
        have HX6 := Lib.hid (And.intro ((HX.out.1.alloc HX.out.1.size _).grown hgrow6 (by simp; omega) (fun q hq => by have := (HON.out.lt q hq).1; omega)) ((HX.out.2.alloc _).grown hgrow6 HON.out (by decide)))
        have y1 : w6.cell? ⟨w.heap.size, 1, none⟩ = some (.slice (some ⟨pb, po, none⟩) ps.length bc) := by simpa using HX6.out.2.cell 1
        have y2 := (HX6.out.1.cell (p := ⟨pb, po + Y, none⟩) hpb).trans HCZ.out
        obtain ⟨g6, cp6, e6⟩ := ownsRow_form HO6.out (by simp)
        have HE6 := Lib.hid e6
        clear hown6 hgrow6 hi hz0 hz1 hz2 x1 e6
        go_wp2
        go_roundw
        case rel => first | exact ⟨k + 1, z, (Y : Int) :: acc, g6, cp6, by omega, by go_num, rfl, HE6.out, Lib.hid ⟨by have := HAL.out; simp; omega, by rw [HST.out]; congr 1; omega⟩, Lib.hid (by rw [← HE6.out]; exact HO6.out), HX6⟩ | ((repeat apply Exists.intro); exact ⟨⟨k + 1, z, (Y : Int) :: acc, g6, cp6, by omega, by go_num, rfl, HE6.out, Lib.hid ⟨by have := HAL.out; simp; omega, by rw [HST.out]; congr 1; omega⟩, Lib.hid (by rw [← HE6.out]; exact HO6.out), HX6⟩, rfl⟩)
        case measure => simp [intOf]; omega
    · have hkk : ¬ ((k : Int) ≤ (ps.length : Int)) := by omega
      have e0 : ptR ps src x = none := by rw [HE.out.2, show ps.length + 1 - k = 0 by omega]; rfl
      obtain ⟨e1, e2⟩ := pt_none e0
      have HE1 := Lib.hid (And.intro e1 e2)
      clear e0 e1 e2
      go_wp2
      go_ret2
      exact ⟨.slice (some ⟨wr.heap.size, 0, none⟩) 0 0, by rw [HE1.out.1]; rfl, by rw [HE1.out.2]; exact ⟨_, 0, rfl, .inl rfl⟩, HX.out.1.alloc HX.out.1.size _⟩
end Go.Proofs.Ytjcfefpcilhelaa
