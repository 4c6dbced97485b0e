/- Paths with their measures: copied, compared, measured, marked and held by the laws; an argument that is a path, opened; two paths that are the same, in the program and in the model. -/
import Derived.Test.YtneapbggnnndhaaGreatVEdges
import Derived.Test.YtneapbggnnndhaaGreatOpenV
namespace Go.Proofs.YtneapbggnnndhaaGreat
open Go.RowKit Go.BigFrame Go.Deep Go.ChangeShapes Go.WideShapes Go.Joins
set_option linter.unusedVariables false
set_option linter.unusedSimpArgs false

set_option maxHeartbeats 1000000 in
theorem toPath (x : Int) (zs : List Int) (s : Value) (w : World) (hr : Row w s zs) (hl : zs.length ≤ 1048576) :
    Calls Tryz.prog 9 #[.agg #[s, .int .i64 x]] w fun e w' => ∃ s', e = .returned (.agg #[s', .int .i64 x]) ∧ NewI w w' s' zs ∧ Below w.heap.size w w' := by
  obtain ⟨ad, c, rfl, hz0⟩ := id hr
  clear hz0
  have hB : ∀ (A B C : Obj), Below w.heap.size w (((w.alloc A).alloc B).alloc C) := fun A B C => (((Below.refl _ _).alloc (Nat.le_refl _) _).alloc (by simp) _).alloc (by simp; omega) _
  have hc := toIntSN zs (.slice ad zs.length c)
  have HC := Lib.hid hc
  have HR := Lib.hid hr
  have HB := Lib.hid hB
  clear hc hr hB
  go_enter Tryz.func9, Tryz.ntmps9
  go_wp2_with (go_at_call 23; refine (HC.out _ (HR.out.keep (HB.out _ _ _)) hl).mono ?_; rintro e w1 ⟨_, rfl, ⟨g, cap, rfl, hg, hrow⟩, hb1⟩; have u1 := hb1.cell (p := ⟨w.heap.size, 1, none⟩) (by simp; omega); have x0 := hb1.cell (p := ⟨w.heap.size + 1 + 1, 0, none⟩) (by simp); have x1 := hb1.cell (p := ⟨w.heap.size + 1 + 1, 1, none⟩) (by simp); have z0 := hb1.cell (p := ⟨w.heap.size + 1, 0, none⟩) (by simp); have z1 := hb1.cell (p := ⟨w.heap.size + 1, 1, none⟩) (by simp); have y0 := hb1.frozen (p := ⟨w.heap.size + 1 + 1, 0, none⟩) (by simp); have y3 := hb1.frozen (p := ⟨w.heap.size + 1 + 1, 1, none⟩) (by simp); have y1 := hb1.frozen (p := ⟨w.heap.size + 1, 0, none⟩) (by simp); have y2 := hb1.frozen (p := ⟨w.heap.size + 1, 1, none⟩) (by simp); have HG := Lib.hid hg; have HW := Lib.hid hrow; clear hg hrow)
  try simp only [Exit.inBlock, Exit.then]
  refine bodyPost_ret (v := .agg #[.slice (some ⟨g, 0, none⟩) zs.length cap, .int .i64 x]) ?_ rfl ?_
  · rw [results_cell1 rfl]
    go_simp
  have hg3 : w.heap.size + 3 ≤ g := by have := HG.out.1; simp at this; omega
  refine ⟨_, rfl, ⟨g, cap, rfl, ⟨by omega, HG.out.2⟩, (((HW.out.setOther (by simp; omega) _).setOther (by simp; omega) _).setOther (by simp; omega) _).setOther (by simp; omega) _⟩, ?_⟩
  exact ((((bel_trans (HB.out _ _ _) hb1).setCell (by simp; omega) _).setCell (by simp; omega) _).setCell (by simp) _).setCell (by simp) _

theorem eqPath (x : Int) (zs : List Int) (s t : Value) (w : World) (hs : Row w s zs) (ht : Row w t zs) (hl : zs.length ≤ 1048576) :
    Calls Tryz.prog 11 #[.agg #[s, .int .i64 x], .agg #[t, .int .i64 x]] w fun e w' => e = .returned (.bool true) ∧ Below w.heap.size w w' := by
  obtain ⟨ad, c, rfl, hz0⟩ := id hs
  obtain ⟨ad2, c2, rfl, hz1⟩ := id ht
  clear hz0 hz1
  have hB : ∀ (A B : Obj), Below w.heap.size w ((w.alloc A).alloc B) := fun A B => ((Below.refl _ _).alloc (Nat.le_refl _) _).alloc (by simp) _
  have hc := fun A B => eqIntS zs (.slice ad zs.length c) (.slice ad2 zs.length c2) ((w.alloc A).alloc B) (hs.keep (hB A B)) (ht.keep (hB A B)) hl
  have HC := Lib.hid hc
  have HB := Lib.hid hB
  clear hc hB hs ht
  go_enter Tryz.func11, Tryz.ntmps11
  go_wp2_with (go_at_call 25; refine (HC.out _ _).mono ?_; rintro e w1 ⟨rfl, hb1⟩; have x1 := hb1.cell (p := ⟨w.heap.size, 1, none⟩) (by simp; omega); have x2 := hb1.cell (p := ⟨w.heap.size + 1, 1, none⟩) (by simp))
  go_ret
  exact ⟨rfl, bel_trans (HB.out _ _) hb1⟩

theorem szPath (x : Int) (len cap : Nat) (a : Option Addr) (l : Nat) (w : World) (hl : l ≤ 1048576) (hn : len ≤ 9223372036854775807) :
    Calls Tryz.prog 6 #[.agg #[.slice a len cap, .int .i64 x], .int .i64 l] w fun e w' => e = .returned (.int .i64 (szR l len)) ∧ Below w.heap.size w w' := by
  have hc := fun w => szIntS len cap a l w hl hn
  have hR : -1 ≤ szR l len := by unfold szR; split <;> omega
  generalize szR l len = R at hc hR ⊢
  have HC := Lib.hid hc
  clear hc
  by_cases h : R < 0
  · have e1 : R = -1 := by omega
    subst e1
    go_enter Tryz.func6, Tryz.ntmps6
    go_wp2_with (go_at_call 19; refine (HC.out _).mono ?_; rintro e w1 ⟨rfl, rfl⟩)
    go_ret
    exact ⟨rfl, ((Below.refl _ _).alloc (Nat.le_refl _) _)⟩
  · go_enter Tryz.func6, Tryz.ntmps6
    go_wp2_with (go_at_call 19; refine (HC.out _).mono ?_; rintro e w1 ⟨rfl, rfl⟩)
    go_ret
    exact ⟨rfl, ((Below.refl _ _).alloc (Nat.le_refl _) _)⟩

section
variable {H : Type} {enc : TypeId × Value → H} {w : World} {base : Nat} {spare : Nat → Bool} {held : Bool}
set_option maxRecDepth 100000 in
/-- An argument that is a path (of the laws' own type). -/
theorem openPath {r : Reach} {b0 : Nat} {v : Value} {d : DataW H} {p : List MemPlace} (hv : Value.okWide Tryz.prog w r b0 27 v) (h : DataW.Trod enc Tryz.prog w base spare held 27 v d p) :
    ∃ (s : Value) (zs : List Int) (x : Int), v = .agg #[s, .int .i64 x] ∧ Row w s zs ∧ zs.length ≤ 9223372036854775807 := by
  obtain ⟨v0, v1, y0, y1, n, rfl, _, _, h0, h1⟩ := open_agg2 Tryz.underlying27 (by kernel_rfl) (by kernel_rfl) hv h
  obtain ⟨x, hx⟩ := one_int Tryz.underlying3 h1
  simp only [List.cons.injEq, and_true] at hx
  subst hx
  obtain ⟨zs, he, hl⟩ := openInts1 h0
  exact ⟨v0, zs, x, rfl, he, hl⟩
end

/-- Are two paths the same? -/
def pSame (zs : List Int) (x : Int) (ys : List Int) (y : Int) : Bool := decide (x = y) && iSame zs ys
theorem pSame_iff {zs ys : List Int} {x y : Int} : pSame zs x ys y = true ↔ zs = ys ∧ x = y := by
  unfold pSame iSame
  simp
  exact ⟨fun h => ⟨h.2, h.1⟩, fun h => ⟨h.2, h.1⟩⟩

set_option maxHeartbeats 1000000 in
theorem pathSame (x y : Int) (zs ys : List Int) (s t : Value) (w : World) (hs : Row w s zs) (ht : Row w t ys) (hl : zs.length ≤ 281474976710656) (hl2 : ys.length ≤ 281474976710656) :
    Calls Tryz.prog 41 #[.agg #[s, .int .i64 x], .agg #[t, .int .i64 y]] w fun e w' => e = .returned (.bool (pSame zs x ys y)) ∧ Below w.heap.size w w' := by
  obtain ⟨ad, c, rfl, hz0⟩ := id hs
  obtain ⟨ad2, c2, rfl, hz1⟩ := id ht
  clear hz0 hz1
  have hB : ∀ (A B : Obj), Below w.heap.size w ((w.alloc A).alloc B) := fun A B => ((Below.refl _ _).alloc (Nat.le_refl _) _).alloc (by simp) _
  have hc := fun A B => intsEqual zs ys (.slice ad zs.length c) (.slice ad2 ys.length c2) ((w.alloc A).alloc B) (hs.keep (hB A B)) (ht.keep (hB A B)) hl hl2
  unfold pSame
  generalize iSame zs ys = S at hc ⊢
  have HC := Lib.hid hc
  have HB := Lib.hid hB
  clear hc hB hs ht
  by_cases h : x = y
  · have d1 : decide (x = y) = true := by simpa using h
    have d2 : (x == y) = true := by simpa using h
    rw [d1, Bool.true_and]
    clear h
    go_enter Tryz.func41, Tryz.ntmps41
    go_wp2_with (go_at_call 52; refine (HC.out _ _).mono ?_; rintro e w1 ⟨rfl, hb1⟩)
    go_ret
    exact ⟨rfl, bel_trans (HB.out _ _) hb1⟩
  · have d1 : decide (x = y) = false := by simpa using h
    have d2 : (x == y) = false := by simpa using h
    rw [d1, Bool.false_and]
    go_enter Tryz.func41, Tryz.ntmps41
    go_wp2
    go_ret
    exact ⟨rfl, HB.out _ _⟩
set_option maxHeartbeats 2000000 in
theorem sPathSame (x y : Int) (zs ys : List Int) (s t : Value) (w : World) (hs : Row w s zs) (ht : Row w t ys) (hl : zs.length ≤ 281474976710656) (hl2 : ys.length ≤ 281474976710656) :
    Calls Tryz.prog 37 #[.agg #[s, .int .i64 x], .agg #[t, .int .i64 y]] w fun e w' => e = .returned (.bool (pSame zs x ys y)) ∧ Below w.heap.size w w' := by
  have hB : ∀ (A B : Obj), Below w.heap.size w ((w.alloc A).alloc B) := fun A B => ((Below.refl _ _).alloc (Nat.le_refl _) _).alloc (by simp) _
  have HB := Lib.hid hB
  clear hB
  obtain ⟨ad, cap, rfl, hz0⟩ := hs
  have hz := Lib.hid hz0
  obtain ⟨ad2, cap2, rfl, hy0⟩ := ht
  have hy := Lib.hid hy0
  clear hz0 hy0
  by_cases hm : x = y
  rotate_left
  · have e0 : pSame zs x ys y = false := by unfold pSame; rw [decide_eq_false hm]; rfl
    rw [e0]
    have d1 : decide (x = y) = false := by simpa using hm
    have d2 : (x == y) = false := by simpa using hm
    have d3 : (x != y) = true := by simpa using hm
    go_enter Tryz.func37, Tryz.ntmps37
    go_wp2
    go_ret
    exact ⟨rfl, HB.out _ _⟩
  subst hm
  have e0 : pSame zs x ys x = iSame zs ys := by unfold pSame; simp
  rw [e0]
  clear e0
  by_cases hlen : zs.length = ys.length
  rotate_left
  · rw [iSame_len hlen]
    have d1 : decide ((zs.length : Int) = ys.length) = false := by simp; omega
    have d2 : ((zs.length : Int) != ys.length) = true := by simp; omega
    have d3 : ((zs.length : Int) == ys.length) = false := by simp; omega
    have d4 : ¬ ((zs.length : Int) = ys.length) := by omega
    go_enter Tryz.func37, Tryz.ntmps37
    go_wp2
    go_ret
    exact ⟨rfl, HB.out _ _⟩
  obtain ⟨R, hR⟩ : ∃ R, R = iSame zs ys := ⟨_, rfl⟩
  rw [← hR]
  have HR := Lib.hid hR
  have HL := Lib.hid hlen
  have hlen' : (ys.length : Int) = zs.length := by omega
  clear hR
  go_enter Tryz.func37, Tryz.ntmps37
  go_wp2
  go_loopw [5] (fun c wr => ∃ k : Nat, k ≤ zs.length ∧ c = .int .i64 k ∧ (∀ i, i < k → zs.getD i 0 = ys.getD i 0) ∧ Below w.heap.size w wr ∧ (wr.cell? ⟨w.heap.size, 0, none⟩ = some (.slice ad zs.length cap) ∧ wr.cell? ⟨w.heap.size + 1, 0, none⟩ = some (.slice ad2 ys.length cap2) ∧ w.heap.size + 1 < wr.heap.size)) (fun c _ => zs.length - (intOf c).toNat)
  case atStart => exact ⟨0, Nat.zero_le _, rfl, fun i hi => absurd hi (Nat.not_lt_zero _), HB.out _ _, by go_simp, by go_simp, by simp⟩
  case round =>
    obtain ⟨k, hk, rfl, hall, hbel, hx0, hx1, hsz⟩ := hrel
    have HA := Lib.hid hall
    clear hall
    by_cases hlt : k < zs.length
    · have hlt' : (k : Int) < zs.length := by omega
      have hlt2 : (k : Int) < ys.length := by have := HL.out; omega
      rcases hz.out with h0 | ⟨b, off, rfl, hb, hc⟩
      · rw [h0] at hlt; simp at hlt
      rcases hy.out with h0 | ⟨b2, off2, rfl, hb2, hc2⟩
      · have := HL.out; rw [h0] at this; simp at this; rw [this] at hlt; simp at hlt
      obtain ⟨q, hx⟩ : ∃ q, q = zs.getD k 0 := ⟨_, rfl⟩
      obtain ⟨p, hp⟩ : ∃ x, x = ys.getD k 0 := ⟨_, rfl⟩
      have h1 := hc k hlt
      have h2 := hc2 k (by have := HL.out; omega)
      rw [← hx] at h1
      rw [← hp] at h2
      have ff : ∀ w', Below wr.heap.size wr w' → w'.cell? ⟨b, off + k, none⟩ = some (.int .i64 q) ∧ w'.cell? ⟨b2, off2 + k, none⟩ = some (.int .i64 p) ∧ w'.cell? ⟨w.heap.size, 0, none⟩ = some (.slice (some ⟨b, off, none⟩) zs.length cap) ∧ w'.cell? ⟨w.heap.size + 1, 0, none⟩ = some (.slice (some ⟨b2, off2, none⟩) ys.length cap2) := by
        intro w' h
        have hB := bel_trans hbel h
        exact ⟨(hB.cell (p := ⟨b, _, none⟩) hb).trans h1, (hB.cell (p := ⟨b2, _, none⟩) hb2).trans h2, (h.cell (p := ⟨_, _, none⟩) (by simp only; omega)).trans hx0, (h.cell (p := ⟨_, _, none⟩) hsz).trans hx1⟩
      have FF := Lib.hid ff
      have HX := Lib.hid hx
      have HP := Lib.hid hp
      clear hc hc2 h1 h2 ff hx hp
      by_cases he : q = p
      · subst he
        have HN : Hid (∀ i, i < k + 1 → zs.getD i 0 = ys.getD i 0) := Lib.hid (fun i hi => by
          by_cases h : i = k
          · subst h; rw [← HX.out, ← HP.out]
          · exact HA.out i (by omega))
        go_wp2
        refine wp_region_below (by kernel_rfl) (by kernel_rfl) ?_
        repeat (go_big_quiet_step ((intro hw; first | with_reducible rfl | (obtain ⟨f0, g0, x0, x1⟩ := FF.out _ hw; simp only [f0, g0, x0, x1, Result.andThen]; first | exact ⟨trivial, rfl⟩ | exact ⟨rfl, rfl⟩))))
        refine wpQuiet_nil ?_
        intro w1 hw1
        obtain ⟨-, -, x0, x1⟩ := FF.out _ hw1
        go_wp2
        go_roundw
        case rel => first | exact ⟨k + 1, by omega, by go_num, HN.out, bel_trans hbel hw1, x0, x1, Nat.lt_of_lt_of_le hsz hw1.size⟩ | ((repeat apply Exists.intro); exact ⟨⟨k + 1, by omega, by go_num, HN.out, bel_trans hbel hw1, x0, x1, Nat.lt_of_lt_of_le hsz hw1.size⟩, rfl⟩)
        case measure => simp [intOf]; omega
      · have HO : Hid (iSame zs ys = false) := Lib.hid (iSame_at (k := k) (by rw [← HX.out, ← HP.out]; exact he))
        have b1 : (q == p) = false := by simpa using he
        have b2' : (q != p) = true := by simpa using he
        have b3 : decide (q = p) = false := by simpa using he
        have NE := Lib.hid he
        clear he
        go_wp2
        refine wp_region_below (by kernel_rfl) (by kernel_rfl) ?_
        repeat (go_big_quiet_step ((intro hw; first | with_reducible rfl | (obtain ⟨f0, g0, x0, x1⟩ := FF.out _ hw; simp only [f0, g0, x0, x1, Result.andThen]; first | exact ⟨trivial, rfl⟩ | exact ⟨rfl, rfl⟩) | (rw [if_neg NE.out]; exact ⟨rfl, rfl⟩))))
        refine wpQuiet_nil ?_
        intro w1 hw1
        obtain ⟨-, -, x0, x1⟩ := FF.out _ hw1
        go_wp2
        go_ret
        exact ⟨by rw [HR.out, HO.out]; rfl, bel_trans hbel hw1⟩
    · have hke : k = zs.length := by omega
      have hkk : ¬ ((k : Int) < zs.length) := by omega
      have HO : Hid (iSame zs ys = true) := Lib.hid (iSame_all HL.out (by rw [← hke]; exact HA.out))
      clear hke
      go_wp2
      go_ret
      exact ⟨by rw [HR.out, HO.out]; rfl, hbel⟩
end Go.Proofs.YtneapbggnnndhaaGreat
