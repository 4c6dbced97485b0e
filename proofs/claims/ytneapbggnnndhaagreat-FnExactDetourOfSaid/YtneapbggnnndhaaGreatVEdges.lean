/- The laws' marks: rows that are written over and read again. The laws' marks: rows that are written over and read again. Slices of integers that the laws compare. When two views are the same: in the program and in the model. Views that the laws copy, compare, measure, mark and hold. -/
import Derived.Test.YtneapbggnnndhaaGreatRowAt
import Derived.Test.YtneapbggnnndhaaGreatBase
import Derived.Deep.OwnRows
namespace Go.Proofs.YtneapbggnnndhaaGreat
open Go.RowKit Go.BigFrame Go.Deep
set_option linter.unusedVariables false
set_option linter.unusedSimpArgs false

/-- What a marked row holds. -/
def marked (k : Int) : Nat → Value := fun i => .int .i64 (k + i)
/-- A row that is being marked, in its block. -/
def MidR (w : World) (b off N c : Nat) (k : Int) (cs : Nat → Value) : Prop :=
  b < w.heap.size ∧ ∀ i, i < N → w.cell? ⟨b, off + i, none⟩ = some (if i < c then marked k i else cs i) ∧ w.frozen? ⟨b, off + i, none⟩ = false
theorem MidR.set {w : World} {b off N c : Nat} {k : Int} {cs : Nat → Value} (h : MidR w b off N c k cs) (hc : c < N) : MidR (w.setCell ⟨b, off + c, none⟩ (.int .i64 (k + c))) b off N (c + 1) k cs := by
  obtain ⟨hb, hh⟩ := h
  refine ⟨by simpa using hb, fun i hi => ?_⟩
  obtain ⟨h1, h2⟩ := hh i hi
  constructor
  · by_cases e : i = c
    · subst e
      rw [if_pos (by omega), World.cell?_setCell_same _ _ _ h1]
      rfl
    · have ne : (⟨b, off + c, none⟩ : Addr) ≠ ⟨b, off + i, none⟩ := by intro h; injection h with _ h _; omega
      rw [World.cell?_setCell_other _ _ _ _ ne, h1]
      by_cases h3 : i < c
      · rw [if_pos h3, if_pos (by omega)]
      · rw [if_neg h3, if_neg (by omega)]
  · rw [World.frozen?_setCell]; exact h2
theorem MidR.of {fz : Bool} {w : World} {lo hi b off cap n sz : Nat} {cs : Nat → Value} (k : Int) (hb : b < w.heap.size) (h : ∀ i, i < n * sz → w.cell? ⟨b, off + i, none⟩ = some (cs i) ∧ (true = true → w.frozen? ⟨b, off + i, none⟩ = false)) : MidR w b off (n * sz) 0 k cs :=
  ⟨hb, fun i hi => ⟨by rw [if_neg (by omega)]; exact (h i hi).1, (h i hi).2 rfl⟩⟩

end Go.Proofs.YtneapbggnnndhaaGreat
namespace Go.Proofs.YtneapbggnnndhaaGreat
open Go.RowKit Go.BigFrame Go.Deep
set_option linter.unusedVariables false
set_option linter.unusedSimpArgs false

set_option maxHeartbeats 1000000 in
theorem markIntS (k : Nat) (w : World) (lo hi n : Nat) (s : Value) (cs : Nat → Value) (h : InR true w lo hi s n 1 cs) (hn : n ≤ 4194304) (hk : k ≤ 1073741824) :
    Calls Tryz.prog 28 #[s, .int .i64 (k : Int)] w fun e w' => e = .returned (.int .i64 ((k + n : Nat) : Int)) ∧ InR true w' lo hi s n 1 (marked k) ∧ Chg lo hi w w' := by
  obtain ⟨a, cap, rfl, hz0⟩ := h
  by_cases h0 : n = 0
  · subst h0
    clear hz0
    go_enter Tryz.func28, Tryz.ntmps28
    go_wp2
    go_loopw [5, 1] (fun c d wr => c = .int .i64 0 ∧ d = .int .i64 (k : Int) ∧ wr = w) (fun c _ _ => 0)
    case atStart => exact ⟨rfl, rfl, rfl⟩
    case round =>
      obtain ⟨rfl, rfl, rfl⟩ := hrel
      go_wp2
      go_ret
      exact ⟨by simp, ⟨a, cap, rfl, .inl rfl⟩, Chg.refl _ _ _⟩
  rcases hz0 with h1 | ⟨b, off, rfl, hb1, hb2, hb3, hc⟩
  · exact absurd h1 h0
  have hm : MidR w b off (n * 1) 0 k cs := MidR.of (fz := true) (lo := 0) (hi := 0) (cap := 0) k (by omega) hc
  have HM := Lib.hid hm
  clear hc hm
  go_enter Tryz.func28, Tryz.ntmps28
  go_wp2
  go_loopw [5, 1] (fun c d wr => ∃ i : Nat, i ≤ n ∧ c = .int .i64 i ∧ d = .int .i64 ((k + i : Nat) : Int) ∧ MidR wr b off (n * 1) i k cs ∧ Chg lo hi w wr) (fun c _ _ => n - (intOf c).toNat)
  case atStart => exact ⟨0, Nat.zero_le _, rfl, rfl, HM.out, Chg.refl _ _ _⟩
  case round =>
    obtain ⟨i, hi, rfl, rfl, hmid, hchg⟩ := hrel
    have H1 := Lib.hid hmid
    by_cases hlt : i < n
    · have hlt' : (i : Int) < n := by omega
      have c0 := (hmid.2 i (by omega)).1
      have f0 := (hmid.2 i (by omega)).2
      clear hmid
      go_wp2
      go_roundw
      case rel => exact ⟨i + 1, by omega, by go_num, by go_num, by have := H1.out.set (show i < n * 1 by omega); simpa using this, hchg.setCell (by omega) (by omega) _⟩
      case measure => simp [intOf]; omega
    · have hke : i = n := by omega
      have hkk : ¬ ((i : Int) < n) := by omega
      have HK := Lib.hid hke
      clear hke hmid
      go_wp2
      go_ret
      exact ⟨by rw [HK.out]; rfl, ⟨_, cap, rfl, .inr ⟨b, off, rfl, hb1, hb2, Nat.le_trans hb3 hchg.size, fun j hj => ⟨by rw [(H1.out.2 j hj).1, if_pos (by rw [HK.out]; omega)], fun _ => (H1.out.2 j hj).2⟩⟩⟩, hchg⟩
set_option maxHeartbeats 1000000 in
theorem heldIntS (k : Nat) (fz : Bool) (w : World) (lo hi n : Nat) (s : Value) (h : InR fz w lo hi s n 1 (marked k)) (hn : n ≤ 4194304) (hk : k ≤ 1073741824) :
    Calls Tryz.prog 29 #[s, .int .i64 (k : Int)] w fun e w' => e = .returned (.int .i64 ((k + n : Nat) : Int)) ∧ Below w.heap.size w w' := by
  obtain ⟨a, cap, rfl, hz0⟩ := h
  have hz := Lib.hid hz0
  clear hz0
  go_enter Tryz.func29, Tryz.ntmps29
  go_wp2
  go_loopw [5, 1] (fun c d wr => ∃ i : Nat, i ≤ n ∧ c = .int .i64 i ∧ d = .int .i64 ((k + i : Nat) : Int) ∧ Below w.heap.size w wr) (fun c _ _ => n - (intOf c).toNat)
  case atStart => exact ⟨0, Nat.zero_le _, rfl, rfl, Below.refl _ _⟩
  case round =>
    obtain ⟨i, hi, rfl, rfl, hbel⟩ := hrel
    by_cases hlt : i < n
    · have hlt' : (i : Int) < n := by omega
      rcases hz.out with h0 | ⟨b, off, rfl, hb1, hb2, hb3, hc⟩
      · omega
      have c0 := (hbel.cell (p := ⟨b, off + i, none⟩) (by simp only; omega)).trans (hc i (by omega)).1
      have e0 : marked k i = .int .i64 ((k + i : Nat) : Int) := by unfold marked; congr 1
      rw [e0] at c0
      clear hc e0
      go_wp2
      go_roundw
      case rel => exact ⟨i + 1, by omega, by go_num, by go_num, hbel⟩
      case measure => simp [intOf]; omega
    · have hke : i = n := by omega
      have hkk : ¬ ((i : Int) < n) := by omega
      have HK := Lib.hid hke
      clear hke
      go_wp2
      go_ret
      exact ⟨by rw [HK.out]; rfl, hbel⟩

end Go.Proofs.YtneapbggnnndhaaGreat
namespace Go.Proofs.YtneapbggnnndhaaGreat
open Go.RowKit Go.BigFrame Go.Deep
set_option linter.unusedVariables false
set_option linter.unusedSimpArgs false

theorem below_drewN0 {B : Nat} {a w : World} (h : Below B a w) (n : Nat) : Below B a (w.drewN n) := ⟨h.os, h.tape, h.output, h.size, h.block⟩

theorem eqIntS4 (zs : List Int) (s t : Value) (w : World) (hs : Row w s zs) (ht : Row w t zs) (hl : zs.length ≤ 4194304) :
    Calls Tryz.prog 25 #[s, t] w fun e w' => e = .returned (.bool true) ∧ Below w.heap.size w w' := by
  obtain ⟨a, cap, rfl, hz0⟩ := hs
  have hz := Lib.hid hz0
  obtain ⟨a2, cap2, rfl, hy0⟩ := ht
  have hy := Lib.hid hy0
  clear hz0 hy0
  go_enter Tryz.func25, Tryz.ntmps25
  go_wp2
  go_loopw [5] (fun c wr => ∃ k : Nat, k ≤ zs.length ∧ c = .int .i64 k ∧ Below w.heap.size w wr) (fun c _ => zs.length - (intOf c).toNat)
  case atStart => exact ⟨0, Nat.zero_le _, rfl, Below.refl _ _⟩
  case round =>
    obtain ⟨k, hk, rfl, hbel⟩ := hrel
    by_cases hlt : k < zs.length
    · have hlt' : (k : Int) < zs.length := by omega
      rcases hz.out with h0 | ⟨b, off, rfl, hb, hc⟩
      · rw [h0] at hlt; simp at hlt
      rcases hy.out with h0 | ⟨b2, off2, rfl, hb2, hc2⟩
      · rw [h0] at hlt; simp at hlt
      obtain ⟨x, hx⟩ : ∃ x, x = zs.getD k 0 := ⟨_, rfl⟩
      have hck : wr.cell? ⟨b, off + k, none⟩ = some (.int .i64 x) := by rw [hbel.cell (p := ⟨b, off + k, none⟩) hb, hx]; exact hc k hlt
      have hck2 : wr.cell? ⟨b2, off2 + k, none⟩ = some (.int .i64 x) := by rw [hbel.cell (p := ⟨b2, off2 + k, none⟩) hb2, hx]; exact hc2 k hlt
      have HX := Lib.hid hx
      clear hc hc2 hx
      go_wp2
      go_quiet (fail)
      go_wp2
      go_roundw
      case rel => first | exact ⟨k + 1, by omega, by go_num, below_drewN0 hbel _⟩ | ((repeat apply Exists.intro); exact ⟨⟨k + 1, by omega, by go_num, below_drewN0 hbel _⟩, rfl⟩)
      case measure => simp [intOf]; omega
    · have hke : k = zs.length := by omega
      have hkk : ¬ ((k : Int) < zs.length) := by omega
      have HK := Lib.hid hke
      clear hke
      go_wp2
      go_ret
      exact ⟨rfl, hbel⟩
theorem eqIntS (zs : List Int) (s t : Value) (w : World) (hs : Row w s zs) (ht : Row w t zs) (hl : zs.length ≤ 1048576) :
    Calls Tryz.prog 25 #[s, t] w fun e w' => e = .returned (.bool true) ∧ Below w.heap.size w w' := eqIntS4 zs s t w hs ht (by omega)
end Go.Proofs.YtneapbggnnndhaaGreat
namespace Go.Proofs.YtneapbggnnndhaaGreat
open Go.RowKit Go.BigFrame
set_option linter.unusedVariables false
set_option linter.unusedSimpArgs false

theorem Row.keep {w w' : World} {s : Value} {zs : List Int} (h : Row w s zs) (hb : Below w.heap.size w w') : Row w' s zs := by
  obtain ⟨a, cap, rfl, h⟩ := h
  refine ⟨a, cap, rfl, ?_⟩
  rcases h with h | ⟨b, off, rfl, hlt, hc⟩
  · exact .inl h
  · exact .inr ⟨b, off, rfl, Nat.lt_of_lt_of_le hlt hb.size, fun i hi => by rw [hb.cell (p := ⟨b, off + i, none⟩) hlt]; exact hc i hi⟩
/-- Are two lists of numbers the same? -/
def iSame (zs ys : List Int) : Bool := decide (zs = ys)
/-- Are two views the same? -/
def vSame (m a : Int) (zs : List Int) (m2 a2 : Int) (ys : List Int) : Bool := (decide (m = m2) && decide (a = a2)) && iSame zs ys
theorem iSame_len {zs ys : List Int} (h : ¬ zs.length = ys.length) : iSame zs ys = false := by
  unfold iSame
  apply decide_eq_false
  intro e
  exact h (by rw [e])
theorem iSame_at {zs ys : List Int} {k : Nat} (h : zs.getD k 0 ≠ ys.getD k 0) : iSame zs ys = false := by
  unfold iSame
  apply decide_eq_false
  intro e
  exact h (by rw [e])
theorem iSame_all {zs ys : List Int} (hl : zs.length = ys.length) (h : ∀ i, i < zs.length → zs.getD i 0 = ys.getD i 0) : iSame zs ys = true := by
  unfold iSame
  apply decide_eq_true
  apply List.ext_getElem hl
  intro i h1 h2
  have := h i h1
  simpa [List.getD, h1, h2] using this

set_option maxHeartbeats 1000000 in
theorem intsEqual (zs ys : List Int) (s t : Value) (w : World) (hs : Row w s zs) (ht : Row w t ys) (hl : zs.length ≤ 281474976710656) (hl2 : ys.length ≤ 281474976710656) :
    Calls Tryz.prog 52 #[s, t] w fun e w' => e = .returned (.bool (iSame zs ys)) ∧ Below w.heap.size w w' := by
  obtain ⟨a, cap, rfl, hz0⟩ := hs
  have hz := Lib.hid hz0
  obtain ⟨a2, cap2, rfl, hy0⟩ := ht
  have hy := Lib.hid hy0
  clear hz0 hy0
  by_cases hlen : zs.length = ys.length
  rotate_left
  · rw [iSame_len hlen]
    have d1 : decide ((zs.length : Int) = ys.length) = false := by simp; omega
    have d2 : ((zs.length : Int) != ys.length) = true := by simp; omega
    have d3 : ((zs.length : Int) == ys.length) = false := by simp; omega
    have d4 : ¬ ((zs.length : Int) = ys.length) := by omega
    go_enter Tryz.func52, Tryz.ntmps52
    go_wp2
    go_ret
    exact ⟨rfl, Below.refl _ _⟩
  obtain ⟨R, hR⟩ : ∃ R, R = iSame zs ys := ⟨_, rfl⟩
  rw [← hR]
  have HR := Lib.hid hR
  have HL := Lib.hid hlen
  have hlen' : (ys.length : Int) = zs.length := by omega
  clear hR
  go_enter Tryz.func52, Tryz.ntmps52
  go_wp2
  go_loopw [13] (fun c wr => ∃ k : Nat, k ≤ zs.length ∧ c = .int .i64 k ∧ (∀ i, i < k → zs.getD i 0 = ys.getD i 0) ∧ Below w.heap.size w wr) (fun c _ => zs.length - (intOf c).toNat)
  case atStart => exact ⟨0, Nat.zero_le _, rfl, fun i hi => absurd hi (Nat.not_lt_zero _), Below.refl _ _⟩
  case round =>
    obtain ⟨k, hk, rfl, hall, hbel⟩ := hrel
    have HA := Lib.hid hall
    clear hall
    by_cases hlt : k < zs.length
    · have hlt' : (k : Int) < zs.length := by omega
      have hlt2 : (k : Int) < ys.length := by have := HL.out; omega
      rcases hz.out with h0 | ⟨b, off, rfl, hb, hc⟩
      · rw [h0] at hlt; simp at hlt
      rcases hy.out with h0 | ⟨b2, off2, rfl, hb2, hc2⟩
      · have := HL.out; rw [h0] at this; simp at this; rw [this] at hlt; simp at hlt
      obtain ⟨x, hx⟩ : ∃ x, x = zs.getD k 0 := ⟨_, rfl⟩
      obtain ⟨p, hp⟩ : ∃ x, x = ys.getD k 0 := ⟨_, rfl⟩
      have h1 := hc k hlt
      have h2 := hc2 k (by have := HL.out; omega)
      rw [← hx] at h1
      rw [← hp] at h2
      have ff : ∀ w', Below wr.heap.size wr w' → w'.cell? ⟨b, off + k, none⟩ = some (.int .i64 x) ∧ w'.cell? ⟨b2, off2 + k, none⟩ = some (.int .i64 p) := by
        intro w' h
        have hB := bel_trans hbel h
        exact ⟨(hB.cell (p := ⟨b, _, none⟩) hb).trans h1, (hB.cell (p := ⟨b2, _, none⟩) hb2).trans h2⟩
      have FF := Lib.hid ff
      have HX := Lib.hid hx
      have HP := Lib.hid hp
      clear hc hc2 h1 h2 ff hx hp
      by_cases he : x = p
      · subst he
        have HN : Hid (∀ i, i < k + 1 → zs.getD i 0 = ys.getD i 0) := Lib.hid (fun i hi => by
          by_cases h : i = k
          · subst h; rw [← HX.out, ← HP.out]
          · exact HA.out i (by omega))
        go_wp2
        refine wp_region_below (by kernel_rfl) (by kernel_rfl) ?_
        repeat (go_big_quiet_step ((intro hw; first | with_reducible rfl | (obtain ⟨f0, g0⟩ := FF.out _ hw; simp only [f0, g0, Result.andThen]; first | exact ⟨trivial, rfl⟩ | exact ⟨rfl, rfl⟩))))
        refine wpQuiet_nil ?_
        intro w1 hw1
        go_wp2
        go_roundw
        case rel => first | exact ⟨k + 1, by omega, by go_num, HN.out, bel_trans hbel hw1⟩ | ((repeat apply Exists.intro); exact ⟨⟨k + 1, by omega, by go_num, HN.out, bel_trans hbel hw1⟩, rfl⟩)
        case measure => simp [intOf]; omega
      · have HO : Hid (iSame zs ys = false) := Lib.hid (iSame_at (k := k) (by rw [← HX.out, ← HP.out]; exact he))
        have b1 : (x == p) = false := by simpa using he
        have b2' : (x != p) = true := by simpa using he
        have b3 : decide (x = p) = false := by simpa using he
        have NE := Lib.hid he
        clear he
        go_wp2
        refine wp_region_below (by kernel_rfl) (by kernel_rfl) ?_
        repeat (go_big_quiet_step ((intro hw; first | with_reducible rfl | (obtain ⟨f0, g0⟩ := FF.out _ hw; simp only [f0, g0, Result.andThen]; first | exact ⟨trivial, rfl⟩ | exact ⟨rfl, rfl⟩) | (rw [if_neg NE.out]; exact ⟨rfl, rfl⟩))))
        refine wpQuiet_nil ?_
        intro w1 hw1
        go_wp2
        go_ret
        exact ⟨by rw [HR.out, HO.out]; rfl, bel_trans hbel hw1⟩
    · have hke : k = zs.length := by omega
      have hkk : ¬ ((k : Int) < zs.length) := by omega
      have HO : Hid (iSame zs ys = true) := Lib.hid (iSame_all HL.out (by rw [← hke]; exact HA.out))
      clear hke
      go_wp2
      go_ret
      exact ⟨by rw [HR.out, HO.out]; rfl, hbel⟩
end Go.Proofs.YtneapbggnnndhaaGreat
namespace Go.Proofs.YtneapbggnnndhaaGreat
open Go.RowKit Go.BigFrame Go.Deep
set_option linter.unusedVariables false
set_option linter.unusedSimpArgs false

def cellI (zs : List Int) (i : Nat) : Value := .int .i64 (zs.getD i 0)
/-- A slice of integers in a block that is new since a world. -/
def NewI (W w' : World) (v : Value) (zs : List Int) : Prop :=
  ∃ g cap, v = .slice (some ⟨g, 0, none⟩) zs.length cap ∧ (W.heap.size ≤ g ∧ zs.length ≤ cap) ∧ w'.rowIs g 3 zs.length (cellI zs)
theorem NewI.row {W w' : World} {v : Value} {zs : List Int} (h : NewI W w' v zs) : Row w' v zs := by
  obtain ⟨g, cap, rfl, _, h⟩ := h
  exact ⟨_, cap, rfl, .inr ⟨g, 0, rfl, h.lt, fun i hi => by simpa [cellI] using h.cell hi⟩⟩
theorem rowI_of_rowIs {w : World} {b : Nat} {t : TypeId} {zs : List Int} (h : w.rowIs b t zs.length (cellI zs)) (cap : Nat) : Row w (.slice (some ⟨b, 0, none⟩) zs.length cap) zs :=
  ⟨_, cap, rfl, .inr ⟨b, 0, rfl, h.lt, fun i hi => by simpa [cellI] using h.cell hi⟩⟩
theorem NewI.inR {W w' : World} {v : Value} {zs : List Int} (h : NewI W w' v zs) : InR true w' W.heap.size w'.heap.size v zs.length 1 (cellI zs) := by
  obtain ⟨g, cap, rfl, hg, hr⟩ := h
  exact InR.of_rowIs hr (by omega) (fun i hi => rfl) cap hg.1 hr.lt (Nat.le_refl _)
theorem NewI.ok {W w' : World} {v : Value} {zs : List Int} (h : NewI W w' v zs) : okS v := by
  obtain ⟨g, cap, rfl, hg, hr⟩ := h
  intro a n c e
  injection e with e1 e2 e3
  subst e1 e2 e3
  exact ⟨hg.2, (fun h => by cases h), fun x h => by injection h with h; rw [← h]⟩
theorem InR.of_row {w : World} {s : Value} {zs : List Int} (h : Row w s zs) : InR false w 0 w.heap.size s zs.length 1 (cellI zs) := by
  obtain ⟨a, c, rfl, h⟩ := h
  refine ⟨a, c, rfl, ?_⟩
  rcases h with h | ⟨b, off, rfl, hb, hc⟩
  · exact .inl (by rw [h]; rfl)
  · exact .inr ⟨b, off, rfl, Nat.zero_le _, hb, Nat.le_refl _, fun i hi => ⟨hc i (by omega), fun h => by cases h⟩⟩
/-- A row that a copy is being made into. -/
def partI (zs : List Int) (k : Nat) : Nat → Value := fun i => .int .i64 (if i < k then zs.getD i 0 else 0)
theorem info_int2 : (Tryz.prog.info? 3).map (fun i => (i.zero, i.size, i.bytes)) = some (some (.int .i64 0), 1, 8) := by kernel_rfl

theorem toIntSN (zs : List Int) (s : Value) (w : World) (hr : Row w s zs) (hl : zs.length ≤ 1048576) :
    Calls Tryz.prog 23 #[s] w fun e w' => ∃ s', e = .returned s' ∧ NewI w w' s' zs ∧ Below w.heap.size w w' := by
  obtain ⟨a, cap, rfl, hz0⟩ := hr
  have hz := Lib.hid hz0
  clear hz0
  have hmk := run_make_row' (P := Tryz.prog) 25 3 (.int .i64 0) 8 Tryz.underlying25 info_int2 rfl .i64 .i64 zs.length (by omega) (by omega)
  go_enter Tryz.func23, Tryz.ntmps23
  go_wp2
  clear hmk
  go_loopw [4] (fun c wr => ∃ k : Nat, k ≤ zs.length ∧ c = .int .i64 k ∧ wr.rowIs w.heap.size 3 zs.length (partI zs k) ∧ Below w.heap.size w wr) (fun c _ => zs.length - (intOf c).toNat)
  case atStart => exact ⟨0, Nat.zero_le _, rfl, (World.rowIs_made w _ _ _).congr (fun i _ => by simp [partI]), (Below.refl _ _).alloc (Nat.le_refl _) _⟩
  case round =>
    obtain ⟨k, hk, rfl, hrow, hbel⟩ := hrel
    by_cases hlt : k < zs.length
    · have hlt' : (k : Int) < zs.length := by omega
      rcases hz.out with h0 | ⟨b, off, rfl, hb, hc⟩
      · rw [h0] at hlt; simp at hlt
      obtain ⟨x, hx⟩ : ∃ x, x = zs.getD k 0 := ⟨_, rfl⟩
      have hck : wr.cell? ⟨b, off + k, none⟩ = some (.int .i64 x) := by rw [hbel.cell (p := ⟨b, off + k, none⟩) hb, hx]; exact hc k hlt
      have hst : wr.cell? ⟨w.heap.size, k, none⟩ = some (partI zs k k) := hrow.cell hlt
      have hfr : wr.frozen? ⟨w.heap.size, k, none⟩ = false := hrow.frozen k
      have HX := Lib.hid hx
      clear hc hx
      go_wp2
      go_roundw
      case rel => exact ⟨k + 1, by omega, by go_num, (hrow.set k _).congr (fun i hi => by
        unfold partI
        rw [HX.out]
        by_cases e : i = k
        · subst e; simp
        · rw [if_neg e]
          by_cases h2 : i < k
          · rw [if_pos h2, if_pos (by omega)]
          · rw [if_neg h2, if_neg (by omega)]), hbel.setCell (Nat.le_refl _) _⟩
      case measure => simp [intOf]; omega
    · have hke : k = zs.length := by omega
      have hkk : ¬ ((k : Int) < zs.length) := by omega
      have HK := Lib.hid hke
      clear hke
      go_wp2
      go_ret
      exact ⟨_, rfl, ⟨_, _, rfl, ⟨Nat.le_refl _, Nat.le_refl _⟩, hrow.congr (fun i hi => by unfold partI cellI; rw [if_pos (by rw [HK.out]; exact hi)])⟩, hbel⟩

theorem szIntS (len cap : Nat) (a : Option Addr) (l : Nat) (w : World) (hl : l ≤ 1048576) (hn : len ≤ 9223372036854775807) :
    Calls Tryz.prog 19 #[.slice a len cap, .int .i64 l] w fun e w' => e = .returned (.int .i64 (szR l len)) ∧ w' = w := by
  by_cases h : len ≤ l
  · have h1 : ¬ ((l : Int) - len < 0) := by omega
    have e0 : szR l len = (l : Int) - len := by rw [szR, if_pos h]; omega
    rw [e0]
    clear e0
    go_enter Tryz.func19, Tryz.ntmps19
    go_wp2
    go_ret
    exact ⟨rfl, rfl⟩
  · have h1 : ((l : Int) - len < 0) := by omega
    have e0 : szR l len = -1 := by rw [szR, if_neg h]
    rw [e0]
    clear e0
    go_enter Tryz.func19, Tryz.ntmps19
    go_wp2
    go_ret
    exact ⟨rfl, rfl⟩
end Go.Proofs.YtneapbggnnndhaaGreat
