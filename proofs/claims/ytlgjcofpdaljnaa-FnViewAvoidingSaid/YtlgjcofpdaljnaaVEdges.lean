/- The laws' marks: rows that are written over and read again. The laws' marks: rows that are written over and read again. Slices of integers that the laws compare. When two views are the same: in the program and in the model. Views that the laws copy, compare, measure, mark and hold. -/
import Derived.Test.YtlgjcofpdaljnaaRowAt
import Derived.Test.YtlgjcofpdaljnaaBase
import Derived.Deep.OwnRows
namespace Go.Proofs.Ytlgjcofpdaljnaa
open Go.RowKit Go.BigFrame Go.Deep
set_option linter.unusedVariables false
set_option linter.unusedSimpArgs false

/-- What a marked row holds. -/
def marked (k : Int) : Nat → Value := fun i => .int .i64 (k + i)
/-- A row that is being marked, in its block. -/
def MidR (w : World) (b off N c : Nat) (k : Int) (cs : Nat → Value) : Prop :=
  b < w.heap.size ∧ ∀ i, i < N → w.cell? ⟨b, off + i, none⟩ = some (if i < c then marked k i else cs i) ∧ w.frozen? ⟨b, off + i, none⟩ = false
theorem MidR.set {w : World} {b off N c : Nat} {k : Int} {cs : Nat → Value} (h : MidR w b off N c k cs) (hc : c < N) : MidR (w.setCell ⟨b, off + c, none⟩ (.int .i64 (k + c))) b off N (c + 1) k cs := by
  obtain ⟨hb, hh⟩ := h
  refine ⟨by simpa using hb, fun i hi => ?_⟩
  obtain ⟨h1, h2⟩ := hh i hi
  constructor
  · by_cases e : i = c
    · subst e
      rw [if_pos (by omega), World.cell?_setCell_same _ _ _ h1]
      rfl
    · have ne : (⟨b, off + c, none⟩ : Addr) ≠ ⟨b, off + i, none⟩ := by intro h; injection h with _ h _; omega
      rw [World.cell?_setCell_other _ _ _ _ ne, h1]
      by_cases h3 : i < c
      · rw [if_pos h3, if_pos (by omega)]
      · rw [if_neg h3, if_neg (by omega)]
  · rw [World.frozen?_setCell]; exact h2
theorem MidR.of {fz : Bool} {w : World} {lo hi b off cap n sz : Nat} {cs : Nat → Value} (k : Int) (hb : b < w.heap.size) (h : ∀ i, i < n * sz → w.cell? ⟨b, off + i, none⟩ = some (cs i) ∧ (true = true → w.frozen? ⟨b, off + i, none⟩ = false)) : MidR w b off (n * sz) 0 k cs :=
  ⟨hb, fun i hi => ⟨by rw [if_neg (by omega)]; exact (h i hi).1, (h i hi).2 rfl⟩⟩

end Go.Proofs.Ytlgjcofpdaljnaa
namespace Go.Proofs.Ytlgjcofpdaljnaa
open Go.RowKit Go.BigFrame Go.Deep
set_option linter.unusedVariables false
set_option linter.unusedSimpArgs false

end Go.Proofs.Ytlgjcofpdaljnaa
namespace Go.Proofs.Ytlgjcofpdaljnaa
open Go.RowKit Go.BigFrame Go.Deep
set_option linter.unusedVariables false
set_option linter.unusedSimpArgs false

theorem below_drewN0 {B : Nat} {a w : World} (h : Below B a w) (n : Nat) : Below B a (w.drewN n) := ⟨h.os, h.tape, h.output, h.size, h.block⟩

end Go.Proofs.Ytlgjcofpdaljnaa
namespace Go.Proofs.Ytlgjcofpdaljnaa
open Go.RowKit Go.BigFrame
set_option linter.unusedVariables false
set_option linter.unusedSimpArgs false

theorem Row.keep {w w' : World} {s : Value} {zs : List Int} (h : Row w s zs) (hb : Below w.heap.size w w') : Row w' s zs := by
  obtain ⟨a, cap, rfl, h⟩ := h
  refine ⟨a, cap, rfl, ?_⟩
  rcases h with h | ⟨b, off, rfl, hlt, hc⟩
  · exact .inl h
  · exact .inr ⟨b, off, rfl, Nat.lt_of_lt_of_le hlt hb.size, fun i hi => by rw [hb.cell (p := ⟨b, off + i, none⟩) hlt]; exact hc i hi⟩
/-- Are two lists of numbers the same? -/
def iSame (zs ys : List Int) : Bool := decide (zs = ys)
/-- Are two views the same? -/
def vSame (m a : Int) (zs : List Int) (m2 a2 : Int) (ys : List Int) : Bool := (decide (m = m2) && decide (a = a2)) && iSame zs ys
theorem iSame_len {zs ys : List Int} (h : ¬ zs.length = ys.length) : iSame zs ys = false := by
  unfold iSame
  apply decide_eq_false
  intro e
  exact h (by rw [e])
theorem iSame_at {zs ys : List Int} {k : Nat} (h : zs.getD k 0 ≠ ys.getD k 0) : iSame zs ys = false := by
  unfold iSame
  apply decide_eq_false
  intro e
  exact h (by rw [e])
theorem iSame_all {zs ys : List Int} (hl : zs.length = ys.length) (h : ∀ i, i < zs.length → zs.getD i 0 = ys.getD i 0) : iSame zs ys = true := by
  unfold iSame
  apply decide_eq_true
  apply List.ext_getElem hl
  intro i h1 h2
  have := h i h1
  simpa [List.getD, h1, h2] using this

set_option maxHeartbeats 1000000 in
theorem intsEqual (zs ys : List Int) (s t : Value) (w : World) (hs : Row w s zs) (ht : Row w t ys) (hl : zs.length ≤ 281474976710656) (hl2 : ys.length ≤ 281474976710656) :
    Calls Try.prog 57 #[s, t] w fun e w' => e = .returned (.bool (iSame zs ys)) ∧ Below w.heap.size w w' := by
  obtain ⟨a, cap, rfl, hz0⟩ := hs
  have hz := Lib.hid hz0
  obtain ⟨a2, cap2, rfl, hy0⟩ := ht
  have hy := Lib.hid hy0
  clear hz0 hy0
  by_cases hlen : zs.length = ys.length
  rotate_left
  · rw [iSame_len hlen]
    have d1 : decide ((zs.length : Int) = ys.length) = false := by simp; omega
    have d2 : ((zs.length : Int) != ys.length) = true := by simp; omega
    have d3 : ((zs.length : Int) == ys.length) = false := by simp; omega
    have d4 : ¬ ((zs.length : Int) = ys.length) := by omega
    go_enter Try.func57, Try.ntmps57
    go_wp2
    go_ret
    exact ⟨rfl, Below.refl _ _⟩
  obtain ⟨R, hR⟩ : ∃ R, R = iSame zs ys := ⟨_, rfl⟩
  rw [← hR]
  have HR := Lib.hid hR
  have HL := Lib.hid hlen
  have hlen' : (ys.length : Int) = zs.length := by omega
  clear hR
  go_enter Try.func57, Try.ntmps57
  go_wp2
  go_loopw [13] (fun c wr => ∃ k : Nat, k ≤ zs.length ∧ c = .int .i64 k ∧ (∀ i, i < k → zs.getD i 0 = ys.getD i 0) ∧ Below w.heap.size w wr) (fun c _ => zs.length - (intOf c).toNat)
  case atStart => exact ⟨0, Nat.zero_le _, rfl, fun i hi => absurd hi (Nat.not_lt_zero _), Below.refl _ _⟩
  case round =>
    obtain ⟨k, hk, rfl, hall, hbel⟩ := hrel
    have HA := Lib.hid hall
    clear hall
    by_cases hlt : k < zs.length
    · have hlt' : (k : Int) < zs.length := by omega
      have hlt2 : (k : Int) < ys.length := by have := HL.out; omega
      rcases hz.out with h0 | ⟨b, off, rfl, hb, hc⟩
      · rw [h0] at hlt; simp at hlt
      rcases hy.out with h0 | ⟨b2, off2, rfl, hb2, hc2⟩
      · have := HL.out; rw [h0] at this; simp at this; rw [this] at hlt; simp at hlt
      obtain ⟨x, hx⟩ : ∃ x, x = zs.getD k 0 := ⟨_, rfl⟩
      obtain ⟨p, hp⟩ : ∃ x, x = ys.getD k 0 := ⟨_, rfl⟩
      have h1 := hc k hlt
      have h2 := hc2 k (by have := HL.out; omega)
      rw [← hx] at h1
      rw [← hp] at h2
      have ff : ∀ w', Below wr.heap.size wr w' → w'.cell? ⟨b, off + k, none⟩ = some (.int .i64 x) ∧ w'.cell? ⟨b2, off2 + k, none⟩ = some (.int .i64 p) := by
        intro w' h
        have hB := bel_trans hbel h
        exact ⟨(hB.cell (p := ⟨b, _, none⟩) hb).trans h1, (hB.cell (p := ⟨b2, _, none⟩) hb2).trans h2⟩
      have FF := Lib.hid ff
      have HX := Lib.hid hx
      have HP := Lib.hid hp
      clear hc hc2 h1 h2 ff hx hp
      by_cases he : x = p
      · subst he
        have HN : Hid (∀ i, i < k + 1 → zs.getD i 0 = ys.getD i 0) := Lib.hid (fun i hi => by
          by_cases h : i = k
          · subst h; rw [← HX.out, ← HP.out]
          · exact HA.out i (by omega))
        go_wp2
        refine wp_region_below (by kernel_rfl) (by kernel_rfl) ?_
        repeat (go_big_quiet_step ((intro hw; first | with_reducible rfl | (obtain ⟨f0, g0⟩ := FF.out _ hw; simp only [f0, g0, Result.andThen]; first | exact ⟨trivial, rfl⟩ | exact ⟨rfl, rfl⟩))))
        refine wpQuiet_nil ?_
        intro w1 hw1
        go_wp2
        go_roundw
        case rel => first | exact ⟨k + 1, by omega, by go_num, HN.out, bel_trans hbel hw1⟩ | ((repeat apply Exists.intro); exact ⟨⟨k + 1, by omega, by go_num, HN.out, bel_trans hbel hw1⟩, rfl⟩)
        case measure => simp [intOf]; omega
      · have HO : Hid (iSame zs ys = false) := Lib.hid (iSame_at (k := k) (by rw [← HX.out, ← HP.out]; exact he))
        have b1 : (x == p) = false := by simpa using he
        have b2' : (x != p) = true := by simpa using he
        have b3 : decide (x = p) = false := by simpa using he
        have NE := Lib.hid he
        clear he
        go_wp2
        refine wp_region_below (by kernel_rfl) (by kernel_rfl) ?_
        repeat (go_big_quiet_step ((intro hw; first | with_reducible rfl | (obtain ⟨f0, g0⟩ := FF.out _ hw; simp only [f0, g0, Result.andThen]; first | exact ⟨trivial, rfl⟩ | exact ⟨rfl, rfl⟩) | (rw [if_neg NE.out]; exact ⟨rfl, rfl⟩))))
        refine wpQuiet_nil ?_
        intro w1 hw1
        go_wp2
        go_ret
        exact ⟨by rw [HR.out, HO.out]; rfl, bel_trans hbel hw1⟩
    · have hke : k = zs.length := by omega
      have hkk : ¬ ((k : Int) < zs.length) := by omega
      have HO : Hid (iSame zs ys = true) := Lib.hid (iSame_all HL.out (by rw [← hke]; exact HA.out))
      clear hke
      go_wp2
      go_ret
      exact ⟨by rw [HR.out, HO.out]; rfl, hbel⟩
set_option maxHeartbeats 1000000 in
theorem viewSame (m a m2 a2 : Int) (zs ys : List Int) (s t : Value) (w : World) (hs : Row w s zs) (ht : Row w t ys) (hl : zs.length ≤ 281474976710656) (hl2 : ys.length ≤ 281474976710656) :
    Calls Try.prog 20 #[.agg #[.int .i64 m, .int .i64 a, s], .agg #[.int .i64 m2, .int .i64 a2, t]] w fun e w' => e = .returned (.bool (vSame m a zs m2 a2 ys)) ∧ Below w.heap.size w w' := by
  have hB : ∀ (A B : Obj), Below w.heap.size w ((w.alloc A).alloc B) := fun A B => ((Below.refl _ _).alloc (Nat.le_refl _) _).alloc (by simp) _
  have hc := fun A B => intsEqual zs ys s t ((w.alloc A).alloc B) (hs.keep (hB A B)) (ht.keep (hB A B)) hl hl2
  unfold vSame
  generalize iSame zs ys = S at hc ⊢
  have HC := Lib.hid hc
  have HB := Lib.hid hB
  clear hc hB
  by_cases h : m = m2
  · have d1 : decide (m = m2) = true := by simpa using h
    have d2 : (m == m2) = true := by simpa using h
    rw [d1, Bool.true_and]
    clear h
    by_cases h : a = a2
    · have d3 : decide (a = a2) = true := by simpa using h
      have d4 : (a == a2) = true := by simpa using h
      rw [d3, Bool.true_and]
      clear h
      go_enter Try.func20, Try.ntmps20
      go_wp2_with (go_at_call 57; refine (HC.out _ _).mono ?_; rintro e w1 ⟨rfl, hb1⟩)
      go_ret
      exact ⟨rfl, bel_trans (HB.out _ _) hb1⟩
    · have d3 : decide (a = a2) = false := by simpa using h
      have d4 : (a == a2) = false := by simpa using h
      rw [d3, Bool.false_and]
      go_enter Try.func20, Try.ntmps20
      go_wp2
      go_ret
      exact ⟨rfl, HB.out _ _⟩
  · have d1 : decide (m = m2) = false := by simpa using h
    have d2 : (m == m2) = false := by simpa using h
    rw [d1, Bool.false_and, Bool.false_and]
    go_enter Try.func20, Try.ntmps20
    go_wp2
    go_ret
    exact ⟨rfl, HB.out _ _⟩
end Go.Proofs.Ytlgjcofpdaljnaa
namespace Go.Proofs.Ytlgjcofpdaljnaa
open Go.RowKit Go.BigFrame Go.Deep
set_option linter.unusedVariables false
set_option linter.unusedSimpArgs false

def cellI (zs : List Int) (i : Nat) : Value := .int .i64 (zs.getD i 0)
/-- A slice of integers in a block that is new since a world. -/
def NewI (W w' : World) (v : Value) (zs : List Int) : Prop :=
  ∃ g cap, v = .slice (some ⟨g, 0, none⟩) zs.length cap ∧ (W.heap.size ≤ g ∧ zs.length ≤ cap) ∧ w'.rowIs g 3 zs.length (cellI zs)
theorem NewI.row {W w' : World} {v : Value} {zs : List Int} (h : NewI W w' v zs) : Row w' v zs := by
  obtain ⟨g, cap, rfl, _, h⟩ := h
  exact ⟨_, cap, rfl, .inr ⟨g, 0, rfl, h.lt, fun i hi => by simpa [cellI] using h.cell hi⟩⟩
theorem rowI_of_rowIs {w : World} {b : Nat} {t : TypeId} {zs : List Int} (h : w.rowIs b t zs.length (cellI zs)) (cap : Nat) : Row w (.slice (some ⟨b, 0, none⟩) zs.length cap) zs :=
  ⟨_, cap, rfl, .inr ⟨b, 0, rfl, h.lt, fun i hi => by simpa [cellI] using h.cell hi⟩⟩
theorem NewI.inR {W w' : World} {v : Value} {zs : List Int} (h : NewI W w' v zs) : InR true w' W.heap.size w'.heap.size v zs.length 1 (cellI zs) := by
  obtain ⟨g, cap, rfl, hg, hr⟩ := h
  exact InR.of_rowIs hr (by omega) (fun i hi => rfl) cap hg.1 hr.lt (Nat.le_refl _)
theorem NewI.ok {W w' : World} {v : Value} {zs : List Int} (h : NewI W w' v zs) : okS v := by
  obtain ⟨g, cap, rfl, hg, hr⟩ := h
  intro a n c e
  injection e with e1 e2 e3
  subst e1 e2 e3
  exact ⟨hg.2, (fun h => by cases h), fun x h => by injection h with h; rw [← h]⟩
theorem InR.of_row {w : World} {s : Value} {zs : List Int} (h : Row w s zs) : InR false w 0 w.heap.size s zs.length 1 (cellI zs) := by
  obtain ⟨a, c, rfl, h⟩ := h
  refine ⟨a, c, rfl, ?_⟩
  rcases h with h | ⟨b, off, rfl, hb, hc⟩
  · exact .inl (by rw [h]; rfl)
  · exact .inr ⟨b, off, rfl, Nat.zero_le _, hb, Nat.le_refl _, fun i hi => ⟨hc i (by omega), fun h => by cases h⟩⟩
/-- A row that a copy is being made into. -/
def partI (zs : List Int) (k : Nat) : Nat → Value := fun i => .int .i64 (if i < k then zs.getD i 0 else 0)
theorem info_int2 : (Try.prog.info? 3).map (fun i => (i.zero, i.size, i.bytes)) = some (some (.int .i64 0), 1, 8) := by kernel_rfl

end Go.Proofs.Ytlgjcofpdaljnaa
