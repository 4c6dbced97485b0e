/- Whether a number is in a list (slices.Index, slices.Contains; the model's l5In); lists of different nodes (areDifferentNodes). -/
import Derived.Test.YtlgjcofpdaljnaaDerL
import Derived.Test.YtlgjcofpdaljnaaGvInts
import Derived.Test.YtlgjcofpdaljnaaBoxes
import Derived.Deep.RegionLaw
namespace Go.Proofs.Ytlgjcofpdaljnaa
open Go.RowKit Go.BigFrame Go.Deep
set_option linter.unusedVariables false
set_option linter.unusedSimpArgs false

set_option maxHeartbeats 1000000 in
theorem idxI (zs : List Int) (x : Int) (s : Value) (w : World) (hs : Row w s zs) (hl : zs.length ≤ 281474976710656) :
    Calls Try.prog 89 #[s, .int .i64 x] w fun e w' => ∃ k : Int, e = .returned (.int .i64 k) ∧ decide (0 ≤ k) = inL zs x ∧ Below w.heap.size w w' := by
  obtain ⟨a, cap, rfl, hz0⟩ := hs
  have hz := Lib.hid hz0
  clear hz0
  obtain ⟨R, hR⟩ : ∃ R, R = inL zs x := ⟨_, rfl⟩
  rw [← hR]
  have HR := Lib.hid hR
  clear hR
  go_enter Try.func89, Try.ntmps89
  go_wp2
  go_loop [8] (fun c => ∃ k : Nat, k ≤ zs.length ∧ c = .int .i64 k ∧ ∀ i, i < k → zs.getD i 0 ≠ x) (fun c => zs.length - (intOf c).toNat)
  case atStart => exact ⟨0, Nat.zero_le _, rfl, fun i hi => absurd hi (Nat.not_lt_zero _)⟩
  case round =>
    obtain ⟨k, hk, rfl, hall⟩ := hrel
    have HA := Lib.hid hall
    clear hall
    by_cases hlt : k < zs.length
    · have hlt' : (k : Int) < zs.length := by omega
      rcases hz.out with h0 | ⟨b, off, rfl, hb, hc⟩
      · rw [h0] at hlt; simp at hlt
      obtain ⟨y, hy⟩ : ∃ y, y = zs.getD k 0 := ⟨_, rfl⟩
      have h1 := hc k hlt
      rw [← hy] at h1
      have HY := Lib.hid hy
      clear hc hy
      by_cases he : x = y
      · have d1 : (x == y) = true := by simpa using he
        have HT : Hid (inL zs x = true) := Lib.hid (by
          unfold inL
          apply decide_eq_true
          rw [he, HY.out]
          simp [List.getD, hlt])
        clear he
        go_wp2
        go_ret
        exact ⟨(k : Int), rfl, by rw [HR.out, HT.out]; exact decide_eq_true (by omega), Below.refl _ _⟩
      · have d1 : (x == y) = false := by simpa using he
        have HN : Hid (∀ i, i < k + 1 → zs.getD i 0 ≠ x) := Lib.hid (fun i hi => by
          by_cases h : i = k
          · subst h; rw [← HY.out]; exact fun e => he e.symm
          · exact HA.out i (by omega))
        clear he
        go_wp2
        go_round
        case rel => exact ⟨k + 1, by omega, by go_num, HN.out⟩
        case measure => simp [intOf]; omega
    · have hke : k = zs.length := by omega
      have hkk : ¬ ((k : Int) < zs.length) := by omega
      have HT : Hid (inL zs x = false) := Lib.hid (by
        unfold inL
        apply decide_eq_false
        intro hm
        obtain ⟨i, hi, he⟩ := List.getElem_of_mem hm
        exact HA.out i (by omega) (by simpa [List.getD, hi] using he))
      clear hke
      go_wp2
      go_ret
      exact ⟨-1, rfl, by rw [HR.out, HT.out]; rfl, Below.refl _ _⟩

theorem containsI (zs : List Int) (x : Int) (s : Value) (w : World) (hs : Row w s zs) (hl : zs.length ≤ 281474976710656) :
    Calls Try.prog 51 #[s, .int .i64 x] w fun e w' => e = .returned (.bool (inL zs x)) ∧ Below w.heap.size w w' := by
  have h := idxI zs x s w hs hl
  obtain ⟨R, hR⟩ : ∃ R, R = inL zs x := ⟨_, rfl⟩
  rw [← hR] at h ⊢
  have H := Lib.hid h
  clear h hR
  go_enter Try.func51, Try.ntmps51
  go_wp2_with (go_at_call 89; refine H.out.mono ?_; rintro e w1 ⟨k, rfl, hk, hb1⟩; have HK := Lib.hid hk; clear hk)
  go_ret
  exact ⟨congrArg (fun b => Ending.returned (.bool b)) HK.out, hb1⟩

set_option maxHeartbeats 1000000 in
theorem l5In (zs : List Int) (x : Int) (s : Value) (w : World) (hs : Row w s zs) (hl : zs.length ≤ 281474976710656) :
    Calls Try.prog 54 #[s, .int .i64 x] w fun e w' => e = .returned (.bool (inL zs x)) ∧ Below w.heap.size w w' := by
  obtain ⟨a, cap, rfl, hz0⟩ := hs
  have hz := Lib.hid hz0
  clear hz0
  obtain ⟨R, hR⟩ : ∃ R, R = inL zs x := ⟨_, rfl⟩
  rw [← hR]
  have HR := Lib.hid hR
  clear hR
  go_enter Try.func54, Try.ntmps54
  go_wp2
  go_loop [5] (fun c => ∃ k : Nat, k ≤ zs.length ∧ c = .int .i64 k ∧ ∀ i, i < k → zs.getD i 0 ≠ x) (fun c => zs.length - (intOf c).toNat)
  case atStart => exact ⟨0, Nat.zero_le _, rfl, fun i hi => absurd hi (Nat.not_lt_zero _)⟩
  case round =>
    obtain ⟨k, hk, rfl, hall⟩ := hrel
    have HA := Lib.hid hall
    clear hall
    by_cases hlt : k < zs.length
    · have hlt' : (k : Int) < zs.length := by omega
      rcases hz.out with h0 | ⟨b, off, rfl, hb, hc⟩
      · rw [h0] at hlt; simp at hlt
      obtain ⟨y, hy⟩ : ∃ y, y = zs.getD k 0 := ⟨_, rfl⟩
      have h1 := hc k hlt
      rw [← hy] at h1
      have HY := Lib.hid hy
      clear hc hy
      by_cases he : y = x
      · have d1 : (y == x) = true := by simpa using he
        have HT : Hid (inL zs x = true) := Lib.hid (by
          unfold inL
          apply decide_eq_true
          rw [← he, HY.out]
          simp [List.getD, hlt])
        clear he
        go_wp2
        go_ret
        exact ⟨congrArg (fun b => Ending.returned (.bool b)) (by rw [HR.out, HT.out]), Below.refl _ _⟩
      · have d1 : (y == x) = false := by simpa using he
        have HN : Hid (∀ i, i < k + 1 → zs.getD i 0 ≠ x) := Lib.hid (fun i hi => by
          by_cases h : i = k
          · subst h; rw [← HY.out]; exact he
          · exact HA.out i (by omega))
        clear he
        go_wp2
        go_round
        case rel => exact ⟨k + 1, by omega, by go_num, HN.out⟩
        case measure => simp [intOf]; omega
    · have hke : k = zs.length := by omega
      have hkk : ¬ ((k : Int) < zs.length) := by omega
      have HT : Hid (inL zs x = false) := Lib.hid (by
        unfold inL
        apply decide_eq_false
        intro hm
        obtain ⟨i, hi, he⟩ := List.getElem_of_mem hm
        exact HA.out i (by omega) (by simpa [List.getD, hi] using he))
      clear hke
      go_wp2
      go_ret
      exact ⟨congrArg (fun b => Ending.returned (.bool b)) (by rw [HR.out, HT.out]), Below.refl _ _⟩

/-- A block of marks, one a node. -/
def BM (w : World) (b : Nat) (f : Nat → Bool) : Prop := ∃ cur, w.heap[b]? = some (.cells cur 137 (0, 0)) ∧ ∀ i, i < 12 → cur[i]? = some (.bool (f i))
section
variable {w w' : World} {b : Nat} {f g : Nat → Bool}
theorem BM.lt (h : BM w b f) : b < w.heap.size := by obtain ⟨cur, h1, _⟩ := h; exact (Array.getElem?_eq_some_iff.1 h1).1
theorem BM.cell (h : BM w b f) {i : Nat} (hi : i < 12) : w.cell? ⟨b, i, none⟩ = some (.bool (f i)) ∧ w.frozen? ⟨b, i, none⟩ = false := by
  obtain ⟨cur, h1, h2⟩ := h
  exact ⟨by simp [World.cell?, h1, h2 i hi], by simp [World.frozen?, h1]⟩
theorem BM.keep (h : BM w b f) (k : Below w.heap.size w w') : BM w' b f := by
  obtain ⟨cur, h1, h2⟩ := h
  exact ⟨cur, (k.block b (Array.getElem?_eq_some_iff.1 h1).1).trans h1, h2⟩
theorem BM.set (h : BM w b f) {i : Nat} (hi : i < 12) (hg : ∀ j, j < 12 → g j = if j = i then true else f j) : BM (w.setCell ⟨b, i, none⟩ (.bool true)) b g := by
  obtain ⟨cur, h1, h2⟩ := h
  refine ⟨cur.setIfInBounds i (.bool true), by simp [World.setCell, Array.getElem?_modify, h1], fun j hj => ?_⟩
  have hc : i < cur.size := (Array.getElem?_eq_some_iff.1 (h2 i hi)).1
  rw [Array.getElem?_setIfInBounds, hg j hj]
  by_cases e : j = i
  · rw [if_pos e.symm, if_pos e, if_pos hc]
  · rw [if_neg (fun h => e h.symm), if_neg e]; exact h2 j hj
theorem BM.new (w : World) : BM (w.alloc (.cells #[.bool false, .bool false, .bool false, .bool false, .bool false, .bool false, .bool false, .bool false, .bool false, .bool false, .bool false, .bool false] 137)) w.heap.size (fun _ => false) := by
  refine ⟨_, blk_alloc_new _ _, fun i hi => ?_⟩
  have : i = 0 ∨ i = 1 ∨ i = 2 ∨ i = 3 ∨ i = 4 ∨ i = 5 ∨ i = 6 ∨ i = 7 ∨ i = 8 ∨ i = 9 ∨ i = 10 ∨ i = 11 := by omega
  rcases this with rfl | rfl | rfl | rfl | rfl | rfl | rfl | rfl | rfl | rfl | rfl | rfl <;> rfl
end

set_option maxHeartbeats 2000000 in
theorem areDifferentNodes (n : Int) (ns : List Int) (s t : Value) (w : World) (hn : n ≤ 12) (ht : Row w t ns) (hl : ns.length ≤ 281474976710656) :
    Calls Try.prog 61 #[.agg #[.int .i64 n, s], t] w fun e w' => e = .returned (.bool (ndB n ns)) ∧ Below w.heap.size w w' := by
  obtain ⟨a, cap, rfl, hz0⟩ := ht
  have hz := Lib.hid hz0
  clear hz0
  have hh := fun x w' => hasNode n x s w'
  have HH := Lib.hid hh
  obtain ⟨R, hR⟩ : ∃ R, R = ndB n ns := ⟨_, rfl⟩
  rw [← hR]
  have HR := Lib.hid hR
  clear hR hh
  go_enter Try.func61, Try.ntmps61
  go_wp2
  go_loopw [10] (fun c wr => ∃ k : Nat, k ≤ ns.length ∧ c = .int .i64 k ∧ Below w.heap.size w wr ∧ Box wr w.heap.size 25 #[.int .i64 n, s] ∧ BM wr (w.heap.size + 1) (fun i => decide ((i : Int) ∈ ns.take k)) ∧ ndB n (ns.take k) = true) (fun c _ => ns.length - (intOf c).toNat)
  case atStart => exact ⟨0, Nat.zero_le _, rfl, ((Below.refl _ _).alloc (Nat.le_refl _) _).alloc (by simp) _, (Box.new w _ _).alloc _, by simpa using BM.new (w.alloc (.cells #[.int .i64 n, s] 25)), ndB_nil n⟩
  case round =>
    obtain ⟨k, hk, rfl, hbel, hbx, hbm, hnd⟩ := hrel
    have HB := Lib.hid (And.intro hbel (And.intro hbx (And.intro hbm hnd)))
    have x0 : wr.cell? ⟨w.heap.size, 0, none⟩ = some (.int .i64 n) := by simpa using hbx.cell 0
    have x1 : wr.cell? ⟨w.heap.size, 1, none⟩ = some s := by simpa using hbx.cell 1
    by_cases hlt : k < ns.length
    · have hlt' : (k : Int) < ns.length := by omega
      rcases hz.out with h0 | ⟨b, off, rfl, hb, hc⟩
      · rw [h0] at hlt; simp at hlt
      obtain ⟨x, hx⟩ : ∃ x, x = ns.getD k 0 := ⟨_, rfl⟩
      have h1 := (hbel.cell (p := ⟨b, off + k, none⟩) hb).trans (hc k hlt)
      rw [← hx] at h1
      have hst := ndB_take (n := n) hlt
      rw [← hx, hnd, Bool.true_and] at hst
      have hmem : ∀ i : Nat, decide ((i : Int) ∈ ns.take (k + 1)) = if (i : Int) = x then true else decide ((i : Int) ∈ ns.take k) := fun i => by
        rw [take_snoc ns 0 hlt, ← hx]
        by_cases e : (i : Int) = x
        · rw [if_pos e]; simp [e]
        · rw [if_neg e]; simp [e]
      have HM := Lib.hid hmem
      clear hc hx hbel hbx hnd hmem
      cases hin : inN n x
      · rw [hin, Bool.false_and] at hst
        have HF : Hid (ndB n ns = false) := Lib.hid (ndB_bad hst)
        have hq := HH.out x
        rw [show (decide (0 ≤ x) && decide (x < n)) = inN n x from rfl, hin] at hq
        have HQ := Lib.hid hq
        clear hst hin hq hbm
        go_wp2_with (go_at_call 83; (with_reducible refine (HQ.out _).mono ?_); rintro e w1 ⟨rfl, hb1⟩)
        go_ret
        exact ⟨congrArg (fun b => Ending.returned (.bool b)) (by rw [HR.out, HF.out]), bel_trans HB.out.1 hb1⟩
      · rw [hin, Bool.true_and] at hst
        have hq := HH.out x
        rw [show (decide (0 ≤ x) && decide (x < n)) = inN n x from rfl, hin] at hq
        have HQ := Lib.hid hq
        have hx2 := inN_iff.1 hin
        obtain ⟨X, rfl⟩ : ∃ X : Nat, x = (X : Int) := ⟨x.toNat, by omega⟩
        have hX : X < 12 := by omega
        have hX' : (X : Int) < 12 := by omega
        obtain ⟨B, hB⟩ : ∃ B, B = decide ((X : Int) ∈ ns.take k) := ⟨_, rfl⟩
        have HX := Lib.hid hB
        rw [← hB] at hst
        clear hin hq hbm hB hx2
        cases B
        · have HN : Hid (ndB n (ns.take (k + 1)) = true) := Lib.hid hst
          clear hst
          go_wp2_with (go_at_call 83; (with_reducible refine (HQ.out _).mono ?_); rintro e w1 ⟨rfl, hb1⟩; have hm := HB.out.2.2.1.keep hb1; have y0 : w1.cell? ⟨w.heap.size + 1, X, none⟩ = some (.bool false) := (by have h9 : w1.cell? ⟨w.heap.size + 1, X, none⟩ = some (.bool (decide ((X : Int) ∈ ns.take k))) := (hm.cell hX).1; rw [← HX.out] at h9; exact h9); have y1 := (hm.cell hX).2; have K1 := Lib.hid (And.intro (bel_trans HB.out.1 hb1) (And.intro (HB.out.2.1.keep hb1) hm)); clear hb1 hm)
          go_roundw
          case rel => first | exact ⟨k + 1, by omega, by go_num, K1.out.1.setCell (by simp) _, K1.out.2.1.setOther (by omega) _ _, K1.out.2.2.set hX (fun j hj => by rw [HM.out]; by_cases e : j = X <;> simp [e] <;> omega), HN.out⟩ | ((repeat apply Exists.intro); exact ⟨⟨k + 1, by omega, by go_num, K1.out.1.setCell (by simp) _, K1.out.2.1.setOther (by omega) _ _, K1.out.2.2.set hX (fun j hj => by rw [HM.out]; by_cases e : j = X <;> simp [e] <;> omega), HN.out⟩, rfl⟩)
          case measure => simp [intOf]; omega
        · have HF : Hid (ndB n ns = false) := Lib.hid (ndB_bad hst)
          clear hst
          go_wp2_with (go_at_call 83; (with_reducible refine (HQ.out _).mono ?_); rintro e w1 ⟨rfl, hb1⟩; have hm := HB.out.2.2.1.keep hb1; have y0 : w1.cell? ⟨w.heap.size + 1, X, none⟩ = some (.bool true) := (by have h9 : w1.cell? ⟨w.heap.size + 1, X, none⟩ = some (.bool (decide ((X : Int) ∈ ns.take k))) := (hm.cell hX).1; rw [← HX.out] at h9; exact h9); have y1 := (hm.cell hX).2)
          go_ret
          exact ⟨congrArg (fun b => Ending.returned (.bool b)) (by rw [HR.out, HF.out]), bel_trans HB.out.1 hb1⟩
    · have hke : k = ns.length := by omega
      have hkk : ¬ ((k : Int) < ns.length) := by omega
      have HT : Hid (ndB n ns = true) := Lib.hid (by rw [hke, List.take_length] at hnd; exact hnd)
      clear hke hnd hbm hbx
      go_wp2
      go_ret
      exact ⟨congrArg (fun b => Ending.returned (.bool b)) (by rw [HR.out, HT.out]), HB.out.1⟩
end Go.Proofs.Ytlgjcofpdaljnaa
