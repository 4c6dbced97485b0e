/- What the model draws for the laws of paths: a kind and some weights. -/
import Derived.Test.YtmiomafgfeofnaaDraw2
import Derived.Laws.OwnMore
import Derived.Deep.AppendLies
namespace Go.Proofs.Ytmiomafgfeofnaa
open Go.RowKit Go.BigFrame
set_option linter.unusedVariables false

/-- A slice of integers that reads as a list, with its capacity. -/
def RowC (w : World) (s : Value) (zs : List Int) : Prop :=
  (s = .slice none 0 0 ∧ zs = []) ∨ ∃ b off cap, s = .slice (some ⟨b, off, none⟩) zs.length cap ∧ zs.length ≤ cap ∧ b < w.heap.size ∧ ∀ i, i < zs.length → w.cell? ⟨b, off + i, none⟩ = some (.int .i64 (zs.getD i 0))
theorem RowC.row {w : World} {s : Value} {zs : List Int} (h : RowC w s zs) : Row w s zs := by
  rcases h with ⟨rfl, rfl⟩ | ⟨b, off, cap, h1, _, h3, h4⟩
  · exact ⟨none, 0, rfl, .inl rfl⟩
  · exact ⟨_, cap, h1, .inr ⟨b, off, rfl, h3, h4⟩⟩
theorem RowC.below {w w' : World} {s : Value} {zs : List Int} (h : RowC w s zs) (hb : Below w.heap.size w w') : RowC w' s zs := by
  rcases h with h | ⟨b, off, cap, h1, h2, h3, h4⟩
  · exact .inl h
  · exact .inr ⟨b, off, cap, h1, h2, Nat.lt_of_lt_of_le h3 hb.size, fun i hi => by rw [hb.cell (p := ⟨b, off + i, none⟩) h3]; exact h4 i hi⟩
/-- A kind and some weights are drawn. -/
def Weights (w : World) (e : Ending) (w' : World) : Prop := ∃ (m : Int) (zs : List Int) (s : Value), e = .returned (.tuple #[.int .i64 m, s]) ∧ zs.length ≤ 5 ∧ RowC w' s zs ∧ Below w.heap.size w w'

theorem own_ne {w : World} {base g : Nat} {t : TypeId} {v : Value} {n : Nat} {xs : List Value} (h : w.ownsRow base t 1 v n xs) (hg : g < base) : v.ownBlock = none ∨ v.ownBlock ≠ some g := by
  refine .inr fun e => ?_
  have := (h.lt g e).1
  omega
theorem info_int' : (Try.prog.info? 3).map (fun i => (i.zero, i.size, i.bytes)) = some (some (.int .i64 0), 1, 8) := by kernel_rfl
/-- An owned row reads as a list. -/
theorem rowC_of_owns {w : World} {base : Nat} {t : TypeId} {v : Value} {zs : List Int} (h : w.ownsRow base t 1 v zs.length (zs.map (Value.int .i64))) : RowC w v zs := by
  rcases h.2 with ⟨rfl, hn⟩ | ⟨b, cap, cur, rfl, hb, hg, hcap, _⟩
  · have : zs = [] := by simpa using hn
    subst this
    exact .inl ⟨rfl, rfl⟩
  · refine .inr ⟨b, 0, cap, rfl, hcap, (Array.getElem?_eq_some_iff.1 hg).1, fun i hi => ?_⟩
    have hc := h.cells (g := b) rfl i (.int .i64 (zs.getD i 0)) (by simp [List.getD, hi])
    have ha : (⟨b, 0, none⟩ : Addr).add i = ⟨b, 0 + i, none⟩ := by unfold Addr.add; split <;> simp_all
    rw [ha] at hc
    exact hc
/-- The source, behind an append to a row that is not its own. -/
theorem Rd.grown {W w w' : World} {g q : Nat} {row : Option Nat} (h : Rd W w g q) (hg : w.grownBy w' row) (hr : ∀ k, row = some k → g < k) : Rd W w' g q := by
  obtain ⟨a, n, cap, p, h1, h2, h3, h4, h5⟩ := h.cells
  have hb : w'.heap[g]? = w.heap[g]? := hg.block g h.lt (fun e => by have := hr g e.symm; omega)
  exact ⟨h.new, h.bel.grown hg (Nat.le_of_lt (Nat.lt_of_le_of_lt h.new h.lt)) (fun k hk => by have := hr k hk; have := h.new; omega),
    ⟨a, n, cap, p, h1, h2, h3, by rw [World.cell?_of_block (a := ⟨g, 0, none⟩) hb]; exact h4, by rw [World.cell?_of_block (a := ⟨g, 1, none⟩) hb]; exact h5⟩,
    by rw [World.frozen?_of_block (a := ⟨g, 1, none⟩) hb]; exact h.free, Nat.lt_of_lt_of_le h.lt hg.size⟩

set_option maxHeartbeats 1000000 in
theorem dDrawPathMeasure (a : Option Addr) (n cap : Nat) (w : World) (hb : Bytes w a n) (hcap : n ≤ cap) (hn : n ≤ 281474976710656) :
    Calls Try.prog 25 #[.slice a n cap] w (Weights w) := by
  have HC := Lib.hid hb
  clear hb
  obtain ⟨i0, hi, hz0, hz1, hz2⟩ := info_parts info_int'
  have HI := Lib.hid (And.intro hi (And.intro hz0 (And.intro hz1 hz2)))
  clear hi hz0 hz1 hz2
  go_enter Try.func25, Try.ntmps25
  go_wp2_with fail
  refine (l15Open a n cap w HC.out hcap hn).mono ?_
  rintro e w1 ⟨g, rfl, hR⟩
  have H1 := Lib.hid hR
  clear hR
  go_wp2_with fail
  refine (l1Kind w w1 g 0 H1.out (by omega)).mono ?_
  rintro e w2 ⟨m0, rfl, hR, hG⟩
  have H2 := Lib.hid hR
  clear hR hG
  go_wp2_with fail
  refine (l1Wrong m0 w w2 g 1 H2.out (by omega)).mono ?_
  rintro e w3 ⟨m, rfl, hR, hG⟩
  have H3 := Lib.hid hR
  clear hR hG
  go_wp2_with fail
  have hown0 : (w3.alloc (.cells #[] 3)).ownsRow (g + 1) 3 1 (.slice (some ⟨w3.heap.size, 0, none⟩) 0 0) 0 [] := World.ownsRow_made w3 #[] 0 (by have := H3.out.lt; omega) (by unfold maxLen; omega) rfl
  have HO := Lib.hid hown0
  clear hown0
  refine (pick 6 w _ g 3 (H3.out.keep ((Below.refl _ _).alloc (Nat.le_refl _) _)) (by omega) (by omega)).mono ?_
  rintro e w4 ⟨x, rfl, hx0, hx1, hR, hG⟩
  obtain ⟨k, rfl⟩ := Int.eq_ofNat_of_zero_le hx0
  have hk : k ≤ 5 := by omega
  have H4 := Lib.hid hR
  have HO4 := Lib.hid (HO.out.kept hG (own_ne HO.out (by omega)))
  clear hR hG hx0 hx1
  go_wp2_with fail
  go_loopw [6, 7] (fun o c wr => ∃ (j : Nat) (zs : List Int), j ≤ 5 ∧ c = .int .i64 j ∧ zs.length + j ≤ 5 ∧ wr.ownsRow (g + 1) 3 1 o zs.length (zs.map (Value.int .i64)) ∧ Rd w wr g (zs.length + 4)) (fun _ c _ => (intOf c).toNat)
  case atStart => exact ⟨k, [], hk, rfl, by simpa using hk, HO4.out, H4.out⟩
  case round =>
    obtain ⟨j, zs, hj, rfl, hlen, hown, hR⟩ := hrel
    have HJ := Lib.hid hown
    have HRR := Lib.hid hR
    clear hown hR
    by_cases hpos : 0 < j
    · have hpos' : (0 : Int) < j := by omega
      go_wp2_with fail
      refine (num_built [1, 5, 3, 20, 999, 7] w wr g (zs.length + 4) HRR.out (by omega) _ (by decide) (by decide)).mono ?_
      rintro e w5 ⟨x, hx, rfl, hR, hG⟩
      have hown := HJ.out.kept hG (own_ne HJ.out (by omega))
      have H5 := Lib.hid hR
      have H6 := Lib.hid hown
      have hlt5 : g + 1 ≤ w5.heap.size := hR.lt
      clear hx hR hG hown
      obtain ⟨hi, hz0, hz1, hz2⟩ := HI.out
      go_wp2_with (at_builtin; refine wpList_append_own _ rfl _ _ 32 rfl (g + 1) 3 i0 (.int .i64 0) 1 8 Try.underlying32 hi hz0 hz1 hz2 rfl (by decide) _ _ _ rfl (H6.out.alloc _) ⟨w5.heap.size, 0, none⟩ 1 1 [.int .i64 x] rfl rfl ?c1 ?c2 ?c3 ?c4 ?c5 ?_)
      case c1 => exact cell_one_new _ _ _
      case c2 => simp [Value.oneCell']
      case c3 => unfold maxLen; omega
      case c4 => omega
      case c5 => simp; omega
      intro v' w6 hown6 hgrow6 _
      have hown6' : w6.ownsRow (g + 1) 3 1 v' (zs ++ [x]).length ((zs ++ [x]).map (Value.int .i64)) := by simpa using hown6
      have hR6 : Rd w w6 g (zs.length + 4 + 1) := ((H5.out.keep ((Below.refl _ _).alloc (Nat.le_refl _) _)).grown hgrow6 (fun q hq => (H6.out.lt q hq).1))
      have H7 := Lib.hid hown6'
      have H8 := Lib.hid hR6
      clear hown6 hown6' hgrow6 hR6 hi hz0 hz1 hz2
      go_wp2
      go_roundw
      case rel => first | exact ⟨j - 1, zs ++ [x], by omega, by go_num, by simp; omega, H7.out, by simpa [Nat.add_assoc, Nat.add_comm, Nat.add_left_comm] using H8.out⟩ | ((repeat apply Exists.intro); exact ⟨⟨j - 1, zs ++ [x], by omega, by go_num, by simp; omega, H7.out, by simpa [Nat.add_assoc, Nat.add_comm, Nat.add_left_comm] using H8.out⟩, rfl⟩)
      case measure => simp [intOf]; omega
    · have hpos' : ¬ ((0 : Int) < j) := by omega
      cases hzs : zs with
      | nil =>
        subst hzs
        obtain ⟨b, c0, rfl⟩ : ∃ b c0, u6 = .slice b 0 c0 := by
          rcases HJ.out.2 with ⟨rfl, _⟩ | ⟨b, cap, cur, rfl, _⟩
          · exact ⟨_, _, rfl⟩
          · exact ⟨_, _, rfl⟩
        go_wp2
        go_ret2
        exact ⟨m, [], _, rfl, by simp, rowC_of_owns HJ.out, HRR.out.bel⟩
      | cons z zt =>
        have hl : 0 < zs.length := by rw [hzs]; simp
        have hl' : (0 : Int) < zs.length := by omega
        clear hzs
        obtain ⟨b, c0, rfl, hb0⟩ : ∃ b c0, u6 = .slice (some ⟨b, 0, none⟩) zs.length c0 ∧ g + 1 ≤ b := by
          rcases HJ.out.2 with ⟨rfl, hn⟩ | ⟨b, cap, cur, rfl, hb, _⟩
          · omega
          · exact ⟨b, cap, rfl, hb⟩
        go_wp2_with fail
        refine (pick 16 w wr g _ HRR.out (by omega) (by omega)).mono ?_
        rintro e w5 ⟨x, rfl, hx0, hx1, hR, hG⟩
        have H5 := Lib.hid hR
        have H6 := Lib.hid (HJ.out.kept hG (own_ne HJ.out (by omega)))
        clear hR hG hx1
        by_cases h0 : x = 0
        · subst h0
          go_wp2_with fail
          refine (num_built [0, 1000] w w5 g _ H5.out (by omega) _ (by decide) (by decide)).mono ?_
          rintro e w6 ⟨y, hy, rfl, hR, hG⟩
          have H7 := Lib.hid hR
          have hown := H6.out.kept hG (own_ne H6.out (by omega))
          have H8 := Lib.hid hown
          have hst : w6.cell? ⟨b, 0, none⟩ = some (.int .i64 (zs.getD 0 0)) := by
            rw [hown.cellAt 0 (by omega)]; simp [List.getD, hl]
          have hfr : w6.frozen? ⟨b, 0, none⟩ = false := hown.frozenAt 0
          clear hR hG hy hown
          go_wp2
          go_ret2
          have hset := H8.out.stored 0 (.int .i64 y)
          have hlen2 : (zs.set 0 y).length = zs.length := by simp
          have hrow : RowC (w6.setCell ⟨b, 0, none⟩ (.int .i64 y)) (.slice (some ⟨b, 0, none⟩) (zs.set 0 y).length c0) (zs.set 0 y) :=
            rowC_of_owns (by have := hset.1; rw [← List.map_set, ← hlen2] at this; exact this)
          rw [hlen2] at hrow
          exact ⟨m, zs.set 0 y, _, rfl, by rw [hlen2]; omega, hrow, H7.out.bel.setCell (by have := H7.out.new; show w.heap.size ≤ b; omega) _⟩
        · have h1 : (x == 0) = false := by simpa using h0
          clear h0
          go_wp2
          go_ret2
          exact ⟨m, zs, _, rfl, by omega, rowC_of_owns H6.out, H5.out.bel⟩
end Go.Proofs.Ytmiomafgfeofnaa
