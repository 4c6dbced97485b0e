/- PathBefore of the program; the order of paths in the model, and its PathBefore. -/
import Derived.Test.YtneapbggnnndhaaGreatPbfB
namespace Go.Proofs.YtneapbggnnndhaaGreat
open Go.RowKit Go.BigFrame Go.Deep
set_option linter.unusedVariables false
set_option linter.unusedSimpArgs false

/-- What PathBefore answers. -/
def pbB (m : Int) (zs : List Int) (x : Int) (ys : List Int) (y : Int) : Bool := bTwo m x y && bP m zs x ys y
theorem row_two3 (w : World) (A B : Obj) (x y : Int) : Row (((w.alloc A).alloc B).alloc (.cells #[.int .i64 x, .int .i64 y] 3)) (.slice (some ⟨w.heap.size + 1 + 1, 0, none⟩) 2 2) [x, y] := by
  refine ⟨_, 2, rfl, .inr ⟨w.heap.size + 1 + 1, 0, rfl, by simp, fun i hi => ?_⟩⟩
  have h2 : i = 0 ∨ i = 1 := by simp at hi; omega
  rcases h2 with rfl | rfl <;> go_simp

set_option maxHeartbeats 2000000 in
theorem l11Lex (zs ys : List Int) (s t : Value) (w : World) (hs : Row w s zs) (ht : Row w t ys) (hl : zs.length ≤ 281474976710656) (hl2 : ys.length ≤ 281474976710656) :
    Calls Tryz.prog 59 #[s, t] w fun e w' => e = .returned (.bool (lexB zs ys)) ∧ Below w.heap.size w w' := by
  obtain ⟨a, cap, rfl, hz0⟩ := hs
  have hz := Lib.hid hz0
  obtain ⟨a2, cap2, rfl, hy0⟩ := ht
  have hy := Lib.hid hy0
  clear hz0 hy0
  obtain ⟨R, hR⟩ : ∃ R, R = lexB zs ys := ⟨_, rfl⟩
  rw [← hR]
  have HR := Lib.hid hR
  clear hR
  go_enter Tryz.func59, Tryz.ntmps59
  go_wp2
  go_loopw [5] (fun c wr => ∃ k : Nat, k ≤ zs.length ∧ c = .int .i64 k ∧ k ≤ ys.length ∧ lexC (zs.drop k) (ys.drop k) = lexC zs ys ∧ Below w.heap.size w wr) (fun c _ => zs.length - (intOf c).toNat)
  case atStart => exact ⟨0, Nat.zero_le _, rfl, Nat.zero_le _, rfl, Below.refl _ _⟩
  case round =>
    obtain ⟨k, hk, rfl, hky, heq, hbel⟩ := hrel
    have HEQ := Lib.hid heq
    clear heq
    by_cases hlt : k < zs.length
    · have hlt' : (k : Int) < zs.length := by omega
      rcases hz.out with h0 | ⟨b, off, rfl, hb, hc⟩
      · rw [h0] at hlt; simp at hlt
      have h1 := hc k hlt
      by_cases hly : k < ys.length
      · have hly' : (k : Int) < ys.length := by omega
        rcases hy.out with h0 | ⟨b2, off2, rfl, hb2, hc2⟩
        · rw [h0] at hly; simp at hly
        have h2 := hc2 k hly
        have hstep := lexC_drop hlt hly
        obtain ⟨x, hx⟩ : ∃ x, x = zs.getD k 0 := ⟨_, rfl⟩
        obtain ⟨y, hy'⟩ : ∃ y, y = ys.getD k 0 := ⟨_, rfl⟩
        rw [← hx] at h1 hstep
        rw [← hy'] at h2 hstep
        have HSTEP := Lib.hid hstep
        have ff : ∀ w', Below wr.heap.size wr w' → w'.cell? ⟨b, off + k, none⟩ = some (.int .i64 x) ∧ w'.cell? ⟨b2, off2 + k, none⟩ = some (.int .i64 y) := fun w' h =>
          ⟨((bel_trans hbel h).cell (p := ⟨b, _, none⟩) hb).trans h1, ((bel_trans hbel h).cell (p := ⟨b2, _, none⟩) hb2).trans h2⟩
        have FF := Lib.hid ff
        clear hc hc2 hx hy' hstep h1 h2 ff
        by_cases hxy : x = y
        · have d1 : (x != y) = false := by simpa using hxy
          have d2 : (x == y) = true := by simpa using hxy
          have d3 : decide (x = y) = true := by simpa using hxy
          have hn : lexC (zs.drop (k + 1)) (ys.drop (k + 1)) = lexC zs ys := by
            rw [← HEQ.out, HSTEP.out, if_neg (by rw [ne_eq, Classical.not_not, cInt_z]; exact hxy)]
          have HN := Lib.hid hn
          have HXY := Lib.hid hxy
          clear hn hxy
          go_wp2
          refine wp_region_below (by kernel_rfl) (by kernel_rfl) ?_
          repeat (go_big_quiet_step ((intro hw; first | with_reducible rfl | (obtain ⟨f0, g0⟩ := FF.out _ hw; simp only [f0, g0, Result.andThen]; first | exact ⟨trivial, rfl⟩ | exact ⟨rfl, rfl⟩))))
          refine wpQuiet_nil ?_
          intro w1 hw1
          go_wp2
          go_roundw
          case rel => first | exact ⟨k + 1, by omega, by go_num, by omega, HN.out, bel_trans hbel hw1⟩ | ((repeat apply Exists.intro); exact ⟨⟨k + 1, by omega, by go_num, by omega, HN.out, bel_trans hbel hw1⟩, rfl⟩)
          case measure => simp [intOf]; omega
        · have d1 : (x != y) = true := by simpa using hxy
          have d2 : (x == y) = false := by simpa using hxy
          have d3 : decide (x = y) = false := by simpa using hxy
          have HO : Hid (lexB zs ys = decide (x < y)) := Lib.hid (by
            unfold lexB
            rw [← HEQ.out, HSTEP.out, if_pos (by rw [ne_eq, cInt_z]; exact hxy)]
            exact decide_eq_decide.2 cInt_n)
          have HXY := Lib.hid hxy
          clear hxy
          go_wp2
          refine wp_region_below (by kernel_rfl) (by kernel_rfl) ?_
          repeat (go_big_quiet_step ((intro hw; first | with_reducible rfl | (obtain ⟨f0, g0⟩ := FF.out _ hw; simp only [f0, g0, Result.andThen]; first | exact ⟨trivial, rfl⟩ | exact ⟨rfl, rfl⟩))))
          refine wpQuiet_nil ?_
          intro w1 hw1
          have FF2 : Hid (∀ w', Below w1.heap.size w1 w' → w'.cell? ⟨b, off + k, none⟩ = some (.int .i64 x) ∧ w'.cell? ⟨b2, off2 + k, none⟩ = some (.int .i64 y)) := Lib.hid (fun w' h => FF.out _ (bel_trans hw1 h))
          go_wp2
          refine wp_region_below (by kernel_rfl) (by kernel_rfl) ?_
          repeat (go_big_quiet_step ((intro hw; first | with_reducible rfl | (obtain ⟨f0, g0⟩ := FF2.out _ hw; simp only [f0, g0, Result.andThen]; first | exact ⟨trivial, rfl⟩ | exact ⟨rfl, rfl⟩))))
          refine wpQuiet_nil ?_
          intro w2 hw2
          go_wp2
          go_ret
          exact ⟨by rw [HR.out, HO.out]; rfl, bel_trans hbel (bel_trans hw1 hw2)⟩
      · have hly' : ¬ ((k : Int) < ys.length) := by omega
        have d1 : ¬ ((zs.length : Int) < ys.length) := by omega
        go_wp2
        go_ret
        refine ⟨?_, hbel⟩
        rw [HR.out]
        unfold lexB
        rw [← HEQ.out, lexC_end2 hlt (by omega)]
        rfl
    · have hke : k = zs.length := by omega
      have hkk : ¬ ((k : Int) < zs.length) := by omega
      by_cases hly : zs.length < ys.length
      · have d1 : (zs.length : Int) < ys.length := by omega
        have HK := Lib.hid hke
        clear hke
        go_wp2
        go_ret
        refine ⟨?_, hbel⟩
        rw [HR.out]
        unfold lexB
        rw [← HEQ.out, lexC_end1 (by have := HK.out; omega) (by have := HK.out; omega)]
        rfl
      · have d1 : ¬ ((zs.length : Int) < ys.length) := by omega
        have HK := Lib.hid hke
        have hle : ys.length ≤ k := by omega
        clear hke
        go_wp2
        go_ret
        refine ⟨?_, hbel⟩
        rw [HR.out]
        unfold lexB
        rw [← HEQ.out, lexC_end3 (by have := HK.out; omega) hle]
        rfl
end Go.Proofs.YtneapbggnnndhaaGreat
