/- What an edge gives, and the better one of two, in the program. -/
import Derived.Test.YtjcfefpcilhelaaDisp
import Derived.Test.YtjcfefpcilhelaaView0
import Derived.Test.YtjcfefpcilhelaaVEdges
namespace Go.Proofs.Ytjcfefpcilhelaa
open Go.RowKit Go.BigFrame Go.Deep
set_option linter.unusedVariables false
set_option linter.unusedSimpArgs false

set_option maxRecDepth 20000 in
set_option maxHeartbeats 1000000 in
theorem betterOf (m a b : Int) (hm : mKind m = true) (w : World) :
    Calls Try.prog 145 #[opsV m, .int .i64 a, .int .i64 b] w fun e w' => e = .returned (.int .i64 (mBest m a b)) ∧ Below w.heap.size w w' := by
  obtain ⟨T, rv, fn, fe, fb, fo, fj, rn, re, rb, ro, rj, D⟩ := disp hm
  rw [D.val]
  have hn1 := D.mb.run
  have hn2 := D.mb.ahead
  have hn3 := D.mb.enter
  have hcb := D.cb b a
  unfold mBest
  generalize mBet m b a = B at hcb ⊢
  have HC := Lib.hid hcb
  have HD := Lib.hid D
  clear D hcb
  cases B
  · rw [if_neg (by decide)]
    go_enter Try.func145, Try.ntmps145
    go_wp2_with (with_reducible refine (HC.out _).mono ?_; rintro e w1 ⟨rfl, hb1⟩)
    go_ret
    exact ⟨rfl, hb1⟩
  · rw [if_pos rfl]
    go_enter Try.func145, Try.ntmps145
    go_wp2_with (with_reducible refine (HC.out _).mono ?_; rintro e w1 ⟨rfl, hb1⟩)
    go_ret
    exact ⟨rfl, hb1⟩

set_option maxRecDepth 20000 in
set_option maxHeartbeats 2000000 in
theorem edgeValue (m : Int) (zs : List Int) (s : Value) (F : Nat) (y z : Int) (w : World) (hm : mKind m = true) (hr : Row w s zs) (hF : F < zs.length) (hl : zs.length ≤ 1048576) (hv : vAll m zs) (hw : mWeight z = true) :
    Calls Try.prog 60 #[opsV m, s, .agg #[.int .i64 F, .int .i64 y, .int .i64 z]] w fun e w' => e = .returned (.int .i64 (vGive m zs (F, y, z))) ∧ Below w.heap.size w w' := by
  obtain ⟨T, rv, fn, fe, fb, fo, fj, rn, re, rb, ro, rj, D⟩ := disp hm
  rw [D.val]
  have ho1 := D.mo.run
  have ho2 := D.mo.ahead
  have ho3 := D.mo.enter
  have hj1 := D.mj.run
  have hj2 := D.mj.ahead
  have hj3 := D.mj.enter
  obtain ⟨a, cap, rfl, hz⟩ := hr
  rcases hz with hz | ⟨b, off, rfl, hb, hc⟩
  · rw [hz] at hF; simp at hF
  obtain ⟨x, hx⟩ : ∃ x, x = zs.getD F 0 := ⟨_, rfl⟩
  have h1 := hc F hF
  rw [← hx] at h1
  have hxi : mIn m x = true := by rw [hx]; exact hv F hF
  have hco := D.co z
  have hcj := fun w => D.cj x (mEdge m z) w hxi (mEdge_in hm hw)
  have e0 : vGive m zs ((F : Int), y, z) = mJoin m x (mEdge m z) := by unfold vGive; rw [hx]; rfl
  rw [e0]
  have HCO := Lib.hid hco
  have HCJ := Lib.hid hcj
  have hF' : (F : Int) < zs.length := by omega
  have ff : ∀ w', Below (w.alloc (.cells #[.int .i64 F, .int .i64 y, .int .i64 z] 36)).heap.size (w.alloc (.cells #[.int .i64 F, .int .i64 y, .int .i64 z] 36)) w' →
      w'.cell? ⟨b, off + F, none⟩ = some (.int .i64 x) ∧ w'.cell? ⟨w.heap.size, 0, none⟩ = some (.int .i64 F) ∧ w'.cell? ⟨w.heap.size, 2, none⟩ = some (.int .i64 z) ∧ Below w.heap.size w w' := by
    intro w' h
    have hB := bel_trans ((Below.refl _ w).alloc (Nat.le_refl _) (.cells #[.int .i64 F, .int .i64 y, .int .i64 z] 36)) h
    exact ⟨(hB.cell (p := ⟨b, _, none⟩) hb).trans h1, (h.cell (p := ⟨_, _, none⟩) (by simp)).trans (by go_simp), (h.cell (p := ⟨_, _, none⟩) (by simp)).trans (by go_simp), hB⟩
  have FF := Lib.hid ff
  have HD := Lib.hid D
  clear D hc h1 hx hxi hco hcj e0 ff hv
  go_enter Try.func60, Try.ntmps60
  go_wp2
  generalize (w.alloc (.cells #[.int .i64 F, .int .i64 y, .int .i64 z] 36)) = W1 at FF ⊢
  refine wp_region_below (by kernel_rfl) (by kernel_rfl) ?_
  repeat (go_big_quiet_step ((intro hw1; first | with_reducible rfl | (obtain ⟨f0, f1, f2, -⟩ := FF.out _ hw1; simp only [f0, f1, f2, Result.andThen]; first | exact ⟨trivial, rfl⟩ | exact ⟨rfl, rfl⟩) | (with_reducible exact quietB (HCO.out _) hw1) | (with_reducible exact quietB (HCJ.out _) hw1))))
  refine wpQuiet_nil ?_
  intro w2 hw2
  obtain ⟨-, -, -, hB⟩ := FF.out _ hw2
  go_wp2
  go_ret
  exact ⟨rfl, hB⟩
end Go.Proofs.Ytjcfefpcilhelaa
