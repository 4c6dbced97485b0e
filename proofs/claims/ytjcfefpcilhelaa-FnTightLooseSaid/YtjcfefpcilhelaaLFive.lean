/- The value that an edge gives, in the model of kept views. -/
import Derived.Test.YtjcfefpcilhelaaRelaxS
namespace Go.Proofs.Ytjcfefpcilhelaa
open Go.RowKit Go.BigFrame Go.Deep
set_option linter.unusedVariables false
set_option linter.unusedSimpArgs false

set_option maxRecDepth 20000 in
set_option maxHeartbeats 2000000 in
theorem l5Value (m a : Int) (zs : List Int) (s : Value) (X : Nat) (y z : Int) (w : World) (hm : mKind m = true) (hr : Row w s zs) (hX : X < zs.length) (hl : zs.length ≤ 1048576) (hv : vAll m zs) (hw : mWeight z = true) :
    Calls Try.prog 63 #[.agg #[.int .i64 m, .int .i64 a, s], .agg #[.int .i64 X, .int .i64 y, .int .i64 z]] w fun e w' => e = .returned (.int .i64 (vGive m zs (X, y, z))) ∧ Below w.heap.size w w' := by
  have hse := fun x w => calls_below (sEdge hm x w)
  obtain ⟨x, hx⟩ : ∃ x, x = zs.getD X 0 := ⟨_, rfl⟩
  have hxi : mIn m x = true := by rw [hx]; exact hv X hX
  have hsj := fun w => calls_below (sJoin (bTwo_mk hm hxi (mEdge_in hm hw)) w)
  have e0 : vGive m zs ((X : Int), y, z) = mJoin m x (mEdge m z) := by unfold vGive; rw [hx]; rfl
  rw [e0]
  obtain ⟨ad, cap, rfl, hz⟩ := hr
  rcases hz with hz | ⟨b, off, rfl, hb, hc⟩
  · rw [hz] at hX; simp at hX
  have h1 := hc X hX
  rw [← hx] at h1
  have HSE := Lib.hid hse
  have HSJ := Lib.hid hsj
  have hX' : (X : Int) < zs.length := by omega
  have ff : ∀ w', Below ((w.alloc (.cells #[.int .i64 m, .int .i64 a, .slice (some ⟨b, off, none⟩) zs.length cap] 30)).alloc (.cells #[.int .i64 X, .int .i64 y, .int .i64 z] 36)).heap.size ((w.alloc (.cells #[.int .i64 m, .int .i64 a, .slice (some ⟨b, off, none⟩) zs.length cap] 30)).alloc (.cells #[.int .i64 X, .int .i64 y, .int .i64 z] 36)) w' →
      w'.cell? ⟨b, off + X, none⟩ = some (.int .i64 x) ∧ w'.cell? ⟨w.heap.size, 0, none⟩ = some (.int .i64 m) ∧ w'.cell? ⟨w.heap.size, 2, none⟩ = some (.slice (some ⟨b, off, none⟩) zs.length cap) ∧ w'.cell? ⟨w.heap.size + 1, 0, none⟩ = some (.int .i64 X) ∧ w'.cell? ⟨w.heap.size + 1, 2, none⟩ = some (.int .i64 z) ∧ Below w.heap.size w w' := by
    intro w' h
    have hB := bel_trans (((Below.refl _ w).alloc (Nat.le_refl _) (.cells #[.int .i64 m, .int .i64 a, .slice (some ⟨b, off, none⟩) zs.length cap] 30)).alloc (by simp) (.cells #[.int .i64 X, .int .i64 y, .int .i64 z] 36)) h
    exact ⟨(hB.cell (p := ⟨b, _, none⟩) hb).trans h1, (h.cell (p := ⟨_, _, none⟩) (by simp <;> omega)).trans (by go_simp), (h.cell (p := ⟨_, _, none⟩) (by simp <;> omega)).trans (by go_simp), (h.cell (p := ⟨_, _, none⟩) (by simp <;> omega)).trans (by go_simp), (h.cell (p := ⟨_, _, none⟩) (by simp <;> omega)).trans (by go_simp), hB⟩
  have FF := Lib.hid ff
  clear hc h1 hx hxi hse hsj e0 ff hv
  go_enter Try.func63, Try.ntmps63
  go_wp2
  generalize ((w.alloc (.cells #[.int .i64 m, .int .i64 a, .slice (some ⟨b, off, none⟩) zs.length cap] 30)).alloc (.cells #[.int .i64 X, .int .i64 y, .int .i64 z] 36)) = W1 at FF ⊢
  refine wp_region_below (by kernel_rfl) (by kernel_rfl) ?_
  repeat (go_big_quiet_step ((intro hw1; first | with_reducible rfl | (obtain ⟨f0, f1, f2, f3, f4, -⟩ := FF.out _ hw1; simp only [f0, f1, f2, f3, f4, Result.andThen]; first | exact ⟨trivial, rfl⟩ | exact ⟨rfl, rfl⟩) | (go_at_call 105; exact quietB (HSE.out _ _) hw1) | (go_at_call 104; exact quietB (HSJ.out _) hw1))))
  refine wpQuiet_nil ?_
  intro w2 hw2
  obtain ⟨-, -, -, -, -, hB⟩ := FF.out _ hw2
  go_wp2
  go_ret
  exact ⟨rfl, hB⟩
end Go.Proofs.Ytjcfefpcilhelaa
