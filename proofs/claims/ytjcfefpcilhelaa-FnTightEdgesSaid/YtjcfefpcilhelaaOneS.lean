/- Edges relaxed one by one: in the program. Edges relaxed one by one: in the model. -/
import Derived.Test.YtjcfefpcilhelaaRelaxJ
import Derived.Test.YtjcfefpcilhelaaEndV
import Derived.Test.YtjcfefpcilhelaaVValS
import Derived.Deep.RegionHeld3
import Derived.Test.YtjcfefpcilhelaaRelaxT
namespace Go.Proofs.Ytjcfefpcilhelaa
open Go.RowKit Go.BigFrame Go.Deep
set_option linter.unusedVariables false
set_option linter.unusedSimpArgs false

set_option maxRecDepth 20000 in
set_option maxHeartbeats 2000000 in
theorem isLoose (m : Int) (zs : List Int) (s : Value) (X Y : Nat) (z : Int) (w : World) (hm : mKind m = true) (hr : Row w s zs) (hX : X < zs.length) (hY : Y < zs.length) (hl : zs.length ≤ 1048576) (hv : vAll m zs) (hw : mWeight z = true) :
    Calls Try.prog 65 #[opsV m, s, .agg #[.int .i64 X, .int .i64 Y, .int .i64 z]] w fun e w' => e = .returned (.bool (vLo m zs (X, Y, z))) ∧ Below w.heap.size w w' := by
  have hev := fun (w' : World) (hb : Below w.heap.size w w') => edgeValue m zs s X Y z w' hm (hr.keep hb) hX hl hv hw
  obtain ⟨T, rv, fn, fe, fb, fo, fj, rn, re, rb, ro, rj, D⟩ := disp hm
  rw [D.val] at hev ⊢
  have hn1 := D.mb.run
  have hn2 := D.mb.ahead
  have hn3 := D.mb.enter
  obtain ⟨a, cap, rfl, hz⟩ := hr
  rcases hz with hz | ⟨b, off, rfl, hb, hc⟩
  · rw [hz] at hX; simp at hX
  obtain ⟨x, hx⟩ : ∃ x, x = zs.getD Y 0 := ⟨_, rfl⟩
  obtain ⟨q, hq⟩ : ∃ q, q = vGive m zs ((X : Int), (Y : Int), z) := ⟨_, rfl⟩
  have h1 := hc Y hY
  rw [← hx] at h1
  have hcb := D.cb q x
  have e0 : vLo m zs ((X : Int), (Y : Int), z) = mBet m q x := by unfold vLo; rw [hq, hx]; rfl
  rw [e0]
  rw [← hq] at hev
  have HCB := Lib.hid hcb
  have HEV := Lib.hid hev
  have hY' : (Y : Int) < zs.length := by omega
  have ff : ∀ w', Below (w.alloc (.cells #[.int .i64 X, .int .i64 Y, .int .i64 z] 36)).heap.size (w.alloc (.cells #[.int .i64 X, .int .i64 Y, .int .i64 z] 36)) w' →
      w'.cell? ⟨b, off + Y, none⟩ = some (.int .i64 x) ∧ w'.cell? ⟨w.heap.size, 0, none⟩ = some (.int .i64 X) ∧ w'.cell? ⟨w.heap.size, 1, none⟩ = some (.int .i64 Y) ∧ w'.cell? ⟨w.heap.size, 2, none⟩ = some (.int .i64 z) ∧ Below w.heap.size w w' := by
    intro w' h
    have hB := bel_trans ((Below.refl _ w).alloc (Nat.le_refl _) (.cells #[.int .i64 X, .int .i64 Y, .int .i64 z] 36)) h
    exact ⟨(hB.cell (p := ⟨b, _, none⟩) hb).trans h1, (h.cell (p := ⟨_, _, none⟩) (by simp)).trans (by go_simp), (h.cell (p := ⟨_, _, none⟩) (by simp)).trans (by go_simp), (h.cell (p := ⟨_, _, none⟩) (by simp)).trans (by go_simp), hB⟩
  have FF := Lib.hid ff
  have HD := Lib.hid D
  clear D hc h1 hx hq hcb hev e0 ff hv
  go_enter Try.func65, Try.ntmps65
  go_wp2
  generalize (w.alloc (.cells #[.int .i64 X, .int .i64 Y, .int .i64 z] 36)) = W1 at FF ⊢
  refine wp_region_below (by kernel_rfl) (by kernel_rfl) ?_
  repeat (go_big_quiet_step ((intro hw1; first | with_reducible rfl | (obtain ⟨f0, f1, f2, f3, -⟩ := FF.out _ hw1; simp only [f0, f1, f2, f3, Result.andThen]; first | exact ⟨trivial, rfl⟩ | exact ⟨rfl, rfl⟩) | (go_at_call 60; exact quietB (HEV.out _ (FF.out _ hw1).2.2.2.2) hw1) | (with_reducible exact quietB (HCB.out _) hw1))))
  refine wpQuiet_nil ?_
  intro w2 hw2
  obtain ⟨-, -, -, -, hB⟩ := FF.out _ hw2
  go_wp2
  go_ret
  exact ⟨rfl, hB⟩

end Go.Proofs.Ytjcfefpcilhelaa
namespace Go.Proofs.Ytjcfefpcilhelaa
open Go.RowKit Go.BigFrame Go.Deep
set_option linter.unusedVariables false
set_option linter.unusedSimpArgs false

theorem Wr.chg {w w' : World} {b off lo hi : Nat} {zs : List Int} (h : Wr w b off zs) (c : Chg lo hi w w') (d : b < lo ∨ hi ≤ b) : Wr w' b off zs :=
  ⟨Nat.lt_of_lt_of_le h.1 c.size, fun i hi => ⟨(c.cell (p := ⟨b, _, none⟩) h.1 d).trans (h.2 i hi).1, (c.frozen (p := ⟨b, _, none⟩) h.1 d).trans (h.2 i hi).2⟩⟩

end Go.Proofs.Ytjcfefpcilhelaa
