/- Is a view one of a graph: in the program. Is a view one of a graph: in the model. -/
import Derived.Test.YtbhhbhopogkmnaaImpl
import Derived.Test.YtbhhbhopogkmnaaGraph3
import Derived.Test.YtbhhbhopogkmnaaRowAt
import Derived.Test.YtbhhbhopogkmnaaVEdges
import Derived.Test.YtbhhbhopogkmnaaSpec
namespace Go.Proofs.Ytbhhbhopogkmnaa
open Go.RowKit Go.BigFrame
set_option linter.unusedVariables false
set_option linter.unusedSimpArgs false

/-- Does a view fit a graph, but for its values? -/
def vFit (n : Int) (es : List Ed) (a : Int) (zs : List Int) : Bool := gVal n es && ((decide (0 ≤ a) && decide (a < n)) && decide ((zs.length : Int) = n))
/-- Are all of them measures? -/
def mAll (m : Int) (zs : List Int) : Bool := mKind m && zs.all (mIn m)
/-- Is a view one of a graph? -/
def vVal (n : Int) (es : List Ed) (m a : Int) (zs : List Int) : Bool := vFit n es a zs && mAll m zs

theorem opsAll (m : Int) (zs : List Int) (s : Value) (w : World) (hr : Row w s zs) (hl : zs.length ≤ 281474976710656) :
    Calls Try.prog 82 #[.int .i64 m, s] w fun e w' => e = .returned (.tuple #[opsR m (mAll m zs), .bool (mAll m zs)]) ∧ Below w.heap.size w w' := by
  unfold mAll
  cases hm : mKind m
  · rw [Bool.false_and]
    exact opsFor_no m hm s w
  · rw [Bool.true_and]
    exact opsFor_any hm zs s w hr hl

set_option maxHeartbeats 1000000 in
theorem opsOfView (n m a : Int) (es : List Ed) (zs : List Int) (s t : Value) (w : World) (hs : RowE w s es) (ht : Row w t zs) (hl : es.length ≤ 281474976710656) (hl2 : zs.length ≤ 281474976710656) :
    Calls Try.prog 85 #[.agg #[.int .i64 n, s], .agg #[.int .i64 m, .int .i64 a, t]] w fun e w' => e = .returned (.tuple #[opsR m (vVal n es m a zs), .bool (vVal n es m a zs)]) ∧ Below w.heap.size w w' := by
  have hB : ∀ (A B : Obj), Below w.heap.size w ((w.alloc A).alloc B) := fun A B => ((Below.refl _ _).alloc (Nat.le_refl _) _).alloc (by simp) _
  have hg := fun A B => graphValid n es s ((w.alloc A).alloc B) (hs.keep (hB A B)) hl
  have hn := fun w => hasNode n a s w
  have ho := fun w' (h : Below w.heap.size w w') => opsAll m zs t w' (ht.keep h) hl2
  obtain ⟨ad, cap, rfl, hz0⟩ := hs
  obtain ⟨ad2, cap2, rfl, hy0⟩ := ht
  clear hz0 hy0
  unfold vVal vFit
  generalize gVal n es = G at hg ⊢
  generalize (decide (0 ≤ a) && decide (a < n)) = D at hn ⊢
  generalize mAll m zs = M at ho ⊢
  have HG := Lib.hid hg
  have HN := Lib.hid hn
  have HO := Lib.hid ho
  have HB := Lib.hid hB
  clear hg hn ho hB
  cases G
  · rw [Bool.false_and, Bool.false_and]
    go_enter Try.func85, Try.ntmps85
    go_wp2_with (go_at_call 45; refine (HG.out _ _).mono ?_; rintro e w1 ⟨rfl, hb1⟩)
    go_ret2
    exact ⟨rfl, bel_trans (HB.out _ _) hb1⟩
  rw [Bool.true_and]
  cases D
  · rw [Bool.false_and, Bool.false_and]
    go_enter Try.func85, Try.ntmps85
    go_wp2_with (first | (go_at_call 45; refine (HG.out _ _).mono ?_; rintro e w1 ⟨rfl, hb1⟩; have x0 := hb1.cell (p := ⟨w.heap.size, 0, none⟩) (by simp <;> omega); have x1 := hb1.cell (p := ⟨w.heap.size, 1, none⟩) (by simp <;> omega); have y1 := hb1.cell (p := ⟨w.heap.size + 1, 1, none⟩) (by simp <;> omega)) | (go_at_call 81; refine (HN.out _).mono ?_; rintro e w2 ⟨rfl, hb2⟩))
    go_ret2
    exact ⟨rfl, bel_trans (bel_trans (HB.out _ _) hb1) hb2⟩
  rw [Bool.true_and]
  by_cases hlen : (zs.length : Int) = n
  rotate_left
  · have d1 : decide ((zs.length : Int) = n) = false := by simpa using hlen
    have d2 : ((zs.length : Int) == n) = false := by simpa using hlen
    have d3 : ((zs.length : Int) != n) = true := by simpa using hlen
    rw [d1, Bool.false_and]
    go_enter Try.func85, Try.ntmps85
    go_wp2_with (first | (go_at_call 45; refine (HG.out _ _).mono ?_; rintro e w1 ⟨rfl, hb1⟩; have x0 := hb1.cell (p := ⟨w.heap.size, 0, none⟩) (by simp <;> omega); have x1 := hb1.cell (p := ⟨w.heap.size, 1, none⟩) (by simp <;> omega); have y1 := hb1.cell (p := ⟨w.heap.size + 1, 1, none⟩) (by simp <;> omega); have y2 := hb1.cell (p := ⟨w.heap.size + 1, 2, none⟩) (by simp <;> omega)) | (go_at_call 81; refine (HN.out _).mono ?_; rintro e w2 ⟨rfl, hb2⟩; have p0 := hb2.cell (p := ⟨w.heap.size, 0, none⟩) (Nat.lt_of_lt_of_le (by simp <;> omega) hb1.size); have p2 := hb2.cell (p := ⟨w.heap.size + 1, 2, none⟩) (Nat.lt_of_lt_of_le (by simp <;> omega) hb1.size)))
    go_ret2
    exact ⟨rfl, bel_trans (bel_trans (HB.out _ _) hb1) hb2⟩
  have d1 : decide ((zs.length : Int) = n) = true := by simpa using hlen
  have d2 : ((zs.length : Int) == n) = true := by simpa using hlen
  have d3 : ((zs.length : Int) != n) = false := by simpa using hlen
  rw [d1, Bool.true_and]
  clear hlen
  go_enter Try.func85, Try.ntmps85
  go_wp2_with (first | (go_at_call 45; refine (HG.out _ _).mono ?_; rintro e w1 ⟨rfl, hb1⟩; have x0 := hb1.cell (p := ⟨w.heap.size, 0, none⟩) (by simp <;> omega); have x1 := hb1.cell (p := ⟨w.heap.size, 1, none⟩) (by simp <;> omega); have y0 := hb1.cell (p := ⟨w.heap.size + 1, 0, none⟩) (by simp <;> omega); have y1 := hb1.cell (p := ⟨w.heap.size + 1, 1, none⟩) (by simp <;> omega); have y2 := hb1.cell (p := ⟨w.heap.size + 1, 2, none⟩) (by simp <;> omega)) | (go_at_call 81; refine (HN.out _).mono ?_; rintro e w2 ⟨rfl, hb2⟩; have p0 := hb2.cell (p := ⟨w.heap.size, 0, none⟩) (Nat.lt_of_lt_of_le (by simp <;> omega) hb1.size); have p1 := hb2.cell (p := ⟨w.heap.size + 1, 0, none⟩) (Nat.lt_of_lt_of_le (by simp <;> omega) hb1.size); have p2 := hb2.cell (p := ⟨w.heap.size + 1, 2, none⟩) (Nat.lt_of_lt_of_le (by simp <;> omega) hb1.size)) | (go_at_call 82; refine (HO.out _ (bel_trans (bel_trans (HB.out _ _) hb1) hb2)).mono ?_; rintro e w3 ⟨rfl, hb3⟩))
  go_ret2
  exact ⟨rfl, bel_trans (bel_trans (bel_trans (HB.out _ _) hb1) hb2) hb3⟩

end Go.Proofs.Ytbhhbhopogkmnaa
namespace Go.Proofs.Ytbhhbhopogkmnaa
open Go.RowKit Go.BigFrame
set_option linter.unusedVariables false
set_option linter.unusedSimpArgs false

theorem calls_below {f : FuncId} {args : Array Value} {w : World} {v : Value} (h : Calls Try.prog f args w fun e w' => e = .returned v ∧ w = w') : Calls Try.prog f args w fun e w' => e = .returned v ∧ Below w.heap.size w w' :=
  h.mono fun e w' ⟨he, hw⟩ => ⟨he, hw ▸ Below.refl _ _⟩

end Go.Proofs.Ytbhhbhopogkmnaa
