/- Is a view stable: in the program and in the model. -/
import Derived.Test.YtlgjcofpdaljnaaRelaxT
import Derived.Test.YtlgjcofpdaljnaaVEdges
namespace Go.Proofs.Ytlgjcofpdaljnaa
open Go.RowKit Go.BigFrame Go.Deep
set_option linter.unusedVariables false
set_option linter.unusedSimpArgs false

/-- Does relaxing change nothing? -/
def isB (n : Int) (es : List Ed) (m a : Int) (zs : List Int) : Bool := vVal n es m a zs && vSame m a (vRelax m es zs) m a zs

set_option maxRecDepth 20000 in
set_option maxHeartbeats 4000000 in
theorem isStable (n m a : Int) (es : List Ed) (zs : List Int) (s t : Value) (w : World) (hs : RowE w s es) (ht : Row w t zs) (hl : es.length ≤ 281474976710656) (hl2 : zs.length ≤ 281474976710656) :
    Calls Try.prog 25 #[.agg #[.int .i64 n, s], .agg #[.int .i64 m, .int .i64 a, t]] w fun e w' => e = .returned (.bool (isB n es m a zs)) ∧ Below w.heap.size w w' := by
  have hB : ∀ (A B : Obj), Below w.heap.size w ((w.alloc A).alloc B) := fun A B => ((Below.refl _ _).alloc (Nat.le_refl _) _).alloc (by simp) _
  have hrx := fun A B => relaxAll n m a es zs s t _ (hs.keep (hB A B)) (ht.keep (hB A B)) hl hl2
  have hT := Lib.hid ht
  obtain ⟨ad, cap, rfl, hz0⟩ := hs
  obtain ⟨ad2, cap2, rfl, hy0⟩ := ht
  clear hz0 hy0
  have HB := Lib.hid hB
  unfold isB
  unfold rxM rxA rxL at hrx
  obtain ⟨G, hG⟩ : ∃ G, G = vVal n es m a zs := ⟨_, rfl⟩
  rw [← hG] at hrx ⊢
  have QG := Lib.hid hG
  cases G
  · rw [if_neg (by decide), if_neg (by decide), if_neg (by decide)] at hrx
    have HRX := Lib.hid hrx
    clear hrx hB hG
    rw [Bool.false_and]
    go_enter Try.func25, Try.ntmps25
    go_wp2_with (go_at_call 63; refine (HRX.out _ _).mono ?_; rintro e w1 ⟨v, rfl, hown, hok, hb1⟩; obtain ⟨va, vc, rfl⟩ := hown.slice; clear hown hok)
    go_ret
    exact ⟨rfl, (bel_trans (HB.out _ _) hb1).alloc (bel_trans (HB.out _ _) hb1).size _⟩
  · rw [if_pos rfl, if_pos rfl, if_pos rfl] at hrx
    have hu := vVal_use QG.out.symm
    have hll := vRelax_length m es zs
    obtain ⟨L, hL⟩ : ∃ L, L = vRelax m es zs := ⟨_, rfl⟩
    rw [← hL] at hrx hll ⊢
    rw [Bool.true_and]
    have hvs := fun (p : Value) (w' : World) (hp : Row w' p L) (h : Below w.heap.size w w') => viewSame m a m a L zs p _ w' hp (hT.out.keep h) (by omega) (by omega)
    generalize vSame m a L m a zs = R at hvs ⊢
    have HRX := Lib.hid hrx
    have HVS := Lib.hid hvs
    clear hrx hB hG hu hll hL hvs
    go_enter Try.func25, Try.ntmps25
    go_wp2_with (first | (go_at_call 63; refine (HRX.out _ _).mono ?_; rintro e w1 ⟨v, rfl, hown, hok, hb1⟩; obtain ⟨va, vc, rfl⟩ := hown.slice; have x0 := hb1.cell (p := ⟨w.heap.size + 1, 0, none⟩) (by simp <;> omega); have x1 := hb1.cell (p := ⟨w.heap.size + 1, 1, none⟩) (by simp <;> omega); have x2 := hb1.cell (p := ⟨w.heap.size + 1, 2, none⟩) (by simp <;> omega); have HROW := Lib.hid hown.row; have hz9 : w.heap.size + 1 < w1.heap.size := Nat.lt_of_lt_of_le (by simp) hb1.size; clear hown hok) | (go_at_call 20; refine (HVS.out _ _ (HROW.out.keep ((Below.refl _ _).alloc (Nat.le_refl _) _)) ((bel_trans (HB.out _ _) hb1).alloc (bel_trans (HB.out _ _) hb1).size _)).mono ?_; rintro e w2 ⟨rfl, hb2⟩))
    go_ret
    exact ⟨rfl, bel_trans ((bel_trans (HB.out _ _) hb1).alloc (bel_trans (HB.out _ _) hb1).size _) hb2⟩
end Go.Proofs.Ytlgjcofpdaljnaa
