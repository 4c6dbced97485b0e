/- StartView: in the program. -/
import Derived.Test.YtddpljalojcomaaVStartI
import Derived.Test.YtddpljalojcomaaVOwn
namespace Go.Proofs.Ytddpljalojcomaa
open Go.RowKit Go.BigFrame Go.Deep
set_option linter.unusedVariables false
set_option linter.unusedSimpArgs false

def stM (n : Int) (es : List Ed) (m a : Int) : Int := if onOk n es m [a] = true then m else 0
def stA (n : Int) (es : List Ed) (m a : Int) : Int := if onOk n es m [a] = true then a else 0
def stL (n : Int) (es : List Ed) (m a : Int) : List Int := if onOk n es m [a] = true then vStart m n a else []
theorem onOk_parts {n : Int} {es : List Ed} {m : Int} {xs : List Int} (h : onOk n es m xs = true) : gVal n es = true ∧ (∀ x ∈ xs, 0 ≤ x ∧ x < n) ∧ mKind m = true := by
  simp only [onOk, Bool.and_eq_true, List.all_eq_true] at h
  refine ⟨h.1.1, fun x hx => ?_, h.2⟩
  have := h.1.2 x hx
  simpa [inN] using this
theorem gVal_n {n : Int} {es : List Ed} (h : gVal n es = true) : 1 ≤ n ∧ n ≤ 12 ∧ es.length ≤ 40 := by
  simp only [gVal, Bool.and_eq_true, decide_eq_true_eq] at h
  exact ⟨h.1.1, h.1.2, h.2.1⟩
theorem row_one2 (w : World) (A B : Obj) (a : Int) : Row (((w.alloc A).alloc B).alloc (.cells #[.int .i64 a] 3)) (.slice (some ⟨w.heap.size + 1 + 1, 0, none⟩) 1 1) [a] := by
  have := row_one ((w.alloc A).alloc B) a 3
  simpa using this

set_option maxRecDepth 20000 in
set_option maxHeartbeats 2000000 in
theorem startView (n m a : Int) (es : List Ed) (s : Value) (w : World) (hs : RowE w s es) (hl : es.length ≤ 281474976710656) :
    Calls Try.prog 22 #[.agg #[.int .i64 n, s], .int .i64 m, .int .i64 a] w fun e w' =>
      ∃ v, e = .returned (.tuple #[.agg #[.int .i64 (stM n es m a), .int .i64 (stA n es m a), v], .bool (onOk n es m [a])]) ∧ OwnV w w' v (stL n es m a) ∧ okS v ∧ Below w.heap.size w w' := by
  have hB : ∀ (A B C : Obj), Below w.heap.size w (((w.alloc A).alloc B).alloc C) := fun A B C => (((Below.refl _ _).alloc (Nat.le_refl _) _).alloc (by simp) _).alloc (by simp; omega) _
  have ho := fun A B => opsOn n m es [a] s _ _ (hs.keep (hB A B _)) (row_one2 w A B a) hl (by simp)
  obtain ⟨ad, cap, rfl, hz0⟩ := hs
  clear hz0
  have HB := Lib.hid hB
  unfold stM stA stL
  obtain ⟨G, hG⟩ : ∃ G, G = onOk n es m [a] := ⟨_, rfl⟩
  rw [← hG] at ho ⊢
  have HO := Lib.hid ho
  have QG := Lib.hid hG
  clear ho hB hG
  cases G
  · rw [if_neg (by decide), if_neg (by decide), if_neg (by decide)]
    go_enter Try.func22, Try.ntmps22
    go_wp2_with (go_at_call 49; refine (HO.out _ _).mono ?_; rintro e w1 ⟨rfl, hb1⟩; have x0 := hb1.cell (p := ⟨w.heap.size + 1, 0, none⟩) (by simp <;> omega); have x1 := hb1.cell (p := ⟨w.heap.size + 1, 1, none⟩) (by simp <;> omega); have x2 := hb1.cell (p := ⟨w.heap.size + 1, 2, none⟩) (by simp <;> omega); have f0 := hb1.frozen (p := ⟨w.heap.size + 1, 0, none⟩) (by simp <;> omega); have f1 := hb1.frozen (p := ⟨w.heap.size + 1, 1, none⟩) (by simp <;> omega); have f2 := hb1.frozen (p := ⟨w.heap.size + 1, 2, none⟩) (by simp <;> omega))
    try simp only [Exit.inBlock, Exit.then]
    refine bodyPost_ret (v := .tuple #[.agg #[.int .i64 0, .int .i64 0, .slice none 0 0], .bool false]) ?_ rfl ?_
    · rw [results_cell_tmp rfl]
      go_simp
    exact ⟨_, rfl, OwnV.nil _ _, okS_nil, (((bel_trans (HB.out _ _ _) hb1).setCell (by simp) _).setCell (by simp) _).setCell (by simp) _⟩
  · rw [if_pos rfl, if_pos rfl, if_pos rfl]
    have hp := onOk_parts QG.out.symm
    have hn := gVal_n hp.1
    have ha := hp.2.1 a (List.mem_singleton.2 rfl)
    have hm := hp.2.2
    obtain ⟨N, rfl⟩ := Int.eq_ofNat_of_zero_le (show 0 ≤ n by omega)
    obtain ⟨A, rfl⟩ := Int.eq_ofNat_of_zero_le ha.1
    have hst := fun w => startValues m N A hm (by omega) (by omega) w
    have HST := Lib.hid hst
    have e1 : opsR m true = opsV m := rfl
    rw [e1] at HO
    clear hst hp hn ha e1
    go_enter Try.func22, Try.ntmps22
    go_wp2_with (first | (go_at_call 49; refine (HO.out _ _).mono ?_; rintro e w1 ⟨rfl, hb1⟩; have x0 := hb1.cell (p := ⟨w.heap.size + 1, 0, none⟩) (by simp <;> omega); have x1 := hb1.cell (p := ⟨w.heap.size + 1, 1, none⟩) (by simp <;> omega); have x2 := hb1.cell (p := ⟨w.heap.size + 1, 2, none⟩) (by simp <;> omega); have f0 := hb1.frozen (p := ⟨w.heap.size + 1, 0, none⟩) (by simp <;> omega); have f1 := hb1.frozen (p := ⟨w.heap.size + 1, 1, none⟩) (by simp <;> omega); have f2 := hb1.frozen (p := ⟨w.heap.size + 1, 2, none⟩) (by simp <;> omega); have y0 := hb1.cell (p := ⟨w.heap.size, 0, none⟩) (by simp <;> omega)) | (go_at_call 50; refine (HST.out _).mono ?_; rintro e w2 ⟨_, rfl, ⟨g, c2, rfl, hg, hrow⟩, hb2⟩; have z0 := hb2.cell (p := ⟨w.heap.size + 1, 0, none⟩) (Nat.lt_of_lt_of_le (by simp <;> omega) hb1.size); have z1 := hb2.cell (p := ⟨w.heap.size + 1, 1, none⟩) (Nat.lt_of_lt_of_le (by simp <;> omega) hb1.size); have z2 := hb2.cell (p := ⟨w.heap.size + 1, 2, none⟩) (Nat.lt_of_lt_of_le (by simp <;> omega) hb1.size); have g0 := hb2.frozen (p := ⟨w.heap.size + 1, 0, none⟩) (Nat.lt_of_lt_of_le (by simp <;> omega) hb1.size); have g1 := hb2.frozen (p := ⟨w.heap.size + 1, 1, none⟩) (Nat.lt_of_lt_of_le (by simp <;> omega) hb1.size); have g2 := hb2.frozen (p := ⟨w.heap.size + 1, 2, none⟩) (Nat.lt_of_lt_of_le (by simp <;> omega) hb1.size); have HG := Lib.hid hg; have HW := Lib.hid hrow; clear hg hrow))
    try simp only [Exit.inBlock, Exit.then]
    refine bodyPost_ret (v := .tuple #[.agg #[.int .i64 m, .int .i64 A, .slice (some ⟨g, 0, none⟩) (vStart m N A).length c2], .bool true]) ?_ rfl ?_
    · rw [results_cell_tmp rfl]
      go_simp
    have hB1 := bel_trans (HB.out _ _ _) hb1
    have hg3 : w.heap.size + 2 ≤ g := by have h1 := HG.out.1; have h2 := hb1.size; simp at h2; omega
    have hrow2 : ∀ x y z, (((w2.setCell ⟨w.heap.size + 1, 0, none⟩ x).setCell ⟨w.heap.size + 1, 1, none⟩ y).setCell ⟨w.heap.size + 1, 2, none⟩ z).rowIs g 3 (vStart m N A).length (cellI (vStart m N A)) :=
      fun x y z => ((HW.out.setOther (by simp only; omega) _).setOther (by simp only; omega) _).setOther (by simp only; omega) _
    have hnew := fun x y z => (⟨g, c2, rfl, ⟨by omega, HG.out.2⟩, hrow2 x y z⟩ : NewI w _ (.slice (some ⟨g, 0, none⟩) (vStart m N A).length c2) (vStart m N A))
    exact ⟨_, rfl, NewI.own (hnew _ _ _), NewI.ok (hnew (.int .i64 0) (.int .i64 0) (.int .i64 0)), (((bel_trans hB1 hb2).setCell (by simp) _).setCell (by simp) _).setCell (by simp) _⟩
end Go.Proofs.Ytddpljalojcomaa
