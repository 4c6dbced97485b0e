/- Is a view stable: in the model. -/
import Derived.Test.YtbcbknebjbelmaaStable
namespace Go.Proofs.Ytbcbknebjbelmaa
open Go.RowKit Go.BigFrame Go.Deep
set_option linter.unusedVariables false
set_option linter.unusedSimpArgs false

set_option maxRecDepth 20000 in
set_option maxHeartbeats 4000000 in
theorem sIsStable (n m a : Int) (es : List Ed) (zs : List Int) (s t : Value) (w : World) (hs : RowE w s es) (ht : Row w t zs) (hl : es.length ≤ 281474976710656) (hl2 : zs.length ≤ 281474976710656) :
    Calls Try.prog 25 #[.agg #[.int .i64 n, s], .agg #[.int .i64 m, .int .i64 a, t]] w fun e w' => e = .returned (.bool (isB n es m a zs)) ∧ Below w.heap.size w w' := by
  have hB : ∀ (A B : Obj), Below w.heap.size w ((w.alloc A).alloc B) := fun A B => ((Below.refl _ _).alloc (Nat.le_refl _) _).alloc (by simp) _
  have hvv := fun w' (h : Below w.heap.size w w') => sViewValid n m a es zs s t w' (hs.keep h) (ht.keep h) hl hl2
  have hR := Lib.hid hs
  have hT := Lib.hid ht
  obtain ⟨ad, cap, rfl, hz0⟩ := hs
  obtain ⟨ad2, cap2, rfl, hy0⟩ := ht
  clear hz0 hy0
  unfold isB
  obtain ⟨G, hG⟩ : ∃ G, G = vVal n es m a zs := ⟨_, rfl⟩
  rw [← hG] at hvv ⊢
  have HVV := Lib.hid hvv
  have QG := Lib.hid hG
  have hfacts : ∀ w', Below ((w.alloc (.cells #[.int .i64 n, .slice ad es.length cap] 25)).alloc (.cells #[.int .i64 m, .int .i64 a, .slice ad2 zs.length cap2] 28)).heap.size ((w.alloc (.cells #[.int .i64 n, .slice ad es.length cap] 25)).alloc (.cells #[.int .i64 m, .int .i64 a, .slice ad2 zs.length cap2] 28)) w' → (w'.cell? ⟨w.heap.size, 0, none⟩ = some (.int .i64 n) ∧ w'.cell? ⟨w.heap.size, 1, none⟩ = some (.slice ad es.length cap) ∧ w'.cell? ⟨w.heap.size + 1, 0, none⟩ = some (.int .i64 m) ∧ w'.cell? ⟨w.heap.size + 1, 1, none⟩ = some (.int .i64 a) ∧ w'.cell? ⟨w.heap.size + 1, 2, none⟩ = some (.slice ad2 zs.length cap2)) ∧ Below w.heap.size w w' := fun w' h => by
    have b0 := (Box.alloc (Box.new w 25 #[.int .i64 n, .slice ad es.length cap]) (.cells #[.int .i64 m, .int .i64 a, .slice ad2 zs.length cap2] 28)).keep h
    have b1 : Box w' (w.heap.size + 1) 28 #[.int .i64 m, .int .i64 a, .slice ad2 zs.length cap2] := by
      have := (Box.new (w.alloc (.cells #[.int .i64 n, .slice ad es.length cap] 25)) 28 #[.int .i64 m, .int .i64 a, .slice ad2 zs.length cap2]).keep h
      simpa using this
    have k0 := b0.cell 0
    have k1 := b0.cell 1
    have k2 := b1.cell 0
    have k3 := b1.cell 1
    have k4 := b1.cell 2
    simp only [List.getElem?_toArray, List.getElem?_cons_succ, List.getElem?_cons_zero] at k0 k1 k2 k3 k4
    exact ⟨⟨k0, k1, k2, k3, k4⟩, bel_trans (hB _ _) h⟩
  have HF := Lib.hid hfacts
  clear hfacts hvv hB hG
  cases G
  · rw [Bool.false_and]
    go_enter Try.func25, Try.ntmps25
    go_wp2
    generalize ((w.alloc (.cells #[.int .i64 n, .slice ad es.length cap] 25)).alloc (.cells #[.int .i64 m, .int .i64 a, .slice ad2 zs.length cap2] 28)) = W1 at HF ⊢
    refine wp_region_below (by kernel_rfl) (by kernel_rfl) ?_
    repeat (go_big_quiet_step ((intro hw; first | with_reducible rfl | (obtain ⟨⟨f0, f1, f2, f3, f4⟩, -⟩ := HF.out _ hw; simp only [f0, f1, f2, f3, f4, Result.andThen]; first | exact ⟨trivial, rfl⟩ | exact ⟨rfl, rfl⟩) | (go_at_call 17; exact quietB (HVV.out _ (HF.out _ hw).2) hw))))
    refine wpQuiet_nil ?_
    intro w2 hw2
    have HB2 := Lib.hid (HF.out _ hw2).2
    go_wp2
    go_ret
    exact ⟨rfl, HB2.out⟩
  · rw [Bool.true_and]
    have hu := vVal_use QG.out.symm
    have hll := vRelax_length m es zs
    have hrv := fun w' (h : Below w.heap.size w w') => l3Relax n m a es zs _ _ w' hu.1 (hR.out.keep h) (hT.out.keep h) (by omega) (by omega) hu.2.1 hu.2.2.2.2.1 hu.2.2.2.2.2
    obtain ⟨L, hL⟩ : ∃ L, L = vRelax m es zs := ⟨_, rfl⟩
    rw [← hL] at hrv hll ⊢
    have hvs := fun (p : Value) (w' : World) (hp : Row w' p L) (h : Below w.heap.size w w') => sViewSame m a m a L zs p _ w' hp (hT.out.keep h) (by omega) (by omega)
    generalize vSame m a L m a zs = R at hvs ⊢
    have HRV := Lib.hid hrv
    have HVS := Lib.hid hvs
    clear hrv hu hll hL hvs
    go_enter Try.func25, Try.ntmps25
    go_wp2
    generalize ((w.alloc (.cells #[.int .i64 n, .slice ad es.length cap] 25)).alloc (.cells #[.int .i64 m, .int .i64 a, .slice ad2 zs.length cap2] 28)) = W1 at HF ⊢
    go_region_held3 (fun w' : World => w'.cell? ⟨w.heap.size, 0, none⟩ = some (.int .i64 n) ∧ w'.cell? ⟨w.heap.size, 1, none⟩ = some (.slice ad es.length cap) ∧ w'.cell? ⟨w.heap.size + 1, 0, none⟩ = some (.int .i64 m) ∧ w'.cell? ⟨w.heap.size + 1, 1, none⟩ = some (.int .i64 a) ∧ w'.cell? ⟨w.heap.size + 1, 2, none⟩ = some (.slice ad2 zs.length cap2)) (first | exact (HF.out _ ((Below.refl _ _).drew)).1 | exact (HF.out _ (bel_trans ((Below.refl _ _).drew) hbA)).1 | exact (HF.out _ (bel_trans (bel_trans ((Below.refl _ _).drew) hbA) hbB)).1 | exact (HF.out _ (bel_trans (bel_trans (bel_trans ((Below.refl _ _).drew) hbA) hbB) hbC)).1) (first | (go_at_call 17; (with_reducible refine (HVV.out _ (HF.out _ ((Below.refl _ _).drew)).2).mono ?_); rintro e wA ⟨rfl, hbA⟩) | (go_at_call 63; (with_reducible refine (HRV.out _ (HF.out _ (bel_trans ((Below.refl _ _).drew) hbA)).2).mono ?_); rintro e wB ⟨v, rfl, hown, hok, hbB⟩; obtain ⟨va, vc, rfl⟩ := hown.slice; have HROW := Lib.hid hown.row; clear hown hok) | (go_at_call 22; (with_reducible refine (HVS.out _ _ HROW.out (HF.out _ (bel_trans (bel_trans ((Below.refl _ _).drew) hbA) hbB)).2).mono ?_); rintro e wC ⟨rfl, hbC⟩))
    all_goals
      have HB2 := Lib.hid (HF.out _ (bel_trans (bel_trans (bel_trans ((Below.refl _ _).drew) hbA) hbB) hbC)).2
      go_wp2
      go_ret
      exact ⟨rfl, HB2.out⟩
end Go.Proofs.Ytbcbknebjbelmaa
