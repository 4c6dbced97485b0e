/- SimplePaths of the program. -/
import Derived.Test.YtneapbggnnndhaaGreatSrcC
import Derived.Test.YtneapbggnnndhaaGreatVStartT
import Derived.Deep.Cut
namespace Go.Proofs.YtneapbggnnndhaaGreat
open Go.RowKit Go.BigFrame Go.Deep Go.ChangeShapes Go.WideShapes Go.Joins
set_option linter.unusedVariables false
set_option linter.unusedSimpArgs false

theorem goOn {W0 : World} {m n tgt : Int} {es : List Ed} {ops ed : Value} {B : Nat} (hE : SEnv W0 m n tgt es ops ed) : ∀ f, GoOnP W0 m n tgt es ops ed B f
  | 0 => fun nodes v qs vn vf w _ _ _ _ h => absurd h (Nat.not_lt_zero _)
  | f + 1 => goOnStep hE (goOn hE f)

/-- What SimplePaths answers. -/
def spB (n : Int) (es : List Ed) (m a b : Int) : Bool := onOk n es m [a, b] && decide ((spL m es a b).length ≤ 400)
def spR (n : Int) (es : List Ed) (m a b : Int) : List Pt := if spB n es m a b = true then spL m es a b else []
theorem spB_on {n m a b : Int} {es : List Ed} (h : onOk n es m [a, b] = false) : spB n es m a b = false := by unfold spB; rw [h]; rfl
theorem spR_not {n m a b : Int} {es : List Ed} (h : spB n es m a b = false) : spR n es m a b = [] := by unfold spR; rw [h]; rfl
theorem spR_yes {n m a b : Int} {es : List Ed} (h : spB n es m a b = true) : spR n es m a b = spL m es a b := by unfold spR; rw [if_pos h]
theorem spR_len (n : Int) (es : List Ed) (m a b : Int) : (spR n es m a b).length ≤ 400 := by
  unfold spR spB
  split
  · rename_i h
    simp at h
    exact h.2
  · simp
theorem spR_mem {n m a b : Int} {es : List Ed} {p : Pt} (h : p ∈ spR n es m a b) : p.1.length ≤ 13 ∧ 0 < p.1.length ∧ mIn m p.2 = true := by
  unfold spR at h
  split at h
  · rename_i hb
    unfold spB at hb
    simp only [Bool.and_eq_true] at hb
    have hp := onOk_parts hb.1
    rcases pw_mem hp.2.2 hp.1 13 [a] (mOne m) [] (mOne_in hp.2.2) p h with h | h
    · cases h
    · simp at h
      exact ⟨by omega, by omega, h.2.2⟩
  · cases h
theorem row_twoS (w : World) (A : Obj) (a b : Int) : Row ((w.alloc A).alloc (.cells #[.int .i64 a, .int .i64 b] 3)) (.slice (some ⟨w.heap.size + 1, 0, none⟩) 2 2) [a, b] := by
  refine ⟨_, 2, rfl, .inr ⟨w.heap.size + 1, 0, rfl, by simp, fun i hi => ?_⟩⟩
  have h2 : i = 0 ∨ i = 1 := by simp at hi; omega
  rcases h2 with rfl | rfl <;> go_simp
theorem Pths.nil (w : World) (base : Nat) : Pths w base (.slice none 0 0) [] := ⟨World.ownsRow_nil _ _ _ _, (fun q hq => absurd hq (List.not_mem_nil)), List.Pairwise.nil⟩

set_option maxRecDepth 20000 in
set_option maxHeartbeats 4000000 in
theorem simplePaths (n m a b : Int) (es : List Ed) (s : Value) (w : World) (hs : RowE w s es) (hok : okS s) (hl : es.length ≤ 1048576) :
    Calls Tryz.prog 47 #[.agg #[.int .i64 n, s], .int .i64 m, .int .i64 a, .int .i64 b] w fun e w' => ∃ v qs, e = .returned (.tuple #[v, .bool (spB n es m a b)]) ∧ Pths w' w.heap.size v qs ∧ qs.map PP.p = spR n es m a b ∧ Below w.heap.size w w' := by
  obtain ⟨ad, cap, rfl, hz0⟩ := id hs
  clear hz0
  have hB2 : ∀ (A C : Obj), Below w.heap.size w ((w.alloc A).alloc C) := fun A C => ((Below.refl _ _).alloc (Nat.le_refl _) _).alloc (by simp) _
  have ho := fun A => opsOn n m es [a, b] (.slice ad es.length cap) _ _ (hs.keep (hB2 A _)) (row_twoS w A a b) (by omega) (by simp)
  have HB2 := Lib.hid hB2
  obtain ⟨G, hG⟩ : ∃ G, G = onOk n es m [a, b] := ⟨_, rfl⟩
  rw [← hG] at ho
  have HO := Lib.hid ho
  have QG := Lib.hid hG
  clear ho hB2 hG
  cases G
  · rw [spR_not (spB_on QG.out.symm), spB_on QG.out.symm]
    rw [show opsR m false = .nilIface from rfl] at HO
    go_enter Tryz.func47, Tryz.ntmps47
    go_wp2_with (go_at_call 60; refine (HO.out _).mono ?_; rintro e w1 ⟨rfl, hb1⟩)
    go_ret2
    exact ⟨_, [], rfl, Pths.nil _ _, rfl, bel_trans (HB2.out _ _) hb1⟩
  · have hp := onOk_parts QG.out.symm
    obtain ⟨T, rv, fn, fe, fb, fo, fj, rn, re, rb, ro, rj, D⟩ := disp hp.2.2
    rw [show opsR m true = opsV m from rfl, D.val] at HO
    have he1 := D.me.run
    have he2 := D.me.ahead
    have he3 := D.me.enter
    have HCE := Lib.hid D.ce
    have HE := Lib.hid (show SEnv w m n b es (.iface T rv) (.slice ad es.length cap) from ⟨hp.2.2, hp.1, hs, hok, D.val.symm⟩)
    have hrA := hp.2.1 a (List.mem_cons_self ..)
    have hrB := hp.2.1 b (List.mem_cons_of_mem _ (List.mem_singleton.2 rfl))
    have HP := Lib.hid hp
    clear D hp hs hok
    go_enter Tryz.func47, Tryz.ntmps47
    go_wp2_with fail
    refine (HO.out _).mono ?_
    rintro e w1 ⟨rfl, hb1⟩
    have HB1 := Lib.hid (bel_trans (HB2.out _ _) hb1)
    have x0 := hb1.cell (p := ⟨w.heap.size, 0, none⟩) (by simp; omega)
    have x1 := hb1.cell (p := ⟨w.heap.size, 1, none⟩) (by simp; omega)
    have z1 : w.heap.size + 1 < w1.heap.size := by have := hb1.size; simp at this; omega
    go_upto_region 5 with fail
    have hS : Srch ((w1.alloc (.cells #[.int .i64 a] 3)).alloc (.cells #[.iface T rv, .int .i64 n, .slice ad es.length cap, .int .i64 b, .slice (some ⟨w1.heap.size, 0, none⟩) 1 1, .slice none 0 0] 89)) w.heap.size (w1.heap.size + 1) (.iface T rv) n (.slice ad es.length cap) b [a] [] (.slice (some ⟨w1.heap.size, 0, none⟩) 1 1) (.slice none 0 0) := by
      refine ⟨?_, by omega, ?_, Pths.nil _ _, fun q hq => absurd hq (List.not_mem_nil)⟩
      · have := Box.new (w1.alloc (.cells #[.int .i64 a] 3)) 89 (sC (.iface T rv) n (.slice ad es.length cap) b (.slice (some ⟨w1.heap.size, 0, none⟩) 1 1) (.slice none 0 0))
        simpa [sC] using this
      · refine World.ownsRow.alloc ?_ _
        exact ⟨rfl, .inr ⟨w1.heap.size, 1, #[.int .i64 a], rfl, by omega, blk_alloc_new _ _, Nat.le_refl _, by unfold maxLen; omega, rfl, rfl⟩⟩
    have hbS : Below w1.heap.size w1 ((w1.alloc (.cells #[.int .i64 a] 3)).alloc (.cells #[.iface T rv, .int .i64 n, .slice ad es.length cap, .int .i64 b, .slice (some ⟨w1.heap.size, 0, none⟩) 1 1, .slice none 0 0] 89)) := ((Below.refl _ _).alloc (Nat.le_refl _) _).alloc (by simp) _
    have HS := Lib.hid (And.intro hS (bel_trans HB1.out hbS))
    clear hS hbS x0 x1 hb1
    generalize ((w1.alloc (.cells #[.int .i64 a] 3)).alloc (.cells #[.iface T rv, .int .i64 n, .slice ad es.length cap, .int .i64 b, .slice (some ⟨w1.heap.size, 0, none⟩) 1 1, .slice none 0 0] 89)) = w2 at HS ⊢
    have hn12 := gVal_n HP.out.1
    have hgo := fun w' (h : Below w2.heap.size w2 w') => goOn HE.out 13 [a] (mOne m) [] _ _ w' (HS.out.1.keep h) (bel_trans HS.out.2 h) (by simp) (fun x hx => by simp at hx; subst hx; exact hrA) (by have := pwM_le n [a]; omega) (by simp) (by simp) (mOne_in HP.out.2.2)
    have hspl : pw m es b 13 [a] (mOne m) (([] : List PP).map PP.p) = spL m es a b := rfl
    rw [hspl] at hgo
    have HGO := Lib.hid hgo
    clear hgo hspl hrA hrB hn12
    by_cases hR : (spL m es a b).length ≤ 400
    · have HD : Hid (decide ((spL m es a b).length ≤ 400) = true) := Lib.hid (decide_eq_true hR)
      have hgo2 : ∀ w', Below w2.heap.size w2 w' → Calls Tryz.prog 61 #[.pointer (some ⟨w1.heap.size + 1, 0, none⟩), .int .i64 (mOne m)] w' fun e w'' => e = .returned (.bool true) ∧ (∃ qs vn vf, Srch w'' w.heap.size (w1.heap.size + 1) (.iface T rv) n (.slice ad es.length cap) b [a] qs vn vf ∧ qs.map PP.p = spL m es a b) ∧ ChaT AS w.heap.size w' w'' := fun w' h => (HGO.out w' h).mono (fun e w'' hh => by
        obtain ⟨h1, h2, h3⟩ : _ ∧ _ ∧ _ := hh
        exact ⟨by rw [h1, HD.out], h2, h3⟩)
      have HGO2 := Lib.hid hgo2
      clear hgo2
      go_wp2_with fail
      refine (HCE.out _).mono ?_
      rintro e w3 ⟨rfl, hb3⟩
      go_wp2_with fail
      refine (HGO2.out _ hb3).mono ?_
      rintro e w4 ⟨rfl, ⟨qs, vn, vf, hsr, hmap⟩, hch⟩
      have x5 := hsr.cells.1.2.2.2.2.2
      have HF := Lib.hid (And.intro hsr.fnd (And.intro hmap (hch.bel (bel_trans HS.out.2 hb3).size (Nat.le_refl _) (bel_trans HS.out.2 hb3))))
      have hB4 := hsr.cells.2
      obtain ⟨fa, fc, hvf⟩ := own_slice hsr.fnd.own
      subst hvf
      clear hsr hmap hch hb3
      go_wp2
      go_ret2
      have hsb : spB n es m a b = true := by unfold spB; rw [← QG.out, HD.out]; rfl
      exact ⟨.slice fa qs.length fc, qs, by rw [hsb]; rfl, HF.out.1, by rw [spR_yes hsb]; exact HF.out.2.1, HF.out.2.2⟩
    · have HD : Hid (decide ((spL m es a b).length ≤ 400) = false) := Lib.hid (decide_eq_false hR)
      have hgo2 : ∀ w', Below w2.heap.size w2 w' → Calls Tryz.prog 61 #[.pointer (some ⟨w1.heap.size + 1, 0, none⟩), .int .i64 (mOne m)] w' fun e w'' => e = .returned (.bool false) ∧ ChaT AS w.heap.size w' w'' := fun w' h => (HGO.out w' h).mono (fun e w'' hh => by
        obtain ⟨h1, h2, h3⟩ : _ ∧ _ ∧ _ := hh
        exact ⟨by rw [h1, HD.out], h3⟩)
      have HGO2 := Lib.hid hgo2
      clear hgo2
      go_wp2_with fail
      refine (HCE.out _).mono ?_
      rintro e w3 ⟨rfl, hb3⟩
      go_wp2_with fail
      refine (HGO2.out _ hb3).mono ?_
      rintro e w4 ⟨rfl, hch⟩
      have HF := Lib.hid (hch.bel (bel_trans HS.out.2 hb3).size (Nat.le_refl _) (bel_trans HS.out.2 hb3))
      clear hch hb3
      go_wp2
      go_ret2
      have hsb : spB n es m a b = false := by unfold spB; rw [← QG.out, HD.out]; rfl
      exact ⟨.slice none 0 0, [], by rw [hsb]; rfl, Pths.nil _ _, by rw [spR_not hsb]; rfl, HF.out⟩
end Go.Proofs.YtneapbggnnndhaaGreat
