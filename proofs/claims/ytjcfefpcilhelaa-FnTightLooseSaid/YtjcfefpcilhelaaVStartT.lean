/- The first view: in the model. StartView: in the model. -/
import Derived.Test.YtjcfefpcilhelaaVStartJ
import Derived.Test.YtjcfefpcilhelaaBoxes
import Derived.Test.YtjcfefpcilhelaaVValS
namespace Go.Proofs.Ytjcfefpcilhelaa
open Go.RowKit Go.BigFrame Go.Deep
set_option linter.unusedVariables false
set_option linter.unusedSimpArgs false

theorem OwnV.of {w w' : World} {base : Nat} {v : Value} {zs : List Int} (h : w'.ownsRow base 3 1 v zs.length (zs.map (Value.int .i64))) (hb : w.heap.size ≤ base) : OwnV w w' v zs := by
  have h1 := (InR.of_own h).wider (l := w.heap.size) (h := w'.heap.size) hb (Nat.le_refl _) (Nat.le_refl _)
  obtain ⟨a, cap, rfl, hz⟩ := h1
  refine ⟨a, cap, rfl, ?_⟩
  rcases hz with h0 | ⟨b, off, rfl, k1, k2, k3, hc⟩
  · exact .inl h0
  · refine .inr ⟨b, off, rfl, k1, k2, k3, fun i hi => ⟨?_, (hc i hi).2⟩⟩
    rw [(hc i hi).1]
    have hi2 : i < zs.length := by omega
    simp [List.getD, hi2, cellI]
theorem take_map_succ (zs : List Int) (k : Nat) (h : k < zs.length) : (zs.take (k + 1)).map (Value.int .i64) = (zs.take k).map (Value.int .i64) ++ [.int .i64 (zs.getD k 0)] := by
  rw [List.take_succ_eq_append_getElem h, List.map_append]
  simp [List.getD, h]

set_option maxRecDepth 20000 in
set_option maxHeartbeats 4000000 in
theorem l3Start (m : Int) (N A : Nat) (hm : mKind m = true) (h12 : N ≤ 12) (hA : A < N) (ad : Option Addr) (len cap : Nat) (w : World) :
    Calls Try.prog 72 #[.agg #[.int .i64 N, .slice ad len cap], .int .i64 m, .int .i64 A] w fun e w' => ∃ v, e = .returned (.agg #[.int .i64 m, .int .i64 A, v]) ∧ OwnV w w' v (vStart m N A) ∧ okS v ∧ Below w.heap.size w w' := by
  have h1 := fun w => sOne hm w
  have h2 := fun w => sNone hm w
  have HONE := Lib.hid h1
  have HNONE := Lib.hid h2
  obtain ⟨i0, hi, hz0, hz1, hz2⟩ := info_parts info_int2
  have HI := Lib.hid (And.intro hi (And.intro hz0 (And.intro hz1 hz2)))
  clear hi hz0 hz1 hz2 h1 h2
  obtain ⟨Z, hZ⟩ : ∃ Z, Z = vStart m N A := ⟨_, rfl⟩
  have hlen : Z.length = N := by rw [hZ, vStart_length, Int.toNat_natCast]
  have hat : ∀ i, i < N → Z.getD i 0 = if (i : Int) = A then mOne m else mNone m := fun i hi => by rw [hZ]; exact vStart_at m N A (by rw [Int.toNat_natCast]; exact hi)
  rw [← hZ]
  have HLEN := Lib.hid hlen
  have HAT := Lib.hid hat
  clear hZ hlen hat
  go_enter Try.func72, Try.ntmps72
  go_wp2
  go_loopw [8] (fun c wr => ∃ k : Nat, k ≤ N ∧ c = .int .i64 k ∧ Below w.heap.size w wr ∧ (∃ v, Box wr (w.heap.size + 1 + 1) 30 #[.int .i64 m, .int .i64 A, v] ∧ wr.ownsRow w.heap.size 3 1 v k ((Z.take k).map (Value.int .i64))) ∧ Box wr w.heap.size 25 #[.int .i64 N, .slice ad len cap] ∧ Box wr (w.heap.size + 1) 30 #[.int .i64 0, .int .i64 0, .slice none 0 0]) (fun c _ => N - (intOf c).toNat)
  case atStart => exact ⟨0, Nat.zero_le _, rfl, (((Below.refl _ _).alloc (Nat.le_refl _) _).alloc (by simp) _).alloc (by simp; omega) _, ⟨_, by have := Box.new ((w.alloc (.cells #[.int .i64 N, .slice ad len cap] 25)).alloc (.cells #[.int .i64 0, .int .i64 0, .slice none 0 0] 30)) 30 #[.int .i64 m, .int .i64 A, .slice none 0 0]; simpa using this, ⟨by simp, .inl ⟨rfl, rfl⟩⟩⟩, ((Box.new w 25 #[.int .i64 N, .slice ad len cap]).alloc _).alloc _, by have := (Box.new (w.alloc (.cells #[.int .i64 N, .slice ad len cap] 25)) 30 #[.int .i64 0, .int .i64 0, .slice none 0 0]).alloc (.cells #[.int .i64 m, .int .i64 A, .slice none 0 0] 30); simpa using this⟩
  case round =>
    obtain ⟨k, hk, rfl, hbel, ⟨v, hbx, hown⟩, hbg, hbr⟩ := hrel
    have HX := Lib.hid hbx
    have HO := Lib.hid hown
    have HG := Lib.hid hbg
    have HR := Lib.hid hbr
    have x0 := hbx.cell 0
    have x1 := hbx.cell 1
    have x2 := hbx.cell 2
    have x3 := hbx.frozen 2
    have x4 := hbx.lt
    have g0 := hbg.cell 0
    have g4 := hbg.lt
    have r0 := hbr.cell 0
    have r1 := hbr.cell 1
    have r2 := hbr.cell 2
    have s0 := hbr.frozen 0
    have s1 := hbr.frozen 1
    have s2 := hbr.frozen 2
    have r4 := hbr.lt
    simp only [List.getElem?_toArray, List.getElem?_cons_succ, List.getElem?_cons_zero] at x0 x1 x2 g0 r0 r1 r2
    clear hbx hown hbg hbr
    by_cases hlt : k < N
    · have hlt' : (k : Int) < N := by omega
      have ht := take_map_succ Z k (by rw [HLEN.out]; exact hlt)
      rw [HAT.out k hlt] at ht
      have hwr := hbel.size
      obtain ⟨hi, hz0, hz1, hz2⟩ := HI.out
      have hxg : ∀ a w6, World.grownBy ((wr.alloc a).drew) w6 v.ownBlock → Box w6 (w.heap.size + 1 + 1) 30 #[.int .i64 m, .int .i64 A, v] := fun a w6 h => Box.grown (w := (wr.alloc a).drew) (HX.out.alloc a) h (own_drew (HO.out.alloc a)) (by decide)
      have HXG := Lib.hid hxg
      have hgg : ∀ a w6, World.grownBy ((wr.alloc a).drew) w6 v.ownBlock → Box w6 w.heap.size 25 #[.int .i64 N, .slice ad len cap] := fun a w6 h => Box.grown (w := (wr.alloc a).drew) (HG.out.alloc a) h (own_drew (HO.out.alloc a)) (by decide)
      have hrg : ∀ a w6, World.grownBy ((wr.alloc a).drew) w6 v.ownBlock → Box w6 (w.heap.size + 1) 30 #[.int .i64 0, .int .i64 0, .slice none 0 0] := fun a w6 h => Box.grown (w := (wr.alloc a).drew) (HR.out.alloc a) h (own_drew (HO.out.alloc a)) (by decide)
      have HGG := Lib.hid hgg
      have HRG := Lib.hid hrg
      clear hxg hgg hrg
      obtain ⟨x, hx⟩ : ∃ x, x = if (k : Int) = A then mOne m else mNone m := ⟨_, rfl⟩
      rw [← hx] at ht
      have HT := Lib.hid ht
      clear ht
      by_cases he : (k : Int) = A
      · rw [if_pos he] at hx
        have d1 : decide ((k : Int) = A) = true := by simpa using he
        have d2 : ((k : Int) == A) = true := by simpa using he
        have hone := HONE.out
        rw [← hx] at hone
        have HC := Lib.hid hone
        clear he hone hx
        focus
          go_wp2
          go_region_law (first | (refine step_append_own rfl (.tmp 22) (.tmp 25) 28 rfl w.heap.size 3 i0 (.int .i64 0) 1 8 Try.underlying28 hi hz0 hz1 hz2 rfl (by decide) _ _ _ rfl (own_drew (HO.out.alloc _)) ⟨wr.heap.size, 0, none⟩ 1 1 [.int .i64 x] rfl rfl (cells_new1 _ _ _) (by simp [Value.oneCell']) (by unfold maxLen; omega) (by omega) (by simp; omega) ?_; intro v' w6 hown6 hgrow6; obtain ⟨va, vc, rfl⟩ := own_slice hown6; have HX6 := Lib.hid (HXG.out _ _ hgrow6); have y2 := HX6.out.cell 2; have y3 := HX6.out.frozen 2; have y0 := (HGG.out _ _ hgrow6).cell 0; simp only [List.getElem?_toArray, List.getElem?_cons_succ, List.getElem?_cons_zero] at y2 y0) | (go_simp; go_at_call 112; refine (HC.out _).mono ?_; rintro e w1 ⟨rfl, rfl⟩))
          all_goals go_wp2
          all_goals go_roundw
          all_goals first | (simp [intOf]; omega) | exact ⟨k + 1, by omega, by go_num, ((((hbel.alloc hwr _).drew).grown hgrow6 (by simp; omega) (fun q hq => (HO.out.lt q hq).1)).setCell (by simp; omega) _), ⟨_, by have := HX6.out.set 2 (.slice va (k + 1) vc); simpa using this, by rw [HT.out]; exact HX6.out.own hown6 (by decide)⟩, (HGG.out _ _ hgrow6).setOther (by omega) 2 _, (HRG.out _ _ hgrow6).setOther (by omega) 2 _⟩ | ((repeat apply Exists.intro); exact ⟨⟨k + 1, by omega, by go_num, ((((hbel.alloc hwr _).drew).grown hgrow6 (by simp; omega) (fun q hq => (HO.out.lt q hq).1)).setCell (by simp; omega) _), ⟨_, by have := HX6.out.set 2 (.slice va (k + 1) vc); simpa using this, by rw [HT.out]; exact HX6.out.own hown6 (by decide)⟩, (HGG.out _ _ hgrow6).setOther (by omega) 2 _, (HRG.out _ _ hgrow6).setOther (by omega) 2 _⟩, rfl⟩)

      · rw [if_neg he] at hx
        have d1 : decide ((k : Int) = A) = false := by simpa using he
        have d2 : ((k : Int) == A) = false := by simpa using he
        have hone := HNONE.out
        rw [← hx] at hone
        have HC := Lib.hid hone
        clear he hone hx
        focus
          go_wp2
          go_region_law (first | (refine step_append_own rfl (.tmp 29) (.tmp 32) 28 rfl w.heap.size 3 i0 (.int .i64 0) 1 8 Try.underlying28 hi hz0 hz1 hz2 rfl (by decide) _ _ _ rfl (own_drew (HO.out.alloc _)) ⟨wr.heap.size, 0, none⟩ 1 1 [.int .i64 x] rfl rfl (cells_new1 _ _ _) (by simp [Value.oneCell']) (by unfold maxLen; omega) (by omega) (by simp; omega) ?_; intro v' w6 hown6 hgrow6; obtain ⟨va, vc, rfl⟩ := own_slice hown6; have HX6 := Lib.hid (HXG.out _ _ hgrow6); have y2 := HX6.out.cell 2; have y3 := HX6.out.frozen 2; have y0 := (HGG.out _ _ hgrow6).cell 0; simp only [List.getElem?_toArray, List.getElem?_cons_succ, List.getElem?_cons_zero] at y2 y0) | (go_simp; go_at_call 62; refine (HC.out _).mono ?_; rintro e w1 ⟨rfl, rfl⟩))
          all_goals go_wp2
          all_goals go_roundw
          all_goals first | (simp [intOf]; omega) | exact ⟨k + 1, by omega, by go_num, ((((hbel.alloc hwr _).drew).grown hgrow6 (by simp; omega) (fun q hq => (HO.out.lt q hq).1)).setCell (by simp; omega) _), ⟨_, by have := HX6.out.set 2 (.slice va (k + 1) vc); simpa using this, by rw [HT.out]; exact HX6.out.own hown6 (by decide)⟩, (HGG.out _ _ hgrow6).setOther (by omega) 2 _, (HRG.out _ _ hgrow6).setOther (by omega) 2 _⟩ | ((repeat apply Exists.intro); exact ⟨⟨k + 1, by omega, by go_num, ((((hbel.alloc hwr _).drew).grown hgrow6 (by simp; omega) (fun q hq => (HO.out.lt q hq).1)).setCell (by simp; omega) _), ⟨_, by have := HX6.out.set 2 (.slice va (k + 1) vc); simpa using this, by rw [HT.out]; exact HX6.out.own hown6 (by decide)⟩, (HGG.out _ _ hgrow6).setOther (by omega) 2 _, (HRG.out _ _ hgrow6).setOther (by omega) 2 _⟩, rfl⟩)

    · have hke : k = N := by omega
      have hkk : ¬ ((k : Int) < N) := by omega
      have ht : Z.take k = Z := List.take_of_length_le (by have := HLEN.out; omega)
      rw [ht] at HO
      have hkl : k = Z.length := by have := HLEN.out; omega
      have HK := Lib.hid hkl
      clear hke ht hkl
      obtain ⟨va, vc, rfl⟩ := own_slice HO.out
      go_wp2
      try simp only [Exit.inBlock, Exit.then]
      refine bodyPost_ret (v := .agg #[.int .i64 m, .int .i64 A, .slice va k vc]) ?_ rfl ?_
      · rw [results_cell1 rfl]
        go_simp
      refine ⟨_, rfl, ?_, own_ok HO.out, ((hbel.setCell (by simp) _).setCell (by simp) _).setCell (by simp) _⟩
      have ho := HO.out
      have hr := HR.out
      rw [HK.out] at ho ⊢
      exact OwnV.of (((hr.set 0 _).set 1 _).own ((hr.set 0 _).own (hr.own ho (by decide)) (by decide)) (by decide)) (Nat.le_refl _)
end Go.Proofs.Ytjcfefpcilhelaa
namespace Go.Proofs.Ytjcfefpcilhelaa
open Go.RowKit Go.BigFrame Go.Deep
set_option linter.unusedVariables false
set_option linter.unusedSimpArgs false

theorem onOk_one (n : Int) (es : List Ed) (m a : Int) : onOk n es m [a] = ((gVal n es && (decide (0 ≤ a) && decide (a < n))) && mKind m) := by simp [onOk, inN]

set_option maxHeartbeats 1000000 in
theorem l3Right (n m a : Int) (es : List Ed) (s : Value) (w : World) (hs : RowE w s es) (hl : es.length ≤ 281474976710656) :
    Calls Try.prog 57 #[.agg #[.int .i64 n, s], .int .i64 m, .int .i64 a] w fun e w' => e = .returned (.bool (onOk n es m [a])) ∧ Below w.heap.size w w' := by
  have hB : ∀ (A : Obj), Below w.heap.size w (w.alloc A) := fun A => (Below.refl _ _).alloc (Nat.le_refl _) _
  have hg := fun A => sGraphValid n es s (w.alloc A) (hs.keep (hB A)) hl
  have hk := fun w => sKind m w
  obtain ⟨ad, cap, rfl, hz0⟩ := hs
  clear hz0
  rw [onOk_one]
  generalize gVal n es = G at hg ⊢
  generalize mKind m = K at hk ⊢
  have HG := Lib.hid hg
  have HK := Lib.hid hk
  have HB := Lib.hid hB
  clear hg hk hB
  cases G
  · rw [Bool.false_and, Bool.false_and]
    go_enter Try.func57, Try.ntmps57
    go_wp2_with (first | (go_at_call 91; refine (HG.out _).mono ?_; rintro e w1 ⟨rfl, hb1⟩))
    go_ret
    exact ⟨rfl, bel_trans (HB.out _) hb1⟩
  rw [Bool.true_and]
  cases K
  · rw [Bool.and_false]
    go_enter Try.func57, Try.ntmps57
    go_wp2_with (first | (go_at_call 91; refine (HG.out _).mono ?_; rintro e w1 ⟨rfl, hb1⟩) | (go_at_call 100; refine (HK.out _).mono ?_; rintro e w2 ⟨rfl, rfl⟩))
    go_ret
    exact ⟨rfl, bel_trans (HB.out _) hb1⟩
  rw [Bool.and_true]
  by_cases h1 : 0 ≤ a
  rotate_left
  · have d1 : decide (0 ≤ a) = false := by simpa using h1
    rw [d1, Bool.false_and]
    go_enter Try.func57, Try.ntmps57
    go_wp2_with (first | (go_at_call 91; refine (HG.out _).mono ?_; rintro e w1 ⟨rfl, hb1⟩) | (go_at_call 100; refine (HK.out _).mono ?_; rintro e w2 ⟨rfl, rfl⟩))
    go_ret
    exact ⟨rfl, bel_trans (HB.out _) hb1⟩
  have d1 : decide (0 ≤ a) = true := by simpa using h1
  rw [d1, Bool.true_and]
  go_enter Try.func57, Try.ntmps57
  go_wp2_with (first | (go_at_call 91; refine (HG.out _).mono ?_; rintro e w1 ⟨rfl, hb1⟩; have x0 := hb1.cell (p := ⟨w.heap.size, 0, none⟩) (by simp <;> omega)) | (go_at_call 100; refine (HK.out _).mono ?_; rintro e w2 ⟨rfl, rfl⟩))
  go_ret
  exact ⟨rfl, bel_trans (HB.out _) hb1⟩

end Go.Proofs.Ytjcfefpcilhelaa
