/- container/heap over the waiting nodes: Push, Pop. -/
import Derived.Test.YtlmhccjppmhdbaaHeapI
import Derived.Test.YtlmhccjppmhdbaaView0
namespace Go.Proofs.Ytlmhccjppmhdbaa
open Go.RowKit Go.BigFrame Go.Deep
set_option linter.unusedVariables false
set_option linter.unusedSimpArgs false

theorem eLess_iff {m : Int} (hm : mKind m = true) (a b : En) : eLess m a b = true ↔ (if m = 2 ∨ m = 4 then (b.2 < a.2 ∨ (a.2 = b.2 ∧ a.1 < b.1)) else (a.2 < b.2 ∨ (a.2 = b.2 ∧ a.1 < b.1))) := by
  unfold eLess mBet
  by_cases h : a.2 = b.2
  · rw [if_pos h, decide_eq_true_eq]
    split <;> omega
  · rw [if_neg h]
    split
    · rw [decide_eq_true_eq]; omega
    · rw [decide_eq_true_eq]; omega
theorem eLess_ord {m : Int} (hm : mKind m = true) : Ord (eLess m) where
  trans := by
    intro a b c h1 h2
    rw [Bool.eq_false_iff, ne_eq, eLess_iff hm] at *
    split at h1
    · rename_i hc
      rw [if_pos hc] at h2 ⊢
      omega
    · rename_i hc
      rw [if_neg hc] at h2 ⊢
      omega
  asym := by
    intro a b h
    rw [Bool.eq_false_iff, ne_eq]
    rw [eLess_iff hm] at *
    split at h
    · rename_i hc
      rw [if_pos hc]
      omega
    · rename_i hc
      rw [if_neg hc]
      omega
/-- A row in the order of a heap. -/
def hOk (m : Int) (n : Nat) (es : List En) : Prop := Heap (eLess m) n (fun k => es.getD k (0, 0))
/-- A method of the heap, called through the interface. -/
structure MethH (B : Nat) (name : String) (F : FuncId) : Prop where
  run : ∀ w, (method 310 164 (.pointer (some ⟨B, 7, none⟩)) name).run Try.prog w = .ok (F, .pointer (some ⟨B, 7, none⟩)) w
  ahead : ∀ w, (nilAhead 310 164 (.pointer (some ⟨B, 7, none⟩)) name).run Try.prog w = .ok (some false) w
  enter : ∀ args w, (callFunc F args).run Try.prog w = .ok (.enter F args) w
theorem mLen (B : Nat) : MethH B "Len" 130 := ⟨fun w => by kernel_rfl, fun w => by kernel_rfl, fun args w => by kernel_rfl⟩
theorem mLess (B : Nat) : MethH B "Less" 168 := ⟨fun w => by kernel_rfl, fun w => by kernel_rfl, fun args w => by kernel_rfl⟩
theorem mSwap (B : Nat) : MethH B "Swap" 171 := ⟨fun w => by kernel_rfl, fun w => by kernel_rfl, fun args w => by kernel_rfl⟩
theorem mPush (B : Nat) : MethH B "Push" 170 := ⟨fun w => by kernel_rfl, fun w => by kernel_rfl, fun args w => by kernel_rfl⟩
theorem mPop (B : Nat) : MethH B "Pop" 169 := ⟨fun w => by kernel_rfl, fun w => by kernel_rfl, fun args w => by kernel_rfl⟩

theorem hUp_lsw {m : Int} (hm : mKind m = true) {n j : Nat} {es : List En} (hl : n ≤ es.length) (h : HeapUp (eLess m) n (fun k => es.getD k (0, 0)) j) (hj : 0 < j) (hn : j < n) (hlt : eLess m (es.getD j (0, 0)) (es.getD ((j - 1) / 2) (0, 0)) = true) : HeapUp (eLess m) n (fun k => (lsw es ((j - 1) / 2) j).getD k (0, 0)) ((j - 1) / 2) := by
  have h1 := up_step (eLess_ord hm) h hj hn hlt
  have e : (fun k => (lsw es ((j - 1) / 2) j).getD k (0, 0)) = swp (fun k => es.getD k (0, 0)) ((j - 1) / 2) j := funext (fun k => lsw_get (by omega) (by omega) k)
  rw [e]; exact h1
set_option maxRecDepth 20000 in
set_option maxHeartbeats 4000000 in
theorem heapUp {m : Int} (hm : mKind m = true) {base B : Nat} {c0 c1 c2 c3 c4 c5 c6 ev : Value} {es : List En} {w : World} (h : Fro w base B c0 c1 c2 c3 c4 c5 c6 (opsV m) ev es) {j : Nat} (hj : j < es.length) (hl : es.length ≤ 1048576) (hu : HeapUp (eLess m) es.length (fun k => es.getD k (0, 0)) j) :
    Calls Try.prog 129 #[.iface 164 (.pointer (some ⟨B, 7, none⟩)), .int .i64 j] w fun e w' => e = .returned (.tuple #[]) ∧ (∃ es', Fro w' base B c0 c1 c2 c3 c4 c5 c6 (opsV m) ev es' ∧ es'.length = es.length ∧ hOk m es.length es' ∧ ∀ x, inB es.length es' x ↔ inB es.length es x) ∧ ChaT AF base w w' := by
  obtain ⟨l1, l2, l3⟩ := mLess B
  obtain ⟨s1, s2, s3⟩ := mSwap B
  have HF := Lib.hid h
  have HU := Lib.hid hu
  clear h hu
  go_enter Try.func129, Try.ntmps129
  go_wp2
  go_loopw [1] (fun c wr => ∃ (k : Nat) (fs : List En), k < es.length ∧ c = .int .i64 k ∧ Hid (Fro wr base B c0 c1 c2 c3 c4 c5 c6 (opsV m) ev fs ∧ fs.length = es.length ∧ HeapUp (eLess m) es.length (fun k => fs.getD k (0, 0)) k ∧ (∀ x, inB es.length fs x ↔ inB es.length es x) ∧ ChaT AF base w wr)) (fun c _ => (intOf c).toNat)
  case atStart => exact ⟨j, es, hj, rfl, Lib.hid ⟨HF.out, rfl, HU.out, fun x => Iff.rfl, ChaT.refl _ _ _⟩⟩
  case round =>
    obtain ⟨k, fs, hk, rfl, HI⟩ := hrel
    by_cases h0 : k = 0
    · subst h0
      go_wp2
      go_end0
      obtain ⟨i1, i2, i3, i4, i5⟩ := HI.out
      exact ⟨rfl, ⟨fs, i1, i2, up_end i3 (.inl rfl), i4⟩, i5⟩
    · obtain ⟨p, hp⟩ : ∃ p, p = (k - 1) / 2 := ⟨_, rfl⟩
      have hq : Int.tdiv ((k : Int) - 1) 2 = (p : Int) := by
        rw [show ((k : Int) - 1) = ((k - 1 : Nat) : Int) by omega, hp]
        rfl
      have hpk : p < k := by omega
      have d0 : ((p : Int) == (k : Int)) = false := by simp; omega
      have hle := frLess hm HI.out.1 (i := k) (j := p) (by rw [HI.out.2.1]; omega) (by rw [HI.out.2.1]; omega)
      cases hlt : eLess m (fs.getD k (0, 0)) (fs.getD p (0, 0))
      · rw [hlt] at hle
        have HLE := Lib.hid hle
        have HLT := Lib.hid hlt
        have HPP := Lib.hid hp
        clear hle hlt hp
        go_wp2_with (with_reducible refine (HLE.out).mono ?_; rintro e w1 ⟨rfl, hb1⟩)
        go_end0
        obtain ⟨i1, i2, i3, i4, i5⟩ := HI.out
        refine ⟨rfl, ⟨fs, i1.keep hb1, i2, up_end i3 (.inr ?_), i4⟩, i5.trans (ChaT.of_below hb1)⟩
        show eLess m (fs.getD k (0, 0)) (fs.getD ((k - 1) / 2) (0, 0)) = false
        rw [← HPP.out]; exact HLT.out
      · rw [hlt] at hle
        have HLE := Lib.hid hle
        have HLT := Lib.hid hlt
        have HPP := Lib.hid hp
        have hsw := fun w' (hb : Below wr.heap.size wr w') => frSwap (HI.out.1.keep hb) (i := p) (j := k) (by rw [HI.out.2.1]; omega) (by rw [HI.out.2.1]; omega)
        have HSW := Lib.hid hsw
        clear hle hlt hp hsw
        go_wp2_with (first | (with_reducible refine (HLE.out).mono ?_; rintro e w1 ⟨rfl, hb1⟩) | (with_reducible refine (HSW.out _ hb1).mono ?_; rintro e w2 ⟨rfl, hf2, hc2⟩; have H2 := Lib.hid (And.intro hf2 (And.intro hc2 hb1)); clear hf2 hc2 hb1))
        go_roundw
        case rel =>
          have hrel2 : Hid (Fro w2 base B c0 c1 c2 c3 c4 c5 c6 (opsV m) ev (lsw fs p k) ∧ (lsw fs p k).length = es.length ∧ HeapUp (eLess m) es.length (fun i => (lsw fs p k).getD i (0, 0)) p ∧ (∀ x, inB es.length (lsw fs p k) x ↔ inB es.length es x) ∧ ChaT AF base w w2) := Lib.hid (by
            obtain ⟨i1, i2, i3, i4, i5⟩ := HI.out
            refine ⟨H2.out.1, by rw [lsw_len]; exact i2, ?_, fun x => ?_, (i5.trans (ChaT.of_below H2.out.2.2)).trans H2.out.2.1⟩
            · have := hUp_lsw hm (by omega) i3 (by omega) hk (by have := HLT.out; rw [HPP.out] at this; exact this)
              rw [← HPP.out] at this
              exact this
            · exact (inB_lsw (by omega) (by omega) hk x).trans (i4 x))
          first | exact ⟨p, lsw fs p k, by omega, rfl, hrel2⟩ | ((repeat apply Exists.intro); exact ⟨⟨p, lsw fs p k, by omega, rfl, hrel2⟩, rfl⟩)
        case measure => simp [intOf]; omega

theorem hDown_lsw {m : Int} (hm : mKind m = true) {n i j : Nat} {es : List En} (hl : n ≤ es.length) (h : HeapDown (eLess m) n (fun k => es.getD k (0, 0)) i) (hj0 : 0 < j) (hj : (j - 1) / 2 = i) (hn : j < n) (hc : ∀ k, 0 < k → k < n → (k - 1) / 2 = i → eLess m (es.getD k (0, 0)) (es.getD j (0, 0)) = false) (hlt : eLess m (es.getD j (0, 0)) (es.getD i (0, 0)) = true) : HeapDown (eLess m) n (fun k => (lsw es i j).getD k (0, 0)) j := by
  have h1 := down_step (eLess_ord hm) h hj0 hj hn hc hlt
  have e : (fun k => (lsw es i j).getD k (0, 0)) = swp (fun k => es.getD k (0, 0)) i j := funext (fun k => lsw_get (by omega) (by omega) k)
  rw [e]; exact h1
theorem eLess_irr {m : Int} (hm : mKind m = true) (a : En) : eLess m a a = false := by
  rw [Bool.eq_false_iff, ne_eq, eLess_iff hm]; split <;> omega
set_option maxRecDepth 20000 in
set_option maxHeartbeats 8000000 in
theorem heapDown {m : Int} (hm : mKind m = true) {base B : Nat} {c0 c1 c2 c3 c4 c5 c6 ev : Value} {es : List En} {w : World} (h : Fro w base B c0 c1 c2 c3 c4 c5 c6 (opsV m) ev es) {n : Nat} (hn : es.length = n + 1) (hl : es.length ≤ 1048576) (hu : HeapDown (eLess m) n (fun k => es.getD k (0, 0)) 0) :
    Calls Try.prog 138 #[.iface 164 (.pointer (some ⟨B, 7, none⟩)), .int .i64 0, .int .i64 n] w fun e w' => (∃ r, e = .returned (.bool r)) ∧ (∃ es', Fro w' base B c0 c1 c2 c3 c4 c5 c6 (opsV m) ev es' ∧ es'.length = n + 1 ∧ hOk m n es' ∧ (es'.getD n (0, 0) = es.getD n (0, 0) ∧ ∀ x, inB n es' x ↔ inB n es x)) ∧ ChaT AF base w w' := by
  obtain ⟨l1, l2, l3⟩ := mLess B
  obtain ⟨s1, s2, s3⟩ := mSwap B
  have HF := Lib.hid h
  have HU := Lib.hid hu
  have HN := Lib.hid hn
  have hnl : n ≤ 1048576 := by omega
  clear h hu hn hl
  go_enter Try.func138, Try.ntmps138
  go_wp2
  go_loopw [7] (fun c wr => ∃ (i : Nat) (fs : List En), i ≤ n ∧ c = .int .i64 i ∧ Hid (Fro wr base B c0 c1 c2 c3 c4 c5 c6 (opsV m) ev fs ∧ fs.length = n + 1 ∧ HeapDown (eLess m) n (fun k => fs.getD k (0, 0)) i ∧ (fs.getD n (0, 0) = es.getD n (0, 0) ∧ ∀ x, inB n fs x ↔ inB n es x) ∧ ChaT AF base w wr)) (fun c _ => n - (intOf c).toNat)
  case atStart => exact ⟨0, es, Nat.zero_le _, rfl, Lib.hid ⟨HF.out, HN.out, HU.out, ⟨rfl, fun x => Iff.rfl⟩, ChaT.refl _ _ _⟩⟩
  case round =>
    obtain ⟨i, fs, hi, rfl, HI⟩ := hrel
    by_cases h1 : n ≤ 2 * i + 1
    · have d1 : decide ((n : Int) ≤ 2 * (i : Int) + 1) = true := decide_eq_true (by omega)
      have d2 : decide (2 * (i : Int) + 1 ≥ (n : Int)) = true := decide_eq_true (by omega)
      go_wp2
      go_ret
      obtain ⟨i1, i2, i3, i4, i5⟩ := HI.out
      refine ⟨⟨_, rfl⟩, ⟨fs, i1, i2, down_end i3 (fun k hk hkn hki => ?_), i4⟩, i5⟩
      omega
    have d1 : decide ((n : Int) ≤ 2 * (i : Int) + 1) = false := decide_eq_false (by omega)
    have d0 : decide (2 * (i : Int) + 1 < 0) = false := decide_eq_false (by omega)
    obtain ⟨j, hj⟩ : ∃ j : Nat, j = 2 * i + 1 := ⟨_, rfl⟩
    have hji : 2 * (i : Int) + 1 = (j : Int) := by omega
    rw [hji] at d0 d1
    clear hj
    by_cases h2 : j + 1 < n
    · have d3 : decide ((j : Int) + 1 < (n : Int)) = true := decide_eq_true (by omega)
      have hl2 := frLess hm HI.out.1 (i := j + 1) (j := j) (by rw [HI.out.2.1]; omega) (by rw [HI.out.2.1]; omega)
      rw [show ((j + 1 : Nat) : Int) = (j : Int) + 1 by omega] at hl2
      cases hlt2 : eLess m (fs.getD (j + 1) (0, 0)) (fs.getD j (0, 0))
      · rw [hlt2] at hl2
        have HL2 := Lib.hid hl2
        have hcc : ∀ k, 0 < k → k < n → (k - 1) / 2 = i → eLess m (fs.getD k (0, 0)) (fs.getD j (0, 0)) = false := by
          intro k hk hkn hki
          have : k = j ∨ k = j + 1 := by omega
          rcases this with rfl | rfl
          · exact eLess_irr hm _
          · exact hlt2
        have HCC := Lib.hid hcc
        clear hl2 hlt2 hcc
        have hl9 := fun w' (hb : Below wr.heap.size wr w') => frLess hm (HI.out.1.keep hb) (i := j) (j := i) (by rw [HI.out.2.1]; omega) (by rw [HI.out.2.1]; omega)
        cases hlt : eLess m (fs.getD (j) (0, 0)) (fs.getD i (0, 0))
        · rw [hlt] at hl9
          have HL9 := Lib.hid hl9
          have HLT := Lib.hid hlt
          clear hl9 hlt
          go_wp2_with (first | (with_reducible refine (HL2.out).mono ?_; rintro e w2 ⟨rfl, hb2⟩) | (with_reducible refine (HL9.out _ (hb2)).mono ?_; rintro e w9 ⟨rfl, hb9⟩))
          go_ret
          obtain ⟨i1, i2, i3, i4, i5⟩ := HI.out
          refine ⟨⟨_, rfl⟩, ⟨fs, i1.keep (bel_trans (hb2) hb9), i2, down_end i3 (fun k hk hkn hki => ?_), i4⟩, i5.trans (ChaT.of_below (bel_trans (hb2) hb9))⟩
          exact (eLess_ord hm).trans _ _ _ HLT.out (HCC.out k hk hkn hki)
        · rw [hlt] at hl9
          have HL9 := Lib.hid hl9
          have HLT := Lib.hid hlt
          have hsw := fun w' (hb : Below wr.heap.size wr w') => frSwap (HI.out.1.keep hb) (i := i) (j := j) (by rw [HI.out.2.1]; omega) (by rw [HI.out.2.1]; omega)
          have HSW := Lib.hid hsw
          clear hl9 hlt hsw
          go_wp2_with (first | (with_reducible refine (HL2.out).mono ?_; rintro e w2 ⟨rfl, hb2⟩) | (with_reducible refine (HL9.out _ (hb2)).mono ?_; rintro e w9 ⟨rfl, hb9⟩) | (with_reducible refine (HSW.out _ (bel_trans (hb2) hb9)).mono ?_; rintro e w8 ⟨rfl, hf8, hc8⟩; have H8 := Lib.hid (And.intro hf8 (And.intro hc8 (bel_trans (hb2) hb9))); clear hf8 hc8))
          go_roundw
          case rel =>
            have hrel2 : Hid (Fro w8 base B c0 c1 c2 c3 c4 c5 c6 (opsV m) ev (lsw fs i (j)) ∧ (lsw fs i (j)).length = n + 1 ∧ HeapDown (eLess m) n (fun k => (lsw fs i (j)).getD k (0, 0)) (j) ∧ ((lsw fs i (j)).getD n (0, 0) = es.getD n (0, 0) ∧ ∀ x, inB n (lsw fs i (j)) x ↔ inB n es x) ∧ ChaT AF base w w8) := Lib.hid (by
              obtain ⟨i1, i2, i3, ⟨i4, i6⟩, i5⟩ := HI.out
              refine ⟨H8.out.1, by rw [lsw_len]; exact i2, hDown_lsw hm (by omega) i3 (by omega) (by omega) (by omega) HCC.out HLT.out, ⟨?_, fun x => ?_⟩, (i5.trans (ChaT.of_below H8.out.2.2)).trans H8.out.2.1⟩
              · rw [lsw_get (by omega) (by omega), swp_o _ (by omega) (by omega)]; exact i4
              · exact (inB_lsw (by omega) (by omega) (by omega) x).trans (i6 x))
            first | exact ⟨j, lsw fs i (j), by omega, by go_num, hrel2⟩ | ((repeat apply Exists.intro); exact ⟨⟨j, lsw fs i (j), by omega, by go_num, hrel2⟩, rfl⟩)
          case measure => simp [intOf]; omega
      · rw [hlt2] at hl2
        have HL2 := Lib.hid hl2
        have hcc : ∀ k, 0 < k → k < n → (k - 1) / 2 = i → eLess m (fs.getD k (0, 0)) (fs.getD (j + 1) (0, 0)) = false := by
          intro k hk hkn hki
          have : k = j ∨ k = j + 1 := by omega
          rcases this with rfl | rfl
          · exact (eLess_ord hm).asym _ _ hlt2
          · exact eLess_irr hm _
        have HCC := Lib.hid hcc
        clear hl2 hlt2 hcc
        have hl9 := fun w' (hb : Below wr.heap.size wr w') => frLess hm (HI.out.1.keep hb) (i := j + 1) (j := i) (by rw [HI.out.2.1]; omega) (by rw [HI.out.2.1]; omega)
        rw [show ((j + 1 : Nat) : Int) = (j : Int) + 1 by omega] at hl9
        cases hlt : eLess m (fs.getD (j + 1) (0, 0)) (fs.getD i (0, 0))
        · rw [hlt] at hl9
          have HL9 := Lib.hid hl9
          have HLT := Lib.hid hlt
          clear hl9 hlt
          go_wp2_with (first | (with_reducible refine (HL2.out).mono ?_; rintro e w2 ⟨rfl, hb2⟩) | (with_reducible refine (HL9.out _ (hb2)).mono ?_; rintro e w9 ⟨rfl, hb9⟩))
          go_ret
          obtain ⟨i1, i2, i3, i4, i5⟩ := HI.out
          refine ⟨⟨_, rfl⟩, ⟨fs, i1.keep (bel_trans (hb2) hb9), i2, down_end i3 (fun k hk hkn hki => ?_), i4⟩, i5.trans (ChaT.of_below (bel_trans (hb2) hb9))⟩
          exact (eLess_ord hm).trans _ _ _ HLT.out (HCC.out k hk hkn hki)
        · rw [hlt] at hl9
          have HL9 := Lib.hid hl9
          have HLT := Lib.hid hlt
          have hsw := fun w' (hb : Below wr.heap.size wr w') => frSwap (HI.out.1.keep hb) (i := i) (j := j + 1) (by rw [HI.out.2.1]; omega) (by rw [HI.out.2.1]; omega)
          rw [show ((j + 1 : Nat) : Int) = (j : Int) + 1 by omega] at hsw
          have HSW := Lib.hid hsw
          clear hl9 hlt hsw
          go_wp2_with (first | (with_reducible refine (HL2.out).mono ?_; rintro e w2 ⟨rfl, hb2⟩) | (with_reducible refine (HL9.out _ (hb2)).mono ?_; rintro e w9 ⟨rfl, hb9⟩) | (with_reducible refine (HSW.out _ (bel_trans (hb2) hb9)).mono ?_; rintro e w8 ⟨rfl, hf8, hc8⟩; have H8 := Lib.hid (And.intro hf8 (And.intro hc8 (bel_trans (hb2) hb9))); clear hf8 hc8))
          go_roundw
          case rel =>
            have hrel2 : Hid (Fro w8 base B c0 c1 c2 c3 c4 c5 c6 (opsV m) ev (lsw fs i (j + 1)) ∧ (lsw fs i (j + 1)).length = n + 1 ∧ HeapDown (eLess m) n (fun k => (lsw fs i (j + 1)).getD k (0, 0)) (j + 1) ∧ ((lsw fs i (j + 1)).getD n (0, 0) = es.getD n (0, 0) ∧ ∀ x, inB n (lsw fs i (j + 1)) x ↔ inB n es x) ∧ ChaT AF base w w8) := Lib.hid (by
              obtain ⟨i1, i2, i3, ⟨i4, i6⟩, i5⟩ := HI.out
              refine ⟨H8.out.1, by rw [lsw_len]; exact i2, hDown_lsw hm (by omega) i3 (by omega) (by omega) (by omega) HCC.out HLT.out, ⟨?_, fun x => ?_⟩, (i5.trans (ChaT.of_below H8.out.2.2)).trans H8.out.2.1⟩
              · rw [lsw_get (by omega) (by omega), swp_o _ (by omega) (by omega)]; exact i4
              · exact (inB_lsw (by omega) (by omega) (by omega) x).trans (i6 x))
            first | exact ⟨j + 1, lsw fs i (j + 1), by omega, by go_num, hrel2⟩ | ((repeat apply Exists.intro); exact ⟨⟨j + 1, lsw fs i (j + 1), by omega, by go_num, hrel2⟩, rfl⟩)
          case measure => simp [intOf]; omega
    · have d3 : decide ((j : Int) + 1 < (n : Int)) = false := decide_eq_false (by omega)
      have hcc : ∀ k, 0 < k → k < n → (k - 1) / 2 = i → eLess m (fs.getD k (0, 0)) (fs.getD j (0, 0)) = false := by
        intro k hk hkn hki
        have : k = j := by omega
        subst this
        exact eLess_irr hm _
      have HCC := Lib.hid hcc
      clear hcc
      have hl9 := fun w' (hb : Below wr.heap.size wr w') => frLess hm (HI.out.1.keep hb) (i := j) (j := i) (by rw [HI.out.2.1]; omega) (by rw [HI.out.2.1]; omega)
      cases hlt : eLess m (fs.getD (j) (0, 0)) (fs.getD i (0, 0))
      · rw [hlt] at hl9
        have HL9 := Lib.hid hl9
        have HLT := Lib.hid hlt
        clear hl9 hlt
        go_wp2_with (first | (with_reducible refine (HL9.out _ (Below.refl _ _)).mono ?_; rintro e w9 ⟨rfl, hb9⟩))
        go_ret
        obtain ⟨i1, i2, i3, i4, i5⟩ := HI.out
        refine ⟨⟨_, rfl⟩, ⟨fs, i1.keep (hb9), i2, down_end i3 (fun k hk hkn hki => ?_), i4⟩, i5.trans (ChaT.of_below (hb9))⟩
        exact (eLess_ord hm).trans _ _ _ HLT.out (HCC.out k hk hkn hki)
      · rw [hlt] at hl9
        have HL9 := Lib.hid hl9
        have HLT := Lib.hid hlt
        have hsw := fun w' (hb : Below wr.heap.size wr w') => frSwap (HI.out.1.keep hb) (i := i) (j := j) (by rw [HI.out.2.1]; omega) (by rw [HI.out.2.1]; omega)
        have HSW := Lib.hid hsw
        clear hl9 hlt hsw
        go_wp2_with (first | (with_reducible refine (HL9.out _ (Below.refl _ _)).mono ?_; rintro e w9 ⟨rfl, hb9⟩) | (with_reducible refine (HSW.out _ (hb9)).mono ?_; rintro e w8 ⟨rfl, hf8, hc8⟩; have H8 := Lib.hid (And.intro hf8 (And.intro hc8 (hb9))); clear hf8 hc8))
        go_roundw
        case rel =>
          have hrel2 : Hid (Fro w8 base B c0 c1 c2 c3 c4 c5 c6 (opsV m) ev (lsw fs i (j)) ∧ (lsw fs i (j)).length = n + 1 ∧ HeapDown (eLess m) n (fun k => (lsw fs i (j)).getD k (0, 0)) (j) ∧ ((lsw fs i (j)).getD n (0, 0) = es.getD n (0, 0) ∧ ∀ x, inB n (lsw fs i (j)) x ↔ inB n es x) ∧ ChaT AF base w w8) := Lib.hid (by
            obtain ⟨i1, i2, i3, ⟨i4, i6⟩, i5⟩ := HI.out
            refine ⟨H8.out.1, by rw [lsw_len]; exact i2, hDown_lsw hm (by omega) i3 (by omega) (by omega) (by omega) HCC.out HLT.out, ⟨?_, fun x => ?_⟩, (i5.trans (ChaT.of_below H8.out.2.2)).trans H8.out.2.1⟩
            · rw [lsw_get (by omega) (by omega), swp_o _ (by omega) (by omega)]; exact i4
            · exact (inB_lsw (by omega) (by omega) (by omega) x).trans (i6 x))
          first | exact ⟨j, lsw fs i (j), by omega, by go_num, hrel2⟩ | ((repeat apply Exists.intro); exact ⟨⟨j, lsw fs i (j), by omega, by go_num, hrel2⟩, rfl⟩)
        case measure => simp [intOf]; omega
end Go.Proofs.Ytlmhccjppmhdbaa
