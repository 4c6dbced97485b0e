/- FairRounds: in the model. -/
import Derived.Test.YtnomlefjldfgiaaFair
namespace Go.Proofs.Ytnomlefjldfgiaa
open Go.RowKit Go.BigFrame Go.Deep
set_option linter.unusedVariables false
set_option linter.unusedSimpArgs false

/-- Inside a fair round that began at k with r rounds done: at j, so many are missing. -/
structure FrI (E r : Nat) (os : List Int) (k j L : Nat) (bs : List Bool) : Prop where
  len : bs.length = E
  hL : L ≤ E
  kj : k ≤ j
  zero : L = 0 → fr E (os.take j) = frNew E (r + 1)
  pos : 0 < L → fr E (os.take j) = ⟨r, bs, L⟩
  first : j = k → L = E
section
variable {E r k j L X : Nat} {os : List Int} {bs : List Bool}
theorem FrI.start (h : fr E (os.take k) = frNew E r) (hE : 0 < E) : FrI E r os k k E (List.replicate E false) :=
  ⟨by simp, Nat.le_refl _, Nat.le_refl _, fun h0 => by omega, fun _ => h, fun _ => rfl⟩
theorem FrI.seen (h : FrI E r os k j L bs) (h0 : 0 < L) (hj : j < os.length) (hx : os.getD j 0 = (X : Int)) (hb : bs.getD X true = true) : FrI E r os k (j + 1) L bs := by
  refine ⟨h.len, h.hL, by have := h.kj; omega, fun e => by omega, fun _ => ?_, fun e => by have := h.kj; omega⟩
  rw [fr_succ E os hj, h.pos h0, hx]
  unfold frStep
  rw [Int.toNat_natCast]
  exact if_pos hb
theorem FrI.mark (h : FrI E r os k j L bs) (h0 : 0 < L) (hj : j < os.length) (hx : os.getD j 0 = (X : Int)) (hb : bs.getD X true = false) : FrI E r os k (j + 1) (L - 1) (bs.set X true) := by
  have hst := fr_succ E os hj
  rw [h.pos h0, hx] at hst
  unfold frStep at hst
  rw [Int.toNat_natCast] at hst
  simp only at hst
  rw [hb, if_neg (by decide)] at hst
  refine ⟨by simp [h.len], by have := h.hL; omega, by have := h.kj; omega, fun e => ?_, fun e => ?_, fun e => by have := h.kj; omega⟩
  · rw [if_pos (by omega)] at hst; exact hst
  · rw [if_neg (by omega)] at hst; exact hst
end

set_option maxRecDepth 20000 in
set_option maxHeartbeats 8000000 in
theorem sFairRounds (n : Int) (es : List Ed) (os : List Int) (s t : Value) (w : World) (hs : RowE w s es) (ht : Row w t os) (hl : es.length ≤ 281474976710656) (hl2 : os.length ≤ 281474976710656) :
    Calls Try.prog 7 #[.agg #[.int .i64 n, s], t] w fun e w' => e = .returned (.tuple #[.int .i64 (frN n es os : Nat), .bool (frB n es os)]) ∧ Below w.heap.size w w' := by
  have hv := fun w' (h : Below w.heap.size w w') => sGraphValid n es s w' (hs.keep h) hl
  obtain ⟨ad, cap, rfl, hz0⟩ := hs
  have ho := fun w' (h : Below w.heap.size w w') => l5Order n es os ad cap t w' (ht.keep h) hl hl2
  have hT := Lib.hid ht
  obtain ⟨ta, tc, rfl, hy0⟩ := ht
  have HY := Lib.hid hy0
  have K0 := Lib.hid (And.intro ((Below.refl _ w).alloc (Nat.le_refl _) (.cells #[.int .i64 n, .slice ad es.length cap] 25)) (Box.new w 25 #[.int .i64 n, .slice ad es.length cap]))
  clear hz0 hy0
  unfold frN frB
  cases hG : gVal n es
  · rw [hG] at hv
    have HV := Lib.hid hv
    rw [Bool.false_and, if_neg (by decide)]
    clear hv hG ho
    go_enter Try.func7, Try.ntmps7
    go_wp2_with fail
    generalize (w.alloc (.cells #[.int .i64 n, .slice ad es.length cap] 25)) = w0 at K0 ⊢
    have x0 : w0.cell? ⟨w.heap.size, 0, none⟩ = some (.int .i64 n) := (by simpa using K0.out.2.cell 0)
    have x1 : w0.cell? ⟨w.heap.size, 1, none⟩ = some (.slice ad es.length cap) := (by simpa using K0.out.2.cell 1)
    go_wp2_with (first | (go_at_call 16; (with_reducible refine (HV.out _ K0.out.1).mono ?_); rintro e w1 ⟨rfl, hb1⟩; have K1 := Lib.hid (And.intro (bel_trans K0.out.1 hb1) (K0.out.2.keep hb1)); clear x0 x1 hb1; have x0 : w1.cell? ⟨w.heap.size, 0, none⟩ = some (.int .i64 n) := (by simpa using K1.out.2.cell 0); have x1 : w1.cell? ⟨w.heap.size, 1, none⟩ = some (.slice ad es.length cap) := (by simpa using K1.out.2.cell 1)))
    go_ret2
    exact ⟨rfl, K1.out.1⟩
  rw [hG] at hv
  have HV := Lib.hid hv
  rw [Bool.true_and]
  cases hO : oOk es.length os
  · rw [hO] at ho
    have HO := Lib.hid ho
    rw [if_neg (by decide)]
    clear hv hG ho hO
    go_enter Try.func7, Try.ntmps7
    go_wp2_with fail
    generalize (w.alloc (.cells #[.int .i64 n, .slice ad es.length cap] 25)) = w0 at K0 ⊢
    have x0 : w0.cell? ⟨w.heap.size, 0, none⟩ = some (.int .i64 n) := (by simpa using K0.out.2.cell 0)
    have x1 : w0.cell? ⟨w.heap.size, 1, none⟩ = some (.slice ad es.length cap) := (by simpa using K0.out.2.cell 1)
    go_wp2_with (first | (go_at_call 16; (with_reducible refine (HV.out _ K0.out.1).mono ?_); rintro e w1 ⟨rfl, hb1⟩; have K1 := Lib.hid (And.intro (bel_trans K0.out.1 hb1) (K0.out.2.keep hb1)); clear x0 x1 hb1; have x0 : w1.cell? ⟨w.heap.size, 0, none⟩ = some (.int .i64 n) := (by simpa using K1.out.2.cell 0); have x1 : w1.cell? ⟨w.heap.size, 1, none⟩ = some (.slice ad es.length cap) := (by simpa using K1.out.2.cell 1)) | (go_at_call 17; (with_reducible refine (HO.out _ K1.out.1).mono ?_); rintro e w2 ⟨rfl, hb2⟩; have K2 := Lib.hid (And.intro (bel_trans K1.out.1 hb2) (K1.out.2.keep hb2)); clear x0 x1 hb2; have x0 : w2.cell? ⟨w.heap.size, 0, none⟩ = some (.int .i64 n) := (by simpa using K2.out.2.cell 0); have x1 : w2.cell? ⟨w.heap.size, 1, none⟩ = some (.slice ad es.length cap) := (by simpa using K2.out.2.cell 1)))
    go_ret2
    exact ⟨rfl, K2.out.1⟩
  rw [hO] at ho
  have HO := Lib.hid ho
  rw [if_pos rfl]
  have HE40 : Hid (es.length ≤ 40) := Lib.hid (by have := (gVal_n hG).2.2; omega)
  have HOK := Lib.hid hO
  clear hv hG ho hO
  go_enter Try.func7, Try.ntmps7
  go_wp2_with fail
  generalize (w.alloc (.cells #[.int .i64 n, .slice ad es.length cap] 25)) = w0 at K0 ⊢
  have x0 : w0.cell? ⟨w.heap.size, 0, none⟩ = some (.int .i64 n) := (by simpa using K0.out.2.cell 0)
  have x1 : w0.cell? ⟨w.heap.size, 1, none⟩ = some (.slice ad es.length cap) := (by simpa using K0.out.2.cell 1)
  go_wp2_with (first | (go_at_call 16; (with_reducible refine (HV.out _ K0.out.1).mono ?_); rintro e w1 ⟨rfl, hb1⟩; have K1 := Lib.hid (And.intro (bel_trans K0.out.1 hb1) (K0.out.2.keep hb1)); clear x0 x1 hb1; have x0 : w1.cell? ⟨w.heap.size, 0, none⟩ = some (.int .i64 n) := (by simpa using K1.out.2.cell 0); have x1 : w1.cell? ⟨w.heap.size, 1, none⟩ = some (.slice ad es.length cap) := (by simpa using K1.out.2.cell 1)) | (go_at_call 17; (with_reducible refine (HO.out _ K1.out.1).mono ?_); rintro e w2 ⟨rfl, hb2⟩; have K2 := Lib.hid (And.intro (bel_trans K1.out.1 hb2) (K1.out.2.keep hb2)); clear x0 x1 hb2; have x0 : w2.cell? ⟨w.heap.size, 0, none⟩ = some (.int .i64 n) := (by simpa using K2.out.2.cell 0); have x1 : w2.cell? ⟨w.heap.size, 1, none⟩ = some (.slice ad es.length cap) := (by simpa using K2.out.2.cell 1)))
  clear x0 x1
  go_loopw [7, 6] (fun c r wr => ∃ k : Nat, k ≤ os.length ∧ c = .int .i64 k ∧ r = .int .i64 ((fr es.length (os.take k)).n : Nat) ∧ Hid (k < os.length → fr es.length (os.take k) = frNew es.length (fr es.length (os.take k)).n) ∧ Hid (Below w.heap.size w wr ∧ Box wr w.heap.size 25 #[.int .i64 n, .slice ad es.length cap])) (fun c _ _ => os.length - (intOf c).toNat)
  case atStart => exact ⟨0, Nat.zero_le _, rfl, rfl, Lib.hid (fun _ => rfl), K2⟩
  case round =>
    obtain ⟨k, hk, rfl, rfl, HF, K⟩ := hrel
    have x1 : wr.cell? ⟨w.heap.size, 1, none⟩ = some (.slice ad es.length cap) := by simpa using K.out.2.cell 1
    have hz : w.heap.size < wr.heap.size := K.out.2.lt
    by_cases hlt : k < os.length
    · have hlt' : (k : Int) < os.length := by omega
      rcases HY.out with h00 | ⟨tb, tq, rfl, htb, htc⟩
      · rw [h00] at hlt; simp at hlt
      have HTB := Lib.hid (And.intro htb htc)
      have hin := oOk_at HOK.out hlt
      unfold oIn at hin
      rw [Bool.and_eq_true, decide_eq_true_eq, decide_eq_true_eq] at hin
      have hE0 : 0 < es.length := by omega
      have hE40 := HE40.out
      have h500 := oOk_len HOK.out
      have hrk := fr_n es.length os k hk
      have hfr := HF.out hlt
      obtain ⟨r, hr⟩ : ∃ r, r = (fr es.length (os.take k)).n := ⟨_, rfl⟩
      rw [← hr] at hfr hrk ⊢
      have hr5 : r ≤ 500 := by omega
      have hE0' : ¬ ((es.length : Int) < 0) := by omega
      have HB := Lib.hid (FrI.start hfr hE0)
      have hmk := run_make_row' (P := Try.prog) 44 4 (.bool false) 1 Try.underlying44 info_boolR rfl .i64 .i64 es.length (by omega) (by omega)
      obtain ⟨S, hS⟩ : ∃ S, S = wr.heap.size := ⟨_, rfl⟩
      have hq0 : Hid (BQ (wr.alloc (.cells (madeCells #[.bool false] es.length) 4)) S (List.replicate es.length false) ∧ Below w.heap.size w (wr.alloc (.cells (madeCells #[.bool false] es.length) 4)) ∧ Box (wr.alloc (.cells (madeCells #[.bool false] es.length) 4)) w.heap.size 25 #[.int .i64 n, .slice ad es.length cap]) := Lib.hid ⟨by rw [hS]; exact BQ.made wr _, K.out.1.alloc K.out.1.size _, K.out.2.alloc _⟩
      have HS : Hid (S = wr.heap.size) := Lib.hid hS
      have HZ : Hid (w.heap.size < S) := Lib.hid (by rw [hS]; exact hz)
      have HR := Lib.hid hr
      clear hin htb htc hfr hr hS HF
      go_wp2
      try rw [← HS.out]
      generalize (wr.alloc (.cells (madeCells #[.bool false] es.length) 4)) = W3 at hq0 ⊢
      clear hmk x1 hz
      go_loopw [7, 9] (fun c l wx => ∃ (j L : Nat) (bs : List Bool), j ≤ os.length ∧ c = .int .i64 j ∧ l = .int .i64 L ∧ Hid (FrI es.length r os k j L bs) ∧ Hid (BQ wx S bs ∧ Below w.heap.size w wx ∧ Box wx w.heap.size 25 #[.int .i64 n, .slice ad es.length cap])) (fun c _ _ => os.length - (intOf c).toNat)
      case atStart => exact ⟨k, es.length, _, hk, rfl, rfl, HB, hq0⟩
      case round =>
        obtain ⟨j, L, bs, hj, rfl, rfl, HI, HX⟩ := hrel
        clear HB hq0
        have hLE := HI.out.hL
        by_cases hL : 0 < L
        · have hLi : (0 : Int) < (L : Int) := by omega
          by_cases hjl : j < os.length
          · have hjl' : (j : Int) < os.length := by omega
            have hin := oOk_at HOK.out hjl
            unfold oIn at hin
            rw [Bool.and_eq_true, decide_eq_true_eq, decide_eq_true_eq] at hin
            have hcx := (HX.out.2.1.cell (p := ⟨tb, tq + j, none⟩) HTB.out.1).trans (HTB.out.2 j hjl)
            obtain ⟨x, hx⟩ : ∃ x, x = os.getD j 0 := ⟨_, rfl⟩
            rw [← hx] at hin hcx
            obtain ⟨X, rfl⟩ : ∃ X : Nat, x = X := ⟨x.toNat, by omega⟩
            have hX : X < es.length := by omega
            have hX' : (X : Int) < es.length := by omega
            have hcb := HX.out.1.cell (i := X) (by rw [HI.out.len]; exact hX)
            have hfb := hcb.2
            replace hcb := hcb.1
            have HXE := Lib.hid hx.symm
            clear hx hin
            cases hb : bs.getD X true
            · rw [hb] at hcb
              have HN := Lib.hid (HI.out.mark hL hjl HXE.out hb)
              have HNX : Hid (BQ (wr.setCell ⟨S, X, none⟩ (.bool true)) S (bs.set X true) ∧ Below w.heap.size w (wr.setCell ⟨S, X, none⟩ (.bool true)) ∧ Box (wr.setCell ⟨S, X, none⟩ (.bool true)) w.heap.size 25 #[.int .i64 n, .slice ad es.length cap]) := Lib.hid ⟨HX.out.1.set (by rw [HI.out.len]; exact hX), HX.out.2.1.setCell (Nat.le_of_lt HZ.out) _, HX.out.2.2.setOther (by have := HZ.out; omega) X _⟩
              have hwl : IntKind.i64.wrap ((L : Int) - 1) = (L : Int) - 1 := by rw [IntKind.wrap_i64]; omega
              clear hb
              go_wp2
              go_roundw
              case rel => first | exact ⟨j + 1, L - 1, _, by omega, by go_num, by go_num, HN, HNX⟩ | ((repeat apply Exists.intro); exact ⟨⟨j + 1, L - 1, _, by omega, by go_num, by go_num, HN, HNX⟩, rfl⟩)
              case measure => simp [intOf]; omega
            · rw [hb] at hcb
              have HN := Lib.hid (HI.out.seen hL hjl HXE.out hb)
              clear hb
              go_wp2
              go_roundw
              case rel => first | exact ⟨j + 1, L, _, by omega, by go_num, rfl, HN, HX⟩ | ((repeat apply Exists.intro); exact ⟨⟨j + 1, L, _, by omega, by go_num, rfl, HN, HX⟩, rfl⟩)
              case measure => simp [intOf]; omega
          · have hjl' : ¬ ((j : Int) < os.length) := by omega
            have hje : j = os.length := by omega
            have hL0 : ¬ ((L : Int) = 0) := by omega
            have hL1 : ((L : Int) == 0) = false := by simp; omega
            have HN : Hid ((fr es.length (os.take j)).n = r ∧ k < j) := Lib.hid ⟨by rw [HI.out.pos hL], by omega⟩
            clear hje
            go_wp2
            go_roundw
            case rel => first | exact ⟨j, hj, rfl, by rw [HN.out.1], Lib.hid (fun q => by omega), Lib.hid HX.out.2⟩ | ((repeat apply Exists.intro); exact ⟨⟨j, hj, rfl, by rw [HN.out.1], Lib.hid (fun q => by omega), Lib.hid HX.out.2⟩, rfl⟩)
            case measure => have := HN.out.2; simp [intOf]; omega
        · have hL0 : L = 0 := by omega
          subst hL0
          have HN : Hid (fr es.length (os.take j) = frNew es.length (r + 1) ∧ k < j) := Lib.hid ⟨HI.out.zero rfl, by
            have h1 := HI.out.kj
            have h2 := HI.out.first
            by_cases e : j = k
            · have := h2 e; omega
            · omega⟩
          have hwr : IntKind.i64.wrap ((r : Int) + 1) = (r : Int) + 1 := by rw [IntKind.wrap_i64]; omega
          by_cases hjl : j < os.length
          · have hjl' : (j : Int) < os.length := by omega
            go_wp2
            go_roundw
            case rel => first | exact ⟨j, hj, rfl, by rw [HN.out.1]; rfl, Lib.hid (fun q => by rw [HN.out.1]; rfl), Lib.hid HX.out.2⟩ | ((repeat apply Exists.intro); exact ⟨⟨j, hj, rfl, by rw [HN.out.1]; rfl, Lib.hid (fun q => by rw [HN.out.1]; rfl), Lib.hid HX.out.2⟩, rfl⟩)
            case measure => have := HN.out.2; simp [intOf]; omega
          · have hjl' : ¬ ((j : Int) < os.length) := by omega
            go_wp2
            go_roundw
            case rel => first | exact ⟨j, hj, rfl, by rw [HN.out.1]; rfl, Lib.hid (fun q => by rw [HN.out.1]; rfl), Lib.hid HX.out.2⟩ | ((repeat apply Exists.intro); exact ⟨⟨j, hj, rfl, by rw [HN.out.1]; rfl, Lib.hid (fun q => by rw [HN.out.1]; rfl), Lib.hid HX.out.2⟩, rfl⟩)
            case measure => have := HN.out.2; simp [intOf]; omega
    · have hkk : ¬ ((k : Int) < os.length) := by omega
      have hke : k = os.length := by omega
      have HR : Hid ((fr es.length (os.take k)).n = (fr es.length os).n) := Lib.hid (by rw [hke, List.take_length])
      clear hke
      go_wp2
      go_ret2
      refine ⟨?_, K.out.1⟩
      rw [← HR.out]
      first | rfl | (go_simp; done) | (simp; done)
end Go.Proofs.Ytnomlefjldfgiaa
