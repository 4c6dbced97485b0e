/- Edges relaxed one by one: in the program. Edges relaxed one by one: in the model. -/
import Derived.Test.YtdblcaeeepkebaaRelaxJ
import Derived.Test.YtdblcaeeepkebaaEndV
import Derived.Test.YtdblcaeeepkebaaVValS
import Derived.Deep.RegionHeld3
import Derived.Test.YtdblcaeeepkebaaRelaxT
namespace Go.Proofs.Ytdblcaeeepkebaa
open Go.RowKit Go.BigFrame Go.Deep
set_option linter.unusedVariables false
set_option linter.unusedSimpArgs false

/-- Is it an order: in the program. -/
theorem orderValid (n : Int) (es : List Ed) (os : List Int) (a : Option Addr) (cap : Nat) (t : Value) (w : World) (ht : Row w t os) (hl : es.length ≤ 281474976710656) (hl2 : os.length ≤ 281474976710656) :
    Calls Try.prog 82 #[.agg #[.int .i64 n, .slice a es.length cap], t] w fun e w' => e = .returned (.bool (oOk es.length os)) ∧ Below w.heap.size w w' := by
  obtain ⟨a2, cap2, rfl, hz0⟩ := ht
  have hz := Lib.hid hz0
  clear hz0
  obtain ⟨R, hR⟩ : ∃ R, R = oOk es.length os := ⟨_, rfl⟩
  rw [← hR]
  have HR := Lib.hid hR
  clear hR
  by_cases h5 : 500 < os.length
  · have h5' : (500 : Int) < os.length := by omega
    go_enter Try.func82, Try.ntmps82
    go_wp2
    go_ret
    exact ⟨by rw [HR.out]; unfold oOk; rw [decide_eq_false (by omega)]; rfl, (Below.refl _ _).alloc (Nat.le_refl _) _⟩
  have h5' : ¬ ((500 : Int) < os.length) := by omega
  have H5 := Lib.hid h5
  clear h5
  go_enter Try.func82, Try.ntmps82
  go_wp2
  go_loop [12] (fun c => ∃ k : Nat, k ≤ os.length ∧ c = .int .i64 k ∧ ∀ i, i < k → oIn es.length (os.getD i 0) = true) (fun c => os.length - (intOf c).toNat)
  case atStart => exact ⟨0, Nat.zero_le _, rfl, fun i hi => absurd hi (Nat.not_lt_zero _)⟩
  case round =>
    obtain ⟨k, hk, rfl, hall⟩ := hrel
    have HA := Lib.hid hall
    clear hall
    by_cases hlt : k < os.length
    · have hlt' : (k : Int) < os.length := by omega
      rcases hz.out with h0 | ⟨b, off, rfl, hb, hc⟩
      · rw [h0] at hlt; simp at hlt
      obtain ⟨x, hx⟩ : ∃ x, x = os.getD k 0 := ⟨_, rfl⟩
      have h1 := hc k hlt
      rw [← hx] at h1
      have h2 : (w.alloc (.cells #[.int .i64 n, .slice a es.length cap] 31)).cell? ⟨b, off + k, none⟩ = some (.int .i64 x) := (((Below.refl _ w).alloc (Nat.le_refl _) _).cell (p := ⟨b, _, none⟩) hb).trans h1
      have HX := Lib.hid hx
      clear hc h1 hx
      by_cases hx0 : x < 0
      · have d0 : decide (x < 0) = true := by simpa using hx0
        go_wp2
        go_ret
        refine ⟨?_, (Below.refl _ _).alloc (Nat.le_refl _) _⟩
        rw [HR.out]
        refine congrArg (fun b => Ending.returned (.bool b)) ?_
        cases h : oOk es.length os with
        | false => rfl
        | true =>
          have h3 := oOk_at h (k := k) (by omega)
          rw [← HX.out] at h3
          simp [oIn] at h3
          omega
      · have d0 : decide (x < 0) = false := by simpa using hx0
        by_cases hx1 : x < es.length
        · have d1 : decide ((es.length : Int) ≤ x) = false := by simp; omega
          have hn : Hid (∀ i, i < k + 1 → oIn es.length (os.getD i 0) = true) := Lib.hid (fun i hi => by
            by_cases h : i = k
            · subst h
              rw [← HX.out]
              simp [oIn]
              omega
            · exact HA.out i (by omega))
          go_wp2
          go_round
          case rel => exact ⟨k + 1, by omega, by go_num, hn.out⟩
          case measure => simp [intOf]; omega
        · have d1 : decide ((es.length : Int) ≤ x) = true := by simp; omega
          go_wp2
          go_ret
          refine ⟨?_, (Below.refl _ _).alloc (Nat.le_refl _) _⟩
          rw [HR.out]
          refine congrArg (fun b => Ending.returned (.bool b)) ?_
          cases h : oOk es.length os with
          | false => rfl
          | true =>
            have h3 := oOk_at h (k := k) (by omega)
            rw [← HX.out] at h3
            simp [oIn] at h3
            omega
    · have hke : k = os.length := by omega
      have hkk : ¬ ((k : Int) < os.length) := by omega
      have HK := Lib.hid hke
      clear hke
      go_wp2
      go_ret
      refine ⟨?_, (Below.refl _ _).alloc (Nat.le_refl _) _⟩
      rw [HR.out]
      refine congrArg (fun b => Ending.returned (.bool b)) ?_
      symm
      unfold oOk
      rw [decide_eq_true (by have := H5.out; omega), Bool.true_and, List.all_eq_true]
      intro x hx
      obtain ⟨i, hi, rfl⟩ := List.getElem_of_mem hx
      have := HA.out i (by rw [HK.out]; exact hi)
      simpa [List.getD, hi] using this
end Go.Proofs.Ytdblcaeeepkebaa
namespace Go.Proofs.Ytdblcaeeepkebaa
open Go.RowKit Go.BigFrame Go.Deep
set_option linter.unusedVariables false
set_option linter.unusedSimpArgs false

theorem Wr.chg {w w' : World} {b off lo hi : Nat} {zs : List Int} (h : Wr w b off zs) (c : Chg lo hi w w') (d : b < lo ∨ hi ≤ b) : Wr w' b off zs :=
  ⟨Nat.lt_of_lt_of_le h.1 c.size, fun i hi => ⟨(c.cell (p := ⟨b, _, none⟩) h.1 d).trans (h.2 i hi).1, (c.frozen (p := ⟨b, _, none⟩) h.1 d).trans (h.2 i hi).2⟩⟩

/-- Is it an order: in the model. -/
theorem l5Order (n : Int) (es : List Ed) (os : List Int) (a : Option Addr) (cap : Nat) (t : Value) (w : World) (ht : Row w t os) (hl : es.length ≤ 281474976710656) (hl2 : os.length ≤ 281474976710656) :
    Calls Try.prog 81 #[.agg #[.int .i64 n, .slice a es.length cap], t] w fun e w' => e = .returned (.bool (oOk es.length os)) ∧ Below w.heap.size w w' := by
  obtain ⟨a2, cap2, rfl, hz0⟩ := ht
  have hz := Lib.hid hz0
  clear hz0
  obtain ⟨R, hR⟩ : ∃ R, R = oOk es.length os := ⟨_, rfl⟩
  rw [← hR]
  have HR := Lib.hid hR
  clear hR
  have hbA : Below w.heap.size w (w.alloc (.cells #[.int .i64 n, .slice a es.length cap] 31)) := (Below.refl _ _).alloc (Nat.le_refl _) _
  have hbx := Box.new w 31 #[.int .i64 n, .slice a es.length cap]
  go_enter Try.func81, Try.ntmps81
  go_wp2
  generalize (w.alloc (.cells #[.int .i64 n, .slice a es.length cap] 31)) = W1 at hbA hbx ⊢
  have HW := Lib.hid (And.intro hbA hbx)
  clear hbA hbx
  go_loopw [5] (fun c wr => ∃ k : Nat, k ≤ os.length ∧ k ≤ 501 ∧ c = .int .i64 k ∧ (∀ i, i < k → oIn es.length (os.getD i 0) = true) ∧ Hid (Below W1.heap.size W1 wr)) (fun c _ => os.length - (intOf c).toNat)
  case atStart => exact ⟨0, Nat.zero_le _, by omega, rfl, fun i hi => absurd hi (Nat.not_lt_zero _), Lib.hid (Below.refl _ _)⟩
  case round =>
    obtain ⟨k, hk, hk5, rfl, hall, HB⟩ := hrel
    have HA := Lib.hid hall
    clear hall
    by_cases hlt : k < os.length
    · have hlt' : (k : Int) < os.length := by omega
      by_cases h5 : k ≤ 500
      · have h5' : (k : Int) ≤ 500 := by omega
        rcases hz.out with h0 | ⟨b, off, rfl, hb, hc⟩
        · rw [h0] at hlt; simp at hlt
        obtain ⟨x, hx⟩ : ∃ x, x = os.getD k 0 := ⟨_, rfl⟩
        have h1 := hc k hlt
        rw [← hx] at h1
        have h2 : wr.cell? ⟨b, off + k, none⟩ = some (.int .i64 x) := ((bel_trans HW.out.1 HB.out).cell (p := ⟨b, _, none⟩) hb).trans h1
        have h3 : wr.cell? ⟨w.heap.size, 1, none⟩ = some (.slice a es.length cap) := by simpa using (HW.out.2.keep HB.out).cell 1
        have HX := Lib.hid hx
        clear hc h1 hx
        by_cases hx0 : x < 0
        · have d0 : decide (x < 0) = true := by simpa using hx0
          go_wp2
          go_quiet (fail)
          go_wp2
          go_ret
          refine ⟨?_, below_drewN0 (bel_trans HW.out.1 HB.out) _⟩
          rw [HR.out]
          refine congrArg (fun b => Ending.returned (.bool b)) ?_
          cases h : oOk es.length os with
          | false => rfl
          | true =>
            have h3 := oOk_at h (k := k) (by omega)
            rw [← HX.out] at h3
            simp [oIn] at h3
            omega
        · have d0 : decide (x < 0) = false := by simpa using hx0
          by_cases hx1 : x < es.length
          · have d1 : decide ((es.length : Int) ≤ x) = false := by simp; omega
            have hn : Hid (∀ i, i < k + 1 → oIn es.length (os.getD i 0) = true) := Lib.hid (fun i hi => by
              by_cases h : i = k
              · subst h
                rw [← HX.out]
                simp [oIn]
                omega
              · exact HA.out i (by omega))
            go_wp2
            go_quiet (fail)
            go_wp2
            go_roundw
            case rel => exact ⟨k + 1, by omega, by omega, by go_num, hn.out, Lib.hid (below_drewN0 HB.out _)⟩
            case measure => simp [intOf]; omega
          · have d1 : decide ((es.length : Int) ≤ x) = true := by simp; omega
            go_wp2
            go_quiet (fail)
            go_wp2
            go_ret
            refine ⟨?_, below_drewN0 (bel_trans HW.out.1 HB.out) _⟩
            rw [HR.out]
            refine congrArg (fun b => Ending.returned (.bool b)) ?_
            cases h : oOk es.length os with
            | false => rfl
            | true =>
              have h3 := oOk_at h (k := k) (by omega)
              rw [← HX.out] at h3
              simp [oIn] at h3
              omega
      · have h5' : ¬ (k : Int) ≤ 500 := by omega
        have h6 : ¬ (os.length : Int) ≤ 500 := by omega
        go_wp2
        go_ret
        refine ⟨?_, bel_trans HW.out.1 HB.out⟩
        rw [HR.out]
        unfold oOk
        rw [decide_eq_false (by omega)]
        first | rfl | simp
    · have hke : k = os.length := by omega
      have hkk : ¬ ((k : Int) < os.length) := by omega
      have HK := Lib.hid hke
      clear hke
      go_wp2
      go_ret
      refine ⟨?_, bel_trans HW.out.1 HB.out⟩
      rw [HR.out]
      refine congrArg (fun b => Ending.returned (.bool b)) ?_
      unfold oOk
      have h9 : os.all (oIn es.length) = true := by
        rw [List.all_eq_true]
        intro x hx
        obtain ⟨i, hi, rfl⟩ := List.getElem_of_mem hx
        have := HA.out i (by rw [HK.out]; exact hi)
        simpa [List.getD, hi] using this
      rw [h9, Bool.and_true]
      have := HK.out
      first | rfl | (apply decide_eq_decide.2; omega) | (simp; omega)
end Go.Proofs.Ytdblcaeeepkebaa
