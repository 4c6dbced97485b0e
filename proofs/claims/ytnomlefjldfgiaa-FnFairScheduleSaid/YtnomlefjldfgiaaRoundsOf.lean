/- RoundsOf: in the program and in the model. -/
import Derived.Test.YtnomlefjldfgiaaViewT
import Derived.Test.YtnomlefjldfgiaaVSame2
namespace Go.Proofs.Ytnomlefjldfgiaa
open Go.RowKit Go.BigFrame Go.Deep
set_option linter.unusedVariables false
set_option linter.unusedSimpArgs false
set_option linter.unnecessarySimpa false

/-- The number of rounds that change something. -/
def vFirst (m : Int) (es : List Ed) : Nat → List Int → Nat
  | 0, _ => 0
  | k + 1, zs => if vRelax m es zs = zs then 0 else vFirst m es k (vRelax m es zs) + 1
theorem vIter_shift (m : Int) (es : List Ed) (zs : List Int) : ∀ k, vIter m es k (vRelax m es zs) = vIter m es (k + 1) zs
  | 0 => rfl
  | k + 1 => by
    show vRelax m es (vIter m es k (vRelax m es zs)) = _
    rw [vIter_shift m es zs k]
    rfl
theorem vFirst_eq {m : Int} {es : List Ed} : ∀ (k : Nat) (zs : List Int) (r : Nat), FirstStill m es zs r → r ≤ k → vFirst m es k zs = r
  | 0, zs, r, h, hr => by unfold vFirst; omega
  | k + 1, zs, r, h, hr => by
    unfold vFirst
    by_cases e : vRelax m es zs = zs
    · rw [if_pos e]
      apply Classical.byContradiction
      intro hne
      exact h.2 0 (by omega) e
    · rw [if_neg e]
      cases r with
      | zero => exact absurd h.1 e
      | succ r =>
        rw [vFirst_eq k (vRelax m es zs) r ⟨by rw [vIter_shift, vIter_shift]; exact h.1, fun j hj => by rw [vIter_shift, vIter_shift]; exact h.2 (j + 1) (by omega)⟩ (by omega)]
theorem least {P : Nat → Prop} : ∀ n, P n → ∃ r, r ≤ n ∧ P r ∧ ∀ j, j < r → ¬ P j := by
  intro n
  induction n using Nat.strongRecOn with
  | _ n ih =>
    intro hn
    by_cases h : ∃ j, j < n ∧ P j
    · obtain ⟨j, hj, hp⟩ := h
      obtain ⟨r, h1, h2, h3⟩ := ih j hj hp
      exact ⟨r, by omega, h2, h3⟩
    · exact ⟨n, Nat.le_refl _, hn, fun j hj hp => h ⟨j, hj, hp⟩⟩
theorem first_is {m : Int} {es : List Ed} {N A : Nat} (hm : mKind m = true) (he : eAll N es) (hA : A < N) : FirstStill m es (vStart m N A) (vFirst m es N (vStart m N A)) ∧ vFirst m es N (vStart m N A) + 1 ≤ N := by
  have h0 : vIter m es (N - 1 + 1) (vStart m N A) = vIter m es (N - 1) (vStart m N A) := vEnd hm (by simpa using he) (by omega) (by simpa using hA) (by simp only [Int.toNat_natCast]; omega)
  obtain ⟨r, h1, h2, h3⟩ := least (P := fun k => vIter m es (k + 1) (vStart m N A) = vIter m es k (vStart m N A)) (N - 1) h0
  have h4 : FirstStill m es (vStart m N A) r := ⟨h2, fun j hj => h3 j hj⟩
  rw [vFirst_eq N _ r h4 (by omega)]
  exact ⟨h4, by omega⟩
def roR (n : Int) (es : List Ed) (m a : Int) : Int := if onOk n es m [a] = true then ((vFirst m es n.toNat (vStart m n a) : Nat) : Int) else 0
theorem row_one1 (w : World) (A : Obj) (a : Int) : Row ((w.alloc A).alloc (.cells #[.int .i64 a] 3)) (.slice (some ⟨w.heap.size + 1, 0, none⟩) 1 1) [a] := by
  have := row_one (w.alloc A) a 3
  simpa using this

set_option maxRecDepth 20000 in
set_option maxHeartbeats 4000000 in
theorem roundsOf (n m a : Int) (es : List Ed) (s : Value) (w : World) (hs : RowE w s es) (hl : es.length ≤ 281474976710656) :
    Calls Try.prog 11 #[.agg #[.int .i64 n, s], .int .i64 m, .int .i64 a] w fun e w' => e = .returned (.tuple #[.int .i64 (roR n es m a), .bool (onOk n es m [a])]) ∧ Below w.heap.size w w' := by
  have hB : ∀ (A B : Obj), Below w.heap.size w ((w.alloc A).alloc B) := fun A B => ((Below.refl _ _).alloc (Nat.le_refl _) _).alloc (by simp) _
  have ho := fun A => opsOn n m es [a] s _ _ (hs.keep (hB A _)) (row_one1 w A a) hl (by simp)
  have hR := Lib.hid hs
  obtain ⟨ad, cap, rfl, hz0⟩ := hs
  clear hz0
  have HB := Lib.hid hB
  unfold roR
  obtain ⟨G, hG⟩ : ∃ G, G = onOk n es m [a] := ⟨_, rfl⟩
  rw [← hG] at ho ⊢
  have HO := Lib.hid ho
  have QG := Lib.hid hG
  clear ho hB hG
  cases G
  · rw [if_neg (by decide)]
    go_enter Try.func11, Try.ntmps11
    go_wp2_with (go_at_call 18; refine (HO.out _).mono ?_; rintro e w1 ⟨rfl, hb1⟩; have y0 := hb1.cell (p := ⟨w.heap.size, 0, none⟩) (by simp <;> omega); have y1 := hb1.cell (p := ⟨w.heap.size, 1, none⟩) (by simp <;> omega))
    go_ret2
    exact ⟨rfl, bel_trans (HB.out _ _) hb1⟩
  · rw [if_pos rfl]
    have hp := onOk_parts QG.out.symm
    have hn := gVal_n hp.1
    have he := eAll_of hp.1
    have ha := hp.2.1 a (List.mem_singleton.2 rfl)
    have hm := hp.2.2
    obtain ⟨N, rfl⟩ := Int.eq_ofNat_of_zero_le (show 0 ≤ n by omega)
    obtain ⟨A, rfl⟩ := Int.eq_ofNat_of_zero_le ha.1
    rw [Int.toNat_natCast] at he ⊢
    have hst := fun w' (h : Below w.heap.size w w') => rightValues m es N A _ w' hm (hR.out.keep h) (by omega) (by omega) (by omega) he
    have hf := first_is (m := m) (es := es) (N := N) (A := A) hm he (by omega)
    have HFI := Lib.hid hf
    have e1 : opsR m true = opsV m := rfl
    rw [e1] at HO
    obtain ⟨O, hO⟩ : ∃ O, O = opsV m := ⟨_, rfl⟩
    rw [← hO] at hst HO
    have HST := Lib.hid hst
    clear hst hp hn ha e1 he hO hf
    go_enter Try.func11, Try.ntmps11
    go_wp2_with (first | (go_at_call 18; refine (HO.out _).mono ?_; rintro e w1 ⟨rfl, hb1⟩; have y0 := hb1.cell (p := ⟨w.heap.size, 0, none⟩) (by simp <;> omega); have y1 := hb1.cell (p := ⟨w.heap.size, 1, none⟩) (by simp <;> omega)) | (go_at_call 24; refine (HST.out _ (bel_trans (HB.out _ _) hb1)).mono ?_; rintro e w2 ⟨v, r, rfl, hown, hok, hrr, hb2⟩; have HR := Lib.hid hrr; clear hown hok hrr))
    go_ret2
    exact ⟨by rw [HR.out.1.eq HFI.out.1]; rfl, bel_trans (bel_trans (HB.out _ _) hb1) hb2⟩

end Go.Proofs.Ytnomlefjldfgiaa
