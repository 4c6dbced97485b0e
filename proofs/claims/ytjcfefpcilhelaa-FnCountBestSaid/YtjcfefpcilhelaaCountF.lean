/- Ways with the fewest edges: what the law asks. -/
import Derived.Test.YtjcfefpcilhelaaCountS
import Derived.Test.YtjcfefpcilhelaaReachR
import Derived.Test.YtjcfefpcilhelaaFind3
namespace Go.Proofs.Ytjcfefpcilhelaa
open Go.RowKit
set_option linter.unusedVariables false
set_option linter.unusedSimpArgs false

theorem cb_cases {N A X : Nat} {es : List Ed} (hg : gVal N es = true) (hA : A < N) (hX : X < N) :
    (ciR es X N (cStart N A) = 0 ∧ (vRt 4 N es A).getD X 0 = 0 ∧ X ≠ A) ∨ (0 < ciR es X N (cStart N A) ∧ (vRt 4 N es A).getD X 0 = 1 ∧ X ≠ A) ∨ (ciR es X N (cStart N A) = 1 ∧ (vRt 4 N es A).getD X 0 = 1 ∧ X = A) := by
  obtain ⟨g1, g2, g3, _⟩ := gVal_parts hg
  have hea : eAll N es := by have := eAll_of hg; rwa [Int.toNat_natCast] at this
  have hL := hop_rt (a := A) (by omega) (by omega) hea hA
  have hcq := count_eq (a := A) (by omega) (by omega) hea hL hX
  have hci := (cc_inv (a := A) (by omega) (by omega) hea hL (N - 1) (by omega)).2 X hX
  have hrs := rSame (m := 5) (by decide) hea hA (by omega) hX
  have hn : mNone 5 = 100000 := by decide
  rw [hn] at hrs
  have hin := mIn_low (m := 5) (by decide) (vRt_in (n := N) (by decide) (by rw [Int.toNat_natCast]; exact hea) (A : Int) (i := X) (by rw [Int.toNat_natCast]; exact hX))
  rw [hcq, hci]
  have hsrc := hL.src
  by_cases hlt : (vRt 5 N es A).getD X 0 < 100000
  · obtain ⟨h1, h2⟩ := hL.pos X hX hlt
    rw [if_pos (by omega)] at hrs
    rw [if_pos (by omega), hrs]
    by_cases e : X = A
    · subst e
      right; right
      refine ⟨?_, rfl, rfl⟩
      rw [hsrc]
      show (cStart N X).getD X 0 = 1
      rw [cStart_at hX, if_pos rfl]
    · exact .inr (.inl ⟨h2, rfl, e⟩)
  · rw [if_neg (by omega)] at hrs
    rw [if_neg (by omega), hrs]
    refine .inl ⟨rfl, rfl, fun e => ?_⟩
    subst e
    omega
theorem cbB_parts {n a x : Int} {es : List Ed} (h : cbB n es a x = true) : gVal n es = true ∧ (0 ≤ a ∧ a < n) ∧ (0 ≤ x ∧ x < n) := by
  unfold cbB inN at h
  simpa [and_assoc] using h
end Go.Proofs.Ytjcfefpcilhelaa
