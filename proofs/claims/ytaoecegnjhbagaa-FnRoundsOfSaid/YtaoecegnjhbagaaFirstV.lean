/- The number of rounds of the right view: mathematics. -/
import Derived.Test.YtaoecegnjhbagaaBestV
import Derived.Test.YtaoecegnjhbagaaRoundsOf
namespace Go.Proofs.Ytaoecegnjhbagaa
theorem first_val {m : Int} {es : List Ed} {N A : Nat} (hm : mKind m = true) (he : eAll N es) (hA : A < N) :
    vIter m es (vFirst m es N (vStart m N A)) (vStart m N A) = vRt m N es A ∧ vFirst m es N (vStart m N A) + 1 ≤ N := by
  obtain ⟨h1, h2⟩ := first_is hm he hA
  refine ⟨?_, h2⟩
  unfold vRt
  rw [show ((N : Int)).toNat = N by omega]
  exact (still_after h1.1 (by omega)).symm
end Go.Proofs.Ytaoecegnjhbagaa
