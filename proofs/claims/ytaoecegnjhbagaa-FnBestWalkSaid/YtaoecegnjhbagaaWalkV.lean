/- Values of walks of few edges, against right values: mathematics. -/
import Derived.Test.YtaoecegnjhbagaaBestV
import Derived.Test.YtaoecegnjhbagaaRight
namespace Go.Proofs.Ytaoecegnjhbagaa
theorem vIter_add (m : Int) (es : List Ed) (zs : List Int) (K : Nat) : ∀ j, vIter m es (j + K) zs = vIter m es j (vIter m es K zs)
  | 0 => by rw [Nat.zero_add]; rfl
  | j + 1 => by
    rw [show j + 1 + K = (j + K) + 1 by omega]
    show vRelax m es (vIter m es (j + K) zs) = vRelax m es (vIter m es j (vIter m es K zs))
    rw [vIter_add m es zs K j]
theorem walk_more {m : Int} {es : List Ed} {N A T : Nat} (hm : mKind m = true) (he : eAll N es) (hT : T < N) (K j : Nat) :
    mBet m ((vIter m es K (vStart m N A)).getD T 0) ((vIter m es (j + K) (vStart m N A)).getD T 0) = false := by
  have hl : (vStart m (N : Int) (A : Int)).length = N := by rw [vStart_length]; omega
  have hl2 : (vIter m es K (vStart m (N : Int) (A : Int))).length = N := by rw [vIter_length, hl]
  rw [vIter_add]
  exact vIter_le hm (vIter_all hm (vStart_all hm) (by rw [hl]; exact he) K) (by rw [hl2]; exact he) (by omega) j
theorem walk_low {m : Int} {es : List Ed} {N A T : Nat} (hm : mKind m = true) (he : eAll N es) (hA : A < N) (hT : T < N) (K : Nat) :
    mBet m ((vIter m es K (vStart m N A)).getD T 0) ((vRt m N es A).getD T 0) = false := by
  unfold vRt
  rw [show ((N : Int)).toNat = N by omega]
  by_cases h : K ≤ N
  · have := walk_more (A := A) hm he hT K (N - K)
    rwa [show N - K + K = N by omega] at this
  · have h2 := vIter_stop m es (vStart m N A) N (vEnd (k := N) hm (by simpa using he) (by omega) (by omega) (by omega)) (K - N)
    rw [show N + (K - N) = K by omega] at h2
    rw [h2]
    exact le_refl' hm
end Go.Proofs.Ytaoecegnjhbagaa
