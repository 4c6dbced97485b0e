/- A round of relaxing: in the program. -/
import Derived.Test.YtgfipdompmkjiaaClone
import Derived.Test.YtgfipdompmkjiaaBetter
import Derived.Deep.RegionHeld3
namespace Go.Proofs.Ytgfipdompmkjiaa
open Go.RowKit Go.BigFrame Go.Deep
set_option linter.unusedVariables false
set_option linter.unusedSimpArgs false

/-- The values so far, when k edges are done. -/
def vMid (m : Int) (es : List Ed) (zs : List Int) (k : Nat) : List Int := (es.take k).foldl (vUp m zs) zs
theorem vMid_len (m : Int) (es : List Ed) (zs : List Int) (k : Nat) : (vMid m es zs k).length = zs.length := vFold_length m zs _ zs
theorem vMid_all (m : Int) (es : List Ed) (zs : List Int) : vMid m es zs es.length = vRelax m es zs := by unfold vMid vRelax; rw [List.take_length]
theorem vMid_succ (m : Int) (es : List Ed) (zs : List Int) {k X Y : Nat} {z : Int} (hk : k < es.length) (he : ((X : Int), (Y : Int), z) = es.getD k (0, 0, 0)) :
    vMid m es zs (k + 1) = (vMid m es zs k).set Y (mBest m ((vMid m es zs k).getD Y 0) (vGive m zs ((X : Int), (Y : Int), z))) := by
  unfold vMid
  rw [vFold_snoc m zs zs es k hk, ← he]
  unfold vUp
  simp only [Int.toNat_natCast]

end Go.Proofs.Ytgfipdompmkjiaa
