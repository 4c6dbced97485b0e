/- Faults and better paths: mathematics. -/
import Derived.Test.YtjcfefpcilhelaaFault
import Derived.Test.YtjcfefpcilhelaaBPath
import Derived.Test.YtjcfefpcilhelaaSetP
import Derived.Test.YtjcfefpcilhelaaEndV
namespace Go.Proofs.Ytjcfefpcilhelaa
open Go.RowKit
set_option linter.unusedVariables false
set_option linter.unusedSimpArgs false

/-- There is a better path exactly where the right value is better. -/
theorem bp_better {m : Int} {N a X : Nat} {es : List Ed} {zs : List Int} (hm : mKind m = true) (hV : vVal N es m a zs = true) (hg : gVal N es = true) (he : eAll N es) (hva : vAll m zs) (hl : zs.length = N) (ha : a < N) (hN : N ≤ 12) (hX : X < N) : bpT N es m a zs X = mBet m ((vRt m N es a).getD X 0) (zs.getD X 0) := by
  have hb := (bf_full hm he ha).vals
  unfold bpT bpB
  have e : inN N X = true := by unfold inN; rw [decide_eq_true (by omega), decide_eq_true (by omega)]; rfl
  rw [hV, e, Int.toNat_natCast, Int.toNat_natCast, Int.toNat_natCast, hb, Bool.and_self, Bool.true_and]
  cases h : mBet m ((vRt m N es a).getD X 0) (zs.getD X 0) with
  | false => rfl
  | true => rw [bp_reach hm hg he ha hN hX (bet_ne_none (hva X (by omega)) h)]; rfl
theorem fault_better {m : Int} {N a X : Nat} {es : List Ed} {zs : List Int} (hm : mKind m = true) (he : eAll N es) (hva : vAll m zs) (hl : zs.length = N) (hX : X < N) : bBet m ((vRt m N es a).getD X 0) (zs.getD X 0) = mBet m ((vRt m N es a).getD X 0) (zs.getD X 0) := by
  unfold bBet
  rw [bTwo_mk hm (vRt_in (n := N) hm (by rw [Int.toNat_natCast]; exact he) a (by rw [Int.toNat_natCast]; exact hX)) (hva X (by omega)), Bool.true_and]
end Go.Proofs.Ytjcfefpcilhelaa
