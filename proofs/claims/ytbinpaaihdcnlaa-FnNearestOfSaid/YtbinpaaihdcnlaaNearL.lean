/- Mathematics of the nearest sources. -/
import Derived.Test.YtbinpaaihdcnlaaDerQ
import Derived.Test.YtbinpaaihdcnlaaEndV
import Derived.BigQuiet
namespace Go.Proofs.Ytbinpaaihdcnlaa
open Go.RowKit Go.BigFrame Go.Deep
set_option linter.unusedVariables false
set_option linter.unusedSimpArgs false
set_option linter.unnecessarySimpa false

theorem nr_noneN {m v : Int} (h : mIn m v = true) (hb : mBet m v (mNone m) = false) : v = mNone m := by
  unfold mIn mBet at *
  split at h <;> simp_all <;> omega
theorem nr_trans {m a b c : Int} (h : mBet m a b = true) (h2 : mBet m b c = true) : mBet m a c = true := by
  unfold mBet at *
  split at h <;> simp_all <;> omega
theorem nr_self {m a : Int} : mBet m a a = false := by unfold mBet; split <;> simp
theorem nr_fold (m : Int) (es : List Ed) (N i : Nat) : ∀ (ss : List Int) (p : Int × Int), mBet m p.1 (ss.foldl (nrS m es N i) p).1 = false
  | [], p => nr_self
  | x :: r, p => by
    have ih := nr_fold m es N i r (nrS m es N i p x)
    rw [List.foldl_cons]
    generalize (r.foldl (nrS m es N i) (nrS m es N i p x)).1 = z at ih ⊢
    unfold nrS at ih
    split at ih
    · rename_i h
      cases hq : mBet m p.1 z with
      | false => rfl
      | true => rw [nr_trans h hq] at ih; exact absurd ih (by decide)
    · exact ih
theorem nr_le (m : Int) (es : List Ed) (N i : Nat) (x : Int) (r : List Int) : mBet m (nrAt m es N i [x]).1 (nrAt m es N i (x :: r)).1 = false := nr_fold m es N i r (nrS m es N i (mNone m, -1) x)
theorem nr_one {m : Int} {es : List Ed} {N i : Nat} {x : Int} (h : mIn m ((vwS m es N x).getD i 0) = true) : (nrAt m es N i [x]).1 = (vwS m es N x).getD i 0 := by
  unfold nrAt
  rw [List.foldl_cons, List.foldl_nil]
  unfold nrS
  split
  · rfl
  · rename_i hb
    exact (nr_noneN h (by simpa using hb)).symm
theorem nrV_one {m : Int} {es : List Ed} {N : Nat} {x : Int} (hm : mKind m = true) (he : eAll N es) : nrV m es N [x] = vIter m es N (vStart m N x) := by
  have hl : (vIter m es N (vStart m N x)).length = N := by rw [vIter_length, vStart_length, Int.toNat_natCast]
  have hv : vAll m (vIter m es N (vStart m N x)) := vIter_all hm (vStart_all hm) (by rw [vStart_length, Int.toNat_natCast]; exact he) N
  apply eq_of_at
  · rw [nrV_len, hl]
  · intro i hi
    rw [nrV_len] at hi
    rw [← nrV_at m es N [x] i hi]
    exact nr_one (hv i (by rw [hl]; exact hi))
/-- More sources make no value worse. -/
theorem nrV_le {m : Int} {es : List Ed} {N i : Nat} (x : Int) (r : List Int) (h : i < N) : mBet m ((nrV m es N [x]).getD i 0) ((nrV m es N (x :: r)).getD i 0) = false := by
  rw [← nrV_at m es N _ i h, ← nrV_at m es N _ i h]
  exact nr_le m es N i x r
end Go.Proofs.Ytbinpaaihdcnlaa
