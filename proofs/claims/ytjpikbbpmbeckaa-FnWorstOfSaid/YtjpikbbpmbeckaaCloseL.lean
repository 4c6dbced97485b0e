/- Closing element by element, as the model does it, is closing row by row. -/
import Derived.Test.YtjpikbbpmbeckaaMatL
namespace Go.Proofs.Ytjpikbbpmbeckaa
set_option linter.unusedVariables false
set_option linter.unusedSimpArgs false

/-- What is extended is not better than it was. -/
theorem mBest_join {m x d : Int} (hm : mKind m = true) (hx : mIn m x = true) (hd : mIn m d = true) : mBest m x (mJoin m x d) = x := by
  have h1 := mIn_low hm hx
  have h2 := mIn_low hm hd
  rcases mKind_cases hm with rfl | rfl | rfl | rfl | rfl <;> simp [mBest, mBet, mJoin, mIn, mNone, mOne] at * <;> omega
/-- The element at its own place: the same before and behind. -/
theorem imU_self {m : Int} {row rest : List Int} {n k : Nat} (hm : mKind m = true) (hn : n < row.length) (hx : mIn m (row.getD n 0) = true) (hd : mIn m (rest.getD n 0) = true) : (imU m row (row.getD n 0) rest k).getD n 0 = row.getD n 0 := by
  rw [imU_at _ _ _ _ _ hn]
  split
  · exact mBest_join hm hx hd
  · rfl
/-- Stage n, row i, of which k elements are done. -/
def clMid (m : Int) (n : Nat) (z : List (List Int)) (i k : Nat) : List (List Int) := (clIn m n z i).set i (imU m ((clIn m n z i).getD i []) (((clIn m n z i).getD i []).getD n 0) ((clIn m n z i).getD n []) k)
theorem clMid_zero (m : Int) (n : Nat) (z : List (List Int)) (i : Nat) : clMid m n z i 0 = clIn m n z i := by
  unfold clMid
  rw [imU_zero]
  apply List.ext_getElem (by simp)
  intro j h1 h2
  by_cases e : i = j
  · subst e
    simp [List.getD, h2]
  · simp [List.getElem_set, e]
theorem clMid_last (m : Int) (n : Nat) (z : List (List Int)) {i N : Nat} (h : ((clIn m n z i).getD i []).length = N) : clMid m n z i N = clIn m n z (i + 1) := by
  unfold clMid
  rw [← h]
  rfl
/-- What the model reads and writes at one element. -/
theorem clMid_step {m : Int} {n N : Nat} {z : List (List Int)} {i k : Nat} (hm : mKind m = true) (h : Sq m N z) (hn : n < N) (hi : i < N) (hk : k < N) :
    Sq m N (clMid m n z i k) ∧ clMid m n z i (k + 1) = (clMid m n z i k).set i (((clMid m n z i k).getD i []).set k (mBest m (((clMid m n z i k).getD i []).getD k 0) (mJoin m (((clMid m n z i k).getD i []).getD n 0) (((clMid m n z i k).getD n []).getD k 0)))) := by
  have hs := clIn_sq hm h hn i (Nat.le_of_lt hi)
  obtain ⟨c, hc⟩ : ∃ c, c = clIn m n z i := ⟨_, rfl⟩
  unfold clMid
  rw [← hc] at hs ⊢
  obtain ⟨hil, hiv⟩ := hs.2 i hi
  obtain ⟨hnl, hnv⟩ := hs.2 n hn
  have hic : i < c.length := by rw [hs.1]; exact hi
  have hnc : n < c.length := by rw [hs.1]; exact hn
  have hin : ∀ j, j < N → mIn m ((imU m (c.getD i []) ((c.getD i []).getD n 0) (c.getD n []) k).getD j 0) = true := fun j hj => by
    rw [imU_at _ _ _ _ _ (by rw [hil]; exact hj)]
    split
    · exact mBest_in (hiv j hj) (mJoin_in hm (hiv n hn) (hnv j hj))
    · exact hiv j hj
  refine ⟨hs.set (by rw [imU_len, hil]) hin, ?_⟩
  have e1 : (c.set i (imU m (c.getD i []) ((c.getD i []).getD n 0) (c.getD n []) k)).getD i [] = imU m (c.getD i []) ((c.getD i []).getD n 0) (c.getD n []) k := by rw [getD_setL _ _ _ _ hic, if_pos rfl]
  have e2 : (imU m (c.getD i []) ((c.getD i []).getD n 0) (c.getD n []) k).getD n 0 = (c.getD i []).getD n 0 := imU_self hm (by rw [hil]; exact hn) (hiv n hn) (hnv n hn)
  have e3 : (imU m (c.getD i []) ((c.getD i []).getD n 0) (c.getD n []) k).getD k 0 = (c.getD i []).getD k 0 := by rw [imU_at _ _ _ _ _ (by rw [hil]; exact hk), if_neg (Nat.lt_irrefl _)]
  have e4 : ((c.set i (imU m (c.getD i []) ((c.getD i []).getD n 0) (c.getD n []) k)).getD n []).getD k 0 = (c.getD n []).getD k 0 := by
    rw [getD_setL _ _ _ _ hnc]
    by_cases e : i = n
    · subst e; rw [if_pos rfl, e3]
    · rw [if_neg e]
  rw [e1, e2, e3, e4, imU_succ m _ _ _ (by rw [hil]; exact hk)]
  apply gl_ext (by simp)
  intro j hj
  rw [List.length_set] at hj
  rw [getD_setL _ _ _ _ hj, getD_setL _ _ _ _ (by rw [List.length_set]; exact hj), getD_setL _ _ _ _ hj]
  by_cases e : i = j
  · rw [if_pos e, if_pos e]
  · rw [if_neg e, if_neg e, if_neg e]
end Go.Proofs.Ytjpikbbpmbeckaa
