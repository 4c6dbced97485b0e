/- A row that is improved by another one; grids that are copied, and closed: in the program. -/
import Derived.Test.YtjpikbbpmbeckaaMatI
import Derived.Test.YtjpikbbpmbeckaaRelaxJ
namespace Go.Proofs.Ytjpikbbpmbeckaa
open Go.RowKit Go.BigFrame Go.Deep
set_option linter.unusedVariables false
set_option linter.unusedSimpArgs false

/-- A row whose first k elements are improved. -/
def imU (m : Int) (row : List Int) (first : Int) (rest : List Int) (k : Nat) : List Int := (List.range row.length).map fun j => if j < k then mBest m (row.getD j 0) (mJoin m first (rest.getD j 0)) else row.getD j 0
def impr (m : Int) (row : List Int) (first : Int) (rest : List Int) : List Int := imU m row first rest row.length
theorem imU_len (m : Int) (row : List Int) (first : Int) (rest : List Int) (k : Nat) : (imU m row first rest k).length = row.length := by simp [imU]
theorem impr_len (m : Int) (row : List Int) (first : Int) (rest : List Int) : (impr m row first rest).length = row.length := imU_len _ _ _ _ _
theorem imU_at (m : Int) (row : List Int) (first : Int) (rest : List Int) (k : Nat) {j : Nat} (h : j < row.length) : (imU m row first rest k).getD j 0 = if j < k then mBest m (row.getD j 0) (mJoin m first (rest.getD j 0)) else row.getD j 0 := by
  unfold imU
  simp only [List.getD, List.getElem?_map, List.getElem?_range h, Option.map_some, Option.getD_some]
theorem impr_at (m : Int) (row : List Int) (first : Int) (rest : List Int) {j : Nat} (h : j < row.length) : (impr m row first rest).getD j 0 = mBest m (row.getD j 0) (mJoin m first (rest.getD j 0)) := by
  unfold impr
  rw [imU_at _ _ _ _ _ h, if_pos h]
theorem list_ext0 {xs ys : List Int} (hl : xs.length = ys.length) (h : ∀ i, i < xs.length → xs.getD i 0 = ys.getD i 0) : xs = ys := by
  apply List.ext_getElem hl
  intro i h1 h2
  have := h i h1
  rwa [getD_of h1, getD_of h2] at this
theorem imU_zero (m : Int) (row : List Int) (first : Int) (rest : List Int) : imU m row first rest 0 = row :=
  list_ext0 (imU_len _ _ _ _ _) (fun i hi => by rw [imU_len] at hi; rw [imU_at _ _ _ _ _ hi, if_neg (Nat.not_lt_zero _)])
theorem imU_succ (m : Int) (row : List Int) (first : Int) (rest : List Int) {k : Nat} (h : k < row.length) : imU m row first rest (k + 1) = (imU m row first rest k).set k (mBest m (row.getD k 0) (mJoin m first (rest.getD k 0))) := by
  refine list_ext0 (by rw [List.length_set, imU_len, imU_len]) (fun i hi => ?_)
  rw [imU_len] at hi
  rw [imU_at _ _ _ _ _ hi, getD_set _ _ _ _ (by rw [imU_len]; exact hi), imU_at _ _ _ _ _ hi]
  by_cases e : k = i
  · subst e; rw [if_pos (Nat.lt_succ_self _), if_pos rfl]
  · rw [if_neg e]
    by_cases h2 : i < k
    · rw [if_pos h2, if_pos (by omega)]
    · rw [if_neg h2, if_neg (by omega)]

/-- Where a row is read while another one is written: elsewhere, or the same one. -/
def RestAt (w : World) (b off : Nat) (row : List Int) (b2 off2 : Nat) (rest : List Int) : Prop :=
  (b2 ≠ b ∧ b2 < w.heap.size ∧ ∀ j, j < row.length → w.cell? ⟨b2, off2 + j, none⟩ = some (.int .i64 (rest.getD j 0))) ∨ (b2 = b ∧ off2 = off ∧ rest = row)

set_option maxRecDepth 20000 in
set_option maxHeartbeats 4000000 in
theorem improve (m first : Int) (row rest : List Int) (b off cap b2 off2 cap2 : Nat) (w : World) (hm : mKind m = true) (hw : Wr w b off row) (hr : RestAt w b off row b2 off2 rest) (hl : row.length ≤ 1048576) (hlr : rest.length = row.length) (hf : mIn m first = true) (hin : ∀ j, j < row.length → mIn m (rest.getD j 0) = true) :
    Calls Try.prog 90 #[opsV m, .slice (some ⟨b, off, none⟩) row.length cap, .int .i64 first, .slice (some ⟨b2, off2, none⟩) rest.length cap2] w fun e w' => e = .returned (.tuple #[]) ∧ Wr w' b off (impr m row first rest) ∧ Chg b (b + 1) w w' := by
  have hbet := fun a b w => betterOf m a b hm w
  obtain ⟨T, rv, fn, fe, fb, fo, fj, rn, re, rb, ro, rj, D⟩ := disp hm
  rw [D.val] at hbet ⊢
  have hj1 := D.mj.run
  have hj2 := D.mj.ahead
  have hj3 := D.mj.enter
  have hcj := fun y w (hy : mIn m y = true) => D.cj first y w hf hy
  have HJ := Lib.hid hcj
  have HBET := Lib.hid hbet
  have HD := Lib.hid D
  have HW := Lib.hid hw
  have HR := Lib.hid hr
  have HIN := Lib.hid hin
  have HLR := Lib.hid hlr
  obtain ⟨L, hL⟩ : ∃ L, L = rest.length := ⟨_, rfl⟩
  have hLr : L = row.length := by omega
  rw [← hL]
  have HLL := Lib.hid hLr
  have hbs := hw.1
  clear D hbet hcj hw hr hin hlr hL hLr
  go_enter Try.func90, Try.ntmps90
  go_wp2
  go_loopw [12] (fun c wr => ∃ k : Nat, k ≤ row.length ∧ c = .int .i64 k ∧ Hid (Wr wr b off (imU m row first rest k)) ∧ Hid (Chg b (b + 1) w wr)) (fun c _ => row.length - (intOf c).toNat)
  case atStart => exact ⟨0, Nat.zero_le _, rfl, Lib.hid (by rw [imU_zero]; exact HW.out), Lib.hid (Chg.refl _ _ _)⟩
  case round =>
    obtain ⟨k, hk, rfl, HWR, HCH⟩ := hrel
    by_cases hlt : k < row.length
    · have hlt' : (k : Int) < row.length := by omega
      have hlL : (k : Int) < L := by have := HLL.out; omega
      have hku : k < (imU m row first rest k).length := by rw [imU_len]; exact hlt
      have hcell := HWR.out.2 k hku
      rw [imU_at _ _ _ _ _ hlt, if_neg (Nat.lt_irrefl _)] at hcell
      obtain ⟨r, hr⟩ : ∃ r, r = row.getD k 0 := ⟨_, rfl⟩
      obtain ⟨y, hy⟩ : ∃ y, y = rest.getD k 0 := ⟨_, rfl⟩
      have hsucc := imU_succ m row first rest hlt
      rw [← hr, ← hy] at hsucc
      rw [← hr] at hcell
      have hyin := HIN.out k hlt
      rw [← hy] at hyin
      have hrest : wr.cell? ⟨b2, off2 + k, none⟩ = some (.int .i64 y) ∧ b2 < wr.heap.size := by
        rcases HR.out with ⟨hne, hlt2, hc⟩ | ⟨rfl, rfl, hrr⟩
        · refine ⟨(HCH.out.cell (p := ⟨b2, _, none⟩) hlt2 (by simp only; omega)).trans ?_, Nat.lt_of_lt_of_le hlt2 HCH.out.size⟩
          rw [hy]; exact hc k hlt
        · refine ⟨?_, HWR.out.1⟩
          rw [hy, hrr, ← hr]; exact hcell.1
      have hbn := HWR.out.1
      have hrel2 : ∀ w', Below wr.heap.size wr w' → w'.cell? ⟨b, off + k, none⟩ = some (.int .i64 r) ∧ w'.frozen? ⟨b, off + k, none⟩ = false ∧ w'.cell? ⟨b2, off2 + k, none⟩ = some (.int .i64 y) ∧ Chg b (b + 1) w w' ∧ Wr w' b off (imU m row first rest k) := fun w' h =>
        ⟨(h.cell (p := ⟨b, _, none⟩) hbn).trans hcell.1, (h.frozen (p := ⟨b, _, none⟩) hbn).trans hcell.2, (h.cell (p := ⟨b2, _, none⟩) hrest.2).trans hrest.1, HCH.out.trans (Chg.of_below h), HWR.out.keep h⟩
      have HREL := Lib.hid hrel2
      have HS := Lib.hid hsucc
      have HYI := Lib.hid hyin
      have HKU := Lib.hid hku
      have c0 := hcell.1
      have c2 := hrest.1
      clear hcell hr hy hsucc hyin hrest hrel2 hku
      go_wp2
      go_region_law (first | (go_simp; (with_reducible refine (HJ.out y _ HYI.out).mono ?_); rintro e wE ⟨rfl, hbE⟩; have qE := (HREL.out _ (bel_trans ((Below.refl _ _).drew) hbE)).2.2.1) | (go_simp; go_at_call 127; (with_reducible refine (HBET.out _ _ _).mono ?_); rintro e wB ⟨rfl, hbB⟩; have HRB := Lib.hid (HREL.out _ (bel_trans (bel_trans ((Below.refl _ _).drew) hbE) hbB)); have qB := HRB.out.1; have fB := HRB.out.2.1; have qB2 := HRB.out.2.2.1))
      all_goals go_wp2
      all_goals go_roundw
      all_goals first | (simp [intOf]; omega) | exact ⟨k + 1, by omega, by go_num, Lib.hid (by rw [HS.out]; exact HRB.out.2.2.2.2.set HKU.out _), Lib.hid (HRB.out.2.2.2.1.setCell (Nat.le_refl _) (Nat.lt_succ_self _) _)⟩ | ((repeat apply Exists.intro); exact ⟨⟨k + 1, by omega, by go_num, Lib.hid (by rw [HS.out]; exact HRB.out.2.2.2.2.set HKU.out _), Lib.hid (HRB.out.2.2.2.1.setCell (Nat.le_refl _) (Nat.lt_succ_self _) _)⟩, rfl⟩)
    · have hke : k = row.length := by omega
      have hkk : ¬ ((k : Int) < row.length) := by omega
      have HK := Lib.hid hke
      clear hke
      go_wp2
      go_end0
      exact ⟨rfl, by have := HWR.out; rw [HK.out] at this; exact this, HCH.out⟩
end Go.Proofs.Ytjpikbbpmbeckaa
