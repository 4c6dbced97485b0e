/- Ranks: a number put into its place from the right; the library's stable sort of few numbers. -/
import Derived.Test.YtneapbggnnndhaaDerE
namespace Go.Proofs.Ytneapbggnnndhaa
open Go.RowKit Go.BigFrame Go.Deep
set_option linter.unusedVariables false
set_option linter.unusedSimpArgs false

/-- The place of a number in a list, looked for from the right: behind the first one that it is not in front of. -/
def plc (lt : Int → Int → Bool) (x : Int) (l : List Int) : Nat → Nat
  | 0 => 0
  | p + 1 => if lt x (l.getD p 0) = true then plc lt x l p else p + 1
def insX (lt : Int → Int → Bool) (x : Int) (l : List Int) : List Int := l.take (plc lt x l l.length) ++ x :: l.drop (plc lt x l l.length)
def rkL (lt : Int → Int → Bool) : Nat → List Int
  | 0 => []
  | i + 1 => insX lt (i : Int) (rkL lt i)
theorem plc_le (lt : Int → Int → Bool) (x : Int) (l : List Int) : ∀ p, plc lt x l p ≤ p
  | 0 => Nat.le_refl _
  | p + 1 => by
    unfold plc
    split
    · exact Nat.le_trans (plc_le lt x l p) (Nat.le_succ _)
    · exact Nat.le_refl _
theorem rkL_len (lt : Int → Int → Bool) : ∀ i, (rkL lt i).length = i
  | 0 => rfl
  | i + 1 => by
    have h := rkL_len lt i
    have hp := plc_le lt (i : Int) (rkL lt i) (rkL lt i).length
    simp only [rkL, insX, List.length_append, List.length_cons, List.length_take, List.length_drop]
    omega
theorem rkL_mem (lt : Int → Int → Bool) : ∀ i y, y ∈ rkL lt i → 0 ≤ y ∧ y < i
  | 0, y, h => by simp [rkL] at h
  | i + 1, y, h => by
    simp only [rkL, insX, List.mem_append, List.mem_cons] at h
    rcases h with h | rfl | h
    · have := rkL_mem lt i y (List.mem_of_mem_take h); omega
    · omega
    · have := rkL_mem lt i y (List.mem_of_mem_drop h); omega
/-- What the slice holds while the number i goes down to the place j. -/
def rkA (lt : Int → Int → Bool) (N i j : Nat) : List Int := (rkL lt i).take j ++ (i : Int) :: ((rkL lt i).drop j ++ (ndsL N).drop (i + 1))
theorem ndsL_len (N : Nat) : (ndsL N).length = N := by simp [ndsL]
theorem ndsL_drop {N i : Nat} (h : i < N) : (ndsL N).drop i = (i : Int) :: (ndsL N).drop (i + 1) := by
  rw [List.drop_eq_getElem_cons (by rw [ndsL_len]; exact h)]
  simp [ndsL]
theorem rkA_len (lt : Int → Int → Bool) {N i j : Nat} (hi : i < N) (hj : j ≤ i) : (rkA lt N i j).length = N := by
  have h := rkL_len lt i
  simp only [rkA, List.length_append, List.length_cons, List.length_take, List.length_drop, ndsL_len]
  omega
theorem rkA_top (lt : Int → Int → Bool) {N i : Nat} (hi : i < N) : rkA lt N i i = rkL lt i ++ (ndsL N).drop i := by
  have h := rkL_len lt i
  unfold rkA
  rw [ndsL_drop hi, List.take_of_length_le (by omega), List.drop_eq_nil_of_le (by omega), List.nil_append]
theorem rkA_done (lt : Int → Int → Bool) {N i j : Nat} (hj : plc lt (i : Int) (rkL lt i) i = j) : rkA lt N i j = rkL lt (i + 1) ++ (ndsL N).drop (i + 1) := by
  have h := rkL_len lt i
  subst hj
  simp [rkA, rkL, insX, h]
theorem rkA_at (lt : Int → Int → Bool) {N i j : Nat} (hj : j ≤ i) : (rkA lt N i j).getD j 0 = (i : Int) := by
  have h := rkL_len lt i
  have hl : ((rkL lt i).take j).length = j := by rw [List.length_take]; omega
  unfold rkA
  rw [List.getD_eq_getElem?_getD, List.getElem?_append_right (by omega), hl]
  simp
theorem rkA_below (lt : Int → Int → Bool) {N i j : Nat} (hj : j + 1 ≤ i) : (rkA lt N i (j + 1)).getD j 0 = (rkL lt i).getD j 0 := by
  have h := rkL_len lt i
  have hl : ((rkL lt i).take (j + 1)).length = j + 1 := by rw [List.length_take]; omega
  unfold rkA
  rw [List.getD_eq_getElem?_getD, List.getElem?_append_left (by omega), List.getElem?_take, if_pos (by omega), List.getD_eq_getElem?_getD]
theorem rkA_swap (lt : Int → Int → Bool) {N i j : Nat} (hj : j + 1 ≤ i) : ((rkA lt N i (j + 1)).set (j + 1) ((rkL lt i).getD j 0)).set j (i : Int) = rkA lt N i j := by
  have h := rkL_len lt i
  unfold rkA
  generalize (ndsL N).drop (i + 1) = r
  generalize hx : (i : Int) = x
  clear hx
  generalize rkL lt i = P at h
  have hs : P.drop j = P.getD j 0 :: P.drop (j + 1) := by
    rw [List.drop_eq_getElem_cons (by omega)]
    simp [List.getD, show j < P.length by omega]
  have ht : P.take (j + 1) = P.take j ++ [P.getD j 0] := take_snoc P 0 (by omega)
  rw [hs, ht]
  have hl : (P.take j).length = j := by rw [List.length_take]; omega
  generalize P.getD j 0 = y
  generalize P.drop (j + 1) = b
  generalize P.take j = a at hl
  subst hl
  simp [List.set_append]
theorem plc_stop {lt : Int → Int → Bool} {x : Int} {l : List Int} {j : Nat} (h : j = 0 ∨ lt x (l.getD (j - 1) 0) = false) : plc lt x l j = j := by
  cases j with
  | zero => rfl
  | succ j =>
    rcases h with h | h
    · omega
    · rw [Nat.add_sub_cancel] at h
      rw [plc, if_neg (by rw [h]; decide)]
theorem plc_go {lt : Int → Int → Bool} {x : Int} {l : List Int} {j : Nat} (h : lt x (l.getD j 0) = true) : plc lt x l (j + 1) = plc lt x l j := by
  rw [plc, if_pos h]

/-- What is asked of a comparison. -/
def CmpI (k : FuncId) (lb : Array Value) (cf : Int → Int → Int) (N : Nat) (W : World) : Prop :=
  ∀ (w' : World) (a b : Int), Below W.heap.size W w' → (0 ≤ a ∧ a < N) → (0 ≤ b ∧ b < N) → Calls Try.prog k (#[.int .i64 a, .int .i64 b] ++ lb) w' fun e w'' => e = .returned (.int .i64 (cf a b)) ∧ Below w'.heap.size w' w''
theorem rowIs_lt {w : World} {b : Nat} {t : TypeId} {n : Nat} {f : Nat → Value} (h : w.rowIs b t n f) : b < w.heap.size := by
  obtain ⟨c, h1, _⟩ := h
  exact (Array.getElem?_eq_some_iff.1 h1).1
theorem rowIs_setI {w : World} {b : Nat} {t : TypeId} {n : Nat} {zs : List Int} (h : w.rowIs b t n (cellI zs)) (hl : zs.length = n) (i : Nat) (hi : i < n) (v : Int) : (w.setCell ⟨b, i, none⟩ (.int .i64 v)).rowIs b t n (cellI (zs.set i v)) := by
  refine (h.set i _).congr (fun j hj => ?_)
  unfold cellI
  by_cases e : j = i
  · subst e; simp [List.getD, hl, hj]
  · rw [if_neg e]
    simp [List.getD, List.getElem?_set, show ¬ i = j from fun q => e q.symm]

set_option maxRecDepth 20000 in
set_option maxHeartbeats 4000000 in
theorem insertionSort (N c : Nat) (lt : Int → Int → Bool) (cf : Int → Int → Int) (kf : FuncId) (lb : Array Value) (W : World) (D : Nat) (w : World) (hcf : ∀ a b : Int, (0 ≤ a ∧ a < N) → (0 ≤ b ∧ b < N) → decide (cf a b < 0) = lt a b) (eg : ∀ args w, (callFunc kf args).run Try.prog w = .ok (.enter kf args) w) (hk : CmpI kf lb cf N W) (hD : W.heap.size ≤ D) (hw : Below W.heap.size W w) (hr : w.rowIs D 3 N (cellI (ndsL N))) (h1 : 1 ≤ N) (hN : N ≤ 12) :
    Calls Try.prog 93 #[.slice (some ⟨D, 0, none⟩) N c, .int .i64 0, .int .i64 N, .func (.func kf) #[] lb] w fun e w' => e = .returned (.tuple #[]) ∧ w'.rowIs D 3 N (cellI (rkL lt N)) ∧ Below W.heap.size W w' := by
  have HK := Lib.hid hk
  have e1 : ndsL N = rkL lt 1 ++ (ndsL N).drop 1 := by
    have := rkA_top lt (N := N) (i := 0) (by omega)
    rw [show rkL lt 0 = [] from rfl, List.nil_append, List.drop_zero] at this
    rw [← this, rkA_done lt (N := N) (i := 0) (j := 0) rfl]
    rfl
  have hr1 : w.rowIs D 3 N (cellI (rkL lt 1 ++ (ndsL N).drop 1)) := by rw [← e1]; exact hr
  clear hk hr e1
  go_enter Try.func93, Try.ntmps93
  go_wp2
  go_loopw [8] (fun cc wr => ∃ i : Nat, 1 ≤ i ∧ i ≤ N ∧ cc = .int .i64 i ∧ Below W.heap.size W wr ∧ wr.rowIs D 3 N (cellI (rkL lt i ++ (ndsL N).drop i))) (fun cc _ => N - (intOf cc).toNat)
  case atStart => exact ⟨1, Nat.le_refl _, h1, by go_num, hw, hr1⟩
  case round =>
    clear hw hr1
    obtain ⟨i, hi1, hi, rfl, hbel, hrow⟩ := hrel
    by_cases hlt : i < N
    · have hlt' : (i : Int) < N := by omega
      rw [← rkA_top lt hlt] at hrow
      go_wp2
      go_loopw [9] (fun cc wr => ∃ j : Nat, j ≤ i ∧ cc = .int .i64 j ∧ Below W.heap.size W wr ∧ wr.rowIs D 3 N (cellI (rkA lt N i j)) ∧ plc lt (i : Int) (rkL lt i) i = plc lt (i : Int) (rkL lt i) j) (fun cc _ => (intOf cc).toNat)
      case atStart => exact ⟨i, Nat.le_refl _, rfl, hbel, hrow, rfl⟩
      case round =>
        clear hbel hrow
        obtain ⟨j, hj, rfl, hbel, hrow, hpl⟩ := hrel
        have HB := Lib.hid (And.intro hbel (And.intro hrow hpl))
        have out : (j = 0 ∨ lt (i : Int) ((rkL lt i).getD (j - 1) 0) = false) → ∀ q, Below wr.heap.size wr q → ∃ i' : Nat, 1 ≤ i' ∧ i' ≤ N ∧ Value.int .i64 ((i : Int) + 1) = .int .i64 (i' : Nat) ∧ Below W.heap.size W q ∧ q.rowIs D 3 N (cellI (rkL lt i' ++ (ndsL N).drop i')) := fun h q hq =>
          ⟨i + 1, by omega, by omega, by go_num, bel_trans HB.out.1 hq, by rw [← rkA_done lt (N := N) (i := i) (j := j) (HB.out.2.2.trans (plc_stop h))]; exact rowIs_keep HB.out.2.1 hq⟩
        have OUT := Lib.hid out
        clear out hbel hrow hpl
        by_cases hj0 : j = 0
        · have d0 : ¬ ((0 : Int) < (j : Int)) := by omega
          go_wp2_with fail
          refine wp_region_below (by kernel_rfl) (by kernel_rfl) ?_
          repeat (go_big_quiet_step ((intro hw; first | with_reducible rfl)))
          refine wpQuiet_nil ?_
          intro w2 hw2
          have H2 := Lib.hid hw2
          clear hw2
          go_wp2
          go_roundw
          case rel => first | exact (OUT.out (.inl hj0) _ H2.out) | ((repeat apply Exists.intro); exact ⟨(OUT.out (.inl hj0) _ H2.out), rfl⟩)
          case measure => simp [intOf]; omega
        obtain ⟨p, rfl⟩ : ∃ p, j = p + 1 := ⟨j - 1, by omega⟩
        have hp0 : (0 : Int) < ((p + 1 : Nat) : Int) := by omega
        have hlen := rkA_len lt hlt hj
        have e1 : (rkA lt N i (p + 1)).getD (p + 1) 0 = (i : Int) := rkA_at lt hj
        have e2 : (rkA lt N i (p + 1)).getD p 0 = (rkL lt i).getD p 0 := rkA_below lt hj
        obtain ⟨y, hy⟩ : ∃ y, y = (rkL lt i).getD p 0 := ⟨_, rfl⟩
        have hym : 0 ≤ y ∧ y < i := rkL_mem lt i y (by rw [hy]; have := rkL_len lt i; simp [List.getD, show p < (rkL lt i).length by omega])
        have hsw := rkA_swap lt (N := N) hj
        rw [← hy] at e2 hsw
        have hc1 : ∀ q, Below wr.heap.size wr q → (q.cell? ⟨D, p + 1, none⟩ = some (.int .i64 i) ∧ q.cell? ⟨D, p, none⟩ = some (.int .i64 y)) ∧ q.frozen? ⟨D, p + 1, none⟩ = false ∧ q.frozen? ⟨D, p, none⟩ = false := fun q h => by
          have hr := rowIs_keep HB.out.2.1 h
          have h3 := hr.cell (i := p + 1) (by omega)
          have h4 := hr.cell (i := p) (by omega)
          unfold cellI at h3 h4
          rw [e1] at h3
          rw [e2] at h4
          exact ⟨⟨h3, h4⟩, hr.frozen _, hr.frozen _⟩
        have FF : Hid (∀ q, Below wr.heap.size wr q → q.cell? ⟨D, p + 1, none⟩ = some (.int .i64 i) ∧ q.cell? ⟨D, p, none⟩ = some (.int .i64 y)) := Lib.hid (fun q h => (hc1 q h).1)
        have HC1 := Lib.hid hc1
        have hcc := fun q (h : Below wr.heap.size wr q) => HK.out q (i : Int) y (bel_trans HB.out.1 h) (by omega) (by omega)
        have HCC := Lib.hid hcc
        have HSW := Lib.hid hsw
        have HY := Lib.hid hy
        have hpN : p + 1 < N := by omega
        have hpN' : ((p + 1 : Nat) : Int) < N := by omega
        have hpN2 : (p : Int) < N := by omega
        have hpw : IntKind.i64.wrap (((p + 1 : Nat) : Int) - 1) = (p : Int) := by rw [wrap_small (by omega) (by omega)]; omega
        have hcast : ((p + 1 : Nat) : Int) = (p : Int) + 1 := by omega
        clear hc1 hcc hsw hy e1 e2 hj0
        have hC := hcf (i : Int) y (by omega) (by omega)
        generalize cf (i : Int) y = C at HCC hC
        obtain ⟨B, hB⟩ : ∃ B, B = lt (i : Int) y := ⟨_, rfl⟩
        rw [← hB] at hC
        have HBB := Lib.hid hB
        clear hB hcast
        cases B
        · go_wp2_with fail
          refine wp_region_below (by kernel_rfl) (by kernel_rfl) ?_
          repeat (go_big_quiet_step ((intro hw; first | with_reducible rfl | (obtain ⟨f0, f1⟩ := FF.out _ hw; simp only [f0, f1, Result.andThen]; first | exact ⟨trivial, rfl⟩ | exact ⟨rfl, rfl⟩) | (with_reducible exact quietB (HCC.out _ hw) hw))))
          refine wpQuiet_nil ?_
          intro w2 hw2
          have H2 := Lib.hid hw2
          clear hw2
          go_wp2
          go_roundw
          case rel => first | exact (OUT.out (.inr (by rw [Nat.add_sub_cancel, ← HY.out]; exact HBB.out.symm)) _ H2.out) | ((repeat apply Exists.intro); exact ⟨(OUT.out (.inr (by rw [Nat.add_sub_cancel, ← HY.out]; exact HBB.out.symm)) _ H2.out), rfl⟩)
          case measure => simp [intOf]; omega
        · go_wp2_with fail
          refine wp_region_below (by kernel_rfl) (by kernel_rfl) ?_
          repeat (go_big_quiet_step ((intro hw; first | with_reducible rfl | (obtain ⟨f0, f1⟩ := FF.out _ hw; simp only [f0, f1, Result.andThen]; first | exact ⟨trivial, rfl⟩ | exact ⟨rfl, rfl⟩) | (with_reducible exact quietB (HCC.out _ hw) hw))))
          refine wpQuiet_nil ?_
          intro w2 hw2
          have H2 := Lib.hid hw2
          obtain ⟨⟨c0, c1⟩, f0, f1⟩ := HC1.out _ hw2
          clear hw2
          have hr2 := rowIs_keep HB.out.2.1 H2.out
          have HROW : Hid ((((w2.setCell ⟨D, p + 1, none⟩ (.int .i64 y)).setCell ⟨D, p, none⟩ (.int .i64 i)).drew).rowIs D 3 N (cellI (rkA lt N i p))) := Lib.hid (by
            rw [← HSW.out]
            exact rowIs_setI (w := w2.setCell ⟨D, p + 1, none⟩ (.int .i64 y)) (rowIs_setI (w := w2) hr2 hlen (p + 1) hpN y) (by rw [List.length_set]; exact hlen) p (by omega) i)
          have HPL : Hid (plc lt (i : Int) (rkL lt i) i = plc lt (i : Int) (rkL lt i) p) := Lib.hid (HB.out.2.2.trans (plc_go (by rw [← HY.out]; exact HBB.out.symm)))
          clear hr2
          go_wp2_with fail
          go_region
          all_goals go_wp2
          all_goals go_roundw
          all_goals first | (simp [intOf]; done) | (simp [intOf]; omega) | first | exact ⟨p, by omega, by go_num, (((bel_trans HB.out.1 H2.out).setCell (by simp only; omega) _).setCell (by simp only; omega) _).drew, HROW.out, HPL.out⟩ | ((repeat apply Exists.intro); exact ⟨⟨p, by omega, by go_num, (((bel_trans HB.out.1 H2.out).setCell (by simp only; omega) _).setCell (by simp only; omega) _).drew, HROW.out, HPL.out⟩, rfl⟩)
    · have hke : i = N := by omega
      have hkk : ¬ ((i : Int) < N) := by omega
      have hdn : (ndsL N).drop i = [] := List.drop_eq_nil_of_le (by rw [ndsL_len]; omega)
      rw [hdn, List.append_nil] at hrow
      subst hke
      go_wp2
      go_end0
      exact ⟨rfl, hrow, hbel⟩
end Go.Proofs.Ytneapbggnnndhaa
