/- Fair rounds: mathematics. FairRounds: in the program. -/
import Derived.Test.YtnomlefjldfgiaaOneS
import Derived.Test.YtnomlefjldfgiaaMarkB
import Derived.Test.YtnomlefjldfgiaaFind3
import Derived.Test.YtnomlefjldfgiaaVValS
import Derived.Deep.CutBlock
import Derived.Deep.CutRange
import Derived.Laws.Tables
import Derived.Great.BuildSlice
namespace Go.Proofs.Ytnomlefjldfgiaa
open Go.RowKit Go.BigFrame Go.Deep
set_option linter.unusedVariables false
set_option linter.unusedSimpArgs false

/-- Rounds that are done, edges that have been in this one, and how many are missing. -/
structure Fr where
  n : Nat
  bs : List Bool
  left : Nat
def frNew (E n : Nat) : Fr := ⟨n, List.replicate E false, E⟩
/-- One edge of the order. -/
def frStep (E : Nat) (st : Fr) (i : Int) : Fr :=
  if st.bs.getD i.toNat true = true then st else if st.left = 1 then frNew E (st.n + 1) else ⟨st.n, st.bs.set i.toNat true, st.left - 1⟩
def fr (E : Nat) (os : List Int) : Fr := os.foldl (frStep E) (frNew E 0)
theorem fr_succ (E : Nat) (os : List Int) {k : Nat} (hk : k < os.length) : fr E (os.take (k + 1)) = frStep E (fr E (os.take k)) (os.getD k 0) := by
  unfold fr
  rw [List.take_succ_eq_append_getElem hk, List.foldl_append]
  simp [List.getD, hk]
def FrOk (E : Nat) (st : Fr) : Prop := st.bs.length = E ∧ (0 < E → 1 ≤ st.left) ∧ st.left ≤ E
theorem frNew_ok (E n : Nat) : FrOk E (frNew E n) := ⟨by simp [frNew], fun h => h, Nat.le_refl _⟩
theorem frStep_ok {E : Nat} {st : Fr} (h : FrOk E st) (i : Int) : FrOk E (frStep E st i) := by
  unfold frStep
  split
  · exact h
  · split
    · exact frNew_ok _ _
    · rename_i h1 h2
      obtain ⟨a, b, c⟩ := h
      exact ⟨by simp [a], fun q => by have := b q; simp only; omega, by simp only; omega⟩
theorem fr_ok (E : Nat) (os : List Int) : FrOk E (fr E os) := by
  have : ∀ (os : List Int) (st : Fr), FrOk E st → FrOk E (os.foldl (frStep E) st) := by
    intro os
    induction os with
    | nil => intro st h; exact h
    | cons i os ih => intro st h; exact ih _ (frStep_ok h i)
  exact this os _ (frNew_ok E 0)
theorem frStep_n {E : Nat} (st : Fr) (i : Int) : st.n ≤ (frStep E st i).n ∧ (frStep E st i).n ≤ st.n + 1 := by
  unfold frStep
  split
  · omega
  · split
    · simp only [frNew]; omega
    · simp
theorem fr_n (E : Nat) (os : List Int) : ∀ k, k ≤ os.length → (fr E (os.take k)).n ≤ k
  | 0, _ => by simp [fr, frNew]
  | k + 1, h => by
    rw [fr_succ E os (by omega)]
    have h1 := fr_n E os k (by omega)
    have h2 := (frStep_n (E := E) (fr E (os.take k)) (os.getD k 0)).2
    omega
def frB (n : Int) (es : List Ed) (os : List Int) : Bool := gVal n es && oOk es.length os
def frN (n : Int) (es : List Ed) (os : List Int) : Nat := if frB n es os = true then (fr es.length os).n else 0

def zB : Array Value := Array.replicate 40 (.bool false)
theorem zB_at (i : Nat) (h : i < 40) : zB[i]? = some (.bool false) := by
  unfold zB
  rw [Array.getElem?_replicate, if_pos h]
theorem cells40 (i : Nat) (h : i < 40) : (#[.bool false, .bool false, .bool false, .bool false, .bool false, .bool false, .bool false, .bool false, .bool false, .bool false, .bool false, .bool false, .bool false, .bool false, .bool false, .bool false, .bool false, .bool false, .bool false, .bool false, .bool false, .bool false, .bool false, .bool false, .bool false, .bool false, .bool false, .bool false, .bool false, .bool false, .bool false, .bool false, .bool false, .bool false, .bool false, .bool false, .bool false, .bool false, .bool false, .bool false] : Array Value)[i]? = some (.bool false) := by
  have e : (#[.bool false, .bool false, .bool false, .bool false, .bool false, .bool false, .bool false, .bool false, .bool false, .bool false, .bool false, .bool false, .bool false, .bool false, .bool false, .bool false, .bool false, .bool false, .bool false, .bool false, .bool false, .bool false, .bool false, .bool false, .bool false, .bool false, .bool false, .bool false, .bool false, .bool false, .bool false, .bool false, .bool false, .bool false, .bool false, .bool false, .bool false, .bool false, .bool false, .bool false] : Array Value) = Array.replicate 40 (.bool false) := by rfl
  rw [e, Array.getElem?_replicate, if_pos h]
set_option maxRecDepth 20000 in
set_option maxHeartbeats 4000000 in
theorem fairRounds (n : Int) (es : List Ed) (os : List Int) (s t : Value) (w : World) (hs : RowE w s es) (ht : Row w t os) (hl : es.length ≤ 281474976710656) (hl2 : os.length ≤ 281474976710656) :
    Calls Try.prog 6 #[.agg #[.int .i64 n, s], t] w fun e w' => e = .returned (.tuple #[.int .i64 (frN n es os : Nat), .bool (frB n es os)]) ∧ Below w.heap.size w w' := by
  have hv := fun w' (h : Below w.heap.size w w') => graphValid n es s w' (hs.keep h) hl
  obtain ⟨ad, cap, rfl, hz0⟩ := hs
  have ho := fun w' (h : Below w.heap.size w w') => orderValid n es os ad cap t w' (ht.keep h) hl hl2
  have hT := Lib.hid ht
  obtain ⟨ta, tc, rfl, hy0⟩ := ht
  have HY := Lib.hid hy0
  have K0 := Lib.hid (And.intro ((Below.refl _ w).alloc (Nat.le_refl _) (.cells #[.int .i64 n, .slice ad es.length cap] 25)) (Box.new w 25 #[.int .i64 n, .slice ad es.length cap]))
  clear hz0 hy0
  unfold frN frB
  cases hG : gVal n es
  · rw [hG] at hv
    have HV := Lib.hid hv
    rw [Bool.false_and, if_neg (by decide)]
    clear hv hG ho
    go_enter Try.func6, Try.ntmps6
    go_wp2_with fail
    generalize (w.alloc (.cells #[.int .i64 n, .slice ad es.length cap] 25)) = w0 at K0 ⊢
    have x0 : w0.cell? ⟨w.heap.size, 0, none⟩ = some (.int .i64 n) := by simpa using K0.out.2.cell 0
    have x1 : w0.cell? ⟨w.heap.size, 1, none⟩ = some (.slice ad es.length cap) := by simpa using K0.out.2.cell 1
    go_wp2_with (go_at_call 14; (with_reducible refine (HV.out _ K0.out.1).mono ?_); rintro e w1 ⟨rfl, hb1⟩; have K1 := Lib.hid (bel_trans K0.out.1 hb1); clear x0 x1 hb1)
    go_ret2
    exact ⟨rfl, K1.out⟩
  rw [hG] at hv
  have HV := Lib.hid hv
  rw [Bool.true_and]
  cases hO : oOk es.length os
  · rw [hO] at ho
    have HO := Lib.hid ho
    rw [if_neg (by decide)]
    clear hv hG ho hO
    go_enter Try.func6, Try.ntmps6
    go_wp2_with fail
    generalize (w.alloc (.cells #[.int .i64 n, .slice ad es.length cap] 25)) = w0 at K0 ⊢
    have x0 : w0.cell? ⟨w.heap.size, 0, none⟩ = some (.int .i64 n) := by simpa using K0.out.2.cell 0
    have x1 : w0.cell? ⟨w.heap.size, 1, none⟩ = some (.slice ad es.length cap) := by simpa using K0.out.2.cell 1
    go_wp2_with (first | (go_at_call 14; (with_reducible refine (HV.out _ K0.out.1).mono ?_); rintro e w1 ⟨rfl, hb1⟩; have K1 := Lib.hid (And.intro (bel_trans K0.out.1 hb1) (K0.out.2.keep hb1)); clear x0 x1 hb1; have x0 : w1.cell? ⟨w.heap.size, 0, none⟩ = some (.int .i64 n) := (by simpa using K1.out.2.cell 0); have x1 : w1.cell? ⟨w.heap.size, 1, none⟩ = some (.slice ad es.length cap) := (by simpa using K1.out.2.cell 1)) | (go_at_call 15; (with_reducible refine (HO.out _ K1.out.1).mono ?_); rintro e w2 ⟨rfl, hb2⟩; have K2 := Lib.hid (bel_trans K1.out.1 hb2)))
    go_ret2
    exact ⟨rfl, K2.out⟩
  rw [hO] at ho
  have HO := Lib.hid ho
  rw [if_pos rfl]
  have HE40 : Hid (es.length ≤ 40) := Lib.hid (by have := (gVal_n hG).2.2; omega)
  clear hv hG ho
  go_enter Try.func6, Try.ntmps6
  go_wp2_with fail
  generalize (w.alloc (.cells #[.int .i64 n, .slice ad es.length cap] 25)) = w0 at K0 ⊢
  have x0 : w0.cell? ⟨w.heap.size, 0, none⟩ = some (.int .i64 n) := by simpa using K0.out.2.cell 0
  have x1 : w0.cell? ⟨w.heap.size, 1, none⟩ = some (.slice ad es.length cap) := by simpa using K0.out.2.cell 1
  have hz0 := K0.out.2.lt
  go_wp2_with (first | (go_at_call 14; (with_reducible refine (HV.out _ K0.out.1).mono ?_); rintro e w1 ⟨rfl, hb1⟩; have K1 := Lib.hid (And.intro (bel_trans K0.out.1 hb1) (K0.out.2.keep hb1)); clear x0 x1 hb1; have x0 : w1.cell? ⟨w.heap.size, 0, none⟩ = some (.int .i64 n) := (by simpa using K1.out.2.cell 0); have x1 : w1.cell? ⟨w.heap.size, 1, none⟩ = some (.slice ad es.length cap) := (by simpa using K1.out.2.cell 1)) | (go_at_call 15; (with_reducible refine (HO.out _ K1.out.1).mono ?_); rintro e w2 ⟨rfl, hb2⟩; have K2 := Lib.hid (And.intro (bel_trans K1.out.1 hb2) (K1.out.2.keep hb2)); clear x0 x1 hb2 hz0; have x0 : w2.cell? ⟨w.heap.size, 0, none⟩ = some (.int .i64 n) := (by simpa using K2.out.2.cell 0); have x1 : w2.cell? ⟨w.heap.size, 1, none⟩ = some (.slice ad es.length cap) := (by simpa using K2.out.2.cell 1); have hz0 := K2.out.2.lt))
  have hbx := Box.new w2 43 #[.bool false, .bool false, .bool false, .bool false, .bool false, .bool false, .bool false, .bool false, .bool false, .bool false, .bool false, .bool false, .bool false, .bool false, .bool false, .bool false, .bool false, .bool false, .bool false, .bool false, .bool false, .bool false, .bool false, .bool false, .bool false, .bool false, .bool false, .bool false, .bool false, .bool false, .bool false, .bool false, .bool false, .bool false, .bool false, .bool false, .bool false, .bool false, .bool false, .bool false]
  have hbe : Below w.heap.size w (w2.alloc (.cells #[.bool false, .bool false, .bool false, .bool false, .bool false, .bool false, .bool false, .bool false, .bool false, .bool false, .bool false, .bool false, .bool false, .bool false, .bool false, .bool false, .bool false, .bool false, .bool false, .bool false, .bool false, .bool false, .bool false, .bool false, .bool false, .bool false, .bool false, .bool false, .bool false, .bool false, .bool false, .bool false, .bool false, .bool false, .bool false, .bool false, .bool false, .bool false, .bool false, .bool false] 43)) := K2.out.1.alloc K2.out.1.size _
  have hbg := K2.out.2.alloc (.cells #[.bool false, .bool false, .bool false, .bool false, .bool false, .bool false, .bool false, .bool false, .bool false, .bool false, .bool false, .bool false, .bool false, .bool false, .bool false, .bool false, .bool false, .bool false, .bool false, .bool false, .bool false, .bool false, .bool false, .bool false, .bool false, .bool false, .bool false, .bool false, .bool false, .bool false, .bool false, .bool false, .bool false, .bool false, .bool false, .bool false, .bool false, .bool false, .bool false, .bool false] 43)
  obtain ⟨Arr, hArr⟩ : ∃ Arr, Arr = w2.heap.size := ⟨_, rfl⟩
  rw [← hArr] at hbx ⊢
  have HAR : Hid (w.heap.size ≤ Arr ∧ w.heap.size ≠ Arr) := Lib.hid (by rw [hArr]; exact ⟨K2.out.1.size, by omega⟩)
  generalize (w2.alloc (.cells #[.bool false, .bool false, .bool false, .bool false, .bool false, .bool false, .bool false, .bool false, .bool false, .bool false, .bool false, .bool false, .bool false, .bool false, .bool false, .bool false, .bool false, .bool false, .bool false, .bool false, .bool false, .bool false, .bool false, .bool false, .bool false, .bool false, .bool false, .bool false, .bool false, .bool false, .bool false, .bool false, .bool false, .bool false, .bool false, .bool false, .bool false, .bool false, .bool false, .bool false] 43)) = W3 at hbx hbe hbg ⊢
  have hE : es.length ≤ 40 := by have := HE40.out; omega
  have H0 : Hid (Box W3 Arr 43 #[.bool false, .bool false, .bool false, .bool false, .bool false, .bool false, .bool false, .bool false, .bool false, .bool false, .bool false, .bool false, .bool false, .bool false, .bool false, .bool false, .bool false, .bool false, .bool false, .bool false, .bool false, .bool false, .bool false, .bool false, .bool false, .bool false, .bool false, .bool false, .bool false, .bool false, .bool false, .bool false, .bool false, .bool false, .bool false, .bool false, .bool false, .bool false, .bool false, .bool false] ∧ (#[.bool false, .bool false, .bool false, .bool false, .bool false, .bool false, .bool false, .bool false, .bool false, .bool false, .bool false, .bool false, .bool false, .bool false, .bool false, .bool false, .bool false, .bool false, .bool false, .bool false, .bool false, .bool false, .bool false, .bool false, .bool false, .bool false, .bool false, .bool false, .bool false, .bool false, .bool false, .bool false, .bool false, .bool false, .bool false, .bool false, .bool false, .bool false, .bool false, .bool false] : Array Value).size = 40 ∧ (∀ i, i < es.length → (#[.bool false, .bool false, .bool false, .bool false, .bool false, .bool false, .bool false, .bool false, .bool false, .bool false, .bool false, .bool false, .bool false, .bool false, .bool false, .bool false, .bool false, .bool false, .bool false, .bool false, .bool false, .bool false, .bool false, .bool false, .bool false, .bool false, .bool false, .bool false, .bool false, .bool false, .bool false, .bool false, .bool false, .bool false, .bool false, .bool false, .bool false, .bool false, .bool false, .bool false] : Array Value)[i]? = some (.bool ((fr es.length (os.take 0)).bs.getD i true))) ∧ Below w.heap.size w W3 ∧ Box W3 w.heap.size 25 #[.int .i64 n, .slice ad es.length cap]) := Lib.hid ⟨hbx, rfl, fun i hi => by
      have e : (fr es.length (os.take 0)).bs.getD i true = false := by
        show (List.replicate es.length false).getD i true = false
        simp [List.getD, hi]
      rw [e]
      exact cells40 i (by omega), hbe, hbg⟩
  have HOK := Lib.hid hO
  clear hbx hbe hbg hArr hz0 x0 x1 hO
  have hl0 : (fr es.length (os.take 0)).left = es.length := rfl
  go_loopw [25, 6, 8] (fun c r l wr => ∃ (k : Nat) (cur : Array Value), k ≤ os.length ∧ c = .int .i64 k ∧ r = .int .i64 ((fr es.length (os.take k)).n : Nat) ∧ l = .int .i64 ((fr es.length (os.take k)).left : Nat) ∧ Hid (Box wr Arr 43 cur ∧ cur.size = 40 ∧ (∀ i, i < es.length → cur[i]? = some (.bool ((fr es.length (os.take k)).bs.getD i true))) ∧ Below w.heap.size w wr ∧ Box wr w.heap.size 25 #[.int .i64 n, .slice ad es.length cap])) (fun c _ _ _ => os.length - (intOf c).toNat)
  case atStart => exact ⟨0, _, Nat.zero_le _, rfl, rfl, rfl, H0⟩
  case round =>
    obtain ⟨k, cur, hk, rfl, rfl, rfl, H⟩ := hrel
    clear H0 hl0
    by_cases hlt : k < os.length
    · have hlt' : (k : Int) < os.length := by omega
      rcases HY.out with h00 | ⟨tb, tq, rfl, htb, htc⟩
      · rw [h00] at hlt; simp at hlt
      have hin := oOk_at HOK.out hlt
      unfold oIn at hin
      rw [Bool.and_eq_true, decide_eq_true_eq, decide_eq_true_eq] at hin
      have hst := fr_succ es.length os hlt
      have hfo := fr_ok es.length (os.take k)
      have hfn := fr_n es.length os k (by omega)
      have h500 := oOk_len HOK.out
      have hcx := (H.out.2.2.2.1.cell (p := ⟨tb, tq + k, none⟩) htb).trans (htc k hlt)
      obtain ⟨x, hx⟩ : ∃ x, x = os.getD k 0 := ⟨_, rfl⟩
      rw [← hx] at hin hst hcx
      obtain ⟨X, rfl⟩ : ∃ X : Nat, x = X := ⟨x.toNat, by omega⟩
      have hX : X < es.length := by omega
      have hX40 : (X : Int) < 40 := by omega
      obtain ⟨st, hste⟩ : ∃ st, st = (fr es.length (os.take k)) := ⟨_, rfl⟩
      rw [← hste] at hst hfo hfn H
      have hcb : wr.cell? ⟨Arr, X, none⟩ = some (.bool (st.bs.getD X true)) := by rw [H.out.1.cell X]; exact H.out.2.2.1 X hX
      have hfb := H.out.1.frozen X
      have HFO := Lib.hid hfo
      have HTE := Lib.hid hste
      unfold frStep at hst
      rw [Int.toNat_natCast] at hst
      rw [← hste]
      clear hx hin hste hfo htc
      cases hb : st.bs.getD X true
      rotate_left
      · rw [hb, if_pos rfl] at hst
        rw [hb] at hcb
        have HN := Lib.hid hst
        clear hst hb
        go_wp2
        go_roundw
        case rel => first | exact ⟨k + 1, cur, by omega, by go_num, by rw [HN.out], by rw [HN.out], by rw [HN.out]; exact H⟩ | ((repeat apply Exists.intro); exact ⟨⟨k + 1, cur, by omega, by go_num, by rw [HN.out], by rw [HN.out], by rw [HN.out]; exact H⟩, rfl⟩)
        case measure => simp [intOf]; omega
      rw [hb, if_neg (by decide)] at hst
      rw [hb] at hcb
      have hE0 : 0 < es.length := by omega
      obtain ⟨l, hl⟩ : ∃ l, l = st.left := ⟨_, rfl⟩
      obtain ⟨r, hr⟩ : ∃ r, r = st.n := ⟨_, rfl⟩
      have hl1 : 1 ≤ l := by have := HFO.out.2.1 hE0; omega
      have hl40 : l ≤ 40 := by have := HFO.out.2.2; omega
      have hr5 : r ≤ 500 := by omega
      rw [← hl, ← hr] at hst ⊢
      have HB := Lib.hid hb
      clear hb hl hr
      have hwl : IntKind.i64.wrap ((l : Int) - 1) = (l : Int) - 1 := by rw [IntKind.wrap_i64]; omega
      have hwr : IntKind.i64.wrap ((r : Int) + 1) = (r : Int) + 1 := by rw [IntKind.wrap_i64]; omega
      by_cases h1 : l = 1
      · rw [if_pos h1] at hst
        have HN := Lib.hid hst
        subst h1
        clear hst
        go_upto_region 13 with fail
        have hx4 := H.out.1.set X (.bool true)
        have HX4 : Hid (Box (wr.setCell ⟨Arr, X, none⟩ (.bool true)) Arr 43 (cur.setIfInBounds X (.bool true)) ∧ (cur.setIfInBounds X (.bool true)).size = 40 ∧ Below w.heap.size w (wr.setCell ⟨Arr, X, none⟩ (.bool true)) ∧ Box (wr.setCell ⟨Arr, X, none⟩ (.bool true)) w.heap.size 25 #[.int .i64 n, .slice ad es.length cap]) := Lib.hid ⟨hx4, by rw [Array.size_setIfInBounds]; exact H.out.2.1, H.out.2.2.2.1.setCell HAR.out.1 _, H.out.2.2.2.2.setOther HAR.out.2 X _⟩
        generalize (wr.setCell ⟨Arr, X, none⟩ (.bool true)) = W4 at HX4 ⊢
        generalize (cur.setIfInBounds X (.bool true)) = cur4 at HX4
        clear hcb hfb hcx hx4
        have HNX : Hid (Box (W4.setRow Arr zB) Arr 43 zB ∧ zB.size = 40 ∧ (∀ i, i < es.length → zB[i]? = some (.bool ((fr es.length (os.take (k + 1))).bs.getD i true))) ∧ Below w.heap.size w (W4.setRow Arr zB) ∧ Box (W4.setRow Arr zB) w.heap.size 25 #[.int .i64 n, .slice ad es.length cap]) := Lib.hid ⟨setRow_heap W4 Arr cur4 zB 43 (0, 0) HX4.out.1, rfl, fun i hi => by
          rw [HN.out]
          have e : (frNew es.length (r + 1)).bs.getD i true = false := by simp [frNew, List.getD, hi]
          rw [e]
          exact zB_at i (by omega), HX4.out.2.2.1.trans ⟨rfl, rfl, rfl, by simp, fun q hq => setRow_other _ _ _ _ (by have := HAR.out.1; omega)⟩, (setRow_other _ _ _ _ HAR.out.2).trans HX4.out.2.2.2⟩
        go_upto_region 14 with fail
        refine wp_region_list ?_
        refine wpList_buildTo rfl 43 _ rfl (some 40) rfl zB (by kernel_rfl) ?_
        refine wpList_store_rowTo rfl 43 (.tmp 7) (.tmp 40) rfl rfl Arr zB rfl (by kernel_rfl) 43 cur4 HX4.out.1 (by kernel_rfl) HX4.out.2.1 (by kernel_rfl) ?_
        generalize (W4.setRow Arr zB) = W5 at HNX ⊢
        have x1 : W5.cell? ⟨w.heap.size, 1, none⟩ = some (.slice ad es.length cap) := by simpa using HNX.out.2.2.2.2.cell 1
        go_wp2
        go_roundw
        case rel => first | exact ⟨k + 1, _, by omega, by go_num, by rw [HN.out]; rfl, by rw [HN.out]; rfl, HNX⟩ | ((repeat apply Exists.intro); exact ⟨⟨k + 1, _, by omega, by go_num, by rw [HN.out]; rfl, by rw [HN.out]; rfl, HNX⟩, rfl⟩)
        case measure => simp [intOf]; omega
      · rw [if_neg h1] at hst
        have HN := Lib.hid hst
        have hne1 : ((l : Int) - 1 == 0) = false := by simp; omega
        have hne2 : ¬ ((l : Int) - 1 = 0) := by omega
        have HNX : Hid (Box (wr.setCell ⟨Arr, X, none⟩ (.bool true)) Arr 43 (cur.setIfInBounds X (.bool true)) ∧ (cur.setIfInBounds X (.bool true)).size = 40 ∧ (∀ i, i < es.length → (cur.setIfInBounds X (.bool true))[i]? = some (.bool ((fr es.length (os.take (k + 1))).bs.getD i true))) ∧ Below w.heap.size w (wr.setCell ⟨Arr, X, none⟩ (.bool true)) ∧ Box (wr.setCell ⟨Arr, X, none⟩ (.bool true)) w.heap.size 25 #[.int .i64 n, .slice ad es.length cap]) := Lib.hid ⟨H.out.1.set X (.bool true), by rw [Array.size_setIfInBounds]; exact H.out.2.1, fun i hi => by
          rw [HN.out, Array.getElem?_setIfInBounds]
          show _ = some (Value.bool ((st.bs.set X true).getD i true))
          rw [getD_setB _ _ _ _ (by rw [HFO.out.1]; exact hi)]
          by_cases e : X = i
          · rw [if_pos e, if_pos e, if_pos (by rw [H.out.2.1]; omega)]
          · rw [if_neg e, if_neg e]; exact H.out.2.2.1 i hi, H.out.2.2.2.1.setCell HAR.out.1 _, H.out.2.2.2.2.setOther HAR.out.2 X _⟩
        clear hst h1
        go_wp2
        go_roundw
        case rel => first | exact ⟨k + 1, _, by omega, by go_num, by rw [HN.out], by rw [HN.out]; simp only; congr 1; omega, HNX⟩ | ((repeat apply Exists.intro); exact ⟨⟨k + 1, _, by omega, by go_num, by rw [HN.out], by rw [HN.out]; simp only; congr 1; omega, HNX⟩, rfl⟩)
        case measure => simp [intOf]; omega
    · have hkk : ¬ ((k : Int) < os.length) := by omega
      have hke : k = os.length := by omega
      have HR : Hid ((fr es.length (os.take k)).n = (fr es.length os).n) := Lib.hid (by rw [hke, List.take_length])
      clear hke
      go_wp2
      go_ret2
      refine ⟨?_, H.out.2.2.2.1⟩
      rw [← HR.out]
      first | rfl | (go_simp; done) | (simp; done)
end Go.Proofs.Ytnomlefjldfgiaa
