/- slices.Repeat of one number. -/
import Derived.Test.YtjcfefpcilhelaaVEdges
import Derived.Laws.CopyOwn
import Derived.Deep.RegionLaw
namespace Go.Proofs.Ytjcfefpcilhelaa
open Go.RowKit Go.BigFrame Go.Deep
set_option linter.unusedVariables false
set_option linter.unusedSimpArgs false

theorem mul64 (n : Nat) (h0 : 1 ≤ n) (h : n ≤ 12) (w : World) :
    Calls Try.prog 147 #[.int .u64 1, .int .u64 n] w fun e w' => e = .returned (.tuple #[.int .u64 0, .int .u64 n]) ∧ w = w' := by
  rcases (by omega : n = 1 ∨ n = 2 ∨ n = 3 ∨ n = 4 ∨ n = 5 ∨ n = 6 ∨ n = 7 ∨ n = 8 ∨ n = 9 ∨ n = 10 ∨ n = 11 ∨ n = 12) with rfl | rfl | rfl | rfl | rfl | rfl | rfl | rfl | rfl | rfl | rfl | rfl
  all_goals
    go_enter Try.func147, Try.ntmps147
    go_wp2
    go_ret2
    exact ⟨rfl, rfl⟩
theorem mulU (n : Nat) (h0 : 1 ≤ n) (h : n ≤ 12) (w : World) :
    Calls Try.prog 128 #[.int .u64 1, .int .u64 n] w fun e w' => e = .returned (.tuple #[.int .u64 0, .int .u64 n]) ∧ w = w' := by
  have hc := fun w => mul64 n h0 h w
  have HC := Lib.hid hc
  clear hc
  rcases (by omega : n = 1 ∨ n = 2 ∨ n = 3 ∨ n = 4 ∨ n = 5 ∨ n = 6 ∨ n = 7 ∨ n = 8 ∨ n = 9 ∨ n = 10 ∨ n = 11 ∨ n = 12) with rfl | rfl | rfl | rfl | rfl | rfl | rfl | rfl | rfl | rfl | rfl | rfl
  all_goals
    go_enter Try.func128, Try.ntmps128
    go_wp2_with (go_at_call 147; refine (HC.out _).mono ?_; rintro e w1 ⟨rfl, rfl⟩)
    go_ret2
    exact ⟨rfl, rfl⟩
/-- The first k are x, the others 0. -/
def fillF (k : Nat) (x : Int) (i : Nat) : Value := .int .i64 (if i < k then x else 0)
def fillL (n k : Nat) (x : Int) : List Value := (List.range n).map (fillF k x)
theorem fillL_splice (n k j : Nat) (x : Int) (h : k + j ≤ n) : splice (fillL n k x) k (List.replicate j (.int .i64 x)) = fillL n (k + j) x := by
  have hl : (fillL n k x).length = n := by simp [fillL]
  have hl2 : (splice (fillL n k x) k (List.replicate j (.int .i64 x))).length = n := by unfold splice; simp [hl]; omega
  apply List.ext_getElem
  · rw [hl2]; simp [fillL]
  · intro i h1 h2
    rw [hl2] at h1
    have e2 : (fillL n (k + j) x)[i] = fillF (k + j) x i := by simp [fillL]
    rw [e2]
    unfold splice
    simp only [List.getElem_append, List.length_take, hl, List.length_replicate, List.getElem_take, List.getElem_replicate, List.getElem_drop, fillL, List.getElem_map, List.getElem_range, List.length_map, List.length_range, fillF]
    split
    · rw [if_pos (by omega), if_pos (by omega)]
    · split
      · rw [if_pos (by omega)]
      · rw [if_neg (by omega), if_neg (by omega)]
theorem heap_of_rowIs {w : World} {b : Nat} {t : TypeId} {n k : Nat} {x : Int} (h : w.rowIs b t n (fillF k x)) : w.heap[b]? = some (.cells (fillL n k x).toArray t (0, 0)) := by
  obtain ⟨c, h1, h2, h3⟩ := h
  rw [h1]
  have : c = (fillL n k x).toArray := by
    apply Array.ext'
    apply List.ext_getElem?
    intro i
    by_cases hi : i < n
    · rw [Array.getElem?_toList, h3 i hi]
      simp [fillL, hi]
    · rw [Array.getElem?_toList]
      have e1 : c[i]? = none := Array.getElem?_eq_none (by omega)
      rw [e1]
      exact (List.getElem?_eq_none (by simp [fillL]; omega)).symm
  rw [this]
theorem rowIs_of_heap {w : World} {b : Nat} {t : TypeId} {n k : Nat} {x : Int} (h : w.heap[b]? = some (.cells (fillL n k x).toArray t (0, 0))) : w.rowIs b t n (fillF k x) :=
  ⟨_, h, by simp [fillL], fun i hi => by simp [fillL, hi]⟩
theorem made_fill (w : World) (t : TypeId) (n : Nat) (x : Int) : (w.alloc (.cells (madeCells #[.int .i64 0] n) t)).heap[w.heap.size]? = some (.cells (fillL n 0 x).toArray t (0, 0)) :=
  heap_of_rowIs ((World.rowIs_made w _ _ _).congr (fun i _ => by simp [fillF]))
theorem wrap_small {z : Int} (h0 : 0 ≤ z) (h1 : z ≤ 1000000) : IntKind.i64.wrap z = z := by unfold IntKind.wrap; simp [IntKind.bits, IntKind.signed]; omega
theorem one_size : ((Try.prog.info? 3).map (·.size)) = some 1 := by kernel_rfl

set_option maxRecDepth 20000 in
set_option maxHeartbeats 1000000 in
theorem repeat1 (x : Int) (n : Nat) (h0 : 1 ≤ n) (h12 : n ≤ 12) (g cap : Nat) (w : World) (hg : w.cell? ⟨g, 0, none⟩ = some (.int .i64 x)) (hlt : g < w.heap.size) :
    Calls Try.prog 106 #[.slice (some ⟨g, 0, none⟩) 1 cap, .int .i64 n] w fun e w' => ∃ v, e = .returned v ∧ NewI w w' v (List.replicate n x) ∧ Below w.heap.size w w' := by
  have hmul := fun w => mulU n h0 h12 w
  have HMUL := Lib.hid hmul
  clear hmul
  have n1 : ¬ ((n : Int) < 0) := by omega
  have n2 : ¬ ((n : Int) > 9223372036854775807) := by omega
  have hmk := run_make_row' (P := Try.prog) 28 3 (.int .i64 0) 8 Try.underlying28 info_int2 rfl .i64 .i64 n (by omega) (by omega)
  go_enter Try.func106, Try.ntmps106
  go_wp2_with (first | (go_at_call 128; refine (HMUL.out _).mono ?_; rintro e w1 ⟨rfl, rfl⟩) | (refine wpList_copy_splice rfl (.tmp 31) (.tmp 32) 28 28 rfl 3 Try.underlying28 one_size (some ⟨w.heap.size, 0, none⟩) (some ⟨g, 0, none⟩) n n 1 cap rfl rfl w.heap.size 0 (fillL n 0 x) 3 (made_fill w _ n x) [.int .i64 x] ?c1 ?c2 ?c3 ?c4 w.heap.size w ((Below.refl _ _).alloc (Nat.le_refl _) _) (Nat.le_refl _) ?_))
  case c1 => exact (Nat.min_eq_left h0).symm
  case c2 =>
    intro j v hj
    have h1 := (List.getElem?_eq_some_iff.1 hj).1
    have h2 : j = 0 := by simpa using h1
    subst h2
    simp only [List.getElem?_cons_zero, Option.some.injEq] at hj
    subst hj
    first | exact hg | exact Lib.cell?_alloc_some _ hg
  case c3 => simp [fillL]; omega
  case c4 => intro v hv; rw [List.mem_singleton.1 hv]; rfl
  intro w2 hg2 hb2
  have hg3 : Hid (w2.heap[w.heap.size]? = some (.cells (fillL n 1 x).toArray 3 (0, 0))) := Lib.hid (by have h1 := hg2.out; rw [show [Value.int .i64 x] = List.replicate 1 (.int .i64 x) from rfl, fillL_splice n 0 1 x (by omega)] at h1; exact h1)
  clear hg2 hmk hg
  go_wp2
  go_loopw [8] (fun c wr => ∃ k : Nat, 1 ≤ k ∧ k ≤ n ∧ c = .int .i64 k ∧ Hid (wr.heap[w.heap.size]? = some (.cells (fillL n k x).toArray 3 (0, 0))) ∧ Below w.heap.size w wr) (fun c _ => n - (intOf c).toNat)
  case atStart => exact ⟨1, Nat.le_refl _, h0, rfl, hg3, hb2⟩
  case round =>
    obtain ⟨k, hk1, hkn, rfl, hrow, hbel⟩ := hrel
    clear hg3 hb2
    by_cases hlt : k < n
    · have hlt' : (k : Int) < n := by omega
      obtain ⟨j, hj⟩ : ∃ j, j = Nat.min k (n - k) := ⟨_, rfl⟩
      have hj1 : 1 ≤ j := by rw [hj]; exact Nat.le_min.2 ⟨hk1, by omega⟩
      have hj2 : k + j ≤ n := by have : j ≤ n - k := by rw [hj]; exact Nat.min_le_right _ _
                                 omega
      have hj3 : j ≤ k := by rw [hj]; exact Nat.min_le_left _ _
      have hR := rowIs_of_heap hrow.out
      have hsrc : ∀ i v, (List.replicate j (Value.int .i64 x))[i]? = some v → wr.cell? ((⟨w.heap.size, 0, none⟩ : Addr).add i) = some v := by
        intro i v hi
        have h1 := (List.getElem?_eq_some_iff.1 hi)
        obtain ⟨h1, h2⟩ := h1
        simp at h1 h2
        subst h2
        have h3 := hR.cell (i := i) (by omega)
        rw [show fillF k x i = .int .i64 x by unfold fillF; rw [if_pos (by omega)]] at h3
        by_cases e : i = 0
        · subst e; exact h3
        · simpa [Addr.add, e] using h3
      have HS := Lib.hid hsrc
      have HJ := Lib.hid hj
      have hall : ∀ v ∈ List.replicate j (Value.int .i64 x), v.oneCell' = true := by intro v hv; rw [(List.mem_replicate.1 hv).2]; rfl
      have HA := Lib.hid hall
      have hkk : ¬ ((n : Int) < k) := by omega
      have hwr : IntKind.i64.wrap ((k : Int) + (j : Int)) = (k : Int) + j := wrap_small (by omega) (by omega)
      clear hR hsrc hj hall
      go_wp2
      go_region_law (first | (refine step_copy_splice rfl (.tmp 41) (.tmp 44) 28 28 rfl 3 Try.underlying28 one_size (if n = k then some ⟨w.heap.size, 0, none⟩ else some ⟨w.heap.size, k, none⟩) (some ⟨w.heap.size, 0, none⟩) (n - k) (n - k) k n (by kernel_rfl) (by kernel_rfl) w.heap.size k (fillL n k x) 3 hrow.out (List.replicate j (.int .i64 x)) (by rw [List.length_replicate]; exact HJ.out) (fun _ => ⟨if_neg (by omega), _, rfl, HS.out⟩) (by simp [fillL]; omega) HA.out w.heap.size w (Below.drew hbel) (Nat.le_refl _) ?_; intro w4 hg4 hb4))
      have hg5 : Hid (w4.heap[w.heap.size]? = some (.cells (fillL n (k + j) x).toArray 3 (0, 0))) := Lib.hid (by rw [← fillL_splice n k j x hj2]; exact hg4.out)
      clear hg4
      go_wp2
      go_roundw
      case rel => exact ⟨k + j, by omega, hj2, by simp, hg5⟩
      case measure => simp [intOf]; omega
    · have hke : k = n := by omega
      have hkk : ¬ ((k : Int) < n) := by omega
      have HK := Lib.hid hke
      clear hke
      go_wp2
      go_ret
      have hrow2 := hrow.out
      rw [HK.out] at hrow2
      exact ⟨.slice (some ⟨w.heap.size, 0, none⟩) n n, rfl, ⟨w.heap.size, n, by rw [List.length_replicate], ⟨Nat.le_refl _, by rw [List.length_replicate]; exact Nat.le_refl _⟩, by
        rw [List.length_replicate]
        exact (rowIs_of_heap hrow2).congr (fun i hi => by unfold fillF cellI; rw [if_pos hi]; simp [List.getD, hi])⟩, hbel⟩
end Go.Proofs.Ytjcfefpcilhelaa
