/- slices.Repeat of one number. The first view: in the program. A result that is a row of numbers of its own. StartView: in the program. The first view: in the model. StartView: in the model. -/
import Derived.Test.YtlgjcofpdaljnaaVEdges
import Derived.Laws.CopyOwn
import Derived.Deep.RegionLaw
import Derived.Test.YtlgjcofpdaljnaaDisp
import Derived.Test.YtlgjcofpdaljnaaEndV
import Derived.Test.YtlgjcofpdaljnaaVValS
import Derived.Test.YtlgjcofpdaljnaaBoxes
namespace Go.Proofs.Ytlgjcofpdaljnaa
open Go.RowKit Go.BigFrame Go.Deep
set_option linter.unusedVariables false
set_option linter.unusedSimpArgs false

theorem mul64 (n : Nat) (h0 : 1 ≤ n) (h : n ≤ 12) (w : World) :
    Calls Try.prog 132 #[.int .u64 1, .int .u64 n] w fun e w' => e = .returned (.tuple #[.int .u64 0, .int .u64 n]) ∧ w = w' := by
  rcases (by omega : n = 1 ∨ n = 2 ∨ n = 3 ∨ n = 4 ∨ n = 5 ∨ n = 6 ∨ n = 7 ∨ n = 8 ∨ n = 9 ∨ n = 10 ∨ n = 11 ∨ n = 12) with rfl | rfl | rfl | rfl | rfl | rfl | rfl | rfl | rfl | rfl | rfl | rfl
  all_goals
    go_enter Try.func132, Try.ntmps132
    go_wp2
    go_ret2
    exact ⟨rfl, rfl⟩
theorem mulU (n : Nat) (h0 : 1 ≤ n) (h : n ≤ 12) (w : World) :
    Calls Try.prog 121 #[.int .u64 1, .int .u64 n] w fun e w' => e = .returned (.tuple #[.int .u64 0, .int .u64 n]) ∧ w = w' := by
  have hc := fun w => mul64 n h0 h w
  have HC := Lib.hid hc
  clear hc
  rcases (by omega : n = 1 ∨ n = 2 ∨ n = 3 ∨ n = 4 ∨ n = 5 ∨ n = 6 ∨ n = 7 ∨ n = 8 ∨ n = 9 ∨ n = 10 ∨ n = 11 ∨ n = 12) with rfl | rfl | rfl | rfl | rfl | rfl | rfl | rfl | rfl | rfl | rfl | rfl
  all_goals
    go_enter Try.func121, Try.ntmps121
    go_wp2_with (go_at_call 132; refine (HC.out _).mono ?_; rintro e w1 ⟨rfl, rfl⟩)
    go_ret2
    exact ⟨rfl, rfl⟩
/-- The first k are x, the others 0. -/
def fillF (k : Nat) (x : Int) (i : Nat) : Value := .int .i64 (if i < k then x else 0)
def fillL (n k : Nat) (x : Int) : List Value := (List.range n).map (fillF k x)
theorem fillL_splice (n k j : Nat) (x : Int) (h : k + j ≤ n) : splice (fillL n k x) k (List.replicate j (.int .i64 x)) = fillL n (k + j) x := by
  have hl : (fillL n k x).length = n := by simp [fillL]
  have hl2 : (splice (fillL n k x) k (List.replicate j (.int .i64 x))).length = n := by unfold splice; simp [hl]; omega
  apply List.ext_getElem
  · rw [hl2]; simp [fillL]
  · intro i h1 h2
    rw [hl2] at h1
    have e2 : (fillL n (k + j) x)[i] = fillF (k + j) x i := by simp [fillL]
    rw [e2]
    unfold splice
    simp only [List.getElem_append, List.length_take, hl, List.length_replicate, List.getElem_take, List.getElem_replicate, List.getElem_drop, fillL, List.getElem_map, List.getElem_range, List.length_map, List.length_range, fillF]
    split
    · rw [if_pos (by omega), if_pos (by omega)]
    · split
      · rw [if_pos (by omega)]
      · rw [if_neg (by omega), if_neg (by omega)]
theorem heap_of_rowIs {w : World} {b : Nat} {t : TypeId} {n k : Nat} {x : Int} (h : w.rowIs b t n (fillF k x)) : w.heap[b]? = some (.cells (fillL n k x).toArray t (0, 0)) := by
  obtain ⟨c, h1, h2, h3⟩ := h
  rw [h1]
  have : c = (fillL n k x).toArray := by
    apply Array.ext'
    apply List.ext_getElem?
    intro i
    by_cases hi : i < n
    · rw [Array.getElem?_toList, h3 i hi]
      simp [fillL, hi]
    · rw [Array.getElem?_toList]
      have e1 : c[i]? = none := Array.getElem?_eq_none (by omega)
      rw [e1]
      exact (List.getElem?_eq_none (by simp [fillL]; omega)).symm
  rw [this]
theorem rowIs_of_heap {w : World} {b : Nat} {t : TypeId} {n k : Nat} {x : Int} (h : w.heap[b]? = some (.cells (fillL n k x).toArray t (0, 0))) : w.rowIs b t n (fillF k x) :=
  ⟨_, h, by simp [fillL], fun i hi => by simp [fillL, hi]⟩
theorem made_fill (w : World) (t : TypeId) (n : Nat) (x : Int) : (w.alloc (.cells (madeCells #[.int .i64 0] n) t)).heap[w.heap.size]? = some (.cells (fillL n 0 x).toArray t (0, 0)) :=
  heap_of_rowIs ((World.rowIs_made w _ _ _).congr (fun i _ => by simp [fillF]))
theorem wrap_small {z : Int} (h0 : 0 ≤ z) (h1 : z ≤ 1000000) : IntKind.i64.wrap z = z := by unfold IntKind.wrap; simp [IntKind.bits, IntKind.signed]; omega
theorem one_size : ((Try.prog.info? 3).map (·.size)) = some 1 := by kernel_rfl

set_option maxRecDepth 20000 in
set_option maxHeartbeats 1000000 in
theorem repeat1 (x : Int) (n : Nat) (h0 : 1 ≤ n) (h12 : n ≤ 12) (g cap : Nat) (w : World) (hg : w.cell? ⟨g, 0, none⟩ = some (.int .i64 x)) (hlt : g < w.heap.size) :
    Calls Try.prog 96 #[.slice (some ⟨g, 0, none⟩) 1 cap, .int .i64 n] w fun e w' => ∃ v, e = .returned v ∧ NewI w w' v (List.replicate n x) ∧ Below w.heap.size w w' := by
  have hmul := fun w => mulU n h0 h12 w
  have HMUL := Lib.hid hmul
  clear hmul
  have n1 : ¬ ((n : Int) < 0) := by omega
  have n2 : ¬ ((n : Int) > 9223372036854775807) := by omega
  have hmk := run_make_row' (P := Try.prog) 26 3 (.int .i64 0) 8 Try.underlying26 info_int2 rfl .i64 .i64 n (by omega) (by omega)
  go_enter Try.func96, Try.ntmps96
  go_wp2_with (first | (go_at_call 121; refine (HMUL.out _).mono ?_; rintro e w1 ⟨rfl, rfl⟩) | (refine wpList_copy_splice rfl (.tmp 31) (.tmp 32) 26 26 rfl 3 Try.underlying26 one_size (some ⟨w.heap.size, 0, none⟩) (some ⟨g, 0, none⟩) n n 1 cap rfl rfl w.heap.size 0 (fillL n 0 x) 3 (made_fill w _ n x) [.int .i64 x] ?c1 ?c2 ?c3 ?c4 w.heap.size w ((Below.refl _ _).alloc (Nat.le_refl _) _) (Nat.le_refl _) ?_))
  case c1 => exact (Nat.min_eq_left h0).symm
  case c2 =>
    intro j v hj
    have h1 := (List.getElem?_eq_some_iff.1 hj).1
    have h2 : j = 0 := by simpa using h1
    subst h2
    simp only [List.getElem?_cons_zero, Option.some.injEq] at hj
    subst hj
    first | exact hg | exact Lib.cell?_alloc_some _ hg
  case c3 => simp [fillL]; omega
  case c4 => intro v hv; rw [List.mem_singleton.1 hv]; rfl
  intro w2 hg2 hb2
  have hg3 : Hid (w2.heap[w.heap.size]? = some (.cells (fillL n 1 x).toArray 3 (0, 0))) := Lib.hid (by have h1 := hg2.out; rw [show [Value.int .i64 x] = List.replicate 1 (.int .i64 x) from rfl, fillL_splice n 0 1 x (by omega)] at h1; exact h1)
  clear hg2 hmk hg
  go_wp2
  go_loopw [8] (fun c wr => ∃ k : Nat, 1 ≤ k ∧ k ≤ n ∧ c = .int .i64 k ∧ Hid (wr.heap[w.heap.size]? = some (.cells (fillL n k x).toArray 3 (0, 0))) ∧ Below w.heap.size w wr) (fun c _ => n - (intOf c).toNat)
  case atStart => exact ⟨1, Nat.le_refl _, h0, rfl, hg3, hb2⟩
  case round =>
    obtain ⟨k, hk1, hkn, rfl, hrow, hbel⟩ := hrel
    clear hg3 hb2
    by_cases hlt : k < n
    · have hlt' : (k : Int) < n := by omega
      obtain ⟨j, hj⟩ : ∃ j, j = Nat.min k (n - k) := ⟨_, rfl⟩
      have hj1 : 1 ≤ j := by rw [hj]; exact Nat.le_min.2 ⟨hk1, by omega⟩
      have hj2 : k + j ≤ n := by have : j ≤ n - k := by rw [hj]; exact Nat.min_le_right _ _
                                 omega
      have hj3 : j ≤ k := by rw [hj]; exact Nat.min_le_left _ _
      have hR := rowIs_of_heap hrow.out
      have hsrc : ∀ i v, (List.replicate j (Value.int .i64 x))[i]? = some v → wr.cell? ((⟨w.heap.size, 0, none⟩ : Addr).add i) = some v := by
        intro i v hi
        have h1 := (List.getElem?_eq_some_iff.1 hi)
        obtain ⟨h1, h2⟩ := h1
        simp at h1 h2
        subst h2
        have h3 := hR.cell (i := i) (by omega)
        rw [show fillF k x i = .int .i64 x by unfold fillF; rw [if_pos (by omega)]] at h3
        by_cases e : i = 0
        · subst e; exact h3
        · simpa [Addr.add, e] using h3
      have HS := Lib.hid hsrc
      have HJ := Lib.hid hj
      have hall : ∀ v ∈ List.replicate j (Value.int .i64 x), v.oneCell' = true := by intro v hv; rw [(List.mem_replicate.1 hv).2]; rfl
      have HA := Lib.hid hall
      have hkk : ¬ ((n : Int) < k) := by omega
      have hwr : IntKind.i64.wrap ((k : Int) + (j : Int)) = (k : Int) + j := wrap_small (by omega) (by omega)
      clear hR hsrc hj hall
      go_wp2
      go_region_law (first | (refine step_copy_splice rfl (.tmp 41) (.tmp 44) 26 26 rfl 3 Try.underlying26 one_size (if n = k then some ⟨w.heap.size, 0, none⟩ else some ⟨w.heap.size, k, none⟩) (some ⟨w.heap.size, 0, none⟩) (n - k) (n - k) k n (by kernel_rfl) (by kernel_rfl) w.heap.size k (fillL n k x) 3 hrow.out (List.replicate j (.int .i64 x)) (by rw [List.length_replicate]; exact HJ.out) (fun _ => ⟨if_neg (by omega), _, rfl, HS.out⟩) (by simp [fillL]; omega) HA.out w.heap.size w (Below.drew hbel) (Nat.le_refl _) ?_; intro w4 hg4 hb4))
      have hg5 : Hid (w4.heap[w.heap.size]? = some (.cells (fillL n (k + j) x).toArray 3 (0, 0))) := Lib.hid (by rw [← fillL_splice n k j x hj2]; exact hg4.out)
      clear hg4
      go_wp2
      go_roundw
      case rel => exact ⟨k + j, by omega, hj2, by simp, hg5⟩
      case measure => simp [intOf]; omega
    · have hke : k = n := by omega
      have hkk : ¬ ((k : Int) < n) := by omega
      have HK := Lib.hid hke
      clear hke
      go_wp2
      go_ret
      have hrow2 := hrow.out
      rw [HK.out] at hrow2
      exact ⟨.slice (some ⟨w.heap.size, 0, none⟩) n n, rfl, ⟨w.heap.size, n, by rw [List.length_replicate], ⟨Nat.le_refl _, by rw [List.length_replicate]; exact Nat.le_refl _⟩, by
        rw [List.length_replicate]
        exact (rowIs_of_heap hrow2).congr (fun i hi => by unfold fillF cellI; rw [if_pos hi]; simp [List.getD, hi])⟩, hbel⟩
end Go.Proofs.Ytlgjcofpdaljnaa
namespace Go.Proofs.Ytlgjcofpdaljnaa
open Go.RowKit Go.BigFrame Go.Deep
set_option linter.unusedVariables false
set_option linter.unusedSimpArgs false

theorem rowIs_keep {w w' : World} {b : Nat} {t : TypeId} {n : Nat} {f : Nat → Value} (h : w.rowIs b t n f) (hb : Below w.heap.size w w') : w'.rowIs b t n f := h.of_block (hb.block b h.lt)

set_option maxRecDepth 20000 in
set_option maxHeartbeats 1000000 in
theorem startValues (m : Int) (n s : Nat) (hm : mKind m = true) (h0 : s < n) (h12 : n ≤ 12) (w : World) :
    Calls Try.prog 91 #[opsV m, .int .i64 n, .int .i64 s] w fun e w' => ∃ v, e = .returned v ∧ NewI w w' v (vStart m n s) ∧ Below w.heap.size w w' := by
  obtain ⟨T, rv, fn, fe, fb, fo, fj, rn, re, rb, ro, rj, D⟩ := disp hm
  rw [D.val]
  have hn1 := D.mn.run
  have hn2 := D.mn.ahead
  have hn3 := D.mn.enter
  have he1 := D.me.run
  have he2 := D.me.ahead
  have he3 := D.me.enter
  have HN := Lib.hid D.cn
  have HE := Lib.hid D.ce
  have hrep := fun g cap w h h' => repeat1 (mNone m) n (by omega) h12 g cap w h h'
  have HR := Lib.hid hrep
  have HD := Lib.hid D
  clear D hrep
  have hs : (s : Int) < n := by omega
  go_enter Try.func91, Try.ntmps91
  go_wp2_with (first | (with_reducible refine (HN.out _).mono ?_; rintro e w1 ⟨rfl, hb1⟩) | (go_at_call 96; refine (HR.out _ _ _ (by go_simp) (by simp)).mono ?_; rintro e w2 ⟨_, rfl, ⟨g, cap, rfl, hg, hrow⟩, hb2⟩) | (with_reducible refine (HE.out _).mono ?_; rintro e w3 ⟨rfl, hb3⟩; have hr3 : w3.rowIs g 3 n (cellI (List.replicate n (mNone m))) := (by simpa using rowIs_keep hrow hb3); have hst := hr3.cell h0; have hfr := hr3.frozen s; have HR3 := Lib.hid hr3; have HG := Lib.hid hg; clear hrow hr3 hg))
  go_ret
  have hB := bel_trans (bel_trans (hb1.alloc hb1.size _) hb2) hb3
  have hg2 : w.heap.size ≤ g := by have h1 := HG.out.1; have h2 := hb1.size; simp at h1; omega
  refine ⟨.slice (some ⟨g, 0, none⟩) n cap, rfl, ⟨g, cap, by rw [vStart_length, Int.toNat_natCast], ⟨hg2, by have h1 := HG.out.2; rw [vStart_length]; simpa using h1⟩, ?_⟩, hB.setCell hg2 _⟩
  rw [vStart_length, Int.toNat_natCast]
  refine (HR3.out.set s _).congr (fun i hi => ?_)
  unfold cellI
  rw [vStart_at m n s (by rw [Int.toNat_natCast]; exact hi)]
  by_cases e : i = s
  · rw [if_pos e, if_pos (by omega)]
  · rw [if_neg e, if_neg (by omega)]
    simp [List.getD, hi]

/-- Is it a node? -/
def inN (n x : Int) : Bool := decide (0 ≤ x) && decide (x < n)
/-- A graph, a kind and nodes. -/
def onOk (n : Int) (es : List Ed) (m : Int) (xs : List Int) : Bool := (gVal n es && xs.all (inN n)) && mKind m

set_option maxHeartbeats 1000000 in
theorem opsOn (n m : Int) (es : List Ed) (xs : List Int) (s t : Value) (w : World) (hs : RowE w s es) (ht : Row w t xs) (hl : es.length ≤ 281474976710656) (hl2 : xs.length ≤ 1000) :
    Calls Try.prog 58 #[.agg #[.int .i64 n, s], .int .i64 m, t] w fun e w' => e = .returned (.tuple #[opsR m (onOk n es m xs), .bool (onOk n es m xs)]) ∧ Below w.heap.size w w' := by
  have hB : ∀ (A : Obj), Below w.heap.size w (w.alloc A) := fun A => (Below.refl _ _).alloc (Nat.le_refl _) _
  have hg := fun A => graphValid n es s (w.alloc A) (hs.keep (hB A)) hl
  have hn := fun x w => hasNode n x s w
  have ho := fun w' => opsAll m [] (.slice none 0 0) w' ⟨none, 0, rfl, .inl rfl⟩ (by simp)
  rw [show mAll m [] = mKind m by simp [mAll]] at ho
  obtain ⟨ad, cap, rfl, hz0⟩ := hs
  obtain ⟨ad2, cap2, rfl, hy0⟩ := ht
  have hy := Lib.hid hy0
  clear hz0 hy0
  have HN := Lib.hid hn
  have HO := Lib.hid ho
  have HB := Lib.hid hB
  obtain ⟨G, hG⟩ : ∃ G, G = gVal n es := ⟨_, rfl⟩
  rw [← hG] at hg
  have HG := Lib.hid hg
  have QG := Lib.hid hG
  clear hg hn ho hB hG
  cases G
  · have e0 : onOk n es m xs = false := by unfold onOk; rw [← QG.out]; rfl
    rw [e0]
    go_enter Try.func58, Try.ntmps58
    go_wp2_with (go_at_call 60; refine (HG.out _).mono ?_; rintro e w1 ⟨rfl, hb1⟩)
    go_ret2
    exact ⟨rfl, bel_trans (HB.out _) hb1⟩
  have e0 : onOk n es m xs = (xs.all (inN n) && mKind m) := by unfold onOk; rw [← QG.out]; simp
  rw [e0]
  clear e0
  go_enter Try.func58, Try.ntmps58
  go_wp2_with (go_at_call 60; refine (HG.out _).mono ?_; rintro e w1 ⟨rfl, hb1⟩)
  have q0 : w1.cell? ⟨w.heap.size, 0, none⟩ = some (.int .i64 n) := (hb1.cell (p := ⟨w.heap.size, 0, none⟩) (by simp)).trans (by go_simp)
  have q1 : w1.cell? ⟨w.heap.size, 1, none⟩ = some (.slice ad es.length cap) := (hb1.cell (p := ⟨w.heap.size, 1, none⟩) (by simp)).trans (by go_simp)
  have hbel1 := bel_trans (HB.out _) hb1
  have hsz1 : w.heap.size < w1.heap.size := Nat.lt_of_lt_of_le (by simp) hb1.size
  clear hb1
  go_loopw [15] (fun c wr => ∃ k : Nat, k ≤ xs.length ∧ c = .int .i64 k ∧ Hid ((xs.take k).all (inN n) = true) ∧ Below w.heap.size w wr ∧ (wr.cell? ⟨w.heap.size, 0, none⟩ = some (.int .i64 n) ∧ wr.cell? ⟨w.heap.size, 1, none⟩ = some (.slice ad es.length cap) ∧ w.heap.size < wr.heap.size)) (fun c _ => xs.length - (intOf c).toNat)
  case atStart => exact ⟨0, Nat.zero_le _, rfl, Lib.hid rfl, hbel1, q0, q1, hsz1⟩
  case round =>
    obtain ⟨k, hk, rfl, HA, hbel, hx0, hx1, hsz⟩ := hrel
    clear q0 q1 hbel1 hsz1
    by_cases hlt : k < xs.length
    · have hlt' : (k : Int) < xs.length := by omega
      rcases hy.out with h0 | ⟨b, off, rfl, hb, hc⟩
      · rw [h0] at hlt; simp at hlt
      obtain ⟨x, hx⟩ : ∃ x, x = xs.getD k 0 := ⟨_, rfl⟩
      have h1 := hc k hlt
      rw [← hx] at h1
      have hck : wr.cell? ⟨b, off + k, none⟩ = some (.int .i64 x) := (hbel.cell (p := ⟨b, _, none⟩) hb).trans h1
      have hsn := all_snoc (inN n) xs k hlt
      have HS := Lib.hid hsn
      have HX := Lib.hid hx
      have hcon := fun w => HN.out x w
      clear hc h1 hx hsn
      obtain ⟨I, hI⟩ : ∃ I, I = inN n x := ⟨_, rfl⟩
      rw [show (decide (0 ≤ x) && decide (x < n)) = inN n x from rfl, ← hI] at hcon
      have HC := Lib.hid hcon
      have HI := Lib.hid hI
      clear hcon hI
      cases I
      · go_wp2_with (go_at_call 83; refine (HC.out _).mono ?_; rintro e w2 ⟨rfl, hb2⟩)
        have hf := all_false (inN n) xs k hlt (by rw [← HX.out]; exact HI.out.symm)
        rw [hf]
        go_ret2
        exact ⟨rfl, bel_trans hbel hb2⟩
      · go_wp2_with (go_at_call 83; refine (HC.out _).mono ?_; rintro e w2 ⟨rfl, hb2⟩)
        have p0 := (hb2.cell (p := ⟨w.heap.size, 0, none⟩) hsz).trans hx0
        have p1 := (hb2.cell (p := ⟨w.heap.size, 1, none⟩) hsz).trans hx1
        have hA2 : Hid ((xs.take (k + 1)).all (inN n) = true) := Lib.hid (by rw [HS.out, HA.out, ← HX.out, ← HI.out]; rfl)
        go_roundw
        case rel => first | exact ⟨k + 1, by omega, by go_num, hA2, bel_trans hbel hb2, p0, p1, Nat.lt_of_lt_of_le hsz hb2.size⟩ | ((repeat apply Exists.intro); exact ⟨⟨k + 1, by omega, by go_num, hA2, bel_trans hbel hb2, p0, p1, Nat.lt_of_lt_of_le hsz hb2.size⟩, rfl⟩)
        case measure => simp [intOf]; omega
    · have hke : k = xs.length := by omega
      have hkk : ¬ ((k : Int) < xs.length) := by omega
      have hall' : xs.all (inN n) = true := by have := HA.out; rw [hke, List.take_length] at this; exact this
      have HA2 := Lib.hid hall'
      clear hke hall'
      obtain ⟨K, hK⟩ : ∃ K, K = mKind m := ⟨_, rfl⟩
      have hoc := HO.out
      rw [← hK] at hoc
      have HOC := Lib.hid hoc
      have HKK := Lib.hid hK
      clear hoc hK
      go_wp2_with (go_at_call 43; refine (HOC.out _).mono ?_; rintro e w2 ⟨rfl, hb2⟩)
      rw [HA2.out, Bool.true_and, ← HKK.out]
      go_ret2
      exact ⟨rfl, bel_trans hbel hb2⟩
end Go.Proofs.Ytlgjcofpdaljnaa
namespace Go.Proofs.Ytlgjcofpdaljnaa
open Go.RowKit Go.BigFrame Go.Deep
set_option linter.unusedVariables false
set_option linter.unusedSimpArgs false

def OwnV (w w' : World) (v : Value) (zs : List Int) : Prop := InR true w' w.heap.size w'.heap.size v zs.length 1 (cellI zs)
theorem OwnV.nil (w w' : World) : OwnV w w' (.slice none 0 0) [] := ⟨none, 0, rfl, .inl rfl⟩
theorem OwnV.slice {w w' : World} {v : Value} {zs : List Int} (h : OwnV w w' v zs) : ∃ a c, v = .slice a zs.length c := by
  obtain ⟨a, c, h, _⟩ := h
  exact ⟨a, c, h⟩
theorem okS_nil : okS (.slice none 0 0) := by
  intro a n c e
  injection e with e1 e2 e3
  subst e1 e2 e3
  exact ⟨Nat.le_refl _, fun _ => rfl, fun x h => by cases h⟩
theorem NewI.own {W w' : World} {v : Value} {zs : List Int} (h : NewI W w' v zs) : OwnV W w' v zs := h.inR
theorem InR.rowI {fz : Bool} {w : World} {lo hi : Nat} {s : Value} {zs : List Int} (r : InR fz w lo hi s zs.length 1 (cellI zs)) : Row w s zs := r.ints
theorem OwnV.row {w w' : World} {v : Value} {zs : List Int} (h : OwnV w w' v zs) : Row w' v zs := InR.rowI h
/-- A row that is new since a later world is new since an earlier one, and stays. -/
theorem OwnV.from {W w w' : World} {v : Value} {zs : List Int} (h : OwnV w w' v zs) (hs : W.heap.size ≤ w.heap.size) : OwnV W w' v zs := InR.wider h hs (Nat.le_refl _) (Nat.le_refl _)
end Go.Proofs.Ytlgjcofpdaljnaa
namespace Go.Proofs.Ytlgjcofpdaljnaa
open Go.RowKit Go.BigFrame Go.Deep
set_option linter.unusedVariables false
set_option linter.unusedSimpArgs false

def stM (n : Int) (es : List Ed) (m a : Int) : Int := if onOk n es m [a] = true then m else 0
def stA (n : Int) (es : List Ed) (m a : Int) : Int := if onOk n es m [a] = true then a else 0
def stL (n : Int) (es : List Ed) (m a : Int) : List Int := if onOk n es m [a] = true then vStart m n a else []
theorem onOk_parts {n : Int} {es : List Ed} {m : Int} {xs : List Int} (h : onOk n es m xs = true) : gVal n es = true ∧ (∀ x ∈ xs, 0 ≤ x ∧ x < n) ∧ mKind m = true := by
  simp only [onOk, Bool.and_eq_true, List.all_eq_true] at h
  refine ⟨h.1.1, fun x hx => ?_, h.2⟩
  have := h.1.2 x hx
  simpa [inN] using this
theorem gVal_n {n : Int} {es : List Ed} (h : gVal n es = true) : 1 ≤ n ∧ n ≤ 12 ∧ es.length ≤ 40 := by
  simp only [gVal, Bool.and_eq_true, decide_eq_true_eq] at h
  exact ⟨h.1.1, h.1.2, h.2.1⟩
theorem row_one2 (w : World) (A B : Obj) (a : Int) : Row (((w.alloc A).alloc B).alloc (.cells #[.int .i64 a] 3)) (.slice (some ⟨w.heap.size + 1 + 1, 0, none⟩) 1 1) [a] := by
  have := row_one ((w.alloc A).alloc B) a 3
  simpa using this

end Go.Proofs.Ytlgjcofpdaljnaa
namespace Go.Proofs.Ytlgjcofpdaljnaa
open Go.RowKit Go.BigFrame Go.Deep
set_option linter.unusedVariables false
set_option linter.unusedSimpArgs false

theorem OwnV.of {w w' : World} {base : Nat} {v : Value} {zs : List Int} (h : w'.ownsRow base 3 1 v zs.length (zs.map (Value.int .i64))) (hb : w.heap.size ≤ base) : OwnV w w' v zs := by
  have h1 := (InR.of_own h).wider (l := w.heap.size) (h := w'.heap.size) hb (Nat.le_refl _) (Nat.le_refl _)
  obtain ⟨a, cap, rfl, hz⟩ := h1
  refine ⟨a, cap, rfl, ?_⟩
  rcases hz with h0 | ⟨b, off, rfl, k1, k2, k3, hc⟩
  · exact .inl h0
  · refine .inr ⟨b, off, rfl, k1, k2, k3, fun i hi => ⟨?_, (hc i hi).2⟩⟩
    rw [(hc i hi).1]
    have hi2 : i < zs.length := by omega
    simp [List.getD, hi2, cellI]
theorem take_map_succ (zs : List Int) (k : Nat) (h : k < zs.length) : (zs.take (k + 1)).map (Value.int .i64) = (zs.take k).map (Value.int .i64) ++ [.int .i64 (zs.getD k 0)] := by
  rw [List.take_succ_eq_append_getElem h, List.map_append]
  simp [List.getD, h]

set_option maxRecDepth 20000 in
set_option maxHeartbeats 4000000 in
theorem l3Start (m : Int) (N A : Nat) (hm : mKind m = true) (h12 : N ≤ 12) (hA : A < N) (ad : Option Addr) (len cap : Nat) (w : World) :
    Calls Try.prog 81 #[.agg #[.int .i64 N, .slice ad len cap], .int .i64 m, .int .i64 A] w fun e w' => ∃ v, e = .returned (.agg #[.int .i64 m, .int .i64 A, v]) ∧ OwnV w w' v (vStart m N A) ∧ okS v ∧ Below w.heap.size w w' := by
  have h1 := fun w => sOne hm w
  have h2 := fun w => sNone hm w
  have HONE := Lib.hid h1
  have HNONE := Lib.hid h2
  obtain ⟨i0, hi, hz0, hz1, hz2⟩ := info_parts info_int2
  have HI := Lib.hid (And.intro hi (And.intro hz0 (And.intro hz1 hz2)))
  clear hi hz0 hz1 hz2 h1 h2
  obtain ⟨Z, hZ⟩ : ∃ Z, Z = vStart m N A := ⟨_, rfl⟩
  have hlen : Z.length = N := by rw [hZ, vStart_length, Int.toNat_natCast]
  have hat : ∀ i, i < N → Z.getD i 0 = if (i : Int) = A then mOne m else mNone m := fun i hi => by rw [hZ]; exact vStart_at m N A (by rw [Int.toNat_natCast]; exact hi)
  rw [← hZ]
  have HLEN := Lib.hid hlen
  have HAT := Lib.hid hat
  clear hZ hlen hat
  go_enter Try.func81, Try.ntmps81
  go_wp2
  go_loopw [8] (fun c wr => ∃ k : Nat, k ≤ N ∧ c = .int .i64 k ∧ Below w.heap.size w wr ∧ (∃ v, Box wr (w.heap.size + 1 + 1) 28 #[.int .i64 m, .int .i64 A, v] ∧ wr.ownsRow w.heap.size 3 1 v k ((Z.take k).map (Value.int .i64))) ∧ Box wr w.heap.size 25 #[.int .i64 N, .slice ad len cap] ∧ Box wr (w.heap.size + 1) 28 #[.int .i64 0, .int .i64 0, .slice none 0 0]) (fun c _ => N - (intOf c).toNat)
  case atStart => exact ⟨0, Nat.zero_le _, rfl, (((Below.refl _ _).alloc (Nat.le_refl _) _).alloc (by simp) _).alloc (by simp; omega) _, ⟨_, by have := Box.new ((w.alloc (.cells #[.int .i64 N, .slice ad len cap] 25)).alloc (.cells #[.int .i64 0, .int .i64 0, .slice none 0 0] 28)) 28 #[.int .i64 m, .int .i64 A, .slice none 0 0]; simpa using this, ⟨by simp, .inl ⟨rfl, rfl⟩⟩⟩, ((Box.new w 25 #[.int .i64 N, .slice ad len cap]).alloc _).alloc _, by have := (Box.new (w.alloc (.cells #[.int .i64 N, .slice ad len cap] 25)) 28 #[.int .i64 0, .int .i64 0, .slice none 0 0]).alloc (.cells #[.int .i64 m, .int .i64 A, .slice none 0 0] 28); simpa using this⟩
  case round =>
    obtain ⟨k, hk, rfl, hbel, ⟨v, hbx, hown⟩, hbg, hbr⟩ := hrel
    have HX := Lib.hid hbx
    have HO := Lib.hid hown
    have HG := Lib.hid hbg
    have HR := Lib.hid hbr
    have x0 := hbx.cell 0
    have x1 := hbx.cell 1
    have x2 := hbx.cell 2
    have x3 := hbx.frozen 2
    have x4 := hbx.lt
    have g0 := hbg.cell 0
    have g4 := hbg.lt
    have r0 := hbr.cell 0
    have r1 := hbr.cell 1
    have r2 := hbr.cell 2
    have s0 := hbr.frozen 0
    have s1 := hbr.frozen 1
    have s2 := hbr.frozen 2
    have r4 := hbr.lt
    simp only [List.getElem?_toArray, List.getElem?_cons_succ, List.getElem?_cons_zero] at x0 x1 x2 g0 r0 r1 r2
    clear hbx hown hbg hbr
    by_cases hlt : k < N
    · have hlt' : (k : Int) < N := by omega
      have ht := take_map_succ Z k (by rw [HLEN.out]; exact hlt)
      rw [HAT.out k hlt] at ht
      have hwr := hbel.size
      obtain ⟨hi, hz0, hz1, hz2⟩ := HI.out
      have hxg : ∀ a w6, World.grownBy ((wr.alloc a).drew) w6 v.ownBlock → Box w6 (w.heap.size + 1 + 1) 28 #[.int .i64 m, .int .i64 A, v] := fun a w6 h => Box.grown (w := (wr.alloc a).drew) (HX.out.alloc a) h (own_drew (HO.out.alloc a)) (by decide)
      have HXG := Lib.hid hxg
      have hgg : ∀ a w6, World.grownBy ((wr.alloc a).drew) w6 v.ownBlock → Box w6 w.heap.size 25 #[.int .i64 N, .slice ad len cap] := fun a w6 h => Box.grown (w := (wr.alloc a).drew) (HG.out.alloc a) h (own_drew (HO.out.alloc a)) (by decide)
      have hrg : ∀ a w6, World.grownBy ((wr.alloc a).drew) w6 v.ownBlock → Box w6 (w.heap.size + 1) 28 #[.int .i64 0, .int .i64 0, .slice none 0 0] := fun a w6 h => Box.grown (w := (wr.alloc a).drew) (HR.out.alloc a) h (own_drew (HO.out.alloc a)) (by decide)
      have HGG := Lib.hid hgg
      have HRG := Lib.hid hrg
      clear hxg hgg hrg
      obtain ⟨x, hx⟩ : ∃ x, x = if (k : Int) = A then mOne m else mNone m := ⟨_, rfl⟩
      rw [← hx] at ht
      have HT := Lib.hid ht
      clear ht
      by_cases he : (k : Int) = A
      · rw [if_pos he] at hx
        have d1 : decide ((k : Int) = A) = true := by simpa using he
        have d2 : ((k : Int) == A) = true := by simpa using he
        have hone := HONE.out
        rw [← hx] at hone
        have HC := Lib.hid hone
        clear he hone hx
        focus
          go_wp2
          go_region_law (first | (refine step_append_own rfl (.tmp 22) (.tmp 25) 26 rfl w.heap.size 3 i0 (.int .i64 0) 1 8 Try.underlying26 hi hz0 hz1 hz2 rfl (by decide) _ _ _ rfl (own_drew (HO.out.alloc _)) ⟨wr.heap.size, 0, none⟩ 1 1 [.int .i64 x] rfl rfl (cells_new1 _ _ _) (by simp [Value.oneCell']) (by unfold maxLen; omega) (by omega) (by simp; omega) ?_; intro v' w6 hown6 hgrow6; obtain ⟨va, vc, rfl⟩ := own_slice hown6; have HX6 := Lib.hid (HXG.out _ _ hgrow6); have y2 := HX6.out.cell 2; have y3 := HX6.out.frozen 2; have y0 := (HGG.out _ _ hgrow6).cell 0; simp only [List.getElem?_toArray, List.getElem?_cons_succ, List.getElem?_cons_zero] at y2 y0) | (go_simp; go_at_call 105; refine (HC.out _).mono ?_; rintro e w1 ⟨rfl, rfl⟩))
          all_goals go_wp2
          all_goals go_roundw
          all_goals first | (simp [intOf]; omega) | exact ⟨k + 1, by omega, by go_num, ((((hbel.alloc hwr _).drew).grown hgrow6 (by simp; omega) (fun q hq => (HO.out.lt q hq).1)).setCell (by simp; omega) _), ⟨_, by have := HX6.out.set 2 (.slice va (k + 1) vc); simpa using this, by rw [HT.out]; exact HX6.out.own hown6 (by decide)⟩, (HGG.out _ _ hgrow6).setOther (by omega) 2 _, (HRG.out _ _ hgrow6).setOther (by omega) 2 _⟩ | ((repeat apply Exists.intro); exact ⟨⟨k + 1, by omega, by go_num, ((((hbel.alloc hwr _).drew).grown hgrow6 (by simp; omega) (fun q hq => (HO.out.lt q hq).1)).setCell (by simp; omega) _), ⟨_, by have := HX6.out.set 2 (.slice va (k + 1) vc); simpa using this, by rw [HT.out]; exact HX6.out.own hown6 (by decide)⟩, (HGG.out _ _ hgrow6).setOther (by omega) 2 _, (HRG.out _ _ hgrow6).setOther (by omega) 2 _⟩, rfl⟩)

      · rw [if_neg he] at hx
        have d1 : decide ((k : Int) = A) = false := by simpa using he
        have d2 : ((k : Int) == A) = false := by simpa using he
        have hone := HNONE.out
        rw [← hx] at hone
        have HC := Lib.hid hone
        clear he hone hx
        focus
          go_wp2
          go_region_law (first | (refine step_append_own rfl (.tmp 29) (.tmp 32) 26 rfl w.heap.size 3 i0 (.int .i64 0) 1 8 Try.underlying26 hi hz0 hz1 hz2 rfl (by decide) _ _ _ rfl (own_drew (HO.out.alloc _)) ⟨wr.heap.size, 0, none⟩ 1 1 [.int .i64 x] rfl rfl (cells_new1 _ _ _) (by simp [Value.oneCell']) (by unfold maxLen; omega) (by omega) (by simp; omega) ?_; intro v' w6 hown6 hgrow6; obtain ⟨va, vc, rfl⟩ := own_slice hown6; have HX6 := Lib.hid (HXG.out _ _ hgrow6); have y2 := HX6.out.cell 2; have y3 := HX6.out.frozen 2; have y0 := (HGG.out _ _ hgrow6).cell 0; simp only [List.getElem?_toArray, List.getElem?_cons_succ, List.getElem?_cons_zero] at y2 y0) | (go_simp; go_at_call 106; refine (HC.out _).mono ?_; rintro e w1 ⟨rfl, rfl⟩))
          all_goals go_wp2
          all_goals go_roundw
          all_goals first | (simp [intOf]; omega) | exact ⟨k + 1, by omega, by go_num, ((((hbel.alloc hwr _).drew).grown hgrow6 (by simp; omega) (fun q hq => (HO.out.lt q hq).1)).setCell (by simp; omega) _), ⟨_, by have := HX6.out.set 2 (.slice va (k + 1) vc); simpa using this, by rw [HT.out]; exact HX6.out.own hown6 (by decide)⟩, (HGG.out _ _ hgrow6).setOther (by omega) 2 _, (HRG.out _ _ hgrow6).setOther (by omega) 2 _⟩ | ((repeat apply Exists.intro); exact ⟨⟨k + 1, by omega, by go_num, ((((hbel.alloc hwr _).drew).grown hgrow6 (by simp; omega) (fun q hq => (HO.out.lt q hq).1)).setCell (by simp; omega) _), ⟨_, by have := HX6.out.set 2 (.slice va (k + 1) vc); simpa using this, by rw [HT.out]; exact HX6.out.own hown6 (by decide)⟩, (HGG.out _ _ hgrow6).setOther (by omega) 2 _, (HRG.out _ _ hgrow6).setOther (by omega) 2 _⟩, rfl⟩)

    · have hke : k = N := by omega
      have hkk : ¬ ((k : Int) < N) := by omega
      have ht : Z.take k = Z := List.take_of_length_le (by have := HLEN.out; omega)
      rw [ht] at HO
      have hkl : k = Z.length := by have := HLEN.out; omega
      have HK := Lib.hid hkl
      clear hke ht hkl
      obtain ⟨va, vc, rfl⟩ := own_slice HO.out
      go_wp2
      try simp only [Exit.inBlock, Exit.then]
      refine bodyPost_ret (v := .agg #[.int .i64 m, .int .i64 A, .slice va k vc]) ?_ rfl ?_
      · rw [results_cell1 rfl]
        go_simp
      refine ⟨_, rfl, ?_, own_ok HO.out, ((hbel.setCell (by simp) _).setCell (by simp) _).setCell (by simp) _⟩
      have ho := HO.out
      have hr := HR.out
      rw [HK.out] at ho ⊢
      exact OwnV.of (((hr.set 0 _).set 1 _).own ((hr.set 0 _).own (hr.own ho (by decide)) (by decide)) (by decide)) (Nat.le_refl _)
end Go.Proofs.Ytlgjcofpdaljnaa
namespace Go.Proofs.Ytlgjcofpdaljnaa
open Go.RowKit Go.BigFrame Go.Deep
set_option linter.unusedVariables false
set_option linter.unusedSimpArgs false

theorem onOk_one (n : Int) (es : List Ed) (m a : Int) : onOk n es m [a] = ((gVal n es && (decide (0 ≤ a) && decide (a < n))) && mKind m) := by simp [onOk, inN]

set_option maxHeartbeats 1000000 in
theorem l3Right (n m a : Int) (es : List Ed) (s : Value) (w : World) (hs : RowE w s es) (hl : es.length ≤ 281474976710656) :
    Calls Try.prog 52 #[.agg #[.int .i64 n, s], .int .i64 m, .int .i64 a] w fun e w' => e = .returned (.bool (onOk n es m [a])) ∧ Below w.heap.size w w' := by
  have hB : ∀ (A : Obj), Below w.heap.size w (w.alloc A) := fun A => (Below.refl _ _).alloc (Nat.le_refl _) _
  have hg := fun A => sGraphValid n es s (w.alloc A) (hs.keep (hB A)) hl
  have hk := fun w => sKind m w
  obtain ⟨ad, cap, rfl, hz0⟩ := hs
  clear hz0
  rw [onOk_one]
  generalize gVal n es = G at hg ⊢
  generalize mKind m = K at hk ⊢
  have HG := Lib.hid hg
  have HK := Lib.hid hk
  have HB := Lib.hid hB
  clear hg hk hB
  cases G
  · rw [Bool.false_and, Bool.false_and]
    go_enter Try.func52, Try.ntmps52
    go_wp2_with (first | (go_at_call 85; refine (HG.out _).mono ?_; rintro e w1 ⟨rfl, hb1⟩))
    go_ret
    exact ⟨rfl, bel_trans (HB.out _) hb1⟩
  rw [Bool.true_and]
  cases K
  · rw [Bool.and_false]
    go_enter Try.func52, Try.ntmps52
    go_wp2_with (first | (go_at_call 85; refine (HG.out _).mono ?_; rintro e w1 ⟨rfl, hb1⟩) | (go_at_call 86; refine (HK.out _).mono ?_; rintro e w2 ⟨rfl, rfl⟩))
    go_ret
    exact ⟨rfl, bel_trans (HB.out _) hb1⟩
  rw [Bool.and_true]
  by_cases h1 : 0 ≤ a
  rotate_left
  · have d1 : decide (0 ≤ a) = false := by simpa using h1
    rw [d1, Bool.false_and]
    go_enter Try.func52, Try.ntmps52
    go_wp2_with (first | (go_at_call 85; refine (HG.out _).mono ?_; rintro e w1 ⟨rfl, hb1⟩) | (go_at_call 86; refine (HK.out _).mono ?_; rintro e w2 ⟨rfl, rfl⟩))
    go_ret
    exact ⟨rfl, bel_trans (HB.out _) hb1⟩
  have d1 : decide (0 ≤ a) = true := by simpa using h1
  rw [d1, Bool.true_and]
  go_enter Try.func52, Try.ntmps52
  go_wp2_with (first | (go_at_call 85; refine (HG.out _).mono ?_; rintro e w1 ⟨rfl, hb1⟩; have x0 := hb1.cell (p := ⟨w.heap.size, 0, none⟩) (by simp <;> omega)) | (go_at_call 86; refine (HK.out _).mono ?_; rintro e w2 ⟨rfl, rfl⟩))
  go_ret
  exact ⟨rfl, bel_trans (HB.out _) hb1⟩

end Go.Proofs.Ytlgjcofpdaljnaa
