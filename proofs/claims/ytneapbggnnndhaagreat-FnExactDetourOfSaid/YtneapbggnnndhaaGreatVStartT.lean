/- slices.Repeat of one number. The first view: in the program. A result that is a row of numbers of its own. StartView: in the program. The first view: in the model. StartView: in the model. -/
import Derived.Test.YtneapbggnnndhaaGreatVEdges
import Derived.Laws.CopyOwn
import Derived.Deep.RegionLaw
import Derived.Test.YtneapbggnnndhaaGreatDisp
import Derived.Test.YtneapbggnnndhaaGreatEndV
import Derived.Test.YtneapbggnnndhaaGreatVValS
import Derived.Test.YtneapbggnnndhaaGreatBoxes
namespace Go.Proofs.YtneapbggnnndhaaGreat
open Go.RowKit Go.BigFrame Go.Deep
set_option linter.unusedVariables false
set_option linter.unusedSimpArgs false

/-- The first k are x, the others 0. -/
def fillF (k : Nat) (x : Int) (i : Nat) : Value := .int .i64 (if i < k then x else 0)
def fillL (n k : Nat) (x : Int) : List Value := (List.range n).map (fillF k x)
theorem fillL_splice (n k j : Nat) (x : Int) (h : k + j ≤ n) : splice (fillL n k x) k (List.replicate j (.int .i64 x)) = fillL n (k + j) x := by
  have hl : (fillL n k x).length = n := by simp [fillL]
  have hl2 : (splice (fillL n k x) k (List.replicate j (.int .i64 x))).length = n := by unfold splice; simp [hl]; omega
  apply List.ext_getElem
  · rw [hl2]; simp [fillL]
  · intro i h1 h2
    rw [hl2] at h1
    have e2 : (fillL n (k + j) x)[i] = fillF (k + j) x i := by simp [fillL]
    rw [e2]
    unfold splice
    simp only [List.getElem_append, List.length_take, hl, List.length_replicate, List.getElem_take, List.getElem_replicate, List.getElem_drop, fillL, List.getElem_map, List.getElem_range, List.length_map, List.length_range, fillF]
    split
    · rw [if_pos (by omega), if_pos (by omega)]
    · split
      · rw [if_pos (by omega)]
      · rw [if_neg (by omega), if_neg (by omega)]
theorem heap_of_rowIs {w : World} {b : Nat} {t : TypeId} {n k : Nat} {x : Int} (h : w.rowIs b t n (fillF k x)) : w.heap[b]? = some (.cells (fillL n k x).toArray t (0, 0)) := by
  obtain ⟨c, h1, h2, h3⟩ := h
  rw [h1]
  have : c = (fillL n k x).toArray := by
    apply Array.ext'
    apply List.ext_getElem?
    intro i
    by_cases hi : i < n
    · rw [Array.getElem?_toList, h3 i hi]
      simp [fillL, hi]
    · rw [Array.getElem?_toList]
      have e1 : c[i]? = none := Array.getElem?_eq_none (by omega)
      rw [e1]
      exact (List.getElem?_eq_none (by simp [fillL]; omega)).symm
  rw [this]
theorem rowIs_of_heap {w : World} {b : Nat} {t : TypeId} {n k : Nat} {x : Int} (h : w.heap[b]? = some (.cells (fillL n k x).toArray t (0, 0))) : w.rowIs b t n (fillF k x) :=
  ⟨_, h, by simp [fillL], fun i hi => by simp [fillL, hi]⟩
theorem made_fill (w : World) (t : TypeId) (n : Nat) (x : Int) : (w.alloc (.cells (madeCells #[.int .i64 0] n) t)).heap[w.heap.size]? = some (.cells (fillL n 0 x).toArray t (0, 0)) :=
  heap_of_rowIs ((World.rowIs_made w _ _ _).congr (fun i _ => by simp [fillF]))
theorem wrap_small {z : Int} (h0 : 0 ≤ z) (h1 : z ≤ 1000000) : IntKind.i64.wrap z = z := by unfold IntKind.wrap; simp [IntKind.bits, IntKind.signed]; omega
theorem one_size : ((Tryz.prog.info? 3).map (·.size)) = some 1 := by kernel_rfl

end Go.Proofs.YtneapbggnnndhaaGreat
namespace Go.Proofs.YtneapbggnnndhaaGreat
open Go.RowKit Go.BigFrame Go.Deep
set_option linter.unusedVariables false
set_option linter.unusedSimpArgs false

theorem rowIs_keep {w w' : World} {b : Nat} {t : TypeId} {n : Nat} {f : Nat → Value} (h : w.rowIs b t n f) (hb : Below w.heap.size w w') : w'.rowIs b t n f := h.of_block (hb.block b h.lt)

/-- Is it a node? -/
def inN (n x : Int) : Bool := decide (0 ≤ x) && decide (x < n)
/-- A graph, a kind and nodes. -/
def onOk (n : Int) (es : List Ed) (m : Int) (xs : List Int) : Bool := (gVal n es && xs.all (inN n)) && mKind m

set_option maxHeartbeats 1000000 in
theorem opsOn (n m : Int) (es : List Ed) (xs : List Int) (s t : Value) (w : World) (hs : RowE w s es) (ht : Row w t xs) (hl : es.length ≤ 281474976710656) (hl2 : xs.length ≤ 1000) :
    Calls Tryz.prog 60 #[.agg #[.int .i64 n, s], .int .i64 m, t] w fun e w' => e = .returned (.tuple #[opsR m (onOk n es m xs), .bool (onOk n es m xs)]) ∧ Below w.heap.size w w' := by
  have hB : ∀ (A : Obj), Below w.heap.size w (w.alloc A) := fun A => (Below.refl _ _).alloc (Nat.le_refl _) _
  have hg := fun A => graphValid n es s (w.alloc A) (hs.keep (hB A)) hl
  have hn := fun x w => hasNode n x s w
  have ho := fun w' => opsAll m [] (.slice none 0 0) w' ⟨none, 0, rfl, .inl rfl⟩ (by simp)
  rw [show mAll m [] = mKind m by simp [mAll]] at ho
  obtain ⟨ad, cap, rfl, hz0⟩ := hs
  obtain ⟨ad2, cap2, rfl, hy0⟩ := ht
  have hy := Lib.hid hy0
  clear hz0 hy0
  have HN := Lib.hid hn
  have HO := Lib.hid ho
  have HB := Lib.hid hB
  obtain ⟨G, hG⟩ : ∃ G, G = gVal n es := ⟨_, rfl⟩
  rw [← hG] at hg
  have HG := Lib.hid hg
  have QG := Lib.hid hG
  clear hg hn ho hB hG
  cases G
  · have e0 : onOk n es m xs = false := by unfold onOk; rw [← QG.out]; rfl
    rw [e0]
    go_enter Tryz.func60, Tryz.ntmps60
    go_wp2_with (go_at_call 74; refine (HG.out _).mono ?_; rintro e w1 ⟨rfl, hb1⟩)
    go_ret2
    exact ⟨rfl, bel_trans (HB.out _) hb1⟩
  have e0 : onOk n es m xs = (xs.all (inN n) && mKind m) := by unfold onOk; rw [← QG.out]; simp
  rw [e0]
  clear e0
  go_enter Tryz.func60, Tryz.ntmps60
  go_wp2_with (go_at_call 74; refine (HG.out _).mono ?_; rintro e w1 ⟨rfl, hb1⟩)
  have q0 : w1.cell? ⟨w.heap.size, 0, none⟩ = some (.int .i64 n) := (hb1.cell (p := ⟨w.heap.size, 0, none⟩) (by simp)).trans (by go_simp)
  have q1 : w1.cell? ⟨w.heap.size, 1, none⟩ = some (.slice ad es.length cap) := (hb1.cell (p := ⟨w.heap.size, 1, none⟩) (by simp)).trans (by go_simp)
  have hbel1 := bel_trans (HB.out _) hb1
  have hsz1 : w.heap.size < w1.heap.size := Nat.lt_of_lt_of_le (by simp) hb1.size
  clear hb1
  go_loopw [15] (fun c wr => ∃ k : Nat, k ≤ xs.length ∧ c = .int .i64 k ∧ Hid ((xs.take k).all (inN n) = true) ∧ Below w.heap.size w wr ∧ (wr.cell? ⟨w.heap.size, 0, none⟩ = some (.int .i64 n) ∧ wr.cell? ⟨w.heap.size, 1, none⟩ = some (.slice ad es.length cap) ∧ w.heap.size < wr.heap.size)) (fun c _ => xs.length - (intOf c).toNat)
  case atStart => exact ⟨0, Nat.zero_le _, rfl, Lib.hid rfl, hbel1, q0, q1, hsz1⟩
  case round =>
    obtain ⟨k, hk, rfl, HA, hbel, hx0, hx1, hsz⟩ := hrel
    clear q0 q1 hbel1 hsz1
    by_cases hlt : k < xs.length
    · have hlt' : (k : Int) < xs.length := by omega
      rcases hy.out with h0 | ⟨b, off, rfl, hb, hc⟩
      · rw [h0] at hlt; simp at hlt
      obtain ⟨x, hx⟩ : ∃ x, x = xs.getD k 0 := ⟨_, rfl⟩
      have h1 := hc k hlt
      rw [← hx] at h1
      have hck : wr.cell? ⟨b, off + k, none⟩ = some (.int .i64 x) := (hbel.cell (p := ⟨b, _, none⟩) hb).trans h1
      have hsn := all_snoc (inN n) xs k hlt
      have HS := Lib.hid hsn
      have HX := Lib.hid hx
      have hcon := fun w => HN.out x w
      clear hc h1 hx hsn
      obtain ⟨I, hI⟩ : ∃ I, I = inN n x := ⟨_, rfl⟩
      rw [show (decide (0 ≤ x) && decide (x < n)) = inN n x from rfl, ← hI] at hcon
      have HC := Lib.hid hcon
      have HI := Lib.hid hI
      clear hcon hI
      cases I
      · go_wp2_with (go_at_call 75; refine (HC.out _).mono ?_; rintro e w2 ⟨rfl, hb2⟩)
        have hf := all_false (inN n) xs k hlt (by rw [← HX.out]; exact HI.out.symm)
        rw [hf]
        go_ret2
        exact ⟨rfl, bel_trans hbel hb2⟩
      · go_wp2_with (go_at_call 75; refine (HC.out _).mono ?_; rintro e w2 ⟨rfl, hb2⟩)
        have p0 := (hb2.cell (p := ⟨w.heap.size, 0, none⟩) hsz).trans hx0
        have p1 := (hb2.cell (p := ⟨w.heap.size, 1, none⟩) hsz).trans hx1
        have hA2 : Hid ((xs.take (k + 1)).all (inN n) = true) := Lib.hid (by rw [HS.out, HA.out, ← HX.out, ← HI.out]; rfl)
        go_roundw
        case rel => first | exact ⟨k + 1, by omega, by go_num, hA2, bel_trans hbel hb2, p0, p1, Nat.lt_of_lt_of_le hsz hb2.size⟩ | ((repeat apply Exists.intro); exact ⟨⟨k + 1, by omega, by go_num, hA2, bel_trans hbel hb2, p0, p1, Nat.lt_of_lt_of_le hsz hb2.size⟩, rfl⟩)
        case measure => simp [intOf]; omega
    · have hke : k = xs.length := by omega
      have hkk : ¬ ((k : Int) < xs.length) := by omega
      have hall' : xs.all (inN n) = true := by have := HA.out; rw [hke, List.take_length] at this; exact this
      have HA2 := Lib.hid hall'
      clear hke hall'
      obtain ⟨K, hK⟩ : ∃ K, K = mKind m := ⟨_, rfl⟩
      have hoc := HO.out
      rw [← hK] at hoc
      have HOC := Lib.hid hoc
      have HKK := Lib.hid hK
      clear hoc hK
      go_wp2_with (go_at_call 48; refine (HOC.out _).mono ?_; rintro e w2 ⟨rfl, hb2⟩)
      rw [HA2.out, Bool.true_and, ← HKK.out]
      go_ret2
      exact ⟨rfl, bel_trans hbel hb2⟩
end Go.Proofs.YtneapbggnnndhaaGreat
namespace Go.Proofs.YtneapbggnnndhaaGreat
open Go.RowKit Go.BigFrame Go.Deep
set_option linter.unusedVariables false
set_option linter.unusedSimpArgs false

def OwnV (w w' : World) (v : Value) (zs : List Int) : Prop := InR true w' w.heap.size w'.heap.size v zs.length 1 (cellI zs)
theorem OwnV.nil (w w' : World) : OwnV w w' (.slice none 0 0) [] := ⟨none, 0, rfl, .inl rfl⟩
theorem OwnV.slice {w w' : World} {v : Value} {zs : List Int} (h : OwnV w w' v zs) : ∃ a c, v = .slice a zs.length c := by
  obtain ⟨a, c, h, _⟩ := h
  exact ⟨a, c, h⟩
theorem okS_nil : okS (.slice none 0 0) := by
  intro a n c e
  injection e with e1 e2 e3
  subst e1 e2 e3
  exact ⟨Nat.le_refl _, fun _ => rfl, fun x h => by cases h⟩
theorem NewI.own {W w' : World} {v : Value} {zs : List Int} (h : NewI W w' v zs) : OwnV W w' v zs := h.inR
theorem InR.rowI {fz : Bool} {w : World} {lo hi : Nat} {s : Value} {zs : List Int} (r : InR fz w lo hi s zs.length 1 (cellI zs)) : Row w s zs := r.ints
theorem OwnV.row {w w' : World} {v : Value} {zs : List Int} (h : OwnV w w' v zs) : Row w' v zs := InR.rowI h
/-- A row that is new since a later world is new since an earlier one, and stays. -/
theorem OwnV.from {W w w' : World} {v : Value} {zs : List Int} (h : OwnV w w' v zs) (hs : W.heap.size ≤ w.heap.size) : OwnV W w' v zs := InR.wider h hs (Nat.le_refl _) (Nat.le_refl _)
end Go.Proofs.YtneapbggnnndhaaGreat
namespace Go.Proofs.YtneapbggnnndhaaGreat
open Go.RowKit Go.BigFrame Go.Deep
set_option linter.unusedVariables false
set_option linter.unusedSimpArgs false

def stM (n : Int) (es : List Ed) (m a : Int) : Int := if onOk n es m [a] = true then m else 0
def stA (n : Int) (es : List Ed) (m a : Int) : Int := if onOk n es m [a] = true then a else 0
def stL (n : Int) (es : List Ed) (m a : Int) : List Int := if onOk n es m [a] = true then vStart m n a else []
theorem onOk_parts {n : Int} {es : List Ed} {m : Int} {xs : List Int} (h : onOk n es m xs = true) : gVal n es = true ∧ (∀ x ∈ xs, 0 ≤ x ∧ x < n) ∧ mKind m = true := by
  simp only [onOk, Bool.and_eq_true, List.all_eq_true] at h
  refine ⟨h.1.1, fun x hx => ?_, h.2⟩
  have := h.1.2 x hx
  simpa [inN] using this
theorem gVal_n {n : Int} {es : List Ed} (h : gVal n es = true) : 1 ≤ n ∧ n ≤ 12 ∧ es.length ≤ 40 := by
  simp only [gVal, Bool.and_eq_true, decide_eq_true_eq] at h
  exact ⟨h.1.1, h.1.2, h.2.1⟩
theorem row_one2 (w : World) (A B : Obj) (a : Int) : Row (((w.alloc A).alloc B).alloc (.cells #[.int .i64 a] 3)) (.slice (some ⟨w.heap.size + 1 + 1, 0, none⟩) 1 1) [a] := by
  have := row_one ((w.alloc A).alloc B) a 3
  simpa using this

end Go.Proofs.YtneapbggnnndhaaGreat
namespace Go.Proofs.YtneapbggnnndhaaGreat
open Go.RowKit Go.BigFrame Go.Deep
set_option linter.unusedVariables false
set_option linter.unusedSimpArgs false

theorem OwnV.of {w w' : World} {base : Nat} {v : Value} {zs : List Int} (h : w'.ownsRow base 3 1 v zs.length (zs.map (Value.int .i64))) (hb : w.heap.size ≤ base) : OwnV w w' v zs := by
  have h1 := (InR.of_own h).wider (l := w.heap.size) (h := w'.heap.size) hb (Nat.le_refl _) (Nat.le_refl _)
  obtain ⟨a, cap, rfl, hz⟩ := h1
  refine ⟨a, cap, rfl, ?_⟩
  rcases hz with h0 | ⟨b, off, rfl, k1, k2, k3, hc⟩
  · exact .inl h0
  · refine .inr ⟨b, off, rfl, k1, k2, k3, fun i hi => ⟨?_, (hc i hi).2⟩⟩
    rw [(hc i hi).1]
    have hi2 : i < zs.length := by omega
    simp [List.getD, hi2, cellI]
theorem take_map_succ (zs : List Int) (k : Nat) (h : k < zs.length) : (zs.take (k + 1)).map (Value.int .i64) = (zs.take k).map (Value.int .i64) ++ [.int .i64 (zs.getD k 0)] := by
  rw [List.take_succ_eq_append_getElem h, List.map_append]
  simp [List.getD, h]

end Go.Proofs.YtneapbggnnndhaaGreat
namespace Go.Proofs.YtneapbggnnndhaaGreat
open Go.RowKit Go.BigFrame Go.Deep
set_option linter.unusedVariables false
set_option linter.unusedSimpArgs false

theorem onOk_one (n : Int) (es : List Ed) (m a : Int) : onOk n es m [a] = ((gVal n es && (decide (0 ≤ a) && decide (a < n))) && mKind m) := by simp [onOk, inN]

set_option maxHeartbeats 1000000 in
theorem l3Right (n m a : Int) (es : List Ed) (s : Value) (w : World) (hs : RowE w s es) (hl : es.length ≤ 281474976710656) :
    Calls Tryz.prog 43 #[.agg #[.int .i64 n, s], .int .i64 m, .int .i64 a] w fun e w' => e = .returned (.bool (onOk n es m [a])) ∧ Below w.heap.size w w' := by
  have hB : ∀ (A : Obj), Below w.heap.size w (w.alloc A) := fun A => (Below.refl _ _).alloc (Nat.le_refl _) _
  have hg := fun A => sGraphValid n es s (w.alloc A) (hs.keep (hB A)) hl
  have hk := fun w => sKind m w
  obtain ⟨ad, cap, rfl, hz0⟩ := hs
  clear hz0
  rw [onOk_one]
  generalize gVal n es = G at hg ⊢
  generalize mKind m = K at hk ⊢
  have HG := Lib.hid hg
  have HK := Lib.hid hk
  have HB := Lib.hid hB
  clear hg hk hB
  cases G
  · rw [Bool.false_and, Bool.false_and]
    go_enter Tryz.func43, Tryz.ntmps43
    go_wp2_with (first | (go_at_call 53; refine (HG.out _).mono ?_; rintro e w1 ⟨rfl, hb1⟩))
    go_ret
    exact ⟨rfl, bel_trans (HB.out _) hb1⟩
  rw [Bool.true_and]
  cases K
  · rw [Bool.and_false]
    go_enter Tryz.func43, Tryz.ntmps43
    go_wp2_with (first | (go_at_call 53; refine (HG.out _).mono ?_; rintro e w1 ⟨rfl, hb1⟩) | (go_at_call 54; refine (HK.out _).mono ?_; rintro e w2 ⟨rfl, rfl⟩))
    go_ret
    exact ⟨rfl, bel_trans (HB.out _) hb1⟩
  rw [Bool.and_true]
  by_cases h1 : 0 ≤ a
  rotate_left
  · have d1 : decide (0 ≤ a) = false := by simpa using h1
    rw [d1, Bool.false_and]
    go_enter Tryz.func43, Tryz.ntmps43
    go_wp2_with (first | (go_at_call 53; refine (HG.out _).mono ?_; rintro e w1 ⟨rfl, hb1⟩) | (go_at_call 54; refine (HK.out _).mono ?_; rintro e w2 ⟨rfl, rfl⟩))
    go_ret
    exact ⟨rfl, bel_trans (HB.out _) hb1⟩
  have d1 : decide (0 ≤ a) = true := by simpa using h1
  rw [d1, Bool.true_and]
  go_enter Tryz.func43, Tryz.ntmps43
  go_wp2_with (first | (go_at_call 53; refine (HG.out _).mono ?_; rintro e w1 ⟨rfl, hb1⟩; have x0 := hb1.cell (p := ⟨w.heap.size, 0, none⟩) (by simp <;> omega)) | (go_at_call 54; refine (HK.out _).mono ?_; rintro e w2 ⟨rfl, rfl⟩))
  go_ret
  exact ⟨rfl, bel_trans (HB.out _) hb1⟩

end Go.Proofs.YtneapbggnnndhaaGreat
