/- The first view: in the program. A result that is a row of numbers of its own. StartView: in the program. -/
import Derived.Test.YtjcfefpcilhelaaRepeat
import Derived.Test.YtjcfefpcilhelaaDisp
import Derived.Test.YtjcfefpcilhelaaView0
import Derived.Test.YtjcfefpcilhelaaVValS
import Derived.Test.YtjcfefpcilhelaaVEdges
namespace Go.Proofs.Ytjcfefpcilhelaa
open Go.RowKit Go.BigFrame Go.Deep
set_option linter.unusedVariables false
set_option linter.unusedSimpArgs false

theorem rowIs_keep {w w' : World} {b : Nat} {t : TypeId} {n : Nat} {f : Nat → Value} (h : w.rowIs b t n f) (hb : Below w.heap.size w w') : w'.rowIs b t n f := h.of_block (hb.block b h.lt)

set_option maxRecDepth 20000 in
set_option maxHeartbeats 1000000 in
theorem startValues (m : Int) (n s : Nat) (hm : mKind m = true) (h0 : s < n) (h12 : n ≤ 12) (w : World) :
    Calls Try.prog 99 #[opsV m, .int .i64 n, .int .i64 s] w fun e w' => ∃ v, e = .returned v ∧ NewI w w' v (vStart m n s) ∧ Below w.heap.size w w' := by
  obtain ⟨T, rv, fn, fe, fb, fo, fj, rn, re, rb, ro, rj, D⟩ := disp hm
  rw [D.val]
  have hn1 := D.mn.run
  have hn2 := D.mn.ahead
  have hn3 := D.mn.enter
  have he1 := D.me.run
  have he2 := D.me.ahead
  have he3 := D.me.enter
  have HN := Lib.hid D.cn
  have HE := Lib.hid D.ce
  have hrep := fun g cap w h h' => repeat1 (mNone m) n (by omega) h12 g cap w h h'
  have HR := Lib.hid hrep
  have HD := Lib.hid D
  clear D hrep
  have hs : (s : Int) < n := by omega
  go_enter Try.func99, Try.ntmps99
  go_wp2_with (first | (with_reducible refine (HN.out _).mono ?_; rintro e w1 ⟨rfl, hb1⟩) | (go_at_call 106; refine (HR.out _ _ _ (by go_simp) (by simp)).mono ?_; rintro e w2 ⟨_, rfl, ⟨g, cap, rfl, hg, hrow⟩, hb2⟩) | (with_reducible refine (HE.out _).mono ?_; rintro e w3 ⟨rfl, hb3⟩; have hr3 : w3.rowIs g 3 n (cellI (List.replicate n (mNone m))) := (by simpa using rowIs_keep hrow hb3); have hst := hr3.cell h0; have hfr := hr3.frozen s; have HR3 := Lib.hid hr3; have HG := Lib.hid hg; clear hrow hr3 hg))
  go_ret
  have hB := bel_trans (bel_trans (hb1.alloc hb1.size _) hb2) hb3
  have hg2 : w.heap.size ≤ g := by have h1 := HG.out.1; have h2 := hb1.size; simp at h1; omega
  refine ⟨.slice (some ⟨g, 0, none⟩) n cap, rfl, ⟨g, cap, by rw [vStart_length, Int.toNat_natCast], ⟨hg2, by have h1 := HG.out.2; rw [vStart_length]; simpa using h1⟩, ?_⟩, hB.setCell hg2 _⟩
  rw [vStart_length, Int.toNat_natCast]
  refine (HR3.out.set s _).congr (fun i hi => ?_)
  unfold cellI
  rw [vStart_at m n s (by rw [Int.toNat_natCast]; exact hi)]
  by_cases e : i = s
  · rw [if_pos e, if_pos (by omega)]
  · rw [if_neg e, if_neg (by omega)]
    simp [List.getD, hi]

/-- Is it a node? -/
def inN (n x : Int) : Bool := decide (0 ≤ x) && decide (x < n)
/-- A graph, a kind and nodes. -/
def onOk (n : Int) (es : List Ed) (m : Int) (xs : List Int) : Bool := (gVal n es && xs.all (inN n)) && mKind m

set_option maxHeartbeats 1000000 in
theorem opsOn (n m : Int) (es : List Ed) (xs : List Int) (s t : Value) (w : World) (hs : RowE w s es) (ht : Row w t xs) (hl : es.length ≤ 281474976710656) (hl2 : xs.length ≤ 1000) :
    Calls Try.prog 55 #[.agg #[.int .i64 n, s], .int .i64 m, t] w fun e w' => e = .returned (.tuple #[opsR m (onOk n es m xs), .bool (onOk n es m xs)]) ∧ Below w.heap.size w w' := by
  have hB : ∀ (A : Obj), Below w.heap.size w (w.alloc A) := fun A => (Below.refl _ _).alloc (Nat.le_refl _) _
  have hg := fun A => graphValid n es s (w.alloc A) (hs.keep (hB A)) hl
  have hn := fun x w => hasNode n x s w
  have ho := fun w' => opsAll m [] (.slice none 0 0) w' ⟨none, 0, rfl, .inl rfl⟩ (by simp)
  rw [show mAll m [] = mKind m by simp [mAll]] at ho
  obtain ⟨ad, cap, rfl, hz0⟩ := hs
  obtain ⟨ad2, cap2, rfl, hy0⟩ := ht
  have hy := Lib.hid hy0
  clear hz0 hy0
  have HN := Lib.hid hn
  have HO := Lib.hid ho
  have HB := Lib.hid hB
  obtain ⟨G, hG⟩ : ∃ G, G = gVal n es := ⟨_, rfl⟩
  rw [← hG] at hg
  have HG := Lib.hid hg
  have QG := Lib.hid hG
  clear hg hn ho hB hG
  cases G
  · have e0 : onOk n es m xs = false := by unfold onOk; rw [← QG.out]; rfl
    rw [e0]
    go_enter Try.func55, Try.ntmps55
    go_wp2_with (go_at_call 76; refine (HG.out _).mono ?_; rintro e w1 ⟨rfl, hb1⟩)
    go_ret2
    exact ⟨rfl, bel_trans (HB.out _) hb1⟩
  have e0 : onOk n es m xs = (xs.all (inN n) && mKind m) := by unfold onOk; rw [← QG.out]; simp
  rw [e0]
  clear e0
  go_enter Try.func55, Try.ntmps55
  go_wp2_with (go_at_call 76; refine (HG.out _).mono ?_; rintro e w1 ⟨rfl, hb1⟩)
  have q0 : w1.cell? ⟨w.heap.size, 0, none⟩ = some (.int .i64 n) := (hb1.cell (p := ⟨w.heap.size, 0, none⟩) (by simp)).trans (by go_simp)
  have q1 : w1.cell? ⟨w.heap.size, 1, none⟩ = some (.slice ad es.length cap) := (hb1.cell (p := ⟨w.heap.size, 1, none⟩) (by simp)).trans (by go_simp)
  have hbel1 := bel_trans (HB.out _) hb1
  have hsz1 : w.heap.size < w1.heap.size := Nat.lt_of_lt_of_le (by simp) hb1.size
  clear hb1
  go_loopw [15] (fun c wr => ∃ k : Nat, k ≤ xs.length ∧ c = .int .i64 k ∧ Hid ((xs.take k).all (inN n) = true) ∧ Below w.heap.size w wr ∧ (wr.cell? ⟨w.heap.size, 0, none⟩ = some (.int .i64 n) ∧ wr.cell? ⟨w.heap.size, 1, none⟩ = some (.slice ad es.length cap) ∧ w.heap.size < wr.heap.size)) (fun c _ => xs.length - (intOf c).toNat)
  case atStart => exact ⟨0, Nat.zero_le _, rfl, Lib.hid rfl, hbel1, q0, q1, hsz1⟩
  case round =>
    obtain ⟨k, hk, rfl, HA, hbel, hx0, hx1, hsz⟩ := hrel
    clear q0 q1 hbel1 hsz1
    by_cases hlt : k < xs.length
    · have hlt' : (k : Int) < xs.length := by omega
      rcases hy.out with h0 | ⟨b, off, rfl, hb, hc⟩
      · rw [h0] at hlt; simp at hlt
      obtain ⟨x, hx⟩ : ∃ x, x = xs.getD k 0 := ⟨_, rfl⟩
      have h1 := hc k hlt
      rw [← hx] at h1
      have hck : wr.cell? ⟨b, off + k, none⟩ = some (.int .i64 x) := (hbel.cell (p := ⟨b, _, none⟩) hb).trans h1
      have hsn := all_snoc (inN n) xs k hlt
      have HS := Lib.hid hsn
      have HX := Lib.hid hx
      have hcon := fun w => HN.out x w
      clear hc h1 hx hsn
      obtain ⟨I, hI⟩ : ∃ I, I = inN n x := ⟨_, rfl⟩
      rw [show (decide (0 ≤ x) && decide (x < n)) = inN n x from rfl, ← hI] at hcon
      have HC := Lib.hid hcon
      have HI := Lib.hid hI
      clear hcon hI
      cases I
      · go_wp2_with (go_at_call 67; refine (HC.out _).mono ?_; rintro e w2 ⟨rfl, hb2⟩)
        have hf := all_false (inN n) xs k hlt (by rw [← HX.out]; exact HI.out.symm)
        rw [hf]
        go_ret2
        exact ⟨rfl, bel_trans hbel hb2⟩
      · go_wp2_with (go_at_call 67; refine (HC.out _).mono ?_; rintro e w2 ⟨rfl, hb2⟩)
        have p0 := (hb2.cell (p := ⟨w.heap.size, 0, none⟩) hsz).trans hx0
        have p1 := (hb2.cell (p := ⟨w.heap.size, 1, none⟩) hsz).trans hx1
        have hA2 : Hid ((xs.take (k + 1)).all (inN n) = true) := Lib.hid (by rw [HS.out, HA.out, ← HX.out, ← HI.out]; rfl)
        go_roundw
        case rel => first | exact ⟨k + 1, by omega, by go_num, hA2, bel_trans hbel hb2, p0, p1, Nat.lt_of_lt_of_le hsz hb2.size⟩ | ((repeat apply Exists.intro); exact ⟨⟨k + 1, by omega, by go_num, hA2, bel_trans hbel hb2, p0, p1, Nat.lt_of_lt_of_le hsz hb2.size⟩, rfl⟩)
        case measure => simp [intOf]; omega
    · have hke : k = xs.length := by omega
      have hkk : ¬ ((k : Int) < xs.length) := by omega
      have hall' : xs.all (inN n) = true := by have := HA.out; rw [hke, List.take_length] at this; exact this
      have HA2 := Lib.hid hall'
      clear hke hall'
      obtain ⟨K, hK⟩ : ∃ K, K = mKind m := ⟨_, rfl⟩
      have hoc := HO.out
      rw [← hK] at hoc
      have HOC := Lib.hid hoc
      have HKK := Lib.hid hK
      clear hoc hK
      go_wp2_with (go_at_call 69; refine (HOC.out _).mono ?_; rintro e w2 ⟨rfl, hb2⟩)
      rw [HA2.out, Bool.true_and, ← HKK.out]
      go_ret2
      exact ⟨rfl, bel_trans hbel hb2⟩
end Go.Proofs.Ytjcfefpcilhelaa
namespace Go.Proofs.Ytjcfefpcilhelaa
open Go.RowKit Go.BigFrame Go.Deep
set_option linter.unusedVariables false
set_option linter.unusedSimpArgs false

def OwnV (w w' : World) (v : Value) (zs : List Int) : Prop := InR true w' w.heap.size w'.heap.size v zs.length 1 (cellI zs)
theorem OwnV.nil (w w' : World) : OwnV w w' (.slice none 0 0) [] := ⟨none, 0, rfl, .inl rfl⟩
theorem OwnV.slice {w w' : World} {v : Value} {zs : List Int} (h : OwnV w w' v zs) : ∃ a c, v = .slice a zs.length c := by
  obtain ⟨a, c, h, _⟩ := h
  exact ⟨a, c, h⟩
theorem okS_nil : okS (.slice none 0 0) := by
  intro a n c e
  injection e with e1 e2 e3
  subst e1 e2 e3
  exact ⟨Nat.le_refl _, fun _ => rfl, fun x h => by cases h⟩
theorem NewI.own {W w' : World} {v : Value} {zs : List Int} (h : NewI W w' v zs) : OwnV W w' v zs := h.inR
theorem InR.rowI {fz : Bool} {w : World} {lo hi : Nat} {s : Value} {zs : List Int} (r : InR fz w lo hi s zs.length 1 (cellI zs)) : Row w s zs := r.ints
theorem OwnV.row {w w' : World} {v : Value} {zs : List Int} (h : OwnV w w' v zs) : Row w' v zs := InR.rowI h
/-- A row that is new since a later world is new since an earlier one, and stays. -/
theorem OwnV.from {W w w' : World} {v : Value} {zs : List Int} (h : OwnV w w' v zs) (hs : W.heap.size ≤ w.heap.size) : OwnV W w' v zs := InR.wider h hs (Nat.le_refl _) (Nat.le_refl _)
end Go.Proofs.Ytjcfefpcilhelaa
namespace Go.Proofs.Ytjcfefpcilhelaa
open Go.RowKit Go.BigFrame Go.Deep
set_option linter.unusedVariables false
set_option linter.unusedSimpArgs false

def stM (n : Int) (es : List Ed) (m a : Int) : Int := if onOk n es m [a] = true then m else 0
def stA (n : Int) (es : List Ed) (m a : Int) : Int := if onOk n es m [a] = true then a else 0
def stL (n : Int) (es : List Ed) (m a : Int) : List Int := if onOk n es m [a] = true then vStart m n a else []
theorem onOk_parts {n : Int} {es : List Ed} {m : Int} {xs : List Int} (h : onOk n es m xs = true) : gVal n es = true ∧ (∀ x ∈ xs, 0 ≤ x ∧ x < n) ∧ mKind m = true := by
  simp only [onOk, Bool.and_eq_true, List.all_eq_true] at h
  refine ⟨h.1.1, fun x hx => ?_, h.2⟩
  have := h.1.2 x hx
  simpa [inN] using this
theorem gVal_n {n : Int} {es : List Ed} (h : gVal n es = true) : 1 ≤ n ∧ n ≤ 12 ∧ es.length ≤ 40 := by
  simp only [gVal, Bool.and_eq_true, decide_eq_true_eq] at h
  exact ⟨h.1.1, h.1.2, h.2.1⟩
theorem row_one2 (w : World) (A B : Obj) (a : Int) : Row (((w.alloc A).alloc B).alloc (.cells #[.int .i64 a] 3)) (.slice (some ⟨w.heap.size + 1 + 1, 0, none⟩) 1 1) [a] := by
  have := row_one ((w.alloc A).alloc B) a 3
  simpa using this

end Go.Proofs.Ytjcfefpcilhelaa
