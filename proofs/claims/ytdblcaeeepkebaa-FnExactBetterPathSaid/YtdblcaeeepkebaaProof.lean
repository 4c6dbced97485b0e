/- ProofOf, in the program and in the model. -/
import Derived.Test.YtdblcaeeepkebaaBestI
import Derived.Test.YtdblcaeeepkebaaBestT
import Derived.Test.YtdblcaeeepkebaaBoxes
import Derived.Test.YtdblcaeeepkebaaBestL
import Derived.Test.YtdblcaeeepkebaaFind3
namespace Go.Proofs.Ytdblcaeeepkebaa
open Go.RowKit Go.BigFrame Go.Deep
set_option linter.unusedVariables false
set_option linter.unusedSimpArgs false

theorem R3.mid {fz dj : Bool} {w : World} {lo hi : Nat} {a b c : Value} {x y z : List Int} (r : R3 dj fz w lo hi a b c x.length y.length z.length (cellI x) (cellI y) (cellI z)) (h : hi ≤ w.heap.size) : InR fz w lo hi b y.length 1 (cellI y) := by
  obtain ⟨l1, h1, l2, h2, l3, h3, ⟨r1, r2, r3⟩, hb, hd⟩ := r
  exact r2.wider hb.2.2.1 hb.2.2.2.1 h
theorem R3.last {fz dj : Bool} {w : World} {lo hi : Nat} {a b c : Value} {x y z : List Int} (r : R3 dj fz w lo hi a b c x.length y.length z.length (cellI x) (cellI y) (cellI z)) (h : hi ≤ w.heap.size) : InR fz w lo hi c z.length 1 (cellI z) := by
  obtain ⟨l1, h1, l2, h2, l3, h3, ⟨r1, r2, r3⟩, hb, hd⟩ := r
  exact r3.wider hb.2.2.2.2.1 hb.2.2.2.2.2 h
/-- The parents that are answered. -/
def poL (n : Int) (es : List Ed) (m a : Int) : List Int := (bfV (onOk n es m [a]) (bfR m (-1) es n.toNat a.toNat)).par
theorem poL_len (n : Int) (es : List Ed) (m a : Int) : (poL n es m a).length ≤ 4194304 := by
  unfold poL bfV
  split
  · rename_i h
    have hp := onOk_parts h
    obtain ⟨g1, g2, g3, _⟩ := gVal_parts hp.1
    have ha := hp.2.1 a (by simp)
    have h2 := (bf_full (a := a.toNat) hp.2.2 (eAll_of hp.1) (by omega)).dj.ok.par
    omega
  · simp

set_option maxRecDepth 20000 in
set_option maxHeartbeats 4000000 in
theorem proofOf (n m a : Int) (es : List Ed) (s : Value) (w : World) (hs : RowE w s es) (hl : es.length ≤ 281474976710656) :
    Calls Try.prog 16 #[.agg #[.int .i64 n, s], .int .i64 m, .int .i64 a] w fun e w' => ∃ v, e = .returned (.tuple #[v, .bool (onOk n es m [a])]) ∧ OwnI w w' v (poL n es m a) ∧ Below w.heap.size w w' := by
  have hB : ∀ A, Below w.heap.size w (w.alloc A) := fun A => (Below.refl _ _).alloc (Nat.le_refl _) _
  have hst := fun w' (h : Below w.heap.size w w') => bestFirst n m a es s w' (hs.keep h) hl
  obtain ⟨ad, cap, rfl, hz0⟩ := id hs
  have hnil : onOk n es m [a] = false → (bfV (onOk n es m [a]) (bfR m (-1) es n.toNat a.toNat)).par = [] := fun h => by rw [h]; rfl
  unfold poL
  generalize bfV (onOk n es m [a]) (bfR m (-1) es n.toNat a.toNat) = R at hst hnil ⊢
  generalize onOk n es m [a] = G at hst hnil ⊢
  have HB := Lib.hid hB
  clear hz0 hs hB
  have HST := Lib.hid hst
  clear hst hnil
  go_enter Try.func16, Try.ntmps16
  go_wp2_with (go_at_call 55; (with_reducible refine (HST.out _ (HB.out _)).mono ?_); rintro e w1 ⟨p, q, r, rfl, h3, hb1⟩; obtain ⟨pa, pc, qa, qc, ra, rc, rfl, rfl, rfl⟩ := h3.slices; have K1 := Lib.hid (And.intro ((h3.mid (Nat.le_refl _)).wider (HB.out _).size (Nat.le_refl _) (Nat.le_refl _)) (bel_trans (HB.out _) hb1)); clear h3 hb1)
  go_ret2
  exact ⟨_, rfl, (K1.out.1.keep ((Below.refl _ _).alloc (Nat.le_refl _) _)).wider (Nat.le_refl _) (by simp) (Nat.le_refl _), K1.out.2.alloc K1.out.2.size _⟩

set_option maxRecDepth 20000 in
set_option maxHeartbeats 4000000 in
theorem sProofOf (n m a : Int) (es : List Ed) (s : Value) (w : World) (hs : RowE w s es) (hl : es.length ≤ 281474976710656) :
    Calls Try.prog 14 #[.agg #[.int .i64 n, s], .int .i64 m, .int .i64 a] w fun e w' => ∃ v, e = .returned (.tuple #[v, .bool (onOk n es m [a])]) ∧ OwnI w w' v (poL n es m a) ∧ Below w.heap.size w w' := by
  have hB : ∀ A, Below w.heap.size w (w.alloc A) := fun A => (Below.refl _ _).alloc (Nat.le_refl _) _
  have hst := fun w' (h : Below w.heap.size w w') => sBestFirst n m a es s w' (hs.keep h) hl
  obtain ⟨ad, cap, rfl, hz0⟩ := id hs
  have hnil : onOk n es m [a] = false → (bfV (onOk n es m [a]) (bfR m (-1) es n.toNat a.toNat)).par = [] := fun h => by rw [h]; rfl
  unfold poL
  generalize bfV (onOk n es m [a]) (bfR m (-1) es n.toNat a.toNat) = R at hst hnil ⊢
  generalize onOk n es m [a] = G at hst hnil ⊢
  have HB := Lib.hid hB
  clear hz0 hs hB
  cases G
  · have hn := hnil rfl
    have HST := Lib.hid hst
    clear hst hnil
    have HNN := Lib.hid hn
    clear hn
    go_enter Try.func14, Try.ntmps14
    go_wp2_with (go_at_call 53; (with_reducible refine (HST.out _ (HB.out _)).mono ?_); rintro e w1 ⟨p, q, r, rfl, h3, hb1⟩; obtain ⟨pa, pc, qa, qc, ra, rc, rfl, rfl, rfl⟩ := h3.slices; have K1 := Lib.hid (And.intro ((h3.mid (Nat.le_refl _)).wider (HB.out _).size (Nat.le_refl _) (Nat.le_refl _)) (bel_trans (HB.out _) hb1)); clear h3 hb1)
    go_ret2
    have hb2 := K1.out.2.alloc K1.out.2.size (.cells #[.slice pa R.ord.length pc, .slice qa R.par.length qc, .slice ra R.vals.length rc, .int .i64 R.looks] 73)
    exact ⟨_, rfl, by rw [HNN.out]; exact ⟨_, 0, rfl, .inl rfl⟩, hb2.alloc hb2.size _⟩
  · have HST := Lib.hid hst
    clear hst hnil
    go_enter Try.func14, Try.ntmps14
    go_wp2_with (go_at_call 53; (with_reducible refine (HST.out _ (HB.out _)).mono ?_); rintro e w1 ⟨p, q, r, rfl, h3, hb1⟩; obtain ⟨pa, pc, qa, qc, ra, rc, rfl, rfl, rfl⟩ := h3.slices; have K1 := Lib.hid (And.intro ((h3.mid (Nat.le_refl _)).wider (HB.out _).size (Nat.le_refl _) (Nat.le_refl _)) (bel_trans (HB.out _) hb1)); clear h3 hb1)
    go_ret2
    exact ⟨_, rfl, (K1.out.1.keep ((Below.refl _ _).alloc (Nat.le_refl _) _)).wider (Nat.le_refl _) (by simp) (Nat.le_refl _), K1.out.2.alloc K1.out.2.size _⟩

end Go.Proofs.Ytdblcaeeepkebaa
