/- The worst measure: what is drawn, and that the worst one is attained and none is worse. -/
import Derived.Test.YtjpikbbpmbeckaaCenL
namespace Go.Proofs.Ytjpikbbpmbeckaa
open Go.RowKit Go.BigFrame Go.Deep
set_option linter.unusedVariables false
set_option linter.unusedSimpArgs false
set_option linter.unnecessarySimpa false

/-- A small matrix and a number are drawn. -/
def DrawnXA (w : World) (e : Ending) (w' : World) : Prop :=
  ∃ (m : Int) (z : List (List Int)) (v : Value) (a : Int), e = .returned (.tuple #[.agg #[.int .i64 m, v], .int .i64 a]) ∧ Sm z ∧ GridJ w' w.heap.size w'.heap.size v z ∧ okS v ∧ Below w.heap.size w w'
set_option maxRecDepth 20000 in
theorem dDrawWorstOf (a : Option Addr) (n cap : Nat) (w : World) (hb : Bytes w a n) (hcap : n ≤ cap) (hn : n ≤ 281474976710656) :
    Calls Try.prog 19 #[.slice a n cap] w (DrawnXA w) := by
  have hbx := Box.new w 33 #[.int .i64 0, .slice none 0 0]
  have hbl : Below w.heap.size w (w.alloc (.cells #[.int .i64 0, .slice none 0 0] 33)) := (Below.refl _ _).alloc (Nat.le_refl _) _
  have HC := Lib.hid hb
  clear hb
  go_enter Try.func19, Try.ntmps19
  go_wp2_with fail
  generalize (w.alloc (.cells #[.int .i64 0, .slice none 0 0] 33)) = w0 at hbx hbl ⊢
  have hs0 : w.heap.size < w0.heap.size := hbx.lt
  refine (l8Draw a n cap w0 (HC.out.keepB hbl) hcap hn).mono ?_
  rintro e w1 ⟨m, z, v, rfl, hsm, hgr, hok, hb1⟩
  obtain ⟨xa, xc, rfl⟩ : ∃ a c, v = .slice a z.length c := by obtain ⟨-, a, c, e, -⟩ := hgr; exact ⟨a, c, e⟩
  have hs1 := hb1.size
  have K1 := Lib.hid (And.intro (HC.out.keepB (bel_trans hbl hb1)) (And.intro (hbx.keep hb1) (And.intro hgr (And.intro hok (And.intro hsm (bel_trans hbl hb1))))))
  clear hgr hok hsm hb1 hbx hbl HC
  go_wp2_with fail
  refine (l15Open a n cap w1 K1.out.1 hcap hn).mono ?_
  rintro e w2 ⟨g, rfl, hR⟩
  have hg0 := hR.new
  have K2 := Lib.hid (And.intro hR (And.intro (K1.out.2.1.keep hR.bel) (K1.out.2.2.1.keep hR.bel)))
  have hs2 := hR.bel.size
  clear hR
  go_wp2_with fail
  refine (num_built [0, 1, 2, 3, -1, 12] w1 w2 g 0 K2.out.1 (by omega) _ (by decide) (by decide)).mono ?_
  rintro e w3 ⟨y, hy, rfl, hR, hG⟩
  have K3 := Lib.hid (And.intro hR (And.intro (K2.out.2.1.grownG hG (by omega)) (K2.out.2.2.chg (g_chgG hG) (.inr (by omega)))))
  have hs3 := hG.size
  have r0 : w3.cell? ⟨w.heap.size, 0, none⟩ = some (.int .i64 0) := by simpa using K3.out.2.1.cell 0
  have r1 : w3.cell? ⟨w.heap.size, 1, none⟩ = some (.slice none 0 0) := by simpa using K3.out.2.1.cell 1
  have r2 := K3.out.2.1.frozen 0
  have r3 := K3.out.2.1.frozen 1
  clear hy hR hG
  go_wp2
  try simp only [Exit.inBlock, Exit.then]
  refine bodyPost_ret (v := .tuple #[.agg #[.int .i64 m, .slice xa z.length xc], .int .i64 y]) ?_ rfl ?_
  · rw [results_ct rfl]
    go_simp
  have hch : ∀ u0 u1, Chg w.heap.size (w.heap.size + 1) w3 ((w3.setCell ⟨w.heap.size, 0, none⟩ u0).setCell ⟨w.heap.size, 1, none⟩ u1) := fun u0 u1 => ((Chg.refl _ _ _).setCell (by simp) (by simp) _).setCell (by simp) (by simp) _
  exact ⟨m, z, _, y, rfl, K1.out.2.2.2.2.1, (K3.out.2.2.chg (hch (.int .i64 m) (.slice xa z.length xc)) (.inl (by omega))).widen (by omega) (by simp; omega) (Nat.le_refl _), K1.out.2.2.2.1, ((bel_trans K1.out.2.2.2.2.2 K3.out.1.bel).setCell (by simp) _).setCell (by simp) _⟩
/-- No one is worse than the worst. -/
theorem wst_none {m : Int} {zs : List Int} {but : Int} : ∀ (K k : Nat), k < K → (k : Int) ≠ but → mBet m (wstTo m zs but K) (zs.getD k 0) = false
  | 0, k, h, _ => by omega
  | K + 1, k, h, hne => by
    have ih := wst_none (m := m) (zs := zs) (but := but) K
    unfold wstTo
    split
    · rename_i hb
      rw [Bool.and_eq_true] at hb
      by_cases e : k = K
      · subst e; exact bet_self9
      · have h1 := ih k (by omega) hne
        cases h2 : mBet m (zs.getD K 0) (zs.getD k 0) with
        | false => rfl
        | true => rw [bet_trans9 hb.2 h2] at h1; cases h1
    · rename_i hb
      by_cases e : k = K
      · subst e
        rw [decide_eq_true hne, Bool.true_and] at hb
        simpa using hb
      · exact ih k (by omega) hne
/-- Whether the worst one is the empty path's measure or one of the first k others'. -/
def smTo (v o : Int) (zs : List Int) (a : Int) : Nat → Bool
  | 0 => decide (v = o)
  | k + 1 => if (k : Int) ≠ a then (smTo v o zs a k || decide (zs.getD k 0 = v)) else smTo v o zs a k
theorem smTo_mono {v o : Int} {zs : List Int} {a : Int} {k : Nat} (h : smTo v o zs a k = true) : smTo v o zs a (k + 1) = true := by
  unfold smTo
  split
  · rw [h, Bool.true_or]
  · exact h
theorem smTo_eq {v o : Int} {zs : List Int} (k : Nat) : smTo v o zs (k : Nat) (k + 1) = smTo v o zs (k : Nat) k := by
  conv => lhs; unfold smTo
  rw [if_neg (by simp)]
theorem smTo_ne {v o a : Int} {zs : List Int} {k : Nat} (h : ¬ (k : Int) = a) : smTo v o zs a (k + 1) = (smTo v o zs a k || decide (zs.getD k 0 = v)) := by
  conv => lhs; unfold smTo
  rw [if_pos h]
theorem beq_dec9 (x y : Int) : (x == y) = decide (x = y) := by
  rw [Bool.eq_iff_iff]
  simp
/-- The worst one is attained. -/
theorem wst_some {m : Int} {zs : List Int} {a : Int} : ∀ K : Nat, smTo (wstTo m zs a K) (mOne m) zs a K = true
  | 0 => by unfold smTo wstTo; simp
  | K + 1 => by
    unfold wstTo
    split
    · rename_i hb
      rw [Bool.and_eq_true, decide_eq_true_eq] at hb
      unfold smTo
      rw [if_pos hb.1]
      simp
    · exact smTo_mono (wst_some K)
end Go.Proofs.Ytjpikbbpmbeckaa
