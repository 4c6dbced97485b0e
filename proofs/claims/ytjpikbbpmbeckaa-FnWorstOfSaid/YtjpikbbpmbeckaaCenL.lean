/- Centers: what is drawn, and that no node is better. -/
import Derived.Test.YtjpikbbpmbeckaaDraw8
import Derived.Test.YtjpikbbpmbeckaaMatC
import Derived.Test.YtjpikbbpmbeckaaMatV
import Derived.Test.YtjpikbbpmbeckaaImpl2
namespace Go.Proofs.Ytjpikbbpmbeckaa
open Go.RowKit Go.BigFrame Go.Deep
set_option linter.unusedVariables false
set_option linter.unusedSimpArgs false
set_option linter.unnecessarySimpa false

theorem GridJ.gridO {w : World} {lo hi : Nat} {s : Value} {z : List (List Int)} (g : GridJ w lo hi s z) : GridO w s z := by
  obtain ⟨-, a, cap, rfl, hz⟩ := g
  refine ⟨a, cap, rfl, ?_⟩
  rcases hz with hz | ⟨b, off, T, rfl, hb, hc⟩
  · exact .inl hz
  · exact .inr ⟨b, off, T, rfl, by omega, fun i hi => ⟨(hc i hi).1, InR.rowI (hc i hi).2.1, (hc i hi).2.2⟩⟩
set_option maxRecDepth 20000 in
theorem dDrawCenterOf (a : Option Addr) (n cap : Nat) (w : World) (hb : Bytes w a n) (hcap : n ≤ cap) (hn : n ≤ 281474976710656) :
    Calls Try.prog 24 #[.slice a n cap] w (DrawnX w) := by
  have hbx := Box.new w 33 #[.int .i64 0, .slice none 0 0]
  have hbl : Below w.heap.size w (w.alloc (.cells #[.int .i64 0, .slice none 0 0] 33)) := (Below.refl _ _).alloc (Nat.le_refl _) _
  have HC := Lib.hid hb
  clear hb
  go_enter Try.func24, Try.ntmps24
  go_wp2_with fail
  generalize (w.alloc (.cells #[.int .i64 0, .slice none 0 0] 33)) = w0 at hbx hbl ⊢
  have hs0 : w.heap.size < w0.heap.size := hbx.lt
  refine (l8Draw a n cap w0 (HC.out.keepB hbl) hcap hn).mono ?_
  rintro e w1 ⟨m, z, v, rfl, hsm, hgr, hok, hb1⟩
  obtain ⟨xa, xc, rfl⟩ : ∃ a c, v = .slice a z.length c := by obtain ⟨-, a, c, e, -⟩ := hgr; exact ⟨a, c, e⟩
  have hbr := hbx.keep hb1
  have r0 : w1.cell? ⟨w.heap.size, 0, none⟩ = some (.int .i64 0) := by simpa using hbr.cell 0
  have r1 : w1.cell? ⟨w.heap.size, 1, none⟩ = some (.slice none 0 0) := by simpa using hbr.cell 1
  have r2 := hbr.frozen 0
  have r3 := hbr.frozen 1
  have HG := Lib.hid (And.intro hgr (And.intro hok (And.intro hsm (bel_trans hbl hb1))))
  clear hgr hok hsm hb1 hbr hbx hbl
  go_wp2
  try simp only [Exit.inBlock, Exit.then]
  refine bodyPost_ret (v := .agg #[.int .i64 m, .slice xa z.length xc]) ?_ rfl ?_
  · rw [results_cell1 rfl]
    go_simp
  have hch : ∀ u0 u1, Chg w.heap.size (w.heap.size + 1) w1 ((w1.setCell ⟨w.heap.size, 0, none⟩ u0).setCell ⟨w.heap.size, 1, none⟩ u1) := fun u0 u1 => ((Chg.refl _ _ _).setCell (by simp) (by simp) _).setCell (by simp) (by simp) _
  exact ⟨m, z, _, rfl, HG.out.2.2.1, (HG.out.1.chg (hch (.int .i64 m) (.slice xa z.length xc)) (.inl (by omega))).widen (by omega) (by simp) (Nat.le_refl _), HG.out.2.1, (HG.out.2.2.2.setCell (by simp) _).setCell (by simp) _⟩
theorem bet_self9 {m a : Int} : mBet m a a = false := by unfold mBet; split <;> simp
theorem bet_trans9 {m a b c : Int} (h : mBet m a b = true) (h2 : mBet m b c = true) : mBet m a c = true := by
  unfold mBet at *
  split at h <;> simp only [decide_eq_true_eq] at * <;> split at h2 <;> first | omega | (simp only [decide_eq_true_eq] at *; omega) | (split <;> simp only [decide_eq_true_eq] at * <;> omega) | contradiction
/-- The worst of a node. -/
theorem cen_walk {m : Int} {z : List (List Int)} : ∀ K, 1 ≤ K → ∀ i, i < K → mBet m (wst m (z.getD i []) (i : Nat)) (wst m (z.getD (cenS m z K) []) (cenS m z K : Nat)) = false
  | 0, h => absurd h (by decide)
  | 1, _ => fun i hi => by
    have : i = 0 := by omega
    subst this
    exact bet_self9
  | K + 2, _ => fun i hi => by
    have ih := cen_walk (m := m) (z := z) (K + 1) (by omega)
    unfold cenS
    split
    · rename_i hb
      by_cases e : i = K + 1
      · subst e; exact bet_self9
      · have h1 := ih i (by omega)
        cases h2 : mBet m (wst m (z.getD i []) (i : Nat)) (wst m (z.getD (K + 1) []) ((K + 1 : Nat) : Int)) with
        | false => rfl
        | true => rw [bet_trans9 h2 hb] at h1; cases h1
    · rename_i hb
      by_cases e : i = K + 1
      · subst e; simpa using hb
      · exact ih i (by omega)
theorem wOk_at {m : Int} {z : List (List Int)} (hv : mVal m z = true) {k : Nat} (hk : k < z.length) : wOk m z (k : Nat) = true := by
  unfold wOk
  rw [hv, Bool.true_and, Bool.and_eq_true, decide_eq_true_eq, decide_eq_true_eq]
  omega
theorem wVal_at {m : Int} {z : List (List Int)} (hv : mVal m z = true) {k : Nat} (hk : k < z.length) : wVal m z (k : Nat) = wst m (z.getD k []) (k : Nat) := by
  unfold wVal
  rw [if_pos (wOk_at hv hk), Int.toNat_natCast]
/-- The center is a node, and no node has a better worst measure. -/
theorem cen_best {m : Int} {z : List (List Int)} (hv : mVal m z = true) : ∃ C : Nat, cenVal m z = (C : Nat) ∧ C < z.length ∧ ∀ k, k < z.length → mBet m (wVal m z (k : Nat)) (wVal m z (C : Nat)) = false := by
  have h1 : 1 ≤ z.length := (mSq_parts (mVal_parts hv).1).1
  have hlt := cenS_lt (m := m) (zss := z) z.length h1
  refine ⟨cenS m z z.length, by unfold cenVal; rw [if_pos hv, cen_same hv _ h1 (Nat.le_refl _)], hlt, fun k hk => ?_⟩
  rw [wVal_at hv hk, wVal_at hv hlt]
  exact cen_walk z.length h1 k hk
end Go.Proofs.Ytjpikbbpmbeckaa
