/- DrawFairRounds; what fair rounds come to. -/
import Derived.Test.YtnomlefjldfgiaaDrawsP
import Derived.Test.YtnomlefjldfgiaaFairS
namespace Go.Proofs.Ytnomlefjldfgiaa
open Go.RowKit Go.BigFrame Go.Deep
set_option linter.unusedVariables false
set_option linter.unusedSimpArgs false
set_option linter.unnecessarySimpa false

theorem fr_sum (E : Nat) (os : List Int) : ∀ k, k ≤ os.length → (fr E (os.take k)).n * E + (E - (fr E (os.take k)).left) ≤ k
  | 0, _ => by simp [fr, frNew]
  | k + 1, h => by
    rw [fr_succ E os (by omega)]
    have h1 := fr_sum E os k (by omega)
    obtain ⟨-, h2, h3⟩ := fr_ok E (os.take k)
    generalize fr E (os.take k) = st at h1 h2 h3 ⊢
    unfold frStep
    split
    · omega
    · split
      · simp only [frNew]
        rw [Nat.succ_mul]
        omega
      · simp only
        by_cases h0 : 0 < E
        · have := h2 h0; omega
        · have e0 : E = 0 := by omega
          subst e0
          simp
theorem fr_all (E : Nat) (os : List Int) : (fr E os).n * E ≤ os.length := by
  have h := fr_sum E os os.length (Nat.le_refl _)
  rw [List.take_length] at h
  omega
theorem fr_mono (E : Nat) (os : List Int) (j : Nat) : ∀ k, k ≤ os.length → j ≤ k → (fr E (os.take j)).n ≤ (fr E (os.take k)).n
  | 0, _, h => by have : j = 0 := by omega
                  subst this; exact Nat.le_refl _
  | k + 1, hk, h => by
    by_cases e : j = k + 1
    · subst e; exact Nat.le_refl _
    · have h1 := fr_mono E os j k (by omega) (by omega)
      rw [fr_succ E os (by omega)]
      have h2 := (frStep_n (E := E) (fr E (os.take k)) (os.getD k 0)).1
      omega
theorem fr_half (E : Nat) (os : List Int) (j : Nat) (hj : j ≤ os.length) : (fr E (os.take j)).n ≤ (fr E os).n := by
  have h := fr_mono E os j os.length (Nat.le_refl _) hj
  rwa [List.take_length] at h

/-- A graph and an order are drawn. -/
def DrawnF (w : World) (e : Ending) (w' : World) : Prop :=
  ∃ (n : Int) (es : List Ed) (s : Value) (os : List Int) (u : Value), e = .returned (.tuple #[.agg #[.int .i64 n, s], u]) ∧ (es.length ≤ 40 ∧ os.length ≤ 151) ∧ (InR true w' w.heap.size w'.heap.size s es.length 3 (cellE es) ∧ okS s) ∧ (InR true w' w.heap.size w'.heap.size u os.length 1 (cellI os) ∧ okS u) ∧ Below w.heap.size w w'
theorem chg2F (w : World) (B : Nat) (x0 x1 : Value) : Chg B (B + 1) w ((w.setCell ⟨B, 0, none⟩ x0).setCell ⟨B, 1, none⟩ x1) :=
  ((Chg.refl _ _ _).setCell (by simp) (by simp) _).setCell (by simp) (by simp) _
theorem drawnF_out {w w0 w1 : World} {n : Int} {es : List Ed} {os : List Int} {s u : Value} (hb : Below w.heap.size w w0) (h0 : w.heap.size + 1 ≤ w0.heap.size) (hb1 : Below w0.heap.size w0 w1) (hl : es.length ≤ 40 ∧ os.length ≤ 151) (hr1 : InR true w1 w0.heap.size w1.heap.size s es.length 3 (cellE es) ∧ okS s) (hr2 : InR true w1 w0.heap.size w1.heap.size u os.length 1 (cellI os) ∧ okS u) (x0 x1 : Value) :
    DrawnF w (.returned (.tuple #[.agg #[.int .i64 n, s], u])) ((w1.setCell ⟨w.heap.size, 0, none⟩ x0).setCell ⟨w.heap.size, 1, none⟩ x1) := by
  have hc := chg2F w1 w.heap.size x0 x1
  exact ⟨n, es, _, os, _, rfl, hl, ⟨(hr1.1.chg hc (.inl (by omega))).wider (by omega) hc.size (Nat.le_refl _), hr1.2⟩, ⟨(hr2.1.chg hc (.inl (by omega))).wider (by omega) hc.size (Nat.le_refl _), hr2.2⟩, bel_chg (bel_trans hb hb1) hc (Nat.le_refl _)⟩

set_option maxHeartbeats 4000000 in
theorem dDrawFairRounds (a : Option Addr) (n cap : Nat) (w : World) (hb : Bytes w a n) (hcap : n ≤ cap) (hn : n ≤ 281474976710656) :
    Calls Try.prog 5 #[.slice a n cap] w (DrawnF w) := by
  have hbl : Below w.heap.size w (w.alloc (.cells #[.int .i64 0, .slice none 0 0] 25)) := (Below.refl _ _).alloc (Nat.le_refl _) _
  have hx2 : Box (w.alloc (.cells #[.int .i64 0, .slice none 0 0] 25)) w.heap.size 25 #[.int .i64 0, .slice none 0 0] := Box.new _ _ _
  have HC := Lib.hid hb
  clear hb
  go_enter Try.func5, Try.ntmps5
  go_wp2_with fail
  generalize (w.alloc (.cells #[.int .i64 0, .slice none 0 0] 25)) = w0 at hbl hx2 ⊢
  refine (l5Case a n cap w0 (HC.out.keepB hbl) hcap hn).mono ?_
  rintro e w1 ⟨n1, es, s, m, b, zs, t, os, u, rfl, hl, hr1, hr2, hr3, hb1⟩
  obtain ⟨va, vc, rfl, hz⟩ := id hr1.1
  obtain ⟨ta, tc, rfl, hz2⟩ := id hr2.1
  obtain ⟨ua, uc, rfl, hz3⟩ := id hr3.1
  have h0 : w.heap.size + 1 ≤ w0.heap.size := hx2.lt
  have hs1 := hb1.size
  have hbA : Below w1.heap.size w1 ((w1.alloc (.cells #[.int .i64 n1, .slice va es.length vc] 25)).alloc (.cells #[.int .i64 m, .int .i64 b, .slice ta zs.length tc] 33)) := ((Below.refl _ _).alloc (Nat.le_refl _) _).alloc (by simp) _
  have hB5 : Box ((w1.alloc (.cells #[.int .i64 n1, .slice va es.length vc] 25)).alloc (.cells #[.int .i64 m, .int .i64 b, .slice ta zs.length tc] 33)) w1.heap.size 25 #[.int .i64 n1, .slice va es.length vc] := (Box.new _ _ _).alloc _
  go_upto_region 2 with fail
  generalize ((w1.alloc (.cells #[.int .i64 n1, .slice va es.length vc] 25)).alloc (.cells #[.int .i64 m, .int .i64 b, .slice ta zs.length tc] 33)) = w2 at hbA hB5 ⊢
  have hsA := hbA.size
  have h2 := (hx2.keep hb1).keep hbA
  have p0 := h2.cell 0
  have p1 := h2.cell 1
  have fp0 := h2.frozen 0
  have fp1 := h2.frozen 1
  have x0 := hB5.cell 0
  have x1 := hB5.cell 1
  simp only [List.getElem?_toArray, List.getElem?_cons_succ, List.getElem?_cons_zero] at p0 p1 x0 x1
  have e1 : ¬ w.heap.size = w1.heap.size := by omega
  have e5 : ¬ w1.heap.size = w.heap.size := by omega
  have HR := Lib.hid (fun x0 x1 => drawnF_out (n := n1) hbl h0 (bel_trans hb1 hbA) ⟨hl.1, hl.2.2⟩ ⟨(InR.keep hr1.1 hbA).wider (Nat.le_refl _) hsA (Nat.le_refl _), hr1.2⟩ ⟨(InR.keep hr3.1 hbA).wider (Nat.le_refl _) hsA (Nat.le_refl _), hr3.2⟩ x0 x1)
  clear hz hz2 hz3 hr1 hr2 hr3 hb1 hbl hbA hB5 h2 hx2 hl
  go_wp2
  try simp only [Exit.inBlock, Exit.then]
  refine bodyPost_ret (v := .tuple #[.agg #[.int .i64 n1, .slice va es.length vc], .slice ua os.length uc]) ?_ rfl (HR.out _ _)
  rw [results_cell_tmp rfl]
  go_simp
end Go.Proofs.Ytnomlefjldfgiaa
