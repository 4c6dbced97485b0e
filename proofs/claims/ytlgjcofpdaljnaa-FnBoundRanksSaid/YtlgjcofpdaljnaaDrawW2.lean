/- The draw of a graph, a view of it and a bound. -/
import Derived.Test.YtlgjcofpdaljnaaDrawT
namespace Go.Proofs.Ytlgjcofpdaljnaa
open Go.RowKit Go.BigFrame Go.Deep
set_option linter.unusedVariables false
set_option linter.unusedSimpArgs false
set_option linter.unnecessarySimpa false

set_option maxHeartbeats 4000000 in
theorem dDrawWithinBound (a : Option Addr) (n cap : Nat) (w : World) (hb : Bytes w a n) (hcap : n ≤ cap) (hn : n ≤ 281474976710656) :
    Calls Try.prog 14 #[.slice a n cap] w (DrawnE w) := by
  have hbl : Below w.heap.size w ((w.alloc (.cells #[.int .i64 0, .slice none 0 0] 25)).alloc (.cells #[.int .i64 0, .int .i64 0, .slice none 0 0] 28)) := ((Below.refl _ _).alloc (Nat.le_refl _) _).alloc (by simp) _
  have hx2 : Box ((w.alloc (.cells #[.int .i64 0, .slice none 0 0] 25)).alloc (.cells #[.int .i64 0, .int .i64 0, .slice none 0 0] 28)) w.heap.size 25 #[.int .i64 0, .slice none 0 0] := (Box.new _ _ _).alloc _
  have hx3 : Box ((w.alloc (.cells #[.int .i64 0, .slice none 0 0] 25)).alloc (.cells #[.int .i64 0, .int .i64 0, .slice none 0 0] 28)) (w.heap.size + 1) 28 #[.int .i64 0, .int .i64 0, .slice none 0 0] := by have := Box.new (w.alloc (.cells #[.int .i64 0, .slice none 0 0] 25)) 28 #[.int .i64 0, .int .i64 0, .slice none 0 0]; simpa using this
  have HC := Lib.hid hb
  clear hb
  go_enter Try.func14, Try.ntmps14
  go_wp2_with fail
  generalize ((w.alloc (.cells #[.int .i64 0, .slice none 0 0] 25)).alloc (.cells #[.int .i64 0, .int .i64 0, .slice none 0 0] 28)) = w0 at hbl hx2 hx3 ⊢
  refine (l3Views a n cap w0 (HC.out.keepB hbl) hcap hn).mono ?_
  rintro e w1 ⟨n1, es, s, m, b, zs, t, rfl, hl, hr1, hr2, hb1⟩
  obtain ⟨va, vc, rfl, hz⟩ := id hr1.1
  obtain ⟨ta, tc, rfl, hz2⟩ := id hr2.1
  have h0 : w.heap.size + 2 ≤ w0.heap.size := hx3.lt
  have hs1 := hb1.size
  have hbA : Below w1.heap.size w1 ((w1.alloc (.cells #[.int .i64 n1, .slice va es.length vc] 25)).alloc (.cells #[.int .i64 m, .int .i64 b, .slice ta zs.length tc] 28)) := ((Below.refl _ _).alloc (Nat.le_refl _) _).alloc (by simp) _
  have hB5 : Box ((w1.alloc (.cells #[.int .i64 n1, .slice va es.length vc] 25)).alloc (.cells #[.int .i64 m, .int .i64 b, .slice ta zs.length tc] 28)) w1.heap.size 25 #[.int .i64 n1, .slice va es.length vc] := (Box.new _ _ _).alloc _
  have hB6 : Box ((w1.alloc (.cells #[.int .i64 n1, .slice va es.length vc] 25)).alloc (.cells #[.int .i64 m, .int .i64 b, .slice ta zs.length tc] 28)) (w1.heap.size + 1) 28 #[.int .i64 m, .int .i64 b, .slice ta zs.length tc] := by have := Box.new (w1.alloc (.cells #[.int .i64 n1, .slice va es.length vc] 25)) 28 #[.int .i64 m, .int .i64 b, .slice ta zs.length tc]; simpa using this
  go_upto_region 2 with fail
  generalize ((w1.alloc (.cells #[.int .i64 n1, .slice va es.length vc] 25)).alloc (.cells #[.int .i64 m, .int .i64 b, .slice ta zs.length tc] 28)) = w2 at hbA hB5 hB6 ⊢
  have hsA := hbA.size
  have h2 := (hx2.keep hb1).keep hbA
  have h3 := (hx3.keep hb1).keep hbA
  have hfx : ∀ w', Below w2.heap.size w2 w' → Box w' w1.heap.size 25 #[.int .i64 n1, .slice va es.length vc] ∧ Box w' (w1.heap.size + 1) 28 #[.int .i64 m, .int .i64 b, .slice ta zs.length tc] := fun w' h => ⟨hB5.keep h, hB6.keep h⟩
  have hcl : ∀ w', Box w' w1.heap.size 25 #[.int .i64 n1, .slice va es.length vc] ∧ Box w' (w1.heap.size + 1) 28 #[.int .i64 m, .int .i64 b, .slice ta zs.length tc] → w'.cell? ⟨w1.heap.size, 0, none⟩ = some (.int .i64 n1) ∧ w'.cell? ⟨w1.heap.size, 1, none⟩ = some (.slice va es.length vc) ∧ w'.cell? ⟨w1.heap.size + 1, 0, none⟩ = some (.int .i64 m) ∧ w'.cell? ⟨w1.heap.size + 1, 1, none⟩ = some (.int .i64 b) ∧ w'.cell? ⟨w1.heap.size + 1, 2, none⟩ = some (.slice ta zs.length tc) := fun w' h =>
    ⟨by simpa using h.1.cell 0, by simpa using h.1.cell 1, by simpa using h.2.cell 0, by simpa using h.2.cell 1, by simpa using h.2.cell 2⟩
  have hk2 : ∀ w', Below w2.heap.size w2 w' → ∀ x0 x1, ((w'.setCell ⟨w.heap.size, 0, none⟩ x0).setCell ⟨w.heap.size, 1, none⟩ x1).cell? ⟨w1.heap.size, 0, none⟩ = some (.int .i64 n1) ∧ ((w'.setCell ⟨w.heap.size, 0, none⟩ x0).setCell ⟨w.heap.size, 1, none⟩ x1).cell? ⟨w1.heap.size, 1, none⟩ = some (.slice va es.length vc) ∧ ((w'.setCell ⟨w.heap.size, 0, none⟩ x0).setCell ⟨w.heap.size, 1, none⟩ x1).cell? ⟨w1.heap.size + 1, 0, none⟩ = some (.int .i64 m) ∧ ((w'.setCell ⟨w.heap.size, 0, none⟩ x0).setCell ⟨w.heap.size, 1, none⟩ x1).cell? ⟨w1.heap.size + 1, 1, none⟩ = some (.int .i64 b) ∧ ((w'.setCell ⟨w.heap.size, 0, none⟩ x0).setCell ⟨w.heap.size, 1, none⟩ x1).cell? ⟨w1.heap.size + 1, 2, none⟩ = some (.slice ta zs.length tc) := fun w' h x0 x1 =>
    hcl _ ⟨((hfx w' h).1.setOther (by omega) _ _).setOther (by omega) _ _, ((hfx w' h).2.setOther (by omega) _ _).setOther (by omega) _ _⟩
  have hk3 : ∀ w', Below w2.heap.size w2 w' → ∀ x0 x1 y0 y1 y2, (((((w'.setCell ⟨w.heap.size, 0, none⟩ x0).setCell ⟨w.heap.size, 1, none⟩ x1).setCell ⟨w.heap.size + 1, 0, none⟩ y0).setCell ⟨w.heap.size + 1, 1, none⟩ y1).setCell ⟨w.heap.size + 1, 2, none⟩ y2).cell? ⟨w1.heap.size, 0, none⟩ = some (.int .i64 n1) ∧ (((((w'.setCell ⟨w.heap.size, 0, none⟩ x0).setCell ⟨w.heap.size, 1, none⟩ x1).setCell ⟨w.heap.size + 1, 0, none⟩ y0).setCell ⟨w.heap.size + 1, 1, none⟩ y1).setCell ⟨w.heap.size + 1, 2, none⟩ y2).cell? ⟨w1.heap.size, 1, none⟩ = some (.slice va es.length vc) ∧ (((((w'.setCell ⟨w.heap.size, 0, none⟩ x0).setCell ⟨w.heap.size, 1, none⟩ x1).setCell ⟨w.heap.size + 1, 0, none⟩ y0).setCell ⟨w.heap.size + 1, 1, none⟩ y1).setCell ⟨w.heap.size + 1, 2, none⟩ y2).cell? ⟨w1.heap.size + 1, 0, none⟩ = some (.int .i64 m) ∧ (((((w'.setCell ⟨w.heap.size, 0, none⟩ x0).setCell ⟨w.heap.size, 1, none⟩ x1).setCell ⟨w.heap.size + 1, 0, none⟩ y0).setCell ⟨w.heap.size + 1, 1, none⟩ y1).setCell ⟨w.heap.size + 1, 2, none⟩ y2).cell? ⟨w1.heap.size + 1, 1, none⟩ = some (.int .i64 b) ∧ (((((w'.setCell ⟨w.heap.size, 0, none⟩ x0).setCell ⟨w.heap.size, 1, none⟩ x1).setCell ⟨w.heap.size + 1, 0, none⟩ y0).setCell ⟨w.heap.size + 1, 1, none⟩ y1).setCell ⟨w.heap.size + 1, 2, none⟩ y2).cell? ⟨w1.heap.size + 1, 2, none⟩ = some (.slice ta zs.length tc) := fun w' h x0 x1 y0 y1 y2 =>
    hcl _ ⟨(((((hfx w' h).1.setOther (by omega) _ _).setOther (by omega) _ _).setOther (by omega) _ _).setOther (by omega) _ _).setOther (by omega) _ _, (((((hfx w' h).2.setOther (by omega) _ _).setOther (by omega) _ _).setOther (by omega) _ _).setOther (by omega) _ _).setOther (by omega) _ _⟩
  have HK1 := Lib.hid (fun w' h => hcl w' (hfx w' h))
  have HK2 := Lib.hid hk2
  have HK3 := Lib.hid hk3
  have hold : ∀ w', Below w2.heap.size w2 w' → (w'.cell? ⟨w.heap.size, 0, none⟩ = some (.int .i64 0) ∧ w'.cell? ⟨w.heap.size, 1, none⟩ = some (.slice none 0 0) ∧ w'.cell? ⟨w.heap.size + 1, 0, none⟩ = some (.int .i64 0) ∧ w'.cell? ⟨w.heap.size + 1, 1, none⟩ = some (.int .i64 0) ∧ w'.cell? ⟨w.heap.size + 1, 2, none⟩ = some (.slice none 0 0)) ∧ w'.frozen? ⟨w.heap.size, 0, none⟩ = false ∧ w'.frozen? ⟨w.heap.size, 1, none⟩ = false ∧ w'.frozen? ⟨w.heap.size + 1, 0, none⟩ = false ∧ w'.frozen? ⟨w.heap.size + 1, 1, none⟩ = false ∧ w'.frozen? ⟨w.heap.size + 1, 2, none⟩ = false := fun w' h =>
    ⟨⟨by simpa using (h2.keep h).cell 0, by simpa using (h2.keep h).cell 1, by simpa using (h3.keep h).cell 0, by simpa using (h3.keep h).cell 1, by simpa using (h3.keep h).cell 2⟩, (h2.keep h).frozen 0, (h2.keep h).frozen 1, (h3.keep h).frozen 0, (h3.keep h).frozen 1, (h3.keep h).frozen 2⟩
  have HOLD := Lib.hid hold
  have hbw2 : Below w.heap.size w w2 := bel_trans hbl (bel_trans hb1 hbA)
  have hop := fun w' (h : Below w2.heap.size w2 w') => l15OpenW w a n cap w' (bel_trans hbw2 h) (bel_trans hbw2 h).size HC.out hcap hn
  have HOP := Lib.hid hop
  have hnb : ∀ w' g, Rd w w' g 0 → Calls Try.prog 45 #[.pointer (some ⟨g, 0, none⟩), .slice (some ⟨w'.heap.size, 0, none⟩) 7 7] (w'.alloc (.cells #[.int .i64 5, .int .i64 1, .int .i64 10, .int .i64 0, .int .i64 100000, .int .i64 50, .int .i64 (-1)] 3)) fun e w'' => ∃ x : Int, e = .returned (.int .i64 x) ∧ w'.grownBy w'' (some g) := fun w' g h => (num_built [5, 1, 10, 0, 100000, 50, -1] w w' g 0 h (by omega) _ (by simp) (by simp)).mono (by rintro e w'' ⟨x, -, h1, -, h2⟩; exact ⟨x, h1, h2⟩)
  have hna : ∀ wA g, Below ((w2.alloc (.cells #[.int .i64 5, .int .i64 1, .int .i64 10, .int .i64 0, .int .i64 100000, .int .i64 50, .int .i64 (-1)] 3)).drew).heap.size (w2.alloc (.cells #[.int .i64 5, .int .i64 1, .int .i64 10, .int .i64 0, .int .i64 100000, .int .i64 50, .int .i64 (-1)] 3)).drew wA → w2.heap.size < g → Rd w wA g 0 → Calls Try.prog 45 #[.pointer (some ⟨g, 0, none⟩), .slice (some ⟨w2.heap.size, 0, none⟩) 7 7] wA fun e w'' => ∃ x : Int, e = .returned (.int .i64 x) ∧ wA.grownBy w'' (some g) := fun wA g hb hg h => by
    have hrn : RowN wA g (.slice (some ⟨w2.heap.size, 0, none⟩) 7 7) [5, 1, 10, 0, 100000, 50, -1] := by
      refine ⟨w2.heap.size, 0, 7, rfl, Nat.lt_of_lt_of_le (show w2.heap.size < (w2.alloc (.cells #[.int .i64 5, .int .i64 1, .int .i64 10, .int .i64 0, .int .i64 100000, .int .i64 50, .int .i64 (-1)] 3)).heap.size by simp) hb.size, by omega, fun i hi => ?_⟩
      have h1 := (Box.new w2 3 #[.int .i64 5, .int .i64 1, .int .i64 10, .int .i64 0, .int .i64 100000, .int .i64 50, .int .i64 (-1)]).cell i
      have h2 : wA.cell? ⟨w2.heap.size, 0 + i, none⟩ = (w2.alloc (.cells #[.int .i64 5, .int .i64 1, .int .i64 10, .int .i64 0, .int .i64 100000, .int .i64 50, .int .i64 (-1)] 3)).cell? ⟨w2.heap.size, 0 + i, none⟩ := hb.cell (p := ⟨w2.heap.size, 0 + i, none⟩) (show w2.heap.size < (w2.alloc (.cells #[.int .i64 5, .int .i64 1, .int .i64 10, .int .i64 0, .int .i64 100000, .int .i64 50, .int .i64 (-1)] 3)).heap.size by simp)
      rw [h2, Nat.zero_add, h1]
      have : i = 0 ∨ i = 1 ∨ i = 2 ∨ i = 3 ∨ i = 4 ∨ i = 5 ∨ i = 6 := by simp at hi; omega
      rcases this with rfl | rfl | rfl | rfl | rfl | rfl | rfl <;> rfl
    exact (num [5, 1, 10, 0, 100000, 50, -1] _ w wA g 0 h (by omega) hrn (by simp) (by simp)).mono (by rintro e w'' ⟨x, -, h1, -, h2⟩; exact ⟨x, h1, h2⟩)
  have HNB := Lib.hid hnb
  have HNA := Lib.hid hna
  have HR := Lib.hid (fun w' (h : Below w2.heap.size w2 w') x0 x1 y0 y1 y2 (i : Int) => (drawnV_out (n := n1) (m := m) (a := b) hbl h0 (bel_trans hb1 (bel_trans hbA h)) hl ⟨(InR.keep hr1.1 (bel_trans hbA h)).wider (Nat.le_refl _) (bel_trans hbA h).size (Nat.le_refl _), hr1.2⟩ ⟨(InR.keep hr2.1 (bel_trans hbA h)).wider (Nat.le_refl _) (bel_trans hbA h).size (Nat.le_refl _), hr2.2⟩ x0 x1 y0 y1 y2).edge (i := i))
  have r0 : Hid (Below w2.heap.size w2 (w2.alloc (.cells #[.int .i64 5, .int .i64 1, .int .i64 10, .int .i64 0, .int .i64 100000, .int .i64 50, .int .i64 (-1)] 3)).drew) := Lib.hid ((Below.refl _ _).alloc (Nat.le_refl _) _).drew
  have rS : Hid (w2.heap.size < (w2.alloc (.cells #[.int .i64 5, .int .i64 1, .int .i64 10, .int .i64 0, .int .i64 100000, .int .i64 50, .int .i64 (-1)] 3)).drew.heap.size) := Lib.hid (by show w2.heap.size < (w2.alloc (.cells #[.int .i64 5, .int .i64 1, .int .i64 10, .int .i64 0, .int .i64 100000, .int .i64 50, .int .i64 (-1)] 3)).heap.size; simp)
  have r1 : Hid (Below w2.heap.size w2 w2.drew) := Lib.hid (Below.refl _ _).drew
  obtain ⟨⟨p0, p1, q0, q1, q2⟩, fp0, fp1, fq0, fq1, fq2⟩ := hold _ (Below.refl _ _)
  clear hz hz2 hr1 hr2 hb1 hbl hbA hB5 hB6 h2 h3 hx2 hx3 hl hfx hcl hk2 hk3 hold hop hnb hna hbw2
  clear p0 p1 q0 q1 q2 fp0 fp1 fq0 fq1 fq2
  go_wp2_with fail
  go_region_held3 (fun w' : World => w'.cell? ⟨w1.heap.size, 0, none⟩ = some (.int .i64 n1) ∧ w'.cell? ⟨w1.heap.size, 1, none⟩ = some (.slice va es.length vc) ∧ w'.cell? ⟨w1.heap.size + 1, 0, none⟩ = some (.int .i64 m) ∧ w'.cell? ⟨w1.heap.size + 1, 1, none⟩ = some (.int .i64 b) ∧ w'.cell? ⟨w1.heap.size + 1, 2, none⟩ = some (.slice ta zs.length tc)) (first | (with_reducible exact HK1.out _ r1.out) | (with_reducible exact HK1.out _ r0.out) | (with_reducible exact HK1.out _ HBA.out) | (with_reducible exact HK1.out _ (HBA.out.alloc HBA.out.size _)) | (with_reducible exact HK1.out _ HBN.out) | (with_reducible exact HK2.out _ HBN.out _ _) | (with_reducible exact HK3.out _ HBN.out _ _ _ _ _)) (first | (go_at_call 44; first | ((with_reducible refine (HOP.out _ r0.out).mono ?_); rintro e wA ⟨gA, rfl, hgA, hbA, hRdA⟩; have HBA := Lib.hid (bel_trans r0.out hbA); have HRD := Lib.hid (And.intro hgA (And.intro hbA hRdA)); clear hgA hbA hRdA) | ((with_reducible refine (HOP.out _ r1.out).mono ?_); rintro e wA ⟨gA, rfl, hgA, hbA, hRdA⟩; have HBA := Lib.hid (bel_trans r1.out hbA); have HRD := Lib.hid (And.intro hgA (And.intro hbA hRdA)); clear hgA hbA hRdA)) | (go_at_call 45; first | ((with_reducible refine (HNB.out _ _ HRD.out.2.2).mono ?_); rintro e wB ⟨x, rfl, hG⟩; have HBN := Lib.hid (HBA.out.grown hG HBA.out.size (fun q hq => by injection hq with hq; subst hq; exact HRD.out.1)); clear hG; obtain ⟨⟨p0, p1, q0, q1, q2⟩, fp0, fp1, fq0, fq1, fq2⟩ := HOLD.out _ HBN.out) | ((with_reducible refine (HNA.out _ _ HRD.out.2.1 (Nat.lt_of_lt_of_le rS.out HRD.out.1) HRD.out.2.2).mono ?_); rintro e wB ⟨x, rfl, hG⟩; have HBN := Lib.hid (HBA.out.grown hG HBA.out.size (fun q hq => by injection hq with hq; subst hq; exact Nat.le_trans (Nat.le_of_lt rS.out) HRD.out.1)); clear hG; obtain ⟨⟨p0, p1, q0, q1, q2⟩, fp0, fp1, fq0, fq1, fq2⟩ := HOLD.out _ HBN.out)))
  all_goals
    go_wp2
    try simp only [Exit.inBlock, Exit.then]
    refine bodyPost_ret (v := .tuple #[.agg #[.int .i64 n1, .slice va es.length vc], .agg #[.int .i64 m, .int .i64 b, .slice ta zs.length tc], .int .i64 x]) ?_ rfl (HR.out _ HBN.out _ _ _ _ _ _)
    rw [results_cct rfl]
    go_simp
end Go.Proofs.Ytlgjcofpdaljnaa
