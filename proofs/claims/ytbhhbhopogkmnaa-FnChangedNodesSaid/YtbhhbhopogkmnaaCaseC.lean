/- The draw of two views. -/
import Derived.Test.YtbhhbhopogkmnaaCaseD
import Derived.Test.YtbhhbhopogkmnaaDrawsP
import Derived.Test.YtbhhbhopogkmnaaViewT
import Derived.Test.YtbhhbhopogkmnaaRelaxJ
namespace Go.Proofs.Ytbhhbhopogkmnaa
open Go.RowKit Go.BigFrame Go.Deep
set_option linter.unusedVariables false
set_option linter.unusedSimpArgs false
set_option linter.unnecessarySimpa false

/-- Two views are drawn. -/
def DrawnCh (w : World) (e : Ending) (w' : World) : Prop :=
  ∃ (m a : Int) (zs : List Int) (s : Value) (m2 a2 : Int) (ys : List Int) (t : Value), e = .returned (.tuple #[.agg #[.int .i64 m, .int .i64 a, s], .agg #[.int .i64 m2, .int .i64 a2, t]]) ∧ (zs.length ≤ 12 ∧ ys.length ≤ 12) ∧ InR true w' w.heap.size w'.heap.size s zs.length 1 (cellI zs) ∧ InR true w' w.heap.size w'.heap.size t ys.length 1 (cellI ys) ∧ Below w.heap.size w w'

theorem drawnCh_of {w wB : World} {lo hi lo2 hi2 : Nat} {m a m2 a2 : Int} {zs ys : List Int} {s t x0 x1 x2 y0 y1 y2 : Value} (hb : Below w.heap.size w wB) (h1 : InR true wB lo hi s zs.length 1 (cellI zs)) (hlo : w.heap.size + 2 ≤ lo) (hhi : hi ≤ wB.heap.size) (hl : zs.length ≤ 12) (h2 : InR true wB lo2 hi2 t ys.length 1 (cellI ys)) (hlo2 : w.heap.size + 2 ≤ lo2) (hhi2 : hi2 ≤ wB.heap.size) (hl2 : ys.length ≤ 12) :
    DrawnCh w (.returned (.tuple #[.agg #[.int .i64 m, .int .i64 a, s], .agg #[.int .i64 m2, .int .i64 a2, t]])) ((((((wB.setCell ⟨w.heap.size, 0, none⟩ x0).setCell ⟨w.heap.size, 1, none⟩ x1).setCell ⟨w.heap.size, 2, none⟩ x2).setCell ⟨w.heap.size + 1, 0, none⟩ y0).setCell ⟨w.heap.size + 1, 1, none⟩ y1).setCell ⟨w.heap.size + 1, 2, none⟩ y2) := by
  have hc : Chg w.heap.size (w.heap.size + 2) wB ((((((wB.setCell ⟨w.heap.size, 0, none⟩ x0).setCell ⟨w.heap.size, 1, none⟩ x1).setCell ⟨w.heap.size, 2, none⟩ x2).setCell ⟨w.heap.size + 1, 0, none⟩ y0).setCell ⟨w.heap.size + 1, 1, none⟩ y1).setCell ⟨w.heap.size + 1, 2, none⟩ y2) :=
    ((((((Chg.refl _ _ _).setCell (by simp) (by simp) _).setCell (by simp) (by simp) _).setCell (by simp) (by simp) _).setCell (by simp) (by simp) _).setCell (by simp) (by simp) _).setCell (by simp) (by simp) _
  exact ⟨m, a, zs, s, m2, a2, ys, t, rfl, ⟨hl, hl2⟩, (h1.chg hc (.inl (by omega))).wider (by omega) (Nat.le_trans hhi hc.size) (Nat.le_refl _), (h2.chg hc (.inl (by omega))).wider (by omega) (Nat.le_trans hhi2 hc.size) (Nat.le_refl _), bel_chg hb hc (Nat.le_refl _)⟩
set_option maxRecDepth 20000 in
set_option maxHeartbeats 2000000 in
theorem l3CopyC (m a : Int) (zs : List Int) (s : Value) (w : World) (hr : Row w s zs) (hl : zs.length ≤ 1048576) :
    Calls Try.prog 41 #[.agg #[.int .i64 m, .int .i64 a, s]] w fun e w' => ∃ v, e = .returned (.agg #[.int .i64 m, .int .i64 a, v]) ∧ OwnV w w' v zs ∧ Below w.heap.size w w' := by
  by_cases h0 : 0 < zs.length
  · refine (l3Copy m a zs s w hr h0 hl).mono ?_
    rintro e w' ⟨v, h1, h2, h3, h4⟩
    exact ⟨v, h1, h2, h4⟩
  · have hz0 : zs = [] := List.eq_nil_of_length_eq_zero (by omega)
    subst hz0
    obtain ⟨ad, cap, rfl, hz⟩ := hr
    obtain ⟨i0, hi, hz0, hz1, hz2⟩ := info_parts info_int2
    have hB3 : ∀ (A B C : Obj), Below w.heap.size w (((w.alloc A).alloc B).alloc C).drew := fun A B C => ((((Below.refl _ _).alloc (Nat.le_refl _) _).alloc (by simp) _).alloc (by simp; omega) _).drew
    clear h0 hl hz
    go_enter Try.func41, Try.ntmps41
    go_wp2
    cases ad
    all_goals
      go_region
      all_goals
        go_wp2
        try simp only [Exit.inBlock, Exit.then]
        refine bodyPost_ret (v := .agg #[.int .i64 m, .int .i64 a, .slice (some ⟨w.heap.size + 1 + 1, 0, none⟩) 0 0]) ?_ rfl ⟨_, rfl, ⟨_, _, rfl, .inl rfl⟩, hB3 _ _ _⟩
        rw [results_cell1 rfl]
        go_simp

set_option maxRecDepth 20000 in
set_option maxHeartbeats 4000000 in
theorem dDrawChangedNodes (a : Option Addr) (n cap : Nat) (w : World) (hb : Bytes w a n) (hcap : n ≤ cap) (hn : n ≤ 281474976710656) :
    Calls Try.prog 11 #[.slice a n cap] w (DrawnCh w) := by
  have hbl : Below w.heap.size w ((w.alloc (.cells #[.int .i64 0, .int .i64 0, .slice none 0 0] 25)).alloc (.cells #[.int .i64 0, .int .i64 0, .slice none 0 0] 25)) := ((Below.refl _ _).alloc (Nat.le_refl _) _).alloc (by simp) _
  have hx2 : Box ((w.alloc (.cells #[.int .i64 0, .int .i64 0, .slice none 0 0] 25)).alloc (.cells #[.int .i64 0, .int .i64 0, .slice none 0 0] 25)) w.heap.size 25 #[.int .i64 0, .int .i64 0, .slice none 0 0] := (Box.new w _ _).alloc _
  have hx3 : Box ((w.alloc (.cells #[.int .i64 0, .int .i64 0, .slice none 0 0] 25)).alloc (.cells #[.int .i64 0, .int .i64 0, .slice none 0 0] 25)) (w.heap.size + 1) 25 #[.int .i64 0, .int .i64 0, .slice none 0 0] := by
    have := Box.new (w.alloc (.cells #[.int .i64 0, .int .i64 0, .slice none 0 0] 25)) 25 #[.int .i64 0, .int .i64 0, .slice none 0 0]
    simpa using this
  have hsz : ((w.alloc (.cells #[.int .i64 0, .int .i64 0, .slice none 0 0] 25)).alloc (.cells #[.int .i64 0, .int .i64 0, .slice none 0 0] 25)).heap.size = w.heap.size + 2 := by simp
  have HC := Lib.hid hb
  clear hb
  go_enter Try.func11, Try.ntmps11
  go_wp2_with fail
  generalize ((w.alloc (.cells #[.int .i64 0, .int .i64 0, .slice none 0 0] 25)).alloc (.cells #[.int .i64 0, .int .i64 0, .slice none 0 0] 25)) = w0 at hbl hx2 hx3 hsz ⊢
  refine (l9Case a n cap w0 (HC.out.keepB hbl) hcap hn).mono ?_
  rintro e w1 ⟨n1, es, v1, cs, t, rfl, ⟨hl1, hl2⟩, ⟨hrow1, hok1⟩, ⟨hrow2, hok2⟩, hb1⟩
  obtain ⟨va, vc, rfl, hz9⟩ := id hrow1
  obtain ⟨ta, tc, rfl, hz8⟩ := id hrow2
  have hs1 := hb1.size
  have hb2 : Below w1.heap.size w1 (w1.alloc (.cells #[.int .i64 n1, .slice va es.length vc] 34)) := (Below.refl _ _).alloc (Nat.le_refl _) _
  have K2 := Lib.hid (And.intro ((hx2.keep hb1).keep hb2) (And.intro ((hx3.keep hb1).keep hb2) (And.intro (Box.new w1 34 #[.int .i64 n1, .slice va es.length vc]) (And.intro (InR.keep hrow1 hb2) (And.intro (@InR.keep _ _ _ _ _ _ _ _ _ hrow2 hb2) (And.intro hok1 (bel_trans (bel_trans hbl hb1) hb2)))))))
  have hs2 := hb2.size
  clear hz9 hz8 hrow1 hok1 hrow2 hok2 hx2 hx3 hb1 hb2
  go_wp2_with fail
  generalize (w1.alloc (.cells #[.int .i64 n1, .slice va es.length vc] 34)) = w2 at K2 hs2 ⊢
  have hlt1 := K2.out.2.2.1.lt
  refine (l15OpenD w a n cap w2 K2.out.2.2.2.2.2.2 HC.out hcap hn).mono ?_
  rintro e w3 ⟨g, rfl, hg3, hb3, hR3⟩
  have hs3 := hb3.size
  have K3 := Lib.hid (And.intro (K2.out.1.keep hb3) (And.intro (K2.out.2.1.keep hb3) (And.intro (K2.out.2.2.1.keep hb3) (And.intro (InR.keep K2.out.2.2.2.1 hb3) (And.intro (InR.keep K2.out.2.2.2.2.1 hb3) hR3)))))
  clear hb3 hR3
  go_wp2_with fail
  refine (l1KindV w w3 g 0 K3.out.2.2.2.2.2 (by omega)).mono ?_
  rintro e w4 ⟨m, rfl, hmk, hR4, hG4⟩
  have hs4 := hG4.size
  have hg4 := hR4.lt
  have K4 := Lib.hid (And.intro (K3.out.1.grownG hG4 (by omega)) (And.intro (K3.out.2.1.grownG hG4 (by omega)) (And.intro (K3.out.2.2.1.grownG hG4 (by omega)) (And.intro (K3.out.2.2.2.1.chg (g_chgG hG4) (.inr (by omega))) (And.intro (K3.out.2.2.2.2.1.chg (g_chgG hG4) (.inr (by omega))) hR4)))))
  clear hR4 hG4
  have x0 : w4.cell? ⟨w1.heap.size, 0, none⟩ = some (.int .i64 n1) := by simpa using K4.out.2.2.1.cell 0
  have x1 : w4.cell? ⟨w1.heap.size, 1, none⟩ = some (.slice va es.length vc) := by simpa using K4.out.2.2.1.cell 1
  go_wp2_with fail
  have hrl := apR_len n1 es cs
  have hap := sApplyChanges n1 es cs _ _ w4 K4.out.2.2.2.1.edges K4.out.2.2.2.2.1.changes K2.out.2.2.2.2.2.1 (by omega) (by omega)
  have hvv : apB n1 es cs = true → gVal n1 es = true ∧ gVal n1 (apR n1 es cs) = true ∧ apN n1 es cs = n1 := fun h => ⟨(apB_out h).2.1, apR_val h, by unfold apN; rw [if_pos h]⟩
  generalize apN n1 es cs = N3 at hap hvv
  generalize apB n1 es cs = B at hap hvv
  generalize apR n1 es cs = R3 at hap hrl hvv
  have HAP := Lib.hid hap
  have HVV := Lib.hid hvv
  clear hap hvv
  refine HAP.out.mono ?_
  rintro e w5 ⟨v3, rfl, hown3, hok3, hb5⟩
  obtain ⟨a3, c3, rfl, hz9⟩ := id hown3
  have hs5 := hb5.size
  have hb6 : Below w5.heap.size w5 (w5.alloc (.cells #[.int .i64 N3, .slice a3 R3.length c3] 34)) := (Below.refl _ _).alloc (Nat.le_refl _) _
  have hs6 := hb6.size
  have K6 := Lib.hid (And.intro ((K4.out.1.keep hb5).keep hb6) (And.intro ((K4.out.2.1.keep hb5).keep hb6) (And.intro ((K4.out.2.2.1.keep hb5).keep hb6) (And.intro (InR.keep (InR.keep K4.out.2.2.2.1 hb5) hb6) (And.intro (Box.new w5 34 #[.int .i64 N3, .slice a3 R3.length c3]) (And.intro (@InR.keep _ _ _ _ _ _ _ _ _ hown3 hb6) ((K4.out.2.2.2.2.2.keep hb5).keep hb6)))))))
  clear hz9 hown3 hok3 hb5 hb6 x0 x1
  obtain ⟨w6, hw6⟩ : ∃ w6, w6 = (w5.alloc (.cells #[.int .i64 N3, .slice a3 R3.length c3] 34)) := ⟨_, rfl⟩
  rw [← hw6] at K6 hs6
  have hlt5 := K6.out.2.2.2.2.1.lt
  cases B
  · go_wp2_with fail
    rw [← hw6]
    clear hw6
    refine (l3Views a n cap w6 (HC.out.keepB K6.out.2.2.2.2.2.2.bel) hcap hn).mono ?_
    rintro e w7 ⟨n9, es9, s9, m9, a9, zs, t9, rfl, ⟨hl8, hl9⟩, ⟨hro8, hok8⟩, ⟨hro9, hok9⟩, hb7⟩
    obtain ⟨sa, sc, rfl, hz9⟩ := id hro8
    obtain ⟨ua, uc, rfl, hz8⟩ := id hro9
    have hs7 := hb7.size
    have W8 : ∃ w8, w8 = ((w7.alloc (.cells #[.int .i64 n9, .slice sa es9.length sc] 34)).alloc (.cells #[.int .i64 m9, .int .i64 a9, .slice ua zs.length uc] 25)) := ⟨_, rfl⟩
    have hb8 : Below w7.heap.size w7 ((w7.alloc (.cells #[.int .i64 n9, .slice sa es9.length sc] 34)).alloc (.cells #[.int .i64 m9, .int .i64 a9, .slice ua zs.length uc] 25)) := ((Below.refl _ _).alloc (Nat.le_refl _) _).alloc (by simp) _
    have hx11 : Box ((w7.alloc (.cells #[.int .i64 n9, .slice sa es9.length sc] 34)).alloc (.cells #[.int .i64 m9, .int .i64 a9, .slice ua zs.length uc] 25)) (w7.heap.size + 1) 25 #[.int .i64 m9, .int .i64 a9, .slice ua zs.length uc] := by
      have := Box.new (w7.alloc (.cells #[.int .i64 n9, .slice sa es9.length sc] 34)) 25 #[.int .i64 m9, .int .i64 a9, .slice ua zs.length uc]
      simpa using this
    have hs8 := hb8.size
    have K8 := Lib.hid (And.intro ((K6.out.1.keep hb7).keep hb8) (And.intro ((K6.out.2.1.keep hb7).keep hb8) (And.intro hx11 (And.intro (InR.keep hro9 hb8) (bel_trans (bel_trans K6.out.2.2.2.2.2.2.bel hb7) hb8)))))
    clear hx11 hb8 hb7 hro8 hok8 hro9 hok9 hz8 hz9 W8
    go_upto_region 7 with fail
    generalize ((w7.alloc (.cells #[.int .i64 n9, .slice sa es9.length sc] 34)).alloc (.cells #[.int .i64 m9, .int .i64 a9, .slice ua zs.length uc] 25)) = w8 at K8 hs8 ⊢
    have hold : ∀ w' : World, Below w8.heap.size w8 w' → (w'.cell? ⟨w.heap.size, 0, none⟩ = some (.int .i64 0) ∧ w'.cell? ⟨w.heap.size, 1, none⟩ = some (.int .i64 0) ∧ w'.cell? ⟨w.heap.size, 2, none⟩ = some (.slice none 0 0) ∧ w'.cell? ⟨w.heap.size + 1, 0, none⟩ = some (.int .i64 0) ∧ w'.cell? ⟨w.heap.size + 1, 1, none⟩ = some (.int .i64 0) ∧ w'.cell? ⟨w.heap.size + 1, 2, none⟩ = some (.slice none 0 0)) ∧ (w'.frozen? ⟨w.heap.size, 0, none⟩ = false ∧ w'.frozen? ⟨w.heap.size, 1, none⟩ = false ∧ w'.frozen? ⟨w.heap.size, 2, none⟩ = false ∧ w'.frozen? ⟨w.heap.size + 1, 0, none⟩ = false ∧ w'.frozen? ⟨w.heap.size + 1, 1, none⟩ = false ∧ w'.frozen? ⟨w.heap.size + 1, 2, none⟩ = false) := fun w' h => by
      have b2 := K8.out.1.keep h
      have b3 := K8.out.2.1.keep h
      exact ⟨⟨by simpa using b2.cell 0, by simpa using b2.cell 1, by simpa using b2.cell 2, by simpa using b3.cell 0, by simpa using b3.cell 1, by simpa using b3.cell 2⟩, b2.frozen 0, b2.frozen 1, b2.frozen 2, b3.frozen 0, b3.frozen 1, b3.frozen 2⟩
    have HOLD := Lib.hid hold
    have hb11 : ∀ w' : World, Below w8.heap.size w8 w' → Box w' (w7.heap.size + 1) 25 #[.int .i64 m9, .int .i64 a9, .slice ua zs.length uc] := fun w' h => K8.out.2.2.1.keep h
    have HB := Lib.hid hb11
    have hkc : ∀ w' : World, Box w' (w7.heap.size + 1) 25 #[.int .i64 m9, .int .i64 a9, .slice ua zs.length uc] → (w'.cell? ⟨w7.heap.size + 1, 0, none⟩ = some (.int .i64 m9) ∧ w'.cell? ⟨w7.heap.size + 1, 1, none⟩ = some (.int .i64 a9) ∧ w'.cell? ⟨w7.heap.size + 1, 2, none⟩ = some (.slice ua zs.length uc)) := fun w' b => ⟨by simpa using b.cell 0, by simpa using b.cell 1, by simpa using b.cell 2⟩
    have HKC := Lib.hid hkc
    have hcp : ∀ w' : World, Below w8.heap.size w8 w' → Calls Try.prog 41 #[.agg #[.int .i64 m9, .int .i64 a9, .slice ua zs.length uc]] w' fun e w'' => ∃ v, e = .returned (.agg #[.int .i64 m9, .int .i64 a9, v]) ∧ OwnV w' w'' v zs ∧ Below w'.heap.size w' w'' := fun w' h => l3CopyC m9 a9 zs _ w' (InR.keep K8.out.2.2.2.1 h).rowI (by omega)
    have HCP := Lib.hid hcp
    clear hold hb11 hkc hcp
    have HKP : Hid (∀ wX : World, Below w8.heap.size w8 wX → (wX.cell? ⟨w7.heap.size + 1, 0, none⟩ = some (.int .i64 m9) ∧ wX.cell? ⟨w7.heap.size + 1, 1, none⟩ = some (.int .i64 a9) ∧ wX.cell? ⟨w7.heap.size + 1, 2, none⟩ = some (.slice ua zs.length uc))) := Lib.hid (fun wX h => HKC.out _ (HB.out _ h))
    have HKA : Hid (∀ wX : World, Below w8.heap.size w8 wX → ∀ x0 x1 x2 : Value, ((((wX.setCell ⟨w.heap.size, 0, none⟩ x0).setCell ⟨w.heap.size, 1, none⟩ x1).setCell ⟨w.heap.size, 2, none⟩ x2).cell? ⟨w7.heap.size + 1, 0, none⟩ = some (.int .i64 m9) ∧ (((wX.setCell ⟨w.heap.size, 0, none⟩ x0).setCell ⟨w.heap.size, 1, none⟩ x1).setCell ⟨w.heap.size, 2, none⟩ x2).cell? ⟨w7.heap.size + 1, 1, none⟩ = some (.int .i64 a9) ∧ (((wX.setCell ⟨w.heap.size, 0, none⟩ x0).setCell ⟨w.heap.size, 1, none⟩ x1).setCell ⟨w.heap.size, 2, none⟩ x2).cell? ⟨w7.heap.size + 1, 2, none⟩ = some (.slice ua zs.length uc))) := Lib.hid (fun wX h x0 x1 x2 => HKC.out _ (((((((HB.out _ h)).setOther (B' := w.heap.size) (by omega) 0 _)).setOther (B' := w.heap.size) (by omega) 1 _)).setOther (B' := w.heap.size) (by omega) 2 _))
    have HKB : Hid (∀ wX : World, Below w8.heap.size w8 wX → ∀ x0 x1 x2 y0 y1 y2 : Value, (((((((wX.setCell ⟨w.heap.size, 0, none⟩ x0).setCell ⟨w.heap.size, 1, none⟩ x1).setCell ⟨w.heap.size, 2, none⟩ x2).setCell ⟨w.heap.size + 1, 0, none⟩ y0).setCell ⟨w.heap.size + 1, 1, none⟩ y1).setCell ⟨w.heap.size + 1, 2, none⟩ y2).cell? ⟨w7.heap.size + 1, 0, none⟩ = some (.int .i64 m9) ∧ ((((((wX.setCell ⟨w.heap.size, 0, none⟩ x0).setCell ⟨w.heap.size, 1, none⟩ x1).setCell ⟨w.heap.size, 2, none⟩ x2).setCell ⟨w.heap.size + 1, 0, none⟩ y0).setCell ⟨w.heap.size + 1, 1, none⟩ y1).setCell ⟨w.heap.size + 1, 2, none⟩ y2).cell? ⟨w7.heap.size + 1, 1, none⟩ = some (.int .i64 a9) ∧ ((((((wX.setCell ⟨w.heap.size, 0, none⟩ x0).setCell ⟨w.heap.size, 1, none⟩ x1).setCell ⟨w.heap.size, 2, none⟩ x2).setCell ⟨w.heap.size + 1, 0, none⟩ y0).setCell ⟨w.heap.size + 1, 1, none⟩ y1).setCell ⟨w.heap.size + 1, 2, none⟩ y2).cell? ⟨w7.heap.size + 1, 2, none⟩ = some (.slice ua zs.length uc))) := Lib.hid (fun wX h x0 x1 x2 y0 y1 y2 => HKC.out _ (((((((((((((HB.out _ h)).setOther (B' := w.heap.size) (by omega) 0 _)).setOther (B' := w.heap.size) (by omega) 1 _)).setOther (B' := w.heap.size) (by omega) 2 _)).setOther (B' := w.heap.size + 1) (by omega) 0 _)).setOther (B' := w.heap.size + 1) (by omega) 1 _)).setOther (B' := w.heap.size + 1) (by omega) 2 _))
    have HK0 := Lib.hid (HKP.out w8.drew ((Below.refl w8.heap.size w8).drew))
    go_region_held3 (fun w' : World => w'.cell? ⟨w7.heap.size + 1, 0, none⟩ = some (.int .i64 m9) ∧ w'.cell? ⟨w7.heap.size + 1, 1, none⟩ = some (.int .i64 a9) ∧ w'.cell? ⟨w7.heap.size + 1, 2, none⟩ = some (.slice ua zs.length uc)) (first | with_reducible exact HK0.out | with_reducible exact HKP.out _ (bel_trans ((Below.refl _ _).drew) hbA) | with_reducible exact HKA.out _ (bel_trans ((Below.refl _ _).drew) hbA) _ _ _ | with_reducible exact HKB.out _ (bel_trans ((Below.refl _ _).drew) hbA) _ _ _ _ _ _) (first | (go_at_call 41; (with_reducible refine (HCP.out _ ((Below.refl _ _).drew)).mono ?_); rintro e wA ⟨v, rfl, hownA, hbA⟩; obtain ⟨aA, cA, rfl⟩ := hownA.slice; obtain ⟨⟨p0, p1, p2, q0, q1, q2⟩, fp0, fp1, fp2, fq0, fq1, fq2⟩ := HOLD.out _ (bel_trans ((Below.refl _ _).drew) hbA)))
    all_goals
      have hsA := (bel_trans ((Below.refl w8.heap.size w8).drew) hbA).size
      have hdA : w8.heap.size ≤ w8.drew.heap.size := ((Below.refl w8.heap.size w8).drew).size
      go_wp2
      try simp only [Exit.inBlock, Exit.then]
      refine bodyPost_ret (v := .tuple #[.agg #[.int .i64 m9, .int .i64 a9, .slice ua zs.length uc], .agg #[.int .i64 m9, .int .i64 a9, .slice aA zs.length cA]]) ?_ rfl ?_
      · rw [results_ccD rfl]
        go_simp
      exact drawnCh_of (bel_trans K8.out.2.2.2.2 (bel_trans ((Below.refl _ _).drew) hbA)) (InR.keep K8.out.2.2.2.1 (bel_trans ((Below.refl _ _).drew) hbA)) (by omega) (by omega) hl9 hownA (by omega) (Nat.le_refl _) hl9
  · obtain ⟨hg1, hg2, hN3⟩ := HVV.out rfl
    have HN3 := Lib.hid hN3
    clear hN3
    go_wp2_with fail
    rw [← hw6]
    clear hw6
    have hN3 := HN3.out
    clear HN3
    subst hN3
    refine (pick 12 w w6 g _ K6.out.2.2.2.2.2.2 (by omega) (by omega)).mono ?_
    rintro e w7 ⟨x7, rfl, hx7, hy7, hR7, hG7⟩
    have hs7 := hG7.size
    have K7 := Lib.hid (And.intro (K6.out.1.grownG hG7 (by omega)) (And.intro (K6.out.2.1.grownG hG7 (by omega)) (And.intro (K6.out.2.2.1.grownG hG7 (by omega)) (And.intro (K6.out.2.2.2.1.chg (g_chgG hG7) (.inr (by omega))) (And.intro (K6.out.2.2.2.2.1.grownG hG7 (by omega)) (And.intro (K6.out.2.2.2.2.2.1.chg (g_chgG hG7) (.inl (by omega))) hR7))))))
    clear hR7 hG7
    by_cases h7 : x7 = 0
    · have d7 : (x7 == 0) = true := by simpa using h7
      subst h7
      obtain ⟨NN, hNN⟩ : ∃ NN : Nat, N3 = NN := ⟨N3.toNat, by have := (gVal_iff.1 hg1).1.1; omega⟩
      subst hNN
      have h12 := (gVal_iff.1 hg1).1.2.1
      have h11 := (gVal_iff.1 hg1).1.1
      have he1 : eAll NN es := by simpa using eAll_of hg1
      have he2 : eAll NN R3 := by simpa using eAll_of hg2
      have hz9 : ∀ (x : Int) (fs : List Ed), (vIter x fs NN (vStart x NN 0)).length ≤ 12 := fun x fs => by rw [vIter_length, vStart_length]; omega
      have HZ := Lib.hid hz9
      have hv1 : ∀ w' : World, RowE w' (.slice va es.length vc) es → Calls Try.prog 43 #[.agg #[.int .i64 NN, .slice va es.length vc], .int .i64 m, .int .i64 0] w' fun e w'' => ∃ v, e = .returned (.agg #[.int .i64 m, .int .i64 0, v]) ∧ OwnV w' w'' v (vIter m es NN (vStart m NN 0)) ∧ okS v ∧ Below w'.heap.size w' w'' := fun w' h => l3View m es NN 0 _ w' hmk h (by omega) (by omega) (by omega) he1
      have hv2 : ∀ (x : Int), mKind x = true → ∀ w' : World, RowE w' (.slice a3 R3.length c3) R3 → Calls Try.prog 43 #[.agg #[.int .i64 NN, .slice a3 R3.length c3], .int .i64 x, .int .i64 0] w' fun e w'' => ∃ v, e = .returned (.agg #[.int .i64 x, .int .i64 0, v]) ∧ OwnV w' w'' v (vIter x R3 NN (vStart x NN 0)) ∧ okS v ∧ Below w'.heap.size w' w'' := fun x hx w' h => l3View x R3 NN 0 _ w' hx h (by omega) (by omega) (by omega) he2
      have HMK := Lib.hid hmk
      have HV1 := Lib.hid hv1
      have HV2 := Lib.hid hv2
      have hold : ∀ w' : World, w7.grownBy w' (some g) → (w'.cell? ⟨w.heap.size, 0, none⟩ = some (.int .i64 0) ∧ w'.cell? ⟨w.heap.size, 1, none⟩ = some (.int .i64 0) ∧ w'.cell? ⟨w.heap.size, 2, none⟩ = some (.slice none 0 0) ∧ w'.cell? ⟨w.heap.size + 1, 0, none⟩ = some (.int .i64 0) ∧ w'.cell? ⟨w.heap.size + 1, 1, none⟩ = some (.int .i64 0) ∧ w'.cell? ⟨w.heap.size + 1, 2, none⟩ = some (.slice none 0 0)) ∧ (w'.frozen? ⟨w.heap.size, 0, none⟩ = false ∧ w'.frozen? ⟨w.heap.size, 1, none⟩ = false ∧ w'.frozen? ⟨w.heap.size, 2, none⟩ = false ∧ w'.frozen? ⟨w.heap.size + 1, 0, none⟩ = false ∧ w'.frozen? ⟨w.heap.size + 1, 1, none⟩ = false ∧ w'.frozen? ⟨w.heap.size + 1, 2, none⟩ = false) := fun w' h => by
        have b2 := K7.out.1.grownG h (by omega)
        have b3 := K7.out.2.1.grownG h (by omega)
        exact ⟨⟨by simpa using b2.cell 0, by simpa using b2.cell 1, by simpa using b2.cell 2, by simpa using b3.cell 0, by simpa using b3.cell 1, by simpa using b3.cell 2⟩, b2.frozen 0, b2.frozen 1, b2.frozen 2, b3.frozen 0, b3.frozen 1, b3.frozen 2⟩
      have HOLD := Lib.hid hold
      have hrw : ∀ w' : World, w7.grownBy w' (some g) → RowE w' (.slice va es.length vc) es ∧ RowE w' (.slice a3 R3.length c3) R3 := fun w' h => ⟨(K7.out.2.2.2.1.chg (g_chgG h) (.inr (by omega))).edges, (K7.out.2.2.2.2.2.1.chg (g_chgG h) (.inl (by omega))).edges⟩
      have HRW := Lib.hid hrw
      have hb4 : ∀ w' : World, w7.grownBy w' (some g) → Box w' (w1.heap.size) 34 #[.int .i64 NN, .slice va es.length vc] := fun w' h => K7.out.2.2.1.grownG h (by omega)
      have HB4 := Lib.hid hb4
      have hb8 : ∀ w' : World, w7.grownBy w' (some g) → Box w' (w5.heap.size) 34 #[.int .i64 NN, .slice a3 R3.length c3] := fun w' h => K7.out.2.2.2.2.1.grownG h (by omega)
      have HB8 := Lib.hid hb8
      have hkc : ∀ w' : World, Box w' (w1.heap.size) 34 #[.int .i64 NN, .slice va es.length vc] → Box w' (w5.heap.size) 34 #[.int .i64 NN, .slice a3 R3.length c3] → (w'.cell? ⟨w1.heap.size, 0, none⟩ = some (.int .i64 NN) ∧ w'.cell? ⟨w1.heap.size, 1, none⟩ = some (.slice va es.length vc) ∧ w'.cell? ⟨w5.heap.size, 0, none⟩ = some (.int .i64 NN) ∧ w'.cell? ⟨w5.heap.size, 1, none⟩ = some (.slice a3 R3.length c3)) := fun w' b b' => ⟨by simpa using b.cell 0, by simpa using b.cell 1, by simpa using b'.cell 0, by simpa using b'.cell 1⟩
      have HKC := Lib.hid hkc
      have HRD := Lib.hid K7.out.2.2.2.2.2.2
      have hw7 : w7.heap.size ≤ w7.drew.heap.size := ((Below.refl w7.heap.size w7).drew).size
      have hgw7 := HRD.out.lt
      have HKP : Hid (∀ wX : World, w7.grownBy wX (some g) → (wX.cell? ⟨w1.heap.size, 0, none⟩ = some (.int .i64 NN) ∧ wX.cell? ⟨w1.heap.size, 1, none⟩ = some (.slice va es.length vc) ∧ wX.cell? ⟨w5.heap.size, 0, none⟩ = some (.int .i64 NN) ∧ wX.cell? ⟨w5.heap.size, 1, none⟩ = some (.slice a3 R3.length c3))) := Lib.hid (fun wX h => HKC.out _ (HB4.out _ h) (HB8.out _ h))
      have HKA : Hid (∀ wX : World, w7.grownBy wX (some g) → ∀ x0 x1 x2 : Value, ((((wX.setCell ⟨w.heap.size, 0, none⟩ x0).setCell ⟨w.heap.size, 1, none⟩ x1).setCell ⟨w.heap.size, 2, none⟩ x2).cell? ⟨w1.heap.size, 0, none⟩ = some (.int .i64 NN) ∧ (((wX.setCell ⟨w.heap.size, 0, none⟩ x0).setCell ⟨w.heap.size, 1, none⟩ x1).setCell ⟨w.heap.size, 2, none⟩ x2).cell? ⟨w1.heap.size, 1, none⟩ = some (.slice va es.length vc) ∧ (((wX.setCell ⟨w.heap.size, 0, none⟩ x0).setCell ⟨w.heap.size, 1, none⟩ x1).setCell ⟨w.heap.size, 2, none⟩ x2).cell? ⟨w5.heap.size, 0, none⟩ = some (.int .i64 NN) ∧ (((wX.setCell ⟨w.heap.size, 0, none⟩ x0).setCell ⟨w.heap.size, 1, none⟩ x1).setCell ⟨w.heap.size, 2, none⟩ x2).cell? ⟨w5.heap.size, 1, none⟩ = some (.slice a3 R3.length c3))) := Lib.hid (fun wX h x0 x1 x2 => HKC.out _ (((((((HB4.out _ h)).setOther (B' := w.heap.size) (by omega) 0 _)).setOther (B' := w.heap.size) (by omega) 1 _)).setOther (B' := w.heap.size) (by omega) 2 _) (((((((HB8.out _ h)).setOther (B' := w.heap.size) (by omega) 0 _)).setOther (B' := w.heap.size) (by omega) 1 _)).setOther (B' := w.heap.size) (by omega) 2 _))
      have HKB : Hid (∀ wX : World, w7.grownBy wX (some g) → ∀ x0 x1 x2 y0 y1 y2 : Value, (((((((wX.setCell ⟨w.heap.size, 0, none⟩ x0).setCell ⟨w.heap.size, 1, none⟩ x1).setCell ⟨w.heap.size, 2, none⟩ x2).setCell ⟨w.heap.size + 1, 0, none⟩ y0).setCell ⟨w.heap.size + 1, 1, none⟩ y1).setCell ⟨w.heap.size + 1, 2, none⟩ y2).cell? ⟨w1.heap.size, 0, none⟩ = some (.int .i64 NN) ∧ ((((((wX.setCell ⟨w.heap.size, 0, none⟩ x0).setCell ⟨w.heap.size, 1, none⟩ x1).setCell ⟨w.heap.size, 2, none⟩ x2).setCell ⟨w.heap.size + 1, 0, none⟩ y0).setCell ⟨w.heap.size + 1, 1, none⟩ y1).setCell ⟨w.heap.size + 1, 2, none⟩ y2).cell? ⟨w1.heap.size, 1, none⟩ = some (.slice va es.length vc) ∧ ((((((wX.setCell ⟨w.heap.size, 0, none⟩ x0).setCell ⟨w.heap.size, 1, none⟩ x1).setCell ⟨w.heap.size, 2, none⟩ x2).setCell ⟨w.heap.size + 1, 0, none⟩ y0).setCell ⟨w.heap.size + 1, 1, none⟩ y1).setCell ⟨w.heap.size + 1, 2, none⟩ y2).cell? ⟨w5.heap.size, 0, none⟩ = some (.int .i64 NN) ∧ ((((((wX.setCell ⟨w.heap.size, 0, none⟩ x0).setCell ⟨w.heap.size, 1, none⟩ x1).setCell ⟨w.heap.size, 2, none⟩ x2).setCell ⟨w.heap.size + 1, 0, none⟩ y0).setCell ⟨w.heap.size + 1, 1, none⟩ y1).setCell ⟨w.heap.size + 1, 2, none⟩ y2).cell? ⟨w5.heap.size, 1, none⟩ = some (.slice a3 R3.length c3))) := Lib.hid (fun wX h x0 x1 x2 y0 y1 y2 => HKC.out _ (((((((((((((HB4.out _ h)).setOther (B' := w.heap.size) (by omega) 0 _)).setOther (B' := w.heap.size) (by omega) 1 _)).setOther (B' := w.heap.size) (by omega) 2 _)).setOther (B' := w.heap.size + 1) (by omega) 0 _)).setOther (B' := w.heap.size + 1) (by omega) 1 _)).setOther (B' := w.heap.size + 1) (by omega) 2 _) (((((((((((((HB8.out _ h)).setOther (B' := w.heap.size) (by omega) 0 _)).setOther (B' := w.heap.size) (by omega) 1 _)).setOther (B' := w.heap.size) (by omega) 2 _)).setOther (B' := w.heap.size + 1) (by omega) 0 _)).setOther (B' := w.heap.size + 1) (by omega) 1 _)).setOther (B' := w.heap.size + 1) (by omega) 2 _))
      have HK0 := Lib.hid (HKP.out w7.drew (g_drew (grown_refl _ _)))
      clear hv1 hv2 hold hrw hb4 hb8 hkc hz9 he1 he2 hmk hg1 hg2
      go_upto_region 9 with fail
      go_region_held3 (fun w' : World => w'.cell? ⟨w1.heap.size, 0, none⟩ = some (.int .i64 NN) ∧ w'.cell? ⟨w1.heap.size, 1, none⟩ = some (.slice va es.length vc) ∧ w'.cell? ⟨w5.heap.size, 0, none⟩ = some (.int .i64 NN) ∧ w'.cell? ⟨w5.heap.size, 1, none⟩ = some (.slice a3 R3.length c3)) (first | with_reducible exact HK0.out | with_reducible exact HKP.out _ (g_below (g_drew (grown_refl _ _)) hbA) | with_reducible exact HKP.out _ (grown_trans' (g_below (g_drew (grown_refl _ _)) hbA) hGK) | with_reducible exact HKP.out _ (g_below (grown_trans' (g_below (g_drew (grown_refl _ _)) hbA) hGK) hbB) | with_reducible exact HKA.out _ (g_below (grown_trans' (g_below (g_drew (grown_refl _ _)) hbA) hGK) hbB) _ _ _ | with_reducible exact HKB.out _ (g_below (grown_trans' (g_below (g_drew (grown_refl _ _)) hbA) hGK) hbB) _ _ _ _ _ _) (first | (go_at_call 43; (with_reducible refine (HV1.out _ (HRW.out _ (g_drew (grown_refl _ _))).1).mono ?_); rintro e wA ⟨v, rfl, hownA, hokA, hbA⟩; obtain ⟨aA, cA, rfl⟩ := hownA.slice) | (go_at_call 39; (with_reducible refine (l1KindV w _ g _ ((Rd.drew' HRD.out).keep hbA) (by omega)).mono ?_); rintro e wK ⟨mk, rfl, hmK, hRK, hGK⟩) | (go_at_call 43; (with_reducible refine (HV2.out mk hmK _ (HRW.out _ (grown_trans' (g_below (g_drew (grown_refl _ _)) hbA) hGK)).2).mono ?_); rintro e wB ⟨v, rfl, hownB, hokB, hbB⟩; obtain ⟨aB, cB, rfl⟩ := hownB.slice; obtain ⟨⟨p0, p1, p2, q0, q1, q2⟩, fp0, fp1, fp2, fq0, fq1, fq2⟩ := HOLD.out _ (g_below (grown_trans' (g_below (g_drew (grown_refl _ _)) hbA) hGK) hbB)))
      all_goals
        have hsA := hbA.size
        have hsB := hbB.size
        have hsK := hGK.size
        go_wp2
        try simp only [Exit.inBlock, Exit.then]
        refine bodyPost_ret (v := .tuple #[.agg #[.int .i64 m, .int .i64 0, .slice aA (vIter m es NN (vStart m NN 0)).length cA], .agg #[.int .i64 mk, .int .i64 0, .slice aB (vIter mk R3 NN (vStart mk NN 0)).length cB]]) ?_ rfl ?_
        · rw [results_ccD rfl]
          go_simp
        exact drawnCh_of (hRK.keep hbB).bel (InR.keep (InR.chg hownA (g_chgG hGK) (.inl (by omega))) hbB) (by omega) (by omega) (HZ.out _ _) hownB (by omega) (Nat.le_refl _) (HZ.out _ _)
    · have d7 : (x7 == 0) = false := by simpa using h7
      obtain ⟨NN, hNN⟩ : ∃ NN : Nat, N3 = NN := ⟨N3.toNat, by have := (gVal_iff.1 hg1).1.1; omega⟩
      subst hNN
      have h12 := (gVal_iff.1 hg1).1.2.1
      have h11 := (gVal_iff.1 hg1).1.1
      have he1 : eAll NN es := by simpa using eAll_of hg1
      have he2 : eAll NN R3 := by simpa using eAll_of hg2
      have hz9 : ∀ (x : Int) (fs : List Ed), (vIter x fs NN (vStart x NN 0)).length ≤ 12 := fun x fs => by rw [vIter_length, vStart_length]; omega
      have HZ := Lib.hid hz9
      have hv1 : ∀ w' : World, RowE w' (.slice va es.length vc) es → Calls Try.prog 43 #[.agg #[.int .i64 NN, .slice va es.length vc], .int .i64 m, .int .i64 0] w' fun e w'' => ∃ v, e = .returned (.agg #[.int .i64 m, .int .i64 0, v]) ∧ OwnV w' w'' v (vIter m es NN (vStart m NN 0)) ∧ okS v ∧ Below w'.heap.size w' w'' := fun w' h => l3View m es NN 0 _ w' hmk h (by omega) (by omega) (by omega) he1
      have hv2 : ∀ (x : Int), mKind x = true → ∀ w' : World, RowE w' (.slice a3 R3.length c3) R3 → Calls Try.prog 43 #[.agg #[.int .i64 NN, .slice a3 R3.length c3], .int .i64 x, .int .i64 0] w' fun e w'' => ∃ v, e = .returned (.agg #[.int .i64 x, .int .i64 0, v]) ∧ OwnV w' w'' v (vIter x R3 NN (vStart x NN 0)) ∧ okS v ∧ Below w'.heap.size w' w'' := fun x hx w' h => l3View x R3 NN 0 _ w' hx h (by omega) (by omega) (by omega) he2
      have HMK := Lib.hid hmk
      have HV1 := Lib.hid hv1
      have HV2 := Lib.hid hv2
      have hold : ∀ w' : World, w7.grownBy w' (some g) → (w'.cell? ⟨w.heap.size, 0, none⟩ = some (.int .i64 0) ∧ w'.cell? ⟨w.heap.size, 1, none⟩ = some (.int .i64 0) ∧ w'.cell? ⟨w.heap.size, 2, none⟩ = some (.slice none 0 0) ∧ w'.cell? ⟨w.heap.size + 1, 0, none⟩ = some (.int .i64 0) ∧ w'.cell? ⟨w.heap.size + 1, 1, none⟩ = some (.int .i64 0) ∧ w'.cell? ⟨w.heap.size + 1, 2, none⟩ = some (.slice none 0 0)) ∧ (w'.frozen? ⟨w.heap.size, 0, none⟩ = false ∧ w'.frozen? ⟨w.heap.size, 1, none⟩ = false ∧ w'.frozen? ⟨w.heap.size, 2, none⟩ = false ∧ w'.frozen? ⟨w.heap.size + 1, 0, none⟩ = false ∧ w'.frozen? ⟨w.heap.size + 1, 1, none⟩ = false ∧ w'.frozen? ⟨w.heap.size + 1, 2, none⟩ = false) := fun w' h => by
        have b2 := K7.out.1.grownG h (by omega)
        have b3 := K7.out.2.1.grownG h (by omega)
        exact ⟨⟨by simpa using b2.cell 0, by simpa using b2.cell 1, by simpa using b2.cell 2, by simpa using b3.cell 0, by simpa using b3.cell 1, by simpa using b3.cell 2⟩, b2.frozen 0, b2.frozen 1, b2.frozen 2, b3.frozen 0, b3.frozen 1, b3.frozen 2⟩
      have HOLD := Lib.hid hold
      have hrw : ∀ w' : World, w7.grownBy w' (some g) → RowE w' (.slice va es.length vc) es ∧ RowE w' (.slice a3 R3.length c3) R3 := fun w' h => ⟨(K7.out.2.2.2.1.chg (g_chgG h) (.inr (by omega))).edges, (K7.out.2.2.2.2.2.1.chg (g_chgG h) (.inl (by omega))).edges⟩
      have HRW := Lib.hid hrw
      have hb4 : ∀ w' : World, w7.grownBy w' (some g) → Box w' (w1.heap.size) 34 #[.int .i64 NN, .slice va es.length vc] := fun w' h => K7.out.2.2.1.grownG h (by omega)
      have HB4 := Lib.hid hb4
      have hb8 : ∀ w' : World, w7.grownBy w' (some g) → Box w' (w5.heap.size) 34 #[.int .i64 NN, .slice a3 R3.length c3] := fun w' h => K7.out.2.2.2.2.1.grownG h (by omega)
      have HB8 := Lib.hid hb8
      have hkc : ∀ w' : World, Box w' (w1.heap.size) 34 #[.int .i64 NN, .slice va es.length vc] → Box w' (w5.heap.size) 34 #[.int .i64 NN, .slice a3 R3.length c3] → (w'.cell? ⟨w1.heap.size, 0, none⟩ = some (.int .i64 NN) ∧ w'.cell? ⟨w1.heap.size, 1, none⟩ = some (.slice va es.length vc) ∧ w'.cell? ⟨w5.heap.size, 0, none⟩ = some (.int .i64 NN) ∧ w'.cell? ⟨w5.heap.size, 1, none⟩ = some (.slice a3 R3.length c3)) := fun w' b b' => ⟨by simpa using b.cell 0, by simpa using b.cell 1, by simpa using b'.cell 0, by simpa using b'.cell 1⟩
      have HKC := Lib.hid hkc
      have HRD := Lib.hid K7.out.2.2.2.2.2.2
      have hw7 : w7.heap.size ≤ w7.drew.heap.size := ((Below.refl w7.heap.size w7).drew).size
      have hgw7 := HRD.out.lt
      have HKP : Hid (∀ wX : World, w7.grownBy wX (some g) → (wX.cell? ⟨w1.heap.size, 0, none⟩ = some (.int .i64 NN) ∧ wX.cell? ⟨w1.heap.size, 1, none⟩ = some (.slice va es.length vc) ∧ wX.cell? ⟨w5.heap.size, 0, none⟩ = some (.int .i64 NN) ∧ wX.cell? ⟨w5.heap.size, 1, none⟩ = some (.slice a3 R3.length c3))) := Lib.hid (fun wX h => HKC.out _ (HB4.out _ h) (HB8.out _ h))
      have HKA : Hid (∀ wX : World, w7.grownBy wX (some g) → ∀ x0 x1 x2 : Value, ((((wX.setCell ⟨w.heap.size, 0, none⟩ x0).setCell ⟨w.heap.size, 1, none⟩ x1).setCell ⟨w.heap.size, 2, none⟩ x2).cell? ⟨w1.heap.size, 0, none⟩ = some (.int .i64 NN) ∧ (((wX.setCell ⟨w.heap.size, 0, none⟩ x0).setCell ⟨w.heap.size, 1, none⟩ x1).setCell ⟨w.heap.size, 2, none⟩ x2).cell? ⟨w1.heap.size, 1, none⟩ = some (.slice va es.length vc) ∧ (((wX.setCell ⟨w.heap.size, 0, none⟩ x0).setCell ⟨w.heap.size, 1, none⟩ x1).setCell ⟨w.heap.size, 2, none⟩ x2).cell? ⟨w5.heap.size, 0, none⟩ = some (.int .i64 NN) ∧ (((wX.setCell ⟨w.heap.size, 0, none⟩ x0).setCell ⟨w.heap.size, 1, none⟩ x1).setCell ⟨w.heap.size, 2, none⟩ x2).cell? ⟨w5.heap.size, 1, none⟩ = some (.slice a3 R3.length c3))) := Lib.hid (fun wX h x0 x1 x2 => HKC.out _ (((((((HB4.out _ h)).setOther (B' := w.heap.size) (by omega) 0 _)).setOther (B' := w.heap.size) (by omega) 1 _)).setOther (B' := w.heap.size) (by omega) 2 _) (((((((HB8.out _ h)).setOther (B' := w.heap.size) (by omega) 0 _)).setOther (B' := w.heap.size) (by omega) 1 _)).setOther (B' := w.heap.size) (by omega) 2 _))
      have HKB : Hid (∀ wX : World, w7.grownBy wX (some g) → ∀ x0 x1 x2 y0 y1 y2 : Value, (((((((wX.setCell ⟨w.heap.size, 0, none⟩ x0).setCell ⟨w.heap.size, 1, none⟩ x1).setCell ⟨w.heap.size, 2, none⟩ x2).setCell ⟨w.heap.size + 1, 0, none⟩ y0).setCell ⟨w.heap.size + 1, 1, none⟩ y1).setCell ⟨w.heap.size + 1, 2, none⟩ y2).cell? ⟨w1.heap.size, 0, none⟩ = some (.int .i64 NN) ∧ ((((((wX.setCell ⟨w.heap.size, 0, none⟩ x0).setCell ⟨w.heap.size, 1, none⟩ x1).setCell ⟨w.heap.size, 2, none⟩ x2).setCell ⟨w.heap.size + 1, 0, none⟩ y0).setCell ⟨w.heap.size + 1, 1, none⟩ y1).setCell ⟨w.heap.size + 1, 2, none⟩ y2).cell? ⟨w1.heap.size, 1, none⟩ = some (.slice va es.length vc) ∧ ((((((wX.setCell ⟨w.heap.size, 0, none⟩ x0).setCell ⟨w.heap.size, 1, none⟩ x1).setCell ⟨w.heap.size, 2, none⟩ x2).setCell ⟨w.heap.size + 1, 0, none⟩ y0).setCell ⟨w.heap.size + 1, 1, none⟩ y1).setCell ⟨w.heap.size + 1, 2, none⟩ y2).cell? ⟨w5.heap.size, 0, none⟩ = some (.int .i64 NN) ∧ ((((((wX.setCell ⟨w.heap.size, 0, none⟩ x0).setCell ⟨w.heap.size, 1, none⟩ x1).setCell ⟨w.heap.size, 2, none⟩ x2).setCell ⟨w.heap.size + 1, 0, none⟩ y0).setCell ⟨w.heap.size + 1, 1, none⟩ y1).setCell ⟨w.heap.size + 1, 2, none⟩ y2).cell? ⟨w5.heap.size, 1, none⟩ = some (.slice a3 R3.length c3))) := Lib.hid (fun wX h x0 x1 x2 y0 y1 y2 => HKC.out _ (((((((((((((HB4.out _ h)).setOther (B' := w.heap.size) (by omega) 0 _)).setOther (B' := w.heap.size) (by omega) 1 _)).setOther (B' := w.heap.size) (by omega) 2 _)).setOther (B' := w.heap.size + 1) (by omega) 0 _)).setOther (B' := w.heap.size + 1) (by omega) 1 _)).setOther (B' := w.heap.size + 1) (by omega) 2 _) (((((((((((((HB8.out _ h)).setOther (B' := w.heap.size) (by omega) 0 _)).setOther (B' := w.heap.size) (by omega) 1 _)).setOther (B' := w.heap.size) (by omega) 2 _)).setOther (B' := w.heap.size + 1) (by omega) 0 _)).setOther (B' := w.heap.size + 1) (by omega) 1 _)).setOther (B' := w.heap.size + 1) (by omega) 2 _))
      have HK0 := Lib.hid (HKP.out w7.drew (g_drew (grown_refl _ _)))
      clear hv1 hv2 hold hrw hb4 hb8 hkc hz9 he1 he2 hmk hg1 hg2
      go_upto_region 10 with fail
      go_region_held3 (fun w' : World => w'.cell? ⟨w1.heap.size, 0, none⟩ = some (.int .i64 NN) ∧ w'.cell? ⟨w1.heap.size, 1, none⟩ = some (.slice va es.length vc) ∧ w'.cell? ⟨w5.heap.size, 0, none⟩ = some (.int .i64 NN) ∧ w'.cell? ⟨w5.heap.size, 1, none⟩ = some (.slice a3 R3.length c3)) (first | with_reducible exact HK0.out | with_reducible exact HKP.out _ (g_below (g_drew (grown_refl _ _)) hbA) | with_reducible exact HKP.out _ (g_below (g_below (g_drew (grown_refl _ _)) hbA) hbB) | with_reducible exact HKA.out _ (g_below (g_below (g_drew (grown_refl _ _)) hbA) hbB) _ _ _ | with_reducible exact HKB.out _ (g_below (g_below (g_drew (grown_refl _ _)) hbA) hbB) _ _ _ _ _ _) (first | (go_at_call 43; (with_reducible refine (HV1.out _ (HRW.out _ (g_drew (grown_refl _ _))).1).mono ?_); rintro e wA ⟨v, rfl, hownA, hokA, hbA⟩; obtain ⟨aA, cA, rfl⟩ := hownA.slice) | (go_at_call 43; (with_reducible refine (HV2.out m HMK.out _ (HRW.out _ (g_below (g_drew (grown_refl _ _)) hbA)).2).mono ?_); rintro e wB ⟨v, rfl, hownB, hokB, hbB⟩; obtain ⟨aB, cB, rfl⟩ := hownB.slice; obtain ⟨⟨p0, p1, p2, q0, q1, q2⟩, fp0, fp1, fp2, fq0, fq1, fq2⟩ := HOLD.out _ (g_below (g_below (g_drew (grown_refl _ _)) hbA) hbB)))
      all_goals
        have hsA := hbA.size
        have hsB := hbB.size
        go_wp2
        try simp only [Exit.inBlock, Exit.then]
        refine bodyPost_ret (v := .tuple #[.agg #[.int .i64 m, .int .i64 0, .slice aA (vIter m es NN (vStart m NN 0)).length cA], .agg #[.int .i64 m, .int .i64 0, .slice aB (vIter m R3 NN (vStart m NN 0)).length cB]]) ?_ rfl ?_
        · rw [results_ccD rfl]
          go_simp
        exact drawnCh_of (((Rd.drew' HRD.out).keep hbA).keep hbB).bel (InR.keep hownA hbB) (by omega) (by omega) (HZ.out _ _) hownB (by omega) (Nat.le_refl _) (HZ.out _ _)
end Go.Proofs.Ytbhhbhopogkmnaa
