/- DrawPathEdges. -/
import Derived.Test.YtjcfefpcilhelaaTarget
import Derived.Test.YtjcfefpcilhelaaDrawsP
import Derived.Test.YtjcfefpcilhelaaBPath
import Derived.Test.YtjcfefpcilhelaaBestL
import Derived.Test.YtjcfefpcilhelaaPathToO
namespace Go.Proofs.Ytjcfefpcilhelaa
open Go.RowKit Go.BigFrame Go.Deep
set_option linter.unusedVariables false
set_option linter.unusedSimpArgs false
set_option linter.unnecessarySimpa false

/-- A graph and a path are drawn. -/
def DrawnP (w : World) (e : Ending) (w' : World) : Prop :=
  ∃ (n : Int) (es : List Ed) (s : Value) (ps : List Int) (u : Value), e = .returned (.tuple #[.agg #[.int .i64 n, s], u]) ∧ (es.length ≤ 41 ∧ ps.length ≤ 15) ∧ InR true w' w.heap.size w'.heap.size s es.length 3 (cellE es) ∧ InR true w' w.heap.size w'.heap.size u ps.length 1 (cellI ps) ∧ Below w.heap.size w w'
theorem own_baseP {w : World} {S S' : Nat} {e : TypeId} {sz n : Nat} {v : Value} {xs : List Value} (h : w.ownsRow S' e sz v n xs) (hS : S ≤ S') : w.ownsRow S e sz v n xs := by
  refine ⟨h.1, h.2.imp id ?_⟩
  rintro ⟨g, cap, cur, h1, h2, r⟩
  exact ⟨g, cap, cur, h1, by omega, r⟩
theorem own_twoP (w : World) (t : TypeId) (B : Nat) (hB : B ≤ w.heap.size) (u v : Value) : (w.alloc (Obj.cells #[u, v] t)).ownsRow B t 1 (.slice (some ⟨w.heap.size, 0, none⟩) 2 2) 2 [u, v] :=
  ⟨rfl, .inr ⟨w.heap.size, 2, #[u, v], rfl, hB, blk_alloc_new _ _, Nat.le_refl _, by unfold maxLen; omega, rfl, rfl⟩⟩
theorem OSt.keepP {W0 W1 w w' : World} {g q S : Nat} {v : Value} {os : List Int} (h : OSt W0 W1 g q S v os w) (hb : Below w.heap.size w w') : OSt W0 W1 g q S v os w' :=
  ⟨h.chg.trans (Chg.of_below hb), h.rd.keep hb, own_keep h.own hb, h.gs⟩
theorem chg2P (w : World) (B : Nat) (x0 x1 : Value) : Chg B (B + 1) w ((w.setCell ⟨B, 0, none⟩ x0).setCell ⟨B, 1, none⟩ x1) :=
  ((Chg.refl _ _ _).setCell (by simp) (by simp) _).setCell (by simp) (by simp) _
theorem drawnP_of {w w0 W1 wc : World} {g q S lo hi : Nat} {n : Int} {es : List Ed} {s u : Value} {os : List Int} (hb : Below w.heap.size w w0) (h0 : w.heap.size + 1 ≤ w0.heap.size) (hr : InR true W1 lo hi s es.length 3 (cellE es)) (hlo : w0.heap.size ≤ lo) (hh : hi ≤ g ∧ g < W1.heap.size) (hle : es.length ≤ 41) (ho : OSt w0 W1 g q S u os wc) (hl : os.length ≤ 15) (x0 x1 : Value) :
    DrawnP w (.returned (.tuple #[.agg #[.int .i64 n, s], u])) ((wc.setCell ⟨w.heap.size, 0, none⟩ x0).setCell ⟨w.heap.size, 1, none⟩ x1) := by
  have hc := chg2P wc w.heap.size x0 x1
  have hgs := ho.gs
  have hcs := ho.chg.size
  have hu : OwnV w0 wc u os := OwnV.of ho.own (by have := ho.rd.new; omega)
  refine ⟨n, es, _, os, _, rfl, ⟨hle, hl⟩, ?_, (InR.chg hu hc (.inl (by omega))).wider (by omega) hc.size (Nat.le_refl _), bel_chg (bel_trans hb ho.rd.bel) hc (Nat.le_refl _)⟩
  exact ((hr.chg ho.chg (.inr (by omega))).chg hc (.inl (by omega))).wider (by omega) (by have := hc.size; omega) (Nat.le_refl _)

set_option maxRecDepth 20000 in
set_option maxHeartbeats 8000000 in
theorem dDrawPathEdges (a : Option Addr) (n cap : Nat) (w : World) (hb : Bytes w a n) (hcap : n ≤ cap) (hn : n ≤ 281474976710656) :
    Calls Try.prog 49 #[.slice a n cap] w (DrawnP w) := by
  have hbl : Below w.heap.size w (w.alloc (.cells #[.int .i64 0, .slice none 0 0] 25)) := (Below.refl _ _).alloc (Nat.le_refl _) _
  have hx2 : Box (w.alloc (.cells #[.int .i64 0, .slice none 0 0] 25)) w.heap.size 25 #[.int .i64 0, .slice none 0 0] := Box.new _ _ _
  have HC := Lib.hid hb
  obtain ⟨i0, hi, hz0, hz1, hz2⟩ := info_parts info_intO
  have HI := Lib.hid (And.intro hi (And.intro hz0 (And.intro hz1 hz2)))
  clear hb hi hz0 hz1 hz2
  go_enter Try.func49, Try.ntmps49
  go_wp2_with fail
  generalize (w.alloc (.cells #[.int .i64 0, .slice none 0 0] 25)) = w0 at hbl hx2 ⊢
  have hs0 : w.heap.size + 1 ≤ w0.heap.size := hx2.lt
  have H0 := Lib.hid (And.intro hbl hx2)
  clear hbl hx2
  refine (l4Target a n cap w0 (HC.out.keepB H0.out.1) hcap hn).mono ?_
  rintro e w1 ⟨n1, es, v, m, src, b, rfl, hle, hrow, hok9, hb1⟩
  obtain ⟨va, vc, rfl, hz9⟩ := id hrow
  have hs1 := hb1.size
  have HG1 := Lib.hid hrow
  have hb2 : Below w1.heap.size w1 (w1.alloc (.cells #[.int .i64 n1, .slice va es.length vc] 25)) := (Below.refl _ _).alloc (Nat.le_refl _) _
  have hB5 := Box.new w1 25 #[.int .i64 n1, .slice va es.length vc]
  clear hz9 hrow hok9
  go_upto_region 2 with fail
  generalize (w1.alloc (.cells #[.int .i64 n1, .slice va es.length vc] 25)) = w2 at hb2 hB5 ⊢
  have hs2 := hb2.size
  have hlt5 := hB5.lt
  have x0 : w2.cell? ⟨w1.heap.size, 0, none⟩ = some (.int .i64 n1) := by simpa using hB5.cell 0
  have x1 : w2.cell? ⟨w1.heap.size, 1, none⟩ = some (.slice va es.length vc) := by simpa using hB5.cell 1
  have hbf := sBestFirst n1 m src es (.slice va es.length vc) w2 (InR.keep HG1.out hb2).edges (by omega)
  have hpl : onOk n1 es m [src] = true → (bfV (onOk n1 es m [src]) (bfR m (-1) es n1.toNat src.toNat)).par.length ≤ 12 := fun h => by
    obtain ⟨hg, hx, hmk⟩ := onOk_parts h
    have hn12 := gVal_n hg
    have hxs := hx src (by simp)
    unfold bfV
    rw [if_pos h]
    have := (stS_par (m := m) (N := n1.toNat) (A := src.toNat) (es := es) hmk (eAll_of hg) (by omega)).1
    omega
  obtain ⟨D, hD⟩ : ∃ D, D = bfV (onOk n1 es m [src]) (bfR m (-1) es n1.toNat src.toNat) := ⟨_, rfl⟩
  rw [← hD] at hbf hpl
  obtain ⟨ok, hok⟩ : ∃ ok, ok = onOk n1 es m [src] := ⟨_, rfl⟩
  rw [← hok] at hbf hpl
  have HBF := Lib.hid hbf
  have HPL := Lib.hid hpl
  have HB5 := Lib.hid (And.intro hB5 (And.intro hb1 hb2))
  clear hbf hpl hD hok hB5 hb1 hb2
  go_wp2_with fail
  refine HBF.out.mono ?_
  rintro e w3 ⟨p, q, r, rfl, hr3, hb3⟩
  obtain ⟨pa, pc, qa, qc, ra, rc, rfl, rfl, rfl⟩ := id hr3.slices
  have hs3 := hb3.size
  have hb4 : Below w3.heap.size w3 (w3.alloc (.cells #[.slice pa D.ord.length pc, .slice qa D.par.length qc, .slice ra D.vals.length rc, .int .i64 D.looks] 64)) := (Below.refl _ _).alloc (Nat.le_refl _) _
  have hB8 := Box.new w3 64 #[.slice pa D.ord.length pc, .slice qa D.par.length qc, .slice ra D.vals.length rc, .int .i64 D.looks]
  have hr4 := hr3.keep hb4
  have HB3 := Lib.hid hb3
  clear x0 x1 hr3 hb3
  go_upto_region 3 with fail
  generalize (w3.alloc (.cells #[.slice pa D.ord.length pc, .slice qa D.par.length qc, .slice ra D.vals.length rc, .int .i64 D.looks] 64)) = w4 at hb4 hB8 hr4 ⊢
  have hs4 := hb4.size
  have hlt8 := hB8.lt
  have hbw4 : Below w0.heap.size w0 w4 := bel_trans (bel_trans (bel_trans HB5.out.2.1 HB5.out.2.2) HB3.out) hb4
  have K4 := Lib.hid (And.intro ((HB5.out.1.keep HB3.out).keep hb4) (And.intro (InR.keep (InR.keep (InR.keep HG1.out HB5.out.2.2) HB3.out) hb4) (And.intro hB8 hr4)))
  clear hb4 hB8 hr4 HB5 HB3 HG1
  go_wp2_with fail
  refine (l15OpenW w0 a n cap w4 hbw4 (by omega) (HC.out.keepB H0.out.1) hcap hn).mono ?_
  rintro e w5 ⟨g, rfl, hg2, hb5, hR⟩
  have hgl := hR.lt
  have hs5 := hb5.size
  have hb6 : Below w5.heap.size w5 (w5.alloc (.cells #[.int .i64 0, .int .i64 1] 3)) := (Below.refl _ _).alloc (Nat.le_refl _) _
  have hO6 : OSt w0 w5 g 0 w5.heap.size (.slice (some ⟨w5.heap.size, 0, none⟩) 2 2) [0, 1] (w5.alloc (.cells #[.int .i64 0, .int .i64 1] 3)) := ⟨Chg.of_below hb6, hR.keep hb6, own_twoP _ _ _ (Nat.le_refl _) _ _, ⟨hgl, rfl⟩⟩
  have K5 := Lib.hid (And.intro (K4.out.1.keep hb5) (And.intro (InR.keep K4.out.2.1 hb5) (And.intro (K4.out.2.2.1.keep hb5) (K4.out.2.2.2.keep hb5))))
  clear hR hb5 K4 hbw4
  go_upto_if 31 with fail
  generalize (w5.alloc (.cells #[.int .i64 0, .int .i64 1] 3)) = w6 at hb6 hO6 ⊢
  have hs6 := hb6.size
  have HO6 := Lib.hid hO6
  have HB6 := Lib.hid hb6
  clear hO6 hb6
  go_cut [11, 12, 13] from 32 to 52 (fun v v12 v13 wx => ∃ os : List Int, os.length ≤ 14 ∧ OSt w0 w5 g 0 w5.heap.size v os wx)
  case first =>
    cases ok
    · go_wp2_with fail
      go_meet
      exact ⟨[0, 1], by simp, HO6.out⟩
    · have hb8 := K5.out.2.2.1.keep HB6.out
      have c0 : w6.cell? ⟨w3.heap.size, 0, none⟩ = some (.slice pa D.ord.length pc) := by simpa using hb8.cell 0
      have c1 : w6.cell? ⟨w3.heap.size, 1, none⟩ = some (.slice qa D.par.length qc) := by simpa using hb8.cell 1
      have c2 : w6.cell? ⟨w3.heap.size, 2, none⟩ = some (.slice ra D.vals.length rc) := by simpa using hb8.cell 2
      have c3 : w6.cell? ⟨w3.heap.size, 3, none⟩ = some (.int .i64 D.looks) := by simpa using hb8.cell 3
      have hrw := (K5.out.2.2.2.keep HB6.out).rows
      have h12 := HPL.out rfl
      have hpt := sPathToO D.looks src b D.ord D.par D.vals _ _ _ w6 hrw.1 hrw.2.1 hrw.2.2 (by omega)
      have hln := ptL_len D.par src b
      obtain ⟨bb, hbb⟩ : ∃ bb, bb = ptB D.par src b := ⟨_, rfl⟩
      obtain ⟨L, hL⟩ : ∃ L, L = ptL D.par src b := ⟨_, rfl⟩
      rw [← hbb, ← hL] at hpt
      rw [← hL] at hln
      have hl13 : L.length ≤ 14 := by omega
      have HPT := Lib.hid hpt
      clear hpt hrw hb8 hbb hL hln h12
      go_wp2_with fail
      refine HPT.out.mono ?_
      rintro e w7 ⟨v7, rfl, hI7, hb7, hown7⟩
      have HO7 := Lib.hid (HO6.out.keepP hb7)
      have HW7 := Lib.hid hown7
      clear hI7 hb7 hown7 c0 c1 c2 c3
      cases bb
      · go_wp2_with fail
        go_meet
        exact ⟨[0, 1], by simp, HO7.out⟩
      · go_wp2_with fail
        go_meet
        exact ⟨L, hl13, ⟨HO7.out.chg, HO7.out.rd, own_baseP (HW7.out (by trivial)) (by omega), HO7.out.gs⟩⟩
  case rest =>
    clear HO6 HB6
    obtain ⟨os, hl14, hO⟩ := hcut
    have HO := Lib.hid hO
    clear hO
    go_wp2_with fail
    refine (pick 12 w0 wc g _ HO.out.rd (by omega) (by omega)).mono ?_
    rintro e w8 ⟨c, rfl, hx0, hx1, hR8, hG8⟩
    have HO8 := Lib.hid (HO.out.draw hR8 hG8)
    clear hR8 hG8 hx0 hx1 HO
    go_upto_if 43 with fail
    go_cut [11] from 44 to 52 (fun v wx => ∃ os : List Int, os.length ≤ 15 ∧ OSt w0 w5 g 5 w5.heap.size v os wx)
    case first =>
      by_cases hc0 : c = 0
      · subst hc0
        go_wp2_with fail
        refine (num_built [0, 2, -1, 12] w0 w8 g _ HO8.out.rd (by omega) _ (by decide) (by decide)).mono ?_
        rintro e w9 ⟨y, hy, rfl, hR9, hG9⟩
        have HO9 := Lib.hid ((HO8.out.draw hR9 hG9).more (show _ ≤ 5 by omega))
        clear hy hR9 hG9 HO8
        obtain ⟨hi, hz0, hz1, hz2⟩ := HI.out
        have hgs := HO9.out.gs
        have hsz := HO9.out.chg.size
        go_wp2_with (at_builtin; refine wpList_append_own _ rfl _ _ 28 rfl w5.heap.size 3 i0 (.int .i64 0) 1 8 Try.underlying28 hi hz0 hz1 hz2 rfl (by decide) _ _ _ rfl (HO9.out.own.alloc _) ⟨w9.heap.size, 0, none⟩ 1 1 [.int .i64 (y)] rfl rfl ?k1 ?k2 ?k3 ?k4 ?k5 ?_)
        try (case k1 => exact cell_one_new _ _ _)
        case k2 => simp [Value.oneCell']
        case k3 => unfold maxLen; omega
        case k4 => omega
        case k5 => (try simp); omega
        intro v' w10 hown10 hgrow10 _
        have HOS := Lib.hid (HO9.out.push hown10 hgrow10)
        clear hown10 hgrow10 hi hz0 hz1 hz2
        go_wp2_with fail
        go_meet
        exact ⟨os ++ [y], by simp; omega, HOS.out⟩
      · have d0 : (c == 0) = false := by simpa using hc0
        go_wp2_with fail
        go_meet
        exact ⟨os, by omega, HO8.out.more (by omega)⟩
    case rest =>
      clear HO8
      obtain ⟨os, hl15, hO⟩ := hcut
      obtain ⟨ua, uc, rfl⟩ := own_slice hO.own
      have HR := Lib.hid (fun x0 x1 => drawnP_of (n := n1) H0.out.1 hs0 K5.out.2.1 (Nat.le_refl _) ⟨by omega, hgl⟩ hle hO hl15 x0 x1)
      have hk5 := K5.out.1
      have hcg := hO.chg
      have x0 : wc.cell? ⟨w1.heap.size, 0, none⟩ = some (.int .i64 n1) := (hcg.cell (p := ⟨w1.heap.size, 0, none⟩) hk5.lt (.inl (by simp only; omega))).trans (by simpa using hk5.cell 0)
      have x1 : wc.cell? ⟨w1.heap.size, 1, none⟩ = some (.slice va es.length vc) := (hcg.cell (p := ⟨w1.heap.size, 1, none⟩) hk5.lt (.inl (by simp only; omega))).trans (by simpa using hk5.cell 1)
      have h2 := H0.out.2.keep hO.rd.bel
      have p0 := h2.cell 0
      have p1 := h2.cell 1
      have fp0 := h2.frozen 0
      have fp1 := h2.frozen 1
      simp only [List.getElem?_toArray, List.getElem?_cons_succ, List.getElem?_cons_zero] at p0 p1
      have e1 : ¬ w.heap.size = w1.heap.size := by omega
      have e5 : ¬ w1.heap.size = w.heap.size := by omega
      clear hO h2 hk5 hcg
      go_wp2
      try simp only [Exit.inBlock, Exit.then]
      refine bodyPost_ret (v := .tuple #[.agg #[.int .i64 n1, .slice va es.length vc], .slice ua os.length uc]) ?_ rfl (HR.out _ _)
      rw [results_cell_tmp rfl]
      go_simp
end Go.Proofs.Ytjcfefpcilhelaa
