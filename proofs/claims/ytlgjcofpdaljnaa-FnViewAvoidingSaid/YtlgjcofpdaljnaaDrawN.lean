/- The draw of a graph, a kind, a source and nodes. -/
import Derived.Test.YtlgjcofpdaljnaaDrawT
namespace Go.Proofs.Ytlgjcofpdaljnaa
open Go.RowKit Go.BigFrame Go.Deep
set_option linter.unusedVariables false
set_option linter.unusedSimpArgs false
set_option linter.unnecessarySimpa false

/-- A graph, a kind, a source and nodes are drawn; the nodes lie in memory of the draw's own. -/
def DrawnN4 (w : World) (e : Ending) (w' : World) : Prop :=
  ∃ (n : Int) (es : List Ed) (v : Value) (m a : Int) (os : List Int) (u : Value) (S : Nat), e = .returned (.tuple #[.agg #[.int .i64 n, v], .int .i64 m, .int .i64 a, u]) ∧ (es.length ≤ 41 ∧ os.length ≤ 13) ∧ (InR true w' w.heap.size S v es.length 3 (cellE es) ∧ okS v) ∧ (w.heap.size < S ∧ S ≤ w'.heap.size ∧ w'.ownsRow S 3 1 u os.length (os.map (Value.int .i64))) ∧ Below w.heap.size w w'
theorem drawnN4_of {w w0 wf W1 : World} {g q S lo hi : Nat} {n m a : Int} {es : List Ed} {va : Option Addr} {vc : Nat} {u : Value} {os : List Int} (hb : Below w.heap.size w w0) (h0 : w.heap.size < w0.heap.size) (hbx : BoxG w0 w.heap.size 25 0 (.slice none 0 0)) (hO : OSt w0 W1 g q S u os wf) (hl : es.length ≤ 41 ∧ os.length ≤ 13)
    (hr : InR true W1 lo hi (.slice va es.length vc) es.length 3 (cellE es)) (hlo : w0.heap.size ≤ lo) (hhi : hi ≤ g ∧ hi ≤ wf.heap.size) (hok : okS (.slice va es.length vc)) :
    DrawnN4 w (.returned (.tuple #[.agg #[.int .i64 n, .slice va es.length vc], .int .i64 m, .int .i64 a, u])) ((wf.setCell ⟨w.heap.size, 0, none⟩ (.int .i64 n)).setCell ⟨w.heap.size, 1, none⟩ (.slice va es.length vc)) := by
  have hgs := hO.gs
  have hsz := hO.chg.size
  have hn := hO.rd.new
  have hc : Chg w.heap.size (w.heap.size + 1) wf ((wf.setCell ⟨w.heap.size, 0, none⟩ (.int .i64 n)).setCell ⟨w.heap.size, 1, none⟩ (.slice va es.length vc)) := ((Chg.refl _ _ _).setCell (by simp) (by simp) _).setCell (by simp) (by simp) _
  have hB := hbx.keep hO.rd.bel
  exact ⟨n, es, _, m, a, os, u, S, rfl, hl, ⟨(((hr.chg hO.chg (.inr hhi.1)).chg hc (.inl (by omega))).wider (by omega) (by omega) (by simp; omega)), hok⟩, ⟨by omega, by simp; omega, own_setCell (hB.set0 n) (own_setCell hB hO.own (by decide)) (by decide)⟩, bel_chg (bel_trans hb hO.rd.bel) hc (Nat.le_refl _)⟩

set_option maxRecDepth 20000 in
set_option maxHeartbeats 8000000 in
theorem l10Case (a : Option Addr) (n cap : Nat) (w : World) (hb : Bytes w a n) (hcap : n ≤ cap) (hn : n ≤ 281474976710656) :
    Calls Try.prog 50 #[.slice a n cap] w (DrawnN4 w) := by
  have hbg := BoxG.new w 25 0 (.slice none 0 0)
  have hbl : Below w.heap.size w (w.alloc (.cells #[.int .i64 0, .slice none 0 0] 25)) := (Below.refl _ _).alloc (Nat.le_refl _) _
  have HC := Lib.hid hb
  obtain ⟨i0, hi, hz0, hz1, hz2⟩ := info_parts info_intO
  have HI := Lib.hid (And.intro hi (And.intro hz0 (And.intro hz1 hz2)))
  clear hb hi hz0 hz1 hz2
  go_enter Try.func50, Try.ntmps50
  go_wp2_with fail
  generalize (w.alloc (.cells #[.int .i64 0, .slice none 0 0] 25)) = w0 at hbg hbl ⊢
  have hs0 : w.heap.size < w0.heap.size := hbg.cells.2.2.2.2
  have H0 := Lib.hid (And.intro hbl hbg)
  clear hbl hbg
  refine (l3Case a n cap w0 (HC.out.keepB H0.out.1) hcap hn).mono ?_
  rintro e w1 ⟨n1, es, v, m, s, rfl, hl, hrow, hok, hb1⟩
  obtain ⟨va, vc, rfl, hz9⟩ := id hrow
  have hs1 := hb1.size
  have K1 := Lib.hid (And.intro hl (And.intro hrow (And.intro hok hb1)))
  clear hz9 hl hrow hok hb1
  go_upto_region 2 with fail
  have hbA : Below w1.heap.size w1 (w1.alloc (.cells #[.int .i64 n1, .slice va es.length vc] 25)) := (Below.refl _ _).alloc (Nat.le_refl _) _
  have K2 := Lib.hid (And.intro hbA (BoxG.new w1 25 n1 (.slice va es.length vc)))
  clear hbA
  generalize (w1.alloc (.cells #[.int .i64 n1, .slice va es.length vc] 25)) = w2 at K2 ⊢
  have hs2 := K2.out.1.size
  have hB5l := K2.out.2.cells.2.2.2.2
  go_wp2_with fail
  refine (l15OpenW w0 a n cap w2 (bel_trans K1.out.2.2.2 K2.out.1) (by omega) (HC.out.keepB H0.out.1) hcap hn).mono ?_
  rintro e w3 ⟨g, rfl, hg2, hb3, hR⟩
  have hgl := hR.lt
  have HR3 := Lib.hid (InR.keep (InR.keep K1.out.2.1 K2.out.1) hb3)
  have HG3 := Lib.hid (K2.out.2.keep hb3)
  have hOS : OSt w0 w3 g 10 w3.heap.size (.slice (some ⟨w3.heap.size, 0, none⟩) 0 0) [] (w3.alloc (.cells #[] 3)) := ⟨Chg.of_below ((Below.refl _ _).alloc (Nat.le_refl _) _), (hR.keep ((Below.refl _ _).alloc (Nat.le_refl _) _)).more (by omega), own_empty3 w3 3 1 w3.heap.size (Nat.le_refl _), ⟨hgl, rfl⟩⟩
  have HOS := Lib.hid hOS
  have HLT : Hid (w1.heap.size < g ∧ w0.heap.size ≤ w1.heap.size) := Lib.hid ⟨by omega, hs1⟩
  have HKOK := Lib.hid K1.out.2.2.1
  have HKL := Lib.hid K1.out.1
  clear hOS hb3 hR hs2 hB5l hg2 K2 hgl
  go_upto_region 4 with fail
  generalize (w3.alloc (.cells #[] 3)) = w4 at HOS ⊢
  go_wp2_with fail
  go_loopw [10, 11] (fun v c wr => ∃ (k : Nat) (os : List Int), k ≤ 12 ∧ c = .int .i64 k ∧ os.length ≤ k ∧ Hid (OSt w0 w3 g (10 + k) w3.heap.size v os wr)) (fun _ c _ => 12 - (intOf c).toNat)
  case atStart => exact ⟨0, [], by omega, rfl, by simp, HOS⟩
  case round =>
    clear HOS
    obtain ⟨k, os, hk, rfl, hlen, HO⟩ := hrel
    have HGR : Hid (BoxG wr w1.heap.size 25 n1 (.slice va es.length vc)) := Lib.hid (HG3.out.chg HO.out.chg (.inl HLT.out.1))
    have c0 := HGR.out.cells.1
    have c1 := HGR.out.cells.2.1
    have hso := HO.out.chg.size
    have hgs := HO.out.gs
    by_cases h1 : (k : Int) < n1
    · by_cases h2 : k < 12
      · have h2' : (k : Int) < 12 := by omega
        by_cases hks : (k : Int) = s
        · have d1 : ((k : Int) != s) = false := by simpa using hks
          clear hks
          go_wp2
          go_roundw
          case rel => first | exact ⟨k + 1, os, by omega, by go_num, by (try simp); omega, Lib.hid (HO.out.more (by omega))⟩ | ((repeat apply Exists.intro); exact ⟨⟨k + 1, os, by omega, by go_num, by (try simp); omega, Lib.hid (HO.out.more (by omega))⟩, rfl⟩)
          case measure => simp [intOf]; omega
        · have d1 : ((k : Int) != s) = true := by simpa using hks
          clear hks
          go_wp2_with fail
          refine (pick 3 w0 wr g _ HO.out.rd (by omega) (by omega)).mono ?_
          rintro e w5 ⟨c, rfl, hx0, hx1, hR, hG⟩
          have HO5 := Lib.hid ((HO.out.draw hR hG).more (show 10 + k + 1 ≤ 10 + (k + 1) by omega))
          clear hR hG hx0 hx1 c0 c1
          by_cases hc0 : c = 0
          · subst hc0
            obtain ⟨hi, hz0, hz1, hz2⟩ := HI.out
            have hgs5 := HO5.out.gs
            have hsz5 := HO5.out.chg.size
            go_wp2_with (at_builtin; refine wpList_append_own _ rfl _ _ 26 rfl w3.heap.size 3 i0 (.int .i64 0) 1 8 Try.underlying26 hi hz0 hz1 hz2 rfl (by decide) _ _ _ rfl (HO5.out.own.alloc _) ⟨w5.heap.size, 0, none⟩ 1 1 [.int .i64 (k)] rfl rfl ?qa1 ?qa2 ?qa3 ?qa4 ?qa5 ?_)
            try (case qa1 => exact cell_one_new _ _ _)
            case qa2 => simp [Value.oneCell']
            case qa3 => unfold maxLen; omega
            case qa4 => omega
            case qa5 => (try simp); omega
            intro v' w9 hown9 hgrow9 _
            have HOS9 := Lib.hid (HO5.out.push hown9 hgrow9)
            clear hown9 hgrow9 hi hz0 hz1 hz2
            go_wp2
            go_roundw
            case rel => first | exact ⟨k + 1, os ++ [(k : Int)], by omega, by go_num, by (try simp); omega, HOS9⟩ | ((repeat apply Exists.intro); exact ⟨⟨k + 1, os ++ [(k : Int)], by omega, by go_num, by (try simp); omega, HOS9⟩, rfl⟩)
            case measure => simp [intOf]; omega
          · have d0 : (c == 0) = false := by simpa using hc0
            clear hc0
            go_wp2
            go_roundw
            case rel => first | exact ⟨k + 1, os, by omega, by go_num, by (try simp); omega, HO5⟩ | ((repeat apply Exists.intro); exact ⟨⟨k + 1, os, by omega, by go_num, by (try simp); omega, HO5⟩, rfl⟩)
            case measure => simp [intOf]; omega
      · have h2' : ¬ ((k : Int) < 12) := by omega
        have HO1 := Lib.hid (HO.out.more (show 10 + k ≤ 30 by omega))
        clear HO
        go_wp2_with fail
        refine (pick 16 w0 wr g _ HO1.out.rd (by omega) (by omega)).mono ?_
        rintro e w5 ⟨c, rfl, hx0, hx1, hR, hG⟩
        have HO5 := Lib.hid (HO1.out.draw hR hG)
        clear hR hG hx0 hx1 HO1 c0 c1
        by_cases hc0 : c = 0
        · subst hc0
          go_wp2_with fail
          refine (num_built [-1, 12, 0] w0 w5 g _ HO5.out.rd (by omega) _ (by decide) (by decide)).mono ?_
          rintro e w6 ⟨y, hy, rfl, hR, hG⟩
          have HO6 := Lib.hid (HO5.out.draw hR hG)
          clear hy hR hG HO5
          obtain ⟨hi, hz0, hz1, hz2⟩ := HI.out
          have hgs5 := HO6.out.gs
          have hsz5 := HO6.out.chg.size
          go_wp2_with (at_builtin; refine wpList_append_own _ rfl _ _ 26 rfl w3.heap.size 3 i0 (.int .i64 0) 1 8 Try.underlying26 hi hz0 hz1 hz2 rfl (by decide) _ _ _ rfl (HO6.out.own.alloc _) ⟨w6.heap.size, 0, none⟩ 1 1 [.int .i64 (y)] rfl rfl ?qb1 ?qb2 ?qb3 ?qb4 ?qb5 ?_)
          try (case qb1 => exact cell_one_new _ _ _)
          case qb2 => simp [Value.oneCell']
          case qb3 => unfold maxLen; omega
          case qb4 => omega
          case qb5 => (try simp); omega
          intro v' w9 hown9 hgrow9 _
          have HOS9 := Lib.hid (HO6.out.push hown9 hgrow9)
          clear hown9 hgrow9 hi hz0 hz1 hz2
          have hl9 : (os ++ [y]).length ≤ 13 := by (try simp); omega
          obtain ⟨ua, uc, hue⟩ := own_slice HOS9.out.own
          have hN := drawnN4_of (n := n1) (m := m) (a := s) H0.out.1 hs0 H0.out.2 HOS9.out ⟨HKL.out, hl9⟩ HR3.out (Nat.le_refl _) ⟨Nat.le_of_lt HLT.out.1, by have := HOS9.out.rd.lt; have := HLT.out.1; omega⟩ HKOK.out
          subst hue
          have HN := Lib.hid hN
          have hg9 := HG3.out.chg HOS9.out.chg (.inl HLT.out.1)
          have hr9 := H0.out.2.keep HOS9.out.rd.bel
          obtain ⟨x0, x1, -, -, xl⟩ := hg9.cells
          obtain ⟨p0, p1, p2, p3, pl⟩ := hr9.cells
          have e1 : ¬ w.heap.size = w1.heap.size := by have := HLT.out.2; omega
          have e2 : ¬ w1.heap.size = w.heap.size := by have := HLT.out.2; omega
          clear hN hg9 hr9 hl9
          go_wp2
          try simp only [Exit.inBlock, Exit.then]
          refine bodyPost_ret (v := .tuple #[.agg #[.int .i64 n1, .slice va es.length vc], .int .i64 m, .int .i64 s, .slice ua (os ++ [y]).length uc]) ?_ rfl HN.out
          rw [results_cttt rfl]
          go_simp
        · have d0 : (c == 0) = false := by simpa using hc0
          clear hc0
          have hl9 : (os).length ≤ 13 := by (try simp); omega
          obtain ⟨ua, uc, hue⟩ := own_slice HO5.out.own
          have hN := drawnN4_of (n := n1) (m := m) (a := s) H0.out.1 hs0 H0.out.2 HO5.out ⟨HKL.out, hl9⟩ HR3.out (Nat.le_refl _) ⟨Nat.le_of_lt HLT.out.1, by have := HO5.out.rd.lt; have := HLT.out.1; omega⟩ HKOK.out
          subst hue
          have HN := Lib.hid hN
          have hg9 := HG3.out.chg HO5.out.chg (.inl HLT.out.1)
          have hr9 := H0.out.2.keep HO5.out.rd.bel
          obtain ⟨x0, x1, -, -, xl⟩ := hg9.cells
          obtain ⟨p0, p1, p2, p3, pl⟩ := hr9.cells
          have e1 : ¬ w.heap.size = w1.heap.size := by have := HLT.out.2; omega
          have e2 : ¬ w1.heap.size = w.heap.size := by have := HLT.out.2; omega
          clear hN hg9 hr9 hl9
          go_wp2
          try simp only [Exit.inBlock, Exit.then]
          refine bodyPost_ret (v := .tuple #[.agg #[.int .i64 n1, .slice va es.length vc], .int .i64 m, .int .i64 s, .slice ua (os).length uc]) ?_ rfl HN.out
          rw [results_cttt rfl]
          go_simp
    · have h1' : ¬ ((k : Int) < n1) := h1
      have HO1 := Lib.hid (HO.out.more (show 10 + k ≤ 30 by omega))
      clear HO
      go_wp2_with fail
      refine (pick 16 w0 wr g _ HO1.out.rd (by omega) (by omega)).mono ?_
      rintro e w5 ⟨c, rfl, hx0, hx1, hR, hG⟩
      have HO5 := Lib.hid (HO1.out.draw hR hG)
      clear hR hG hx0 hx1 HO1 c0 c1
      by_cases hc0 : c = 0
      · subst hc0
        go_wp2_with fail
        refine (num_built [-1, 12, 0] w0 w5 g _ HO5.out.rd (by omega) _ (by decide) (by decide)).mono ?_
        rintro e w6 ⟨y, hy, rfl, hR, hG⟩
        have HO6 := Lib.hid (HO5.out.draw hR hG)
        clear hy hR hG HO5
        obtain ⟨hi, hz0, hz1, hz2⟩ := HI.out
        have hgs5 := HO6.out.gs
        have hsz5 := HO6.out.chg.size
        go_wp2_with (at_builtin; refine wpList_append_own _ rfl _ _ 26 rfl w3.heap.size 3 i0 (.int .i64 0) 1 8 Try.underlying26 hi hz0 hz1 hz2 rfl (by decide) _ _ _ rfl (HO6.out.own.alloc _) ⟨w6.heap.size, 0, none⟩ 1 1 [.int .i64 (y)] rfl rfl ?qb1 ?qb2 ?qb3 ?qb4 ?qb5 ?_)
        try (case qb1 => exact cell_one_new _ _ _)
        case qb2 => simp [Value.oneCell']
        case qb3 => unfold maxLen; omega
        case qb4 => omega
        case qb5 => (try simp); omega
        intro v' w9 hown9 hgrow9 _
        have HOS9 := Lib.hid (HO6.out.push hown9 hgrow9)
        clear hown9 hgrow9 hi hz0 hz1 hz2
        have hl9 : (os ++ [y]).length ≤ 13 := by (try simp); omega
        obtain ⟨ua, uc, hue⟩ := own_slice HOS9.out.own
        have hN := drawnN4_of (n := n1) (m := m) (a := s) H0.out.1 hs0 H0.out.2 HOS9.out ⟨HKL.out, hl9⟩ HR3.out (Nat.le_refl _) ⟨Nat.le_of_lt HLT.out.1, by have := HOS9.out.rd.lt; have := HLT.out.1; omega⟩ HKOK.out
        subst hue
        have HN := Lib.hid hN
        have hg9 := HG3.out.chg HOS9.out.chg (.inl HLT.out.1)
        have hr9 := H0.out.2.keep HOS9.out.rd.bel
        obtain ⟨x0, x1, -, -, xl⟩ := hg9.cells
        obtain ⟨p0, p1, p2, p3, pl⟩ := hr9.cells
        have e1 : ¬ w.heap.size = w1.heap.size := by have := HLT.out.2; omega
        have e2 : ¬ w1.heap.size = w.heap.size := by have := HLT.out.2; omega
        clear hN hg9 hr9 hl9
        go_wp2
        try simp only [Exit.inBlock, Exit.then]
        refine bodyPost_ret (v := .tuple #[.agg #[.int .i64 n1, .slice va es.length vc], .int .i64 m, .int .i64 s, .slice ua (os ++ [y]).length uc]) ?_ rfl HN.out
        rw [results_cttt rfl]
        go_simp
      · have d0 : (c == 0) = false := by simpa using hc0
        clear hc0
        have hl9 : (os).length ≤ 13 := by (try simp); omega
        obtain ⟨ua, uc, hue⟩ := own_slice HO5.out.own
        have hN := drawnN4_of (n := n1) (m := m) (a := s) H0.out.1 hs0 H0.out.2 HO5.out ⟨HKL.out, hl9⟩ HR3.out (Nat.le_refl _) ⟨Nat.le_of_lt HLT.out.1, by have := HO5.out.rd.lt; have := HLT.out.1; omega⟩ HKOK.out
        subst hue
        have HN := Lib.hid hN
        have hg9 := HG3.out.chg HO5.out.chg (.inl HLT.out.1)
        have hr9 := H0.out.2.keep HO5.out.rd.bel
        obtain ⟨x0, x1, -, -, xl⟩ := hg9.cells
        obtain ⟨p0, p1, p2, p3, pl⟩ := hr9.cells
        have e1 : ¬ w.heap.size = w1.heap.size := by have := HLT.out.2; omega
        have e2 : ¬ w1.heap.size = w.heap.size := by have := HLT.out.2; omega
        clear hN hg9 hr9 hl9
        go_wp2
        try simp only [Exit.inBlock, Exit.then]
        refine bodyPost_ret (v := .tuple #[.agg #[.int .i64 n1, .slice va es.length vc], .int .i64 m, .int .i64 s, .slice ua (os).length uc]) ?_ rfl HN.out
        rw [results_cttt rfl]
        go_simp

theorem drawnN4_out {w w0 wf : World} {S : Nat} {n m a : Int} {es : List Ed} {v u x1 : Value} {x0 : Int} {os : List Int} (hb : Below w.heap.size w w0) (hlt : w.heap.size < w0.heap.size) (hbx : BoxG wf w.heap.size 25 x0 x1) (hb1 : Below w0.heap.size w0 wf) (hl : es.length ≤ 41 ∧ os.length ≤ 13) (hrow : InR true wf w0.heap.size S v es.length 3 (cellE es)) (hok : okS v) (hS0 : w0.heap.size < S) (hS1 : S ≤ wf.heap.size) (hown : wf.ownsRow S 3 1 u os.length (os.map (Value.int .i64))) :
    DrawnN4 w (.returned (.tuple #[.agg #[.int .i64 n, v], .int .i64 m, .int .i64 a, u])) ((wf.setCell ⟨w.heap.size, 0, none⟩ (.int .i64 n)).setCell ⟨w.heap.size, 1, none⟩ v) := by
  have hc : Chg w.heap.size (w.heap.size + 1) wf ((wf.setCell ⟨w.heap.size, 0, none⟩ (.int .i64 n)).setCell ⟨w.heap.size, 1, none⟩ v) := ((Chg.refl _ _ _).setCell (by simp) (by simp) _).setCell (by simp) (by simp) _
  exact ⟨n, es, v, m, a, os, u, S, rfl, hl, ⟨(hrow.chg hc (.inl (by omega))).wider (by omega) (Nat.le_refl _) (by simp; omega), hok⟩, ⟨by omega, by simp; omega, own_setCell (hbx.set0 n) (own_setCell hbx hown (by decide)) (by decide)⟩, bel_chg (bel_trans hb hb1) hc (Nat.le_refl _)⟩
/-- A graph, a kind and nodes are drawn. -/
def DrawnN3 (w : World) (e : Ending) (w' : World) : Prop :=
  ∃ (n : Int) (es : List Ed) (v : Value) (m : Int) (os : List Int) (u : Value) (S : Nat), e = .returned (.tuple #[.agg #[.int .i64 n, v], .int .i64 m, u]) ∧ (es.length ≤ 41 ∧ os.length ≤ 14) ∧ (InR true w' w.heap.size S v es.length 3 (cellE es) ∧ okS v) ∧ (w.heap.size < S ∧ S ≤ w'.heap.size ∧ w'.ownsRow S 3 1 u os.length (os.map (Value.int .i64))) ∧ Below w.heap.size w w'
theorem drawnN3_out {w w0 wf : World} {S : Nat} {n m : Int} {es : List Ed} {v u x1 : Value} {x0 : Int} {os : List Int} (hb : Below w.heap.size w w0) (hlt : w.heap.size < w0.heap.size) (hbx : BoxG wf w.heap.size 25 x0 x1) (hb1 : Below w0.heap.size w0 wf) (hl : es.length ≤ 41 ∧ os.length ≤ 14) (hrow : InR true wf w0.heap.size S v es.length 3 (cellE es)) (hok : okS v) (hS0 : w0.heap.size < S) (hS1 : S ≤ wf.heap.size) (hown : wf.ownsRow S 3 1 u os.length (os.map (Value.int .i64))) :
    DrawnN3 w (.returned (.tuple #[.agg #[.int .i64 n, v], .int .i64 m, u])) ((wf.setCell ⟨w.heap.size, 0, none⟩ (.int .i64 n)).setCell ⟨w.heap.size, 1, none⟩ v) := by
  have hc : Chg w.heap.size (w.heap.size + 1) wf ((wf.setCell ⟨w.heap.size, 0, none⟩ (.int .i64 n)).setCell ⟨w.heap.size, 1, none⟩ v) := ((Chg.refl _ _ _).setCell (by simp) (by simp) _).setCell (by simp) (by simp) _
  exact ⟨n, es, v, m, os, u, S, rfl, hl, ⟨(hrow.chg hc (.inl (by omega))).wider (by omega) (Nat.le_refl _) (by simp; omega), hok⟩, ⟨by omega, by simp; omega, own_setCell (hbx.set0 n) (own_setCell hbx hown (by decide)) (by decide)⟩, bel_chg (bel_trans hb hb1) hc (Nat.le_refl _)⟩

set_option maxHeartbeats 4000000 in
theorem dDrawViewAvoiding (a : Option Addr) (n cap : Nat) (w : World) (hb : Bytes w a n) (hcap : n ≤ cap) (hn : n ≤ 281474976710656) :
    Calls Try.prog 17 #[.slice a n cap] w (DrawnN4 w) := by
  have hbg := BoxG.new w 25 0 (.slice none 0 0)
  have hbl : Below w.heap.size w (w.alloc (.cells #[.int .i64 0, .slice none 0 0] 25)) := (Below.refl _ _).alloc (Nat.le_refl _) _
  have HC := Lib.hid hb
  clear hb
  go_enter Try.func17, Try.ntmps17
  go_wp2_with fail
  generalize (w.alloc (.cells #[.int .i64 0, .slice none 0 0] 25)) = w0 at hbg hbl ⊢
  have hs0 : w.heap.size < w0.heap.size := hbg.cells.2.2.2.2
  refine (l10Case a n cap w0 (HC.out.keepB hbl) hcap hn).mono ?_
  rintro e w1 ⟨n1, es, v, m, s, os, u, S, rfl, hl, ⟨hrow, hok⟩, ⟨hS0, hS1, hown⟩, hb1⟩
  obtain ⟨va, vc, rfl, hz9⟩ := id hrow
  obtain ⟨ua, uc, rfl⟩ := own_slice hown
  have hB := hbg.keep hb1
  obtain ⟨p0, p1, p2, p3, pl⟩ := hB.cells
  have HN := Lib.hid (drawnN4_out (n := n1) (m := m) (a := s) hbl hs0 hB hb1 hl hrow hok hS0 hS1 hown)
  clear hz9 hl hrow hok hS0 hS1 hown hb1 hB hbg hbl hs0
  go_wp2
  try simp only [Exit.inBlock, Exit.then]
  refine bodyPost_ret (v := .tuple #[.agg #[.int .i64 n1, .slice va es.length vc], .int .i64 m, .int .i64 s, .slice ua os.length uc]) ?_ rfl HN.out
  rw [results_cttt rfl]
  go_simp

end Go.Proofs.Ytlgjcofpdaljnaa
