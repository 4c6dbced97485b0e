/- The best paths of all: the model. -/
import Derived.Test.YtneapbggnnndhaaSrtF
import Derived.Test.YtneapbggnnndhaaBpsA
namespace Go.Proofs.Ytneapbggnnndhaa
open Go.RowKit Go.BigFrame Go.Deep
set_option linter.unusedVariables false
set_option linter.unusedSimpArgs false

set_option maxRecDepth 20000 in
set_option maxHeartbeats 8000000 in
theorem sBestPaths (n m a b c : Int) (es : List Ed) (s : Value) (w : World) (hs : RowE w s es) (hl : es.length ≤ 1048576) :
    Calls Try.prog 34 #[.agg #[.int .i64 n, s], .int .i64 m, .int .i64 a, .int .i64 b, .int .i64 c] w fun e w' => ∃ v qs, e = .returned (.tuple #[v, .bool (bpB n es m a b c)]) ∧ Pths w' w.heap.size v qs ∧ qs.map PP.p = bpR n es m a b c ∧ Below w.heap.size w w' := by
  obtain ⟨i1, hi1, hy0, hy1, hy2⟩ := info_parts info_path
  obtain ⟨ad, cap, rfl, hz0⟩ := id hs
  clear hz0
  have hb0 : Below w.heap.size w (w.alloc (.cells #[.int .i64 n, .slice ad es.length cap] 34)) := (Below.refl _ _).alloc (Nat.le_refl _) _
  have hsp := fun w' (h : Below w.heap.size w w') => sSimplePaths n m a b es (.slice ad es.length cap) w' (hs.keep h) hl
  have HB0 := Lib.hid hb0
  have hkd : spB n es m a b = true → mKind m = true := spB_kind
  have hln : ∀ qs : List PP, qs.map PP.p = spR n es m a b → qs.length ≤ 400 ∧ ∀ q ∈ qs, q.zs.length ≤ 1000 := fun qs hq => by
    refine ⟨by have := spR_len n es m a b; rw [← hq, List.length_map] at this; exact this, fun q hqm => ?_⟩
    have h1 : q.p ∈ spR n es m a b := by rw [← hq]; exact List.mem_map_of_mem hqm
    have := (spR_mem h1).1
    show q.p.1.length ≤ 1000
    omega
  have heR : bpR n es m a b c = if bpB n es m a b c then (srt m (spR n es m a b)).take c.toNat else [] := rfl
  have heB : bpB n es m a b c = (spB n es m a b && (decide (0 ≤ c) && decide (c ≤ 400))) := rfl
  generalize spR n es m a b = PS at hsp heR hln
  generalize spB n es m a b = B at hsp heB hkd
  rw [heB] at heR
  rw [heR, heB]
  have HSP := Lib.hid hsp
  have HLN := Lib.hid hln
  clear hsp hb0 hs heR heB hln
  cases B
  · go_enter Try.func34, Try.ntmps34
    go_wp2_with fail
    refine (HSP.out _ HB0.out).mono ?_
    rintro e w1 ⟨v, qs, rfl, hp, hq, hb1⟩
    have H1 := Lib.hid (bel_trans HB0.out hb1)
    clear hb1 hp hq
    go_wp2
    go_ret2
    exact ⟨.slice (some ⟨w1.heap.size, 0, none⟩) 0 0, rfl, [], pths_empty _ _ H1.out.size, rfl, H1.out.alloc H1.out.size _⟩
  · have hm := hkd rfl
    have HM := Lib.hid hm
    clear hm hkd
    by_cases hc : 0 ≤ c ∧ c ≤ 400
    · obtain ⟨hc1, hc2⟩ := hc
      rw [decide_eq_true hc1, decide_eq_true hc2]
      have d1 : decide (c < 0) = false := decide_eq_false (by omega)
      have d2 : decide (c > 400) = false := decide_eq_false (by omega)
      go_enter Try.func34, Try.ntmps34
      go_wp2_with fail
      refine (HSP.out _ HB0.out).mono ?_
      rintro e w1 ⟨v, qs, rfl, hp, hq, hb1⟩
      have hso := l11Sort HM.out qs v _ w1 hp hb1.size (HLN.out qs hq).2 (HLN.out qs hq).1
      have H1 := Lib.hid (And.intro hq (bel_trans HB0.out hb1))
      obtain ⟨va, vc, hva⟩ := own_slice hp.own
      subst hva
      have HSO := Lib.hid hso
      clear hb1 hp hq hso
      go_wp2_with fail
      refine HSO.out.mono ?_
      rintro e w3 ⟨v3, qs3, rfl, ⟨hm3, hp3, hl3⟩, hb3⟩
      have hbase : w.heap.size ≤ (w.alloc (.cells #[.int .i64 n, .slice ad es.length cap] 34)).heap.size := HB0.out.size
      have hp3' := pths_low hp3 hbase
      have H3 := Lib.hid (And.intro (show qs3.map PP.p = srt m PS by rw [hm3, H1.out.1]) (And.intro hp3' (bel_trans H1.out.2 hb3)))
      have hl4 : qs3.length ≤ 400 := by rw [hl3]; have := (HLN.out qs H1.out.1).1; exact this
      have hown := hp3'.own.2
      clear hm3 hp3 hb3 hp3' hl3
      rcases hown with ⟨hv, hn0⟩ | ⟨g, cap3, cur, hv, hbg, hhg, hcap, -⟩
      · subst hv
        have hq0 : qs3 = [] := List.length_eq_zero_iff.1 hn0
        subst hq0
        have d3 : decide (0 > c) = false := decide_eq_false (by omega)
        have d4 : ¬ c < 0 := by omega
        go_wp2
        go_ret2
        refine ⟨.slice (some ⟨w3.heap.size, 0, none⟩) 0 0, rfl, [], pths_empty _ _ H3.out.2.2.size, ?_, H3.out.2.2.alloc H3.out.2.2.size _⟩
        rw [← H3.out.1]
        simp
      · subst hv
        have HCP := Lib.hid hcap
        by_cases hgt : c < qs3.length
        · have d3 : decide ((qs3.length : Int) > c) = true := decide_eq_true hgt
          have hct : c.toNat ≤ qs3.length := by omega
          have g3 : ¬ c < 0 := by omega
          have g4 : ¬ (cap3 : Int) < c := by omega
          have hlt : (qs3.take c.toNat).length = c.toNat := by rw [List.length_take]; omega
          have HLT := Lib.hid hlt
          have HPC := Lib.hid (pths_cut H3.out.2.1 hct)
          have hct2 : c.toNat ≤ 400 := by omega
          have hct3 : c.toNat ≤ cap3 := by omega
          clear hlt hhg
          have hown0 : (w3.alloc (.cells #[] 49)).ownsRow w3.heap.size 49 2 (.slice (some ⟨w3.heap.size, 0, none⟩) 0 0) 0 [] := World.ownsRow_made w3 #[] 0 (Nat.le_refl _) (by unfold maxLen; omega) rfl
          have hbA : Below w3.heap.size w3 (w3.alloc (.cells #[] 49)) := (Below.refl _ _).alloc (Nat.le_refl _) _
          have hnews : ∀ j u, (cellsP (qs3.take c.toNat))[j]? = some u → (w3.alloc (.cells #[] 49)).cell? ((⟨g, 0, none⟩ : Addr).add j) = some u := (own_keep5 HPC.out.own hbA).cells (g := g) rfl
          have hall := cellsP_one HPC.out.row
          have hlm : (cellsP (qs3.take c.toNat)).length = c.toNat * 2 := by first | exact cellsP_len _ | (rw [cellsP_len, HLT.out])
          have HO := Lib.hid hown0
          have HN := Lib.hid hnews
          have HALL := Lib.hid hall
          have HLM := Lib.hid hlm
          clear hown0 hnews hall hlm hbA
          go_wp2_with (at_builtin; refine wpList_append_own _ rfl _ _ 54 rfl w3.heap.size 49 i1 (.agg #[.slice none 0 0, .int .i64 0]) 2 32 Try.underlying54 hi1 hy0 hy1 hy2 rfl (by decide) _ _ _ rfl HO.out ⟨g, 0, none⟩ (c.toNat) cap3 (cellsP (qs3.take c.toNat)) rfl HLM.out HN.out HALL.out ?c3 ?c4 ?c5 ?_)
          case c3 => unfold maxLen; omega
          case c4 => omega
          case c5 => simp
          intro v6 w6 hown6 hgrow6 hnil6
          have hb16 : Below w3.heap.size w3 w6 := ((Below.refl _ w3).alloc (Nat.le_refl _) _).grown hgrow6 (by simp) (by intro k hk; simp [Value.ownBlock] at hk; omega)
          have hown7 : w6.ownsRow w3.heap.size 49 2 v6 (c.toNat) (cellsP (qs3.take c.toNat)) := by simpa using hown6
          have hp6 : Pths w6 w.heap.size v6 (qs3.take c.toNat) := pths_copy HPC.out hb16 H3.out.2.2.size (by rw [show (qs3.take c.toNat).length = c.toNat by first | rfl | exact HLT.out]; exact hown7)
          have HF := Lib.hid (And.intro hp6 (bel_trans H3.out.2.2 hb16))
          clear hown6 hgrow6 hnil6 hb16 hown7 hp6
          go_wp2
          go_ret2
          refine ⟨v6, rfl, qs3.take c.toNat, HF.out.1, ?_, HF.out.2⟩
          rw [← H3.out.1, ← List.map_take]
          try rfl
        · have d3 : decide ((qs3.length : Int) > c) = false := decide_eq_false hgt
          have HPC := Lib.hid H3.out.2.1
          clear hhg
          have hown0 : (w3.alloc (.cells #[] 49)).ownsRow w3.heap.size 49 2 (.slice (some ⟨w3.heap.size, 0, none⟩) 0 0) 0 [] := World.ownsRow_made w3 #[] 0 (Nat.le_refl _) (by unfold maxLen; omega) rfl
          have hbA : Below w3.heap.size w3 (w3.alloc (.cells #[] 49)) := (Below.refl _ _).alloc (Nat.le_refl _) _
          have hnews : ∀ j u, (cellsP (qs3))[j]? = some u → (w3.alloc (.cells #[] 49)).cell? ((⟨g, 0, none⟩ : Addr).add j) = some u := (own_keep5 HPC.out.own hbA).cells (g := g) rfl
          have hall := cellsP_one HPC.out.row
          have hlm : (cellsP (qs3)).length = qs3.length * 2 := by first | exact cellsP_len _ | (rw [cellsP_len, HLT.out])
          have HO := Lib.hid hown0
          have HN := Lib.hid hnews
          have HALL := Lib.hid hall
          have HLM := Lib.hid hlm
          clear hown0 hnews hall hlm hbA
          go_wp2_with (at_builtin; refine wpList_append_own _ rfl _ _ 54 rfl w3.heap.size 49 i1 (.agg #[.slice none 0 0, .int .i64 0]) 2 32 Try.underlying54 hi1 hy0 hy1 hy2 rfl (by decide) _ _ _ rfl HO.out ⟨g, 0, none⟩ (qs3.length) cap3 (cellsP (qs3)) rfl HLM.out HN.out HALL.out ?c3 ?c4 ?c5 ?_)
          case c3 => unfold maxLen; omega
          case c4 => omega
          case c5 => simp
          intro v6 w6 hown6 hgrow6 hnil6
          have hb16 : Below w3.heap.size w3 w6 := ((Below.refl _ w3).alloc (Nat.le_refl _) _).grown hgrow6 (by simp) (by intro k hk; simp [Value.ownBlock] at hk; omega)
          have hown7 : w6.ownsRow w3.heap.size 49 2 v6 (qs3.length) (cellsP (qs3)) := by simpa using hown6
          have hp6 : Pths w6 w.heap.size v6 (qs3) := pths_copy HPC.out hb16 H3.out.2.2.size (by rw [show (qs3).length = qs3.length by first | rfl | exact HLT.out]; exact hown7)
          have HF := Lib.hid (And.intro hp6 (bel_trans H3.out.2.2 hb16))
          clear hown6 hgrow6 hnil6 hb16 hown7 hp6
          go_wp2
          go_ret2
          refine ⟨v6, rfl, qs3, HF.out.1, ?_, HF.out.2⟩
          rw [← H3.out.1]
          show _ = List.take c.toNat _
          rw [List.take_of_length_le (by rw [List.length_map]; try omega)]
    · have hd : (decide (0 ≤ c) && decide (c ≤ 400)) = false := by simp; omega
      rw [hd]
      by_cases hc1 : c < 0
      · have d1 : decide (c < 0) = true := decide_eq_true (by omega)
        go_enter Try.func34, Try.ntmps34
        go_wp2_with fail
        refine (HSP.out _ HB0.out).mono ?_
        rintro e w1 ⟨v, qs, rfl, hp, hq, hb1⟩
        have H1 := Lib.hid (bel_trans HB0.out hb1)
        clear hb1 hp hq
        go_wp2
        go_ret2
        exact ⟨.slice (some ⟨w1.heap.size, 0, none⟩) 0 0, rfl, [], pths_empty _ _ H1.out.size, rfl, H1.out.alloc H1.out.size _⟩
      · have d1 : decide (c < 0) = false := decide_eq_false (by omega)
        have d2 : decide (c > 400) = true := decide_eq_true (by omega)
        go_enter Try.func34, Try.ntmps34
        go_wp2_with fail
        refine (HSP.out _ HB0.out).mono ?_
        rintro e w1 ⟨v, qs, rfl, hp, hq, hb1⟩
        have H1 := Lib.hid (bel_trans HB0.out hb1)
        clear hb1 hp hq
        go_wp2
        go_ret2
        exact ⟨.slice (some ⟨w1.heap.size, 0, none⟩) 0 0, rfl, [], pths_empty _ _ H1.out.size, rfl, H1.out.alloc H1.out.size _⟩
end Go.Proofs.Ytneapbggnnndhaa
