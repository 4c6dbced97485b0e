/- Sorting by putting each path into its place: the model. -/
import Derived.Test.YtneapbggnnndhaaGreatSrtE
import Derived.Test.YtneapbggnnndhaaGreatPbfD
import Derived.Test.YtneapbggnnndhaaGreatSrcF
namespace Go.Proofs.YtneapbggnnndhaaGreat
open Go.RowKit Go.BigFrame Go.Deep
set_option linter.unusedVariables false
set_option linter.unusedSimpArgs false

/-- A copy of a slice of paths, behind an empty one. -/
theorem pths_copy {w w6 : World} {base base2 : Nat} {v v' : Value} {qs : List PP} (h : Pths w base v qs) (hb : Below w.heap.size w w6) (hbase : base ≤ base2) (ho : w6.ownsRow base2 30 2 v' qs.length (cellsP qs)) : Pths w6 base v' qs :=
  ⟨own_low5 ho hbase, fun q hq => (h.row q hq).keep hb, h.dis⟩
theorem cellsP_one {w : World} {base : Nat} {qs : List PP} (h : ∀ q ∈ qs, PRow w base q) : ∀ u ∈ cellsP qs, u.oneCell' = true := by
  intro u hu
  simp only [cellsP, List.mem_flatMap, List.mem_cons, List.not_mem_nil, or_false] at hu
  obtain ⟨q, hq, rfl | rfl⟩ := hu
  · obtain ⟨a, c, e⟩ := own_slice (h q hq).1
    rw [e]
    rfl
  · rfl

theorem cellsP_get {w : World} {base g n cap : Nat} {qs : List PP} (h : Pths w base (.slice (some ⟨g, 0, none⟩) n cap) qs) {i : Nat} (hi : i < qs.length) :
    w.cell? ⟨g, i * 2, none⟩ = some (qs.getD i ppZ).v ∧ w.cell? ⟨g, i * 2 + 1, none⟩ = some (.int .i64 (qs.getD i ppZ).x) :=
  by
  have e : qs.getD i ppZ = qs[i] := by simp [List.getD, hi]
  have hnn : n = qs.length := by
    obtain ⟨a, c, e⟩ := own_slice h.own
    injection e
  subst hnn
  rw [e]
  exact ⟨(own_cell h.own (cellsP_at hi).1).1, (own_cell h.own (cellsP_at hi).2).1⟩
theorem cellsP_frz {w : World} {base g n cap : Nat} {qs : List PP} (h : Pths w base (.slice (some ⟨g, 0, none⟩) n cap) qs) {i : Nat} (hi : i < qs.length) :
    w.frozen? ⟨g, i * 2, none⟩ = false ∧ w.frozen? ⟨g, i * 2 + 1, none⟩ = false := by
  have hnn : n = qs.length := by
    obtain ⟨a, c, e⟩ := own_slice h.own
    injection e
  subst hnn
  exact ⟨(own_cell h.own (cellsP_at hi).1).2, (own_cell h.own (cellsP_at hi).2).2⟩
theorem set4_grown (w : World) (g o1 o2 o3 o4 : Nat) (u1 u2 u3 u4 : Value) : w.grownBy ((((w.setCell ⟨g, o1, none⟩ u1).setCell ⟨g, o2, none⟩ u2).setCell ⟨g, o3, none⟩ u3).setCell ⟨g, o4, none⟩ u4) (some g) := by
  refine ⟨rfl, rfl, rfl, by simp, fun j hj hne => ?_⟩
  rw [(set_grown _ g _ _).block j (by simpa using hj) hne, (set_grown _ g _ _).block j (by simpa using hj) hne, (set_grown _ g _ _).block j (by simpa using hj) hne, (set_grown _ g _ _).block j hj hne]
theorem getD_memP {qs : List PP} {i : Nat} (hi : i < qs.length) : qs.getD i ppZ ∈ qs := by
  have e : qs.getD i ppZ = qs[i] := by simp [List.getD, hi]
  rw [e]
  exact List.getElem_mem _

set_option maxRecDepth 20000 in
set_option maxHeartbeats 8000000 in
theorem l11Sort {m : Int} (hm : mKind m = true) (qs : List PP) (v : Value) (base : Nat) (w : World) (hP : Pths w base v qs) (hbase : base ≤ w.heap.size) (hl : ∀ q ∈ qs, q.zs.length ≤ 1000) (hn : qs.length ≤ 400) :
    Calls Tryz.prog 36 #[.int .i64 m, v] w fun e w' => ∃ v' qs', e = .returned v' ∧ (qs'.map PP.p = srt m (qs.map PP.p) ∧ Pths w' base v' qs' ∧ qs'.length = qs.length) ∧ Below w.heap.size w w' := by
  obtain ⟨i1, hi1, hy0, hy1, hy2⟩ := info_parts info_path
  rcases hP.own.2 with ⟨hv, hn0⟩ | ⟨g, cap, cur, hv, hbg, hhg, hcap, -⟩
  · subst hv
    have h0 : qs = [] := List.length_eq_zero_iff.1 hn0
    subst h0
    rw [show srt m (List.map PP.p []) = [] by unfold srt; simp]
    go_enter Tryz.func36, Tryz.ntmps36
    go_wp2
    go_loopw [6] (fun c wr => c = .int .i64 1 ∧ wr = (w.alloc (.cells #[] 30))) (fun c _ => 0)
    case atStart => exact ⟨rfl, rfl⟩
    case round =>
      obtain ⟨rfl, rfl⟩ := hrel
      go_wp2
      go_ret
      first | exact ⟨_, [], rfl, ⟨rfl, pths_empty _ _ hbase, rfl⟩, (Below.refl _ _).alloc (Nat.le_refl _) _⟩ | exact ⟨_, rfl, [], ⟨rfl, pths_empty _ _ hbase, rfl⟩, (Below.refl _ _).alloc (Nat.le_refl _) _⟩
  subst hv
  have hown0 : (w.alloc (.cells #[] 30)).ownsRow w.heap.size 30 2 (.slice (some ⟨w.heap.size, 0, none⟩) 0 0) 0 [] := World.ownsRow_made w #[] 0 (Nat.le_refl _) (by unfold maxLen; omega) rfl
  have hbA : Below w.heap.size w (w.alloc (.cells #[] 30)) := (Below.refl _ _).alloc (Nat.le_refl _) _
  have hnews : ∀ j u, (cellsP qs)[j]? = some u → (w.alloc (.cells #[] 30)).cell? ((⟨g, 0, none⟩ : Addr).add j) = some u := (own_keep5 hP.own hbA).cells (g := g) rfl
  have hall := cellsP_one hP.row
  have hlm : (cellsP qs).length = qs.length * 2 := cellsP_len qs
  have HO := Lib.hid hown0
  have HN := Lib.hid hnews
  have HALL := Lib.hid hall
  have HLM := Lib.hid hlm
  have HPP := Lib.hid hP
  have HL := Lib.hid hl
  clear hown0 hnews hall hlm hbA hP hl hhg
  go_enter Tryz.func36, Tryz.ntmps36
  go_wp2_with (at_builtin; refine wpList_append_own _ rfl _ _ 47 rfl w.heap.size 30 i1 (.agg #[.slice none 0 0, .int .i64 0]) 2 32 Tryz.underlying47 hi1 hy0 hy1 hy2 rfl (by decide) _ _ _ rfl HO.out ⟨g, 0, none⟩ qs.length cap (cellsP qs) rfl HLM.out HN.out HALL.out ?c3 ?c4 ?c5 ?_)
  case c3 => unfold maxLen; omega
  case c4 => omega
  case c5 => simp
  intro v6 w6 hown6 hgrow6 hnil6
  have hb16 : Below w.heap.size w w6 := ((Below.refl _ w).alloc (Nat.le_refl _) _).grown hgrow6 (by simp) (by intro k hk; simp [Value.ownBlock] at hk; omega)
  have hown7 : w6.ownsRow w.heap.size 30 2 v6 qs.length (cellsP qs) := by simpa using hown6
  have hp6 := pths_copy HPP.out hb16 hbase hown7
  have hform : ∃ g6 c6, v6 = .slice (some ⟨g6, 0, none⟩) qs.length c6 ∧ w.heap.size ≤ g6 ∧ g6 < w6.heap.size := by
    rcases hown7.2 with ⟨h1, h2⟩ | ⟨g6, c6, cur6, h1, h2, h3, _⟩
    · exact absurd h1 (fun h => by first | exact hnil6 h | exact absurd (hnil6.1 h) (by simp))
    · exact ⟨g6, c6, h1, h2, (Array.getElem?_eq_some_iff.1 h3).1⟩
  obtain ⟨g6, c6, rfl, hg6, hg6l⟩ := hform
  have HI : Hid (Pths w6 base (.slice (some ⟨g6, 0, none⟩) qs.length c6) qs ∧ qs.Perm qs ∧ STo m (fQ qs) 1 ∧ Below w.heap.size w w6) := Lib.hid ⟨hp6, List.Perm.refl _, fun a b h1 h2 => by omega, hb16⟩
  clear hown6 hgrow6 hnil6 hb16 hown7 hp6
  go_wp2_with fail
  go_loopw [6] (fun c wr => ∃ (i : Nat) (qs' : List PP), 1 ≤ i ∧ (i ≤ qs.length ∨ i = 1) ∧ c = .int .i64 i ∧ Hid (Pths wr base (.slice (some ⟨g6, 0, none⟩) qs.length c6) qs' ∧ qs'.Perm qs ∧ STo m (fQ qs') i ∧ Below w.heap.size w wr)) (fun c _ => qs.length - (intOf c).toNat)
  case atStart => exact ⟨1, qs, Nat.le_refl _, .inr rfl, rfl, HI⟩
  case round =>
    obtain ⟨i, qs', hi1', hi2', rfl, HR⟩ := hrel
    by_cases hlt : i < qs.length
    · have hlt' : (i : Int) < qs.length := by omega
      obtain ⟨wo, hwo⟩ : ∃ wo, wo = wr := ⟨_, rfl⟩
      subst hwo
      go_wp2_with fail
      go_loopw [7] (fun c wq => ∃ (k : Nat) (ps : List PP), k ≤ i ∧ c = .int .i64 k ∧ Hid (Pths wq base (.slice (some ⟨g6, 0, none⟩) qs.length c6) ps ∧ ps.Perm qs ∧ SIn m (fQ ps) i k ∧ Below w.heap.size w wq)) (fun c _ => (intOf c).toNat)
      case atStart => exact ⟨i, qs', Nat.le_refl _, rfl, Lib.hid ⟨HR.out.1, HR.out.2.1, sin_start HR.out.2.2.1, HR.out.2.2.2⟩⟩
      case round =>
        obtain ⟨k, ps, hki, rfl, HK⟩ := hrel
        have hpl := HK.out.2.1.length_eq
        have HPL := Lib.hid hpl
        by_cases hk0 : k = 0
        · subst hk0
          clear hpl
          go_wp2_with fail
          refine wp_region_below (by kernel_rfl) (by kernel_rfl) ?_
          repeat (go_big_quiet_step ((intro hw; first | with_reducible rfl)))
          refine wpQuiet_nil ?_
          intro w5 hw5
          go_wp2
          refine ⟨⟨i + 1, ps, by omega, .inl (by omega), rfl, Lib.hid ⟨HK.out.1.keep hw5, HK.out.2.1, sin_end0 HK.out.2.2.1, bel_trans HK.out.2.2.2 hw5⟩⟩, ?_⟩
          show qs.length - ((i : Int) + 1).toNat < qs.length - (i : Int).toNat
          omega
        · have hk1 : 0 < k := by omega
          have hkl : k < ps.length := by omega
          have HKL := Lib.hid hkl
          have c1 := cellsP_get HK.out.1 hkl
          have c2 := cellsP_get HK.out.1 (i := k - 1) (by omega)
          obtain ⟨hk1c, hk1d⟩ := c1
          obtain ⟨hk2c, hk2d⟩ := c2
          have r1 := HK.out.1.row _ (getD_memP hkl)
          have r2 := HK.out.1.row _ (getD_memP (i := k - 1) (by omega))
          have z1 := HL.out _ (HK.out.2.1.mem_iff.1 (getD_memP hkl))
          have z2 := HL.out _ (HK.out.2.1.mem_iff.1 (getD_memP (qs := ps) (i := k - 1) (by omega)))
          have hF1 : (ps.getD k ppZ).p = fQ ps k := rfl
          have hF2 : (ps.getD (k - 1) ppZ).p = fQ ps (k - 1) := rfl
          generalize hP1 : ps.getD k ppZ = P1 at *
          generalize hP2 : ps.getD (k - 1) ppZ = P2 at *
          have hgl : g6 < wr.heap.size := by
            have ho := HK.out.1.own
            rw [hpl] at ho
            obtain ⟨_, cs, hh⟩ := own_heap ho
            exact (Array.getElem?_eq_some_iff.1 hh).1
          have d1 : decide ((k : Int) > 0) = true := by simp; omega
          have q1 : ¬ ((k : Int) < 0) := by omega
          have q2 : ¬ ((qs.length : Int) ≤ k) := by omega
          have q3 : ¬ ((k : Int) - 1 < 0) := by omega
          have q4 : ¬ ((qs.length : Int) ≤ (k : Int) - 1) := by omega
          have q5 : ((k : Int) - 1).toNat = k - 1 := by omega
          have hcall := fun W (hb : Below wr.heap.size wr W) => l11Before m P1.x P2.x P1.zs P2.zs P1.v P2.v W hm ((own_row r1.1).keep hb) ((own_row r2.1).keep hb) (by omega) (by omega)
          obtain ⟨a1, s1, e1⟩ := own_slice r1.1
          obtain ⟨a2, s2, e2⟩ := own_slice r2.1
          rw [e1] at hk1c
          rw [e2] at hk2c
          rw [e1, e2] at hcall
          have HE := Lib.hid (And.intro e1 e2)
          clear e1 e2
          have FF : Hid (∀ w', Below wr.heap.size wr w' → w'.cell? ⟨g6, k * 2, none⟩ = some (.slice a1 P1.zs.length s1) ∧ w'.cell? ⟨g6, k * 2 + 1, none⟩ = some (.int .i64 P1.x) ∧ w'.cell? ⟨g6, (k - 1) * 2, none⟩ = some (.slice a2 P2.zs.length s2) ∧ w'.cell? ⟨g6, (k - 1) * 2 + 1, none⟩ = some (.int .i64 P2.x)) := Lib.hid (fun w' h => ⟨(h.cell (p := ⟨g6, _, none⟩) hgl).trans hk1c, (h.cell (p := ⟨g6, _, none⟩) hgl).trans hk1d, (h.cell (p := ⟨g6, _, none⟩) hgl).trans hk2c, (h.cell (p := ⟨g6, _, none⟩) hgl).trans hk2d⟩)
          clear hk1c hk1d hk2c hk2d
          rw [show bP m P1.zs P1.x P2.zs P2.x = lP m (fQ ps k) (fQ ps (k - 1)) by rw [← hF1, ← hF2]; rfl] at hcall
          have HF := Lib.hid (And.intro hF1 hF2)
          have H1 := Lib.hid (And.intro hP1 hP2)
          clear hF1 hF2 r1 r2 z1 z2 hpl hP1 hP2
          cases hL : lP m (fQ ps k) (fQ ps (k - 1))
          · rw [hL] at hcall
            have HC := Lib.hid hcall
            have HL1 := Lib.hid hL
            clear hcall hL
            go_wp2_with fail
            refine wp_region_below (by kernel_rfl) (by kernel_rfl) ?_
            repeat (go_big_quiet_step ((intro hw; first | with_reducible rfl | (obtain ⟨f0, f1, f2, f3⟩ := FF.out _ hw; simp only [f0, f1, f2, f3, Result.andThen]; first | exact ⟨trivial, rfl⟩ | exact ⟨rfl, rfl⟩) | (with_reducible exact quietB (HC.out _ hw) hw))))
            refine wpQuiet_nil ?_
            intro w5 hw5
            go_wp2
            refine ⟨⟨i + 1, ps, by omega, .inl (by omega), rfl, Lib.hid ⟨HK.out.1.keep hw5, HK.out.2.1, sin_end hm hk1 hki HK.out.2.2.1 HL1.out, bel_trans HK.out.2.2.2 hw5⟩⟩, ?_⟩
            show qs.length - ((i : Int) + 1).toNat < qs.length - (i : Int).toNat
            omega
          · rw [hL] at hcall
            have HC := Lib.hid hcall
            have HL1 := Lib.hid hL
            clear hcall hL
            go_wp2_with fail
            refine wp_region_below (by kernel_rfl) (by kernel_rfl) ?_
            repeat (go_big_quiet_step ((intro hw; first | with_reducible rfl | (obtain ⟨f0, f1, f2, f3⟩ := FF.out _ hw; simp only [f0, f1, f2, f3, Result.andThen]; first | exact ⟨trivial, rfl⟩ | exact ⟨rfl, rfl⟩) | (with_reducible exact quietB (HC.out _ hw) hw))))
            refine wpQuiet_nil ?_
            intro w5 hw5
            obtain ⟨f0, f1, f2, f3⟩ := FF.out _ hw5
            have HK5 := Lib.hid (And.intro (HK.out.1.keep hw5) (bel_trans HK.out.2.2.2 hw5))
            have hgl5 : g6 < w5.heap.size := by have := hw5.size; omega
            have hgn5 : g6 ≠ w5.heap.size := by omega
            obtain ⟨f4, f5⟩ := cellsP_frz HK5.out.1 HKL.out
            obtain ⟨f6, f7⟩ := cellsP_frz HK5.out.1 (i := k - 1) (by have := HKL.out; omega)
            have hsw := HK5.out.1.swap HPL.out.symm hk1 HKL.out
            rw [H1.out.1, H1.out.2, HE.out.1, HE.out.2] at hsw
            have hbw := HK5.out.2.grown (set4_grown w5 g6 (k * 2) (k * 2 + 1) ((k - 1) * 2) ((k - 1) * 2 + 1) (.slice a2 P2.zs.length s2) (.int .i64 P2.x) (.slice a1 P1.zs.length s1) (.int .i64 P1.x)) (by have := HK5.out.2.size; omega) (by intro j hj; cases hj; omega)
            have HSW := Lib.hid (And.intro hsw hbw)
            clear hsw hbw
            go_wp2
            refine ⟨⟨k - 1, swQ ps k, by omega, by rw [← q5, Int.toNat_of_nonneg (by omega)], Lib.hid ⟨HSW.out.1.keep ((Below.refl _ _).alloc (Nat.le_refl _) _), (swQ_perm hk1 HKL.out).trans HK.out.2.1, ?_, HSW.out.2.alloc (by have := HSW.out.2.size; omega) _⟩⟩, ?_⟩
            · intro a b h1 h2 h3
              have hb' : b < ps.length := by have := HPL.out; omega
              rw [swQ_f hk1 HKL.out b hb', swQ_f hk1 HKL.out a (by omega)]
              exact sin_swap hk1 hki HK.out.2.2.1 HL1.out a b h1 h2 h3
            · show ((k : Int) - 1).toNat < (k : Int).toNat
              omega
    · have hle : qs.length ≤ i := by omega
      have hle' : ¬ ((i : Int) < qs.length) := by omega
      go_wp2
      go_ret
      have hst : STo m (fQ qs') qs'.length := by
        intro a b h1 h2
        rw [HR.out.2.1.length_eq] at h2
        exact HR.out.2.2.1 a b h1 (by omega)
      have e := srt_eq hm (HR.out.2.1.map PP.p) (sto_pairwise hst)
      first | exact ⟨_, rfl, ⟨qs', e, HR.out.1, HR.out.2.1.length_eq⟩, HR.out.2.2.2⟩ | exact ⟨_, qs', rfl, ⟨e, HR.out.1, HR.out.2.1.length_eq⟩, HR.out.2.2.2⟩
end Go.Proofs.YtneapbggnnndhaaGreat
