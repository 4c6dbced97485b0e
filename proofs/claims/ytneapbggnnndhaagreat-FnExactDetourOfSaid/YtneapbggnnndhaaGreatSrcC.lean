/- The search for simple paths, of the program: all paths that begin with some nodes. -/
import Derived.Test.YtneapbggnnndhaaGreatSrcB
namespace Go.Proofs.YtneapbggnnndhaaGreat
open Go.RowKit Go.BigFrame Go.Deep Go.ChangeShapes Go.WideShapes Go.Joins
set_option linter.unusedVariables false
set_option linter.unusedSimpArgs false

theorem info_path : (Tryz.prog.info? 30).map (fun i => (i.zero, i.size, i.bytes)) = some (some (.agg #[.slice none 0 0, .int .i64 0]), 2, 32) := by kernel_rfl
theorem cells_new2v (w : World) (a b : Value) (t : TypeId) : ∀ j u, [a, b][j]? = some u → (w.alloc (.cells #[a, b] t)).cell? (Addr.add ⟨w.heap.size, 0, none⟩ j) = some u := by
  intro j u h
  have hc := (Box.new w t #[a, b]).cell j
  have ha : Addr.add ⟨w.heap.size, 0, none⟩ j = ⟨w.heap.size, j, none⟩ := by rw [Go.WideShapes.add_plain, Nat.zero_add]
  rw [ha, hc]
  simpa using h

set_option maxRecDepth 20000 in
set_option maxHeartbeats 8000000 in
theorem goOnStep {W0 : World} {m n tgt : Int} {es : List Ed} {ops ed : Value} {B f : Nat} (hE : SEnv W0 m n tgt es ops ed) (hgo : GoOnP W0 m n tgt es ops ed B f) : GoOnP W0 m n tgt es ops ed B (f + 1) := by
  intro nodes v qs vn vf w hs hW h0 hN hM hl hq hv
  obtain ⟨gn, cn, hvn, hbgn, hgnl, hcn⟩ := own_pos hs.nod h0
  subst hvn
  obtain ⟨K, hK⟩ : ∃ K, nodes.length = K + 1 := ⟨nodes.length - 1, by omega⟩
  have hlast : w.cell? ⟨gn, K, none⟩ = some (.int .i64 (lst nodes)) := by
    refine (own_cell hs.nod (j := K) (u := .int .i64 (lst nodes)) ?_).1
    unfold lst
    rw [hK, Nat.add_sub_cancel]
    simp [List.getD, show K < nodes.length by omega]
  have hlin : lst nodes ∈ nodes := by
    unfold lst
    rw [hK, Nat.add_sub_cancel]
    simp [List.getD, show K < nodes.length by omega]
  have hlr := hN _ hlin
  have hn12 := gVal_n hE.hg
  have hnod := hs.nod
  rw [hK] at hs hnod hcn
  obtain ⟨fa, fc, hvf⟩ := own_slice hs.fnd.own
  subst hvf
  obtain ⟨⟨c0, c1, c2, c3, c4, c5⟩, hBl⟩ := hs.cells
  have ff : ∀ w', Below w.heap.size w w' → w'.cell? ⟨B, 4, none⟩ = some (.slice (some ⟨gn, 0, none⟩) (K + 1) cn) ∧ w'.cell? ⟨gn, K, none⟩ = some (.int .i64 (lst nodes)) ∧ w'.cell? ⟨B, 3, none⟩ = some (.int .i64 tgt) ∧ w'.cell? ⟨B, 5, none⟩ = some (.slice fa qs.length fc) ∧ w'.cell? ⟨B, 1, none⟩ = some (.int .i64 n) ∧ w'.cell? ⟨B, 2, none⟩ = some ed := fun w' h =>
    ⟨(h.cell (p := ⟨B, _, none⟩) hBl).trans c4, (h.cell (p := ⟨gn, _, none⟩) hgnl).trans hlast, (h.cell (p := ⟨B, _, none⟩) hBl).trans c3, (h.cell (p := ⟨B, _, none⟩) hBl).trans c5, (h.cell (p := ⟨B, _, none⟩) hBl).trans c1, (h.cell (p := ⟨B, _, none⟩) hBl).trans c2⟩
  have FF := Lib.hid ff
  have HS := Lib.hid hs
  have HW := Lib.hid hW
  have HKE := Lib.hid hK
  have HNN := Lib.hid hN
  have HLR := Lib.hid hlr
  have hsub : ((K + 1 : Nat) : Int) - 1 = K := by omega
  have hKi : (K : Int) < ((K + 1 : Nat) : Int) := by omega
  have hKs : K ≤ 1000 := by omega
  clear ff hs c0 c1 c2 c3 c4 c5 hlast hlin hlr hnod hW hN hK
  go_enter Tryz.func61, Tryz.ntmps61
  go_wp2
  refine wp_region_below (by kernel_rfl) (by kernel_rfl) ?_
  repeat (go_big_quiet_step ((intro hw; first | with_reducible rfl | (obtain ⟨f0, f1, f2, f3, f4, f5⟩ := FF.out _ hw; simp only [f0, f1, f2, f3, f4, f5, Result.andThen]; first | exact ⟨trivial, rfl⟩ | exact ⟨rfl, rfl⟩))))
  refine wpQuiet_nil ?_
  intro w1 hw1
  have HS1 := Lib.hid (And.intro (HS.out.keep hw1) (And.intro hw1 (bel_trans HW.out hw1)))
  have FF1 : Hid (∀ w', Below w1.heap.size w1 w' → w'.cell? ⟨B, 4, none⟩ = some (.slice (some ⟨gn, 0, none⟩) (K + 1) cn) ∧ w'.cell? ⟨B, 3, none⟩ = some (.int .i64 tgt) ∧ w'.cell? ⟨B, 5, none⟩ = some (.slice fa qs.length fc) ∧ w'.cell? ⟨B, 1, none⟩ = some (.int .i64 n) ∧ w'.cell? ⟨B, 2, none⟩ = some ed) := Lib.hid (fun w' h => by
    obtain ⟨f0, f1, f2, f3, f4, f5⟩ := FF.out _ (bel_trans hw1 h)
    exact ⟨f0, f2, f3, f4, f5⟩)
  obtain ⟨f0, f2, f3, f4, f5⟩ := FF1.out _ (Below.refl _ _)
  have hB1 : B < w1.heap.size := Nat.lt_of_lt_of_le hBl hw1.size
  have hgn1 : gn < w1.heap.size := Nat.lt_of_lt_of_le hgnl hw1.size
  clear hw1 hBl
  by_cases he : lst nodes = tgt
  · have d1 : decide (lst nodes = tgt) = true := by simpa using he
    have d2 : (lst nodes == tgt) = true := by simpa using he
    have d3 : (lst nodes != tgt) = false := by simpa using he
    have hpw : pw m es tgt (f + 1) nodes v (qs.map PP.p) = qs.map PP.p ++ [(nodes, v)] := by simp only [pw]; rw [if_pos he]
    have HPW := Lib.hid hpw
    clear he hpw hgo hE
    obtain ⟨i1, hi1, hy0, hy1, hy2⟩ := info_parts info_path
    have hcl := fun w' (h : Below w1.heap.size w1 w') => cloneO nodes (.slice (some ⟨gn, 0, none⟩) (K + 1) cn) w' (own_row (HS1.out.1.keep h).nod) h0 (by omega)
    have HCL := Lib.hid hcl
    have hxg : ∀ A w2 w6, Below w1.heap.size w1 w2 → World.grownBy (w2.alloc A) w6 (Value.slice fa qs.length fc).ownBlock → w6.cell? ⟨B, 5, none⟩ = some (.slice fa qs.length fc) ∧ w6.frozen? ⟨B, 5, none⟩ = false := fun A w2 w6 h2 h => by
      have h1 := Box.grown (w := w2.alloc A) ((HS1.out.1.keep h2).box.alloc A) h ((HS1.out.1.keep h2).fnd.own.alloc A) (by decide)
      exact ⟨by simpa [sC] using h1.cell 5, h1.frozen 5⟩
    have HXG := Lib.hid hxg
    have hbw : W0.heap.size ≤ w1.heap.size := HS1.out.2.2.size
    clear hcl hxg
    go_wp2_with fail
    go_region_law (first | (go_simp; go_at_call 76; (with_reducible refine (HCL.out _ ((Below.refl _ _).drew)).mono ?_); rintro e w2 ⟨vq, rfl, hownq, hb2⟩; obtain ⟨gq, cq, rfl, hgq1, hgq2, hgq3⟩ := own_pos hownq h0; have k5 := (FF1.out _ (bel_trans ((Below.refl _ _).drew) hb2)).2.2.1; have hsz2 : w1.heap.size ≤ w2.heap.size := hb2.size; have hB2 : B < w2.heap.size := (by omega)) | (refine step_append_own rfl (.tmp 30) (.tmp 38) 47 rfl W0.heap.size 30 i1 (.agg #[.slice none 0 0, .int .i64 0]) 2 32 Tryz.underlying47 hi1 hy0 hy1 hy2 rfl (by decide) _ _ _ rfl ((HS1.out.1.keep (bel_trans ((Below.refl _ _).drew) hb2)).fnd.own.alloc _) ⟨w2.heap.size, 0, none⟩ 1 1 [.slice (some ⟨gq, 0, none⟩) nodes.length cq, .int .i64 v] rfl rfl (cells_new2v _ _ _ _) (by simp [Value.oneCell']) (by unfold maxLen; omega) (by omega) (by simp; omega) ?_; intro v' w6 hown6 hgrow6; obtain ⟨va6, vc6, rfl⟩ := own_slice hown6; have HX6 := Lib.hid (HXG.out _ _ _ (bel_trans ((Below.refl _ _).drew) hb2) hgrow6); have x56 := HX6.out.1; have f56 := HX6.out.2))
    all_goals
      have hgq : w1.heap.size ≤ gq := hgq1
      have hbel2 := bel_trans (bel_trans ((Below.refl _ _).drew) hb2) ((Below.refl _ _).alloc (Nat.le_refl _) (.cells #[.slice (some ⟨gq, 0, none⟩) nodes.length cq, .int .i64 v] 30))
      have hfound := (HS1.out.1.keep hbel2).found (q := ⟨.slice (some ⟨gq, 0, none⟩) nodes.length cq, nodes, v⟩) hgrow6 hown6 ⟨(own_low5 hownq (show W0.heap.size ≤ w1.heap.size from hbw)).alloc _, h0⟩ (fun p hp e => by
        obtain ⟨k, hk, h1, h2⟩ := (HS1.out.1.fnd.row p hp).blk
        rw [hk] at e
        simp [Value.ownBlock] at e
        omega) (fun e => by simp [Value.ownBlock] at e; omega)
      have HFO := Lib.hid (And.intro hfound ((ChaT.of_below (A := AS) (base := W0.heap.size) (bel_trans HS1.out.2.1 hbel2)).trans hfound.2))
      clear hfound hgrow6 hown6 hownq hbel2 hb2 k5 HX6 hgq1 hgq2 hgq3 hgq
      go_wp2
      go_ret
      refine (show _ ∧ _ ∧ _ from ⟨?_, ⟨_, _, _, HFO.out.1.1, by rw [HPW.out, List.map_append]; rfl⟩, HFO.out.2⟩)
      rw [HPW.out, List.length_append, List.length_map]
      show Ending.returned (.bool (decide ((qs.length : Int) + 1 ≤ 400))) = Ending.returned (.bool (decide (qs.length + 1 ≤ 400)))
      congr 2
      exact decide_eq_decide.2 (by omega)
  · have d1 : decide (lst nodes = tgt) = false := by simpa using he
    have d2 : (lst nodes == tgt) = false := by simpa using he
    have d3 : (lst nodes != tgt) = true := by simpa using he
    have hpw : pw m es tgt (f + 1) nodes v (qs.map PP.p) = (eFr es (lst nodes)).foldl (pwS m nodes v (pw m es tgt f)) (qs.map PP.p) := by simp only [pw]; rw [if_neg he, eFr_fold hE.hg]
    have HPW := Lib.hid hpw
    have HE := Lib.hid he
    clear he hpw
    have hef : ∀ k, k < (eFr es (lst nodes)).length → ((eFr es (lst nodes)).getD k (0, 0, 0)).1 = lst nodes ∧ (0 ≤ ((eFr es (lst nodes)).getD k (0, 0, 0)).2.1 ∧ ((eFr es (lst nodes)).getD k (0, 0, 0)).2.1 < n) ∧ mWeight ((eFr es (lst nodes)).getD k (0, 0, 0)).2.2 = true := fun k hk => by
      have h1 := pwG_edge hE.hg (e := (eFr es (lst nodes)).getD k (0, 0, 0)) (eFr_mem (x := lst nodes) (by simp [List.getD, hk]))
      exact ⟨eFr_from hE.hg hk, h1⟩
    have hlen := eFr_len es (lst nodes)
    have hed := edgesFrom n (lst nodes) es ed w1 (hE.row.keep HS1.out.2.2) hE.ok (by omega) hE.hg HLR.out.1 (by have := HLR.out; omega)
    generalize eFr es (lst nodes) = E at HPW hef hlen hed
    have HEF := Lib.hid hef
    have HED := Lib.hid hed
    have HENV := Lib.hid hE
    have HGO := Lib.hid hgo
    clear hef hed hgo hE
    go_wp2_with fail
    refine HED.out.mono ?_
    rintro e w2 ⟨ve, rfl, hrow, hb2⟩
    have hrow0 := hrow W0 HENV.out.row
    obtain ⟨ea, ec, rfl, hez⟩ := hrow0
    have HEZ := Lib.hid hez
    have HI : Hid (Srch w2 W0.heap.size B ops n ed tgt nodes qs (.slice (some ⟨gn, 0, none⟩) (K + 1) cn) (.slice fa qs.length fc) ∧ qs.map PP.p = pwP m E nodes v (pw m es tgt f) (qs.map PP.p) 0 ∧ ChaT AS W0.heap.size w w2) := Lib.hid ⟨HS1.out.1.keep hb2, rfl, ChaT.of_below (bel_trans HS1.out.2.1 hb2)⟩
    clear hrow hez hb2 f0 f2 f3 f4 f5 hB1 hgn1
    go_wp2_with fail
    go_loopw [55] (fun c wr => ∃ (k : Nat) (qs' : List PP) (vn' vf' : Value), k ≤ E.length ∧ c = .int .i64 k ∧ Hid (Srch wr W0.heap.size B ops n ed tgt nodes qs' vn' vf' ∧ qs'.map PP.p = pwP m E nodes v (pw m es tgt f) (qs.map PP.p) k ∧ ChaT AS W0.heap.size w wr) ∧ qs'.length ≤ 400) (fun c _ => E.length - (intOf c).toNat)
    case atStart => exact ⟨0, qs, _, _, Nat.zero_le _, rfl, HI, hq⟩
    case round =>
      obtain ⟨k, qs', vn', vf', hk, rfl, HR, hq'⟩ := hrel
      have HWr := Lib.hid (HR.out.2.2.bel HW.out.size (Nat.le_refl _) HW.out)
      by_cases hlt : k < E.length
      · have hlt' : (k : Int) < E.length := by omega
        rcases HEZ.out with hez | ⟨b, off, hea, hbb, hc⟩
        · rw [hez] at hlt; simp at hlt
        subst hea
        obtain ⟨x, y, z, hx⟩ : ∃ x y z, (x, y, z) = E.getD k (0, 0, 0) := ⟨_, _, _, rfl⟩
        have h1 := hc k hlt
        have hef := HEF.out k hlt
        rw [← hx] at h1 hef
        simp only at h1 hef
        obtain ⟨h1a, h1b, h1c⟩ := h1
        have e0 := (HWr.out.cell (p := ⟨b, _, none⟩) hbb).trans h1a
        have e1 := (HWr.out.cell (p := ⟨b, _, none⟩) hbb).trans h1b
        have e2 := (HWr.out.cell (p := ⟨b, _, none⟩) hbb).trans h1c
        have hstep := pwP_step (m := m) (v := v) (es := E) (nodes := nodes) (rec := pw m es tgt f) (out := qs.map PP.p) hlt
        rw [← hx] at hstep
        have HX := Lib.hid hx
        have HSTEP := Lib.hid hstep
        obtain ⟨hxl, hyr, hzw⟩ := hef
        have HXL := Lib.hid hxl
        have HYR := Lib.hid hyr
        have HZW := Lib.hid hzw
        clear hc h1a h1b h1c hx hstep hxl hyr hzw
        have hBw := HR.out.1.cells.2
        have hb0 : Below wr.heap.size wr (wr.alloc (.cells #[.int .i64 x, .int .i64 y, .int .i64 z] 67)) := (Below.refl _ _).alloc (Nat.le_refl _) _
        have HBX := Lib.hid (Box.new wr 67 #[.int .i64 x, .int .i64 y, .int .i64 z])
        have HB0 := Lib.hid hb0
        clear hb0
        obtain ⟨wo, hwo⟩ : ∃ wo, wo = wr := ⟨_, rfl⟩
        go_wp2_with fail
        generalize (wr.alloc (.cells #[.int .i64 x, .int .i64 y, .int .i64 z] 67)) = w3 at HBX HB0 ⊢
        have HS3 := Lib.hid (HR.out.1.keep HB0.out)
        have HCH3 := Lib.hid (HR.out.2.2.trans (ChaT.of_below (A := AS) (base := W0.heap.size) HB0.out))
        have hbel3 := bel_trans HWr.out HB0.out
        obtain ⟨va, vc, hva⟩ := own_slice HS3.out.nod
        subst hva
        have ff : ∀ w', Below w3.heap.size w3 w' → w'.cell? ⟨B, 4, none⟩ = some (.slice va nodes.length vc) ∧ w'.cell? ⟨wr.heap.size, 0, none⟩ = some (.int .i64 x) ∧ w'.cell? ⟨wr.heap.size, 1, none⟩ = some (.int .i64 y) ∧ w'.cell? ⟨wr.heap.size, 2, none⟩ = some (.int .i64 z) := fun w' h =>
          ⟨(HS3.out.keep h).cells.1.2.2.2.2.1, by simpa using (HBX.out.keep h).cell 0, by simpa using (HBX.out.keep h).cell 1, by simpa using (HBX.out.keep h).cell 2⟩
        have FF3 := Lib.hid ff
        have hct := fun w' (h : Below w3.heap.size w3 w') => containsI nodes y (.slice va nodes.length vc) w' (own_row (HS3.out.keep h).nod) (by omega)
        clear ff hBw e0 e1 e2
        by_cases hin : inL nodes y = true
        · rw [hin] at hct
          have HCT := Lib.hid hct
          have HIN := Lib.hid hin
          clear hct hin
          refine wp_region_below (by kernel_rfl) (by kernel_rfl) ?_
          repeat (go_big_quiet_step ((intro hw; first | with_reducible rfl | (obtain ⟨f0, f1, f2, f3⟩ := FF3.out _ hw; simp only [f0, f1, f2, f3, Result.andThen]; first | exact ⟨trivial, rfl⟩ | exact ⟨rfl, rfl⟩) | (go_at_call 78; with_reducible exact quietB (HCT.out _ hw) hw))))
          refine wpQuiet_nil ?_
          intro w4 hw4
          have HN : Hid (Srch w4 W0.heap.size B ops n ed tgt nodes qs' (.slice va nodes.length vc) vf' ∧ qs'.map PP.p = pwP m E nodes v (pw m es tgt f) (qs.map PP.p) (k + 1) ∧ ChaT AS W0.heap.size w w4) := Lib.hid ⟨HS3.out.keep hw4, by rw [HSTEP.out, pwS_not]; exact HR.out.2.1; (have h := HIN.out; unfold inL at h; unfold pwG; rw [h]; simp), HCH3.out.trans (ChaT.of_below hw4)⟩
          clear hw4
          go_wp2
          go_roundw
          case rel => first | exact ⟨k + 1, qs', _, _, by omega, by go_num, HN, hq'⟩ | ((repeat apply Exists.intro); exact ⟨⟨k + 1, qs', _, _, by omega, by go_num, HN, hq'⟩, rfl⟩)
          case measure => simp [intOf]; omega
        · have hin2 : inL nodes y = false := by simpa using hin
          rw [hin2] at hct
          have HCT := Lib.hid hct
          have HIN := Lib.hid hin2
          have hynot : y ∉ nodes := by have h := hin2; unfold inL at h; simpa using h
          have hga := fun w' (h : Below w3.heap.size w3 w') => goAlong HENV.out HGO.out nodes x y z v qs' (.slice va nodes.length vc) vf' w' (HS3.out.keep h) (bel_trans hbel3 h) h0 HNN.out HYR.out HZW.out (Nat.lt_of_lt_of_le (pwM_lt HYR.out.1 HYR.out.2 hynot) (by omega)) (by omega) hq' hv
          have hgo2 : pwS m nodes v (pw m es tgt f) (qs'.map PP.p) (x, y, z) = pw m es tgt f (nodes ++ [y]) (mJoin m v (mEdge m z)) (qs'.map PP.p) := by
            have hg : pwG nodes (x, y, z) = true := by unfold pwG; simp [HXL.out, hynot]
            have := pwS_go (m := m) (v := v) (rec := pw m es tgt f) (out := qs'.map PP.p) (by rw [List.length_map]; exact hq') hg
            exact this
          have hnx : pwP m E nodes v (pw m es tgt f) (qs.map PP.p) (k + 1) = pw m es tgt f (nodes ++ [y]) (mJoin m v (mEdge m z)) (qs'.map PP.p) := by rw [HSTEP.out, ← HR.out.2.1, hgo2]
          generalize pw m es tgt f (nodes ++ [y]) (mJoin m v (mEdge m z)) (qs'.map PP.p) = OUT at hga hnx
          have HGA := Lib.hid hga
          have HNX := Lib.hid hnx
          clear hct hin hin2 hynot hga hnx hgo2 hbel3
          by_cases hcnt : OUT.length ≤ 400
          · have HD : Hid (decide (OUT.length ≤ 400) = true) := Lib.hid (decide_eq_true hcnt)
            obtain ⟨g0, g1, g2, g3⟩ := FF3.out _ (Below.refl _ _)
            have hga2 : ∀ w', Below w3.heap.size w3 w' → Calls Tryz.prog 79 #[.pointer (some ⟨B, 0, none⟩), .agg #[.int .i64 x, .int .i64 y, .int .i64 z], .int .i64 v] w' fun e w'' => e = .returned (.bool true) ∧ (∃ qs vn vf, Srch w'' W0.heap.size B ops n ed tgt nodes qs vn vf ∧ qs.map PP.p = OUT) ∧ ChaT AS W0.heap.size w' w'' := fun w' h => (HGA.out w' h).mono (fun e w'' hh => by
              obtain ⟨h1, h2, h3⟩ : _ ∧ _ ∧ _ := hh
              exact ⟨by rw [h1, HD.out], h2, h3⟩)
            have HGA2 := Lib.hid hga2
            clear hga2
            go_region_law (first | (go_simp; go_at_call 78; (with_reducible refine (HCT.out _ ((Below.refl _ _).drew)).mono ?_); rintro e w4 ⟨rfl, hb4⟩; obtain ⟨k0, k1, k2, k3⟩ := FF3.out _ (bel_trans ((Below.refl _ _).drew) hb4)) | (go_simp; go_at_call 79; (with_reducible refine (HGA2.out _ (bel_trans ((Below.refl _ _).drew) hb4)).mono ?_); rintro e w5 ⟨rfl, ⟨qs5, vn5, vf5, hsr5, hmap5⟩, hch5⟩))
            all_goals
              have HN : Hid (Srch w5 W0.heap.size B ops n ed tgt nodes qs5 vn5 vf5 ∧ qs5.map PP.p = pwP m E nodes v (pw m es tgt f) (qs.map PP.p) (k + 1) ∧ ChaT AS W0.heap.size w w5) := Lib.hid ⟨hsr5, by rw [HNX.out, hmap5], (HCH3.out.trans (ChaT.of_below (bel_trans ((Below.refl _ _).drew) hb4))).trans hch5⟩
              have hq5 : qs5.length ≤ 400 := by rw [← hmap5, List.length_map] at hcnt; exact hcnt
              clear hsr5 hmap5 hch5 hb4 k0 k1 k2 k3 g0 g1 g2 g3 hcnt
              go_wp2
              go_roundw
            all_goals first
              | exact ⟨k + 1, qs5, _, _, by omega, by go_num, HN, hq5⟩
              | ((repeat apply Exists.intro); exact ⟨⟨k + 1, qs5, _, _, by omega, by go_num, HN, hq5⟩, rfl⟩)
              | (simp [intOf]; omega)
          · have HD : Hid (decide (OUT.length ≤ 400) = false) := Lib.hid (decide_eq_false hcnt)
            obtain ⟨g0, g1, g2, g3⟩ := FF3.out _ (Below.refl _ _)
            have hga2 : ∀ w', Below w3.heap.size w3 w' → Calls Tryz.prog 79 #[.pointer (some ⟨B, 0, none⟩), .agg #[.int .i64 x, .int .i64 y, .int .i64 z], .int .i64 v] w' fun e w'' => e = .returned (.bool false) ∧ (∃ qs vn vf, Srch w'' W0.heap.size B ops n ed tgt nodes qs vn vf ∧ qs.map PP.p = OUT) ∧ ChaT AS W0.heap.size w' w'' := fun w' h => (HGA.out w' h).mono (fun e w'' hh => by
              obtain ⟨h1, h2, h3⟩ : _ ∧ _ ∧ _ := hh
              exact ⟨by rw [h1, HD.out], h2, h3⟩)
            have HGA2 := Lib.hid hga2
            clear hga2
            go_region_law (first | (go_simp; go_at_call 78; (with_reducible refine (HCT.out _ ((Below.refl _ _).drew)).mono ?_); rintro e w4 ⟨rfl, hb4⟩; obtain ⟨k0, k1, k2, k3⟩ := FF3.out _ (bel_trans ((Below.refl _ _).drew) hb4)) | (go_simp; go_at_call 79; (with_reducible refine (HGA2.out _ (bel_trans ((Below.refl _ _).drew) hb4)).mono ?_); rintro e w5 ⟨rfl, ⟨qs5, vn5, vf5, hsr5, hmap5⟩, hch5⟩))
            all_goals
              clear k0 k1 k2 k3 g0 g1 g2 g3
              go_wp2
              go_ret
              have hfin : pw m es tgt (f + 1) nodes v (qs.map PP.p) = OUT := by
                rw [HPW.out, ← HNX.out]
                exact pwP_full (by rw [HNX.out]; exact hcnt)
              refine (show _ ∧ _ ∧ _ from ⟨?_, ⟨qs5, _, _, hsr5, by rw [hfin]; exact hmap5⟩, (HCH3.out.trans (ChaT.of_below (bel_trans ((Below.refl _ _).drew) hb4))).trans hch5⟩)
              rw [hfin, HD.out]
              rfl
      · have hke : k = E.length := by omega
        have hkk : ¬ ((k : Int) < E.length) := by omega
        have HKK := Lib.hid hke
        clear hke
        go_wp2
        go_ret
        have hall := HR.out.2.1
        rw [pwP_all (by have := HKK.out; omega), ← HPW.out] at hall
        refine (show _ ∧ _ ∧ _ from ⟨?_, ⟨qs', _, _, HR.out.1, hall⟩, HR.out.2.2⟩)
        rw [← hall, List.length_map]
        show Ending.returned (.bool true) = _
        rw [decide_eq_true hq']
end Go.Proofs.YtneapbggnnndhaaGreat
