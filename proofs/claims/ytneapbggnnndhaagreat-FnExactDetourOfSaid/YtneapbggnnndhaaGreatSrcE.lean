/- The search for simple paths, of the model. -/
import Derived.Test.YtneapbggnnndhaaGreatSrcD
import Derived.Test.YtneapbggnnndhaaGreatSpec
namespace Go.Proofs.YtneapbggnnndhaaGreat
open Go.RowKit Go.BigFrame Go.Deep Go.ChangeShapes Go.WideShapes Go.Joins
set_option linter.unusedVariables false
set_option linter.unusedSimpArgs false

theorem onOk_pairS (n : Int) (es : List Ed) (m a b : Int) : onOk n es m [a, b] = (onOk n es m [a] && inN n b) := by
  unfold onOk
  simp only [List.all_cons, List.all_nil, Bool.and_true]
  cases gVal n es <;> cases inN n a <;> cases inN n b <;> cases mKind m <;> rfl

set_option maxRecDepth 20000 in
set_option maxHeartbeats 1000000 in
theorem l11Right (n m a b : Int) (es : List Ed) (s : Value) (w : World) (hs : RowE w s es) (hl : es.length ≤ 1048576) :
    Calls Tryz.prog 34 #[.agg #[.int .i64 n, s], .int .i64 m, .int .i64 a, .int .i64 b] w fun e w' => e = .returned (.bool (onOk n es m [a, b])) ∧ Below w.heap.size w w' := by
  have hB : ∀ (A : Obj), Below w.heap.size w (w.alloc A) := fun A => (Below.refl _ _).alloc (Nat.le_refl _) _
  have ho := fun A => l3Right n m a es s (w.alloc A) (hs.keep (hB A)) (by omega)
  rw [onOk_pairS]
  generalize onOk n es m [a] = G at ho ⊢
  have HO := Lib.hid ho
  have HB := Lib.hid hB
  obtain ⟨ad, cap, rfl, hz⟩ := hs
  clear ho hB hz
  cases G
  · rw [Bool.false_and]
    go_enter Tryz.func34, Tryz.ntmps34
    go_wp2_with (go_at_call 43; refine (HO.out _).mono ?_; rintro e w1 ⟨rfl, hb1⟩)
    go_ret
    exact ⟨rfl, bel_trans (HB.out _) hb1⟩
  · rw [Bool.true_and]
    unfold inN
    by_cases h1 : 0 ≤ b
    · have d1 : decide (0 ≤ b) = true := decide_eq_true h1
      rw [d1, Bool.true_and]
      by_cases h2 : b < n
      · have d2 : decide (b < n) = true := decide_eq_true h2
        rw [d2]
        go_enter Tryz.func34, Tryz.ntmps34
        go_wp2_with (go_at_call 43; refine (HO.out _).mono ?_; rintro e w1 ⟨rfl, hb1⟩; have x0 := hb1.cell (p := ⟨w.heap.size, 0, none⟩) (by simp))
        go_ret
        exact ⟨rfl, bel_trans (HB.out _) hb1⟩
      · have d2 : decide (b < n) = false := decide_eq_false h2
        rw [d2]
        go_enter Tryz.func34, Tryz.ntmps34
        go_wp2_with (go_at_call 43; refine (HO.out _).mono ?_; rintro e w1 ⟨rfl, hb1⟩; have x0 := hb1.cell (p := ⟨w.heap.size, 0, none⟩) (by simp))
        go_ret
        exact ⟨rfl, bel_trans (HB.out _) hb1⟩
    · have d1 : decide (0 ≤ b) = false := decide_eq_false h1
      rw [d1, Bool.false_and]
      go_enter Tryz.func34, Tryz.ntmps34
      go_wp2_with (go_at_call 43; refine (HO.out _).mono ?_; rintro e w1 ⟨rfl, hb1⟩)
      go_ret
      exact ⟨rfl, bel_trans (HB.out _) hb1⟩

theorem ownE (w : World) (base : Nat) (hb : base ≤ w.heap.size) : (w.alloc (.cells #[] 3)).ownsRow base 3 1 (.slice (some ⟨w.heap.size, 0, none⟩) 0 0) 0 [] := World.ownsRow_made w #[] 0 hb (by unfold maxLen; omega) rfl
theorem ownE1 (w : World) (A : Obj) (base : Nat) (hb : base ≤ w.heap.size) : ((w.alloc A).alloc (.cells #[] 3)).ownsRow base 3 1 (.slice (some ⟨w.heap.size + 1, 0, none⟩) 0 0) 0 [] := by
  have := ownE (w.alloc A) base (by simp; omega)
  simpa using this
theorem cells_new1n (w : World) (p : Value) (t : TypeId) : ∀ j u, [p][j]? = some u → (w.alloc (.cells #[p] t)).cell? (Addr.add ⟨w.heap.size, 0, none⟩ j) = some u := by
  intro j u h
  have hc := (Box.new w t #[p]).cell j
  have ha : Addr.add ⟨w.heap.size, 0, none⟩ j = ⟨w.heap.size, j, none⟩ := by rw [Go.WideShapes.add_plain, Nat.zero_add]
  rw [ha, hc]
  simpa using h
theorem one_at {w : World} {b : Nat} {v : Value} (h : w.cell? ⟨b, 0, none⟩ = some v) : ∀ j u, [v][j]? = some u → w.cell? (Addr.add ⟨b, 0, none⟩ j) = some u := by
  intro j u hj
  cases j with
  | zero =>
    simp at hj
    subst hj
    rw [Go.WideShapes.add_plain, Nat.zero_add]
    exact h
  | succ j => simp at hj
theorem ChaT.ownB {A : TypeId → Prop} {base b2 : Nat} {w w' : World} {e : TypeId} {u : Value} {sz m : Nat} {xs : List Value} (h : ChaT A base w w') (ho : w.ownsRow b2 e sz u m xs) (hA : ¬ A e) : w'.ownsRow b2 e sz u m xs := by
  refine ⟨ho.1, ?_⟩
  rcases ho.2 with h0 | ⟨g, cap, cur, rfl, hbg, hgg, rest⟩
  · exact .inl h0
  · refine .inr ⟨g, cap, cur, rfl, hbg, ?_, rest⟩
    rw [h.block g (Array.getElem?_eq_some_iff.1 hgg).1 (fun ⟨hb, cs', t', ht, hh⟩ => ?_)]
    · exact hgg
    · rw [hgg] at hh
      simp at hh
      exact hA (hh.2 ▸ ht)
/-- The model writes into rows of paths alone. -/
def AP (t : TypeId) : Prop := t = 30
def WalkP (W0 : World) (m n tgt : Int) (es : List Ed) (s : Value) (f : Nat) : Prop :=
  ∀ (nodes : List Int) (v : Int) (qs : List PP) (vn vo : Value) (w : World), Below W0.heap.size W0 w → w.ownsRow 0 3 1 vn nodes.length (nodes.map (Value.int .i64)) → Pths w W0.heap.size vo qs → 0 < nodes.length → (∀ x ∈ nodes, 0 ≤ x ∧ x < n) → pwM n nodes < f → nodes.length + f ≤ 1000 → qs.length ≤ 400 → mIn m v = true →
    Calls Tryz.prog 44 #[.agg #[.int .i64 n, s], .int .i64 m, vn, .int .i64 v, .int .i64 tgt, vo] w fun e w' => ∃ v' qs', e = .returned v' ∧ Pths w' W0.heap.size v' qs' ∧ qs'.map PP.p = pw m es tgt f nodes v (qs.map PP.p) ∧ ChaT AP W0.heap.size w w'

set_option maxRecDepth 20000 in
set_option maxHeartbeats 8000000 in
theorem walkStep {W0 : World} {m n tgt : Int} {es : List Ed} {s : Value} {f : Nat} (hm : mKind m = true) (hg : gVal n es = true) (hr : RowE W0 s es) (hgo : WalkP W0 m n tgt es s f) : WalkP W0 m n tgt es s (f + 1) := by
  intro nodes v qs vn vo w hW hn hp h0 hN hM hl hq hv
  obtain ⟨gn, cn, hvn, hbgn, hgnl, hcn⟩ := own_pos hn h0
  subst hvn
  obtain ⟨K, hK⟩ : ∃ K, nodes.length = K + 1 := ⟨nodes.length - 1, by omega⟩
  have hlast : w.cell? ⟨gn, K, none⟩ = some (.int .i64 (lst nodes)) := by
    refine (own_cell hn (j := K) (u := .int .i64 (lst nodes)) ?_).1
    unfold lst
    rw [hK, Nat.add_sub_cancel]
    simp [List.getD, show K < nodes.length by omega]
  have hn12 := gVal_n hg
  obtain ⟨ad, cap, rfl, hrz⟩ := id hr
  obtain ⟨fa, fc, hvf⟩ := own_slice hp.own
  subst hvf
  have hb0 : Below w.heap.size w (w.alloc (.cells #[.int .i64 n, .slice ad es.length cap] 35)) := (Below.refl _ _).alloc (Nat.le_refl _) _
  have HX := Lib.hid (Box.new w 35 #[.int .i64 n, .slice ad es.length cap])
  have HS := Lib.hid (And.intro (own_keep5 hn hb0) (And.intro (hp.keep hb0) (And.intro hb0 (bel_trans hW hb0))))
  have hl1 := (hb0.cell (p := ⟨gn, K, none⟩) hgnl).trans hlast
  have HKE := Lib.hid hK
  have HNN := Lib.hid hN
  have HRZ := Lib.hid hrz
  have HW := Lib.hid hW
  have HP0 := Lib.hid hp
  have hsub : ((K + 1 : Nat) : Int) - 1 = K := by omega
  have hKi : (K : Int) < ((K + 1 : Nat) : Int) := by omega
  have hKs : K ≤ 1000 := by omega
  have hgn1 : gn < (w.alloc (.cells #[.int .i64 n, .slice ad es.length cap] 35)).heap.size := by simp; omega
  rw [hK] at hcn
  rw [show (Value.slice (some ⟨gn, 0, none⟩) nodes.length cn) = .slice (some ⟨gn, 0, none⟩) (K + 1) cn by rw [hK]] at HS ⊢
  clear hn hp hlast hK hN hrz hW hb0 hr
  go_enter Tryz.func44, Tryz.ntmps44
  by_cases he : lst nodes = tgt
  · have d1 : decide (lst nodes = tgt) = true := by simpa using he
    have d2 : (lst nodes == tgt) = true := by simpa using he
    have d3 : (lst nodes != tgt) = false := by simpa using he
    have hpw : pw m es tgt (f + 1) nodes v (qs.map PP.p) = qs.map PP.p ++ [(nodes, v)] := by simp only [pw]; rw [if_pos he]
    have HPW := Lib.hid hpw
    clear he hpw hgo
    go_upto_region 3 with fail
    generalize (w.alloc (.cells #[.int .i64 n, .slice ad es.length cap] 35)) = w1 at HX HS hl1 hgn1 ⊢
    obtain ⟨i0, hi, hz0, hz1, hz2⟩ := info_parts info_int2
    obtain ⟨i1, hi1, hy0, hy1, hy2⟩ := info_parts info_path
    have hbA : Below w1.heap.size w1 (w1.alloc (.cells #[] 3)) := (Below.refl _ _).alloc (Nat.le_refl _) _
    have hown0 : (w1.alloc (.cells #[] 3)).ownsRow w1.heap.size 3 1 (.slice (some ⟨w1.heap.size, 0, none⟩) 0 0) 0 [] := World.ownsRow_made w1 #[] 0 (Nat.le_refl _) (by unfold maxLen; omega) rfl
    have hnews : ∀ j u, (nodes.map (Value.int .i64))[j]? = some u → (w1.alloc (.cells #[] 3)).cell? ((⟨gn, 0, none⟩ : Addr).add j) = some u := (own_keep5 HS.out.1 hbA).cells (g := gn) rfl
    have hall : ∀ u ∈ nodes.map (Value.int .i64), u.oneCell' = true := by intro u hu; obtain ⟨x, _, rfl⟩ := List.mem_map.1 hu; rfl
    have hlm : (nodes.map (Value.int .i64)).length = (K + 1) * 1 := by rw [List.length_map, HKE.out]; omega
    have HO := Lib.hid hown0
    have HN := Lib.hid hnews
    have HALL := Lib.hid hall
    have HLM := Lib.hid hlm
    have hbw : W0.heap.size ≤ w1.heap.size := HS.out.2.2.2.size
    clear hown0 hnews hall hlm hbA
    go_wp2_with (at_builtin; refine wpList_append_own _ rfl _ _ 25 rfl w1.heap.size 3 i0 (.int .i64 0) 1 8 Tryz.underlying25 hi hz0 hz1 hz2 rfl (by decide) _ _ _ rfl HO.out ⟨gn, 0, none⟩ (K + 1) cn (nodes.map (Value.int .i64)) rfl HLM.out HN.out HALL.out ?c3 ?c4 ?c5 ?_)
    case c3 => unfold maxLen; omega
    case c4 => omega
    case c5 => simp
    intro v' w6 hown6 hgrow6 _
    have hown7 : w6.ownsRow w1.heap.size 3 1 v' nodes.length (nodes.map (Value.int .i64)) := by
      have e : nodes.length = 0 + (K + 1) := by rw [HKE.out]; omega
      rw [e]
      simpa using hown6
    obtain ⟨gq, cq, hvq, hgq1, hgq2, hgq3⟩ := own_pos hown7 h0
    subst hvq
    have hb16 : Below w1.heap.size w1 w6 := ((Below.refl _ w1).alloc (Nat.le_refl _) _).grown hgrow6 (by simp) (by intro k hk; simp [Value.ownBlock] at hk; omega)
    have hbA6 : Below w6.heap.size w6 (w6.alloc (.cells #[.slice (some ⟨gq, 0, none⟩) nodes.length cq, .int .i64 v] 30)) := (Below.refl _ _).alloc (Nat.le_refl _) _
    have HPT := Lib.hid (And.intro (HS.out.2.1.keep (bel_trans hb16 hbA6)) (And.intro (own_keep5 hown7 hbA6) (bel_trans (bel_trans HS.out.2.2.1 hb16) hbA6)))
    have hbw6 : W0.heap.size ≤ w6.heap.size := Nat.le_trans hbw hb16.size
    clear hown6 hgrow6 hown7 hb16 hbA6
    go_wp2_with (at_builtin; refine wpList_append_own _ rfl _ _ 47 rfl W0.heap.size 30 i1 (.agg #[.slice none 0 0, .int .i64 0]) 2 32 Tryz.underlying47 hi1 hy0 hy1 hy2 rfl (by decide) _ _ _ rfl HPT.out.1.own ⟨w6.heap.size, 0, none⟩ 1 1 [.slice (some ⟨gq, 0, none⟩) nodes.length cq, .int .i64 v] rfl rfl (cells_new2v _ _ _ _) (by simp [Value.oneCell']) ?c3 ?c4 ?c5 ?_)
    case c3 => unfold maxLen; omega
    case c4 => omega
    case c5 => simp; omega
    intro v9 w9 hown9 hgrow9 _
    have hsn := HPT.out.1.snoc (q := ⟨.slice (some ⟨gq, 0, none⟩) nodes.length cq, nodes, v⟩) hgrow9 hown9 ⟨own_low5 HPT.out.2.1 hbw, h0⟩ (fun p hp e => by
      obtain ⟨k, hk, h1, h2⟩ := (HS.out.2.1.row p hp).blk
      rw [hk] at e
      simp [Value.ownBlock] at e
      omega)
    have hch := (ChaT.of_below (A := AP) (base := W0.heap.size) HPT.out.2.2).trans (ChaT.of_grown (A := AP) hgrow9 HPT.out.1.own rfl)
    have HF := Lib.hid (And.intro hsn hch)
    clear hsn hch hown9 hgrow9
    go_wp2
    go_ret
    exact ⟨_, _, rfl, HF.out.1, by rw [HPW.out, List.map_append]; rfl, HF.out.2⟩
  · have d1 : decide (lst nodes = tgt) = false := by simpa using he
    have d2 : (lst nodes == tgt) = false := by simpa using he
    have d3 : (lst nodes != tgt) = true := by simpa using he
    have hpw : pw m es tgt (f + 1) nodes v (qs.map PP.p) = es.foldl (pwS m nodes v (pw m es tgt f)) (qs.map PP.p) := by simp only [pw]; rw [if_neg he]
    have HPW := Lib.hid hpw
    have HG := Lib.hid hg
    have HGO := Lib.hid hgo
    clear he hpw hg hgo
    go_upto_region 4 with fail
    generalize (w.alloc (.cells #[.int .i64 n, .slice ad es.length cap] 35)) = w1 at HX HS hl1 hgn1 ⊢
    clear hl1
    have HI : Hid (Pths w1 W0.heap.size (.slice fa qs.length fc) qs ∧ qs.map PP.p = pwP m es nodes v (pw m es tgt f) (qs.map PP.p) 0 ∧ ChaT AP W0.heap.size w1 w1) := Lib.hid ⟨HS.out.2.1, rfl, ChaT.refl _ _ _⟩
    go_wp2_with fail
    go_loopw [14, 5] (fun c o wr => ∃ (k : Nat) (qs' : List PP), k ≤ es.length ∧ c = .int .i64 k ∧ Hid (Pths wr W0.heap.size o qs' ∧ qs'.map PP.p = pwP m es nodes v (pw m es tgt f) (qs.map PP.p) k ∧ ChaT AP W0.heap.size w1 wr)) (fun c _ _ => es.length - (intOf c).toNat)
    case atStart => exact ⟨0, qs, Nat.zero_le _, rfl, HI⟩
    case round =>
      obtain ⟨k, qs', hk, rfl, HR⟩ := hrel
      have hbx := HR.out.2.2.box HX.out (.inl (by unfold AP; decide))
      have HBX := Lib.hid hbx
      have x0 : wr.cell? ⟨w.heap.size, 0, none⟩ = some (.int .i64 n) := by simpa using hbx.cell 0
      have x1 : wr.cell? ⟨w.heap.size, 1, none⟩ = some (.slice ad es.length cap) := by simpa using hbx.cell 1
      have hbxl := hbx.lt
      have HWr := Lib.hid (HR.out.2.2.bel HS.out.2.2.2.size (Nat.le_refl _) HS.out.2.2.2)
      obtain ⟨oa, oc, hov⟩ := own_slice HR.out.1.own
      subst hov
      have hlen' : qs'.length = (pwP m es nodes v (pw m es tgt f) (qs.map PP.p) k).length := by rw [← HR.out.2.1, List.length_map]
      have hl401 := pwP_len (m := m) (v := v) (es := es) (tgt := tgt) (f := f) (fs := es) (nodes := nodes) (out := qs.map PP.p) (k := k) (by rw [List.length_map]; exact hq)
      have hq401 : qs'.length ≤ 401 := by omega
      clear hbx hlen' hl401
      by_cases hlt : k < es.length
      · have hlt' : (k : Int) < es.length := by omega
        by_cases hcnt : qs'.length ≤ 400
        · have hcnt' : (qs'.length : Int) ≤ 400 := by omega
          rcases HRZ.out with hez | ⟨b, off, hea, hbb, hc⟩
          · rw [hez] at hlt; simp at hlt
          subst hea
          obtain ⟨x, y, z, hx⟩ : ∃ x y z, (x, y, z) = es.getD k (0, 0, 0) := ⟨_, _, _, rfl⟩
          have h1 := hc k hlt
          have hef := pwG_edge HG.out (e := es.getD k (0, 0, 0)) (by simp [List.getD, hlt])
          rw [← hx] at h1 hef
          simp only at h1 hef
          obtain ⟨h1a, h1b, h1c⟩ := h1
          have e0 := (HWr.out.cell (p := ⟨b, _, none⟩) hbb).trans h1a
          have e1 := (HWr.out.cell (p := ⟨b, _, none⟩) hbb).trans h1b
          have e2 := (HWr.out.cell (p := ⟨b, _, none⟩) hbb).trans h1c
          have hstep := pwP_step (m := m) (v := v) (es := es) (nodes := nodes) (rec := pw m es tgt f) (out := qs.map PP.p) hlt
          rw [← hx] at hstep
          have HX2 := Lib.hid hx
          have HSTEP := Lib.hid hstep
          obtain ⟨hyr, hzw⟩ := hef
          have HYR := Lib.hid hyr
          have HZW := Lib.hid hzw
          clear hc h1a h1b h1c hx hstep hyr hzw
          have hb0 : Below wr.heap.size wr (wr.alloc (.cells #[.int .i64 x, .int .i64 y, .int .i64 z] 67)) := (Below.refl _ _).alloc (Nat.le_refl _) _
          have HEB := Lib.hid (Box.new wr 67 #[.int .i64 x, .int .i64 y, .int .i64 z])
          have HB0 := Lib.hid hb0
          clear hb0
          obtain ⟨wo, hwo⟩ : ∃ wo, wo = wr := ⟨_, rfl⟩
          by_cases hxl : x = lst nodes
          · have g1 : (x != lst nodes) = false := by simpa using hxl
            have g2 : (x == lst nodes) = true := by simpa using hxl
            have g3 : decide (x = lst nodes) = true := by simpa using hxl
            have HXL := Lib.hid hxl
            clear hxl
            have hno := HR.out.2.2.ownB HS.out.1 (by unfold AP; decide)
            have HNO := Lib.hid hno
            have hl5 := fun w' (h : Below wr.heap.size wr w') => l5In nodes y (.slice (some ⟨gn, 0, none⟩) (K + 1) cn) w' (own_row (own_keep5 HNO.out h)) (by omega)
            clear hno
            by_cases hin : inL nodes y = true
            · rw [hin] at hl5
              have HL5 := Lib.hid hl5
              have HIN := Lib.hid hin
              clear hl5 hin
              go_wp2_with (go_at_call 55; (with_reducible refine (HL5.out _ HB0.out).mono ?_); rintro e w4 ⟨rfl, hb4⟩)
              have HN : Hid (Pths w4 W0.heap.size (.slice oa qs'.length oc) qs' ∧ qs'.map PP.p = pwP m es nodes v (pw m es tgt f) (qs.map PP.p) (k + 1) ∧ ChaT AP W0.heap.size w1 w4) := Lib.hid ⟨HR.out.1.keep (bel_trans HB0.out hb4), by rw [HSTEP.out, pwS_not]; exact HR.out.2.1; (have h := HIN.out; unfold inL at h; unfold pwG; rw [h]; simp), HR.out.2.2.trans (ChaT.of_below (bel_trans HB0.out hb4))⟩
              clear hb4
              go_roundw
              case rel => first | exact ⟨k + 1, qs', by omega, by go_num, HN⟩ | ((repeat apply Exists.intro); exact ⟨⟨k + 1, qs', by omega, by go_num, HN⟩, rfl⟩)
              case measure => simp [intOf]; omega
            · have hin2 : inL nodes y = false := by simpa using hin
              rw [hin2] at hl5
              have HL5 := Lib.hid hl5
              have HIN := Lib.hid hin2
              clear hl5
              go_wp2_with (go_at_call 55; (with_reducible refine (HL5.out _ HB0.out).mono ?_); rintro e w4 ⟨rfl, hb4⟩)
              have hb4' := bel_trans HB0.out hb4
              have HB4 := Lib.hid hb4'
              have HEB4 := Lib.hid (HEB.out.keep hb4)
              have hnw : ∀ W, Below w4.heap.size w4 W → ∀ j u, (nodes.map (Value.int .i64))[j]? = some u → W.cell? ((⟨gn, 0, none⟩ : Addr).add j) = some u := fun W h => (own_keep5 (own_keep5 HNO.out hb4') h).cells (g := gn) rfl
              have hall : ∀ u ∈ nodes.map (Value.int .i64), u.oneCell' = true := by intro u hu; obtain ⟨x, _, rfl⟩ := List.mem_map.1 hu; rfl
              have hlm : (nodes.map (Value.int .i64)).length = (K + 1) * 1 := by rw [List.length_map, HKE.out]; omega
              have HNW := Lib.hid hnw
              have HALL := Lib.hid hall
              have HLM := Lib.hid hlm
              have y1 : w4.cell? ⟨wr.heap.size, 1, none⟩ = some (.int .i64 y) := by simpa using HEB4.out.cell 1
              have hebl := HEB4.out.lt
              obtain ⟨i0, hi, hz0, hz1, hz2⟩ := info_parts info_int2
              clear hnw hall hlm hb4' hb4
              go_region_law (first | (refine step_append_own rfl (.tmp 61) (.tmp 62) 25 rfl w4.heap.size 3 i0 (.int .i64 0) 1 8 Tryz.underlying25 hi hz0 hz1 hz2 rfl (by decide) _ _ _ rfl (own_drew (ownE w4 w4.heap.size (Nat.le_refl _))) ⟨gn, 0, none⟩ (K + 1) cn (nodes.map (Value.int .i64)) rfl HLM.out (HNW.out _ (((Below.refl w4.heap.size w4).alloc (Nat.le_refl _) (.cells #[] 3)).drew)) HALL.out (by unfold maxLen; omega) (by omega) (by simp <;> omega) ?_; intro v6 w6 hown6 hgrow6; have hb6 : Below w4.heap.size w4 w6 := ((((Below.refl w4.heap.size w4).alloc (Nat.le_refl _) (.cells #[] 3)).drew).grown hgrow6 (by simp <;> omega) (fun k9 hk9 => Nat.le_of_eq (Option.some.inj (show some w4.heap.size = some k9 from hk9)))); have hown7 : w6.ownsRow w4.heap.size 3 1 v6 nodes.length (nodes.map (Value.int .i64)) := (by have e : nodes.length = 0 + (K + 1) := (by rw [HKE.out]; omega); rw [e]; simpa using hown6); obtain ⟨gx, cx, rfl, hgx1, hgx2, hgx3⟩ := own_pos hown7 h0; have y6 := (hb6.cell (p := ⟨wr.heap.size, 1, none⟩) hebl).trans y1) | (refine step_append_own rfl (.tmp 61) (.tmp 62) 25 rfl w4.heap.size 3 i0 (.int .i64 0) 1 8 Tryz.underlying25 hi hz0 hz1 hz2 rfl (by decide) _ _ _ rfl (own_drew ((ownE w4 w4.heap.size (Nat.le_refl _)).alloc _)) ⟨gn, 0, none⟩ (K + 1) cn (nodes.map (Value.int .i64)) rfl HLM.out (HNW.out _ ((((Below.refl w4.heap.size w4).alloc (Nat.le_refl _) (.cells #[] 3)).alloc (by simp) (.cells #[.int .i64 y] 3)).drew)) HALL.out (by unfold maxLen; omega) (by omega) (by simp <;> omega) ?_; intro v6 w6 hown6 hgrow6; have hb6 : Below w4.heap.size w4 w6 := (((((Below.refl w4.heap.size w4).alloc (Nat.le_refl _) (.cells #[] 3)).alloc (by simp) (.cells #[.int .i64 y] 3)).drew).grown hgrow6 (by simp <;> omega) (fun k9 hk9 => Nat.le_of_eq (Option.some.inj (show some w4.heap.size = some k9 from hk9)))); have hown7 : w6.ownsRow w4.heap.size 3 1 v6 nodes.length (nodes.map (Value.int .i64)) := (by have e : nodes.length = 0 + (K + 1) := (by rw [HKE.out]; omega); rw [e]; simpa using hown6); obtain ⟨gx, cx, rfl, hgx1, hgx2, hgx3⟩ := own_pos hown7 h0; have y6 := (hb6.cell (p := ⟨wr.heap.size, 1, none⟩) hebl).trans y1; have hy6 : w6.cell? ⟨w4.heap.size + 1, 0, none⟩ = some (.int .i64 y) := ((show World.grownBy _ w6 (some w4.heap.size) from hgrow6).cell (by go_simp) (by simp))) | (refine step_append_own rfl (.tmp 61) (.tmp 62) 25 rfl w4.heap.size 3 i0 (.int .i64 0) 1 8 Tryz.underlying25 hi hz0 hz1 hz2 rfl (by decide) _ _ _ rfl (own_drew (ownE1 w4 _ w4.heap.size (Nat.le_refl _))) ⟨gn, 0, none⟩ (K + 1) cn (nodes.map (Value.int .i64)) rfl HLM.out (HNW.out _ ((((Below.refl w4.heap.size w4).alloc (Nat.le_refl _) (.cells #[.int .i64 y] 3)).alloc (by simp) (.cells #[] 3)).drew)) HALL.out (by unfold maxLen; omega) (by omega) (by simp <;> omega) ?_; intro v6 w6 hown6 hgrow6; have hb6 : Below w4.heap.size w4 w6 := (((((Below.refl w4.heap.size w4).alloc (Nat.le_refl _) (.cells #[.int .i64 y] 3)).alloc (by simp) (.cells #[] 3)).drew).grown hgrow6 (by simp <;> omega) (fun k9 hk9 => by have h9 := Option.some.inj (show some (w4.heap.size + 1) = some k9 from hk9); omega)); have hown7 : w6.ownsRow w4.heap.size 3 1 v6 nodes.length (nodes.map (Value.int .i64)) := (by have e : nodes.length = 0 + (K + 1) := (by rw [HKE.out]; omega); rw [e]; simpa using hown6); obtain ⟨gx, cx, rfl, hgx1, hgx2, hgx3⟩ := own_pos hown7 h0; have y6 := (hb6.cell (p := ⟨wr.heap.size, 1, none⟩) hebl).trans y1; have hy6 : w6.cell? ⟨w4.heap.size, 0, none⟩ = some (.int .i64 y) := ((show World.grownBy _ w6 (some (w4.heap.size + 1)) from hgrow6).cell (by go_simp) (by simp))) | (refine step_append_own rfl (.tmp 63) (.tmp 66) 25 rfl w4.heap.size 3 i0 (.int .i64 0) 1 8 Tryz.underlying25 hi hz0 hz1 hz2 rfl (by decide) _ _ _ rfl (hown7.alloc _) ⟨w6.heap.size, 0, none⟩ 1 1 [.int .i64 y] rfl rfl (cells_new1n _ _ _) (by simp [Value.oneCell']) (by unfold maxLen; omega) (by omega) (by have := hb6.size; simp; try omega) ?_; intro v7 w7 hown8 hgrow8; have hb7 : Below w4.heap.size w4 w7 := ((hb6.alloc hb6.size (.cells #[.int .i64 y] 3)).grown hgrow8 (by have := hb6.size; simp; try omega) (fun k hk => (hown7.lt k hk).1))) | (refine step_append_own rfl (.tmp 63) (.tmp 66) 25 rfl w4.heap.size 3 i0 (.int .i64 0) 1 8 Tryz.underlying25 hi hz0 hz1 hz2 rfl (by decide) _ _ _ rfl hown7 ⟨w4.heap.size + 1, 0, none⟩ 1 1 [.int .i64 y] rfl rfl (one_at hy6) (by simp [Value.oneCell']) (by unfold maxLen; omega) (by omega) (by have := hb6.size; simp; try omega) ?_; intro v7 w7 hown8 hgrow8; have hb7 : Below w4.heap.size w4 w7 := (hb6.grown hgrow8 (by have := hb6.size; simp; try omega) (fun k hk => (hown7.lt k hk).1))) | (refine step_append_own rfl (.tmp 63) (.tmp 66) 25 rfl w4.heap.size 3 i0 (.int .i64 0) 1 8 Tryz.underlying25 hi hz0 hz1 hz2 rfl (by decide) _ _ _ rfl hown7 ⟨w4.heap.size, 0, none⟩ 1 1 [.int .i64 y] rfl rfl (one_at hy6) (by simp [Value.oneCell']) (by unfold maxLen; omega) (by omega) (by have := hb6.size; simp; try omega) ?_; intro v7 w7 hown8 hgrow8; have hb7 : Below w4.heap.size w4 w7 := (hb6.grown hgrow8 (by have := hb6.size; simp; try omega) (fun k hk => (hown7.lt k hk).1))))
              all_goals
                have hown9 : w7.ownsRow 0 3 1 v7 (nodes ++ [y]).length ((nodes ++ [y]).map (Value.int .i64)) := by
                  have h9 := own_low5 hown8 (Nat.zero_le _)
                  rw [List.length_append, List.map_append]
                  exact h9
                have hbw7 := bel_trans HB4.out hb7
                have hgb := HBX.out.keep hbw7
                have heb := HEB4.out.keep hb7
                have hpt := HR.out.1.keep hbw7
                have hcw := HR.out.2.2.trans (ChaT.of_below (A := AP) (base := W0.heap.size) hbw7)
                have hw07 := bel_trans HWr.out hbw7
                have H7 := Lib.hid (And.intro hown9 (And.intro hgb (And.intro heb (And.intro hpt (And.intro hcw hw07)))))
                clear hown9 hbw7 hgb heb hpt hcw hw07 hown8 hgrow8 hb7 hown7 hb6 hown6 hgrow6 y6 hgx1 hgx2 hgx3 y1 hebl
                have hold : ∀ w' : World, Below w7.heap.size w7 w' → (w'.cell? ⟨w.heap.size, 0, none⟩ = some (.int .i64 n) ∧ w'.cell? ⟨w.heap.size, 1, none⟩ = some (.slice (some ⟨b, off, none⟩) es.length cap) ∧ w'.cell? ⟨wr.heap.size, 2, none⟩ = some (.int .i64 z)) := fun w' h => ⟨by simpa using (H7.out.2.1.keep h).cell 0, by simpa using (H7.out.2.1.keep h).cell 1, by simpa using (H7.out.2.2.1.keep h).cell 2⟩
                have hold2 : ∀ (w8 w9 : World), Below w7.heap.size w7 w8 → ChaT AP W0.heap.size w8 w9 → (w9.cell? ⟨w.heap.size, 0, none⟩ = some (.int .i64 n) ∧ w9.cell? ⟨w.heap.size, 1, none⟩ = some (.slice (some ⟨b, off, none⟩) es.length cap) ∧ w9.cell? ⟨wr.heap.size, 2, none⟩ = some (.int .i64 z)) := fun w8 w9 h k => ⟨by simpa using (k.box (H7.out.2.1.keep h) (.inl (by unfold AP; decide))).cell 0, by simpa using (k.box (H7.out.2.1.keep h) (.inl (by unfold AP; decide))).cell 1, by simpa using (k.box (H7.out.2.2.1.keep h) (.inl (by unfold AP; decide))).cell 2⟩
                have hynot : y ∉ nodes := by have h := hin2; unfold inL at h; simpa using h
                have hN2 : ∀ q ∈ nodes ++ [y], 0 ≤ q ∧ q < n := by
                  intro q hq
                  rcases List.mem_append.1 hq with h | h
                  · exact HNN.out q h
                  · simp at h
                    subst h
                    exact HYR.out
                have hval : mIn m (mJoin m v (mEdge m z)) = true := mJoin_in hm hv (mEdge_in hm HZW.out)
                have hwk := fun w' (h : Below w7.heap.size w7 w') => HGO.out (nodes ++ [y]) (mJoin m v (mEdge m z)) qs' v7 (.slice oa qs'.length oc) w' (bel_trans H7.out.2.2.2.2.2 h) (own_keep5 H7.out.1 h) (H7.out.2.2.2.1.keep h) (by simp) hN2 (Nat.lt_of_lt_of_le (pwM_lt HYR.out.1 HYR.out.2 hynot) (by omega)) (by simp; omega) hcnt hval
                have hgo2 : pwS m nodes v (pw m es tgt f) (qs'.map PP.p) (x, y, z) = pw m es tgt f (nodes ++ [y]) (mJoin m v (mEdge m z)) (qs'.map PP.p) := by
                  have hgg : pwG nodes (x, y, z) = true := by unfold pwG; simp [HXL.out, hynot]
                  exact pwS_go (m := m) (v := v) (rec := pw m es tgt f) (out := qs'.map PP.p) (by rw [List.length_map]; exact hcnt) hgg
                have hnx : pwP m es nodes v (pw m es tgt f) (qs.map PP.p) (k + 1) = pw m es tgt f (nodes ++ [y]) (mJoin m v (mEdge m z)) (qs'.map PP.p) := by rw [HSTEP.out, ← HR.out.2.1, hgo2]
                have hce := fun W => sEdge hm z W
                have hcj := fun W => sJoin (bTwo_mk hm hv (mEdge_in hm HZW.out)) W
                generalize pw m es tgt f (nodes ++ [y]) (mJoin m v (mEdge m z)) (qs'.map PP.p) = OUT at hwk hnx
                generalize mJoin m v (mEdge m z) = J at hcj hwk
                generalize mEdge m z = E at hce hcj
                have HWK := Lib.hid hwk
                have HNX := Lib.hid hnx
                have HCE := Lib.hid hce
                have HCJ := Lib.hid hcj
                have HOLD := Lib.hid hold
                have HOLD2 := Lib.hid hold2
                clear hwk hnx hce hcj hold hold2 hval hN2 hynot hgo2
                go_wp2_with fail
                go_region_held3 (fun w' : World => w'.cell? ⟨w.heap.size, 0, none⟩ = some (.int .i64 n) ∧ w'.cell? ⟨w.heap.size, 1, none⟩ = some (.slice (some ⟨b, off, none⟩) es.length cap) ∧ w'.cell? ⟨wr.heap.size, 2, none⟩ = some (.int .i64 z)) (first | with_reducible exact HOLD2.out _ _ ((Below.refl _ _).drew) hch9 | with_reducible exact HOLD.out _ ((Below.refl _ _).drew)) (first | (go_at_call 57; (with_reducible refine (HCE.out _).mono ?_); rintro e w8 ⟨rfl, rfl⟩) | (go_at_call 56; (with_reducible refine (HCJ.out _).mono ?_); rintro e w8 ⟨rfl, rfl⟩) | (go_at_call 44; (with_reducible refine (HWK.out _ ((Below.refl _ _).drew)).mono ?_); rintro e w9 ⟨v9, qs9, rfl, hp9, hmap9, hch9⟩))
                have HN : Hid (Pths w9 W0.heap.size v9 qs9 ∧ qs9.map PP.p = pwP m es nodes v (pw m es tgt f) (qs.map PP.p) (k + 1) ∧ ChaT AP W0.heap.size w1 w9) := Lib.hid ⟨hp9, by rw [HNX.out, hmap9], (H7.out.2.2.2.2.1.trans (ChaT.of_below ((Below.refl _ _).drew))).trans hch9⟩
                clear hp9 hmap9 hch9
                go_wp2
                go_roundw
              all_goals first
                | exact ⟨k + 1, qs9, by omega, by go_num, HN⟩
                | ((repeat apply Exists.intro); exact ⟨⟨k + 1, qs9, by omega, by go_num, HN⟩, rfl⟩)
                | (simp [intOf]; omega)
          · have g1 : (x != lst nodes) = true := by simpa using hxl
            have g2 : (x == lst nodes) = false := by simpa using hxl
            have g3 : decide (x = lst nodes) = false := by simpa using hxl
            have HXL := Lib.hid hxl
            clear hxl
            go_wp2_with fail
            have HN : Hid (Pths (wr.alloc (.cells #[.int .i64 x, .int .i64 y, .int .i64 z] 67)) W0.heap.size (.slice oa qs'.length oc) qs' ∧ qs'.map PP.p = pwP m es nodes v (pw m es tgt f) (qs.map PP.p) (k + 1) ∧ ChaT AP W0.heap.size w1 (wr.alloc (.cells #[.int .i64 x, .int .i64 y, .int .i64 z] 67))) := Lib.hid ⟨HR.out.1.keep HB0.out, by rw [HSTEP.out, pwS_not]; exact HR.out.2.1; (unfold pwG; rw [decide_eq_false HXL.out]; rfl), HR.out.2.2.trans (ChaT.of_below HB0.out)⟩
            go_roundw
            case rel => first | exact ⟨k + 1, qs', by omega, by go_num, HN⟩ | ((repeat apply Exists.intro); exact ⟨⟨k + 1, qs', by omega, by go_num, HN⟩, rfl⟩)
            case measure => simp [intOf]; omega
        · have hcnt' : ¬ ((qs'.length : Int) ≤ 400) := by omega
          go_wp2
          go_ret
          have hfin : pw m es tgt (f + 1) nodes v (qs.map PP.p) = qs'.map PP.p := by
            rw [HPW.out, HR.out.2.1]
            exact pwP_full (by rw [← HR.out.2.1, List.length_map]; exact hcnt)
          first | exact ⟨_, qs', rfl, HR.out.1, hfin.symm, (ChaT.of_below HS.out.2.2.1).trans HR.out.2.2⟩ | exact ⟨_, rfl, qs', HR.out.1, hfin.symm, (ChaT.of_below HS.out.2.2.1).trans HR.out.2.2⟩
      · have hke : k = es.length := by omega
        have hkk : ¬ ((k : Int) < es.length) := by omega
        have HKK := Lib.hid hke
        clear hke
        go_wp2
        go_ret
        have hfin : pw m es tgt (f + 1) nodes v (qs.map PP.p) = qs'.map PP.p := by rw [HPW.out, HR.out.2.1, pwP_all (by have := HKK.out; omega)]
        first | exact ⟨_, qs', rfl, HR.out.1, hfin.symm, (ChaT.of_below HS.out.2.2.1).trans HR.out.2.2⟩ | exact ⟨_, rfl, qs', HR.out.1, hfin.symm, (ChaT.of_below HS.out.2.2.1).trans HR.out.2.2⟩
end Go.Proofs.YtneapbggnnndhaaGreat
