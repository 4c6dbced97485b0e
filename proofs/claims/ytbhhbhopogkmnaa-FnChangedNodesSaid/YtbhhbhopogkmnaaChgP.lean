/- ApplyChanges and ChangesValid, in the program. -/
import Derived.Test.YtbhhbhopogkmnaaChgS
namespace Go.Proofs.Ytbhhbhopogkmnaa
open Go.RowKit Go.BigFrame Go.Deep
set_option linter.unusedVariables false
set_option linter.unusedSimpArgs false

theorem apB_st {n : Int} {es : List Ed} {cs : List Ch} (h : stB cs = false) : apB n es cs = false := by
  unfold stB at h
  cases h1 : decide (cs.length ≤ 60)
  · exact apB_long (by simpa using h1)
  · rw [h1, Bool.true_and] at h
    have : ∃ k, k < cs.length ∧ chOk (cs.getD k chZ) = false := by
      have h2 : ¬ ∀ x ∈ cs, chOk x = true := by
        intro ha
        rw [List.all_eq_true.2 ha] at h; cases h
      apply Classical.byContradiction
      intro hn
      apply h2
      intro x hx
      obtain ⟨i, hi, rfl⟩ := List.getElem_of_mem hx
      cases hc : chOk cs[i]
      · exact absurd ⟨i, hi, by simpa [List.getD, hi] using hc⟩ hn
      · rfl
    obtain ⟨k, hk, hc⟩ := this
    exact apB_badAt hk hc
/-- Where the changes have been made so far: a graph's box and its row. -/
structure ApS (W w8 wr : World) (B : Nat) (n : Int) (va : Option Addr) (vc lo hi : Nat) (xs : List Ed) : Prop where
  chg : Chg B (B + 1) w8 wr
  box : BoxG wr B 34 n (.slice va xs.length vc)
  row : InR true wr lo hi (.slice va xs.length vc) xs.length 3 (cellE xs)
  ok : okS (.slice va xs.length vc)
  away : hi ≤ B ∨ B + 1 ≤ lo
  low : W.heap.size ≤ lo
  high : hi ≤ wr.heap.size
theorem ApS.next {W w8 wr w2 : World} {B : Nat} {n : Int} {va va2 : Option Addr} {vc vc2 lo hi : Nat} {xs ys : List Ed} (h : ApS W w8 wr B n va vc lo hi xs) (hW : W.heap.size ≤ w8.heap.size) (hb : Below wr.heap.size wr w2) (ho : OwnE wr w2 (.slice va2 ys.length vc2) ys) (hk : okS (.slice va2 ys.length vc2)) :
    ApS W w8 ((w2.setCell ⟨B, 0, none⟩ (.int .i64 n)).setCell ⟨B, 1, none⟩ (.slice va2 ys.length vc2)) B n va2 vc2 wr.heap.size w2.heap.size ys := by
  have hlt := h.box.cells.2.2.2.2
  have hch : Chg B (B + 1) w2 ((w2.setCell ⟨B, 0, none⟩ (.int .i64 n)).setCell ⟨B, 1, none⟩ (.slice va2 ys.length vc2)) := ((Chg.refl _ _ _).setCell (by simp) (by simp) _).setCell (by simp) (by simp) _
  have h1 := h.chg.size
  exact ⟨(h.chg.trans (Chg.of_below hb)).trans hch, ((h.box.keep hb).set0 n).set _, (InR.chg ho hch (.inl (by omega))).wider (Nat.le_refl _) (Nat.le_refl _) (hch.size), hk, .inr (by omega), by omega, hch.size⟩

set_option maxRecDepth 20000 in
set_option maxHeartbeats 4000000 in
theorem applyChanges (n : Int) (es : List Ed) (cs : List Ch) (s t : Value) (w : World) (hs : RowE w s es) (ht : RowCh w t cs) (hok : okS s) (hl : es.length ≤ 1048576) (hl2 : cs.length ≤ 1048576) :
    Calls Try.prog 16 #[.agg #[.int .i64 n, s], t] w fun e w' => ∃ v, e = .returned (.tuple #[.agg #[.int .i64 (apN n es cs), v], .bool (apB n es cs)]) ∧ OwnE w w' v (apR n es cs) ∧ okS v ∧ Below w.heap.size w w' := by
  obtain ⟨ad, cap, rfl, hz0⟩ := id hs
  obtain ⟨ad2, cap2, rfl⟩ := ht.slice
  clear hz0
  obtain ⟨W, hW⟩ : ∃ W, W = ((w.alloc (.cells #[.int .i64 n, .slice ad es.length cap] 34)).alloc (.cells #[.int .i64 0, .slice none 0 0] 34)) := ⟨_, rfl⟩
  have hbW : Below w.heap.size w W := by rw [hW]; exact ((Below.refl _ _).alloc (Nat.le_refl _) _).alloc (by simp) _
  have hsz : W.heap.size = w.heap.size + 2 := by rw [hW]; simp
  have hst := stepsOf cs _ W (ht.keep hbW) hl2
  have hgv := fun w' (h : Below W.heap.size W w') => graphValid n es _ w' (hs.keep (bel_trans hbW h)) (by omega)
  have hcp := fun w' (h : Below W.heap.size W w') => copyOfGraph n es _ w' (hs.keep (bel_trans hbW h)) hok hl
  have hres : ∀ w', Below W.heap.size W w' → (w'.cell? ⟨w.heap.size, 0, none⟩ = some (.int .i64 n) ∧ w'.cell? ⟨w.heap.size, 1, none⟩ = some (.slice ad es.length cap)) ∧ w'.cell? ⟨w.heap.size + 1, 0, none⟩ = some (.int .i64 0) ∧ w'.cell? ⟨w.heap.size + 1, 1, none⟩ = some (.slice none 0 0) ∧ w'.frozen? ⟨w.heap.size + 1, 0, none⟩ = false ∧ w'.frozen? ⟨w.heap.size + 1, 1, none⟩ = false := fun w' h =>
    ⟨⟨(h.cell (p := ⟨w.heap.size, 0, none⟩) (by simp only; omega)).trans (by rw [hW]; go_simp), (h.cell (p := ⟨w.heap.size, 1, none⟩) (by simp only; omega)).trans (by rw [hW]; go_simp)⟩, (h.cell (p := ⟨w.heap.size + 1, 0, none⟩) (by simp only; omega)).trans (by rw [hW]; go_simp), (h.cell (p := ⟨w.heap.size + 1, 1, none⟩) (by simp only; omega)).trans (by rw [hW]; go_simp), (h.frozen (p := ⟨w.heap.size + 1, 0, none⟩) (by simp only; omega)).trans (by rw [hW]; go_simp), (h.frozen (p := ⟨w.heap.size + 1, 1, none⟩) (by simp only; omega)).trans (by rw [hW]; go_simp)⟩
  have hfin : ∀ (w' : World) (x y : Value), Chg (w.heap.size + 1) (w.heap.size + 2) w' ((w'.setCell ⟨w.heap.size + 1, 0, none⟩ x).setCell ⟨w.heap.size + 1, 1, none⟩ y) := fun w' x y => ((Chg.refl _ _ _).setCell (by simp only; omega) (by simp only; omega) _).setCell (by simp only; omega) (by simp only; omega) _
  have HST := Lib.hid hst
  have HCP := Lib.hid hcp
  have HRES := Lib.hid hres
  have HBW := Lib.hid hbW
  have HSZ := Lib.hid hsz
  have HFIN := Lib.hid hfin
  clear hst hcp hres hbW hsz hs ht hok hfin
  cases hB : stB cs
  · rw [apN_no (apB_st hB), apB_st hB, apR_no (apB_st hB)]
    rw [hB] at HST
    have HWE := Lib.hid hW
    go_enter Try.func16, Try.ntmps16
    go_wp2_with fail
    rw [← hW]
    clear hW
    go_wp2_with (go_at_call 44; refine HST.out.mono ?_; rintro e w1 ⟨v1, rfl, -, hb1⟩; obtain ⟨-, k0, k1, l0, l1⟩ := HRES.out _ hb1)
    try simp only [Exit.inBlock, Exit.then]
    refine bodyPost_ret (v := .tuple #[.agg #[.int .i64 0, .slice none 0 0], .bool false]) ?_ rfl ?_
    · rw [results_cell_tmp rfl]
      go_simp
    have h1 := HSZ.out
    exact ⟨_, rfl, ⟨none, 0, rfl, .inl rfl⟩, okS_nil, bel_chg (bel_trans HBW.out hb1) (HFIN.out _ _ _) (by omega)⟩
  rw [hB] at HST
  cases hg : gVal n es
  · rw [apN_no (apB_bad hg), apB_bad hg, apR_no (apB_bad hg)]
    rw [hg] at hgv
    have HGV := Lib.hid hgv
    have HWE := Lib.hid hW
    clear hgv hg
    go_enter Try.func16, Try.ntmps16
    go_wp2_with fail
    rw [← hW]
    clear hW
    go_wp2_with (first | (go_at_call 44; refine HST.out.mono ?_; rintro e w1 ⟨v1, rfl, -, hb1⟩; obtain ⟨⟨j0, j1⟩, -⟩ := HRES.out _ hb1) | (go_at_call 45; refine (HGV.out _ hb1).mono ?_; rintro e w2 ⟨rfl, hb2⟩; obtain ⟨-, k0, k1, l0, l1⟩ := HRES.out _ (bel_trans hb1 hb2)))
    try simp only [Exit.inBlock, Exit.then]
    refine bodyPost_ret (v := .tuple #[.agg #[.int .i64 0, .slice none 0 0], .bool false]) ?_ rfl ?_
    · rw [results_cell_tmp rfl]
      go_simp
    have h1 := HSZ.out
    exact ⟨_, rfl, ⟨none, 0, rfl, .inl rfl⟩, okS_nil, bel_chg (bel_trans HBW.out (bel_trans hb1 hb2)) (HFIN.out _ _ _) (by omega)⟩
  rw [hg] at hgv
  have HGV := Lib.hid hgv
  have HG := Lib.hid hg
  have HB := Lib.hid hB
  have h60 : cs.length ≤ 60 := by unfold stB at hB; simp only [Bool.and_eq_true, decide_eq_true_eq] at hB; exact hB.1
  have hall : ∀ i, i < cs.length → chOk (cs.getD i chZ) = true := by
    intro i hi
    unfold stB at hB
    rw [Bool.and_eq_true, List.all_eq_true] at hB
    have := hB.2 _ (List.getElem_mem hi)
    simpa [List.getD, hi] using this
  have HALL := Lib.hid hall
  have HWE := Lib.hid hW
  obtain ⟨B, hBB⟩ : ∃ B, B = apB n es cs := ⟨_, rfl⟩
  obtain ⟨N, hNN⟩ : ∃ N, N = apN n es cs := ⟨_, rfl⟩
  obtain ⟨L, hLL⟩ : ∃ L, L = apR n es cs := ⟨_, rfl⟩
  rw [← hBB, ← hNN, ← hLL]
  have HNO : Hid (apB n es cs = false → B = false ∧ N = 0 ∧ L = []) := Lib.hid (fun h => ⟨by rw [hBB]; exact h, by rw [hNN]; exact apN_no h, by rw [hLL]; exact apR_no h⟩)
  have HYES : Hid (∀ xs, apT n es cs cs.length = some xs → B = true ∧ N = n ∧ L = xs) := Lib.hid (fun xs h => by
    have h1 := apB_some h60 hg h
    exact ⟨by rw [hBB]; exact h1, by rw [hNN]; exact apN_yes h1, by rw [hLL]; exact apR_yes h1 h⟩)
  clear hgv hg hB hall hBB hNN hLL
  go_enter Try.func16, Try.ntmps16
  go_wp2_with fail
  rw [← hW]
  clear hW
  go_wp2_with (first | (go_at_call 44; refine HST.out.mono ?_; rintro e w1 ⟨v1, rfl, hsteps, hb1⟩; obtain ⟨⟨j0, j1⟩, -⟩ := HRES.out _ hb1; obtain ⟨g1, c1, rfl, hg1, hg2, hcells⟩ := (hsteps trivial).at; have HCELL := Lib.hid (And.intro hg1 (And.intro hg2 hcells)); clear hsteps hg1 hg2 hcells) | (go_at_call 45; refine (HGV.out _ hb1).mono ?_; rintro e w2 ⟨rfl, hb2⟩; obtain ⟨⟨j20, j21⟩, -⟩ := HRES.out _ (bel_trans hb1 hb2)) | (go_at_call 46; refine (HCP.out _ (bel_trans hb1 hb2)).mono ?_; rintro e w3 ⟨v3, rfl, hown3, hok3, hb3⟩; obtain ⟨va3, vc3, hva, hz9⟩ := id hown3; subst hva; have HW3 := Lib.hid (And.intro hown3 (And.intro hok3 (And.intro (bel_trans hb1 hb2) hb3))); have HLT3 := Lib.hid hb3.size; clear hown3 hz9 hok3))
  obtain ⟨w8, hw8⟩ : ∃ w8, w8 = (w3.alloc (.cells #[.int .i64 n, .slice va3 es.length vc3] 34)) := ⟨_, rfl⟩
  have hb38 : Below w3.heap.size w3 w8 := by rw [hw8]; exact (Below.refl _ _).alloc (Nat.le_refl _) _
  have hb8 : Below W.heap.size W w8 := bel_trans (bel_trans HW3.out.2.2.1 HW3.out.2.2.2) hb38
  have hap0 : ApS W w8 w8 w3.heap.size n va3 vc3 w2.heap.size w3.heap.size es := by
    refine ⟨Chg.refl _ _ _, by rw [hw8]; exact BoxG.new w3 _ n _, InR.keep HW3.out.1 hb38, HW3.out.2.1, .inl (Nat.le_refl _), HW3.out.2.2.1.size, hb38.size⟩
  have hs8 : w3.heap.size < w8.heap.size := by rw [hw8]; simp
  have hcell8 : g1 < w3.heap.size ∧ ∀ i, i < cs.length → w8.cell? ⟨g1, i, none⟩ = some (stepV (cs.getD i chZ)) := by
    have h1 := hb2.size
    have h2 := HLT3.out
    refine ⟨by have := HCELL.out.2.1; omega, fun i hi => ?_⟩
    rw [((hb2.trans (HW3.out.2.2.2.mono h1)).trans (hb38.mono (by omega))).cell (p := ⟨g1, i, none⟩) HCELL.out.2.1]
    exact HCELL.out.2.2 i hi
  have HAP0 := Lib.hid hap0
  have HC8 := Lib.hid hcell8
  have HB8 := Lib.hid hb8
  have HS8 := Lib.hid hs8
  clear hb38 hb8 hap0 hcell8 hs8 hb1 hb2 hb3
  go_wp2
  try rw [← hw8]
  clear hw8
  go_loopw [28] (fun c wr => ∃ (k : Nat) (xs : List Ed) (va : Option Addr) (vc lo hi : Nat), k ≤ cs.length ∧ c = .int .i64 k ∧ apT n es cs k = some xs ∧ Hid (ApS W w8 wr w3.heap.size n va vc lo hi xs)) (fun c _ => cs.length - (intOf c).toNat)
  case atStart => exact ⟨0, es, va3, vc3, _, _, Nat.zero_le _, rfl, apT_zero n es cs, HAP0⟩
  case round =>
    obtain ⟨k, xs, va, vc, lo, hi, hk, rfl, hap, HX⟩ := hrel
    have HAP := Lib.hid hap
    clear hap
    have hbr : Below W.heap.size W wr := bel_chg HB8.out HX.out.chg (by have := HAP0.out.low; have := HAP0.out.away; have := HLT3.out; omega)
    have HBR := Lib.hid hbr
    obtain ⟨-, k0, k1, l0, l1⟩ := HRES.out _ hbr
    obtain ⟨x0, x1, f0, f1, hlt8⟩ := HX.out.box.cells
    have hgw : gVal n xs = true := apT_val HG.out cs _ _ HAP.out
    have hxl : xs.length ≤ 40 := (gVal_iff.1 hgw).1.2.2
    clear hbr hgw
    by_cases hlt : k < cs.length
    · have hlt' : (k : Int) < cs.length := by omega
      obtain ⟨c, hc⟩ : ∃ c, c = cs.getD k chZ := ⟨_, rfl⟩
      have hcok := HALL.out k hlt
      rw [← hc] at hcok
      obtain ⟨T, rv, F, D⟩ := stepD hcok
      have hval := D.val
      have hn1 := D.run
      have hn2 := D.ahead
      have hn3 := D.enter
      have c1 : wr.cell? ⟨g1, k, none⟩ = some (.iface T rv) := by
        rw [HX.out.chg.cell (p := ⟨g1, k, none⟩) (by have := HS8.out; have := HC8.out.1; simp only; omega) (.inl HC8.out.1), HC8.out.2 k hlt, ← hc, hval]
      have hg1 : g1 < wr.heap.size := by have := HC8.out.1; have := HS8.out; have := HX.out.chg.size; omega
      have hcall := D.call n xs _ wr HX.out.row.edges HX.out.ok (by omega)
      have hnx := apT_succ (n := n) (es := es) hlt
      rw [HAP.out, ← hc, Option.bind_some, apG_is] at hnx
      have HNX := Lib.hid hnx
      unfold aN at hcall
      clear hval D hcok hnx hc
      cases haB : aB n xs c
      · rw [haB] at hcall HNX
        rw [if_neg (by decide)] at hcall HNX
        have HCALL := Lib.hid hcall
        obtain ⟨rfl, rfl, rfl⟩ := HNO.out (apB_none (k := k + 1) (by omega) HNX.out)
        have hne1 : ¬ (w3.heap.size = w.heap.size + 1) := by
          have e1 := HSZ.out
          have e2 := HAP0.out.low
          have e3 := HAP0.out.away
          have e4 := HLT3.out
          omega
        have hne2 : ¬ (w.heap.size + 1 = w3.heap.size) := fun h => hne1 h.symm
        clear hcall haB
        go_wp2_with ((with_reducible refine (HCALL.out).mono ?_); rintro e w9 ⟨v9, rfl, hown9, hok9, hb9⟩; obtain ⟨va9, vc9, hva, hz9⟩ := id hown9; subst hva; obtain ⟨-, p0, p1, q0, q1⟩ := HRES.out _ (bel_trans HBR.out hb9); obtain ⟨y0, y1, g0, g1', hlt9⟩ := (HX.out.box.keep hb9).cells; clear hz9 hown9 hok9)
        try simp only [Exit.inBlock, Exit.then]
        refine bodyPost_ret (v := .tuple #[.agg #[.int .i64 0, .slice none 0 0], .bool false]) ?_ rfl ?_
        · rw [results_cell_tmp rfl]
          go_simp
        have e1 := HSZ.out
        have e2 := HAP0.out.low
        have e3 := HAP0.out.away
        have e4 := HLT3.out
        have hch : Chg (w3.heap.size) (w3.heap.size + 1) w9 ((w9.setCell ⟨w3.heap.size, 0, none⟩ (.int .i64 0)).setCell ⟨w3.heap.size, 1, none⟩ (.slice va9 (aL n xs c).length vc9)) := ((Chg.refl _ _ _).setCell (by simp) (by simp) _).setCell (by simp) (by simp) _
        exact ⟨_, rfl, ⟨none, 0, rfl, .inl rfl⟩, okS_nil, bel_chg (bel_chg (bel_trans HBW.out (bel_trans HBR.out hb9)) hch (by omega)) (HFIN.out _ _ _) (by omega)⟩
      · rw [haB] at hcall HNX
        rw [if_pos rfl] at hcall HNX
        have HCALL := Lib.hid hcall
        clear hcall haB
        go_wp2_with ((with_reducible refine (HCALL.out).mono ?_); rintro e w9 ⟨v9, rfl, hown9, hok9, hb9⟩; obtain ⟨va9, vc9, hva, hz9⟩ := id hown9; subst hva; obtain ⟨y0, y1, g0, g1', hlt9⟩ := (HX.out.box.keep hb9).cells; have HN := Lib.hid (HX.out.next (by have := HAP0.out.low; have := HAP0.out.away; have := HLT3.out; have := HS8.out; omega) hb9 hown9 hok9); clear hz9 hown9 hok9)
        go_roundw
        case rel => exact ⟨k + 1, _, va9, vc9, _, _, by omega, by go_num, HNX.out, HN⟩
        case measure => simp [intOf]; omega
    · have hke : k = cs.length := by omega
      have hkk : ¬ ((k : Int) < cs.length) := by omega
      have hfull := HAP.out
      rw [hke] at hfull
      obtain ⟨rfl, rfl, rfl⟩ := HYES.out _ hfull
      have HK := Lib.hid hke
      clear hke hfull
      go_wp2
      try simp only [Exit.inBlock, Exit.then]
      refine bodyPost_ret (v := .tuple #[.agg #[.int .i64 N, .slice va L.length vc], .bool true]) ?_ rfl ?_
      · rw [results_cell_tmp rfl]
        go_simp
      have e1 := HSZ.out
      have e2 := HX.out.low
      exact ⟨_, rfl, (InR.chg HX.out.row (HFIN.out _ _ _) (.inl (by omega))).wider (by omega) (Nat.le_trans HX.out.high (HFIN.out wr _ _).size) (Nat.le_refl _), HX.out.ok, bel_chg (bel_trans HBW.out HBR.out) (HFIN.out _ _ _) (by omega)⟩

/-- Are changes valid? -/
theorem changesValid (n : Int) (es : List Ed) (cs : List Ch) (s t : Value) (w : World) (hs : RowE w s es) (ht : RowCh w t cs) (hok : okS s) (hl : es.length ≤ 1048576) (hl2 : cs.length ≤ 1048576) :
    Calls Try.prog 19 #[.agg #[.int .i64 n, s], t] w fun e w' => e = .returned (.bool (apB n es cs)) ∧ Below w.heap.size w w' := by
  obtain ⟨ad, cap, rfl, hz0⟩ := id hs
  clear hz0
  have hb : ∀ A, Below w.heap.size w (w.alloc A) := fun A => (Below.refl _ _).alloc (Nat.le_refl _) _
  have hc := fun A => applyChanges n es cs _ t (w.alloc A) (hs.keep (hb A)) (ht.keep (hb A)) hok hl hl2
  have HC := Lib.hid hc
  have HB := Lib.hid hb
  clear hc hb hs ht hok
  go_enter Try.func19, Try.ntmps19
  go_wp2_with (go_at_call 16; (with_reducible refine (HC.out _).mono ?_); rintro e w1 ⟨v1, rfl, hown, hok1, hb1⟩; obtain ⟨va, vc, hva, hz9⟩ := id hown; subst hva; clear hz9 hown hok1)
  go_ret
  exact ⟨rfl, (bel_trans (HB.out _) hb1).alloc (by have := (bel_trans (HB.out _) hb1).size; exact this) _⟩
end Go.Proofs.Ytbhhbhopogkmnaa
