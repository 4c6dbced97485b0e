/- KeepView: what the law asks. -/
import Derived.Test.YtbhhbhopogkmnaaKeepV
import Derived.Test.YtbhhbhopogkmnaaKeptV
import Derived.Test.YtbhhbhopogkmnaaEdgeM
import Derived.Test.YtbhhbhopogkmnaaGvInts
import Derived.Test.YtbhhbhopogkmnaaSetP
namespace Go.Proofs.Ytbhhbhopogkmnaa
open Go.RowKit Go.BigFrame Go.Deep
set_option linter.unusedVariables false
set_option linter.unusedSimpArgs false

/-- Nodes that are not reached have no parent. -/
def PmI (m : Int) (N : Nat) (st : St) : Prop := ∀ j, j < N → st.vals.getD j 0 = mNone m → st.par.getD j 0 = -1
section
variable {m : Int} {N a : Nat} {es : List Ed} {st : St}
theorem pm_look (hm : mKind m = true) (i : Int) (h : StOk m N st) (hp : PmI m N st) {e : Ed} (h1 : e.1.toNat < N) (h2 : e.2.1.toNat < N) (hw : mWeight e.2.2 = true) : StOk m N (stLook m i st e) ∧ PmI m N (stLook m i st e) := by
  have ht : StOk m N (stTick st) := ⟨h.par, h.vals, h.done, h.all⟩
  unfold stLook
  split
  · unfold stFollow
    split
    · rename_i hb
      refine ⟨stTake_ok hm ht h1 hw, fun j hj hv => ?_⟩
      simp only [stTake, stTick] at hv ⊢
      rw [getD_set _ _ _ _ (by rw [h.vals]; exact hj)] at hv
      rw [getD_set _ _ _ _ (by rw [h.par]; exact hj)]
      by_cases q : e.2.1.toNat = j
      · rw [if_pos q] at hv
        exfalso
        unfold stBetter at hb
        simp only [stTick] at hb
        exact bet_ne_none (h.all _ (by rw [h.vals]; exact h2)) hb hv
      · rw [if_neg q] at hv ⊢
        exact hp j hj hv
    · exact ⟨ht, hp⟩
  · exact ⟨h, hp⟩
theorem pm_scan (hm : mKind m = true) (i : Int) : ∀ (l : List Ed) (st : St), StOk m N st → PmI m N st → eAll N l → StOk m N (l.foldl (stLook m i) st) ∧ PmI m N (l.foldl (stLook m i) st)
  | [], st, h, hp, _ => ⟨h, hp⟩
  | e :: l, st, h, hp, he => by
    have h0 := he e (List.mem_cons_self ..)
    obtain ⟨h1, h2⟩ := pm_look hm i h hp h0.1.2 h0.2.1.2 h0.2.2
    exact pm_scan hm i l _ h1 h2 (fun x hx => he x (List.mem_cons_of_mem _ hx))
theorem pm_run (hm : mKind m = true) (he : eAll N es) : ∀ (f : Nat) (st : St), StOk m N st → PmI m N st → PmI m N (stRun m (-1) es f st)
  | 0, st, _, hp => hp
  | f + 1, st, h, hp => by
    rw [stRun]
    split
    · exact hp
    · split
      · exact hp
      · have h2 : StOk m N (stMark (nxF m st.vals st.done).toNat st) := ⟨h.par, h.vals, by simp [stMark, h.done], h.all⟩
        obtain ⟨h3, h4⟩ := pm_scan hm (nxF m st.vals st.done) es _ h2 (show PmI m N (stMark (nxF m st.vals st.done).toNat st) from hp) he
        exact pm_run hm he f _ h3 h4
theorem bf_parM (hm : mKind m = true) (he : eAll N es) (ha : a < N) : PmI m N (bfR m (-1) es N a) := by
  refine pm_run hm he _ _ (dj_start hm he ha).ok (fun j hj _ => ?_)
  show (List.replicate N (-1 : Int)).getD j 0 = -1
  simp [List.getD, hj]
theorem bf_kVal (hm : mKind m = true) (hg : gVal N es = true) (ha : a < N) (hN : N ≤ 12) : kVal N m a es (bfR m (-1) es N a).vals (bfR m (-1) es N a).par = true := by
  have he : eAll N es := by have := eAll_of hg; rwa [Int.toNat_natCast] at this
  have hF := bf_full hm he ha
  have hd := hF.dj
  have hv := hF.vals
  have hpm := bf_parM (a := a) hm he ha
  have hst := hd.ok
  have e1 : vVal N es m a (bfR m (-1) es N a).vals = true := vVal_mkS hg ⟨by omega, by omega⟩ hm (by rw [hst.vals]) hst.all
  have e2 : iSame (bfR m (-1) es N a).vals (vIter m es ((N : Int)).toNat (vStart m N a)) = true := by
    unfold iSame
    rw [hv]
    exact decide_eq_true rfl
  unfold kVal
  rw [e1, e2, decide_eq_true (by rw [hst.par]), Bool.and_self, Bool.true_and, Bool.true_and, List.all_eq_true]
  intro i hi
  have hiN : i < N := by have := List.mem_range.1 hi; rw [hst.par] at this; exact this
  unfold fitK
  split
  · rename_i hf
    rw [decide_eq_true_eq]
    unfold freeK at hf
    rw [Bool.or_eq_true, decide_eq_true_eq, decide_eq_true_eq] at hf
    rcases hf with q | q
    · have : i = a := by omega
      subst this
      exact hd.par0
    · exact hpm i hiN q
  · rename_i hf
    unfold freeK at hf
    rw [Bool.or_eq_true, decide_eq_true_eq, decide_eq_true_eq] at hf
    obtain ⟨e, p1, p2, p3, p4, p5⟩ := hd.parN i hiN (fun q => hf (.inl (by omega))) (fun q => hf (.inr q))
    have hee := he e p1
    have e21 : e.2.1 = (i : Int) := by have := hee.2.1.1; omega
    have hl := lbE_get hg p1
    rw [p3, e21] at hl
    unfold tightK
    rw [hl.1, hl.2, decide_eq_true p4.symm, Bool.true_and, Bool.true_and]
    obtain ⟨r0, r1⟩ := hd.rng _ p5
    have eY : (((bfR m (-1) es N a).par.getD i 0).toNat : Int) = (bfR m (-1) es N a).par.getD i 0 := by omega
    have hdn := (hd.mem _ r1).2 (by rw [eY]; exact p5)
    have hz := hd.some _ r1 hdn
    rw [hv] at hz
    have := bp_reach hm hg he ha hN r1 hz
    rw [eY] at this
    exact this
end

set_option maxRecDepth 20000 in
set_option maxHeartbeats 2000000 in
theorem gvKept (n m A : Int) (es : List Ed) (zs ps : List Int) (s v p s2 v2 p2 : Value) (w : World) (hs : RowE w s es) (hv : Row w v zs) (hp : Row w p ps) (hs2 : RowE w s2 es) (hv2 : Row w v2 zs) (hp2 : Row w p2 ps) (hl : es.length ≤ 1048576) (hl2 : zs.length ≤ 1048576) (hl3 : ps.length ≤ 1048576) :
    Calls Try.prog 33 #[.agg (kC n m A s v p), .agg (kC n m A s2 v2 p2)] w fun e w' => e = .returned (.bool true) ∧ Below w.heap.size w w' := by
  obtain ⟨sa, sc, rfl, hz0⟩ := id hs
  obtain ⟨va, vc, rfl, hz1⟩ := id hv
  obtain ⟨pa, pc, rfl, hz2⟩ := id hp
  obtain ⟨ta, tc, rfl, hz3⟩ := id hs2
  obtain ⟨ua, uc, rfl, hz4⟩ := id hv2
  obtain ⟨qa, qc, rfl, hz5⟩ := id hp2
  clear hz0 hz1 hz2 hz3 hz4 hz5
  have b0 : Box ((w.alloc (.cells (kC n m A (.slice sa es.length sc) (.slice va zs.length vc) (.slice pa ps.length pc)) 55)).alloc (.cells (kC n m A (.slice ta es.length tc) (.slice ua zs.length uc) (.slice qa ps.length qc)) 55)) w.heap.size 55 (kC n m A (.slice sa es.length sc) (.slice va zs.length vc) (.slice pa ps.length pc)) := (Box.new w _ _).alloc _
  have b1 : Box ((w.alloc (.cells (kC n m A (.slice sa es.length sc) (.slice va zs.length vc) (.slice pa ps.length pc)) 55)).alloc (.cells (kC n m A (.slice ta es.length tc) (.slice ua zs.length uc) (.slice qa ps.length qc)) 55)) (w.heap.size + 1) 55 (kC n m A (.slice ta es.length tc) (.slice ua zs.length uc) (.slice qa ps.length qc)) := by
    have := Box.new (w.alloc (.cells (kC n m A (.slice sa es.length sc) (.slice va zs.length vc) (.slice pa ps.length pc)) 55)) 55 (kC n m A (.slice ta es.length tc) (.slice ua zs.length uc) (.slice qa ps.length qc))
    simpa using this
  have hb0 : Below w.heap.size w ((w.alloc (.cells (kC n m A (.slice sa es.length sc) (.slice va zs.length vc) (.slice pa ps.length pc)) 55)).alloc (.cells (kC n m A (.slice ta es.length tc) (.slice ua zs.length uc) (.slice qa ps.length qc)) 55)) := ((Below.refl _ _).alloc (Nat.le_refl _) _).alloc (by simp) _
  have K0 := Lib.hid (And.intro hb0 (And.intro b0 b1))
  have fx : ∀ w', (Box w' w.heap.size 55 (kC n m A (.slice sa es.length sc) (.slice va zs.length vc) (.slice pa ps.length pc)) ∧ Box w' (w.heap.size + 1) 55 (kC n m A (.slice ta es.length tc) (.slice ua zs.length uc) (.slice qa ps.length qc))) → (w'.cell? ⟨w.heap.size, 0, none⟩ = some (.int .i64 n) ∧ w'.cell? ⟨w.heap.size, 1, none⟩ = some (.slice sa es.length sc) ∧ w'.cell? ⟨w.heap.size, 2, none⟩ = some (.int .i64 m) ∧ w'.cell? ⟨w.heap.size, 3, none⟩ = some (.int .i64 A) ∧ w'.cell? ⟨w.heap.size, 4, none⟩ = some (.slice va zs.length vc) ∧ w'.cell? ⟨w.heap.size, 5, none⟩ = some (.slice pa ps.length pc)) ∧ (w'.cell? ⟨w.heap.size + 1, 0, none⟩ = some (.int .i64 n) ∧ w'.cell? ⟨w.heap.size + 1, 1, none⟩ = some (.slice ta es.length tc) ∧ w'.cell? ⟨w.heap.size + 1, 2, none⟩ = some (.int .i64 m) ∧ w'.cell? ⟨w.heap.size + 1, 3, none⟩ = some (.int .i64 A) ∧ w'.cell? ⟨w.heap.size + 1, 4, none⟩ = some (.slice ua zs.length uc) ∧ w'.cell? ⟨w.heap.size + 1, 5, none⟩ = some (.slice qa ps.length qc)) :=
    fun w' hb => ⟨⟨by simpa using hb.1.cell 0, by simpa using hb.1.cell 1, by simpa using hb.1.cell 2, by simpa using hb.1.cell 3, by simpa using hb.1.cell 4, by simpa using hb.1.cell 5⟩, ⟨by simpa using hb.2.cell 0, by simpa using hb.2.cell 1, by simpa using hb.2.cell 2, by simpa using hb.2.cell 3, by simpa using hb.2.cell 4, by simpa using hb.2.cell 5⟩⟩
  have FX := Lib.hid fx
  clear b0 b1 hb0 fx
  have hg := fun w' (h : Below w.heap.size w w') => graphSame n n es es (.slice sa es.length sc) (.slice ta es.length tc) w' (hs.keep h) (hs2.keep h) (by omega) (by omega)
  have hw := fun w' (h : Below w.heap.size w w') => viewSame m A m A zs zs (.slice va zs.length vc) (.slice ua zs.length uc) w' (hv.keep h) (hv2.keep h) (by omega) (by omega)
  have hi := fun w' (h : Below w.heap.size w w') => gvInts ps (.slice pa ps.length pc) (.slice qa ps.length qc) w' (hp.keep h) (hp2.keep h) (by omega)
  rw [gSame_self] at hg
  rw [show vSame m A zs m A zs = true by unfold vSame iSame; simp] at hw
  have HG := Lib.hid hg
  have HW := Lib.hid hw
  have HI := Lib.hid hi
  clear hs hv hp hs2 hv2 hp2 hg hw hi
  go_enter Try.func33, Try.ntmps33
  go_wp2_with fail
  generalize ((w.alloc (.cells (kC n m A (.slice sa es.length sc) (.slice va zs.length vc) (.slice pa ps.length pc)) 55)).alloc (.cells (kC n m A (.slice ta es.length tc) (.slice ua zs.length uc) (.slice qa ps.length qc)) 55)) = w0 at K0 ⊢
  obtain ⟨⟨x0, x1, x2, x3, x4, x5⟩, ⟨y0, y1, y2, y3, y4, y5⟩⟩ := FX.out _ K0.out.2
  go_wp2_with (first | (go_at_call 18; (with_reducible refine (HG.out _ K0.out.1).mono ?_); rintro e w1 ⟨rfl, hb1⟩; have K1 := Lib.hid (And.intro (bel_trans K0.out.1 hb1) (box2_keep K0.out.2 hb1)); clear x0 x1 x2 x3 x4 x5 y0 y1 y2 y3 y4 y5; obtain ⟨⟨x0, x1, x2, x3, x4, x5⟩, ⟨y0, y1, y2, y3, y4, y5⟩⟩ := FX.out _ K1.out.2) | (go_at_call 36; (with_reducible refine (HW.out _ K1.out.1).mono ?_); rintro e w2 ⟨rfl, hb2⟩; have K2 := Lib.hid (And.intro (bel_trans K1.out.1 hb2) (box2_keep K1.out.2 hb2)); clear x0 x1 x2 x3 x4 x5 y0 y1 y2 y3 y4 y5; obtain ⟨⟨x0, x1, x2, x3, x4, x5⟩, ⟨y0, y1, y2, y3, y4, y5⟩⟩ := FX.out _ K2.out.2) | (go_at_call 14; (with_reducible refine (HI.out _ K2.out.1).mono ?_); rintro e w3 ⟨rfl, hb3⟩; have K3 := Lib.hid (bel_trans K2.out.1 hb3)))
  go_ret
  exact ⟨rfl, K3.out⟩
end Go.Proofs.Ytbhhbhopogkmnaa
