/- Results of a search, as lists: what the laws ask of them. The paths that a search finds: mathematics. -/
import Derived.Test.YtbhhbhopogkmnaaBestL
import Derived.Test.YtbhhbhopogkmnaaReachedS
import Derived.Test.YtbhhbhopogkmnaaGvInts
import Derived.Test.YtbhhbhopogkmnaaStartL
import Derived.Test.YtbhhbhopogkmnaaPathToS
import Derived.Test.YtbhhbhopogkmnaaPathE
import Derived.Test.YtbhhbhopogkmnaaEdgeM
namespace Go.Proofs.Ytbhhbhopogkmnaa
open Go.RowKit
set_option linter.unusedVariables false
set_option linter.unusedSimpArgs false

/-- A whole run's results. -/
structure SetF (m : Int) (N a : Nat) (es : List Ed) (xo xp xv : List Int) (xl : Int) : Prop where
  vals : xv = vRt m N es a
  lp : xp.length = N
  lv : xv.length = N
  lo : 1 ≤ xo.length ∧ xo.length ≤ N
  rng : ∀ k, k < xo.length → 0 ≤ xo.getD k 0 ∧ (xo.getD k 0).toNat < N
  par : ∀ k, k < xo.length → 1 ≤ k → inL (xo.take k) (xp.getD (xo.getD k 0).toNat 0) = true
  head : xo.getD 0 0 = (a : Int)
  par0 : xp.getD a 0 = -1
  all : vAll m xv
  mono : ∀ k, k + 1 < xo.length → mBet m (xv.getD (xo.getD (k + 1) 0).toNat 0) (xv.getD (xo.getD k 0).toNat 0) = false
  reach : xo.length = (rch m xv).length
  looks : 0 ≤ xl ∧ xl ≤ es.length
theorem bBet_ofS {m a b : Int} (h : mBet m a b = false) : bBet m a b = false := by unfold bBet; rw [h]; simp
theorem vVal_mkS {n : Int} {es : List Ed} {m a : Int} {zs : List Int} (hg : gVal n es = true) (ha : 0 ≤ a ∧ a < n) (hm : mKind m = true) (hl : (zs.length : Int) = n) (hv : vAll m zs) : vVal n es m a zs = true := by
  unfold vVal vFit mAll
  rw [hg, hm, all_of_vAll hv, hl, decide_eq_true ha.1, decide_eq_true ha.2, decide_eq_true rfl]
  rfl
theorem onOk_2 {n m a b : Int} {es : List Ed} (h : onOk n es m [a, b] = true) : gVal n es = true ∧ (0 ≤ a ∧ a < n) ∧ (0 ≤ b ∧ b < n) ∧ mKind m = true := by
  unfold onOk inN at h
  simp only [List.all_cons, List.all_nil, Bool.and_eq_true, Bool.and_true, decide_eq_true_eq] at h
  exact ⟨h.1.1, h.1.2.1, h.1.2.2, h.2⟩
theorem mOne_ne {m : Int} (hm : mKind m = true) : mOne m ≠ mNone m := fun w => by rcases mKind_cases hm with rfl | rfl | rfl | rfl | rfl <;> simp [mOne, mNone] at w
theorem rch_mem {m : Int} {zs : List Int} (x : Int) : x ∈ rch m zs ↔ ∃ i : Nat, x = i ∧ i < zs.length ∧ zs.getD i 0 ≠ mNone m := by
  unfold rch rchK
  rw [List.mem_map]
  constructor
  · rintro ⟨i, hi, rfl⟩
    obtain ⟨h1, h2⟩ := List.mem_filter.1 hi
    exact ⟨i, rfl, List.mem_range.1 h1, by simpa using h2⟩
  · rintro ⟨i, rfl, h1, h2⟩
    exact ⟨i, List.mem_filter.2 ⟨List.mem_range.2 h1, by simpa using h2⟩, rfl⟩
theorem rch_nodup (m : Int) (zs : List Int) : (rch m zs).Nodup := by
  unfold rch rchK
  refine List.Pairwise.map _ (fun a b (hab : a ≠ b) => ?_) (List.Pairwise.filter _ List.nodup_range)
  omega
theorem setF {m : Int} {N a : Nat} {es : List Ed} (hm : mKind m = true) (he : eAll N es) (ha : a < N) :
    ∃ xo xp xv xl xd, bfR m (-1) es N a = ⟨xo, xp, xv, xl, xd⟩ ∧ SetF m N a es xo xp xv xl := by
  have hF := bf_full hm he ha
  generalize bfR m (-1) es N a = R at hF ⊢
  obtain ⟨xo, xp, xv, xl, xd⟩ := R
  refine ⟨xo, xp, xv, xl, xd, rfl, ?_⟩
  obtain ⟨hd, hv, hf⟩ := hF
  have hmem : ∀ i, i < N → (xd.getD i true = true ↔ (i : Int) ∈ xo) := hd.mem
  have hful : ∀ i, i < N → (xd.getD i true = true ↔ xv.getD i 0 ≠ mNone m) := hf
  have hrng : ∀ y ∈ xo, 0 ≤ y ∧ y.toNat < N := hd.rng
  have hlv : xv.length = N := hd.ok.vals
  have hao : (a : Int) ∈ xo := (hmem a ha).1 ((hful a ha).2 (by have := hd.src; simp only at this; rw [this]; exact mOne_ne hm))
  have hl1 : 1 ≤ xo.length := List.length_pos_of_mem hao
  refine ⟨hv, hd.ok.par, hlv, ⟨hl1, ints_len hd.nodup hd.rng⟩, fun k hk => hrng _ (getD_mem hk 0), fun k hk h1 => ?_, ?_, hd.par0, hd.ok.all, hd.mono, ?_, ⟨hd.looks.1, ?_⟩⟩
  · exact decide_eq_true (hd.parO k hk h1)
  · have hh : xo.getD 0 (a : Int) = a := hd.head
    rw [← hh]
    simp [List.getD, show 0 < xo.length by omega]
  · have hsub1 := nodup_sub xo (rch m xv) hd.nodup (fun x hx => by
      obtain ⟨h0, h1⟩ := hrng x hx
      refine (rch_mem x).2 ⟨x.toNat, by omega, by omega, (hful _ h1).1 ((hmem _ h1).2 ?_)⟩
      rw [show ((x.toNat : Nat) : Int) = x by omega]; exact hx)
    have hsub2 := nodup_sub (rch m xv) xo (rch_nodup m xv) (fun x hx => by
      obtain ⟨i, rfl, h1, h2⟩ := (rch_mem x).1 hx
      exact (hmem i (by omega)).1 ((hful i (by omega)).2 h2))
    omega
  · have h2 := hd.looks.2
    have h3 := List.countP_le_length (p := lkB (-1) xd) (l := es)
    simp only at h2
    omega
/-- The results of a run up to a target, next to those of a whole run. -/
structure SetT (m : Int) (N a t : Nat) (es : List Ed) (xo xp xv : List Int) (xl : Int) (yo : List Int) (yl : Int) : Prop where
  val : xv.getD t 0 = (vRt m N es a).getD t 0
  lp : xp.length = N
  lv : xv.length = N
  lo : 1 ≤ xo.length ∧ xo.length ≤ yo.length
  pre : yo.take xo.length = xo
  looks : 0 ≤ xl ∧ xl ≤ yl
  rng : ∀ k, k < xo.length → 0 ≤ xo.getD k 0 ∧ (xo.getD k 0).toNat < N
  last : decide (xo.getD (xo.length - 1) 0 = (t : Int)) = !(decide (xv.getD t 0 = mNone m))
theorem setT {m : Int} {N a t : Nat} {es : List Ed} (hm : mKind m = true) (he : eAll N es) (ha : a < N) (ht : t < N) :
    ∃ xo xp xv xl xd yo yp yv yl yd, bfR m t es N a = ⟨xo, xp, xv, xl, xd⟩ ∧ bfR m (-1) es N a = ⟨yo, yp, yv, yl, yd⟩ ∧ SetT m N a t es xo xp xv xl yo yl ∧ SetF m N a es yo yp yv yl := by
  obtain ⟨h1, h2, h3, h4, h5, h6, h7, h8, h9⟩ := bf_target hm he ha ht
  obtain ⟨yo, yp, yv, yl, yd, hR, hF⟩ := setF hm he ha
  rw [hR] at h2 h3
  generalize bfR m t es N a = R at *
  obtain ⟨xo, xp, xv, xl, xd⟩ := R
  refine ⟨xo, xp, xv, xl, xd, yo, yp, yv, yl, yd, rfl, hR, ?_, hF⟩
  simp only at *
  obtain ⟨l, hl⟩ := h2
  have hpos : 0 < xo.length := List.length_pos_iff.2 h9
  refine ⟨h1, h4.par, h4.vals, ⟨hpos, by rw [hl]; simp⟩, by rw [hl]; simp, ⟨h7, h3⟩, fun k hk => h5 _ (getD_mem hk 0), ?_⟩
  rcases h8 with ⟨q1, l', q2⟩ | ⟨q1, q2⟩
  · rw [q2, decide_eq_false q1]
    simp [List.getD]
  · rw [decide_eq_true q1]
    refine decide_eq_false (fun q => q2 ?_)
    rw [← q]
    exact getD_mem (by omega) 0
end Go.Proofs.Ytbhhbhopogkmnaa
namespace Go.Proofs.Ytbhhbhopogkmnaa
open Go.RowKit
set_option linter.unusedVariables false
set_option linter.unusedSimpArgs false

/-- Each settled node but the first has an edge from one that was settled before it. -/
structure SetP (m : Int) (a : Nat) (es : List Ed) (xo xp xv : List Int) : Prop where
  step : ∀ k, k < xo.length → 1 ≤ k → ∃ j, j < k ∧ ∃ e ∈ es, e.1 = xo.getD j 0 ∧ e.2.1 = xo.getD k 0 ∧ xp.getD (xo.getD k 0).toNat 0 = xo.getD j 0 ∧ xv.getD (xo.getD k 0).toNat 0 = mJoin m (xv.getD (xo.getD j 0).toNat 0) (mEdge m e.2.2) ∧ xo.getD k 0 ≠ (a : Int)
  src : xv.getD a 0 = mOne m
theorem setFP {m : Int} {N a : Nat} {es : List Ed} (hm : mKind m = true) (he : eAll N es) (ha : a < N) :
    ∃ xo xp xv xl xd, bfR m (-1) es N a = ⟨xo, xp, xv, xl, xd⟩ ∧ SetF m N a es xo xp xv xl ∧ SetP m a es xo xp xv := by
  obtain ⟨xo, xp, xv, xl, xd, hR, hF⟩ := setF hm he ha
  refine ⟨xo, xp, xv, xl, xd, hR, hF, ?_⟩
  have hd := (bf_full hm he ha).dj
  rw [hR] at hd
  have hrng : ∀ y ∈ xo, 0 ≤ y ∧ y.toNat < N := hd.rng
  have hmem : ∀ i, i < N → (xd.getD i true = true ↔ (i : Int) ∈ xo) := hd.mem
  have hsome : ∀ i, i < N → xd.getD i true = true → xv.getD i 0 ≠ mNone m := hd.some
  have hparO : ∀ k, k < xo.length → 1 ≤ k → xp.getD (xo.getD k 0).toNat 0 ∈ xo.take k := hd.parO
  have hpar0 : xp.getD a 0 = -1 := hd.par0
  have hparN : ∀ j, j < N → j ≠ a → xv.getD j 0 ≠ mNone m → ∃ e ∈ es, e.2.1.toNat = j ∧ e.1 = xp.getD j 0 ∧ xv.getD j 0 = vGive m xv e ∧ xp.getD j 0 ∈ xo := hd.parN
  refine ⟨fun k hk h1 => ?_, hd.src⟩
  have hin : xo.getD k 0 ∈ xo := getD_mem hk 0
  obtain ⟨y0, y1⟩ := hrng _ hin
  have hdn := (hmem _ y1).2 (by rw [show (((xo.getD k 0).toNat : Nat) : Int) = xo.getD k 0 by omega]; exact hin)
  have hne := hsome _ y1 hdn
  have hpo := hparO k hk h1
  have hna : (xo.getD k 0).toNat ≠ a := by
    intro q
    rw [q, hpar0] at hpo
    have := hrng _ (List.mem_of_mem_take hpo)
    omega
  obtain ⟨e, p1, p2, p3, p4, p5⟩ := hparN _ y1 hna hne
  obtain ⟨j, hj, hje⟩ := List.getElem_of_mem hpo
  have hj' : j < k ∧ j < xo.length := by
    rw [List.length_take] at hj
    omega
  have hjx : xo.getD j 0 = xp.getD (xo.getD k 0).toNat 0 := by
    rw [← hje, List.getElem_take]
    simp [List.getD, hj'.2]
  refine ⟨j, hj'.1, e, p1, p3.trans hjx.symm, ?_, hjx.symm, ?_, ?_⟩
  · have := (he e p1).2.1.1; omega
  · rw [p4, hjx, ← p3]
    rfl
  · omega
theorem lbE_get {n : Int} {es : List Ed} (hg : gVal n es = true) {e : Ed} (he : e ∈ es) : fdE es e.1 e.2.1 = true ∧ es.getD (lbE es e.1 e.2.1) (0, 0, 0) = e := by
  have hf := (fdE_iff hg e.1 e.2.1).2 ⟨e, he, rfl, rfl⟩
  refine ⟨hf, ?_⟩
  have h := hf
  unfold fdE at h
  rw [Bool.and_eq_true, decide_eq_true_eq, decide_eq_true_eq, cEnds_eq] at h
  have hm : es.getD (lbE es e.1 e.2.1) (0, 0, 0) ∈ es := by
    rw [show es.getD (lbE es e.1 e.2.1) (0, 0, 0) = es[lbE es e.1 e.2.1] by simp [List.getD, h.1]]
    exact List.getElem_mem h.1
  exact ends_unique hg hm he h.2
/-- A path to a node: what it looks like. -/
structure PathOk (m : Int) (a : Nat) (es : List Ed) (xp xv : List Int) (X : Int) (k : Nat) (L : List Int) : Prop where
  len : 1 ≤ L.length ∧ L.length ≤ k + 1
  head : L.getD 0 0 = (a : Int)
  last : L.getD (L.length - 1) 0 = X
  go : ∀ (f : Nat) (acc : List Int), L.length ≤ f → ptGo xp a f X acc = some (L ++ acc)
  edge : ∀ t, t < L.length - 1 → peF es L t = true ∧ mWeight (peW es L t) = true
  meas : mPath m (mOne m) ((List.range (L.length - 1)).map (peW es L)) = xv.getD X.toNat 0
theorem path_ok {m : Int} {N a : Nat} {es : List Ed} {xo xp xv : List Int} {xl : Int} (hg : gVal N es = true) (he : eAll N es) (ha : a < N) (hF : SetF m N a es xo xp xv xl) (hP : SetP m a es xo xp xv) : ∀ (K k : Nat), k < K → k < xo.length → ∃ L, PathOk m a es xp xv (xo.getD k 0) k L
  | 0, k, h, _ => absurd h (Nat.not_lt_zero _)
  | K + 1, k, hK, hk => by
    by_cases h0 : k = 0
    · subst h0
      rw [hF.head]
      refine ⟨[(a : Int)], ⟨by simp, by simp⟩, rfl, rfl, fun f acc hf => ?_, fun t ht => by simp at ht, ?_⟩
      · obtain ⟨f', rfl⟩ : ∃ f', f = f' + 1 := ⟨f - 1, by simp at hf; omega⟩
        have hin : inP xp (a : Int) = true := by
          unfold inP
          rw [decide_eq_true (by omega), decide_eq_true (by rw [hF.lp]; omega)]; rfl
        rw [ptGo, if_pos hin, if_pos rfl]
        rfl
      · rw [Int.toNat_natCast, hP.src]
        rfl
    · obtain ⟨j, hj, e, e1, e2, e3, e4, e5, e6⟩ := hP.step k hk (by omega)
      obtain ⟨L, hL⟩ := path_ok hg he ha hF hP K j (by omega) (by omega)
      obtain ⟨x0, x1⟩ := hF.rng k hk
      obtain ⟨X, hX⟩ : ∃ X, X = xo.getD k 0 := ⟨_, rfl⟩
      rw [← hX] at e3 e4 e5 e6 x0 x1 ⊢
      have hl := hL.len
      obtain ⟨q, hq⟩ : ∃ q, L.length = q + 1 := ⟨L.length - 1, by omega⟩
      have hg0 : ∀ t, t < L.length → (L ++ [X]).getD t 0 = L.getD t 0 := fun t ht => getD_app_l ht 0
      have hgl : (L ++ [X]).getD (q + 1) 0 = X := by rw [← hq]; exact getD_app_r
      have hlast : (L ++ [X]).getD q 0 = xo.getD j 0 := by
        rw [hg0 q (by omega)]
        have := hL.last
        rw [hq] at this
        exact this
      have hW : ∀ t, t < q → peW es (L ++ [X]) t = peW es L t := fun t ht => by unfold peW; rw [hg0 t (by omega), hg0 (t + 1) (by omega)]
      have hE := lbE_get hg e1
      have hwq : peW es (L ++ [X]) q = e.2.2 := by
        unfold peW
        rw [hlast, hgl, ← e2, ← e3, hE.2]
      have hlen : (L ++ [X]).length - 1 = q + 1 := by simp; omega
      refine ⟨L ++ [X], ⟨by simp, by simp; omega⟩, ?_, ?_, fun f acc hf => ?_, fun t ht => ?_, ?_⟩
      · rw [hg0 0 (by omega)]; exact hL.head
      · rw [hlen]; exact hgl
      · obtain ⟨f', rfl⟩ : ∃ f', f = f' + 1 := ⟨f - 1, by simp at hf; omega⟩
        have hin : inP xp X = true := by
          unfold inP
          rw [decide_eq_true x0, decide_eq_true (by rw [hF.lp]; omega)]; rfl
        rw [ptGo, if_pos hin, if_neg e6, e4, hL.go f' (X :: acc) (by simp at hf; omega)]
        simp
      · rw [hlen] at ht
        by_cases ht2 : t < q
        · rw [hW t ht2]
          refine ⟨?_, (hL.edge t (by omega)).2⟩
          have := (hL.edge t (by omega)).1
          unfold peF at this ⊢
          rw [hg0 t (by omega), hg0 (t + 1) (by omega)]
          exact this
        · have htq : t = q := by omega
          subst htq
          rw [hwq]
          refine ⟨?_, (he e e1).2.2⟩
          unfold peF
          rw [hlast, hgl, ← e2, ← e3]
          exact hE.1
      · rw [hlen, List.range_succ, List.map_append, List.map_singleton, hwq]
        have hm2 : (List.range q).map (peW es (L ++ [X])) = (List.range q).map (peW es L) := by
          apply List.map_congr_left
          intro t ht
          exact hW t (List.mem_range.1 ht)
        have hme := hL.meas
        rw [hq, Nat.add_sub_cancel] at hme
        rw [hm2, e5, ← hme]
        unfold mPath
        rw [List.foldl_append]
        rfl
/-- Each settled node has a path with its value. -/
theorem path_all {m : Int} {N a : Nat} {es : List Ed} {xo xp xv : List Int} {xl : Int} (hm : mKind m = true) (hg : gVal N es = true) (he : eAll N es) (ha : a < N) (hN : N ≤ 12) (hF : SetF m N a es xo xp xv xl) (hP : SetP m a es xo xp xv) {k : Nat} (hk : k < xo.length) :
    ∃ L : List Int, ptB xp a (xo.getD k 0) = true ∧ ptL xp a (xo.getD k 0) = L ∧ L.length ≤ 12 ∧ peB N es L = true ∧ bPath m (peL N es L) = true ∧ rPath m (peL N es L) = xv.getD (xo.getD k 0).toNat 0 ∧ (peL N es L).length ≤ 12 := by
  obtain ⟨L, hL⟩ := path_ok hg he ha hF hP (k + 1) k (by omega) hk
  have hlo := hF.lo.2
  have hl := hL.len
  have hr : ptR xp a (xo.getD k 0) = some L := by
    unfold ptR
    rw [hL.go _ _ (by rw [hF.lp]; omega), List.append_nil]
  obtain ⟨h1, h2⟩ := pt_some hr
  have hpe : peB N es L = true := by
    refine peB_all ?_ (fun t ht => (hL.edge t ht).1)
    unfold peHead inN
    rw [hg, hL.head, decide_eq_true hl.1, decide_eq_true (show L.length ≤ 51 by omega), decide_eq_true (show (0 : Int) ≤ a by omega), decide_eq_true (show (a : Int) < N by omega)]
    rfl
  have hws := peL_yes hpe
  have hb : bPath m (peL N es L) = true := by
    unfold bPath
    rw [hm, hws, decide_eq_true (by simp; omega), Bool.true_and, Bool.true_and, List.all_eq_true]
    intro x hx
    obtain ⟨t, ht, rfl⟩ := List.mem_map.1 hx
    exact (hL.edge t (List.mem_range.1 ht)).2
  refine ⟨L, h1, h2, by omega, hpe, hb, ?_, by rw [hws]; simp; omega⟩
  unfold rPath
  rw [if_pos hb, hws]
  exact hL.meas
/-- The parents of the search lead to each node that is reached. -/
theorem bp_reach {m : Int} {N a X : Nat} {es : List Ed} (hm : mKind m = true) (hg : gVal N es = true) (he : eAll N es) (ha : a < N) (hN : N ≤ 12) (hX : X < N) (hz : (vRt m N es a).getD X 0 ≠ mNone m) : ptB (bfR m (-1) es N a).par a X = true := by
  obtain ⟨xo, xp, xv, xl, xd, hR, hF, hP⟩ := setFP hm he ha
  have hb := bf_full hm he ha
  have hv := hb.vals
  have h1 := (hb.full X hX).2 (by rw [hv]; exact hz)
  have h2 := (hb.dj.mem X hX).1 h1
  rw [hR] at h2 ⊢
  obtain ⟨k, hk, e⟩ := List.getElem_of_mem h2
  obtain ⟨L, h3, _⟩ := path_all hm hg he ha hN hF hP hk
  have e2 : xo.getD k 0 = (X : Int) := by
    rw [← e]
    have hk' : k < xo.length := hk
    simp [List.getD, hk']
  rw [e2] at h3
  exact h3
end Go.Proofs.Ytbhhbhopogkmnaa
