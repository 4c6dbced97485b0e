/- Results of a search, as lists: what the laws ask of them. -/
import Derived.Test.YtlmhccjppmhdbaaBestL
import Derived.Test.YtlmhccjppmhdbaaReached
import Derived.Test.YtlmhccjppmhdbaaGvInts
import Derived.Test.YtlmhccjppmhdbaaStartL
namespace Go.Proofs.Ytlmhccjppmhdbaa
open Go.RowKit
set_option linter.unusedVariables false
set_option linter.unusedSimpArgs false

/-- A whole run's results. -/
structure SetF (m : Int) (N a : Nat) (es : List Ed) (xo xp xv : List Int) (xl : Int) : Prop where
  vals : xv = vRt m N es a
  lp : xp.length = N
  lv : xv.length = N
  lo : 1 ≤ xo.length ∧ xo.length ≤ N
  rng : ∀ k, k < xo.length → 0 ≤ xo.getD k 0 ∧ (xo.getD k 0).toNat < N
  par : ∀ k, k < xo.length → 1 ≤ k → inL (xo.take k) (xp.getD (xo.getD k 0).toNat 0) = true
  head : xo.getD 0 0 = (a : Int)
  par0 : xp.getD a 0 = -1
  all : vAll m xv
  mono : ∀ k, k + 1 < xo.length → mBet m (xv.getD (xo.getD (k + 1) 0).toNat 0) (xv.getD (xo.getD k 0).toNat 0) = false
  reach : xo.length = (rch m xv).length
  looks : 0 ≤ xl ∧ xl ≤ es.length
theorem bBet_ofS {m a b : Int} (h : mBet m a b = false) : bBet m a b = false := by unfold bBet; rw [h]; simp
theorem vVal_mkS {n : Int} {es : List Ed} {m a : Int} {zs : List Int} (hg : gVal n es = true) (ha : 0 ≤ a ∧ a < n) (hm : mKind m = true) (hl : (zs.length : Int) = n) (hv : vAll m zs) : vVal n es m a zs = true := by
  unfold vVal vFit mAll
  rw [hg, hm, all_of_vAll hv, hl, decide_eq_true ha.1, decide_eq_true ha.2, decide_eq_true rfl]
  rfl
theorem onOk_2 {n m a b : Int} {es : List Ed} (h : onOk n es m [a, b] = true) : gVal n es = true ∧ (0 ≤ a ∧ a < n) ∧ (0 ≤ b ∧ b < n) ∧ mKind m = true := by
  unfold onOk inN at h
  simp only [List.all_cons, List.all_nil, Bool.and_eq_true, Bool.and_true, decide_eq_true_eq] at h
  exact ⟨h.1.1, h.1.2.1, h.1.2.2, h.2⟩
theorem mOne_ne {m : Int} (hm : mKind m = true) : mOne m ≠ mNone m := fun w => by rcases mKind_cases hm with rfl | rfl | rfl | rfl | rfl <;> simp [mOne, mNone] at w
theorem rch_mem {m : Int} {zs : List Int} (x : Int) : x ∈ rch m zs ↔ ∃ i : Nat, x = i ∧ i < zs.length ∧ zs.getD i 0 ≠ mNone m := by
  unfold rch rchK
  rw [List.mem_map]
  constructor
  · rintro ⟨i, hi, rfl⟩
    obtain ⟨h1, h2⟩ := List.mem_filter.1 hi
    exact ⟨i, rfl, List.mem_range.1 h1, by simpa using h2⟩
  · rintro ⟨i, rfl, h1, h2⟩
    exact ⟨i, List.mem_filter.2 ⟨List.mem_range.2 h1, by simpa using h2⟩, rfl⟩
theorem rch_nodup (m : Int) (zs : List Int) : (rch m zs).Nodup := by
  unfold rch rchK
  refine List.Pairwise.map _ (fun a b (hab : a ≠ b) => ?_) (List.Pairwise.filter _ List.nodup_range)
  omega
theorem setF {m : Int} {N a : Nat} {es : List Ed} (hm : mKind m = true) (he : eAll N es) (ha : a < N) :
    ∃ xo xp xv xl xd, bfR m (-1) es N a = ⟨xo, xp, xv, xl, xd⟩ ∧ SetF m N a es xo xp xv xl := by
  have hF := bf_full hm he ha
  generalize bfR m (-1) es N a = R at hF ⊢
  obtain ⟨xo, xp, xv, xl, xd⟩ := R
  refine ⟨xo, xp, xv, xl, xd, rfl, ?_⟩
  obtain ⟨hd, hv, hf⟩ := hF
  have hmem : ∀ i, i < N → (xd.getD i true = true ↔ (i : Int) ∈ xo) := hd.mem
  have hful : ∀ i, i < N → (xd.getD i true = true ↔ xv.getD i 0 ≠ mNone m) := hf
  have hrng : ∀ y ∈ xo, 0 ≤ y ∧ y.toNat < N := hd.rng
  have hlv : xv.length = N := hd.ok.vals
  have hao : (a : Int) ∈ xo := (hmem a ha).1 ((hful a ha).2 (by have := hd.src; simp only at this; rw [this]; exact mOne_ne hm))
  have hl1 : 1 ≤ xo.length := List.length_pos_of_mem hao
  refine ⟨hv, hd.ok.par, hlv, ⟨hl1, ints_len hd.nodup hd.rng⟩, fun k hk => hrng _ (getD_mem hk 0), fun k hk h1 => ?_, ?_, hd.par0, hd.ok.all, hd.mono, ?_, ⟨hd.looks.1, ?_⟩⟩
  · exact decide_eq_true (hd.parO k hk h1)
  · have hh : xo.getD 0 (a : Int) = a := hd.head
    rw [← hh]
    simp [List.getD, show 0 < xo.length by omega]
  · have hsub1 := nodup_sub xo (rch m xv) hd.nodup (fun x hx => by
      obtain ⟨h0, h1⟩ := hrng x hx
      refine (rch_mem x).2 ⟨x.toNat, by omega, by omega, (hful _ h1).1 ((hmem _ h1).2 ?_)⟩
      rw [show ((x.toNat : Nat) : Int) = x by omega]; exact hx)
    have hsub2 := nodup_sub (rch m xv) xo (rch_nodup m xv) (fun x hx => by
      obtain ⟨i, rfl, h1, h2⟩ := (rch_mem x).1 hx
      exact (hmem i (by omega)).1 ((hful i (by omega)).2 h2))
    omega
  · have h2 := hd.looks.2
    have h3 := List.countP_le_length (p := lkB (-1) xd) (l := es)
    simp only at h2
    omega
/-- The results of a run up to a target, next to those of a whole run. -/
structure SetT (m : Int) (N a t : Nat) (es : List Ed) (xo xp xv : List Int) (xl : Int) (yo : List Int) (yl : Int) : Prop where
  val : xv.getD t 0 = (vRt m N es a).getD t 0
  lp : xp.length = N
  lv : xv.length = N
  lo : 1 ≤ xo.length ∧ xo.length ≤ yo.length
  pre : yo.take xo.length = xo
  looks : 0 ≤ xl ∧ xl ≤ yl
  rng : ∀ k, k < xo.length → 0 ≤ xo.getD k 0 ∧ (xo.getD k 0).toNat < N
  last : decide (xo.getD (xo.length - 1) 0 = (t : Int)) = !(decide (xv.getD t 0 = mNone m))
theorem setT {m : Int} {N a t : Nat} {es : List Ed} (hm : mKind m = true) (he : eAll N es) (ha : a < N) (ht : t < N) :
    ∃ xo xp xv xl xd yo yp yv yl yd, bfR m t es N a = ⟨xo, xp, xv, xl, xd⟩ ∧ bfR m (-1) es N a = ⟨yo, yp, yv, yl, yd⟩ ∧ SetT m N a t es xo xp xv xl yo yl ∧ SetF m N a es yo yp yv yl := by
  obtain ⟨h1, h2, h3, h4, h5, h6, h7, h8, h9⟩ := bf_target hm he ha ht
  obtain ⟨yo, yp, yv, yl, yd, hR, hF⟩ := setF hm he ha
  rw [hR] at h2 h3
  generalize bfR m t es N a = R at *
  obtain ⟨xo, xp, xv, xl, xd⟩ := R
  refine ⟨xo, xp, xv, xl, xd, yo, yp, yv, yl, yd, rfl, hR, ?_, hF⟩
  simp only at *
  obtain ⟨l, hl⟩ := h2
  have hpos : 0 < xo.length := List.length_pos_iff.2 h9
  refine ⟨h1, h4.par, h4.vals, ⟨hpos, by rw [hl]; simp⟩, by rw [hl]; simp, ⟨h7, h3⟩, fun k hk => h5 _ (getD_mem hk 0), ?_⟩
  rcases h8 with ⟨q1, l', q2⟩ | ⟨q1, q2⟩
  · rw [q2, decide_eq_false q1]
    simp [List.getD]
  · rw [decide_eq_true q1]
    refine decide_eq_false (fun q => q2 ?_)
    rw [← q]
    exact getD_mem (by omega) 0
end Go.Proofs.Ytlmhccjppmhdbaa
