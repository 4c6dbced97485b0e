/- BestFirst and StopAt, in the program. -/
import Derived.Test.YtlmhccjppmhdbaaBestY
import Derived.Test.YtlmhccjppmhdbaaVStartJ
import Derived.Test.YtlmhccjppmhdbaaSettled
namespace Go.Proofs.Ytlmhccjppmhdbaa
open Go.RowKit Go.BigFrame Go.Deep
set_option linter.unusedVariables false
set_option linter.unusedSimpArgs false

theorem info_bool : (Try.prog.info? 4).map (fun i => (i.zero, i.size, i.bytes)) = some (some (.bool false), 1, 1) := by kernel_rfl
/-- A search at its beginning. -/
def stNew (N : Nat) (par vals : List Int) : St := ⟨[], par, vals, 0, List.replicate N false⟩
theorem IR.of_rowIs {w : World} {b n : Nat} {zs : List Int} (h : w.rowIs b 3 n (cellI zs)) (hn : n = zs.length) : IR w b zs := by
  obtain ⟨c, h1, h2, h3⟩ := h
  exact ⟨c, h1, fun i hi => h3 i (by omega)⟩
theorem BR.made (w : World) (N : Nat) : BR (w.alloc (.cells (madeCells #[.bool false] N) 4)) w.heap.size (List.replicate N false) := by
  obtain ⟨c, h1, h2, h3⟩ := World.rowIs_made w (.bool false) N 4
  exact ⟨c, h1, fun i hi => by rw [h3 i (by simpa using hi)]; simp at hi; simp [List.getD, hi]⟩
set_option maxRecDepth 20000 in
set_option maxHeartbeats 4000000 in
theorem newSearch {m : Int} {N : Nat} {es : List Ed} {s : Value} {P cp V cv : Nat} {par vals : List Int} {w W0 : World} (hm : mKind m = true) (hs : RowE w s es) (hN : N ≤ 1048576) (hP : IR w P par) (hV : IR w V vals) (hne : P ≠ V) (hb : W0.heap.size ≤ P ∧ W0.heap.size ≤ V) (hbel : Below W0.heap.size W0 w) (hpl : par.length = N) (hvl : vals.length = N) (hva : vAll m vals) :
    Calls Try.prog 93 #[opsV m, .agg #[.int .i64 N, s], .slice (some ⟨V, 0, none⟩) N cv, .slice (some ⟨P, 0, none⟩) N cp] w fun e w' => ∃ B S lo, e = .returned (.pointer (some ⟨B, 0, none⟩)) ∧ SInv W0 B m N s (stNew N par vals) [] P cp V cv S N lo w' (.slice none 0 0) (.slice none 0 0) ∧ Below w.heap.size w w' := by
  obtain ⟨sa, sc, rfl, hs2⟩ := id hs
  clear hs2 hs
  have hmk := run_make_row' (P := Try.prog) 110 4 (.bool false) 1 Try.underlying110 info_bool rfl .i64 .i64 N (by omega) (by omega)
  have HP := Lib.hid (And.intro hP hV)
  have HB := Lib.hid (And.intro hb (And.intro hbel hne))
  have HL := Lib.hid (And.intro hpl (And.intro hvl hva))
  clear hP hV hb hbel hpl hvl hva hne
  obtain ⟨Tt, rv, fn, fe, fb, fo, fj, rn, re, rb, ro, rj, D⟩ := disp hm
  have hval := D.val
  rw [hval]
  have HVAL := Lib.hid hval
  clear D hval
  go_enter Try.func93, Try.ntmps93
  go_wp2
  go_region
  go_wp2
  go_ret
  obtain ⟨hP, hV⟩ := HP.out
  obtain ⟨hb, hbel, hne⟩ := HB.out
  obtain ⟨hpl, hvl, hva⟩ := HL.out
  have hb0 : Below w.heap.size w ((((w.alloc (.cells #[.int .i64 N, .slice sa es.length sc] 33)).alloc (.cells (madeCells #[.bool false] N) 4)).alloc (.cells #[.slice none 0 0, .slice (some ⟨P, 0, none⟩) N cp, .slice (some ⟨V, 0, none⟩) N cv, .int .i64 0, .iface Tt rv, .slice sa es.length sc, .slice (some ⟨w.heap.size + 1, 0, none⟩) N N, .iface Tt rv, .slice none 0 0] 125)).drew) := ((((Below.refl _ _).alloc (Nat.le_refl _) _).alloc (by simp) _).alloc (by simp; omega) _).drew
  have hB : Box ((((w.alloc (.cells #[.int .i64 N, .slice sa es.length sc] 33)).alloc (.cells (madeCells #[.bool false] N) 4)).alloc (.cells #[.slice none 0 0, .slice (some ⟨P, 0, none⟩) N cp, .slice (some ⟨V, 0, none⟩) N cv, .int .i64 0, .iface Tt rv, .slice sa es.length sc, .slice (some ⟨w.heap.size + 1, 0, none⟩) N N, .iface Tt rv, .slice none 0 0] 125)).drew) (w.heap.size + 1 + 1) 125 #[.slice none 0 0, .slice (some ⟨P, 0, none⟩) N cp, .slice (some ⟨V, 0, none⟩) N cv, .int .i64 0, .iface Tt rv, .slice sa es.length sc, .slice (some ⟨w.heap.size + 1, 0, none⟩) N N, .iface Tt rv, .slice none 0 0] := by
    have := (Box.new ((w.alloc (.cells #[.int .i64 N, .slice sa es.length sc] 33)).alloc (.cells (madeCells #[.bool false] N) 4)) 125 #[.slice none 0 0, .slice (some ⟨P, 0, none⟩) N cp, .slice (some ⟨V, 0, none⟩) N cv, .int .i64 0, .iface Tt rv, .slice sa es.length sc, .slice (some ⟨w.heap.size + 1, 0, none⟩) N N, .iface Tt rv, .slice none 0 0]).drew
    simpa using this
  have hS : BR ((((w.alloc (.cells #[.int .i64 N, .slice sa es.length sc] 33)).alloc (.cells (madeCells #[.bool false] N) 4)).alloc (.cells #[.slice none 0 0, .slice (some ⟨P, 0, none⟩) N cp, .slice (some ⟨V, 0, none⟩) N cv, .int .i64 0, .iface Tt rv, .slice sa es.length sc, .slice (some ⟨w.heap.size + 1, 0, none⟩) N N, .iface Tt rv, .slice none 0 0] 125)).drew) (w.heap.size + 1) (List.replicate N false) := by
    have h1 := (BR.made (w.alloc (.cells #[.int .i64 N, .slice sa es.length sc] 33)) N).keep (w' := (((w.alloc (.cells #[.int .i64 N, .slice sa es.length sc] 33)).alloc (.cells (madeCells #[.bool false] N) 4)).alloc (.cells #[.slice none 0 0, .slice (some ⟨P, 0, none⟩) N cp, .slice (some ⟨V, 0, none⟩) N cv, .int .i64 0, .iface Tt rv, .slice sa es.length sc, .slice (some ⟨w.heap.size + 1, 0, none⟩) N N, .iface Tt rv, .slice none 0 0] 125)).drew) (((Below.refl _ _).alloc (Nat.le_refl _) _).drew)
    simpa using h1
  have hsz : ((((w.alloc (.cells #[.int .i64 N, .slice sa es.length sc] 33)).alloc (.cells (madeCells #[.bool false] N) 4)).alloc (.cells #[.slice none 0 0, .slice (some ⟨P, 0, none⟩) N cp, .slice (some ⟨V, 0, none⟩) N cv, .int .i64 0, .iface Tt rv, .slice sa es.length sc, .slice (some ⟨w.heap.size + 1, 0, none⟩) N N, .iface Tt rv, .slice none 0 0] 125)).drew).heap.size = w.heap.size + 1 + 1 + 1 := by simp
  have hW0 := hbel.size
  have hbel3 := bel_trans hbel hb0
  have hP3 := hP.keep hb0
  have hV3 := hV.keep hb0
  generalize ((((w.alloc (.cells #[.int .i64 N, .slice sa es.length sc] 33)).alloc (.cells (madeCells #[.bool false] N) 4)).alloc (.cells #[.slice none 0 0, .slice (some ⟨P, 0, none⟩) N cp, .slice (some ⟨V, 0, none⟩) N cv, .int .i64 0, .iface Tt rv, .slice sa es.length sc, .slice (some ⟨w.heap.size + 1, 0, none⟩) N N, .iface Tt rv, .slice none 0 0] 125)).drew) = w3 at hb0 hB hS hsz hbel3 hP3 hV3 ⊢
  rw [← HVAL.out] at hB
  refine ⟨w.heap.size + 1 + 1, w.heap.size + 1, w.heap.size + 1 + 1 + 1, rfl, ⟨⟨hB, ⟨by simp [cellsN], .inl ⟨rfl, rfl⟩⟩, by omega, by omega⟩, ⟨by simp [stNew], .inl ⟨rfl, rfl⟩⟩, hP3, hV3, hS, hne, ⟨by have := hP.lt; omega, by have := hV.lt; omega, by omega⟩, ⟨hb.1, hb.2, by omega, by omega⟩, hbel3, ⟨hpl, hvl, by simp [stNew], hva⟩⟩, hb0⟩

/-- The state from which nodes are settled, and the one that is reached. -/
def bf0 (m : Int) (N src : Nat) : St := ⟨[], List.replicate N (-1), vStart m N src, 0, List.replicate N false⟩
def bfR (m target : Int) (es : List Ed) (N src : Nat) : St := stRun m target es (N + 1) (bf0 m N src)
theorem nd_rep (N : Nat) : nd (List.replicate N false) = N := by unfold nd; rw [List.countP_replicate]; simp
theorem vStart_set (m : Int) (N src : Nat) (h : src < N) : (List.replicate N (mNone m)).set src (mOne m) = vStart m N src := by
  apply eq_of_at
  · rw [List.length_set, List.length_replicate, vStart_length, Int.toNat_natCast]
  · intro i hi
    rw [List.length_set, List.length_replicate] at hi
    rw [getD_set _ _ _ _ (by simpa using hi), vStart_at m N src (by rw [Int.toNat_natCast]; exact hi)]
    by_cases e : src = i
    · rw [if_pos e, if_pos (by omega)]
    · rw [if_neg e, if_neg (by omega)]
      simp [List.getD, hi]
theorem rep_set (N src : Nat) : (List.replicate N (-1 : Int)).set src (-1) = List.replicate N (-1) := by
  apply List.ext_getElem?
  intro i
  rw [List.getElem?_set]
  by_cases e : src = i
  · rw [if_pos e]
    by_cases h : src < N
    · rw [if_pos (by simpa using h)]; simp [List.getElem?_replicate, ← e, h]
    · rw [if_neg (by simpa using h)]; simp [List.getElem?_replicate, ← e, h]
  · rw [if_neg e]
theorem waits_start {m : Int} (hm : mKind m = true) {N src : Nat} (h : src < N) : Waits m N (bf0 m N src) [((src : Int), mOne m)] := by
  have hno : mOne m ≠ mNone m := by rcases mKind_cases hm with rfl | rfl | rfl | rfl | rfl <;> decide
  constructor
  · intro i hi hok
    unfold okN bf0 at hok
    simp only at hok
    rw [vStart_at m N src (by rw [Int.toNat_natCast]; exact hi)] at hok
    show ((i : Int), (vStart m N src).getD i 0) ∈ _
    rw [vStart_at m N src (by rw [Int.toNat_natCast]; exact hi)]
    by_cases e : (i : Int) = src
    · rw [if_pos e, e]; simp
    · rw [if_neg e] at hok; simp at hok
  · intro x hx
    rw [List.mem_singleton] at hx
    subst hx
    refine ⟨⟨by simp, by simpa using h⟩, mOne_in hm, hno, ?_⟩
    show mBet m (mOne m) ((vStart m N src).getD ((src : Int)).toNat 0) = false
    rw [Int.toNat_natCast, vStart_at m N src (by rw [Int.toNat_natCast]; exact h), if_pos rfl]
    exact le_refl' hm
theorem waits_congr {m : Int} {N : Nat} {st : St} {ents ents' : List En} (h : Waits m N st ents) (hm : ∀ y, y ∈ ents' ↔ y ∈ ents) : Waits m N st ents' := ⟨fun i hi hok => (hm _).2 (h.has i hi hok), fun x hx => h.ok x ((hm x).1 hx)⟩
theorem hOk_one {m : Int} (x : En) : hOk m 1 [x] := fun k h0 h1 => by omega
theorem hOk_zero {m : Int} : hOk m 0 [] := fun k h0 h1 => by omega
theorem NewI.ir {W w' : World} {v : Value} {zs : List Int} (h : NewI W w' v zs) : ∃ g cap, v = .slice (some ⟨g, 0, none⟩) zs.length cap ∧ W.heap.size ≤ g ∧ IR w' g zs := by
  obtain ⟨g, cap, rfl, hg, hr⟩ := h
  exact ⟨g, cap, rfl, hg.1, IR.of_rowIs hr rfl⟩
theorem IR.inR {w : World} {b : Nat} {zs : List Int} (h : IR w b zs) (cap : Nat) : InR true w b (b + 1) (.slice (some ⟨b, 0, none⟩) zs.length cap) zs.length 1 (cellI zs) := by
  refine ⟨_, cap, rfl, .inr ⟨b, 0, rfl, Nat.le_refl _, Nat.lt_succ_self _, h.lt, fun i hi => ?_⟩⟩
  have := h.cell (i := i) (by omega)
  rw [Nat.zero_add]
  exact ⟨this.1, fun _ => this.2⟩
set_option maxRecDepth 20000 in
set_option maxHeartbeats 8000000 in
theorem settledUntilO {m : Int} {N src : Nat} {es : List Ed} {s : Value} {w : World} (target : Int) (hm : mKind m = true) (hs : RowE w s es) (hg : gVal N es = true) (hsrc : src < N) :
    Calls Try.prog 54 #[opsV m, .agg #[.int .i64 N, s], .int .i64 src, .int .i64 target] w fun e w' => ∃ a b c, e = .returned (.agg #[a, b, c, .int .i64 (bfR m target es N src).looks]) ∧ (R3 true true w' w.heap.size w'.heap.size a b c (bfR m target es N src).ord.length (bfR m target es N src).par.length (bfR m target es N src).vals.length (cellI (bfR m target es N src).ord) (cellI (bfR m target es N src).par) (cellI (bfR m target es N src).vals) ∧ okS a) ∧ Below w.heap.size w w' := by
  obtain ⟨g1, g2, g3, _⟩ := gVal_parts hg
  have hea : eAll N es := by have := eAll_of hg; simpa using this
  obtain ⟨sa, sc, rfl, hs2⟩ := id hs
  clear hs2
  obtain ⟨Tt, rv, fn, fe, fb, fo, fj, rn, re, rb, ro, rj, D⟩ := disp hm
  have hval := D.val
  have hn1 := D.mn.run
  have hn2 := D.mn.ahead
  have hn3 := D.mn.enter
  have he1 := D.me.run
  have he2 := D.me.ahead
  have he3 := D.me.enter
  have HN := Lib.hid D.cn
  have HE := Lib.hid D.ce
  clear D
  have hbG : Below w.heap.size w ((w.alloc (.cells #[.int .i64 N, .slice sa es.length sc] 33)).alloc (.cells #[.slice none 0 0, .slice none 0 0, .slice none 0 0, .int .i64 0] 28)) := ((Below.refl _ _).alloc (Nat.le_refl _) _).alloc (by simp) _
  have hB1 : Box ((w.alloc (.cells #[.int .i64 N, .slice sa es.length sc] 33)).alloc (.cells #[.slice none 0 0, .slice none 0 0, .slice none 0 0, .int .i64 0] 28)) w.heap.size 33 #[.int .i64 N, .slice sa es.length sc] := (Box.new w _ _).alloc _
  have hB2 : Box ((w.alloc (.cells #[.int .i64 N, .slice sa es.length sc] 33)).alloc (.cells #[.slice none 0 0, .slice none 0 0, .slice none 0 0, .int .i64 0] 28)) (w.heap.size + 1) 28 #[.slice none 0 0, .slice none 0 0, .slice none 0 0, .int .i64 0] := by
    have := Box.new (w.alloc (.cells #[.int .i64 N, .slice sa es.length sc] 33)) 28 #[.slice none 0 0, .slice none 0 0, .slice none 0 0, .int .i64 0]
    simpa using this
  have hsz : ((w.alloc (.cells #[.int .i64 N, .slice sa es.length sc] 33)).alloc (.cells #[.slice none 0 0, .slice none 0 0, .slice none 0 0, .int .i64 0] 28)).heap.size = w.heap.size + 1 + 1 := by simp
  have K0 := Lib.hid (And.intro hbG (And.intro hB1 (And.intro hB2 hsz)))
  have HS := Lib.hid (hs.keep hbG)
  have HG := Lib.hid (And.intro hg hea)
  have hrep := fun g cap w h h' => repeat1 (mNone m) N (by omega) (by omega) g cap w h h'
  have HR := Lib.hid hrep
  have hrep2 := fun g cap w h h' => repeat1 (-1) N (by omega) (by omega) g cap w h h'
  have HR2 := Lib.hid hrep2
  have HVAL := Lib.hid hval
  rw [hval]
  clear hs hg hea hrep hrep2 hval hbG hB1 hB2 hsz
  go_enter Try.func54, Try.ntmps54
  go_wp2_with fail
  generalize ((w.alloc (.cells #[.int .i64 N, .slice sa es.length sc] 33)).alloc (.cells #[.slice none 0 0, .slice none 0 0, .slice none 0 0, .int .i64 0] 28)) = W0 at K0 HS ⊢
  have fx : ∀ w', Below W0.heap.size W0 w' → w'.cell? ⟨w.heap.size, 0, none⟩ = some (.int .i64 N) ∧ w'.cell? ⟨w.heap.size, 1, none⟩ = some (.slice sa es.length sc) := fun w' h => ⟨by simpa using (K0.out.2.1.keep h).cell 0, by simpa using (K0.out.2.1.keep h).cell 1⟩
  have FX := Lib.hid fx
  clear fx
  go_region_held3 (fun w' : World => w'.cell? ⟨w.heap.size, 0, none⟩ = some (.int .i64 N) ∧ w'.cell? ⟨w.heap.size, 1, none⟩ = some (.slice sa es.length sc)) (first | exact FX.out _ ((Below.refl _ _).drew) | exact FX.out _ (bel_trans ((Below.refl _ _).drew) hbA) | exact FX.out _ ((bel_trans ((Below.refl _ _).drew) hbA).alloc (by have := hbA.size; simp at this; omega) _) | exact FX.out _ (bel_trans ((bel_trans ((Below.refl _ _).drew) hbA).alloc (by have := hbA.size; simp at this; omega) _) hbB)) (first | (with_reducible refine (HN.out _).mono ?_; rintro e wA ⟨rfl, hbA⟩) | (go_at_call 92; refine (HR.out _ _ _ (by go_simp) (by simp)).mono ?_; rintro e wB ⟨vB, rfl, hnB, hbB⟩))
  have K1 := Lib.hid (bel_trans ((bel_trans ((Below.refl W0.heap.size W0).drew) hbA).alloc (by have := hbA.size; simp at this; omega) (.cells #[.int .i64 (mNone m)] 3)) hbB)
  obtain ⟨V, cv, rfl, hVl, hVi⟩ := hnB.ir
  have hV0 : W0.heap.size ≤ V := by have := hbA.size; simp at this hVl; omega
  have HV := Lib.hid (And.intro hV0 hVi)
  obtain ⟨x0, x1⟩ := FX.out _ (K1.out.alloc K1.out.size (.cells #[.int .i64 (-1)] 3))
  simp only [List.length_replicate] at *
  clear hbA hbB hnB hVl hV0 hVi
  go_wp2_with (go_at_call 92; refine (HR2.out _ _ _ (by go_simp) (by simp)).mono ?_; rintro e wC ⟨vC, rfl, hnC, hbC⟩; have K2 := Lib.hid (bel_trans (K1.out.alloc K1.out.size (.cells #[.int .i64 (-1)] 3)) hbC); have HV2 := Lib.hid (HV.out.2.keep (((Below.refl _ _).alloc (Nat.le_refl _) (.cells #[.int .i64 (-1)] 3)).trans (hbC.mono (by simp)))); obtain ⟨P, cp, rfl, hPl, hPi⟩ := hnC.ir; have HPP := Lib.hid (And.intro hPl hPi); clear x0 x1 hnC hbC hPl hPi; obtain ⟨x0, x1⟩ := FX.out _ K2.out)
  have hns := newSearch (m := m) (N := N) (es := es) (s := .slice sa es.length sc) (P := P) (cp := cp) (V := V) (cv := cv) (par := List.replicate N (-1)) (vals := List.replicate N (mNone m)) (w := wC) (W0 := W0) hm (HS.out.keep K2.out) (by omega) HPP.out.2 HV2.out (by have h1 := HV.out.2.lt; have h2 := HPP.out.1; simp at h2; omega) ⟨by have h1 := HPP.out.1; have h2 := K1.out.size; simp at h1; omega, HV.out.1⟩ K2.out (by simp) (by simp) (by intro i hi; simp at hi; simp [List.getD, hi]; exact mNone_in hm)
  rw [HVAL.out] at hns
  have HNS := Lib.hid hns
  clear hns
  go_wp2_with (go_at_call 93; (with_reducible refine (HNS.out).mono ?_); rintro e wD ⟨B, S, lo, rfl, hsD, hbD⟩; have HSD := Lib.hid (And.intro hsD hbD); clear hsD hbD)
  refine (HE.out _).mono ?_
  rintro e wE ⟨rfl, hbE⟩
  have hre := reach hm (HSD.out.1.keep hbE) (Nat.zero_le _) hOk_zero hsrc (mOne m) (-1) (mOne_in hm)
  have HRE := Lib.hid hre
  clear hre
  have hst0 : ({ stNew N (List.replicate N (-1)) (List.replicate N (mNone m)) with vals := (stNew N (List.replicate N (-1)) (List.replicate N (mNone m))).vals.set src (mOne m), par := (stNew N (List.replicate N (-1)) (List.replicate N (mNone m))).par.set src (-1) } : St) = bf0 m N src := by
    unfold stNew bf0
    simp only
    rw [vStart_set m N src hsrc, rep_set]
  rw [hst0] at HRE
  clear hst0
  go_wp2_with (go_at_call 94; (with_reducible refine (HRE.out).mono ?_); rintro e wF ⟨rfl, ⟨en, ev, hsF, hlF, hhF, hmF⟩, hcF⟩)
  have hfF : FInv W0 B m N (.slice sa es.length sc) (bf0 m N src) en P cp V cv S N lo wF (.slice none 0 0) ev := ⟨hsF, hhF, waits_congr (waits_start hm hsrc) (fun y => by rw [hmF y]; simp)⟩
  have hsu := settleUntil hm hfF HS.out HG.out.2 g3 (by rw [hlF]; simp) (Int.le_refl _) (by simp [bf0]) (by show 0 + nd (List.replicate N false) ≤ 1000; rw [nd_rep]; omega) target (by omega)
  rw [show nd (bf0 m N src).done = N from nd_rep N, show stRun m target es (N + 1) (bf0 m N src) = bfR m target es N src from rfl] at hsu
  have HSU := Lib.hid hsu
  have HCF := Lib.hid hcF
  clear hsu hfF hsF hlF hhF hmF hcF
  go_wp2_with (go_at_call 95; (with_reducible refine (HSU.out).mono ?_); rintro e wG ⟨rfl, ⟨en2, ov2, ev2, hfG⟩, hcG⟩; obtain ⟨⟨y0, y1, y2, y3, y4, y5, y6⟩, hBG⟩ := hfG.inv.cells; have hres := K0.out.2.2.1.keep hfG.inv.bel; have z0 : wG.cell? ⟨w.heap.size + 1, 0, none⟩ = some (.slice none 0 0) := (by simpa using hres.cell 0); have z1 : wG.cell? ⟨w.heap.size + 1, 1, none⟩ = some (.slice none 0 0) := (by simpa using hres.cell 1); have z2 : wG.cell? ⟨w.heap.size + 1, 2, none⟩ = some (.slice none 0 0) := (by simpa using hres.cell 2); have z3 : wG.cell? ⟨w.heap.size + 1, 3, none⟩ = some (.int .i64 0) := (by simpa using hres.cell 3); have f0 := hres.frozen 0; have f1 := hres.frozen 1; have f2 := hres.frozen 2; have f3 := hres.frozen 3; have HFG := Lib.hid hfG; obtain ⟨oa, oc, hov⟩ := own_slice hfG.inv.own; subst hov; clear y4 y5 y6 hfG hcG hres)
  try simp only [Exit.inBlock, Exit.then]
  refine bodyPost_ret (v := .agg #[.slice oa (bfR m target es N src).ord.length oc, .slice (some ⟨P, 0, none⟩) N cp, .slice (some ⟨V, 0, none⟩) N cv, .int .i64 (bfR m target es N src).looks]) ?_ rfl ?_
  · rw [results_cell1 rfl]
    go_simp
  have hG := HFG.out
  have hW := K0.out.2.2.2
  have hlo := hG.inv.hlo
  have hbb := hG.inv.hb
  have hch : ∀ u0 u1 u2 u3, Chg (w.heap.size + 1) (w.heap.size + 2) wG ((((wG.setCell ⟨w.heap.size + 1, 0, none⟩ u0).setCell ⟨w.heap.size + 1, 1, none⟩ u1).setCell ⟨w.heap.size + 1, 2, none⟩ u2).setCell ⟨w.heap.size + 1, 3, none⟩ u3) := fun u0 u1 u2 u3 => ((((Chg.refl _ _ _).setCell (by simp only; omega) (by simp only; omega) _).setCell (by simp only; omega) (by simp only; omega) _).setCell (by simp only; omega) (by simp only; omega) _).setCell (by simp only; omega) (by simp only; omega) _
  have hbw : Below w.heap.size w wG := K0.out.1.trans (hG.inv.bel.mono (by omega))
  refine ⟨_, _, _, rfl, ⟨?_, own_ok hG.inv.own⟩, bel_chg hbw (hch _ _ _ _) (by omega)⟩
  have hO : InR true wG lo wG.heap.size (.slice oa (bfR m target es N src).ord.length oc) (bfR m target es N src).ord.length 1 (cellI (bfR m target es N src).ord) := by
    have h1 := InR.of_own hG.inv.own
    obtain ⟨a, cap, he, hz⟩ := h1
    refine ⟨a, cap, he, ?_⟩
    rcases hz with h0 | ⟨b, off, rfl, k1, k2, k3, hc⟩
    · exact .inl h0
    · refine .inr ⟨b, off, rfl, k1, k2, k3, fun i hi => ⟨?_, (hc i hi).2⟩⟩
      rw [(hc i hi).1]
      have hi2 : i < (bfR m target es N src).ord.length := by omega
      simp [List.getD, hi2, cellI]
  have hP := hG.inv.par.inR cp
  have hV := hG.inv.vals.inR cv
  have e1 : (bfR m target es N src).par.length = N := hG.inv.ok.par
  have e2 : (bfR m target es N src).vals.length = N := hG.inv.ok.vals
  rw [e1] at hP ⊢
  rw [e2] at hV ⊢
  have hne := hG.inv.ne
  have hPl := hG.inv.par.lt
  have hVl := hG.inv.vals.lt
  have hsz := (hch (.int .i64 0) (.int .i64 0) (.int .i64 0) (.int .i64 0)).size
  exact ⟨_, _, _, _, _, _, ⟨hO.chg (hch _ _ _ _) (.inl (by omega)), hP.chg (hch _ _ _ _) (.inl (by omega)), hV.chg (hch _ _ _ _) (.inl (by omega))⟩, by simp; omega, fun _ => by omega⟩
theorem settledUntil {m : Int} {N src : Nat} {es : List Ed} {s : Value} {w : World} (target : Int) (hm : mKind m = true) (hs : RowE w s es) (hg : gVal N es = true) (hsrc : src < N) :
    Calls Try.prog 54 #[opsV m, .agg #[.int .i64 N, s], .int .i64 src, .int .i64 target] w fun e w' => ∃ a b c, e = .returned (.agg #[a, b, c, .int .i64 (bfR m target es N src).looks]) ∧ R3 true true w' w.heap.size w'.heap.size a b c (bfR m target es N src).ord.length (bfR m target es N src).par.length (bfR m target es N src).vals.length (cellI (bfR m target es N src).ord) (cellI (bfR m target es N src).par) (cellI (bfR m target es N src).vals) ∧ Below w.heap.size w w' :=
  (settledUntilO target hm hs hg hsrc).mono fun e w' ⟨a, b, c, h1, h2, h3⟩ => ⟨a, b, c, h1, h2.1, h3⟩
end Go.Proofs.Ytlmhccjppmhdbaa
