/- PathEdges, in the model. -/
import Derived.Test.YtjcfefpcilhelaaPathE
import Derived.Test.YtjcfefpcilhelaaFind3
namespace Go.Proofs.Ytjcfefpcilhelaa
open Go.RowKit Go.BigFrame Go.Deep
set_option linter.unusedVariables false
set_option linter.unusedSimpArgs false

/-- The weights of the first k edges of a path. -/
def peK (es : List Ed) (ps : List Int) (k : Nat) : List Int := (List.range k).map (peW es ps)
theorem peK_succ (es : List Ed) (ps : List Int) (k : Nat) : peK es ps (k + 1) = peK es ps k ++ [peW es ps k] := by unfold peK; rw [List.range_succ, List.map_append]; rfl
theorem peK_len (es : List Ed) (ps : List Int) (k : Nat) : (peK es ps k).length = k := by unfold peK; simp

set_option maxRecDepth 20000 in
set_option maxHeartbeats 4000000 in
theorem sPathEdges (n : Int) (es : List Ed) (ps : List Int) (s t : Value) (w : World) (hs : RowE w s es) (ht : Row w t ps) (hl : es.length ≤ 1048576) (hl2 : ps.length ≤ 1048576) :
    Calls Try.prog 50 #[.agg #[.int .i64 n, s], t] w fun e w' => ∃ v, e = .returned (.tuple #[v, .bool (peB n es ps)]) ∧ OwnI w w' v (peL n es ps) ∧ Below w.heap.size w w' := by
  have hgv := fun w' (h : Below w.heap.size w w') => sGraphValid n es s w' (hs.keep h) (by omega)
  obtain ⟨ad, cap, hs0, hz0⟩ := id hs
  subst hs0
  obtain ⟨ad2, cap2, ht0, hy0⟩ := id ht
  subst ht0
  have HZ := Lib.hid hz0
  have HY := Lib.hid hy0
  clear hz0 hy0
  have hb1 : Below w.heap.size w ((w.alloc (.cells #[.int .i64 n, .slice ad es.length cap] 25)).alloc (.cells #[] 3)) := ((Below.refl _ _).alloc (Nat.le_refl _) _).alloc (by simp) _
  have hx0 : Box ((w.alloc (.cells #[.int .i64 n, .slice ad es.length cap] 25)).alloc (.cells #[] 3)) w.heap.size 25 #[.int .i64 n, .slice ad es.length cap] := (Box.new w 25 #[.int .i64 n, .slice ad es.length cap]).alloc _
  have HX := Lib.hid (And.intro hb1 hx0)
  have HO0 : Hid (World.ownsRow ((w.alloc (.cells #[.int .i64 n, .slice ad es.length cap] 25)).alloc (.cells #[] 3)) (w.heap.size + 1) 3 1 (.slice (some ⟨w.heap.size + 1, 0, none⟩) 0 0) 0 []) := Lib.hid (by have := own_empty (w.alloc (.cells #[.int .i64 n, .slice ad es.length cap] 25)) 3 (w.heap.size + 1) (by simp); simpa using this)
  clear hb1 hx0
  cases hg : gVal n es
  · have e1 : peB n es ps = false := peB_head (by unfold peHead; rw [hg]; rfl)
    rw [peL_no e1, e1]
    rw [hg] at hgv
    have HV := Lib.hid hgv
    clear hgv hg e1 hs ht
    go_enter Try.func50, Try.ntmps50
    go_wp2
    generalize ((w.alloc (.cells #[.int .i64 n, .slice ad es.length cap] 25)).alloc (.cells #[] 3)) = W1 at HX HO0 ⊢
    have hff : ∀ w', Below W1.heap.size W1 w' → w'.cell? ⟨w.heap.size, 0, none⟩ = some (.int .i64 n) ∧ w'.cell? ⟨w.heap.size, 1, none⟩ = some (.slice ad es.length cap) := fun w' h => ⟨by simpa using (HX.out.2.keep h).cell 0, by simpa using (HX.out.2.keep h).cell 1⟩
    have FF := Lib.hid hff
    clear hff
    refine wp_region_below (by kernel_rfl) (by kernel_rfl) ?_
    repeat (go_big_quiet_step ((intro hw; first | with_reducible rfl | (obtain ⟨f0, f1⟩ := FF.out _ hw; simp only [f0, f1, Result.andThen]; first | exact ⟨trivial, rfl⟩ | exact ⟨rfl, rfl⟩) | (go_at_call 91; exact quietB (HV.out _ (bel_trans HX.out.1 hw)) hw))))
    refine wpQuiet_nil ?_
    intro w1 hw1
    go_wp2
    go_ret2
    exact ⟨.slice (some ⟨w.heap.size + 1, 0, none⟩) 0 0, rfl, ⟨_, 0, rfl, .inl rfl⟩, bel_trans HX.out.1 hw1⟩
  rw [hg] at hgv
  have HV := Lib.hid hgv
  have hHead : peHead n es ps = (decide (1 ≤ ps.length) && (decide (ps.length ≤ 51) && inN n (ps.getD 0 0))) := by unfold peHead; rw [hg, Bool.true_and]
  have HH := Lib.hid hHead
  have HG := Lib.hid hg
  clear hgv hg hHead
  by_cases h0 : ps = []
  · have e1 : peB n es ps = false := peB_head (by rw [HH.out, h0]; rfl)
    rw [peL_no e1, e1]
    clear e1 hs ht
    subst h0
    go_enter Try.func50, Try.ntmps50
    go_wp2
    generalize ((w.alloc (.cells #[.int .i64 n, .slice ad es.length cap] 25)).alloc (.cells #[] 3)) = W1 at HX HO0 ⊢
    have hff : ∀ w', Below W1.heap.size W1 w' → w'.cell? ⟨w.heap.size, 0, none⟩ = some (.int .i64 n) ∧ w'.cell? ⟨w.heap.size, 1, none⟩ = some (.slice ad es.length cap) := fun w' h => ⟨by simpa using (HX.out.2.keep h).cell 0, by simpa using (HX.out.2.keep h).cell 1⟩
    have FF := Lib.hid hff
    clear hff
    refine wp_region_below (by kernel_rfl) (by kernel_rfl) ?_
    repeat (go_big_quiet_step ((intro hw; first | with_reducible rfl | (obtain ⟨f0, f1⟩ := FF.out _ hw; simp only [f0, f1, Result.andThen]; first | exact ⟨trivial, rfl⟩ | exact ⟨rfl, rfl⟩) | (go_at_call 91; exact quietB (HV.out _ (bel_trans HX.out.1 hw)) hw))))
    refine wpQuiet_nil ?_
    intro w1 hw1
    go_wp2
    go_ret2
    exact ⟨.slice (some ⟨w.heap.size + 1, 0, none⟩) 0 0, rfl, ⟨_, 0, rfl, .inl rfl⟩, bel_trans HX.out.1 hw1⟩
  rcases HY.out with h1 | ⟨b, off, rfl, hb, hc⟩
  · exact absurd h1 h0
  obtain ⟨L, hL⟩ : ∃ L, ps.length = L + 1 := by
    cases ps with
    | nil => exact absurd rfl h0
    | cons x xs => exact ⟨xs.length, rfl⟩
  have QL := Lib.hid hL
  have hpos : 0 < ps.length := by omega
  have d0 : decide ((ps.length : Int) < 1) = false := decide_eq_false (by omega)
  clear hL
  by_cases h51 : 51 < ps.length
  · have e1 : peB n es ps = false := peB_head (by rw [HH.out, decide_eq_false (show ¬ ps.length ≤ 51 by omega)]; simp)
    rw [peL_no e1, e1]
    have d1 : (51 : Int) < ps.length := by omega
    clear e1 hs ht h51 hc
    go_enter Try.func50, Try.ntmps50
    go_wp2
    generalize ((w.alloc (.cells #[.int .i64 n, .slice ad es.length cap] 25)).alloc (.cells #[] 3)) = W1 at HX HO0 ⊢
    have hff : ∀ w', Below W1.heap.size W1 w' → w'.cell? ⟨w.heap.size, 0, none⟩ = some (.int .i64 n) ∧ w'.cell? ⟨w.heap.size, 1, none⟩ = some (.slice ad es.length cap) := fun w' h => ⟨by simpa using (HX.out.2.keep h).cell 0, by simpa using (HX.out.2.keep h).cell 1⟩
    have FF := Lib.hid hff
    clear hff
    refine wp_region_below (by kernel_rfl) (by kernel_rfl) ?_
    repeat (go_big_quiet_step ((intro hw; first | with_reducible rfl | (obtain ⟨f0, f1⟩ := FF.out _ hw; simp only [f0, f1, Result.andThen]; first | exact ⟨trivial, rfl⟩ | exact ⟨rfl, rfl⟩) | (go_at_call 91; exact quietB (HV.out _ (bel_trans HX.out.1 hw)) hw))))
    refine wpQuiet_nil ?_
    intro w1 hw1
    go_wp2
    go_ret2
    exact ⟨.slice (some ⟨w.heap.size + 1, 0, none⟩) 0 0, rfl, ⟨_, 0, rfl, .inl rfl⟩, bel_trans HX.out.1 hw1⟩
  have d1 : decide ((51 : Int) < ps.length) = false := decide_eq_false (by omega)
  obtain ⟨p0, hp0⟩ : ∃ p0, p0 = ps.getD 0 0 := ⟨_, rfl⟩
  have hc0 := hc 0 (by omega)
  rw [← hp0] at hc0
  rw [Nat.add_zero] at hc0
  by_cases hneg : p0 < 0
  · have e1 : peB n es ps = false := peB_head (by rw [HH.out, ← hp0]; unfold inN; rw [decide_eq_false (show ¬ (0 ≤ p0) by omega)]; simp)
    rw [peL_no e1, e1]
    clear e1 hs ht h51 hc hp0
    go_enter Try.func50, Try.ntmps50
    go_wp2
    generalize ((w.alloc (.cells #[.int .i64 n, .slice ad es.length cap] 25)).alloc (.cells #[] 3)) = W1 at HX HO0 ⊢
    have hff : ∀ w', Below W1.heap.size W1 w' → w'.cell? ⟨w.heap.size, 0, none⟩ = some (.int .i64 n) ∧ w'.cell? ⟨w.heap.size, 1, none⟩ = some (.slice ad es.length cap) ∧ w'.cell? ⟨b, off, none⟩ = some (.int .i64 p0) := fun w' h => ⟨by simpa using (HX.out.2.keep h).cell 0, by simpa using (HX.out.2.keep h).cell 1, ((bel_trans HX.out.1 h).cell (p := ⟨b, off, none⟩) hb).trans hc0⟩
    have FF := Lib.hid hff
    clear hff hc0
    refine wp_region_below (by kernel_rfl) (by kernel_rfl) ?_
    repeat (go_big_quiet_step ((intro hw; first | with_reducible rfl | (obtain ⟨f0, f1, f2⟩ := FF.out _ hw; simp only [f0, f1, f2, Result.andThen]; first | exact ⟨trivial, rfl⟩ | exact ⟨rfl, rfl⟩) | (go_at_call 91; exact quietB (HV.out _ (bel_trans HX.out.1 hw)) hw))))
    refine wpQuiet_nil ?_
    intro w1 hw1
    go_wp2
    go_ret2
    exact ⟨.slice (some ⟨w.heap.size + 1, 0, none⟩) 0 0, rfl, ⟨_, 0, rfl, .inl rfl⟩, bel_trans HX.out.1 hw1⟩
  have d2 : decide (p0 < 0) = false := decide_eq_false hneg
  by_cases hbig : n ≤ p0
  · have e1 : peB n es ps = false := peB_head (by rw [HH.out, ← hp0]; unfold inN; rw [decide_eq_false (show ¬ (p0 < n) by omega)]; simp)
    rw [peL_no e1, e1]
    clear e1 hs ht h51 hc hp0 hneg
    go_enter Try.func50, Try.ntmps50
    go_wp2
    generalize ((w.alloc (.cells #[.int .i64 n, .slice ad es.length cap] 25)).alloc (.cells #[] 3)) = W1 at HX HO0 ⊢
    have hff : ∀ w', Below W1.heap.size W1 w' → w'.cell? ⟨w.heap.size, 0, none⟩ = some (.int .i64 n) ∧ w'.cell? ⟨w.heap.size, 1, none⟩ = some (.slice ad es.length cap) ∧ w'.cell? ⟨b, off, none⟩ = some (.int .i64 p0) := fun w' h => ⟨by simpa using (HX.out.2.keep h).cell 0, by simpa using (HX.out.2.keep h).cell 1, ((bel_trans HX.out.1 h).cell (p := ⟨b, off, none⟩) hb).trans hc0⟩
    have FF := Lib.hid hff
    clear hff hc0
    refine wp_region_below (by kernel_rfl) (by kernel_rfl) ?_
    repeat (go_big_quiet_step ((intro hw; first | with_reducible rfl | (obtain ⟨f0, f1, f2⟩ := FF.out _ hw; simp only [f0, f1, f2, Result.andThen]; first | exact ⟨trivial, rfl⟩ | exact ⟨rfl, rfl⟩) | (go_at_call 91; exact quietB (HV.out _ (bel_trans HX.out.1 hw)) hw))))
    refine wpQuiet_nil ?_
    intro w1 hw1
    go_wp2
    go_ret2
    exact ⟨.slice (some ⟨w.heap.size + 1, 0, none⟩) 0 0, rfl, ⟨_, 0, rfl, .inl rfl⟩, bel_trans HX.out.1 hw1⟩
  have d3 : decide (n ≤ p0) = false := decide_eq_false hbig
  have HD : Hid (peHead n es ps = true) := Lib.hid (by rw [HH.out, ← hp0]; unfold inN; simp; omega)
  have hfe := fun a b w' (h : Below w.heap.size w w') => l2Find n es a b (.slice ad es.length cap) w' (hs.keep h) hl
  have HFE := Lib.hid hfe
  have HC := Lib.hid hc
  clear h51 hc hp0 hs ht hfe hneg hbig
  obtain ⟨i0, hi, hz0', hz1, hz2⟩ := info_parts info_int2
  have HI : Hid (Try.prog.info? 3 = some i0 ∧ i0.zero = some (.int .i64 0) ∧ i0.size = 1 ∧ i0.bytes = 8) := Lib.hid ⟨hi, hz0', hz1, hz2⟩
  clear hi hz0' hz1 hz2
  go_enter Try.func50, Try.ntmps50
  go_wp2
  generalize ((w.alloc (.cells #[.int .i64 n, .slice ad es.length cap] 25)).alloc (.cells #[] 3)) = W1 at HX HO0 ⊢
  have hff : ∀ w', Below W1.heap.size W1 w' → w'.cell? ⟨w.heap.size, 0, none⟩ = some (.int .i64 n) ∧ w'.cell? ⟨w.heap.size, 1, none⟩ = some (.slice ad es.length cap) ∧ w'.cell? ⟨b, off, none⟩ = some (.int .i64 p0) := fun w' h => ⟨by simpa using (HX.out.2.keep h).cell 0, by simpa using (HX.out.2.keep h).cell 1, ((bel_trans HX.out.1 h).cell (p := ⟨b, off, none⟩) hb).trans hc0⟩
  have FF := Lib.hid hff
  clear hff hc0
  refine wp_region_below (by kernel_rfl) (by kernel_rfl) ?_
  repeat (go_big_quiet_step ((intro hw; first | with_reducible rfl | (obtain ⟨f0, f1, f2⟩ := FF.out _ hw; simp only [f0, f1, f2, Result.andThen]; first | exact ⟨trivial, rfl⟩ | exact ⟨rfl, rfl⟩) | (go_at_call 91; exact quietB (HV.out _ (bel_trans HX.out.1 hw)) hw))))
  refine wpQuiet_nil ?_
  intro w1 hw1
  have HX1 := Lib.hid (And.intro (bel_trans HX.out.1 hw1) (HX.out.2.keep hw1))
  have HO1 := Lib.hid (own_keep HO0.out hw1)
  clear hw1
  go_wp2
  go_loopw [7, 6] (fun c v wr => ∃ k : Nat, k ≤ L ∧ c = .int .i64 ((k : Int) + 1) ∧ (∀ i, i < k → peF es ps i = true) ∧ wr.ownsRow (w.heap.size + 1) 3 1 v (peK es ps k).length ((peK es ps k).map (Value.int .i64)) ∧ Hid (Below w.heap.size w wr ∧ Box wr w.heap.size 25 #[.int .i64 n, .slice ad es.length cap])) (fun c _ _ => L + 1 - (intOf c).toNat)
  case atStart => exact ⟨0, Nat.zero_le _, rfl, fun i h => by omega, HO1.out, HX1⟩
  case round =>
    obtain ⟨k, hk, rfl, hall, hrow, HR⟩ := hrel
    have HA := Lib.hid hall
    have HROW := Lib.hid hrow
    clear hall hrow
    by_cases hlt : k < L
    · have hlt' : (k : Int) + 1 < ps.length := by have := QL.out; omega
      obtain ⟨x, hx⟩ : ∃ x, x = ps.getD k 0 := ⟨_, rfl⟩
      obtain ⟨y, hy⟩ : ∃ y, y = ps.getD (k + 1) 0 := ⟨_, rfl⟩
      have hcx := HC.out k (by have := QL.out; omega)
      have hcy := HC.out (k + 1) (by have := QL.out; omega)
      rw [← hx] at hcx
      rw [← hy] at hcy
      have hpf : peF es ps k = fdE es x y := by unfold peF; rw [← hx, ← hy]
      have hpw : peW es ps k = (es.getD (lbE es x y) (0, 0, 0)).2.2 := by unfold peW; rw [← hx, ← hy]
      have hff : ∀ w', Below wr.heap.size wr w' → w'.cell? ⟨w.heap.size, 0, none⟩ = some (.int .i64 n) ∧ w'.cell? ⟨w.heap.size, 1, none⟩ = some (.slice ad es.length cap) ∧ w'.cell? ⟨b, off + k, none⟩ = some (.int .i64 x) ∧ w'.cell? ⟨b, off + (k + 1), none⟩ = some (.int .i64 y) := fun w' h =>
        ⟨by simpa using (HR.out.2.keep h).cell 0, by simpa using (HR.out.2.keep h).cell 1, ((bel_trans HR.out.1 h).cell (p := ⟨b, off + k, none⟩) hb).trans hcx, ((bel_trans HR.out.1 h).cell (p := ⟨b, off + (k + 1), none⟩) hb).trans hcy⟩
      have FF := Lib.hid hff
      have HPF := Lib.hid hpf
      have HPW := Lib.hid hpw
      have hl51 : L ≤ 1048576 := by have := QL.out; omega
      have hk1 : k + 1 < ps.length := by have := QL.out; omega
      have hk0' : (k : Int) < ps.length := by omega
      have hk2 : k < ps.length := by omega
      have hfe2 := fun w' h => HFE.out x y w' h
      have hlv := lfE_val HG.out x y
      clear hx hy hcx hcy hpf hpw hff
      cases hf : fdE es x y
      · rw [hf, if_neg (by decide)] at hlv
        rw [hlv] at hfe2
        have HFE2 := Lib.hid hfe2
        have HNO := Lib.hid (peB_at (n := n) (es := es) (k := k) (by have := QL.out; omega) (HPF.out.trans hf))
        clear hfe2 hf hlv
        go_wp2
        refine wp_region_below (by kernel_rfl) (by kernel_rfl) ?_
        repeat (go_big_quiet_step ((intro hw; first | with_reducible rfl | (obtain ⟨f0, f1, f2, f3⟩ := FF.out _ hw; simp only [f0, f1, f2, f3, Result.andThen]; first | exact ⟨trivial, rfl⟩ | exact ⟨rfl, rfl⟩) | (go_at_call 92; exact quietB (HFE2.out _ (bel_trans HR.out.1 hw)) hw))))
        refine wpQuiet_nil ?_
        intro w2 hw2
        go_wp2
        go_ret2
        exact ⟨_, by rw [HNO.out]; rfl, by rw [peL_no HNO.out]; exact ⟨_, 0, rfl, .inl rfl⟩, (bel_trans HR.out.1 hw2).alloc (bel_trans HR.out.1 hw2).size _⟩
      · rw [hf, if_pos rfl] at hlv
        rw [hlv] at hfe2
        have hlb : lbE es x y < es.length := by
          unfold fdE at hf
          simp only [Bool.and_eq_true, decide_eq_true_eq] at hf
          exact hf.1
        have HPT := Lib.hid (HPF.out.trans hf)
        obtain ⟨i, hi⟩ : ∃ i, i = lbE es x y := ⟨_, rfl⟩
        rw [← hi] at hlb hfe2
        have hpw2 := HPW.out
        rw [← hi] at hpw2
        obtain ⟨z, hz⟩ : ∃ z, z = (es.getD i (0, 0, 0)).2.2 := ⟨_, rfl⟩
        rw [← hz] at hpw2
        have hsucc := peK_succ es ps k
        rw [hpw2] at hsucc
        have HSU := Lib.hid hsucc
        have HFE2 := Lib.hid hfe2
        rcases HZ.out with h0 | ⟨eb, eo, rfl, heb, hec⟩
        · rw [h0] at hlb; simp at hlb
        have hcz := (hec i hlb).2.2
        rw [← hz] at hcz
        have HCZ := Lib.hid hcz
        have hlb' : (i : Int) < es.length := by omega
        have hneg : decide ((i : Int) < 0) = false := decide_eq_false (by omega)
        clear hfe2 hf hi hpw2 hz hec hcz hlv hsucc
        go_wp2
        refine wp_region_below (by kernel_rfl) (by kernel_rfl) ?_
        repeat (go_big_quiet_step ((intro hw; first | with_reducible rfl | (obtain ⟨f0, f1, f2, f3⟩ := FF.out _ hw; simp only [f0, f1, f2, f3, Result.andThen]; first | exact ⟨trivial, rfl⟩ | exact ⟨rfl, rfl⟩) | (go_at_call 92; exact quietB (HFE2.out _ (bel_trans HR.out.1 hw)) hw))))
        refine wpQuiet_nil ?_
        intro w2 hw2
        have HX2 := Lib.hid (And.intro (bel_trans HR.out.1 hw2) (HR.out.2.keep hw2))
        have HOW2 := Lib.hid (own_keep HROW.out hw2)
        have g0 : w2.cell? ⟨w.heap.size, 1, none⟩ = some (.slice (some ⟨eb, eo, none⟩) es.length cap) := by simpa using HX2.out.2.cell 1
        have g1 := (HX2.out.1.cell (p := ⟨eb, eo + i * 3 + 2, none⟩) heb).trans HCZ.out
        have hln : (peK es ps k).length = k := peK_len _ _ _
        have HLN := Lib.hid hln
        clear hw2 hln
        obtain ⟨hi, hz0, hz1, hz2⟩ := HI.out
        go_wp2_with (at_builtin; refine wpList_append_own _ rfl (.tmp 58) (.tmp 65) 28 rfl (w.heap.size + 1) 3 i0 (.int .i64 0) 1 8 Try.underlying28 hi hz0 hz1 hz2 rfl (by decide) _ _ _ rfl (HOW2.out.alloc _) ⟨w2.heap.size, 0, none⟩ 1 1 [.int .i64 z] rfl rfl ?c1 ?c2 ?c3 ?c4 ?c5 ?_)
        case c1 => exact cell_one_new _ _ _
        case c2 => simp [Value.oneCell']
        case c3 => have := HLN.out; unfold maxLen; omega
        case c4 => have := HLN.out; omega
        case c5 => have := HX2.out.2.lt; simp; omega
        intro v' w6 hown6 hgrow6 _
        have hown6' : w6.ownsRow (w.heap.size + 1) 3 1 v' (peK es ps (k + 1)).length ((peK es ps (k + 1)).map (Value.int .i64)) := by rw [HSU.out]; simpa using hown6
        have H7 := Lib.hid hown6'
        have H8 := Lib.hid (And.intro ((HX2.out.1.alloc HX2.out.1.size _).grown hgrow6 (by have := HX2.out.1.size; simp; omega) (fun q hq => by have := (HOW2.out.lt q hq).1; omega)) ((HX2.out.2.alloc _).grown hgrow6 (HOW2.out.alloc _) (by decide)))
        clear hown6 hown6' hgrow6 hi hz0 hz1 hz2
        go_wp2
        go_roundw
        case rel => first | exact ⟨k + 1, by omega, by go_num, fun j hj => (by
            by_cases e : j = k
            · rw [e]; exact HPT.out
            · exact HA.out j (by omega)), H7.out, H8⟩ | ((repeat apply Exists.intro); exact ⟨⟨k + 1, by omega, by go_num, fun j hj => (by
            by_cases e : j = k
            · rw [e]; exact HPT.out
            · exact HA.out j (by omega)), H7.out, H8⟩, rfl⟩)
        case measure => simp [intOf]; omega
    · have hke : k = L := by omega
      have hkk : ¬ ((k : Int) + 1 < ps.length) := by have := QL.out; omega
      have HK := Lib.hid hke
      clear hke
      have hlen : ps.length - 1 = L := by have := QL.out; omega
      have HB : Hid (peB n es ps = true) := Lib.hid (peB_all HD.out (fun j hj => HA.out j (by have := HK.out; omega)))
      have HLN := Lib.hid hlen
      clear hlen
      go_wp2
      go_ret2
      have hpl : peL n es ps = peK es ps k := by rw [peL_yes HB.out, HLN.out, HK.out]; rfl
      refine ⟨_, by rw [HB.out]; rfl, ?_, HR.out.1⟩
      rw [hpl]
      exact OwnI.of HROW.out (Nat.le_succ _)
end Go.Proofs.Ytjcfefpcilhelaa
