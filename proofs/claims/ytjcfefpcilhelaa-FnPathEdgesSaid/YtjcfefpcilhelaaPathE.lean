/- PathEdges, in the program. -/
import Derived.Test.YtjcfefpcilhelaaNext
import Derived.Test.YtjcfefpcilhelaaFind3
import Derived.Test.YtjcfefpcilhelaaVEdges
import Derived.Test.YtjcfefpcilhelaaVStartT
import Derived.Test.YtjcfefpcilhelaaBoxes
namespace Go.Proofs.Ytjcfefpcilhelaa
open Go.RowKit Go.BigFrame Go.Deep
set_option linter.unusedVariables false
set_option linter.unusedSimpArgs false

/-- The weight of the edge behind a place of a path. -/
def peW (es : List Ed) (ps : List Int) (k : Nat) : Int := (es.getD (lbE es (ps.getD k 0) (ps.getD (k + 1) 0)) (0, 0, 0)).2.2
/-- Is there an edge behind a place of a path? -/
def peF (es : List Ed) (ps : List Int) (k : Nat) : Bool := fdE es (ps.getD k 0) (ps.getD (k + 1) 0)
def peHead (n : Int) (es : List Ed) (ps : List Int) : Bool := gVal n es && (decide (1 ≤ ps.length) && (decide (ps.length ≤ 51) && inN n (ps.getD 0 0)))
def peB (n : Int) (es : List Ed) (ps : List Int) : Bool := peHead n es ps && (List.range (ps.length - 1)).all (peF es ps)
def peL (n : Int) (es : List Ed) (ps : List Int) : List Int := if peB n es ps = true then (List.range (ps.length - 1)).map (peW es ps) else []
theorem peB_head {n : Int} {es : List Ed} {ps : List Int} (h : peHead n es ps = false) : peB n es ps = false := by unfold peB; rw [h]; rfl
theorem peB_at {n : Int} {es : List Ed} {ps : List Int} {k : Nat} (hk : k < ps.length - 1) (h : peF es ps k = false) : peB n es ps = false := by
  unfold peB
  have : (List.range (ps.length - 1)).all (peF es ps) = false := by
    rw [List.all_eq_false]
    exact ⟨k, by simpa using hk, by rw [h]; decide⟩
  rw [this, Bool.and_false]
theorem peB_all {n : Int} {es : List Ed} {ps : List Int} (h : peHead n es ps = true) (h2 : ∀ k, k < ps.length - 1 → peF es ps k = true) : peB n es ps = true := by
  unfold peB
  rw [h, Bool.true_and, List.all_eq_true]
  intro k hk
  exact h2 k (by simpa using hk)
theorem peL_no {n : Int} {es : List Ed} {ps : List Int} (h : peB n es ps = false) : peL n es ps = [] := by unfold peL; rw [h]; rfl
theorem peL_yes {n : Int} {es : List Ed} {ps : List Int} (h : peB n es ps = true) : peL n es ps = (List.range (ps.length - 1)).map (peW es ps) := by unfold peL; rw [if_pos h]
theorem peL_len (n : Int) (es : List Ed) (ps : List Int) : (peL n es ps).length ≤ ps.length := by
  unfold peL
  split
  · simp
  · simp
/-- The weights that are there behind k steps. -/
def peP (es : List Ed) (ps : List Int) (k : Nat) : Nat → Value := fun i => .int .i64 (if i < k then peW es ps i else 0)

set_option maxRecDepth 20000 in
set_option maxHeartbeats 4000000 in
theorem pathEdges (n : Int) (es : List Ed) (ps : List Int) (s t : Value) (w : World) (hs : RowE w s es) (ht : Row w t ps) (hl : es.length ≤ 1048576) (hl2 : ps.length ≤ 1048576) :
    Calls Try.prog 33 #[.agg #[.int .i64 n, s], t] w fun e w' => ∃ v, e = .returned (.tuple #[v, .bool (peB n es ps)]) ∧ OwnI w w' v (peL n es ps) ∧ Below w.heap.size w w' := by
  have hgv := fun w' (h : Below w.heap.size w w') => graphValid n es s w' (hs.keep h) (by omega)
  have hhn := fun w' => hasNode n (ps.getD 0 0) s w'
  obtain ⟨ad, cap, hs0, hz0⟩ := id hs
  subst hs0
  obtain ⟨ad2, cap2, ht0, hy0⟩ := id ht
  subst ht0
  have HZ := Lib.hid hz0
  have HY := Lib.hid hy0
  clear hz0 hy0
  have hb1 : Below w.heap.size w (w.alloc (.cells #[.int .i64 n, .slice ad es.length cap] 25)) := (Below.refl _ _).alloc (Nat.le_refl _) _
  have hx0 := Box.new w 25 #[.int .i64 n, .slice ad es.length cap]
  have HX := Lib.hid (And.intro hb1 hx0)
  clear hb1 hx0
  cases hg : gVal n es
  · have e1 : peB n es ps = false := peB_head (by unfold peHead; rw [hg]; rfl)
    rw [peL_no e1, e1]
    rw [hg] at hgv
    have HV := Lib.hid hgv
    clear hgv hhn hg e1 hs ht
    go_enter Try.func33, Try.ntmps33
    go_wp2
    generalize (w.alloc (.cells #[.int .i64 n, .slice ad es.length cap] 25)) = W1 at HX ⊢
    have hff : ∀ w', Below W1.heap.size W1 w' → w'.cell? ⟨w.heap.size, 0, none⟩ = some (.int .i64 n) ∧ w'.cell? ⟨w.heap.size, 1, none⟩ = some (.slice ad es.length cap) := fun w' h => ⟨by simpa using (HX.out.2.keep h).cell 0, by simpa using (HX.out.2.keep h).cell 1⟩
    have FF := Lib.hid hff
    clear hff
    refine wp_region_below (by kernel_rfl) (by kernel_rfl) ?_
    repeat (go_big_quiet_step ((intro hw; first | with_reducible rfl | (obtain ⟨f0, f1⟩ := FF.out _ hw; simp only [f0, f1, Result.andThen]; first | exact ⟨trivial, rfl⟩ | exact ⟨rfl, rfl⟩) | (go_at_call 76; exact quietB (HV.out _ (bel_trans HX.out.1 hw)) hw))))
    refine wpQuiet_nil ?_
    intro w1 hw1
    go_wp2
    go_ret2
    exact ⟨_, rfl, ⟨none, 0, rfl, .inl rfl⟩, bel_trans HX.out.1 hw1⟩
  rw [hg] at hgv
  have HV := Lib.hid hgv
  have hHead : peHead n es ps = (decide (1 ≤ ps.length) && (decide (ps.length ≤ 51) && inN n (ps.getD 0 0))) := by unfold peHead; rw [hg, Bool.true_and]
  have HH := Lib.hid hHead
  have HG := Lib.hid hg
  clear hgv hg hHead
  by_cases h0 : ps = []
  · have e1 : peB n es ps = false := peB_head (by rw [HH.out, h0]; rfl)
    rw [peL_no e1, e1]
    clear hhn e1 hs ht
    subst h0
    go_enter Try.func33, Try.ntmps33
    go_wp2
    generalize (w.alloc (.cells #[.int .i64 n, .slice ad es.length cap] 25)) = W1 at HX ⊢
    have hff : ∀ w', Below W1.heap.size W1 w' → w'.cell? ⟨w.heap.size, 0, none⟩ = some (.int .i64 n) ∧ w'.cell? ⟨w.heap.size, 1, none⟩ = some (.slice ad es.length cap) := fun w' h => ⟨by simpa using (HX.out.2.keep h).cell 0, by simpa using (HX.out.2.keep h).cell 1⟩
    have FF := Lib.hid hff
    clear hff
    refine wp_region_below (by kernel_rfl) (by kernel_rfl) ?_
    repeat (go_big_quiet_step ((intro hw; first | with_reducible rfl | (obtain ⟨f0, f1⟩ := FF.out _ hw; simp only [f0, f1, Result.andThen]; first | exact ⟨trivial, rfl⟩ | exact ⟨rfl, rfl⟩) | (go_at_call 76; exact quietB (HV.out _ (bel_trans HX.out.1 hw)) hw))))
    refine wpQuiet_nil ?_
    intro w1 hw1
    go_wp2
    go_ret2
    exact ⟨_, rfl, ⟨none, 0, rfl, .inl rfl⟩, bel_trans HX.out.1 hw1⟩
  rcases HY.out with h1 | ⟨b, off, rfl, hb, hc⟩
  · exact absurd h1 h0
  obtain ⟨L, hL⟩ : ∃ L, ps.length = L + 1 := by
    cases ps with
    | nil => exact absurd rfl h0
    | cons x xs => exact ⟨xs.length, rfl⟩
  have QL := Lib.hid hL
  have hpos : 0 < ps.length := by omega
  have d0 : ((ps.length : Int) == 0) = false := by simp [h0]
  clear hL
  by_cases h51 : 51 < ps.length
  · have e1 : peB n es ps = false := peB_head (by rw [HH.out, decide_eq_false (show ¬ ps.length ≤ 51 by omega)]; simp)
    rw [peL_no e1, e1]
    have d1 : (51 : Int) < ps.length := by omega
    clear hhn e1 hs ht h51 hc
    go_enter Try.func33, Try.ntmps33
    go_wp2
    generalize (w.alloc (.cells #[.int .i64 n, .slice ad es.length cap] 25)) = W1 at HX ⊢
    have hff : ∀ w', Below W1.heap.size W1 w' → w'.cell? ⟨w.heap.size, 0, none⟩ = some (.int .i64 n) ∧ w'.cell? ⟨w.heap.size, 1, none⟩ = some (.slice ad es.length cap) := fun w' h => ⟨by simpa using (HX.out.2.keep h).cell 0, by simpa using (HX.out.2.keep h).cell 1⟩
    have FF := Lib.hid hff
    clear hff
    refine wp_region_below (by kernel_rfl) (by kernel_rfl) ?_
    repeat (go_big_quiet_step ((intro hw; first | with_reducible rfl | (obtain ⟨f0, f1⟩ := FF.out _ hw; simp only [f0, f1, Result.andThen]; first | exact ⟨trivial, rfl⟩ | exact ⟨rfl, rfl⟩) | (go_at_call 76; exact quietB (HV.out _ (bel_trans HX.out.1 hw)) hw))))
    refine wpQuiet_nil ?_
    intro w1 hw1
    go_wp2
    go_ret2
    exact ⟨_, rfl, ⟨none, 0, rfl, .inl rfl⟩, bel_trans HX.out.1 hw1⟩
  have d1 : decide ((51 : Int) < ps.length) = false := decide_eq_false (by omega)
  obtain ⟨p0, hp0⟩ : ∃ p0, p0 = ps.getD 0 0 := ⟨_, rfl⟩
  have hc0 := hc 0 (by omega)
  rw [← hp0] at hhn hc0
  rw [Nat.add_zero] at hc0
  cases hin : inN n p0
  · have e1 : peB n es ps = false := peB_head (by rw [HH.out, ← hp0, hin]; simp)
    rw [peL_no e1, e1]
    have hin2 := hin
    unfold inN at hin2
    rw [hin2] at hhn
    have HN := Lib.hid hhn
    clear hhn e1 hs ht h51 hc hp0 hin hin2
    go_enter Try.func33, Try.ntmps33
    go_wp2
    generalize (w.alloc (.cells #[.int .i64 n, .slice ad es.length cap] 25)) = W1 at HX ⊢
    have hff : ∀ w', Below W1.heap.size W1 w' → w'.cell? ⟨w.heap.size, 0, none⟩ = some (.int .i64 n) ∧ w'.cell? ⟨w.heap.size, 1, none⟩ = some (.slice ad es.length cap) ∧ w'.cell? ⟨b, off, none⟩ = some (.int .i64 p0) := fun w' h => ⟨by simpa using (HX.out.2.keep h).cell 0, by simpa using (HX.out.2.keep h).cell 1, ((bel_trans HX.out.1 h).cell (p := ⟨b, off, none⟩) hb).trans hc0⟩
    have FF := Lib.hid hff
    clear hff hc0
    refine wp_region_below (by kernel_rfl) (by kernel_rfl) ?_
    repeat (go_big_quiet_step ((intro hw; first | with_reducible rfl | (obtain ⟨f0, f1, f2⟩ := FF.out _ hw; simp only [f0, f1, f2, Result.andThen]; first | exact ⟨trivial, rfl⟩ | exact ⟨rfl, rfl⟩) | (go_at_call 76; exact quietB (HV.out _ (bel_trans HX.out.1 hw)) hw) | (go_at_call 67; exact quietB (HN.out _) hw))))
    refine wpQuiet_nil ?_
    intro w1 hw1
    go_wp2
    go_ret2
    exact ⟨_, rfl, ⟨none, 0, rfl, .inl rfl⟩, bel_trans HX.out.1 hw1⟩
  have HD : Hid (peHead n es ps = true) := Lib.hid (by rw [HH.out, ← hp0, hin]; simp; omega)
  have hin2 := hin
  unfold inN at hin2
  rw [hin2] at hhn
  have HN := Lib.hid hhn
  have hfe := fun a b w' (h : Below w.heap.size w w') => findEdge n es a b (.slice ad es.length cap) w' (hs.keep h) hl (gVal_mono HG.out a b)
  have HFE := Lib.hid hfe
  have HC := Lib.hid hc
  clear hhn h51 hc hp0 hin hin2 hs ht hfe
  go_enter Try.func33, Try.ntmps33
  go_wp2
  generalize (w.alloc (.cells #[.int .i64 n, .slice ad es.length cap] 25)) = W1 at HX ⊢
  have hff : ∀ w', Below W1.heap.size W1 w' → w'.cell? ⟨w.heap.size, 0, none⟩ = some (.int .i64 n) ∧ w'.cell? ⟨w.heap.size, 1, none⟩ = some (.slice ad es.length cap) ∧ w'.cell? ⟨b, off, none⟩ = some (.int .i64 p0) := fun w' h => ⟨by simpa using (HX.out.2.keep h).cell 0, by simpa using (HX.out.2.keep h).cell 1, ((bel_trans HX.out.1 h).cell (p := ⟨b, off, none⟩) hb).trans hc0⟩
  have FF := Lib.hid hff
  clear hff hc0
  refine wp_region_below (by kernel_rfl) (by kernel_rfl) ?_
  repeat (go_big_quiet_step ((intro hw; first | with_reducible rfl | (obtain ⟨f0, f1, f2⟩ := FF.out _ hw; simp only [f0, f1, f2, Result.andThen]; first | exact ⟨trivial, rfl⟩ | exact ⟨rfl, rfl⟩) | (go_at_call 76; exact quietB (HV.out _ (bel_trans HX.out.1 hw)) hw) | (go_at_call 67; exact quietB (HN.out _) hw))))
  refine wpQuiet_nil ?_
  intro w1 hw1
  have HX1 := Lib.hid (And.intro (bel_trans HX.out.1 hw1) (HX.out.2.keep hw1))
  clear hw1
  have hs1 : ((ps.length : Int) - 1) = (L : Int) := by have := QL.out; omega
  have hmk := run_make_row' (P := Try.prog) 28 3 (.int .i64 0) 8 Try.underlying28 info_int2 rfl .i64 .i64 L (by have := QL.out; omega) (by have := QL.out; omega)
  go_wp2
  clear hmk
  go_loopw [37] (fun c wr => ∃ k : Nat, k ≤ L ∧ c = .int .i64 k ∧ (∀ i, i < k → peF es ps i = true) ∧ wr.rowIs w1.heap.size 3 L (peP es ps k) ∧ Hid (Below w.heap.size w wr ∧ Box wr w.heap.size 25 #[.int .i64 n, .slice ad es.length cap])) (fun c _ => L - (intOf c).toNat)
  case atStart => exact ⟨0, Nat.zero_le _, rfl, fun i h => by omega, (World.rowIs_made w1 _ _ _).congr (fun i _ => by simp [peP]), Lib.hid ⟨HX1.out.1.alloc HX1.out.1.size _, HX1.out.2.alloc _⟩⟩
  case round =>
    obtain ⟨k, hk, rfl, hall, hrow, HR⟩ := hrel
    have HA := Lib.hid hall
    have HROW := Lib.hid hrow
    clear hall hrow
    by_cases hlt : k < L
    · have hlt' : (k : Int) < L := by omega
      obtain ⟨x, hx⟩ : ∃ x, x = ps.getD k 0 := ⟨_, rfl⟩
      obtain ⟨y, hy⟩ : ∃ y, y = ps.getD (k + 1) 0 := ⟨_, rfl⟩
      have hcx := HC.out k (by have := QL.out; omega)
      have hcy := HC.out (k + 1) (by have := QL.out; omega)
      rw [← hx] at hcx
      rw [← hy] at hcy
      have hpf : peF es ps k = fdE es x y := by unfold peF; rw [← hx, ← hy]
      have hpw : peW es ps k = (es.getD (lbE es x y) (0, 0, 0)).2.2 := by unfold peW; rw [← hx, ← hy]
      have hff : ∀ w', Below wr.heap.size wr w' → w'.cell? ⟨w.heap.size, 0, none⟩ = some (.int .i64 n) ∧ w'.cell? ⟨w.heap.size, 1, none⟩ = some (.slice ad es.length cap) ∧ w'.cell? ⟨b, off + k, none⟩ = some (.int .i64 x) ∧ w'.cell? ⟨b, off + (k + 1), none⟩ = some (.int .i64 y) := fun w' h =>
        ⟨by simpa using (HR.out.2.keep h).cell 0, by simpa using (HR.out.2.keep h).cell 1, ((bel_trans HR.out.1 h).cell (p := ⟨b, off + k, none⟩) hb).trans hcx, ((bel_trans HR.out.1 h).cell (p := ⟨b, off + (k + 1), none⟩) hb).trans hcy⟩
      have FF := Lib.hid hff
      have HPF := Lib.hid hpf
      have HPW := Lib.hid hpw
      have hl51 : L ≤ 1048576 := by have := QL.out; omega
      have hk1 : k + 1 < ps.length := by have := QL.out; omega
      have hk1' : (k : Int) + 1 < ps.length := by omega
      have hk0' : (k : Int) < ps.length := by omega
      have hfe2 := fun w' h => HFE.out x y w' h
      clear hx hy hcx hcy hpf hpw hff
      cases hf : fdE es x y
      · rw [hf] at hfe2
        have HFE2 := Lib.hid hfe2
        have HNO := Lib.hid (peB_at (n := n) (es := es) (k := k) (by have := QL.out; omega) (HPF.out.trans hf))
        clear hfe2 hf
        go_wp2
        refine wp_region_below (by kernel_rfl) (by kernel_rfl) ?_
        repeat (go_big_quiet_step ((intro hw; first | with_reducible rfl | (obtain ⟨f0, f1, f2, f3⟩ := FF.out _ hw; simp only [f0, f1, f2, f3, Result.andThen]; first | exact ⟨trivial, rfl⟩ | exact ⟨rfl, rfl⟩) | (go_at_call 77; exact quietB (HFE2.out _ (bel_trans HR.out.1 hw)) hw))))
        refine wpQuiet_nil ?_
        intro w2 hw2
        go_wp2
        go_ret2
        exact ⟨.slice none 0 0, by rw [HNO.out]; rfl, by rw [peL_no HNO.out]; exact ⟨none, 0, rfl, .inl rfl⟩, bel_trans HR.out.1 hw2⟩
      · rw [hf] at hfe2
        have HFE2 := Lib.hid hfe2
        have hlb : lbE es x y < es.length := by
          unfold fdE at hf
          simp only [Bool.and_eq_true, decide_eq_true_eq] at hf
          exact hf.1
        have HPT := Lib.hid (HPF.out.trans hf)
        obtain ⟨i, hi⟩ : ∃ i, i = lbE es x y := ⟨_, rfl⟩
        rw [← hi] at hlb hfe2
        have hpw2 := HPW.out
        rw [← hi] at hpw2
        obtain ⟨z, hz⟩ : ∃ z, z = (es.getD i (0, 0, 0)).2.2 := ⟨_, rfl⟩
        rw [← hz] at hpw2
        have HPZ := Lib.hid hpw2
        have HFE2 := Lib.hid hfe2
        rcases HZ.out with h0 | ⟨eb, eo, rfl, heb, hec⟩
        · rw [h0] at hlb; simp at hlb
        have hcz := (hec i hlb).2.2
        rw [← hz] at hcz
        have HCZ := Lib.hid hcz
        have hlb' : (i : Int) < es.length := by omega
        clear hfe2 hf hi hpw2 hz hec hcz
        go_wp2
        refine wp_region_below (by kernel_rfl) (by kernel_rfl) ?_
        repeat (go_big_quiet_step ((intro hw; first | with_reducible rfl | (obtain ⟨f0, f1, f2, f3⟩ := FF.out _ hw; simp only [f0, f1, f2, f3, Result.andThen]; first | exact ⟨trivial, rfl⟩ | exact ⟨rfl, rfl⟩) | (go_at_call 77; exact quietB (HFE2.out _ (bel_trans HR.out.1 hw)) hw))))
        refine wpQuiet_nil ?_
        intro w2 hw2
        have HX2 := Lib.hid (And.intro (bel_trans HR.out.1 hw2) (HR.out.2.keep hw2))
        have hrow2 := rowIs_keep HROW.out hw2
        have g0 : w2.cell? ⟨w.heap.size, 1, none⟩ = some (.slice (some ⟨eb, eo, none⟩) es.length cap) := by simpa using HX2.out.2.cell 1
        have g1 := (HX2.out.1.cell (p := ⟨eb, eo + i * 3 + 2, none⟩) heb).trans HCZ.out
        have g2 := hrow2.cell hlt
        have g3 := hrow2.frozen k
        have HR2 := Lib.hid hrow2
        have hgb : w.heap.size < w1.heap.size := HX1.out.2.lt
        clear hrow2 hw2
        go_wp2
        go_roundw
        case rel => exact ⟨k + 1, by omega, by go_num, fun j hj => (by
            by_cases e : j = k
            · rw [e]; exact HPT.out
            · exact HA.out j (by omega)), (HR2.out.set k _).congr (fun j hj => by
            unfold peP
            by_cases e : j = k
            · subst e; rw [if_pos rfl, if_pos (by omega), HPZ.out]
            · rw [if_neg e]
              by_cases h2 : j < k
              · rw [if_pos h2, if_pos (by omega)]
              · rw [if_neg h2, if_neg (by omega)]), Lib.hid ⟨HX2.out.1.setCell (by simp only; omega) _, HX2.out.2.setOther (by omega) _ _⟩⟩
        case measure => simp [intOf]; omega
    · have hke : k = L := by omega
      have hkk : ¬ ((k : Int) < L) := by omega
      have HK := Lib.hid hke
      clear hke
      have hlen : ps.length - 1 = L := by have := QL.out; omega
      have HB : Hid (peB n es ps = true) := Lib.hid (peB_all HD.out (fun j hj => HA.out j (by have := HK.out; omega)))
      have HLN := Lib.hid hlen
      have hgb : w.heap.size ≤ w1.heap.size := HX1.out.1.size
      clear hlen
      go_wp2
      go_ret2
      have hpl : peL n es ps = (List.range L).map (peW es ps) := by rw [peL_yes HB.out, HLN.out]
      have hll : (peL n es ps).length = L := by rw [hpl]; simp
      refine ⟨.slice (some ⟨w1.heap.size, 0, none⟩) L L, by rw [HB.out]; rfl, ?_, HR.out.1⟩
      have hnew : NewI w wr (.slice (some ⟨w1.heap.size, 0, none⟩) L L) (peL n es ps) := ⟨_, L, by rw [hll], ⟨hgb, by rw [hll]; exact Nat.le_refl _⟩, by
        rw [hll]
        refine HROW.out.congr (fun j hj => ?_)
        unfold peP cellI
        rw [if_pos (by have := HK.out; omega), hpl]
        simp [List.getD, hj]⟩
      have := hnew.inR
      have hb := HROW.out.lt
      exact this
end Go.Proofs.Ytjcfefpcilhelaa
