/- Parents that go round, in the program. -/
import Derived.Test.YtbhhbhopogkmnaaKeptI
import Derived.Test.YtbhhbhopogkmnaaMarkB
import Derived.Test.YtbhhbhopogkmnaaRowAt
import Derived.Test.YtbhhbhopogkmnaaNext
import Derived.Test.YtbhhbhopogkmnaaBoxes
import Derived.Test.YtbhhbhopogkmnaaRelaxJ
namespace Go.Proofs.Ytbhhbhopogkmnaa
open Go.RowKit Go.BigFrame Go.Deep
set_option linter.unusedVariables false
set_option linter.unusedSimpArgs false

def slLen : Value → Nat
  | .slice _ n _ => n
  | _ => 0
theorem own_slLen {w : World} {base sz n : Nat} {e : TypeId} {v : Value} {xs : List Value} (h : w.ownsRow base e sz v n xs) : slLen v = n := by
  rcases h.2 with ⟨rfl, h0⟩ | ⟨g, cap, cur, rfl, _⟩
  · simp [slLen]; first | exact h0.symm | (have := h.1; simp [h0] at this; omega) | omega
  · rfl
/-- The numbers on the way up. -/
def chL (ps : List Int) (k : Nat) (j : Nat) : List Int := (List.range j).map (fun i => chn ps (k : Nat) i)
theorem chL_succ (ps : List Int) (k j : Nat) : chL ps k (j + 1) = chL ps k j ++ [chn ps (k : Nat) j] := by unfold chL; rw [List.range_succ, List.map_append]; rfl
theorem chL_len (ps : List Int) (k j : Nat) : (chL ps k j).length = j := by unfold chL; simp
theorem chL_at (ps : List Int) (k : Nat) {i j : Nat} (h : i < j) : ((chL ps k j).map (Value.int .i64))[i]? = some (.int .i64 (chn ps (k : Nat) i)) := by unfold chL; simp [h]
/-- What holds of the marks while the numbers below k are done. -/
structure GoI (W0 : World) (S : Nat) (ps : List Int) (k : Nat) (bs : List Bool) (w : World) : Prop where
  row : BQ w S bs
  len : bs.length = ps.length
  sound : ∀ q, q < ps.length → bs.getD q true = true → endB ps (q : Nat) = true
  done : ∀ q, q < k → bs.getD q true = true
  bel : Below W0.heap.size W0 w
  hS : W0.heap.size ≤ S
section
variable {W0 w w' : World} {S k : Nat} {ps : List Int} {bs : List Bool}
theorem GoI.keep (h : GoI W0 S ps k bs w) (b : Below w.heap.size w w') : GoI W0 S ps k bs w' := ⟨h.row.keep b, h.len, h.sound, h.done, bel_trans h.bel b, h.hS⟩
theorem GoI.mark (h : GoI W0 S ps k bs w) {q : Nat} (hq : q < ps.length) (he : endB ps (q : Nat) = true) : GoI W0 S ps k (bs.set q true) (w.setCell ⟨S, q, none⟩ (.bool true)) := by
  refine ⟨h.row.set (by rw [h.len]; exact hq), by rw [List.length_set, h.len], fun x hx hb => ?_, fun x hx => ?_, h.bel.setCell h.hS _, h.hS⟩
  · by_cases e : q = x
    · subst e; exact he
    · rw [getD_setB _ _ _ _ (by rw [h.len]; exact hx), if_neg e] at hb
      exact h.sound x hx hb
  · have h1 := h.done x hx
    by_cases hx2 : x < bs.length
    · rw [getD_setB _ _ _ _ hx2]; split; rfl; exact h1
    · simp only [List.getD]; rw [List.getElem?_eq_none (by simp; omega)]; rfl
end

theorem own_cellG {w : World} {base g n cap sz : Nat} {e : TypeId} {xs : List Value} (h : w.ownsRow base e sz (.slice (some ⟨g, 0, none⟩) n cap) n xs) {j : Nat} {u : Value} (hu : xs[j]? = some u) : w.cell? ⟨g, j, none⟩ = some u ∧ w.frozen? ⟨g, j, none⟩ = false := by
  rcases h.2 with ⟨h1, _⟩ | ⟨g', cap', cur, h1, h2, h3, h4, h5, h6, h7⟩
  · cases h1
  · injection h1 with h1 _ _
    injection h1 with h1
    injection h1 with h1 _ _
    subst h1
    have : cur[j]? = some u := by
      have hl : j < xs.length := (List.getElem?_eq_some_iff.1 hu).1
      rw [← h7] at hu
      first | (simpa using hu) | (rw [List.getElem?_take] at hu; split at hu; simpa using hu; cases hu)
    exact ⟨by simp [World.cell?, h3, this], by simp [World.frozen?, h3]⟩
theorem own_setG {w : World} {base sz n X i : Nat} {e : TypeId} {v u : Value} {xs : List Value} (h : w.ownsRow base e sz v n xs) (hne : v.ownBlock ≠ some X) : (w.setCell ⟨X, i, none⟩ u).ownsRow base e sz v n xs := by
  refine ⟨h.1, ?_⟩
  rcases h.2 with h2 | ⟨g, cap, cur, h1, h2, h3, r⟩
  · exact .inl h2
  · refine .inr ⟨g, cap, cur, h1, h2, ?_, r⟩
    rw [Below.heap_setCell w ⟨X, i, none⟩ u g (by intro e; apply hne; rw [h1]; simp [Value.ownBlock]; exact e)]
    exact h3
theorem setB_mono {bs : List Bool} {i q : Nat} (h : bs.getD q true = true) : (bs.set i true).getD q true = true := by
  by_cases hq : q < bs.length
  · rw [getD_setB _ _ _ _ hq]; split; rfl; exact h
  · simp only [List.getD]; rw [List.getElem?_eq_none (by simp; omega)]; rfl
theorem setB_self (bs : List Bool) (q : Nat) : (bs.set q true).getD q true = true := by
  by_cases hq : q < bs.length
  · rw [getD_setB _ _ _ _ hq, if_pos rfl]
  · simp only [List.getD]; rw [List.getElem?_eq_none (by simp; omega)]; rfl

set_option maxRecDepth 20000 in
set_option maxHeartbeats 8000000 in
theorem firstGoingRound (ps : List Int) (v : Value) (w : World) (hp : Row w v ps) (h0 : 0 < ps.length) (hl : ps.length ≤ 1048576) (hpo : parOk ps) :
    Calls Try.prog 87 #[v] w fun e w' => e = .returned (.tuple #[.int .i64 (grI ps), .bool (grB ps)]) ∧ Below w.heap.size w w' := by
  obtain ⟨pb, po, pc, rfl, hpb, hpc⟩ := hp.at h0
  obtain ⟨S, hS⟩ : ∃ S, S = w.heap.size := ⟨_, rfl⟩
  have hst : GoI w S ps 0 (List.replicate ps.length false) (w.alloc (.cells (madeCells #[.bool false] ps.length) 4)) := by
    rw [hS]
    refine ⟨BQ.made w ps.length, by simp, fun q hq hb => ?_, fun q hq => absurd hq (Nat.not_lt_zero _), (Below.refl _ _).alloc (Nat.le_refl _) _, Nat.le_refl _⟩
    simp [List.getD, hq] at hb
  have HST := Lib.hid hst
  have HPB := Lib.hid (And.intro hpb hpc)
  have HPO := Lib.hid hpo
  obtain ⟨i0, hi, hz0', hz1, hz2⟩ := info_parts info_int2
  have HI : Hid (Try.prog.info? 3 = some i0 ∧ i0.zero = some (.int .i64 0) ∧ i0.size = 1 ∧ i0.bytes = 8) := Lib.hid ⟨hi, hz0', hz1, hz2⟩
  have h0' : ¬ ((ps.length : Int) < 0) := by omega
  have HSS := Lib.hid hS
  clear hst hpb hpc hpo hp hi hz0' hz1 hz2
  have hmk := run_make_row' (P := Try.prog) 140 4 (.bool false) 1 Try.underlying140 info_boolR rfl .i64 .i64 ps.length (by omega) (by omega)
  go_enter Try.func87, Try.ntmps87
  go_wp2
  clear hmk
  rw [← HSS.out]
  generalize (w.alloc (.cells (madeCells #[.bool false] ps.length) 4)) = W1 at HST ⊢
  clear hS
  go_loopw [15] (fun c wr => ∃ (k : Nat) (bs : List Bool), k ≤ ps.length ∧ c = .int .i64 k ∧ Hid (GoI w S ps k bs wr)) (fun c _ => ps.length - (intOf c).toNat)
  case atStart => exact ⟨0, _, Nat.zero_le _, rfl, HST⟩
  case round =>
    obtain ⟨k, bs, hk, rfl, HG0⟩ := hrel
    clear HST
    by_cases hkl : k < ps.length
    · have hkl' : (k : Int) < ps.length := by omega
      have HKN := Lib.hid hkl
      obtain ⟨lo, hlo⟩ : ∃ lo, lo = wr.heap.size := ⟨_, rfl⟩
      have HSL : Hid (S < lo) := Lib.hid (by rw [hlo]; exact HG0.out.row.lt)
      clear hkl
      go_wp2
      obtain ⟨w9, hw9⟩ : ∃ w9, w9 = wr := ⟨_, rfl⟩
      rw [← hw9] at HG0 hlo ⊢
      have HLQ := Lib.hid hlo
      clear hw9 hlo
      go_loopw [7, 6] (fun a v wq => ∃ j : Nat, j ≤ ps.length ∧ a = .int .i64 (chn ps (k : Nat) j) ∧ wq.ownsRow lo 3 1 v j ((chL ps k j).map (Value.int .i64)) ∧ Hid (GoI w S ps k bs wq) ∧ Hid (lo ≤ wq.heap.size) ∧ Hid (∀ i, i < j → 0 ≤ chn ps (k : Nat) i ∧ bs.getD (chn ps (k : Nat) i).toNat true = false)) (fun _ v _ => ps.length - slLen v)
      case atStart => exact ⟨0, Nat.zero_le _, rfl, ⟨by simp [chL], .inl ⟨rfl, by simp [chL]⟩⟩, HG0, Lib.hid (Nat.le_of_eq HLQ.out), Lib.hid (fun i h => absurd h (Nat.not_lt_zero _))⟩
      case round =>
        obtain ⟨j, hj, rfl, hown, HG1, HLO, HLW1⟩ := hrel
        have HOW := Lib.hid hown
        have HLN := Lib.hid (own_slLen hown)
        have HLW : Hid (∀ i, i < j → 0 ≤ chn ps (k : Nat) i) := Lib.hid (fun i h => (HLW1.out i h).1)
        clear hown
        have hxc := end_chn HPO.out (x := (k : Int)) (by have := HKN.out; omega) j HLW.out
        have hcn : chn ps (k : Nat) (j + 1) = ps.getD (chn ps (k : Nat) j).toNat 0 := rfl
        have hst := chL_succ ps k j
        obtain ⟨x, hx⟩ : ∃ x, x = chn ps (k : Nat) j := ⟨_, rfl⟩
        have hm1 : -1 ≤ x := by
          rw [hx]
          cases j with
          | zero => show -1 ≤ (k : Int); omega
          | succ j =>
            have h1 := end_chn HPO.out (x := (k : Int)) (by have := HKN.out; omega) j (fun i hi => HLW.out i (by omega))
            have h2 := HLW.out j (by omega)
            exact (HPO.out _ (by omega)).1
        rw [← hx] at hxc hcn hst ⊢
        have HXC := Lib.hid hxc
        have HCN := Lib.hid hcn
        have HTT := Lib.hid hst
        have HX := Lib.hid hx
        clear hxc hcn hst hx
        by_cases hneg : x < 0
        · have e1 : x = -1 := by omega
          subst e1
          have HEK : Hid (endB ps (k : Nat) = true) := Lib.hid (by rw [← HXC.out.2]; exact end_neg (by decide))
          have HJ0 : Hid (j = 0 → bs.getD k true = true) := Lib.hid (fun h => by subst h; have := HX.out; simp [chn] at this <;> omega)
          have HG := Lib.hid (And.intro HG1.out True.intro)
          obtain ⟨va, vc, rfl⟩ := own_slice HOW.out
          go_wp2
          have hEk : endB ps (k : Nat) = true := HEK.out
          go_loopw [44] (fun c w3 => ∃ (i : Nat) (b3 : List Bool), i ≤ j ∧ c = .int .i64 i ∧ Hid (GoI w S ps k b3 w3 ∧ (∀ q, bs.getD q true = true → b3.getD q true = true) ∧ (0 < i → b3.getD k true = true) ∧ w3.ownsRow lo 3 1 (.slice va j vc) j ((chL ps k j).map (Value.int .i64)))) (fun c _ => j - (intOf c).toNat)
          case atStart => exact ⟨0, bs, Nat.zero_le _, rfl, Lib.hid ⟨HG.out.1, fun q h => h, fun h => absurd h (Nat.not_lt_zero _), HOW.out⟩⟩
          case round =>
            obtain ⟨i, b3, hi, rfl, H3⟩ := hrel
            by_cases hij : i < j
            · have hij' : (i : Int) < j := by omega
              obtain ⟨g, rfl⟩ : ∃ g, va = some ⟨g, 0, none⟩ := by
                rcases H3.out.2.2.2.2 with ⟨h1, _⟩ | ⟨g, cap, cur, h1, _⟩
                · have h2 := own_slLen H3.out.2.2.2
                  rw [h1] at h2
                  simp only [slLen] at h2
                  omega
                · injection h1 with h1 _ _; exact ⟨g, h1⟩
              have hgl := H3.out.2.2.2.lt g rfl
              have c1 := (own_cellG H3.out.2.2.2 (chL_at ps k hij)).1
              have hlow := HLW.out i hij
              have hch := end_chn HPO.out (x := (k : Int)) (by have := HKN.out; omega) i (fun q hq => HLW.out q (by omega))
              obtain ⟨y, hy⟩ : ∃ y, y = chn ps (k : Nat) i := ⟨_, rfl⟩
              have hk0 : i = 0 → y = k := fun h => by subst h; exact hy
              rw [← hy] at c1 hlow hch
              obtain ⟨Y, rfl⟩ : ∃ Y : Nat, y = Y := ⟨y.toNat, by omega⟩
              have hYl : Y < ps.length := by omega
              have hYN : (Y : Int) < ps.length := by omega
              have hcs := H3.out.1.row.cell (i := Y) (by rw [H3.out.1.len]; exact hYl)
              have hc0 := hcs.1
              have hf0 := hcs.2
              have HN4 : Hid (∀ w4, w4 = wr.setCell ⟨S, Y, none⟩ (.bool true) → GoI w S ps k (b3.set Y true) w4 ∧ (∀ q, bs.getD q true = true → (b3.set Y true).getD q true = true) ∧ (0 < i + 1 → (b3.set Y true).getD k true = true) ∧ w4.ownsRow lo 3 1 (.slice (some ⟨g, 0, none⟩) j vc) j ((chL ps k j).map (Value.int .i64))) := Lib.hid (fun w4 e4 => by
                subst e4
                refine ⟨H3.out.1.mark hYl (by rw [hch.2]; exact HEK.out), fun q hq => setB_mono (H3.out.2.1 q hq), fun _ => ?_, own_setG H3.out.2.2.2 (by have h9 : lo ≤ g := hgl.1; have h8 := HSL.out; intro h; have h10 : g = S := (by simpa [Value.ownBlock] using h); omega)⟩
                by_cases h0 : i = 0
                · have := hk0 h0
                  have e : Y = k := by omega
                  rw [e]
                  exact setB_self _ _
                · exact setB_mono (H3.out.2.2.1 (by omega)))
              clear hcs hlow hch hy hk0
              go_wp2
              go_roundw
              case rel => first | exact ⟨i + 1, _, by omega, by go_num, Lib.hid (HN4.out _ rfl)⟩ | ((repeat apply Exists.intro); exact ⟨⟨i + 1, _, by omega, by go_num, Lib.hid (HN4.out _ rfl)⟩, rfl⟩)
              case measure => simp [intOf]; omega
            · have hnij : ¬ ((i : Int) < j) := by omega
              have HFIN : Hid (GoI w S ps (k + 1) b3 wr) := Lib.hid (by
                have h := H3.out.1
                refine ⟨h.row, h.len, h.sound, fun q hq => ?_, h.bel, h.hS⟩
                by_cases e : q = k
                · subst e
                  by_cases h0 : 0 < i
                  · exact H3.out.2.2.1 h0
                  · exact H3.out.2.1 _ (HJ0.out (by omega))
                · exact h.done q (by omega))
              go_wp2
              go_roundw
              case rel => first | exact ⟨k + 1, b3, by omega, by go_num, HFIN⟩ | ((repeat apply Exists.intro); exact ⟨⟨k + 1, b3, by omega, by go_num, HFIN⟩, rfl⟩)
              case measure => simp [intOf]; omega
        obtain ⟨X, rfl⟩ : ∃ X : Nat, x = X := ⟨x.toNat, by omega⟩
        have hXl : (X : Int) < ps.length := HXC.out.1
        have hcs := HG1.out.row.cell (i := X) (by rw [HG1.out.len]; omega)
        have hc0 := hcs.1
        have hne1 : ((X : Int) != -1) = true := by simp <;> omega
        have hne2 : decide ((X : Int) = -1) = false := decide_eq_false (by omega)
        clear hcs
        cases hbX : bs.getD X true
        rotate_left
        · have HEK : Hid (endB ps (k : Nat) = true) := Lib.hid (by rw [← HXC.out.2]; exact HG1.out.sound X (by omega) hbX)
          have HJ0 : Hid (j = 0 → bs.getD k true = true) := Lib.hid (fun h => by subst h; have e9 := HX.out; have e8 : X = k := (by simp only [chn] at e9; omega); rw [← e8]; exact hbX)
          have HG := Lib.hid (And.intro HG1.out True.intro)
          obtain ⟨va, vc, rfl⟩ := own_slice HOW.out
          rw [hbX] at hc0
          go_wp2
          have hEk : endB ps (k : Nat) = true := HEK.out
          go_loopw [44] (fun c w3 => ∃ (i : Nat) (b3 : List Bool), i ≤ j ∧ c = .int .i64 i ∧ Hid (GoI w S ps k b3 w3 ∧ (∀ q, bs.getD q true = true → b3.getD q true = true) ∧ (0 < i → b3.getD k true = true) ∧ w3.ownsRow lo 3 1 (.slice va j vc) j ((chL ps k j).map (Value.int .i64)))) (fun c _ => j - (intOf c).toNat)
          case atStart => exact ⟨0, bs, Nat.zero_le _, rfl, Lib.hid ⟨HG.out.1, fun q h => h, fun h => absurd h (Nat.not_lt_zero _), HOW.out⟩⟩
          case round =>
            obtain ⟨i, b3, hi, rfl, H3⟩ := hrel
            by_cases hij : i < j
            · have hij' : (i : Int) < j := by omega
              obtain ⟨g, rfl⟩ : ∃ g, va = some ⟨g, 0, none⟩ := by
                rcases H3.out.2.2.2.2 with ⟨h1, _⟩ | ⟨g, cap, cur, h1, _⟩
                · have h2 := own_slLen H3.out.2.2.2
                  rw [h1] at h2
                  simp only [slLen] at h2
                  omega
                · injection h1 with h1 _ _; exact ⟨g, h1⟩
              have hgl := H3.out.2.2.2.lt g rfl
              have c1 := (own_cellG H3.out.2.2.2 (chL_at ps k hij)).1
              have hlow := HLW.out i hij
              have hch := end_chn HPO.out (x := (k : Int)) (by have := HKN.out; omega) i (fun q hq => HLW.out q (by omega))
              obtain ⟨y, hy⟩ : ∃ y, y = chn ps (k : Nat) i := ⟨_, rfl⟩
              have hk0 : i = 0 → y = k := fun h => by subst h; exact hy
              rw [← hy] at c1 hlow hch
              obtain ⟨Y, rfl⟩ : ∃ Y : Nat, y = Y := ⟨y.toNat, by omega⟩
              have hYl : Y < ps.length := by omega
              have hYN : (Y : Int) < ps.length := by omega
              have hcs := H3.out.1.row.cell (i := Y) (by rw [H3.out.1.len]; exact hYl)
              have hc0 := hcs.1
              have hf0 := hcs.2
              have HN4 : Hid (∀ w4, w4 = wr.setCell ⟨S, Y, none⟩ (.bool true) → GoI w S ps k (b3.set Y true) w4 ∧ (∀ q, bs.getD q true = true → (b3.set Y true).getD q true = true) ∧ (0 < i + 1 → (b3.set Y true).getD k true = true) ∧ w4.ownsRow lo 3 1 (.slice (some ⟨g, 0, none⟩) j vc) j ((chL ps k j).map (Value.int .i64))) := Lib.hid (fun w4 e4 => by
                subst e4
                refine ⟨H3.out.1.mark hYl (by rw [hch.2]; exact HEK.out), fun q hq => setB_mono (H3.out.2.1 q hq), fun _ => ?_, own_setG H3.out.2.2.2 (by have h9 : lo ≤ g := hgl.1; have h8 := HSL.out; intro h; have h10 : g = S := (by simpa [Value.ownBlock] using h); omega)⟩
                by_cases h0 : i = 0
                · have := hk0 h0
                  have e : Y = k := by omega
                  rw [e]
                  exact setB_self _ _
                · exact setB_mono (H3.out.2.2.1 (by omega)))
              clear hcs hlow hch hy hk0
              go_wp2
              go_roundw
              case rel => first | exact ⟨i + 1, _, by omega, by go_num, Lib.hid (HN4.out _ rfl)⟩ | ((repeat apply Exists.intro); exact ⟨⟨i + 1, _, by omega, by go_num, Lib.hid (HN4.out _ rfl)⟩, rfl⟩)
              case measure => simp [intOf]; omega
            · have hnij : ¬ ((i : Int) < j) := by omega
              have HFIN : Hid (GoI w S ps (k + 1) b3 wr) := Lib.hid (by
                have h := H3.out.1
                refine ⟨h.row, h.len, h.sound, fun q hq => ?_, h.bel, h.hS⟩
                by_cases e : q = k
                · subst e
                  by_cases h0 : 0 < i
                  · exact H3.out.2.2.1 h0
                  · exact H3.out.2.1 _ (HJ0.out (by omega))
                · exact h.done q (by omega))
              go_wp2
              go_roundw
              case rel => first | exact ⟨k + 1, b3, by omega, by go_num, HFIN⟩ | ((repeat apply Exists.intro); exact ⟨⟨k + 1, b3, by omega, by go_num, HFIN⟩, rfl⟩)
              case measure => simp [intOf]; omega
        rw [hbX] at hc0
        have HBX := Lib.hid hbX
        clear hbX
        obtain ⟨va, vc, rfl⟩ := own_slice HOW.out
        by_cases hjl : j = ps.length
        · subst hjl
          have hres : Hid (grI ps = k ∧ grB ps = true) := Lib.hid (gr_hit HKN.out (fun q hq => HG1.out.sound q (by have := HKN.out; omega) (HG1.out.done q hq)) (end_no (fun i hi => by
            by_cases h : i = ps.length
            · subst h; rw [← HX.out]; omega
            · exact HLW.out i (by omega))))
          go_wp2
          go_ret2
          refine ⟨?_, HG1.out.bel⟩
          rw [hres.out.1, hres.out.2]
          first | rfl | (go_simp; done) | (simp; done)
        · have hjl' : ((j : Int) == (ps.length : Int)) = false := by simp; omega
          have hjl2 : decide ((j : Int) = (ps.length : Int)) = false := decide_eq_false (by omega)
          have hjl3 : ¬ ((j : Int) = ps.length) := by omega
          have hpx : wr.cell? ⟨pb, po + X, none⟩ = some (.int .i64 (ps.getD X 0)) := (HG1.out.bel.cell (p := ⟨pb, _, none⟩) HPB.out.1).trans (HPB.out.2 X (by omega))
          obtain ⟨hi, hz0, hz1, hz2⟩ := HI.out
          obtain ⟨y, hy⟩ : ∃ y, y = ps.getD X 0 := ⟨_, rfl⟩
          rw [← hy] at hpx
          have HY := Lib.hid hy
          clear hy
          go_wp2_with (at_builtin; refine wpList_append_own _ rfl (.tmp 38) (.tmp 40) 23 rfl lo 3 i0 (.int .i64 0) 1 8 Try.underlying23 hi hz0 hz1 hz2 rfl (by decide) _ _ _ rfl (HOW.out.alloc _) ⟨wr.heap.size, 0, none⟩ 1 1 [.int .i64 X] rfl rfl ?c1 ?c2 ?c3 ?c4 ?c5 ?_)
          try (case c1 => exact cell_one_new _ _ _)
          case c2 => simp [Value.oneCell']
          case c3 => unfold maxLen; omega
          case c4 => omega
          case c5 => have := HLO.out; simp; omega
          intro v' w6 hown6 hgrow6 _
          have hown6' : w6.ownsRow lo 3 1 v' (j + 1) ((chL ps k (j + 1)).map (Value.int .i64)) := by rw [HTT.out]; simpa using hown6
          have hS6 : ∀ q, (Value.slice va j vc).ownBlock = some q → lo ≤ q := fun q hq => (HOW.out.lt q hq).1
          have HG6 : Hid (GoI w S ps k bs w6) := Lib.hid ⟨(HG1.out.row.keep ((Below.refl _ _).alloc (Nat.le_refl _) _)).grown hgrow6 (by intro e; have := hS6 _ e; have := HSL.out; omega), HG1.out.len, HG1.out.sound, HG1.out.done, (HG1.out.bel.alloc HG1.out.bel.size _).grown hgrow6 (by have := HG1.out.bel.size; simp; omega) (fun q hq => by have := hS6 q hq; have := HSL.out; have := HG1.out.hS; omega), HG1.out.hS⟩
          have H7 := Lib.hid hown6'
          have HLO6 : Hid (lo ≤ w6.heap.size) := Lib.hid (by have h1 := hgrow6.size; have h2 := HLO.out; simp at h1; omega)
          have hpx6 : w6.cell? ⟨pb, po + X, none⟩ = some (.int .i64 y) := (HG6.out.bel.cell (p := ⟨pb, _, none⟩) HPB.out.1).trans (by rw [HY.out]; exact HPB.out.2 X (by omega))
          have HL6 := Lib.hid (own_slLen hown6')
          clear hown6 hown6' hgrow6 hi hz0 hz1 hz2 hpx
          have HLW2 : Hid (∀ i, i < j + 1 → 0 ≤ chn ps (k : Nat) i ∧ bs.getD (chn ps (k : Nat) i).toNat true = false) := Lib.hid (fun i hi => by
            by_cases h : i = j
            · subst h; rw [← HX.out]; exact ⟨by omega, by simpa using HBX.out⟩
            · exact HLW1.out i (by omega))
          have HCY : Hid (y = chn ps (k : Nat) (j + 1)) := Lib.hid (by rw [HCN.out, HY.out, Int.toNat_natCast])
          go_wp2
          go_roundw
          case rel => first | exact ⟨j + 1, by omega, by rw [HCY.out], H7.out, HG6, HLO6, HLW2⟩ | ((repeat apply Exists.intro); exact ⟨⟨j + 1, by omega, by rw [HCY.out], H7.out, HG6, HLO6, HLW2⟩, rfl⟩)
          case measure => rw [HL6.out]; simp only [slLen]; omega
    · have hkk : ¬ ((k : Int) < ps.length) := by omega
      have hres : Hid (grI ps = 0 ∧ grB ps = false) := Lib.hid (gr_none (fun q hq => HG0.out.sound q hq (HG0.out.done q (by omega))))
      go_wp2
      go_ret2
      refine ⟨?_, HG0.out.bel⟩
      rw [hres.out.1, hres.out.2]
      first | rfl | (go_simp; done) | (simp; done)
end Go.Proofs.Ytbhhbhopogkmnaa
