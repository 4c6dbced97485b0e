/- Slices of slices of integers that read as lists of lists: copied, compared, measured, marked and held by the laws; matrices. -/
import Derived.Test.YtdpbmenjangpaaaVEdges
import Derived.Test.YtdpbmenjangpaaaOpenV
namespace Go.Proofs.Ytdpbmenjangpaaa
open Go.RowKit Go.BigFrame Go.Deep
set_option linter.unusedVariables false
set_option linter.unusedSimpArgs false

/-- A slice of slices of integers that reads as a list of lists. -/
def Grid (w : World) (s : Value) (zss : List (List Int)) : Prop :=
  ∃ a cap, s = .slice a zss.length cap ∧ (zss = [] ∨ ∃ (b off : Nat) (T : Nat → Value), a = some ⟨b, off, none⟩ ∧ b < w.heap.size ∧ ∀ i, i < zss.length → w.cell? ⟨b, off + i, none⟩ = some (T i) ∧ Row w (T i) (zss.getD i []))
theorem Grid.keep {w w' : World} {s : Value} {zss : List (List Int)} (h : Grid w s zss) (hb : Below w.heap.size w w') : Grid w' s zss := by
  obtain ⟨a, cap, rfl, h⟩ := h
  refine ⟨a, cap, rfl, ?_⟩
  rcases h with h | ⟨b, off, T, rfl, hlt, hc⟩
  · exact .inl h
  · exact .inr ⟨b, off, T, rfl, Nat.lt_of_lt_of_le hlt hb.size, fun i hi => ⟨by rw [hb.cell (p := ⟨b, off + i, none⟩) hlt]; exact (hc i hi).1, (hc i hi).2.keep hb⟩⟩

/-- A slice of slices of integers, each in a block of its own, all between two numbers, all to be written. -/
structure GridAt (w : World) (lo hi g : Nat) (T : Nat → Value) (B : Nat → Nat) (zss : List (List Int)) : Prop where
  place : lo ≤ g ∧ g < hi ∧ hi ≤ w.heap.size
  cell : ∀ i, i < zss.length → w.cell? ⟨g, i, none⟩ = some (T i) ∧ w.frozen? ⟨g, i, none⟩ = false
  row : ∀ i, i < zss.length → InR true w (B i) (B i + 1) (T i) (zss.getD i []).length 1 (cellI (zss.getD i []))
  ok : ∀ i, i < zss.length → okS (T i)
  blk : ∀ i, i < zss.length → lo ≤ B i ∧ B i < hi ∧ B i ≠ g
  dis : ∀ i j, i < zss.length → j < zss.length → i ≠ j → B i ≠ B j
/-- A grid of one's own between two numbers. -/
def OwnG (w : World) (lo hi : Nat) (s : Value) (zss : List (List Int)) : Prop :=
  (s = .slice none 0 0 ∧ zss = []) ∨ ∃ (g cap : Nat) (T : Nat → Value) (B : Nat → Nat), s = .slice (some ⟨g, 0, none⟩) zss.length cap ∧ zss.length ≤ cap ∧ GridAt w lo hi g T B zss
theorem OwnG.slice {w : World} {lo hi : Nat} {s : Value} {zss : List (List Int)} (h : OwnG w lo hi s zss) : ∃ a c, s = .slice a zss.length c := by
  rcases h with ⟨rfl, rfl⟩ | ⟨g, cap, T, B, rfl, _⟩
  · exact ⟨_, _, rfl⟩
  · exact ⟨_, _, rfl⟩
theorem OwnG.nil (w : World) (lo hi : Nat) : OwnG w lo hi (.slice none 0 0) [] := .inl ⟨rfl, rfl⟩
theorem OwnG.ok {w : World} {lo hi : Nat} {s : Value} {zss : List (List Int)} (h : OwnG w lo hi s zss) : okS s := by
  rcases h with ⟨rfl, rfl⟩ | ⟨g, cap, T, B, rfl, hc, _⟩
  · intro a n c e
    injection e with e1 e2 e3
    subst e1 e2 e3
    exact ⟨Nat.le_refl _, (fun _ => rfl), fun x h => by cases h⟩
  · intro a n c e
    injection e with e1 e2 e3
    subst e1 e2 e3
    exact ⟨hc, (fun h => by cases h), fun x h => by injection h with h; rw [← h]⟩
theorem OwnG.grid {w : World} {lo hi : Nat} {s : Value} {zss : List (List Int)} (h : OwnG w lo hi s zss) : Grid w s zss := by
  rcases h with ⟨rfl, rfl⟩ | ⟨g, cap, T, B, rfl, hc, h⟩
  · exact ⟨_, _, rfl, .inl rfl⟩
  · exact ⟨_, _, rfl, .inr ⟨g, 0, T, rfl, by have := h.place; omega, fun i hi => ⟨by rw [Nat.zero_add]; exact (h.cell i hi).1, (h.row i hi).ints⟩⟩⟩
section
variable {w w' : World} {lo hi l h g : Nat} {T : Nat → Value} {B : Nat → Nat} {s : Value} {zss : List (List Int)}
theorem GridAt.chg (r : GridAt w lo hi g T B zss) (c : Chg l h w w') (d : h ≤ lo ∨ hi ≤ l) : GridAt w' lo hi g T B zss := by
  have hp := r.place
  refine ⟨⟨hp.1, hp.2.1, Nat.le_trans hp.2.2 c.size⟩, fun i hi => ?_, fun i hi => (r.row i hi).chg c ?_, r.ok, r.blk, r.dis⟩
  · rw [c.cell (p := ⟨g, i, none⟩) (by simp only; omega) (by simp only; omega), c.frozen (p := ⟨g, i, none⟩) (by simp only; omega) (by simp only; omega)]
    exact r.cell i hi
  · have := r.blk i hi
    omega
theorem GridAt.keep (r : GridAt w lo hi g T B zss) (b : Below w.heap.size w w') : GridAt w' lo hi g T B zss := r.chg (l := 0) (h := 0) (Chg.of_below b) (by omega)
theorem OwnG.chg (r : OwnG w lo hi s zss) (c : Chg l h w w') (d : h ≤ lo ∨ hi ≤ l) : OwnG w' lo hi s zss := by
  rcases r with r | ⟨g, cap, T, B, e, hc, r⟩
  · exact .inl r
  · exact .inr ⟨g, cap, T, B, e, hc, r.chg c d⟩
theorem OwnG.keep (r : OwnG w lo hi s zss) (b : Below w.heap.size w w') : OwnG w' lo hi s zss := r.chg (l := 0) (h := 0) (Chg.of_below b) (by omega)
theorem OwnG.wider (r : OwnG w lo hi s zss) (h1 : l ≤ lo) (h2 : hi ≤ h) (h3 : h ≤ w.heap.size) : OwnG w l h s zss := by
  rcases r with r | ⟨g, cap, T, B, e, hc, r⟩
  · exact .inl r
  · have hp := r.place
    exact .inr ⟨g, cap, T, B, e, hc, ⟨⟨by omega, by omega, h3⟩, r.cell, r.row, r.ok, fun i hi => by have := r.blk i hi; omega, r.dis⟩⟩
theorem InR.congr {fz : Bool} {n sz : Nat} {cs cs' : Nat → Value} (r : InR fz w lo hi s n sz cs) (he : ∀ i, i < n * sz → cs i = cs' i) : InR fz w lo hi s n sz cs' := by
  obtain ⟨a, cap, rfl, hz⟩ := r
  refine ⟨a, cap, rfl, ?_⟩
  rcases hz with h0 | ⟨b, off, rfl, h1, h2, h3, hc⟩
  · exact .inl h0
  · exact .inr ⟨b, off, rfl, h1, h2, h3, fun i hi => by rw [← he i hi]; exact hc i hi⟩
/-- One row is written over. -/
theorem GridAt.setRow (r : GridAt w lo hi g T B zss) {k : Nat} (hk : k < zss.length) (c : Chg (B k) (B k + 1) w w') {zss' : List (List Int)} (hl : zss'.length = zss.length)
    (hk2 : InR true w' (B k) (B k + 1) (T k) (zss'.getD k []).length 1 (cellI (zss'.getD k []))) (ho : ∀ i, i < zss.length → i ≠ k → zss'.getD i [] = zss.getD i []) : GridAt w' lo hi g T B zss' := by
  have hp := r.place
  have hkb := r.blk k hk
  refine ⟨⟨hp.1, hp.2.1, Nat.le_trans hp.2.2 c.size⟩, fun i hi => ?_, fun i hi => ?_, fun i hi => r.ok i (by omega), fun i hi => r.blk i (by omega), fun i j hi hj => r.dis i j (by omega) (by omega)⟩
  · rw [c.cell (p := ⟨g, i, none⟩) (by simp only; omega) (by simp only; omega), c.frozen (p := ⟨g, i, none⟩) (by simp only; omega) (by simp only; omega)]
    exact r.cell i (by omega)
  · by_cases e : i = k
    · subst e; exact hk2
    · rw [ho i (by omega) e]
      refine (r.row i (by omega)).chg c ?_
      have := r.dis i k (by omega) hk e
      omega
end

/-- A grid that is being made: its slice's block, and its first k rows. -/
def PartG (w : World) (g N k : Nat) (zss : List (List Int)) : Prop :=
  ∃ (T : Nat → Value) (B : Nat → Nat), w.rowIs g 60 N (fun i => if i < k then T i else .slice none 0 0) ∧ (∀ i, i < k → InR true w (B i) (B i + 1) (T i) (zss.getD i []).length 1 (cellI (zss.getD i [])) ∧ okS (T i) ∧ g < B i ∧ B i < w.heap.size) ∧ ∀ i j, i < k → j < k → i ≠ j → B i ≠ B j
theorem PartG.keep {w w' : World} {g N k : Nat} {zss : List (List Int)} (h : PartG w g N k zss) (hb : Below w.heap.size w w') : PartG w' g N k zss := by
  obtain ⟨T, B, hr, hc, hd⟩ := h
  exact ⟨T, B, hr.of_block (hb.block g hr.lt), fun i hi => ⟨(hc i hi).1.keep hb, (hc i hi).2.1, (hc i hi).2.2.1, Nat.lt_of_lt_of_le (hc i hi).2.2.2 hb.size⟩, hd⟩
theorem PartG.cell {w : World} {g N k : Nat} {zss : List (List Int)} (h : PartG w g N k zss) (hk : k < N) : w.cell? ⟨g, k, none⟩ = some (.slice none 0 0) := by
  obtain ⟨T, B, hr, hc, hd⟩ := h
  rw [hr.cell hk, if_neg (Nat.lt_irrefl _)]
theorem PartG.frozen {w : World} {g N k : Nat} {zss : List (List Int)} (h : PartG w g N k zss) (i : Nat) : w.frozen? ⟨g, i, none⟩ = false := by
  obtain ⟨T, B, hr, hc, hd⟩ := h
  exact hr.frozen i
/-- The next row is put in. -/
theorem PartG.step {w w' : World} {g N k : Nat} {zss : List (List Int)} (h : PartG w g N k zss) (hb : Below w.heap.size w w') {v : Value} {zs : List Int} {b : Nat} (hv : InR true w' b (b + 1) v zs.length 1 (cellI zs)) (hok : okS v) (h1 : w.heap.size ≤ b) (h2 : b < w'.heap.size) (hz : zss.getD k [] = zs) :
    PartG (w'.setCell ⟨g, k, none⟩ v) g N (k + 1) zss := by
  obtain ⟨T, B, hr, hc, hd⟩ := h
  have hg := hr.lt
  have hr' := hr.of_block (hb.block g hr.lt)
  have hchg : Chg g (g + 1) w' (w'.setCell ⟨g, k, none⟩ v) := Chg.setCell (p := ⟨g, k, none⟩) (Chg.refl g (g + 1) w') (Nat.le_refl g) (Nat.lt_succ_self g) v
  refine ⟨fun i => if i = k then v else T i, fun i => if i = k then b else B i, (hr'.set k v).congr (fun i hi => ?_), fun i hi => ?_, fun i j hi hj hne => ?_⟩
  · by_cases e : i = k
    · simp [e]
    · simp only [e, if_false]
      by_cases h2 : i < k
      · rw [if_pos h2, if_pos (by omega)]
      · rw [if_neg h2, if_neg (by omega)]
  · by_cases e : i = k
    · subst e
      simp only [if_true]
      rw [hz]
      exact ⟨hv.chg hchg (by omega), hok, by omega, by simpa using h2⟩
    · simp only [e, if_false]
      have hi2 : i < k := by omega
      obtain ⟨c1, c2, c3, c4⟩ := hc i hi2
      exact ⟨(c1.keep hb).chg hchg (by omega), c2, c3, by simpa using Nat.lt_of_lt_of_le c4 hb.size⟩
  · by_cases e : i = k
    · have e2 : j ≠ k := by omega
      simp only [e, e2, if_true, if_false]
      have := (hc j (by omega)).2.2.2
      omega
    · by_cases e2 : j = k
      · simp only [e, e2, if_true, if_false]
        have := (hc i (by omega)).2.2.2
        omega
      · simp only [e, e2, if_false]
        exact hd i j (by omega) (by omega) hne
theorem PartG.all {w : World} {g : Nat} {zss : List (List Int)} (h : PartG w g zss.length zss.length zss) (lo : Nat) (hlo : lo ≤ g) (cap : Nat) (hc : zss.length ≤ cap) : OwnG w lo w.heap.size (.slice (some ⟨g, 0, none⟩) zss.length cap) zss := by
  obtain ⟨T, B, hr, hcc, hd⟩ := h
  refine .inr ⟨g, cap, T, B, rfl, hc, ⟨⟨hlo, hr.lt, Nat.le_refl _⟩, fun i hi => ⟨by rw [hr.cell hi, if_pos hi], hr.frozen i⟩, fun i hi => (hcc i hi).1, fun i hi => (hcc i hi).2.1, fun i hi => ?_, hd⟩⟩
  have := (hcc i hi).2.2
  omega
theorem PartG.made (w : World) (n : Nat) (zss : List (List Int)) : PartG (w.alloc (.cells (madeCells #[.slice none 0 0] n) 60)) w.heap.size n 0 zss :=
  ⟨fun _ => .slice none 0 0, fun _ => 0, (World.rowIs_made w _ _ _).congr (fun i _ => by simp), fun i hi => absurd hi (Nat.not_lt_zero _), fun i j hi => absurd hi (Nat.not_lt_zero _)⟩
theorem NewI.blk {W w' : World} {v : Value} {zs : List Int} (h : NewI W w' v zs) : ∃ b, InR true w' b (b + 1) v zs.length 1 (cellI zs) ∧ okS v ∧ W.heap.size ≤ b ∧ b < w'.heap.size := by
  have hok := h.ok
  obtain ⟨g, cap, rfl, hg, hr⟩ := h
  exact ⟨g, InR.of_rowIs hr (by omega) (fun _ _ => rfl) cap (Nat.le_refl _) (by omega) hr.lt, hok, hg.1, hr.lt⟩

theorem info_ints : (Try.prog.info? 60).map (fun i => (i.zero, i.size, i.bytes)) = some (some (.slice none 0 0), 1, 24) := by kernel_rfl

set_option maxHeartbeats 1000000 in
theorem toIntSS (zss : List (List Int)) (s : Value) (w : World) (hr : Grid w s zss) (hl : zss.length ≤ 1048576) (hl2 : ∀ i, i < zss.length → (zss.getD i []).length ≤ 1048576) :
    Calls Try.prog 40 #[s] w fun e w' => ∃ s', e = .returned s' ∧ OwnG w' w.heap.size w'.heap.size s' zss ∧ Below w.heap.size w w' := by
  obtain ⟨a, cap, rfl, hz0⟩ := hr
  have hz := Lib.hid hz0
  have HL2 := Lib.hid hl2
  clear hz0 hl2
  have hmk := run_make_row' (P := Try.prog) 22 60 (.slice none 0 0) 24 Try.underlying22 info_ints rfl .i64 .i64 zss.length (by omega) (by omega)
  go_enter Try.func40, Try.ntmps40
  go_wp2
  clear hmk
  go_loopw [4] (fun c wr => ∃ k : Nat, k ≤ zss.length ∧ c = .int .i64 k ∧ PartG wr w.heap.size zss.length k zss ∧ Below w.heap.size w wr) (fun c _ => zss.length - (intOf c).toNat)
  case atStart => exact ⟨0, Nat.zero_le _, rfl, PartG.made w _ _, (Below.refl _ _).alloc (Nat.le_refl _) _⟩
  case round =>
    obtain ⟨k, hk, rfl, hpart, hbel⟩ := hrel
    have HP := Lib.hid hpart
    clear hpart
    by_cases hlt : k < zss.length
    · have hlt' : (k : Int) < zss.length := by omega
      rcases hz.out with h0 | ⟨b, off, T, rfl, hb, hc⟩
      · rw [h0] at hlt; simp at hlt
      obtain ⟨c0, r0⟩ := hc k hlt
      have hck := (hbel.cell (p := ⟨b, off + k, none⟩) hb).trans c0
      have hrk := r0.keep hbel
      have hlk := HL2.out k hlt
      obtain ⟨zs, hzs⟩ : ∃ zs, zs = zss.getD k [] := ⟨_, rfl⟩
      rw [← hzs] at hrk hlk
      obtain ⟨ta, tc, hT, _⟩ := id hrk
      rw [hT] at hck hrk
      have HR := Lib.hid hrk
      have HZ := Lib.hid hzs
      clear hc c0 r0 hrk hT hzs
      go_wp2_with (go_at_call 71; refine (toIntSN zs _ _ HR.out hlk).mono ?_; rintro e w2 ⟨_, rfl, hnew, hb2⟩; have hst := (HP.out.keep hb2).cell hlt; have hfr := (HP.out.keep hb2).frozen k; have HNEW := Lib.hid hnew; obtain ⟨g2, cap2, rfl, hg2, hrow2⟩ := hnew; clear hg2 hrow2)
      have HS : Hid (PartG (w2.setCell ⟨w.heap.size, k, none⟩ (.slice (some ⟨g2, 0, none⟩) zs.length cap2)) w.heap.size zss.length (k + 1) zss) := Lib.hid (by
        obtain ⟨b2, k1, k2, k3, k4⟩ := HNEW.out.blk
        exact HP.out.step hb2 k1 k2 k3 k4 HZ.out.symm)
      go_roundw
      case rel => exact ⟨k + 1, by omega, by go_num, HS.out, (bel_trans hbel hb2).setCell (Nat.le_refl _) _⟩
      case measure => simp [intOf]; omega
    · have hke : k = zss.length := by omega
      have hkk : ¬ ((k : Int) < zss.length) := by omega
      have HK := Lib.hid hke
      clear hke
      go_wp2
      go_ret
      exact ⟨_, rfl, PartG.all (by have := HP.out; rw [HK.out] at this; exact this) _ (Nat.le_refl _) _ (Nat.le_refl _), hbel⟩

theorem eqIntSS (zss : List (List Int)) (s t : Value) (w : World) (hs : Grid w s zss) (ht : Grid w t zss) (hl : zss.length ≤ 4194304) (hl2 : ∀ i, i < zss.length → (zss.getD i []).length ≤ 4194304) :
    Calls Try.prog 42 #[s, t] w fun e w' => e = .returned (.bool true) ∧ Below w.heap.size w w' := by
  obtain ⟨a, cap, rfl, hz0⟩ := hs
  have hz := Lib.hid hz0
  obtain ⟨a2, cap2, rfl, hy0⟩ := ht
  have hy := Lib.hid hy0
  have HL2 := Lib.hid hl2
  clear hz0 hy0 hl2
  go_enter Try.func42, Try.ntmps42
  go_wp2
  go_loopw [5] (fun c wr => ∃ k : Nat, k ≤ zss.length ∧ c = .int .i64 k ∧ Below w.heap.size w wr) (fun c _ => zss.length - (intOf c).toNat)
  case atStart => exact ⟨0, Nat.zero_le _, rfl, Below.refl _ _⟩
  case round =>
    obtain ⟨k, hk, rfl, hbel⟩ := hrel
    by_cases hlt : k < zss.length
    · have hlt' : (k : Int) < zss.length := by omega
      rcases hz.out with h0 | ⟨b, off, T, rfl, hb, hc⟩
      · rw [h0] at hlt; simp at hlt
      rcases hy.out with h0 | ⟨b2, off2, T2, rfl, hb2, hc2⟩
      · rw [h0] at hlt; simp at hlt
      obtain ⟨h1, r1⟩ := hc k hlt
      obtain ⟨h2, r2⟩ := hc2 k hlt
      have hl3 := HL2.out k hlt
      obtain ⟨zs, hzs⟩ : ∃ zs, zs = zss.getD k [] := ⟨_, rfl⟩
      rw [← hzs] at r1 r2 hl3
      have hcall : ∀ w', Below wr.heap.size wr w' → Calls Try.prog 74 #[T k, T2 k] w' fun e w'' => e = .returned (.bool true) ∧ Below w'.heap.size w' w'' := fun w' h => eqIntS4 zs _ _ w' (r1.keep (bel_trans hbel h)) (r2.keep (bel_trans hbel h)) hl3
      obtain ⟨u1, hu1⟩ : ∃ u, u = T k := ⟨_, rfl⟩
      obtain ⟨u2, hu2⟩ : ∃ u, u = T2 k := ⟨_, rfl⟩
      rw [← hu1, ← hu2] at hcall
      rw [← hu1] at h1
      rw [← hu2] at h2
      have ff : ∀ w', Below wr.heap.size wr w' → w'.cell? ⟨b, off + k, none⟩ = some u1 ∧ w'.cell? ⟨b2, off2 + k, none⟩ = some u2 := by
        intro w' h
        have hB := bel_trans hbel h
        exact ⟨(hB.cell (p := ⟨b, _, none⟩) hb).trans h1, (hB.cell (p := ⟨b2, _, none⟩) hb2).trans h2⟩
      have FF := Lib.hid ff
      have HC := Lib.hid hcall
      clear hc hc2 h1 h2 ff hcall r1 r2 hzs hu1 hu2 hl3
      go_wp2
      refine wp_region_below (by kernel_rfl) (by kernel_rfl) ?_
      repeat (go_big_quiet_step ((intro hw; first | with_reducible rfl | (obtain ⟨f0, g0⟩ := FF.out _ hw; simp only [f0, g0, Result.andThen]; first | exact ⟨trivial, rfl⟩ | exact ⟨rfl, rfl⟩) | (go_at_call 74; exact quietB (HC.out _ hw) hw))))
      refine wpQuiet_nil ?_
      intro w1 hw1
      go_wp2
      go_roundw
      case rel => first | exact ⟨k + 1, by omega, by go_num, bel_trans hbel hw1⟩ | ((repeat apply Exists.intro); exact ⟨⟨k + 1, by omega, by go_num, bel_trans hbel hw1⟩, rfl⟩)
      case measure => simp [intOf]; omega
    · have hke : k = zss.length := by omega
      have hkk : ¬ ((k : Int) < zss.length) := by omega
      have HK := Lib.hid hke
      clear hke
      go_wp2
      go_ret
      exact ⟨rfl, hbel⟩

/-- How many numbers there are. -/
def tl (zss : List (List Int)) : Nat := zss.flatten.length
/-- How many numbers the first i rows have. -/
def tot (zss : List (List Int)) (i : Nat) : Nat := (zss.take i).flatten.length
theorem tot_zero (zss : List (List Int)) : tot zss 0 = 0 := by simp [tot]
theorem tot_succ (zss : List (List Int)) {i : Nat} (h : i < zss.length) : tot zss (i + 1) = tot zss i + (zss.getD i []).length := by
  unfold tot
  rw [List.take_succ_eq_append_getElem h, List.flatten_append, List.length_append]
  simp [List.getD, h]
theorem tot_le (zss : List (List Int)) (i : Nat) : tot zss i ≤ tl zss := by
  unfold tot tl
  conv => rhs; rw [← List.take_append_drop i zss, List.flatten_append, List.length_append]
  omega
theorem tot_all (zss : List (List Int)) : tot zss zss.length = tl zss := by unfold tot tl; rw [List.take_length]
theorem ret_i {a b : Int} (h : a = b) : Ending.returned (.int .i64 a) = .returned (.int .i64 b) := by rw [h]
theorem row_le (zss : List (List Int)) {i : Nat} (h : i < zss.length) : (zss.getD i []).length ≤ tl zss := by
  have h1 := tot_succ zss h
  have h2 := tot_le zss (i + 1)
  omega
/-- What is left of a budget behind a grid. -/
def szG (l : Nat) (zss : List (List Int)) : Int := if zss.length + tl zss ≤ l then ((l - (zss.length + tl zss) : Nat) : Int) else -1

set_option maxHeartbeats 1000000 in
theorem szIntSS (zss : List (List Int)) (s : Value) (l : Nat) (w : World) (hs : Grid w s zss) (hl : l ≤ 1048576) (hn : zss.length ≤ 9223372036854775807) (hn2 : ∀ i, i < zss.length → (zss.getD i []).length ≤ 9223372036854775807) :
    Calls Try.prog 37 #[s, .int .i64 l] w fun e w' => e = .returned (.int .i64 (szG l zss)) ∧ w' = w := by
  obtain ⟨a, cap, rfl, hz0⟩ := hs
  have hz := Lib.hid hz0
  have HN := Lib.hid hn2
  clear hz0 hn2
  obtain ⟨R, hR0⟩ : ∃ R, R = szG l zss := ⟨_, rfl⟩
  rw [← hR0]
  have HR0 := Lib.hid hR0
  clear hR0
  by_cases h : zss.length ≤ l
  · have h1 : ¬ ((l : Int) - zss.length < 0) := by omega
    go_enter Try.func37, Try.ntmps37
    go_wp2
    go_loopw [5, 1] (fun c d wr => ∃ i : Nat, i ≤ zss.length ∧ c = .int .i64 i ∧ (∃ r : Nat, d = .int .i64 r ∧ r + (zss.length + tot zss i) = l) ∧ wr = w) (fun c _ _ => zss.length - (intOf c).toNat)
    case atStart => exact ⟨0, Nat.zero_le _, rfl, ⟨l - zss.length, by go_num, by rw [tot_zero]; omega⟩, rfl⟩
    case round =>
      obtain ⟨i, hile, rfl, ⟨r, rfl, hr⟩, rfl⟩ := hrel
      by_cases hlt : i < zss.length
      · have hlt' : (i : Int) < zss.length := by omega
        rcases hz.out with h0 | ⟨b, off, T, rfl, hb, hc⟩
        · rw [h0] at hlt; simp at hlt
        obtain ⟨c1, r1⟩ := hc i hlt
        have hts := tot_succ zss hlt
        have hle := tot_le zss (i + 1)
        have hn3 := HN.out i hlt
        obtain ⟨zs, hzs⟩ : ∃ zs, zs = zss.getD i [] := ⟨_, rfl⟩
        rw [← hzs] at r1 hts hn3
        obtain ⟨ta, tc, hT, _⟩ := r1
        rw [hT] at c1
        have hcall := szIntS zs.length tc ta r
        have hR : szR r zs.length = if zs.length ≤ r then ((r - zs.length : Nat) : Int) else -1 := rfl
        by_cases hlr : zs.length ≤ r
        · rw [if_pos hlr] at hR
          rw [hR] at hcall
          have hq : ¬ (((r - zs.length : Nat) : Int) < 0) := by omega
          have HC := Lib.hid hcall
          have HRR : Hid (r - zs.length + (zss.length + tot zss (i + 1)) = l) := Lib.hid (by omega)
          clear hc hT hzs hts hle hcall hR
          go_wp2_with (go_at_call 70; refine (HC.out _ (by omega) hn3).mono ?_; rintro e w1 ⟨rfl, rfl⟩)
          go_roundw
          case rel => exact ⟨i + 1, by omega, by go_num, ⟨r - zs.length, rfl, HRR.out⟩, by trivial⟩
          case measure => simp [intOf]; omega
        · rw [if_neg hlr] at hR
          rw [hR] at hcall
          have HC := Lib.hid hcall
          have e0 : R = -1 := by rw [HR0.out, szG, if_neg (by omega)]
          subst e0
          clear hc hT hzs hts hle hcall hR
          go_wp2_with (go_at_call 70; refine (HC.out _ (by omega) hn3).mono ?_; rintro e w1 ⟨rfl, rfl⟩)
          go_ret
          exact ⟨rfl, rfl⟩
      · have hke : i = zss.length := by omega
        have hkk : ¬ ((i : Int) < zss.length) := by omega
        have e0 : R = r := by rw [hke, tot_all] at hr; rw [HR0.out, szG, if_pos (by omega)]; omega
        subst e0
        clear hke hr
        go_wp2
        go_ret
        exact ⟨rfl, rfl⟩
  · have h1 : ((l : Int) - zss.length < 0) := by omega
    have e0 : R = -1 := by rw [HR0.out, szG, if_neg (by omega)]
    subst e0
    go_enter Try.func37, Try.ntmps37
    go_wp2
    go_ret
    exact ⟨rfl, rfl⟩

/-- A row of following numbers. -/
def mkRow (k n : Nat) : List Int := (List.range n).map fun i => ((k + i : Nat) : Int)
theorem mkRow_len (k n : Nat) : (mkRow k n).length = n := by simp [mkRow]
theorem mkRow_cell (k n : Nat) {i : Nat} (h : i < n) : cellI (mkRow k n) i = marked k i := by
  unfold cellI mkRow marked
  simp [List.getD, h]
/-- A grid whose first n rows are marked. -/
def mkU (k : Nat) (zss : List (List Int)) (n : Nat) : List (List Int) := (List.range zss.length).map fun i => if i < n then mkRow (k + tot zss i) (zss.getD i []).length else zss.getD i []
theorem mkU_len (k : Nat) (zss : List (List Int)) (n : Nat) : (mkU k zss n).length = zss.length := by simp [mkU]
theorem mkU_at (k : Nat) (zss : List (List Int)) (n : Nat) {i : Nat} (h : i < zss.length) : (mkU k zss n).getD i [] = if i < n then mkRow (k + tot zss i) (zss.getD i []).length else zss.getD i [] := by
  unfold mkU
  simp only [List.getD, List.getElem?_map, List.getElem?_range h, Option.map_some, Option.getD_some]
theorem mkU_zero (k : Nat) (zss : List (List Int)) : mkU k zss 0 = zss := by
  apply List.ext_getElem (mkU_len k zss 0)
  intro i h1 h2
  have := mkU_at k zss 0 h2
  simp [List.getD, h1, h2] at this
  exact this
theorem Chg.wider {lo hi l h : Nat} {w w' : World} (c : Chg l h w w') (h1 : lo ≤ l) (h2 : h ≤ hi) : Chg lo hi w w' := ⟨c.os, c.tape, c.output, c.size, fun k hk hd => c.block k hk (by omega)⟩

set_option maxHeartbeats 1000000 in
theorem markIntSS (k : Nat) (w : World) (lo hi : Nat) (s : Value) (zss : List (List Int)) (h : OwnG w lo hi s zss) (hn : zss.length ≤ 4194304) (hn2 : tl zss ≤ 4194304) (hk : k ≤ 1048576) :
    Calls Try.prog 57 #[s, .int .i64 (k : Int)] w fun e w' => e = .returned (.int .i64 ((k + tl zss : Nat) : Int)) ∧ OwnG w' lo hi s (mkU k zss zss.length) ∧ Chg lo hi w w' := by
  rcases h with ⟨rfl, rfl⟩ | ⟨g, cap, T, B, rfl, hcap, hat⟩
  · go_enter Try.func57, Try.ntmps57
    go_wp2
    go_loopw [5, 1] (fun c d wr => c = .int .i64 0 ∧ d = .int .i64 (k : Int) ∧ wr = w) (fun c _ _ => 0)
    case atStart => exact ⟨rfl, rfl, rfl⟩
    case round =>
      obtain ⟨rfl, rfl, rfl⟩ := hrel
      go_wp2
      go_ret
      exact ⟨ret_i (by simp [tl]), .inl ⟨rfl, rfl⟩, Chg.refl _ _ _⟩
  have HA := Lib.hid hat
  have hplace := hat.place
  clear hat
  go_enter Try.func57, Try.ntmps57
  go_wp2
  go_loopw [5, 1] (fun c d wr => ∃ i : Nat, i ≤ zss.length ∧ c = .int .i64 i ∧ d = .int .i64 ((k + tot zss i : Nat) : Int) ∧ GridAt wr lo hi g T B (mkU k zss i) ∧ Chg lo hi w wr) (fun c _ _ => zss.length - (intOf c).toNat)
  case atStart => exact ⟨0, Nat.zero_le _, rfl, by rw [tot_zero]; rfl, by rw [mkU_zero]; exact HA.out, Chg.refl _ _ _⟩
  case round =>
    obtain ⟨i, hile, rfl, rfl, hgr, hchg⟩ := hrel
    have HG := Lib.hid hgr
    clear hgr
    by_cases hlt : i < zss.length
    · have hlt' : (i : Int) < zss.length := by omega
      have hltm : i < (mkU k zss i).length := by rw [mkU_len]; exact hlt
      have c0 := (HG.out.cell i hltm).1
      have r0 := HG.out.row i hltm
      have e0 := mkU_at k zss i hlt
      rw [if_neg (Nat.lt_irrefl _)] at e0
      rw [e0] at r0
      have hts := tot_succ zss hlt
      have hle := tot_le zss (i + 1)
      have hbl := HG.out.blk i hltm
      obtain ⟨n, hne⟩ : ∃ n, n = (zss.getD i []).length := ⟨_, rfl⟩
      rw [← hne] at hts r0
      have hcall := markIntS (k + tot zss i) wr (B i) (B i + 1) n (T i) _ r0 (by omega) (by omega)
      have HC := Lib.hid hcall
      have HTS := Lib.hid hts
      have HNE := Lib.hid hne
      obtain ⟨u, hu⟩ : ∃ u, u = T i := ⟨_, rfl⟩
      rw [← hu] at c0
      have HC2 : Hid (Calls Try.prog 81 #[u, .int .i64 ((k + tot zss i : Nat) : Int)] wr fun e w' => e = .returned (.int .i64 ((k + tot zss i + n : Nat) : Int)) ∧ InR true w' (B i) (B i + 1) (T i) n 1 (marked (k + tot zss i : Nat)) ∧ Chg (B i) (B i + 1) wr w') := Lib.hid (by rw [hu]; exact HC.out)
      obtain ⟨q, hq⟩ : ∃ q, q = k + tot zss i := ⟨_, rfl⟩
      rw [← hq] at HC2 ⊢
      have HQ := Lib.hid hq
      clear HC hcall hts hle e0 r0 hne hu hq
      go_wp2_with (go_at_call 81; refine HC2.out.mono ?_; rintro e w2 ⟨rfl, hin, hch⟩)
      have HIN := Lib.hid hin
      have HCH := Lib.hid hch
      clear hin hch
      have hnew : GridAt w2 lo hi g T B (mkU k zss (i + 1)) := by
        refine HG.out.setRow hltm HCH.out ((mkU_len _ _ _).trans (mkU_len _ _ _).symm) ?_ ?_
        · rw [mkU_at k zss (i + 1) hlt, if_pos (Nat.lt_succ_self _), mkRow_len, ← HNE.out]
          exact HIN.out.congr (fun j hj => by rw [← HQ.out]; exact (mkRow_cell _ _ (by omega)).symm)
        · intro j hj hne
          rw [mkU_len] at hj
          rw [mkU_at k zss (i + 1) hj, mkU_at k zss i hj]
          by_cases h1 : j < i
          · rw [if_pos h1, if_pos (by omega)]
          · rw [if_neg h1, if_neg (by omega)]
      have HNW := Lib.hid hnew
      clear hnew
      go_roundw
      case rel => exact ⟨i + 1, by omega, by go_num, by have h1 := HTS.out; have h2 := HQ.out; congr 2; omega, HNW.out, hchg.trans (HCH.out.wider hbl.1 (by omega))⟩
      case measure => simp [intOf]; omega
    · have hke : i = zss.length := by omega
      have hkk : ¬ ((i : Int) < zss.length) := by omega
      have HK := Lib.hid hke
      clear hke
      go_wp2
      go_ret
      refine ⟨ret_i (by have h1 := tot_all zss; have h2 := HK.out; rw [← h2] at h1; omega), .inr ⟨g, cap, T, B, by rw [mkU_len], by rw [mkU_len]; exact hcap, ?_⟩, hchg⟩
      have := HG.out
      rw [HK.out] at this
      exact this

set_option maxHeartbeats 1000000 in
theorem heldIntSS (k : Nat) (w : World) (lo hi : Nat) (s : Value) (zss : List (List Int)) (h : OwnG w lo hi s (mkU k zss zss.length)) (hn : zss.length ≤ 4194304) (hn2 : tl zss ≤ 4194304) (hk : k ≤ 1048576) :
    Calls Try.prog 58 #[s, .int .i64 (k : Int)] w fun e w' => e = .returned (.int .i64 ((k + tl zss : Nat) : Int)) ∧ Below w.heap.size w w' := by
  rcases h with ⟨rfl, hnil⟩ | ⟨g, cap, T, B, rfl, hcap, hat⟩
  · have h0 : zss = [] := by
      have := congrArg List.length hnil
      rw [mkU_len] at this
      exact List.length_eq_zero_iff.1 this
    subst h0
    clear hnil
    go_enter Try.func58, Try.ntmps58
    go_wp2
    go_loopw [5, 1] (fun c d wr => c = .int .i64 0 ∧ d = .int .i64 (k : Int) ∧ wr = w) (fun c _ _ => 0)
    case atStart => exact ⟨rfl, rfl, rfl⟩
    case round =>
      obtain ⟨rfl, rfl, rfl⟩ := hrel
      go_wp2
      go_ret
      exact ⟨ret_i (by simp [tl]), Below.refl _ _⟩
  rw [mkU_len] at *
  have HA := Lib.hid hat
  have hplace := hat.place
  clear hat
  go_enter Try.func58, Try.ntmps58
  go_wp2
  go_loopw [5, 1] (fun c d wr => ∃ i : Nat, i ≤ zss.length ∧ c = .int .i64 i ∧ d = .int .i64 ((k + tot zss i : Nat) : Int) ∧ Below w.heap.size w wr) (fun c _ _ => zss.length - (intOf c).toNat)
  case atStart => exact ⟨0, Nat.zero_le _, rfl, by rw [tot_zero]; rfl, Below.refl _ _⟩
  case round =>
    obtain ⟨i, hile, rfl, rfl, hbel⟩ := hrel
    by_cases hlt : i < zss.length
    · have hlt' : (i : Int) < zss.length := by omega
      have hltm : i < (mkU k zss zss.length).length := by rw [mkU_len]; exact hlt
      have hG := HA.out.keep hbel
      have c0 := (hG.cell i hltm).1
      have r0 := hG.row i hltm
      have e0 := mkU_at k zss zss.length hlt
      rw [if_pos hlt] at e0
      rw [e0, mkRow_len] at r0
      have hts := tot_succ zss hlt
      have hle := tot_le zss (i + 1)
      obtain ⟨n, hne⟩ : ∃ n, n = (zss.getD i []).length := ⟨_, rfl⟩
      rw [← hne] at hts r0
      have r1 := r0.congr (cs' := marked (k + tot zss i : Nat)) (fun j hj => mkRow_cell _ _ (by omega))
      have hcall := heldIntS (k + tot zss i) true wr (B i) (B i + 1) n (T i) r1 (by omega) (by omega)
      have hneg : decide (((k + tot zss i + n : Nat) : Int) < 0) = false := decide_eq_false (by omega)
      obtain ⟨u, hu⟩ : ∃ u, u = T i := ⟨_, rfl⟩
      rw [← hu] at c0 hcall
      obtain ⟨q, hq⟩ : ∃ q, q = k + tot zss i := ⟨_, rfl⟩
      rw [← hq] at hcall hneg ⊢
      have HC := Lib.hid hcall
      have HTS := Lib.hid hts
      have HQ := Lib.hid hq
      clear hcall hts hle e0 r0 r1 hne hu hq hG
      go_wp2_with (go_at_call 82; refine HC.out.mono ?_; rintro e w2 ⟨rfl, hb2⟩)
      go_roundw
      case rel => exact ⟨i + 1, by omega, by go_num, by have h1 := HTS.out; have h2 := HQ.out; congr 2; omega, bel_trans hbel hb2⟩
      case measure => simp [intOf]; omega
    · have hke : i = zss.length := by omega
      have hkk : ¬ ((i : Int) < zss.length) := by omega
      have HK := Lib.hid hke
      clear hke
      go_wp2
      go_ret
      exact ⟨ret_i (by have h1 := tot_all zss; have h2 := HK.out; rw [← h2] at h1; omega), hbel⟩

set_option maxHeartbeats 1000000 in
theorem toMatrix (m : Int) (zss : List (List Int)) (s : Value) (w : World) (hr : Grid w s zss) (hl : zss.length ≤ 1048576) (hl2 : ∀ i, i < zss.length → (zss.getD i []).length ≤ 1048576) :
    Calls Try.prog 13 #[.agg #[.int .i64 m, s]] w fun e w' => ∃ s', e = .returned (.agg #[.int .i64 m, s']) ∧ OwnG w' w.heap.size w'.heap.size s' zss ∧ Below w.heap.size w w' := by
  obtain ⟨ad, c, rfl, hz0⟩ := id hr
  clear hz0
  have hB : ∀ (A B C : Obj), Below w.heap.size w (((w.alloc A).alloc B).alloc C) := fun A B C => (((Below.refl _ _).alloc (Nat.le_refl _) _).alloc (by simp) _).alloc (by simp; omega) _
  have hc := fun w hr => toIntSS zss (.slice ad zss.length c) w hr hl hl2
  have HC := Lib.hid hc
  have HR := Lib.hid hr
  have HB := Lib.hid hB
  clear hc hr hB hl2
  go_enter Try.func13, Try.ntmps13
  go_wp2_with (go_at_call 40; refine (HC.out _ (HR.out.keep (HB.out _ _ _))).mono ?_; rintro e w1 ⟨v, rfl, hown, hb1⟩; obtain ⟨va, vc, hv⟩ := hown.slice; subst hv; have x0 := hb1.cell (p := ⟨w.heap.size + 1 + 1, 0, none⟩) (by simp); have x1 := hb1.cell (p := ⟨w.heap.size + 1 + 1, 1, none⟩) (by simp); have z0 := hb1.cell (p := ⟨w.heap.size + 1, 0, none⟩) (by simp); have z1 := hb1.cell (p := ⟨w.heap.size + 1, 1, none⟩) (by simp); have y0 := hb1.frozen (p := ⟨w.heap.size + 1 + 1, 1, none⟩) (by simp); have y1 := hb1.frozen (p := ⟨w.heap.size + 1, 0, none⟩) (by simp); have y2 := hb1.frozen (p := ⟨w.heap.size + 1, 1, none⟩) (by simp); have HW := Lib.hid hown; clear hown)
  try simp only [Exit.inBlock, Exit.then]
  refine bodyPost_ret (v := .agg #[.int .i64 m, .slice va zss.length vc]) ?_ rfl ?_
  · rw [results_cell1 rfl]
    go_simp
  have hsz : w.heap.size + 3 ≤ w1.heap.size := by have := hb1.size; simp at this; omega
  have hch : ∀ u1 u2 u3 : Value, Chg w.heap.size (w.heap.size + 3) w1 (((w1.setCell ⟨w.heap.size + 1 + 1, 1, none⟩ u1).setCell ⟨w.heap.size + 1, 0, none⟩ u2).setCell ⟨w.heap.size + 1, 1, none⟩ u3) := fun u1 u2 u3 => (((Chg.refl _ _ _).setCell (by simp; omega) (by simp) _).setCell (by simp) (by simp) _).setCell (by simp) (by simp) _
  refine ⟨_, rfl, ((HW.out.chg (hch _ _ _) (.inl (by simp <;> omega))).wider (by simp <;> omega) (by simp) (by simp)), ?_⟩
  exact (((bel_trans (HB.out _ _ _) hb1).setCell (by simp; omega) _).setCell (by simp) _).setCell (by simp) _

theorem eqMatrix (m : Int) (zss : List (List Int)) (s t : Value) (w : World) (hs : Grid w s zss) (ht : Grid w t zss) (hl : zss.length ≤ 4194304) (hl2 : ∀ i, i < zss.length → (zss.getD i []).length ≤ 4194304) :
    Calls Try.prog 15 #[.agg #[.int .i64 m, s], .agg #[.int .i64 m, t]] w fun e w' => e = .returned (.bool true) ∧ Below w.heap.size w w' := by
  have hB : ∀ (A B : Obj), Below w.heap.size w ((w.alloc A).alloc B) := fun A B => ((Below.refl _ _).alloc (Nat.le_refl _) _).alloc (by simp) _
  obtain ⟨a1, c1, rfl, _⟩ := id hs
  obtain ⟨a2, c2, rfl, _⟩ := id ht
  have hc := fun A B => eqIntSS zss _ _ ((w.alloc A).alloc B) (hs.keep (hB A B)) (ht.keep (hB A B)) hl hl2
  have HC := Lib.hid hc
  have HB := Lib.hid hB
  clear hc hB hl2
  go_enter Try.func15, Try.ntmps15
  go_wp2_with (go_at_call 42; refine (HC.out _ _).mono ?_; rintro e w1 ⟨rfl, hb1⟩)
  go_ret
  exact ⟨rfl, bel_trans (HB.out _ _) hb1⟩

theorem szMatrix (m : Int) (zss : List (List Int)) (s : Value) (l : Nat) (w : World) (hs : Grid w s zss) (hl : l ≤ 1048576) (hn : zss.length ≤ 9223372036854775807) (hn2 : ∀ i, i < zss.length → (zss.getD i []).length ≤ 9223372036854775807) :
    Calls Try.prog 11 #[.agg #[.int .i64 m, s], .int .i64 l] w fun e w' => e = .returned (.int .i64 (szG l zss)) ∧ Below w.heap.size w w' := by
  obtain ⟨a1, c1, rfl, _⟩ := id hs
  have hc := fun A => szIntSS zss _ l (w.alloc A) (hs.keep ((Below.refl _ _).alloc (Nat.le_refl _) _)) hl hn hn2
  have hR : -1 ≤ szG l zss := by unfold szG; split <;> omega
  generalize szG l zss = R at hc hR ⊢
  have HC := Lib.hid hc
  clear hc hn2
  by_cases h : R < 0
  · have e1 : R = -1 := by omega
    subst e1
    go_enter Try.func11, Try.ntmps11
    go_wp2_with (go_at_call 37; refine (HC.out _).mono ?_; rintro e w1 ⟨rfl, rfl⟩)
    go_ret
    exact ⟨rfl, ((Below.refl _ _).alloc (Nat.le_refl _) _)⟩
  · go_enter Try.func11, Try.ntmps11
    go_wp2_with (go_at_call 37; refine (HC.out _).mono ?_; rintro e w1 ⟨rfl, rfl⟩)
    go_ret
    exact ⟨rfl, ((Below.refl _ _).alloc (Nat.le_refl _) _)⟩

theorem markMatrix (k : Nat) (M : Int) (w : World) (lo hi : Nat) (s : Value) (zss : List (List Int)) (h : OwnG w lo hi s zss) (hn : zss.length ≤ 4194304) (hn2 : tl zss ≤ 4194304) (hk : k ≤ 1048576) :
    Calls Try.prog 26 #[.agg #[.int .i64 M, s], .int .i64 (k : Int)] w fun e w' => e = .returned (.int .i64 ((k + tl zss : Nat) : Int)) ∧ OwnG w' lo hi s (mkU k zss zss.length) ∧ Chg lo hi w w' := by
  have hB : ∀ A, Below w.heap.size w (w.alloc A) := fun A => (Below.refl _ _).alloc (Nat.le_refl _) _
  obtain ⟨a1, c1, hs⟩ := h.slice
  subst hs
  have hc := fun A => markIntSS k (w.alloc A) lo hi _ zss (h.keep (hB A)) hn hn2 hk
  have hnn : decide (((k + tl zss : Nat) : Int) < 0) = false := decide_eq_false (by omega)
  have HC := Lib.hid hc
  have HB := Lib.hid hB
  clear hc hB
  go_enter Try.func26, Try.ntmps26
  go_wp2_with (go_at_call 57; refine (HC.out _).mono ?_; rintro e w1 ⟨rfl, hb1⟩)
  go_ret
  exact ⟨ret_i (by omega), hb1.1, (Chg.of_below (HB.out _)).trans hb1.2⟩

theorem heldMatrix (k : Nat) (M : Int) (w : World) (lo hi : Nat) (s : Value) (zss : List (List Int)) (h : OwnG w lo hi s (mkU k zss zss.length)) (hn : zss.length ≤ 4194304) (hn2 : tl zss ≤ 4194304) (hk : k ≤ 1048576) :
    Calls Try.prog 27 #[.agg #[.int .i64 M, s], .int .i64 (k : Int)] w fun e w' => e = .returned (.int .i64 ((k + tl zss : Nat) : Int)) ∧ Below w.heap.size w w' := by
  have hB : ∀ A, Below w.heap.size w (w.alloc A) := fun A => (Below.refl _ _).alloc (Nat.le_refl _) _
  obtain ⟨a1, c1, hs⟩ := h.slice
  subst hs
  have hc := fun A => heldIntSS k (w.alloc A) lo hi _ zss (h.keep (hB A)) hn hn2 hk
  have hnn : decide (((k + tl zss : Nat) : Int) < 0) = false := decide_eq_false (by omega)
  have HC := Lib.hid hc
  have HB := Lib.hid hB
  clear hc hB
  go_enter Try.func27, Try.ntmps27
  go_wp2_with (go_at_call 58; refine (HC.out _).mono ?_; rintro e w1 ⟨rfl, hb1⟩)
  go_ret
  exact ⟨ret_i (by omega), bel_trans (HB.out _) hb1⟩
end Go.Proofs.Ytdpbmenjangpaaa
namespace Go.Proofs.Ytdpbmenjangpaaa
open Go.RowKit Go.BigFrame Go.Deep Go.ChangeShapes Go.WideShapes Go.Joins
set_option linter.unusedVariables false
set_option linter.unusedSimpArgs false

section
variable {H : Type} {enc : TypeId × Value → H} {w : World} {base : Nat} {spare : Nat → Bool} {held : Bool}

set_option maxRecDepth 100000 in
/-- A slice of slices of integers reads as a list of lists. -/
theorem openGrid {fuel : Nat} {s : Value} {x : DataW H × List MemPlace} (h : DataW.trod enc Try.prog w base spare held fuel 22 [s] = some x) :
    ∃ zss : List (List Int), Grid w s zss ∧ zss.length ≤ 9223372036854775807 ∧ ∀ i, i < zss.length → (zss.getD i []).length ≤ 9223372036854775807 := by
  rcases open_slice Try.underlying22 h with ⟨hcs, _⟩ | ⟨a, len, cap, m, n, D, Pl, hcs, hb, hl, hm, hmm, hx, hi⟩
  · simp only [List.cons.injEq, and_true] at hcs
    subst hcs
    exact ⟨[], ⟨none, 0, rfl, .inl rfl⟩, by simp, fun i hi => absurd hi (Nat.not_lt_zero _)⟩
  · simp only [List.cons.injEq, and_true] at hcs
    subst hcs
    have hC : Try.prog.cellsOf 60 = 1 := by kernel_rfl
    have hlm : len ≤ m := by rw [hmm]; split <;> omega
    have key : ∀ i, ∃ (p : Value) (zs : List Int), i < len → (w.cell? (a.add i) = some p ∧ Row w p zs ∧ zs.length ≤ 9223372036854775807) := by
      intro i
      by_cases hil : i < len
      · obtain ⟨cs', hc, ht'⟩ := hi i (by omega)
        rw [hC] at hc
        obtain ⟨_, hcl, hat⟩ := World.cells?_some hc
        match cs', hcl with
        | [c0], _ =>
          obtain ⟨zs, hr, hzl⟩ := openInts1 ht'
          have a0 := hat 0 (by omega)
          have e0 : (a.add (i * 1)).add 0 = a.add i := by simp [Addr.add]
          rw [e0] at a0
          exact ⟨c0, zs, fun _ => ⟨by simpa using a0, hr, hzl⟩⟩
      · exact ⟨.slice none 0 0, [], fun h => absurd h hil⟩
    obtain ⟨T, hT⟩ := Classical.skolem.1 key
    obtain ⟨Z, hZ⟩ := Classical.skolem.1 hT
    have hmax : maxLen ≤ 9223372036854775807 := by decide
    by_cases h0 : len = 0
    · subst h0
      exact ⟨[], ⟨some a, cap, rfl, .inl rfl⟩, by simp, fun i hi => absurd hi (Nat.not_lt_zero _)⟩
    have c0 := (hZ 0 (by omega)).1
    obtain ⟨b, off, spot⟩ := a
    have hspot : spot = none := by simpa [Addr.add] using World.cell?_spot c0
    subst hspot
    let zss : List (List Int) := (List.range len).map Z
    have hes : zss.length = len := by simp [zss]
    have hg : ∀ i, i < len → zss.getD i [] = Z i := fun i hil => by simp [zss, List.getD, hil]
    refine ⟨zss, ⟨some ⟨b, off, none⟩, cap, by rw [hes], .inr ⟨b, off, T, rfl, World.block_lt_of_cell? _ _ (by simpa [Addr.add] using c0), fun i hil => ?_⟩⟩, ?_, fun i hil => ?_⟩
    · rw [hes] at hil
      obtain ⟨k0, k1, _⟩ := hZ i hil
      rw [Go.WideShapes.add_plain] at k0
      rw [hg i hil]
      exact ⟨k0, k1⟩
    · rw [hes]; omega
    · rw [hes] at hil
      rw [hg i hil]
      exact (hZ i hil).2.2

set_option maxRecDepth 100000 in
/-- An argument that is a matrix. -/
theorem openMatrix {r : Reach} {b0 : Nat} {v : Value} {d : DataW H} {p : List MemPlace} (hv : Value.okWide Try.prog w r b0 24 v) (h : DataW.Trod enc Try.prog w base spare held 24 v d p) :
    ∃ (m : Int) (s : Value) (zss : List (List Int)), v = .agg #[.int .i64 m, s] ∧ Grid w s zss ∧ zss.length ≤ 9223372036854775807 ∧ ∀ i, i < zss.length → (zss.getD i []).length ≤ 9223372036854775807 := by
  obtain ⟨v0, v1, y0, y1, n, rfl, _, _, h0, h1⟩ := open_agg2 Try.underlying24 (by kernel_rfl) (by kernel_rfl) hv h
  obtain ⟨x, hx⟩ := one_int Try.underlying3 h0
  simp only [List.cons.injEq, and_true] at hx
  subst hx
  obtain ⟨zss, he, hl, hl2⟩ := openGrid h1
  exact ⟨x, v1, zss, rfl, he, hl, hl2⟩
end
end Go.Proofs.Ytdpbmenjangpaaa
