/- The matrix of a graph's edges, and that of its best walks: in the program. -/
import Derived.Test.YtjpikbbpmbeckaaMatW
import Derived.Test.YtjpikbbpmbeckaaFind3
namespace Go.Proofs.Ytjpikbbpmbeckaa
open Go.RowKit Go.BigFrame Go.Deep
set_option linter.unusedVariables false
set_option linter.unusedSimpArgs false

/-- The matrix of a graph without edges. -/
def stRows (m : Int) (N : Nat) : List (List Int) := (List.range N).map fun a => vStart m (N : Nat) (a : Nat)
/-- An edge is put in. -/
def putG (m : Int) (z : List (List Int)) (e : Ed) : List (List Int) := z.set e.1.toNat ((z.getD e.1.toNat []).set e.2.1.toNat (mEdge m e.2.2))
/-- The matrix of the first k edges. -/
def erU (m : Int) (N : Nat) (es : List Ed) (k : Nat) : List (List Int) := (es.take k).foldl (putG m) (stRows m N)
theorem stRows_len (m : Int) (N : Nat) : (stRows m N).length = N := by simp [stRows]
theorem stRows_at (m : Int) (N : Nat) {a : Nat} (h : a < N) : (stRows m N).getD a [] = vStart m (N : Nat) (a : Nat) := by
  unfold stRows
  simp only [List.getD, List.getElem?_map, List.getElem?_range h, Option.map_some, Option.getD_some]
theorem erU_succ (m : Int) (N : Nat) (es : List Ed) {k : Nat} (h : k < es.length) : erU m N es (k + 1) = putG m (erU m N es k) (es.getD k (0, 0, 0)) := by
  unfold erU
  rw [List.take_succ_eq_append_getElem h, List.foldl_append]
  simp [List.getD, h]
theorem vStart_in {m : Int} (hm : mKind m = true) {N a : Nat} : ∀ k, k < N → mIn m ((vStart m (N : Nat) (a : Nat)).getD k 0) = true := fun k hk => by
  have e := vStart_at m (N : Nat) (a : Nat) (i := k) (by rw [Int.toNat_natCast]; exact hk)
  rw [e]
  split
  · exact mOne_in hm
  · exact mNone_in hm
theorem stRows_sq {m : Int} (hm : mKind m = true) (N : Nat) : Sq m N (stRows m N) :=
  ⟨stRows_len m N, fun i hi => by rw [stRows_at m N hi]; exact ⟨by rw [vStart_length, Int.toNat_natCast], vStart_in hm⟩⟩
/-- Do the edges fit N nodes? -/
def eFit (N : Nat) (es : List Ed) : Prop := ∀ k, k < es.length → ∃ X Y : Nat, (es.getD k (0, 0, 0)).1 = X ∧ (es.getD k (0, 0, 0)).2.1 = Y ∧ X < N ∧ Y < N ∧ mWeight (es.getD k (0, 0, 0)).2.2 = true
theorem gVal_eFit {n : Int} {es : List Ed} (h : gVal n es = true) : eFit n.toNat es := fun k hk => by
  have h1 := gVal_fits h hk
  simp only [eFits, Bool.and_eq_true, decide_eq_true_eq] at h1
  refine ⟨(es.getD k (0, 0, 0)).1.toNat, (es.getD k (0, 0, 0)).2.1.toNat, by omega, by omega, by omega, by omega, ?_⟩
  simp only [mWeight, Bool.and_eq_true, decide_eq_true_eq]
  exact h1.2.2
theorem set_in {m : Int} {row : List Int} {Y : Nat} {v : Int} (h : ∀ k, k < row.length → mIn m (row.getD k 0) = true) (hv : mIn m v = true) : ∀ k, k < row.length → mIn m ((row.set Y v).getD k 0) = true := fun k hk => by
  rw [getD_set _ _ _ _ hk]
  split
  · exact hv
  · exact h k hk
theorem erU_sq {m : Int} {N : Nat} {es : List Ed} (hm : mKind m = true) (he : eFit N es) : ∀ k, k ≤ es.length → Sq m N (erU m N es k)
  | 0, _ => stRows_sq hm N
  | k + 1, hk => by
    have ih := erU_sq hm he k (by omega)
    obtain ⟨X, Y, hX, hY, hXN, hYN, hw⟩ := he k (by omega)
    rw [erU_succ m N es (by omega)]
    unfold putG
    rw [hX, hY, Int.toNat_natCast, Int.toNat_natCast]
    obtain ⟨hl, hin⟩ := ih.2 X hXN
    exact ih.set (by rw [List.length_set]; exact hl) (fun j hj => set_in (fun k hk => hin k (by omega)) (mEdge_in hm hw) j (by omega))

set_option maxRecDepth 20000 in
set_option maxHeartbeats 4000000 in
theorem edgeRows (m : Int) (N : Nat) (es : List Ed) (s : Value) (w : World) (hm : mKind m = true) (h0 : 1 ≤ N) (h12 : N ≤ 12) (hs : RowE w s es) (hl : es.length ≤ 1048576) (he : eFit N es) :
    Calls Try.prog 80 #[opsV m, .agg #[.int .i64 (N : Nat), s]] w fun e w' => ∃ v, e = .returned v ∧ OwnG w' w.heap.size w'.heap.size v (erU m N es es.length) ∧ Below w.heap.size w w' := by
  have hsv := fun (a : Nat) w (ha : a < N) => startValues m N a hm ha h12 w
  have hsq := fun k hk => erU_sq hm he k hk
  have HSQ := Lib.hid hsq
  have HE := Lib.hid he
  have HM := Lib.hid hm
  obtain ⟨TT, rv, fn, fe, fb, fo, fj, rn, re, rb, ro, rj, D⟩ := disp hm
  rw [D.val] at hsv ⊢
  have ho1 := D.mo.run
  have ho2 := D.mo.ahead
  have ho3 := D.mo.enter
  have HCO := Lib.hid D.co
  have HDD := Lib.hid D
  have HSV := Lib.hid hsv
  obtain ⟨ad, cap, rfl, hz0⟩ := hs
  have hz := Lib.hid hz0
  have hmk := run_make_row' (P := Try.prog) 31 23 (.slice none 0 0) 24 Try.underlying31 info_ints rfl .i64 .i64 N (by omega) (by omega)
  clear hz0 hsv hsq he hm D
  go_enter Try.func80, Try.ntmps80
  go_wp2
  clear hmk
  have hw2 : Below w.heap.size w ((w.alloc (.cells #[.int .i64 (N : Nat), .slice ad es.length cap] 50)).alloc (.cells (madeCells #[.slice none 0 0] N) 23)) := ((Below.refl _ _).alloc (Nat.le_refl _) _).alloc (by simp) _
  have hp0 : PartG ((w.alloc (.cells #[.int .i64 (N : Nat), .slice ad es.length cap] 50)).alloc (.cells (madeCells #[.slice none 0 0] N) 23)) (w.heap.size + 1) N 0 (stRows m N) := by
    have := PartG.made (w.alloc (.cells #[.int .i64 (N : Nat), .slice ad es.length cap] 50)) N (stRows m N)
    simpa using this
  have q0 : ((w.alloc (.cells #[.int .i64 (N : Nat), .slice ad es.length cap] 50)).alloc (.cells (madeCells #[.slice none 0 0] N) 23)).cell? ⟨w.heap.size, 0, none⟩ = some (.int .i64 (N : Nat)) := by go_simp
  have q1 : ((w.alloc (.cells #[.int .i64 (N : Nat), .slice ad es.length cap] 50)).alloc (.cells (madeCells #[.slice none 0 0] N) 23)).cell? ⟨w.heap.size, 1, none⟩ = some (.slice ad es.length cap) := by go_simp
  have HP0 := Lib.hid hp0
  clear hp0
  generalize ((w.alloc (.cells #[.int .i64 (N : Nat), .slice ad es.length cap] 50)).alloc (.cells (madeCells #[.slice none 0 0] N) 23)) = W1 at HP0 hw2 q0 q1 ⊢
  go_loopw [14] (fun c wr => ∃ k : Nat, k ≤ N ∧ c = .int .i64 k ∧ Hid (PartG wr (w.heap.size + 1) N k (stRows m N)) ∧ Below w.heap.size w wr ∧ (wr.cell? ⟨w.heap.size, 0, none⟩ = some (.int .i64 (N : Nat)) ∧ wr.cell? ⟨w.heap.size, 1, none⟩ = some (.slice ad es.length cap))) (fun c _ => N - (intOf c).toNat)
  case atStart => exact ⟨0, Nat.zero_le _, rfl, HP0, hw2, q0, q1⟩
  case round =>
    obtain ⟨k, hk, rfl, HP, hbel, hx0, hx1⟩ := hrel
    clear q0 q1
    have hgl : w.heap.size + 1 < wr.heap.size := by obtain ⟨_, _, hr, _⟩ := HP.out; exact hr.lt
    by_cases hlt : k < N
    · have hlt' : (k : Int) < N := by omega
      have hcall := HSV.out k wr hlt
      have HC := Lib.hid hcall
      clear hcall
      go_wp2_with (go_at_call 84; refine HC.out.mono ?_; rintro e w2 ⟨_, rfl, hnew, hb2⟩; have hst := (HP.out.keep hb2).cell hlt; have hfr := (HP.out.keep hb2).frozen k; have HNEW := Lib.hid hnew; obtain ⟨g2, cap2, rfl, hg2, hrow2⟩ := hnew; clear hg2 hrow2)
      have hN2 : (vStart m (N : Nat) (k : Nat)).length = N := by rw [vStart_length, Int.toNat_natCast]
      have y0 := (hb2.cell (p := ⟨w.heap.size, 0, none⟩) (by simp only; omega)).trans hx0
      have y1 := (hb2.cell (p := ⟨w.heap.size, 1, none⟩) (by simp only; omega)).trans hx1
      have HS : Hid (PartG (w2.setCell ⟨w.heap.size + 1, k, none⟩ (.slice (some ⟨g2, 0, none⟩) (vStart m (N : Nat) (k : Nat)).length cap2)) (w.heap.size + 1) N (k + 1) (stRows m N)) := Lib.hid (by
        obtain ⟨b2, k1, k2, k3, k4⟩ := HNEW.out.blk
        exact HP.out.step hb2 k1 k2 k3 k4 (stRows_at m N hlt))
      have HN2 := Lib.hid hN2
      clear hN2
      go_roundw
      case rel => exact ⟨k + 1, by omega, by go_num, HS, (bel_trans hbel hb2).setCell (by simp) _, by go_simp, by go_simp⟩
      case measure => simp [intOf]; omega
    · have hke : k = N := by omega
      have hkk : ¬ ((k : Int) < N) := by omega
      subst hke
      have hown := PartG.all (zss := stRows m k) (by rw [stRows_len]; exact HP.out) (w.heap.size + 1) (Nat.le_refl _) k (by rw [stRows_len]; exact Nat.le_refl _)
      rw [stRows_len] at hown
      obtain ⟨g, cp, T, B, hsl, hcp, hat⟩ := hown.at (by rw [stRows_len]; exact h0)
      injection hsl with h1 h2 h3
      injection h1 with h1
      injection h1 with h1 h4 h5
      subst h1 h3
      have HAT := Lib.hid hat
      clear hown hat hcp h2 h4 h5
      obtain ⟨wm, hwm⟩ : ∃ wm, wm = wr := ⟨_, rfl⟩
      subst hwm
      go_wp2
      go_loopw [29] (fun c ws => ∃ j : Nat, j ≤ es.length ∧ c = .int .i64 j ∧ Hid (GridAt ws (w.heap.size + 1) wm.heap.size (w.heap.size + 1) T B (erU m k es j)) ∧ Hid (Chg (w.heap.size + 1) wm.heap.size wm ws)) (fun c _ => es.length - (intOf c).toNat)
      case atStart => exact ⟨0, Nat.zero_le _, rfl, HAT, Lib.hid (Chg.refl _ _ _)⟩
      case round =>
        obtain ⟨j, hj, rfl, HG, HC⟩ := hrel
        have hbs := bel_chg hbel HC.out (by omega)
        by_cases hlj : j < es.length
        · have hlj' : (j : Int) < es.length := by omega
          rcases hz.out with h0 | ⟨eb, eo, rfl, heb, hec⟩
          · rw [h0] at hlj; simp at hlj
          have hsucc := erU_succ m k es hlj
          obtain ⟨X, Y, hX, hY, hXN, hYN, hwt⟩ := HE.out j hlj
          have h3 := hec j hlj
          have hEd : es.getD j (0, 0, 0) = ((X : Int), (Y : Int), (es.getD j (0, 0, 0)).2.2) := by rw [← hX, ← hY]
          obtain ⟨p, hp⟩ : ∃ p, p = (es.getD j (0, 0, 0)).2.2 := ⟨_, rfl⟩
          rw [hX, hY, ← hp] at h3
          rw [← hp] at hEd hwt
          rw [hEd] at hsucc
          have c0 := (hbs.cell (p := ⟨eb, eo + j * 3, none⟩) heb).trans h3.1
          have c1 := (hbs.cell (p := ⟨eb, eo + j * 3 + 1, none⟩) heb).trans h3.2.1
          have c2 := (hbs.cell (p := ⟨eb, eo + j * 3 + 2, none⟩) heb).trans h3.2.2
          have hsq := HSQ.out j hj
          obtain ⟨hrl, hri⟩ := hsq.2 X hXN
          have hXl : X < (erU m k es j).length := by rw [hsq.1]; exact hXN
          obtain ⟨ox, cx, hTX, hwX⟩ := HG.out.wr hXl (by omega)
          have hgc := (HG.out.cell X hXl).1
          rw [hTX, hrl] at hgc
          have hcell := hwX.2 Y (by omega)
          obtain ⟨old, hold⟩ : ∃ o, o = ((erU m k es j).getD X []).getD Y 0 := ⟨_, rfl⟩
          rw [← hold] at hcell
          have hblk := HG.out.blk X hXl
          have hXi : (X : Int) < k := by omega
          have hYi : (Y : Int) < k := by omega
          have hmain : ∀ w', Below (wr.alloc (.cells #[.int .i64 X, .int .i64 Y, .int .i64 p] 59)).heap.size (wr.alloc (.cells #[.int .i64 X, .int .i64 Y, .int .i64 p] 59)) w' →
              (w'.cell? ⟨wr.heap.size, 0, none⟩ = some (.int .i64 X) ∧ w'.cell? ⟨wr.heap.size, 1, none⟩ = some (.int .i64 Y) ∧ w'.cell? ⟨wr.heap.size, 2, none⟩ = some (.int .i64 p)) ∧ w'.cell? ⟨w.heap.size + 1, X, none⟩ = some (.slice (some ⟨B X, ox, none⟩) k cx) ∧ w'.cell? ⟨B X, ox + Y, none⟩ = some (.int .i64 old) ∧ w'.frozen? ⟨B X, ox + Y, none⟩ = false ∧
              (GridAt (w'.setCell ⟨B X, ox + Y, none⟩ (.int .i64 (mEdge m p))) (w.heap.size + 1) wm.heap.size (w.heap.size + 1) T B (erU m k es (j + 1)) ∧ Chg (w.heap.size + 1) wm.heap.size wm (w'.setCell ⟨B X, ox + Y, none⟩ (.int .i64 (mEdge m p)))) := by
            intro w' h
            have hb : Below wr.heap.size wr w' := bel_trans ((Below.refl _ _).alloc (Nat.le_refl _) _) h
            have hgl2 : w.heap.size + 1 < wr.heap.size := Nat.lt_of_lt_of_le hgl HC.out.size
            refine ⟨⟨(h.cell (p := ⟨_, _, none⟩) (by simp)).trans (by go_simp), (h.cell (p := ⟨_, _, none⟩) (by simp)).trans (by go_simp), (h.cell (p := ⟨_, _, none⟩) (by simp)).trans (by go_simp)⟩, (hb.cell (p := ⟨_, _, none⟩) hgl2).trans hgc, (hb.cell (p := ⟨B X, _, none⟩) hwX.1).trans hcell.1, (hb.frozen (p := ⟨B X, _, none⟩) hwX.1).trans hcell.2, ?_, (HC.out.trans (Chg.of_below hb)).setCell hblk.1 hblk.2.1 _⟩
            have hset := (hwX.keep hb).set (k := Y) (by omega) (mEdge m p)
            refine (HG.out.keep hb).keepG (k := X) (off := ox) hXl (by rw [hsucc]; unfold putG; simp only [Int.toNat_natCast]) (by rw [List.length_set]) ⟨cx, by rw [List.length_set, hrl]; exact hTX.trans (by rw [hrl])⟩ hset (Chg.setCell (p := ⟨B X, ox + Y, none⟩) (Chg.refl _ _ _) (Nat.le_refl _) (Nat.lt_succ_self _) _)
          have HMAIN := Lib.hid hmain
          clear h3 hEd hp hsucc hsq hrl hri hXl hTX hwX hgc hcell hold hblk hmain hwt hec
          go_wp2
          generalize (wr.alloc (.cells #[.int .i64 X, .int .i64 Y, .int .i64 p] 59)) = W2 at HMAIN ⊢
          clear c0 c1 c2
          obtain ⟨⟨e0, e1, e2⟩, e3, e4, e5, -⟩ := HMAIN.out _ (Below.refl _ _)
          go_region_law (go_simp; (with_reducible refine (HCO.out _ _).mono ?_); rintro e wE ⟨rfl, hbE⟩; have HF := Lib.hid (HMAIN.out wE (bel_trans ((Below.refl _ _).drew) hbE)); have f0 := HF.out.1.1; have f1 := HF.out.1.2.1; have f2 := HF.out.1.2.2; have f3 := HF.out.2.1; have f4 := HF.out.2.2.1; have f5 := HF.out.2.2.2.1)
          all_goals go_wp2
          all_goals go_roundw
          all_goals first | (simp [intOf]; omega) | exact ⟨j + 1, by omega, by go_num, Lib.hid HF.out.2.2.2.2.1, Lib.hid HF.out.2.2.2.2.2⟩ | ((repeat apply Exists.intro); exact ⟨⟨j + 1, by omega, by go_num, Lib.hid HF.out.2.2.2.2.1, Lib.hid HF.out.2.2.2.2.2⟩, rfl⟩)
        · have hke : j = es.length := by omega
          have hkk : ¬ ((j : Int) < es.length) := by omega
          have HK := Lib.hid hke
          have hlen := (HSQ.out j hj).1
          have HLEN := Lib.hid hlen
          clear hke hlen
          go_wp2
          go_ret
          have hG := HG.out
          have hs2 := HC.out.size
          have h9 := ((hG.own HLEN.out (Nat.le_refl _)).wider (l := w.heap.size) (h := wr.heap.size) (by omega) hs2 (Nat.le_refl _))
          rw [HK.out] at h9
          exact ⟨_, rfl, h9, hbs⟩
end Go.Proofs.Ytjpikbbpmbeckaa
