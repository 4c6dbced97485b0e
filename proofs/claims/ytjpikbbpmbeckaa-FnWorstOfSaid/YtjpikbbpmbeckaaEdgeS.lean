/- The matrix of a graph's edges: in the model. -/
import Derived.Test.YtjpikbbpmbeckaaEmptyS
import Derived.Test.YtjpikbbpmbeckaaMatL
namespace Go.Proofs.Ytjpikbbpmbeckaa
open Go.RowKit Go.BigFrame Go.Deep
set_option linter.unusedVariables false
set_option linter.unusedSimpArgs false

theorem Box.chgM {w w' : World} {B lo hi : Nat} {t : TypeId} {cs : Array Value} (h : Box w B t cs) (c : Chg lo hi w w') (d : B < lo ∨ hi ≤ B) : Box w' B t cs := (c.block B h.lt d).trans h
theorem quietS8 {P : Program} {f : FuncId} {args : Array Value} {W w : World} {v : Value} (h : Calls P f args w fun e w' => e = .returned v ∧ w = w') (hw : w = W) :
    Calls P f args w fun e w' => e = .returned v ∧ w' = W := h.mono fun _ _ ⟨he, hb⟩ => ⟨he, by rw [← hb]; exact hw⟩
theorem emL_sm {n : Int} {es : List Ed} {m : Int} (h : emOk n es m = true) : Sm (emL n es m) := (emL_sq h).sm (by have := gVal_n (emOk_parts h).1; omega)

set_option maxRecDepth 20000 in
set_option maxHeartbeats 4000000 in
theorem sEdgeMatrix (n m : Int) (es : List Ed) (s : Value) (w : World) (hs : RowE w s es) (hl : es.length ≤ 281474976710656) :
    Calls Try.prog 35 #[.agg #[.int .i64 n, s], .int .i64 m] w fun e w' => ∃ v, e = .returned (.tuple #[.agg #[.int .i64 (rM (emOk n es m) m), v], .bool (emOk n es m)]) ∧ OwnG w' w.heap.size w'.heap.size v (rL (emOk n es m) (emL n es m)) ∧ Below w.heap.size w w' := by
  have hB : ∀ (A B : Obj), Below w.heap.size w ((w.alloc A).alloc B) := fun A B => ((Below.refl _ _).alloc (Nat.le_refl _) _).alloc (by simp) _
  have hg := fun A B => sGraphValid n es s ((w.alloc A).alloc B) (hs.keep (hB A B)) hl
  have hk := fun w => sKind m w
  obtain ⟨ad, cap, rfl, hz0⟩ := id hs
  have hz := Lib.hid hz0
  obtain ⟨G, hG⟩ : ∃ G, G = gVal n es := ⟨_, rfl⟩
  obtain ⟨K, hK⟩ : ∃ K, K = mKind m := ⟨_, rfl⟩
  rw [← hG] at hg
  rw [← hK] at hk
  obtain ⟨R, hR⟩ : ∃ R, R = emOk n es m := ⟨_, rfl⟩
  rw [← hR]
  have HG := Lib.hid hg
  have HK := Lib.hid hk
  have HB := Lib.hid hB
  have QG := Lib.hid hG
  have QK := Lib.hid hK
  have HR := Lib.hid hR
  clear hz0 hs hg hk hB hG hK hR
  have e1 : rM false m = 0 := rfl
  have e2 : rL false (emL n es m) = [] := rfl
  cases G
  · have e0 : R = false := by rw [HR.out]; unfold emOk onOk; rw [← QG.out]; rfl
    rw [e0, e1, e2]
    clear e0 e1 e2
    go_enter Try.func35, Try.ntmps35
    go_wp2_with (first | (go_at_call 81; refine (HG.out _ _).mono ?_; rintro e w1 ⟨rfl, hb1⟩; have x0 := hb1.cell (p := ⟨w.heap.size + 1, 0, none⟩) (by simp); have x1 := hb1.cell (p := ⟨w.heap.size + 1, 1, none⟩) (by simp); have f0 := hb1.frozen (p := ⟨w.heap.size + 1, 0, none⟩) (by simp); have f1 := hb1.frozen (p := ⟨w.heap.size + 1, 1, none⟩) (by simp)))
    try simp only [Exit.inBlock, Exit.then]
    refine bodyPost_ret (v := .tuple #[.agg #[.int .i64 0, .slice none 0 0], .bool false]) ?_ rfl ?_
    · rw [results_cell_tmp rfl]
      go_simp
    exact ⟨_, rfl, OwnG.nil _ _ _, ((bel_trans (HB.out _ _) hb1).setCell (by simp) _).setCell (by simp) _⟩
  cases K
  · have e0 : R = false := by rw [HR.out]; unfold emOk onOk; rw [← QK.out]; simp
    rw [e0, e1, e2]
    clear e0 e1 e2
    go_enter Try.func35, Try.ntmps35
    go_wp2_with (first | (go_at_call 81; refine (HG.out _ _).mono ?_; rintro e w1 ⟨rfl, hb1⟩; have x0 := hb1.cell (p := ⟨w.heap.size + 1, 0, none⟩) (by simp); have x1 := hb1.cell (p := ⟨w.heap.size + 1, 1, none⟩) (by simp); have f0 := hb1.frozen (p := ⟨w.heap.size + 1, 0, none⟩) (by simp); have f1 := hb1.frozen (p := ⟨w.heap.size + 1, 1, none⟩) (by simp)) | (go_at_call 70; refine (HK.out _).mono ?_; rintro e w2 ⟨rfl, rfl⟩))
    try simp only [Exit.inBlock, Exit.then]
    refine bodyPost_ret (v := .tuple #[.agg #[.int .i64 0, .slice none 0 0], .bool false]) ?_ rfl ?_
    · rw [results_cell_tmp rfl]
      go_simp
    exact ⟨_, rfl, OwnG.nil _ _ _, ((bel_trans (HB.out _ _) hb1).setCell (by simp) _).setCell (by simp) _⟩
  have e0 : R = true := by rw [HR.out]; unfold emOk onOk; rw [← QG.out, ← QK.out]; rfl
  rw [e0]
  have e3 : rM true m = m := rfl
  have e4 : rL true (emL n es m) = emL n es m := rfl
  rw [e3, e4]
  have hm := QK.out.symm
  have hgv := QG.out.symm
  have hn := gVal_n hgv
  obtain ⟨N, rfl⟩ := Int.eq_ofNat_of_zero_le (show 0 ≤ n by omega)
  have hfit := gVal_eFit hgv
  rw [Int.toNat_natCast] at hfit
  have hem : emL (N : Nat) es m = erU m N es es.length := by unfold emL; rw [Int.toNat_natCast]
  rw [hem]
  have hsq := fun k hk => erU_sq hm hfit k hk
  have HSQ := Lib.hid hsq
  have HE := Lib.hid hfit
  have hN1 : 1 ≤ N := by omega
  have hes40 : es.length ≤ 40 := hn.2.2
  have hemp := fun w => l8Empty m N w hm hN1 (by omega)
  have hse := fun x w => sEdge hm x w
  have HEMP := Lib.hid hemp
  have HSE := Lib.hid hse
  have HM := Lib.hid hm
  clear e0 e1 e2 e3 e4 hm hgv hn hfit hem hsq hemp hse
  go_enter Try.func35, Try.ntmps35
  go_wp2_with (first | (go_at_call 81; refine (HG.out _ _).mono ?_; rintro e w1 ⟨rfl, hb1⟩; have x0 := hb1.cell (p := ⟨w.heap.size, 0, none⟩) (by simp <;> omega)) | (go_at_call 70; refine (HK.out _).mono ?_; rintro e w2 ⟨rfl, rfl⟩) | (go_at_call 72; refine (HEMP.out _).mono ?_; rintro e w3 ⟨v3, rfl, hown, hb3⟩; obtain ⟨g, cp, T, B, rfl, hcp, hat⟩ := hown.at (by rw [stRows_len]; exact hN1); have HAT := Lib.hid hat; clear hat))
  rw [stRows_len] at *
  have hbA : Below ((w.alloc (.cells #[.int .i64 (N : Nat), .slice ad es.length cap] 50)).alloc (.cells #[.int .i64 0, .slice none 0 0] 33)).heap.size ((w.alloc (.cells #[.int .i64 (N : Nat), .slice ad es.length cap] 50)).alloc (.cells #[.int .i64 0, .slice none 0 0] 33)) w3 := bel_trans hb1 hb3
  have k0 := ((Box.new w 50 #[.int .i64 (N : Nat), .slice ad es.length cap]).alloc (.cells #[.int .i64 0, .slice none 0 0] 33)).keep hbA
  have k1' := Box.new (w.alloc (.cells #[.int .i64 (N : Nat), .slice ad es.length cap] 50)) 33 #[.int .i64 0, .slice none 0 0]
  have k1 : Box w3 (w.heap.size + 1) 33 #[.int .i64 0, .slice none 0 0] := by have := k1'.keep hbA; simpa using this
  have hw3 : Below w.heap.size w w3 := bel_trans (HB.out _ _) hbA
  have hl0 : w.heap.size + 1 + 1 ≤ w1.heap.size := by have := hb1.size; simp at this; omega
  have hlo : ∃ lo, lo = w1.heap.size := ⟨_, rfl⟩
  obtain ⟨lo, hlo⟩ := hlo
  rw [← hlo] at HAT hl0
  have hhi : ∃ hh, hh = w3.heap.size := ⟨_, rfl⟩
  obtain ⟨hh, hhi⟩ := hhi
  have HAT4 : Hid (GridAt (w3.alloc (.cells #[.int .i64 m, .slice (some ⟨g, 0, none⟩) N cp] 33)) lo hh g T B (stRows m N)) := Lib.hid (by rw [hhi]; exact HAT.out.keep ((Below.refl _ _).alloc (Nat.le_refl _) _))
  have hlh : lo ≤ hh := by have := HAT.out.place; omega
  have kb : ∀ (x : World), x = w3.alloc (.cells #[.int .i64 m, .slice (some ⟨g, 0, none⟩) N cp] 33) → (Box x w.heap.size 50 #[.int .i64 (N : Nat), .slice ad es.length cap] ∧ Box x (w.heap.size + 1) 33 #[.int .i64 0, .slice none 0 0] ∧ Box x hh 33 #[.int .i64 m, .slice (some ⟨g, 0, none⟩) N cp] ∧ Below w.heap.size w x) := fun x hx => by
    rw [hx, hhi]
    exact ⟨k0.alloc _, k1.alloc _, Box.new _ _ _, hw3.alloc hw3.size _⟩
  have HKB := Lib.hid (kb _ rfl)
  clear kb k0 k1 k1' hbA hw3 hlo x0
  go_wp2
  rw [← hhi]
  clear hhi
  generalize (w3.alloc (.cells #[.int .i64 m, .slice (some ⟨g, 0, none⟩) N cp] 33)) = w4 at HAT4 HKB ⊢
  go_loopw [7] (fun c wr => ∃ j : Nat, j ≤ es.length ∧ c = .int .i64 j ∧ Hid (GridAt wr lo hh g T B (erU m N es j)) ∧ Hid (Chg lo hh w4 wr)) (fun c _ => es.length - (intOf c).toNat)
  case atStart => exact ⟨0, Nat.zero_le _, rfl, HAT4, Lib.hid (Chg.refl _ _ _)⟩
  case round =>
    obtain ⟨j, hj, rfl, HGR, HC⟩ := hrel
    have hbs := bel_chg HKB.out.2.2.2 HC.out (by omega)
    have ka := HKB.out.1.chgM HC.out (.inl (by omega))
    have kr := HKB.out.2.1.chgM HC.out (.inl (by omega))
    have ko := HKB.out.2.2.1.chgM HC.out (.inr (Nat.le_refl _))
    obtain ⟨xa0, xa1, -, -, xal⟩ := box2 ka
    by_cases hlj : j < es.length
    · have hlj' : (j : Int) < es.length := by omega
      rcases hz.out with h0 | ⟨eb, eo, rfl, heb, hec⟩
      · rw [h0] at hlj; simp at hlj
      have hsucc := erU_succ m N es hlj
      obtain ⟨X, Y, hX, hY, hXN, hYN, hwt⟩ := HE.out j hlj
      have h3 := hec j hlj
      have hEd : es.getD j (0, 0, 0) = ((X : Int), (Y : Int), (es.getD j (0, 0, 0)).2.2) := by rw [← hX, ← hY]
      obtain ⟨p, hp⟩ : ∃ p, p = (es.getD j (0, 0, 0)).2.2 := ⟨_, rfl⟩
      rw [hX, hY, ← hp] at h3
      rw [← hp] at hEd hwt
      rw [hEd] at hsucc
      have c0 := (hbs.cell (p := ⟨eb, eo + j * 3, none⟩) heb).trans h3.1
      have c1 := (hbs.cell (p := ⟨eb, eo + j * 3 + 1, none⟩) heb).trans h3.2.1
      have c2 := (hbs.cell (p := ⟨eb, eo + j * 3 + 2, none⟩) heb).trans h3.2.2
      have hsq := HSQ.out j hj
      obtain ⟨hrl, hri⟩ := hsq.2 X hXN
      have hXl : X < (erU m N es j).length := by rw [hsq.1]; exact hXN
      obtain ⟨ox, cx, hTX, hwX⟩ := HGR.out.wr hXl (by omega)
      have hgc := (HGR.out.cell X hXl).1
      rw [hTX, hrl] at hgc
      have hcell := hwX.2 Y (by omega)
      obtain ⟨old, hold⟩ : ∃ o, o = ((erU m N es j).getD X []).getD Y 0 := ⟨_, rfl⟩
      rw [← hold] at hcell
      have hblk := HGR.out.blk X hXl
      have hgp := HGR.out.place
      have hXi : (X : Int) < N := by omega
      have hYi : (Y : Int) < N := by omega
      obtain ⟨xo0, xo1, -, -, xol⟩ := box2 ko
      have hmain : ∀ w', Below (wr.alloc (.cells #[.int .i64 X, .int .i64 Y, .int .i64 p] 59)).heap.size (wr.alloc (.cells #[.int .i64 X, .int .i64 Y, .int .i64 p] 59)) w' →
          (w'.cell? ⟨wr.heap.size, 0, none⟩ = some (.int .i64 X) ∧ w'.cell? ⟨wr.heap.size, 1, none⟩ = some (.int .i64 Y) ∧ w'.cell? ⟨wr.heap.size, 2, none⟩ = some (.int .i64 p)) ∧ w'.cell? ⟨hh, 1, none⟩ = some (.slice (some ⟨g, 0, none⟩) N cp) ∧ w'.cell? ⟨g, X, none⟩ = some (.slice (some ⟨B X, ox, none⟩) N cx) ∧ w'.cell? ⟨B X, ox + Y, none⟩ = some (.int .i64 old) ∧ w'.frozen? ⟨B X, ox + Y, none⟩ = false ∧
          (GridAt (w'.setCell ⟨B X, ox + Y, none⟩ (.int .i64 (mEdge m p))) lo hh g T B (erU m N es (j + 1)) ∧ Chg lo hh w4 (w'.setCell ⟨B X, ox + Y, none⟩ (.int .i64 (mEdge m p)))) := by
        intro w' h
        have hb : Below wr.heap.size wr w' := bel_trans ((Below.refl _ _).alloc (Nat.le_refl _) _) h
        refine ⟨⟨(h.cell (p := ⟨_, _, none⟩) (by simp)).trans (by go_simp), (h.cell (p := ⟨_, _, none⟩) (by simp)).trans (by go_simp), (h.cell (p := ⟨_, _, none⟩) (by simp)).trans (by go_simp)⟩, (hb.cell (p := ⟨_, 1, none⟩) xol).trans xo1, (hb.cell (p := ⟨g, _, none⟩) (by simp only; omega)).trans hgc, (hb.cell (p := ⟨B X, _, none⟩) hwX.1).trans hcell.1, (hb.frozen (p := ⟨B X, _, none⟩) hwX.1).trans hcell.2, ?_, (HC.out.trans (Chg.of_below hb)).setCell hblk.1 hblk.2.1 _⟩
        have hset := (hwX.keep hb).set (k := Y) (by omega) (mEdge m p)
        refine (HGR.out.keep hb).keepG (k := X) (off := ox) hXl (by rw [hsucc]; unfold putG; simp only [Int.toNat_natCast]) (by rw [List.length_set]) ⟨cx, by rw [List.length_set, hrl]; exact hTX.trans (by rw [hrl])⟩ hset (Chg.setCell (p := ⟨B X, ox + Y, none⟩) (Chg.refl _ _ _) (Nat.le_refl _) (Nat.lt_succ_self _) _)
      have HMAIN := Lib.hid hmain
      clear h3 hEd hp hsucc hsq hrl hri hXl hTX hwX hgc hcell hold hblk hmain hwt hec ka kr ko
      go_wp2
      generalize (wr.alloc (.cells #[.int .i64 X, .int .i64 Y, .int .i64 p] 59)) = W2 at HMAIN ⊢
      clear c0 c1 c2 xa0 xa1 xo0 xo1
      have HF := Lib.hid (HMAIN.out W2.drew ((Below.refl _ _).drew))
      have e0 : W2.cell? ⟨wr.heap.size, 0, none⟩ = some (.int .i64 X) := HF.out.1.1
      have e1 : W2.cell? ⟨wr.heap.size, 1, none⟩ = some (.int .i64 Y) := HF.out.1.2.1
      have e2 : W2.cell? ⟨wr.heap.size, 2, none⟩ = some (.int .i64 p) := HF.out.1.2.2
      have e3 : W2.cell? ⟨hh, 1, none⟩ = some (.slice (some ⟨g, 0, none⟩) N cp) := HF.out.2.1
      have e4 : W2.cell? ⟨g, X, none⟩ = some (.slice (some ⟨B X, ox, none⟩) N cx) := HF.out.2.2.1
      refine wp_region_tail 13 (by kernel_rfl) (by kernel_rfl) ?_
      simp only [List.take_succ_cons, List.take_zero, List.drop_succ_cons, List.drop_zero]
      have hse := fun x => quietS8 (HSE.out x W2.drew) rfl
      repeat (go_big_quiet_step (exact hse _ _))
      refine wpQuiet_nil ?_
      have e5 : W2.drew.cell? ⟨B X, ox + Y, none⟩ = some (.int .i64 old) := HF.out.2.2.2.1
      have e6 : W2.drew.frozen? ⟨B X, ox + Y, none⟩ = false := HF.out.2.2.2.2.1
      go_wp2
      go_roundw
      case rel => first | exact ⟨j + 1, by omega, by go_num, Lib.hid HF.out.2.2.2.2.2.1, Lib.hid HF.out.2.2.2.2.2.2⟩ | ((repeat apply Exists.intro); exact ⟨⟨j + 1, by omega, by go_num, Lib.hid HF.out.2.2.2.2.2.1, Lib.hid HF.out.2.2.2.2.2.2⟩, rfl⟩)
      case measure => simp [intOf]; omega
    · have hke : j = es.length := by omega
      have hkk : ¬ ((j : Int) < es.length) := by omega
      have HKE := Lib.hid hke
      obtain ⟨xo0, xo1, -, -, xol⟩ := box2 ko
      obtain ⟨xr0, xr1, xrf0, xrf1, xrl⟩ := box2 kr
      have hlen := (HSQ.out j hj).1
      have HLEN := Lib.hid hlen
      clear hke ka kr ko hlen
      go_wp2
      try simp only [Exit.inBlock, Exit.then]
      refine bodyPost_ret (v := .tuple #[.agg #[.int .i64 m, .slice (some ⟨g, 0, none⟩) N cp], .bool true]) ?_ rfl ?_
      · rw [results_cell_tmp rfl]
        go_simp
      have hG := HGR.out
      rw [HKE.out] at hG
      have hch : ∀ u1 u2 : Value, Chg w.heap.size (w.heap.size + 2) wr ((wr.setCell ⟨w.heap.size + 1, 0, none⟩ u1).setCell ⟨w.heap.size + 1, 1, none⟩ u2) := fun u1 u2 => ((Chg.refl _ _ _).setCell (by simp) (by simp) _).setCell (by simp) (by simp) _
      have hp := hG.place
      have hln := HLEN.out
      rw [HKE.out] at hln
      refine ⟨_, rfl, ((hG.own hln hcp).chg (hch _ _) (.inl (by omega))).wider (by omega) (by simp; omega) (Nat.le_refl _), (hbs.setCell (by simp) _).setCell (by simp) _⟩
end Go.Proofs.Ytjpikbbpmbeckaa
