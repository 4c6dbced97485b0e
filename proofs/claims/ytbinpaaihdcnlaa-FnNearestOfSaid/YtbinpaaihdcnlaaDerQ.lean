/- NearestOf of the model. -/
import Derived.Test.YtbinpaaihdcnlaaDerP
import Derived.Test.YtbinpaaihdcnlaaOwnX
import Derived.Test.YtbinpaaihdcnlaaParts
import Derived.Test.YtbinpaaihdcnlaaViewT
namespace Go.Proofs.Ytbinpaaihdcnlaa
open Go.RowKit Go.BigFrame Go.Deep
set_option linter.unusedVariables false
set_option linter.unusedSimpArgs false
set_option linter.unnecessarySimpa false

/-- A cell of a block that stands. -/
def CellF (w : World) (g i : Nat) (v : Value) : Prop := g < w.heap.size ∧ w.cell? ⟨g, i, none⟩ = some v
theorem CellF.keep {w w' : World} {g i : Nat} {v : Value} (h : CellF w g i v) (hb : Below w.heap.size w w') : CellF w' g i v := ⟨Nat.lt_of_lt_of_le h.1 hb.size, (hb.cell (p := ⟨g, i, none⟩) h.1).trans h.2⟩
theorem CellF.setOther {w : World} {g i g' j : Nat} {v : Value} (h : CellF w g i v) (hne : g ≠ g') (u : Value) : CellF (w.setCell ⟨g', j, none⟩ u) g i v := by
  have hb : (w.setCell ⟨g', j, none⟩ u).heap[g]? = w.heap[g]? := Below.heap_setCell w ⟨g', j, none⟩ u g hne
  exact ⟨by rw [World.size_setCell]; exact h.1, (World.cell?_of_block (a := ⟨g, i, none⟩) hb).trans h.2⟩
/-- One of two rows grows; the other one stays, and they stay apart. -/
theorem Appended.pair {w w' : World} {base : Nat} {e : TypeId} {size : Nat} {v v' u : Value} {n k j : Nat} {ys zs : List Value} (h : Appended w w' base e size v v' n k ys) (hb : base ≤ w.heap.size) (hu : w.ownsRow base e size u j zs) (hne : v.ownBlock ≠ u.ownBlock) :
    w'.ownsRow base e size v' k ys ∧ w'.ownsRow base e size u j zs ∧ v'.ownBlock ≠ u.ownBlock ∧ w.grownBy w' v.ownBlock := by
  obtain ⟨h1, h2⟩ := h.own hb
  refine ⟨h1, hu.kept h2 (.inr (fun q => hne q.symm)), ?_, h2⟩
  rcases h with ⟨-, h3, -, -⟩ | ⟨h3, -, -⟩
  · rw [h3]; exact hne
  · rw [h3]
    intro q
    have := (hu.lt _ q.symm).2
    omega
theorem RowF.of_own {w : World} {base N : Nat} {v : Value} {zs : List Int} (h : w.ownsRow base 3 1 v N (zs.map (Value.int .i64))) (hN : 0 < N) : ∃ g c, v = .slice (some ⟨g, 0, none⟩) N c ∧ v.ownBlock = some g ∧ base ≤ g ∧ RowF w g N (fun i => zs.getD i 0) := by
  have hl : zs.length = N := by have := h.1; simpa using this
  obtain ⟨a, c, he, hz⟩ := InR.of_own h
  rcases h.2 with ⟨_, h0⟩ | ⟨g, cap, cur, rfl, hb, hg, _⟩
  · omega
  injection he with h1 h2 h3
  subst h1 h3
  rcases hz with h0 | ⟨b, off, h4, k1, k2, k3, hc⟩
  · omega
  injection h4 with h4
  injection h4 with h5 h6
  subst h5
  subst h6
  refine ⟨g, cap, rfl, rfl, hb, by omega, fun i hi => ?_⟩
  have := hc i (by omega)
  rw [Nat.zero_add] at this
  refine ⟨this.1.trans ?_, this.2 rfl⟩
  simp [List.getD, hl, hi]
theorem mapI_snoc (k : Nat) (x : Int) : (List.replicate (k + 1) x).map (Value.int .i64) = (List.replicate k x).map (Value.int .i64) ++ [Value.int .i64 x] := by
  rw [List.replicate_succ', List.map_append]; rfl

set_option maxRecDepth 20000 in
set_option maxHeartbeats 8000000 in
theorem sNearestOf (n m : Int) (es : List Ed) (ss : List Int) (s t : Value) (w : World) (hs : RowE w s es) (ht : Row w t ss) (hok : okS t) (hl : es.length ≤ 281474976710656) (hl2 : ss.length ≤ 281474976710656) :
    Calls Try.prog 24 #[.agg #[.int .i64 n, s], .int .i64 m, t] w fun e w' => ∃ v u, e = .returned (.tuple #[v, u, .bool (nfB n es m ss)]) ∧ OwnI w w' v (nfV n es m ss) ∧ OwnI w w' u (nfO n es m ss) ∧ Below w.heap.size w w' := by
  obtain ⟨ad, cap, rfl, hz0⟩ := id hs
  obtain ⟨at0, ct, rfl, hz1⟩ := id ht
  clear hz0
  have HZ1 := Lib.hid hz1
  clear hz1
  obtain ⟨W, hW⟩ : ∃ W, W = (w.alloc (.cells #[.int .i64 n, .slice ad es.length cap] 25)) := ⟨_, rfl⟩
  have hbW : Below w.heap.size w W := by rw [hW]; exact (Below.refl _ _).alloc (Nat.le_refl _) _
  have hsz : W.heap.size = w.heap.size + 1 := by rw [hW]; simp
  have hbox : Box W w.heap.size 25 #[.int .i64 n, .slice ad es.length cap] := by rw [hW]; exact Box.new w _ _
  have hres : ∀ w', Below W.heap.size W w' → w'.cell? ⟨w.heap.size, 0, none⟩ = some (.int .i64 n) ∧ w'.cell? ⟨w.heap.size, 1, none⟩ = some (.slice ad es.length cap) := fun w' h =>
    ⟨by simpa using (hbox.keep h).cell 0, by simpa using (hbox.keep h).cell 1⟩
  have hgv := fun w' (h : Below W.heap.size W w') => sGraphValid n es (.slice ad es.length cap) w' (hs.keep (bel_trans hbW h)) hl
  have hkd : ∀ w', Calls Try.prog 66 #[.int .i64 m] w' fun e w'' => e = .returned (.bool (mKind m)) ∧ Below w'.heap.size w' w'' := fun w' => (sKind m w').mono (by rintro e w'' ⟨h1, rfl⟩; exact ⟨h1, Below.refl _ _⟩)
  have hnd := fun w' (h : Below W.heap.size W w') (hn : n ≤ 12) => l10Nodes n ss (.slice ad es.length cap) _ w' hn (ht.keep (bel_trans hbW h)) hok hl2
  have HRES := Lib.hid hres
  have HBW := Lib.hid hbW
  have HSZ := Lib.hid hsz
  have HBOX := Lib.hid hbox
  have HS := Lib.hid hs
  clear hres hbW hsz hbox hs ht hok
  unfold nfV nfO

  cases hg : gVal n es
  · rw [show nfB n es m ss = false by unfold nfB onOk; rw [hg]; rfl, if_neg (by decide), if_neg (by decide)]
    rw [hg] at hgv
    have HGV := Lib.hid hgv
    clear hgv hkd hnd hg
    go_enter Try.func24, Try.ntmps24
    go_wp2_with fail
    rw [← hW]
    clear hW
    obtain ⟨j0, j1⟩ := HRES.out _ (Below.refl _ _)
    go_wp2_with (first | (go_at_call 65; (with_reducible refine (HGV.out _ (Below.refl _ _)).mono ?_); rintro e w1 ⟨rfl, hb1⟩; have HB1 := Lib.hid hb1; clear hb1; clear j0 j1; obtain ⟨j0, j1⟩ := HRES.out _ HB1.out))
    go_ret3
    have hBB := bel_trans HBW.out HB1.out
    exact ⟨_, _, rfl, ⟨_, _, rfl, .inl rfl⟩, ⟨_, _, rfl, .inl rfl⟩, (hBB.alloc hBB.size _).alloc (by have := hBB.size; simp; omega) _⟩
  rw [hg] at hgv
  have HGV := Lib.hid hgv
  have hn := gVal_n hg
  cases hm : mKind m
  · rw [show nfB n es m ss = false by unfold nfB onOk; rw [hg, hm]; simp, if_neg (by decide), if_neg (by decide)]
    rw [hm] at hkd
    have HKD := Lib.hid hkd
    clear hgv hkd hnd hg hm hn
    go_enter Try.func24, Try.ntmps24
    go_wp2_with fail
    rw [← hW]
    clear hW
    obtain ⟨j0, j1⟩ := HRES.out _ (Below.refl _ _)
    go_wp2_with (first | (go_at_call 65; (with_reducible refine (HGV.out _ (Below.refl _ _)).mono ?_); rintro e w1 ⟨rfl, hb1⟩; have HB1 := Lib.hid hb1; clear hb1; clear j0 j1; obtain ⟨j0, j1⟩ := HRES.out _ HB1.out) | (go_at_call 66; (with_reducible refine (HKD.out _).mono ?_); rintro e w2 ⟨rfl, hb2⟩; have HB2 := Lib.hid (bel_trans HB1.out hb2); clear hb2; clear j0 j1; obtain ⟨j0, j1⟩ := HRES.out _ HB2.out))
    go_ret3
    have hBB := bel_trans HBW.out HB2.out
    exact ⟨_, _, rfl, ⟨_, _, rfl, .inl rfl⟩, ⟨_, _, rfl, .inl rfl⟩, (hBB.alloc hBB.size _).alloc (by have := hBB.size; simp; omega) _⟩
  rw [hm] at hkd
  have HKD := Lib.hid hkd
  by_cases h0 : ss.length = 0
  · rw [show nfB n es m ss = false by unfold nfB; simp [h0], if_neg (by decide), if_neg (by decide)]
    have h0' : (ss.length : Int) = 0 := by omega
    clear hgv hkd hnd hg hm hn
    go_enter Try.func24, Try.ntmps24
    go_wp2_with fail
    rw [← hW]
    clear hW
    obtain ⟨j0, j1⟩ := HRES.out _ (Below.refl _ _)
    go_wp2_with (first | (go_at_call 65; (with_reducible refine (HGV.out _ (Below.refl _ _)).mono ?_); rintro e w1 ⟨rfl, hb1⟩; have HB1 := Lib.hid hb1; clear hb1; clear j0 j1; obtain ⟨j0, j1⟩ := HRES.out _ HB1.out) | (go_at_call 66; (with_reducible refine (HKD.out _).mono ?_); rintro e w2 ⟨rfl, hb2⟩; have HB2 := Lib.hid (bel_trans HB1.out hb2); clear hb2; clear j0 j1; obtain ⟨j0, j1⟩ := HRES.out _ HB2.out))
    go_ret3
    have hBB := bel_trans HBW.out HB2.out
    exact ⟨_, _, rfl, ⟨_, _, rfl, .inl rfl⟩, ⟨_, _, rfl, .inl rfl⟩, (hBB.alloc hBB.size _).alloc (by have := hBB.size; simp; omega) _⟩
  have h0' : ¬ ((ss.length : Int) = 0) := by omega
  have h0b : ((ss.length : Int) == 0) = false := by simpa using h0
  cases hd : ndB n ss
  · rw [show nfB n es m ss = false by unfold nfB; rw [hd]; simp, if_neg (by decide), if_neg (by decide)]
    rw [hd] at hnd
    have HND := Lib.hid (fun w' h => hnd w' h (by omega))
    clear hgv hkd hnd hg hm hn hd h0
    go_enter Try.func24, Try.ntmps24
    go_wp2_with fail
    rw [← hW]
    clear hW
    obtain ⟨j0, j1⟩ := HRES.out _ (Below.refl _ _)
    go_wp2_with (first | (go_at_call 65; (with_reducible refine (HGV.out _ (Below.refl _ _)).mono ?_); rintro e w1 ⟨rfl, hb1⟩; have HB1 := Lib.hid hb1; clear hb1; clear j0 j1; obtain ⟨j0, j1⟩ := HRES.out _ HB1.out) | (go_at_call 66; (with_reducible refine (HKD.out _).mono ?_); rintro e w2 ⟨rfl, hb2⟩; have HB2 := Lib.hid (bel_trans HB1.out hb2); clear hb2; clear j0 j1; obtain ⟨j0, j1⟩ := HRES.out _ HB2.out) | (go_at_call 67; (with_reducible refine (HND.out _ HB2.out).mono ?_); rintro e w3 ⟨rfl, hb3⟩; have HB3 := Lib.hid (bel_trans HB2.out hb3); clear hb3; clear j0 j1; obtain ⟨j0, j1⟩ := HRES.out _ HB3.out))
    go_ret3
    have hBB := bel_trans HBW.out HB3.out
    exact ⟨_, _, rfl, ⟨_, _, rfl, .inl rfl⟩, ⟨_, _, rfl, .inl rfl⟩, (hBB.alloc hBB.size _).alloc (by have := hBB.size; simp; omega) _⟩
  have hon : onOk n es m [] = true := by unfold onOk; rw [hg, hm]; rfl
  rw [show nfB n es m ss = true by unfold nfB; rw [hd, hon]; simp [h0], if_pos rfl, if_pos rfl]
  rw [hd] at hnd
  have HND := Lib.hid (fun w' h => hnd w' h (by omega))
  have h40 := (gVal_parts hg).2.2.1
  have he := eAll_of hg
  obtain ⟨N, rfl⟩ := Int.eq_ofNat_of_zero_le (show 0 ≤ n by omega)
  rw [Int.toNat_natCast] at he ⊢
  have hr : ∀ x ∈ ss, 0 ≤ x ∧ x < N := fun x hx => inN_iff.1 ((ndB_iff.1 hd).1 x hx)
  have HN12 : Hid (1 ≤ N ∧ N ≤ 12) := Lib.hid (by omega)
  have hnone : ∀ w', Calls Try.prog 68 #[.int .i64 m] w' fun e w'' => e = .returned (.int .i64 (mNone m)) ∧ Below w'.heap.size w' w'' := fun w' => (sNone hm w').mono (by rintro e w'' ⟨h1, rfl⟩; exact ⟨h1, Below.refl _ _⟩)
  have HNO := Lib.hid hnone
  have hlv := fun (A : Nat) w' (h : Below W.heap.size W w') (hA : A < N) => l3View m es N A _ w' hm (HS.out.keep (bel_trans HBW.out h)) (by omega) hA (by omega) he
  have HLV := Lib.hid hlv
  have hsb : ∀ z y w', Calls Try.prog 57 #[.int .i64 m, .int .i64 z, .int .i64 y] w' fun e w'' => e = .returned (.bool (mBet m z y)) ∧ Below w'.heap.size w' w'' := fun z y w' => (sBet hm z y w').mono (by rintro e w'' ⟨h1, rfl⟩; exact ⟨h1, Below.refl _ _⟩)
  have HSB := Lib.hid hsb
  have HRR := Lib.hid hr
  obtain ⟨i0, hi, hz0', hz1, hz2⟩ := info_parts info_int2
  have HI : Hid (Try.prog.info? 3 = some i0 ∧ i0.zero = some (.int .i64 0) ∧ i0.size = 1 ∧ i0.bytes = 8) := Lib.hid ⟨hi, hz0', hz1, hz2⟩
  clear hgv hkd hnd hg hm hn hd h0 hon he hr h40 hnone hlv hsb hi hz0' hz1 hz2
  go_enter Try.func24, Try.ntmps24
  go_wp2_with fail
  rw [← hW]
  clear hW
  obtain ⟨j0, j1⟩ := HRES.out _ (Below.refl _ _)
  go_wp2_with (first | (go_at_call 65; (with_reducible refine (HGV.out _ (Below.refl _ _)).mono ?_); rintro e w1 ⟨rfl, hb1⟩; have HB1 := Lib.hid hb1; clear hb1; clear j0 j1; obtain ⟨j0, j1⟩ := HRES.out _ HB1.out) | (go_at_call 66; (with_reducible refine (HKD.out _).mono ?_); rintro e w2 ⟨rfl, hb2⟩; have HB2 := Lib.hid (bel_trans HB1.out hb2); clear hb2; clear j0 j1; obtain ⟨j0, j1⟩ := HRES.out _ HB2.out) | (go_at_call 67; (with_reducible refine (HND.out _ HB2.out).mono ?_); rintro e w3 ⟨rfl, hb3⟩; have HB3 := Lib.hid (bel_trans HB2.out hb3); clear hb3; clear j0 j1; obtain ⟨j0, j1⟩ := HRES.out _ HB3.out))
  clear j0 j1
  have hs3 := (bel_trans HBW.out HB3.out).size
  have hW3 := HB3.out.size
  have hWs := HSZ.out
  have HW5 : Hid (Below W.heap.size W ((w3.alloc (.cells #[] 3)).alloc (.cells #[] 3))) := Lib.hid ((HB3.out.alloc HB3.out.size _).alloc (by simp; omega) _)
  have HV0 : Hid (((w3.alloc (.cells #[] 3)).alloc (.cells #[] 3)).ownsRow (w.heap.size + 1) 3 1 (.slice (some ⟨w3.heap.size, 0, none⟩) 0 0) 0 []) := Lib.hid ((own_empty w3 3 (w.heap.size + 1) (by omega)).alloc _)
  have HP0 : Hid (((w3.alloc (.cells #[] 3)).alloc (.cells #[] 3)).ownsRow (w.heap.size + 1) 3 1 (.slice (some ⟨w3.heap.size + 1, 0, none⟩) 0 0) 0 []) := Lib.hid (by simpa using own_empty (w3.alloc (.cells #[] 3)) 3 (w.heap.size + 1) (by simp; omega))
  try simp only [World.size_alloc]
  generalize hW5 : ((w3.alloc (.cells #[] 3)).alloc (.cells #[] 3)) = W5 at HW5 HV0 HP0 ⊢
  clear hW5
  go_loopw [11, 9, 10] (fun c v u wr => ∃ k : Nat, k ≤ N ∧ c = .int .i64 k ∧ Below W.heap.size W wr ∧ wr.ownsRow (w.heap.size + 1) 3 1 v k ((List.replicate k (mNone m)).map (Value.int .i64)) ∧ wr.ownsRow (w.heap.size + 1) 3 1 u k ((List.replicate k (-1)).map (Value.int .i64)) ∧ v.ownBlock ≠ u.ownBlock) (fun c _ _ _ => N - (intOf c).toNat)
  case atStart => exact ⟨0, Nat.zero_le _, rfl, HW5.out, HV0.out, HP0.out, by simp [Value.ownBlock]⟩
  case round =>
    obtain ⟨k, hk, rfl, hbel, hv, hu, hne⟩ := hrel
    have HL := Lib.hid (And.intro hbel (And.intro hv (And.intro hu hne)))
    obtain ⟨x0, x1⟩ := HRES.out _ hbel
    clear hbel hv hu hne
    have hN := HN12.out
    have hwW := HSZ.out
    have hs4 := HL.out.1.size
    by_cases hlt : k < N
    · have hlt' : (k : Int) < N := by omega
      obtain ⟨hi, hz0, hz1, hz2⟩ := HI.out
      go_wp2_with fail
      refine (HNO.out _).mono ?_
      rintro e wa ⟨rfl, hba⟩
      have HBA := Lib.hid hba
      clear hba x0 x1
      obtain ⟨x0, x1⟩ := HRES.out _ (bel_trans HL.out.1 HBA.out)
      have hsa := HBA.out.size
      go_wp2_with (at_builtin; refine wpList_append_two rfl (.tmp 44) (.tmp 47) 26 rfl (w.heap.size + 1) 3 i0 (.int .i64 0) 1 8 Try.underlying26 hi hz0 hz1 hz2 rfl (by decide) _ k _ rfl ((own_keep HL.out.2.1 HBA.out).alloc _) ⟨wa.heap.size, 0, none⟩ 1 1 [.int .i64 (mNone m)] (by decide) rfl rfl ?c1 ?c2 ?c3 ?c4 ?c5 ?_)
      case c1 => exact fun j u hj => by simpa using cell_one_new wa (.int .i64 (mNone m)) 3 j u hj
      case c2 => simp [Value.oneCell']
      case c3 => unfold maxLen; omega
      case c4 => omega
      case c5 => simp; omega
      intro v' w6 hap
      obtain ⟨hv6, hu6, hne6, hg6⟩ := hap.pair (by simp; omega) ((own_keep HL.out.2.2.1 HBA.out).alloc _) HL.out.2.2.2
      have H6 : Hid (Below W.heap.size W w6) := Lib.hid (((bel_trans HL.out.1 HBA.out).alloc (bel_trans HL.out.1 HBA.out).size _).grown hg6 (by simp; omega) (fun q hq => by have := (HL.out.2.1.lt q hq).1; omega))
      have HR6 := Lib.hid (And.intro hv6 (And.intro hu6 hne6))
      clear hap hv6 hu6 hne6 hg6 x0 x1
      have hs6 := H6.out.size
      go_wp2_with (at_builtin; refine wpList_append_two rfl (.tmp 49) (.tmp 50) 26 rfl (w.heap.size + 1) 3 i0 (.int .i64 0) 1 8 Try.underlying26 hi hz0 hz1 hz2 rfl (by decide) _ k _ rfl (HR6.out.2.1.alloc _) ⟨w6.heap.size, 0, none⟩ 1 1 [.int .i64 (-1)] (by decide) rfl rfl ?d1 ?d2 ?d3 ?d4 ?d5 ?_)
      case d1 => exact fun j u hj => by simpa using cell_one_new w6 (.int .i64 (-1)) 3 j u hj
      case d2 => simp [Value.oneCell']
      case d3 => unfold maxLen; omega
      case d4 => omega
      case d5 => simp; omega
      intro u' w7 hap
      obtain ⟨hu7, hv7, hne7, hg7⟩ := hap.pair (by simp; omega) (HR6.out.1.alloc _) (fun q => HR6.out.2.2 q.symm)
      have H7 : Hid (Below W.heap.size W w7) := Lib.hid ((H6.out.alloc H6.out.size _).grown hg7 (by simp; omega) (fun q hq => by have := (HR6.out.2.1.lt q hq).1; omega))
      have HR7 : Hid (w7.ownsRow (w.heap.size + 1) 3 1 v' (k + 1) ((List.replicate (k + 1) (mNone m)).map (Value.int .i64)) ∧ w7.ownsRow (w.heap.size + 1) 3 1 u' (k + 1) ((List.replicate (k + 1) (-1)).map (Value.int .i64)) ∧ v'.ownBlock ≠ u'.ownBlock) := Lib.hid ⟨by rw [mapI_snoc, List.map_replicate]; exact hv7, by rw [mapI_snoc, List.map_replicate]; exact hu7, fun q => hne7 q.symm⟩
      clear hap hu7 hv7 hne7 hg7 hi hz0 hz1 hz2
      go_wp2
      go_roundw
      case rel => first | exact ⟨k + 1, by omega, by go_num, H7.out, HR7.out.1, HR7.out.2.1, HR7.out.2.2⟩ | ((repeat apply Exists.intro); exact ⟨⟨k + 1, by omega, by go_num, H7.out, HR7.out.1, HR7.out.2.1, HR7.out.2.2⟩, rfl⟩)
      case measure => simp [intOf]; omega
    · have hke : N = k := by omega
      have hkk : ¬ ((k : Int) < N) := by omega
      subst hke
      obtain ⟨V, cv, rfl, hoV, hV0, hrV⟩ := RowF.of_own HL.out.2.1 (by omega)
      obtain ⟨P, cp, rfl, hoP, hP0, hrP⟩ := RowF.of_own HL.out.2.2.1 (by omega)
      have HVP : Hid (V ≠ P ∧ w.heap.size < V ∧ w.heap.size < P) := Lib.hid ⟨fun q => HL.out.2.2.2 (by rw [hoV, hoP, q]), by omega, by omega⟩
      have HV3 : Hid (RowF wr V N (fun i => (nrAt m es N i (ss.take 0)).1)) := Lib.hid (hrV.congr (fun i hi => by simp [List.getD, hi, nrAt]))
      have HP3 : Hid (RowF wr P N (fun i => (nrAt m es N i (ss.take 0)).2)) := Lib.hid (hrP.congr (fun i hi => by simp [List.getD, hi, nrAt]))
      have HB3' : Hid (Below W.heap.size W wr) := Lib.hid HL.out.1
      clear hoV hoP hV0 hP0 hrV hrP HL
      obtain ⟨w8, hw8⟩ : ∃ w8, w8 = wr := ⟨_, rfl⟩
      subst hw8
      clear HI HNO
      go_wp2_with fail
      go_loopw [12] (fun c wr => ∃ k : Nat, k ≤ ss.length ∧ c = .int .i64 k ∧ Below W.heap.size W wr ∧ RowF wr V N (fun i => (nrAt m es N i (ss.take k)).1) ∧ RowF wr P N (fun i => (nrAt m es N i (ss.take k)).2)) (fun c _ => ss.length - (intOf c).toNat)
      case atStart => exact ⟨0, Nat.zero_le _, rfl, HB3'.out, HV3.out, HP3.out⟩
      case round =>
        obtain ⟨k, hk, rfl, hbel, hrV, hrP⟩ := hrel
        have HL := Lib.hid (And.intro hbel (And.intro hrV hrP))
        obtain ⟨x0, x1⟩ := HRES.out _ hbel
        clear hbel hrV hrP
        by_cases hlt : k < ss.length
        · have hlt' : (k : Int) < ss.length := by omega
          rcases HZ1.out with h9 | ⟨b, off, rfl, hb, hc⟩
          · rw [h9] at hlt; simp at hlt
          obtain ⟨x, hx⟩ : ∃ x, x = ss.getD k 0 := ⟨_, rfl⟩
          have hxr : 0 ≤ x ∧ x < N := HRR.out x (by rw [hx]; simp [List.getD, hlt])
          obtain ⟨X, rfl⟩ := Int.eq_ofNat_of_zero_le hxr.1
          have hXN : X < N := by omega
          have h1c := ((bel_trans HBW.out HL.out.1).cell (p := ⟨b, off + k, none⟩) hb).trans (hc k hlt)
          rw [← hx] at h1c
          have hb2 : b < wr.heap.size := Nat.lt_of_lt_of_le hb (bel_trans HBW.out HL.out.1).size
          have hrvX := fun w' (h : Below wr.heap.size wr w') => HLV.out X w' (bel_trans HL.out.1 h) hXN
          obtain ⟨Z, hZ⟩ : ∃ Z, Z = vIter m es N (vStart m N X) := ⟨_, rfl⟩
          rw [← hZ] at hrvX
          have HRX := Lib.hid hrvX
          have HZ := Lib.hid hZ
          have HX := Lib.hid hx
          have HZL : Hid (Z.length = N) := Lib.hid (by rw [hZ, vIter_length, vStart_length, Int.toNat_natCast])
          have hold : ∀ w' : World, Below wr.heap.size wr w' → (w'.cell? ⟨w.heap.size, 0, none⟩ = some (.int .i64 N) ∧ w'.cell? ⟨w.heap.size, 1, none⟩ = some (.slice ad es.length cap) ∧ w'.cell? ⟨b, off + k, none⟩ = some (.int .i64 X)) := fun w' h => ⟨(HRES.out _ (bel_trans HL.out.1 h)).1, (HRES.out _ (bel_trans HL.out.1 h)).2, (h.cell (p := ⟨b, off + k, none⟩) hb2).trans h1c⟩
          have HOLD := Lib.hid hold
          have HBB : Hid (b < w.heap.size ∧ ∀ w', Below W.heap.size W w' → w'.cell? ⟨b, off + k, none⟩ = some (.int .i64 X)) := Lib.hid ⟨hb, fun w' h => (((bel_trans HBW.out h).cell (p := ⟨b, off + k, none⟩) hb).trans (hc k hlt)).trans (by rw [hx])⟩
          clear hc hx hrvX hZ hxr hold
          go_upto_region 13 with fail
          go_cut [13] from 52 to 96 (fun p wx => BoxInV wr wx m X Z p)
          · go_region_held3 (fun w' : World => w'.cell? ⟨w.heap.size, 0, none⟩ = some (.int .i64 N) ∧ w'.cell? ⟨w.heap.size, 1, none⟩ = some (.slice ad es.length cap) ∧ w'.cell? ⟨b, off + k, none⟩ = some (.int .i64 X)) (exact HOLD.out _ (by repeat' (first | with_reducible exact Below.refl _ _ | with_reducible apply b_alloc | with_reducible apply b_drew | with_reducible apply b_set | (refine @bel_trans _ ?_ _ ?_ ?_; rotate_right; with_reducible assumption)))) (first | (go_at_call 69; (with_reducible refine (HRX.out _ (by repeat' (first | with_reducible exact Below.refl _ _ | with_reducible apply b_alloc | with_reducible apply b_drew | with_reducible apply b_set | (refine @bel_trans _ ?_ _ ?_ ?_; rotate_right; with_reducible assumption)))).mono ?_); rintro e wC ⟨v, rfl, hown, hokv, hbC⟩; obtain ⟨va2, vc2, rfl⟩ := hown.slice; (try (refine (fun (zz : wr.heap.size < wC.heap.size) => ?_) (Nat.lt_of_lt_of_le ?_ hbC.size); rotate_right; (first | with_reducible assumption | (simp <;> omega)))); (try (refine (fun (cc : wC.cell? ⟨wr.heap.size, 0, none⟩ = some (.int .i64 0)) => ?_) ((hbC.cell (p := ⟨wr.heap.size, 0, none⟩) ?_).trans ?_); rotate_left; (first | with_reducible assumption | (simp <;> omega)); (first | with_reducible assumption | (focus (go_simp; done))))); (try (refine (fun (cc : wC.frozen? ⟨wr.heap.size, 0, none⟩ = false) => ?_) ((hbC.frozen (p := ⟨wr.heap.size, 0, none⟩) ?_).trans ?_); rotate_left; (first | with_reducible assumption | (simp <;> omega)); (first | with_reducible assumption | (focus (go_simp; done))))); (try (refine (fun (cc : wC.cell? ⟨wr.heap.size, 1, none⟩ = some (.int .i64 0)) => ?_) ((hbC.cell (p := ⟨wr.heap.size, 1, none⟩) ?_).trans ?_); rotate_left; (first | with_reducible assumption | (simp <;> omega)); (first | with_reducible assumption | (focus (go_simp; done))))); (try (refine (fun (cc : wC.frozen? ⟨wr.heap.size, 1, none⟩ = false) => ?_) ((hbC.frozen (p := ⟨wr.heap.size, 1, none⟩) ?_).trans ?_); rotate_left; (first | with_reducible assumption | (simp <;> omega)); (first | with_reducible assumption | (focus (go_simp; done))))); (try (refine (fun (cc : wC.cell? ⟨wr.heap.size, 2, none⟩ = some (.slice none 0 0)) => ?_) ((hbC.cell (p := ⟨wr.heap.size, 2, none⟩) ?_).trans ?_); rotate_left; (first | with_reducible assumption | (simp <;> omega)); (first | with_reducible assumption | (focus (go_simp; done))))); (try (refine (fun (cc : wC.frozen? ⟨wr.heap.size, 2, none⟩ = false) => ?_) ((hbC.frozen (p := ⟨wr.heap.size, 2, none⟩) ?_).trans ?_); rotate_left; (first | with_reducible assumption | (simp <;> omega)); (first | with_reducible assumption | (focus (go_simp; done)))))))
            all_goals
              go_wp2_with fail
              go_meet
              first | (apply box_endV; (case ho => with_reducible assumption); (case hc => with_reducible assumption); (case hb => repeat' (first | with_reducible exact Below.refl _ _ | with_reducible apply b_alloc | with_reducible apply b_drew | with_reducible apply b_set | (refine @bel_trans _ ?_ _ ?_ ?_; rotate_right; with_reducible assumption))); done) | (apply box_midV (T := 28) (M0 := 0) (A0 := 0) (v0 := .slice none 0 0); (case ho => with_reducible assumption); (case hc => with_reducible assumption); (case hb => repeat' (first | with_reducible exact Below.refl _ _ | with_reducible apply b_alloc | with_reducible apply b_drew | with_reducible apply b_set | (refine @bel_trans _ ?_ _ ?_ ?_; rotate_right; with_reducible assumption))); (case hx => repeat' (first | with_reducible exact Below.refl _ _ | with_reducible apply b_alloc | with_reducible apply b_drew | with_reducible apply b_set | (refine @bel_trans _ ?_ _ ?_ ?_; rotate_right; with_reducible assumption))); done)
          obtain ⟨w9, hw9⟩ : ∃ w9, w9 = wc := ⟨_, rfl⟩
          subst hw9
          obtain ⟨g9, va9, vc9, lo9, hi9, rfl, ⟨y0, y1, y2⟩, hrow9, ⟨hge9, hlt9⟩, ⟨hlo9, hhi9⟩, hdj9, hb9⟩ := hcut
          have hN0 : 0 < Z.length := by have := HZL.out; have := HN12.out; omega
          obtain ⟨bz, oz, cz, hue, hbz, hcz⟩ := (InR.rowI hrow9).at hN0
          injection hue with hue1 _ hue3
          subst hue1 hue3
          have hbzlo : wr.heap.size ≤ bz := by
            obtain ⟨a9, c9, he9, hz9⟩ := id hrow9
            injection he9 with e1 e2 e3
            subst e1
            rcases hz9 with h9 | ⟨b9, o9, h9, k1, k2, k3, kc⟩
            · omega
            · injection h9 with h9
              injection h9 with h9 h10
              omega
          have HNE : Hid ((bz ≠ V ∧ bz ≠ P) ∧ (g9 ≠ V ∧ g9 ≠ P)) := Lib.hid ⟨⟨by have := HL.out.2.1.1; omega, by have := HL.out.2.2.1; omega⟩, ⟨by have := HL.out.2.1.1; omega, by have := HL.out.2.2.1; omega⟩⟩
          have HRZ : Hid (RowZ w9 bz oz N Z) := Lib.hid ⟨hbz, fun i hi => hcz i (by have := HZL.out; omega)⟩
          have HCF : Hid (CellF w9 g9 2 (.slice (some ⟨bz, oz, none⟩) N vc9)) := Lib.hid ⟨hlt9, by rw [← HZL.out]; exact y2⟩
          have HM : Hid (Below W.heap.size W w9 ∧ RowF w9 V N (fun i => (nrM m es N ss k 0 i).1) ∧ RowF w9 P N (fun i => (nrM m es N ss k 0 i).2)) := Lib.hid ⟨bel_trans HL.out.1 hb9, (HL.out.2.1.keep hb9).congr (fun i _ => by rw [nrM_zero]), (HL.out.2.2.keep hb9).congr (fun i _ => by rw [nrM_zero])⟩
          clear hrow9 hbz hcz hb9 hbzlo hN0 x0 x1 h1c y0 y1 y2 hdj9 HOLD HRX hb2 hge9 hlt9 hlo9 hhi9
          go_wp2_with fail
          go_loopw [14] (fun c wr => ∃ j : Nat, j ≤ N ∧ c = .int .i64 j ∧ Below W.heap.size W wr ∧ RowF wr V N (fun i => (nrM m es N ss k j i).1) ∧ RowF wr P N (fun i => (nrM m es N ss k j i).2) ∧ RowZ wr bz oz N Z ∧ CellF wr g9 2 (.slice (some ⟨bz, oz, none⟩) N vc9)) (fun c _ => N - (intOf c).toNat)
          case atStart => exact ⟨0, Nat.zero_le _, rfl, HM.out.1, HM.out.2.1, HM.out.2.2, HRZ.out, HCF.out⟩
          case round =>
            obtain ⟨j, hj, rfl, hbel, hrV, hrP, hrZ, hcF⟩ := hrel
            have HQ := Lib.hid (And.intro hbel (And.intro hrV (And.intro hrP (And.intro hrZ hcF))))
            obtain ⟨x0, x1⟩ := HRES.out _ hbel
            by_cases hjl : j < N
            · have hjl' : (j : Int) < N := by omega
              obtain ⟨z, hzz⟩ : ∃ z, z = Z.getD j 0 := ⟨_, rfl⟩
              have hcz := hrZ.2 j hjl
              rw [← hzz] at hcz
              obtain ⟨y, hyy⟩ : ∃ y, y = (nrAt m es N j (ss.take k)).1 := ⟨_, rfl⟩
              have hcy : wr.cell? ⟨V, j, none⟩ = some (.int .i64 (nrM m es N ss k j j).1) := (hrV.2 j hjl).1
              rw [nrM_at, ← hyy] at hcy
              have hbV : V < wr.heap.size := hrV.1
              have hbZ : bz < wr.heap.size := hrZ.1
              have FF : Hid (∀ w'', Below wr.heap.size wr w'' → w''.cell? ⟨V, j, none⟩ = some (.int .i64 y) ∧ w''.cell? ⟨g9, 2, none⟩ = some (.slice (some ⟨bz, oz, none⟩) N vc9) ∧ w''.cell? ⟨bz, oz + j, none⟩ = some (.int .i64 z)) := Lib.hid (fun w'' h => ⟨(h.cell (p := ⟨V, _, none⟩) hbV).trans hcy, (hcF.keep h).2, (h.cell (p := ⟨bz, _, none⟩) hbZ).trans hcz⟩)
              have hcb := HSB.out z y
              have hst := nrAt_snoc m es N j ss hlt
              rw [← HX.out, show nrS m es N j (nrAt m es N j (ss.take k)) (X : Int) = if mBet m z y = true then (z, (X : Int)) else nrAt m es N j (ss.take k) by unfold nrS vwS; rw [← HZ.out, ← hzz, ← hyy]] at hst
              generalize mBet m z y = B at hcb hst
              have HCB := Lib.hid hcb
              have hsu := nrM_succ m es N ss k j
              have HSU := Lib.hid hsu
              clear hbel hrV hrP hrZ hcF hzz hyy hcy hcz hcb hsu hbV hbZ
              cases B
              · rw [if_neg (by decide)] at hst
                have HSAME : Hid (∀ i, nrM m es N ss k (j + 1) i = nrM m es N ss k j i) := Lib.hid (fun i => by
                  rw [HSU.out i]
                  by_cases e : i = j
                  · subst e; rw [if_pos rfl, hst, nrM_at]
                  · rw [if_neg e])
                clear hst
                go_wp2_with fail
                refine wp_region_below (by kernel_rfl) (by kernel_rfl) ?_
                repeat (go_big_quiet_step ((intro hw; first | with_reducible rfl | (obtain ⟨f0, f1, f2⟩ := FF.out _ hw; simp only [f0, f1, f2, Result.andThen]; first | exact ⟨trivial, rfl⟩ | exact ⟨rfl, rfl⟩) | (go_at_call 57; exact quietB (HCB.out _) hw))))
                refine wpQuiet_nil ?_
                intro w3 hw3
                have H3 := Lib.hid hw3
                clear hw3
                go_wp2
                go_roundw
                case rel => first | exact ⟨j + 1, by omega, by go_num, bel_trans HQ.out.1 H3.out, (HQ.out.2.1.keep H3.out).congr (fun i _ => by rw [HSAME.out i]), (HQ.out.2.2.1.keep H3.out).congr (fun i _ => by rw [HSAME.out i]), HQ.out.2.2.2.1.keep H3.out, HQ.out.2.2.2.2.keep H3.out⟩ | ((repeat apply Exists.intro); exact ⟨⟨j + 1, by omega, by go_num, bel_trans HQ.out.1 H3.out, (HQ.out.2.1.keep H3.out).congr (fun i _ => by rw [HSAME.out i]), (HQ.out.2.2.1.keep H3.out).congr (fun i _ => by rw [HSAME.out i]), HQ.out.2.2.2.1.keep H3.out, HQ.out.2.2.2.2.keep H3.out⟩, rfl⟩)
                case measure => simp [intOf]; omega
              · rw [if_pos rfl] at hst
                have HNEW : Hid (∀ i, nrM m es N ss k (j + 1) i = if i = j then (z, (X : Int)) else nrM m es N ss k j i) := Lib.hid (fun i => by rw [HSU.out i, hst])
                clear hst
                go_wp2_with fail
                refine wp_region_below (by kernel_rfl) (by kernel_rfl) ?_
                repeat (go_big_quiet_step ((intro hw; first | with_reducible rfl | (obtain ⟨f0, f1, f2⟩ := FF.out _ hw; simp only [f0, f1, f2, Result.andThen]; first | exact ⟨trivial, rfl⟩ | exact ⟨rfl, rfl⟩) | (go_at_call 57; exact quietB (HCB.out _) hw))))
                refine wpQuiet_nil ?_
                intro w3 hw3
                have hV3 := HQ.out.2.1.keep hw3
                have hP3 := HQ.out.2.2.1.keep hw3
                have v1 := (hV3.2 j hjl).1
                have v2 := (hV3.2 j hjl).2
                have v3 := (hP3.2 j hjl).1
                have v4 := (hP3.2 j hjl).2
                obtain ⟨-, v5, v6⟩ := FF.out _ hw3
                have v7 := HBB.out.2 _ (bel_trans HQ.out.1 hw3)
                have hVP := HVP.out
                have hbw := HBB.out.1
                have hPV : ¬ P = V := fun q => hVP.1 q.symm
                have hVP2 : ¬ V = P := hVP.1
                have hbV1 : ¬ b = V := by omega
                have hbV2 : ¬ V = b := by omega
                have hsW := HSZ.out
                have HV4 : Hid (RowF ((w3.setCell ⟨V, j, none⟩ (.int .i64 z)).setCell ⟨P, j, none⟩ (.int .i64 X)) V N (fun i => (nrM m es N ss k (j + 1) i).1)) := Lib.hid (((hV3.set hjl z).setOther hVP2 _).congr (fun i _ => by rw [HNEW.out i]; by_cases e : i = j <;> simp [e]))
                have HP4 : Hid (RowF ((w3.setCell ⟨V, j, none⟩ (.int .i64 z)).setCell ⟨P, j, none⟩ (.int .i64 X)) P N (fun i => (nrM m es N ss k (j + 1) i).2)) := Lib.hid (((hP3.setOther (g' := V) (j := j) hPV (.int .i64 z)).set hjl (X : Int)).congr (fun i _ => by rw [HNEW.out i]; by_cases e : i = j <;> simp [e]))
                have HZ4 : Hid (RowZ ((w3.setCell ⟨V, j, none⟩ (.int .i64 z)).setCell ⟨P, j, none⟩ (.int .i64 X)) bz oz N Z) := Lib.hid (((HQ.out.2.2.2.1.keep hw3).setOther HNE.out.1.1 _).setOther HNE.out.1.2 _)
                have HC4 : Hid (CellF ((w3.setCell ⟨V, j, none⟩ (.int .i64 z)).setCell ⟨P, j, none⟩ (.int .i64 X)) g9 2 (.slice (some ⟨bz, oz, none⟩) N vc9)) := Lib.hid (((HQ.out.2.2.2.2.keep hw3).setOther HNE.out.2.1 _).setOther HNE.out.2.2 _)
                have HB4 : Hid (Below W.heap.size W ((w3.setCell ⟨V, j, none⟩ (.int .i64 z)).setCell ⟨P, j, none⟩ (.int .i64 X))) := Lib.hid (((bel_trans HQ.out.1 hw3).setCell (by simp only; omega) _).setCell (by simp only; omega) _)
                clear hV3 hP3 hw3 hVP hbw hsW x0 x1
                go_wp2
                go_roundw
                case rel => first | exact ⟨j + 1, by omega, by go_num, HB4.out, HV4.out, HP4.out, HZ4.out, HC4.out⟩ | ((repeat apply Exists.intro); exact ⟨⟨j + 1, by omega, by go_num, HB4.out, HV4.out, HP4.out, HZ4.out, HC4.out⟩, rfl⟩)
                case measure => simp [intOf]; omega
            · have hke : N = j := by omega
              have hkk : ¬ ((j : Int) < N) := by omega
              clear hbel hrV hrP hrZ hcF
              subst hke
              go_wp2
              go_roundw
              case rel => first | exact ⟨k + 1, by omega, by go_num, HQ.out.1, HQ.out.2.1.congr (fun i hi => by rw [nrM_done m es N ss k hi]), HQ.out.2.2.1.congr (fun i hi => by rw [nrM_done m es N ss k hi])⟩ | ((repeat apply Exists.intro); exact ⟨⟨k + 1, by omega, by go_num, HQ.out.1, HQ.out.2.1.congr (fun i hi => by rw [nrM_done m es N ss k hi]), HQ.out.2.2.1.congr (fun i hi => by rw [nrM_done m es N ss k hi])⟩, rfl⟩)
              case measure => simp [intOf]; omega
        · have hke : k = ss.length := by omega
          have hkk : ¬ ((k : Int) < ss.length) := by omega
          have htk : ss.take k = ss := by rw [hke, List.take_length]
          rw [htk] at HL
          clear hke htk
          go_wp2
          go_ret3
          have hlv := nrV_len m es N ss
          have hlo := nrO_len m es N ss
          have hiv := RowF.inR (lo := w.heap.size) (hi := wr.heap.size) (cap := cv) HL.out.2.1 hlv (fun i hi => nrV_at m es N ss i hi) (by have := HVP.out; omega) HL.out.2.1.1 (Nat.le_refl _)
          have hio := RowF.inR (lo := w.heap.size) (hi := wr.heap.size) (cap := cp) HL.out.2.2 hlo (fun i hi => nrO_at m es N ss i hi) (by have := HVP.out; omega) HL.out.2.2.1 (Nat.le_refl _)
          refine ⟨_, _, rfl, ?_, ?_, bel_trans HBW.out HL.out.1⟩
          · show InR true wr w.heap.size wr.heap.size _ (nrV m es N ss).length 1 (cellI (nrV m es N ss))
            rw [hlv] at hiv ⊢
            exact hiv
          · show InR true wr w.heap.size wr.heap.size _ (nrO m es N ss).length 1 (cellI (nrO m es N ss))
            rw [hlo] at hio ⊢
            exact hio
end Go.Proofs.Ytbinpaaihdcnlaa
