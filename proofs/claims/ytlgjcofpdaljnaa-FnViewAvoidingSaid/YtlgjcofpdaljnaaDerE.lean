/- WithinBound of the program and of the model. -/
import Derived.Test.YtlgjcofpdaljnaaDerD
namespace Go.Proofs.Ytlgjcofpdaljnaa
open Go.RowKit Go.BigFrame Go.Deep
set_option linter.unusedVariables false
set_option linter.unusedSimpArgs false

/-- The nodes whose value a bound is not better than. -/
def wbP (m : Int) (zs : List Int) (b : Int) (x : Int) : Bool := !(mBet m b (zs.getD x.toNat 0))
def wbB (n : Int) (es : List Ed) (m a : Int) (zs : List Int) (b : Int) : Bool := vVal n es m a zs && mIn m b
def wbR (n : Int) (es : List Ed) (m a : Int) (zs : List Int) (b : Int) : List Int := if wbB n es m a zs b = true then nwL n.toNat (wbP m zs b) else []
theorem wbR_len (n : Int) (es : List Ed) (m a : Int) (zs : List Int) (b : Int) : (wbR n es m a zs b).length ≤ 12 := by
  unfold wbR
  split
  · rename_i h
    simp only [wbB, Bool.and_eq_true] at h
    have := gVal_n (vVal_pts h.1).1
    have := nwL_len n.toNat (wbP m zs b)
    omega
  · simp
theorem own_nilI (w w' : World) : OwnI w w' (.slice none 0 0) [] := ⟨none, 0, rfl, .inl rfl⟩

set_option maxHeartbeats 2000000 in
theorem keeps_within (m : Int) (zs : List Int) (A b : Int) (t : Value) (B1 B2 B3 N : Nat) (W : World) (hm : mKind m = true) (h1 : W.cell? ⟨B1, 0, none⟩ = some (opsV m)) (l1 : B1 < W.heap.size) (h2 : W.cell? ⟨B2, 0, none⟩ = some (.int .i64 b)) (l2 : B2 < W.heap.size) (h3 : W.cell? ⟨B3, 2, none⟩ = some t) (l3 : B3 < W.heap.size) (ht : Row W t zs) (hN : zs.length = N) (hl : N ≤ 1048576) :
    KeepsI 48 #[.pointer (some ⟨B1, 0, none⟩), .pointer (some ⟨B2, 0, none⟩), .pointer (some ⟨B3, 0, none⟩)] (wbP m zs b) N W := by
  intro w' i hb hi
  obtain ⟨T, rv, fn, fe, fb, fo, fj, rn, re, rb, ro, rj, D⟩ := disp hm
  have hval := D.val
  have hn1 := D.mb.run
  have hn2 := D.mb.ahead
  have hn3 := D.mb.enter
  unfold wbP
  rw [Int.toNat_natCast]
  obtain ⟨z, hz⟩ : ∃ z, z = zs.getD i 0 := ⟨_, rfl⟩
  rw [← hz]
  have hcb := D.cb b z
  obtain ⟨bz, off, cap, rfl, hbz, hc⟩ := ht.at (by omega : i < zs.length)
  have hcz := hc i (by omega)
  rw [← hz] at hcz
  have hi' : (i : Int) < zs.length := by omega
  rw [hval] at h1
  have ff : ∀ w'', Below w'.heap.size w' w'' → w''.cell? ⟨B1, 0, none⟩ = some (.iface T rv) ∧ w''.cell? ⟨B2, 0, none⟩ = some (.int .i64 b) ∧ w''.cell? ⟨B3, 2, none⟩ = some (.slice (some ⟨bz, off, none⟩) zs.length cap) ∧ w''.cell? ⟨bz, off + i, none⟩ = some (.int .i64 z) := fun w'' h =>
    ⟨((bel_trans hb h).cell (p := ⟨B1, _, none⟩) l1).trans h1, ((bel_trans hb h).cell (p := ⟨B2, _, none⟩) l2).trans h2, ((bel_trans hb h).cell (p := ⟨B3, _, none⟩) l3).trans h3, ((bel_trans hb h).cell (p := ⟨bz, _, none⟩) hbz).trans hcz⟩
  have FF := Lib.hid ff
  generalize mBet m b z = P at hcb ⊢
  have HC := Lib.hid hcb
  clear hcb D hval h1 h2 h3 ff hc hcz hz hb ht hN
  show Calls _ _ #[.int .i64 i, .pointer (some ⟨B1, 0, none⟩), .pointer (some ⟨B2, 0, none⟩), .pointer (some ⟨B3, 0, none⟩)] _ _
  go_enter Try.func48, Try.ntmps48
  go_wp2_with fail
  refine wp_region_below (by kernel_rfl) (by kernel_rfl) ?_
  repeat (go_big_quiet_step ((intro hw; first | with_reducible rfl | (obtain ⟨f0, f1, f2, f3⟩ := FF.out _ hw; simp only [f0, f1, f2, f3, Result.andThen]; first | exact ⟨trivial, rfl⟩ | exact ⟨rfl, rfl⟩) | (with_reducible exact quietB (HC.out _) hw))))
  refine wpQuiet_nil ?_
  intro w1 hw1
  go_wp2
  go_ret
  exact ⟨rfl, hw1⟩

set_option maxHeartbeats 4000000 in
theorem withinBound (n m a b : Int) (es : List Ed) (zs : List Int) (s t : Value) (w : World) (hs : RowE w s es) (ht : Row w t zs) (hl : es.length ≤ 281474976710656) (hl2 : zs.length ≤ 281474976710656) :
    Calls Try.prog 15 #[.agg #[.int .i64 n, s], .agg #[.int .i64 m, .int .i64 a, t], .int .i64 b] w fun e w' => ∃ v, e = .returned (.tuple #[v, .bool (wbB n es m a zs b)]) ∧ OwnI w w' v (wbR n es m a zs b) ∧ Below w.heap.size w w' := by
  obtain ⟨ad, cap, rfl, hz0⟩ := id hs
  obtain ⟨at0, ct, rfl, hz1⟩ := id ht
  clear hz0 hz1
  have hmf : ∀ (fn : Fn) (first cap : Array Value) (w : World), (Instr.makeFunc fn first cap).run Try.prog w = .ok (.func fn first cap) w := fun _ _ _ _ => rfl
  obtain ⟨W, hW⟩ : ∃ W, W = (((w.alloc (.cells #[.int .i64 n, .slice ad es.length cap] 25)).alloc (.cells #[.int .i64 m, .int .i64 a, .slice at0 zs.length ct] 28)).alloc (.cells #[.int .i64 b] 3)) := ⟨_, rfl⟩
  have hbW : Below w.heap.size w W := by rw [hW]; exact (((Below.refl _ _).alloc (Nat.le_refl _) _).alloc (by simp) _).alloc (by simp; omega) _
  have hsz : W.heap.size = w.heap.size + 3 := by rw [hW]; simp
  have hov := fun w' (h : Below W.heap.size W w') => opsOfView n m a es zs _ _ w' (hs.keep (bel_trans hbW h)) (ht.keep (bel_trans hbW h)) hl hl2
  have hres : ∀ w', Below W.heap.size W w' → w'.cell? ⟨w.heap.size, 0, none⟩ = some (.int .i64 n) ∧ w'.cell? ⟨w.heap.size, 1, none⟩ = some (.slice ad es.length cap) ∧ w'.cell? ⟨w.heap.size + 1, 0, none⟩ = some (.int .i64 m) ∧ w'.cell? ⟨w.heap.size + 1, 1, none⟩ = some (.int .i64 a) ∧ w'.cell? ⟨w.heap.size + 1, 2, none⟩ = some (.slice at0 zs.length ct) ∧ w'.cell? ⟨w.heap.size + 2, 0, none⟩ = some (.int .i64 b) := fun w' h =>
    ⟨(h.cell (p := ⟨w.heap.size, 0, none⟩) (by simp only; omega)).trans (by rw [hW]; go_simp), (h.cell (p := ⟨w.heap.size, 1, none⟩) (by simp only; omega)).trans (by rw [hW]; go_simp), (h.cell (p := ⟨w.heap.size + 1, 0, none⟩) (by simp only; omega)).trans (by rw [hW]; go_simp), (h.cell (p := ⟨w.heap.size + 1, 1, none⟩) (by simp only; omega)).trans (by rw [hW]; go_simp), (h.cell (p := ⟨w.heap.size + 1, 2, none⟩) (by simp only; omega)).trans (by rw [hW]; go_simp), (h.cell (p := ⟨w.heap.size + 2, 0, none⟩) (by simp only; omega)).trans (by rw [hW]; go_simp)⟩
  have HRES := Lib.hid hres
  have HBW := Lib.hid hbW
  have HSZ := Lib.hid hsz
  have HWE := Lib.hid hW
  have HT := Lib.hid ht
  clear hres hbW hsz hs ht
  unfold wbR
  obtain ⟨Gv, hG⟩ : ∃ G, G = vVal n es m a zs := ⟨_, rfl⟩
  have QG := Lib.hid hG
  cases Gv
  · rw [show wbB n es m a zs b = false by unfold wbB; rw [← hG]; rfl, if_neg (by decide)]
    rw [← hG, show opsR m false = .nilIface from rfl] at hov
    have HOV := Lib.hid hov
    have AL : Hid (∀ w1 : World, Below w1.heap.size w1 (w1.alloc (.cells #[.nilIface] 69))) := Lib.hid (fun w1 => (Below.refl _ _).alloc (Nat.le_refl _) _)
    clear hov hG
    go_enter Try.func15, Try.ntmps15
    go_wp2_with fail
    rw [← hW]
    clear hW
    obtain ⟨j0, j1, j2, j3, j4, j5⟩ := HRES.out _ (Below.refl _ _)
    go_wp2_with ((go_at_call 37; refine (HOV.out _ (Below.refl _ _)).mono ?_; rintro e w1 ⟨rfl, hb1⟩; have HB1 := Lib.hid hb1; clear hb1 j0 j1 j2 j3 j4 j5; obtain ⟨j0, j1, j2, j3, j4, j5⟩ := HRES.out _ (bel_trans HB1.out (AL.out w1))))
    go_ret2
    exact ⟨_, rfl, own_nilI _ _, bel_trans HBW.out (bel_trans HB1.out (AL.out w1))⟩
  · have hp := vVal_pts hG.symm
    obtain ⟨T, rv, fn, fe, fb, fo, fj, rn, re, rb, ro, rj, D⟩ := disp hp.2.2.2.1
    rw [← hG, show opsR m true = opsV m from rfl, D.val] at hov
    have him := is_any hp.2.2.2.1 b
    rw [D.val] at him
    have hn := gVal_n hp.1
    have HP := Lib.hid hp
    have HVAL := Lib.hid D.val
    have HOV := Lib.hid hov
    have AL : Hid (∀ w1 : World, Below w1.heap.size w1 (w1.alloc (.cells #[.iface T rv] 69))) := Lib.hid (fun w1 => (Below.refl _ _).alloc (Nat.le_refl _) _)
    have e0 : wbB n es m a zs b = mIn m b := by unfold wbB; rw [← hG, Bool.true_and]
    rw [e0]
    obtain ⟨I, hI⟩ : ∃ I, I = mIn m b := ⟨_, rfl⟩
    rw [← hI] at him ⊢
    have HIM := Lib.hid him
    clear hov hG hp D him e0 hI
    cases I
    · rw [if_neg (by decide)]
      go_enter Try.func15, Try.ntmps15
      go_wp2_with fail
      rw [← hW]
      clear hW
      obtain ⟨j0, j1, j2, j3, j4, j5⟩ := HRES.out _ (Below.refl _ _)
      go_wp2_with (first | (go_at_call 37; refine (HOV.out _ (Below.refl _ _)).mono ?_; rintro e w1 ⟨rfl, hb1⟩; have HB1 := Lib.hid hb1; clear hb1 j0 j1 j2 j3 j4 j5; obtain ⟨j0, j1, j2, j3, j4, j5⟩ := HRES.out _ (bel_trans HB1.out (AL.out w1))) | (go_at_call 46; refine (HIM.out _).mono ?_; rintro e w2 ⟨rfl, hb2⟩; have HB2 := Lib.hid (bel_trans (AL.out w1) hb2); have HOX := Lib.hid ((Box.new w1 69 #[.iface T rv]).keep hb2); have HS1 := Lib.hid hb2; clear hb2 j0 j1 j2 j3 j4 j5; obtain ⟨j0, j1, j2, j3, j4, j5⟩ := HRES.out _ (bel_trans HB1.out HB2.out)))
      go_ret2
      exact ⟨_, rfl, own_nilI _ _, bel_trans HBW.out (bel_trans HB1.out HB2.out)⟩
    · rw [if_pos rfl]
      obtain ⟨N, rfl⟩ := Int.eq_ofNat_of_zero_le (show 0 ≤ n by omega)
      rw [Int.toNat_natCast]
      have heg : ∀ args w, (callFunc 48 args).run Try.prog w = .ok (.enter 48 args) w := enters_of Try.func48 (by kernel_rfl) rfl
      go_enter Try.func15, Try.ntmps15
      go_wp2_with fail
      rw [← hW]
      clear hW
      obtain ⟨j0, j1, j2, j3, j4, j5⟩ := HRES.out _ (Below.refl _ _)
      go_wp2_with (first | (go_at_call 37; refine (HOV.out _ (Below.refl _ _)).mono ?_; rintro e w1 ⟨rfl, hb1⟩; have HB1 := Lib.hid hb1; clear hb1 j0 j1 j2 j3 j4 j5; obtain ⟨j0, j1, j2, j3, j4, j5⟩ := HRES.out _ (bel_trans HB1.out (AL.out w1))) | (go_at_call 46; refine (HIM.out _).mono ?_; rintro e w2 ⟨rfl, hb2⟩; have HB2 := Lib.hid (bel_trans (AL.out w1) hb2); have HOX := Lib.hid ((Box.new w1 69 #[.iface T rv]).keep hb2); have HS1 := Lib.hid hb2; clear hb2 j0 j1 j2 j3 j4 j5; obtain ⟨j0, j1, j2, j3, j4, j5⟩ := HRES.out _ (bel_trans HB1.out HB2.out)))
      have h1s := HB1.out.size
      have h2s := HB2.out.size
      have hsz := HSZ.out
      have hk := keeps_within m zs a b (.slice at0 zs.length ct) w1.heap.size (w.heap.size + 2) (w.heap.size + 1) N w2 HP.out.2.2.2.1 (by rw [HVAL.out]; simpa using HOX.out.cell 0) (by exact HOX.out.lt) j5 (by omega) j4 (by omega) (HT.out.keep (bel_trans HBW.out (bel_trans HB1.out HB2.out))) (by have := HP.out.2.2.1; omega) (by omega)
      refine (nodesWhere N _ _ _ _ w2 heg hk (by omega)).mono ?_
      rintro e w3 ⟨v, rfl, hown, hb3⟩
      have H3 := Lib.hid (And.intro hown hb3)
      clear hown hb3 hk
      go_wp2
      go_ret2
      exact ⟨_, rfl, InR.wider H3.out.1 (bel_trans HBW.out (bel_trans HB1.out HB2.out)).size (Nat.le_refl _) (Nat.le_refl _), bel_trans HBW.out (bel_trans HB1.out (bel_trans HB2.out H3.out.2))⟩

set_option maxHeartbeats 4000000 in
theorem sWithinBound (n m a b : Int) (es : List Ed) (zs : List Int) (s t : Value) (w : World) (hs : RowE w s es) (ht : Row w t zs) (hl : es.length ≤ 281474976710656) (hl2 : zs.length ≤ 281474976710656) :
    Calls Try.prog 16 #[.agg #[.int .i64 n, s], .agg #[.int .i64 m, .int .i64 a, t], .int .i64 b] w fun e w' => ∃ v, e = .returned (.tuple #[v, .bool (wbB n es m a zs b)]) ∧ OwnI w w' v (wbR n es m a zs b) ∧ Below w.heap.size w w' := by
  obtain ⟨ad, cap, rfl, hz0⟩ := id hs
  obtain ⟨at0, ct, rfl, hz1⟩ := id ht
  clear hz0 hz1
  obtain ⟨W, hW⟩ : ∃ W, W = (((w.alloc (.cells #[.int .i64 n, .slice ad es.length cap] 25)).alloc (.cells #[.int .i64 m, .int .i64 a, .slice at0 zs.length ct] 28)).alloc (.cells #[] 3)) := ⟨_, rfl⟩
  have hbW : Below w.heap.size w W := by rw [hW]; exact (((Below.refl _ _).alloc (Nat.le_refl _) _).alloc (by simp) _).alloc (by simp; omega) _
  have hsz : W.heap.size = w.heap.size + 3 := by rw [hW]; simp
  have hvv := fun w' (h : Below W.heap.size W w') => sViewValid n m a es zs _ _ w' (hs.keep (bel_trans hbW h)) (ht.keep (bel_trans hbW h)) hl hl2
  have hres : ∀ w', Below W.heap.size W w' → w'.cell? ⟨w.heap.size, 0, none⟩ = some (.int .i64 n) ∧ w'.cell? ⟨w.heap.size, 1, none⟩ = some (.slice ad es.length cap) ∧ w'.cell? ⟨w.heap.size + 1, 0, none⟩ = some (.int .i64 m) ∧ w'.cell? ⟨w.heap.size + 1, 1, none⟩ = some (.int .i64 a) ∧ w'.cell? ⟨w.heap.size + 1, 2, none⟩ = some (.slice at0 zs.length ct) := fun w' h =>
    ⟨(h.cell (p := ⟨w.heap.size, 0, none⟩) (by simp only; omega)).trans (by rw [hW]; go_simp), (h.cell (p := ⟨w.heap.size, 1, none⟩) (by simp only; omega)).trans (by rw [hW]; go_simp), (h.cell (p := ⟨w.heap.size + 1, 0, none⟩) (by simp only; omega)).trans (by rw [hW]; go_simp), (h.cell (p := ⟨w.heap.size + 1, 1, none⟩) (by simp only; omega)).trans (by rw [hW]; go_simp), (h.cell (p := ⟨w.heap.size + 1, 2, none⟩) (by simp only; omega)).trans (by rw [hW]; go_simp)⟩
  have how : W.ownsRow w.heap.size 3 1 (.slice (some ⟨w.heap.size + 2, 0, none⟩) 0 0) 0 [] := by rw [hW]; simpa using own_empty ((w.alloc (.cells #[.int .i64 n, .slice ad es.length cap] 25)).alloc (.cells #[.int .i64 m, .int .i64 a, .slice at0 zs.length ct] 28)) 3 w.heap.size (by simp; omega)
  have HBOX : Hid (Box W w.heap.size 25 #[.int .i64 n, .slice ad es.length cap] ∧ Box W (w.heap.size + 1) 28 #[.int .i64 m, .int .i64 a, .slice at0 zs.length ct]) := Lib.hid (by
    rw [hW]
    refine ⟨((Box.new w _ _).alloc _).alloc _, ?_⟩
    have := (Box.new (w.alloc (.cells #[.int .i64 n, .slice ad es.length cap] 25)) 28 #[.int .i64 m, .int .i64 a, .slice at0 zs.length ct]).alloc (.cells #[] 3)
    simpa using this)
  have HRES := Lib.hid hres
  have HBW := Lib.hid hbW
  have HSZ := Lib.hid hsz
  have HWE := Lib.hid hW
  have HT := Lib.hid ht
  have HOW := Lib.hid how
  clear hres hbW hsz hs ht how
  unfold wbR
  obtain ⟨Gv, hG⟩ : ∃ G, G = vVal n es m a zs := ⟨_, rfl⟩
  have QG := Lib.hid hG
  rw [← hG] at hvv
  have HVV := Lib.hid hvv
  clear hvv
  cases Gv
  · rw [show wbB n es m a zs b = false by unfold wbB; rw [← hG]; rfl, if_neg (by decide)]
    clear hG
    go_enter Try.func16, Try.ntmps16
    go_wp2_with fail
    rw [← hW]
    clear hW
    obtain ⟨j0, j1, j2, j3, j4⟩ := HRES.out _ (Below.refl _ _)
    go_wp2_with (go_at_call 41; refine (HVV.out _ (Below.refl _ _)).mono ?_; rintro e w1 ⟨rfl, hb1⟩; have HB1 := Lib.hid hb1; clear hb1)
    go_ret2
    exact ⟨_, rfl, OwnI.of (own_keep (own_keep HOW.out (Below.refl _ _)) HB1.out) (Nat.le_refl _), bel_trans HBW.out HB1.out⟩
  · have hp := vVal_pts hG.symm
    have hm := hp.2.2.2.1
    have his := fun w' => sIs hm b w'
    have hn := gVal_n hp.1
    have HP := Lib.hid hp
    have e0 : wbB n es m a zs b = mIn m b := by unfold wbB; rw [← hG, Bool.true_and]
    rw [e0]
    obtain ⟨I, hI⟩ : ∃ I, I = mIn m b := ⟨_, rfl⟩
    rw [← hI] at his ⊢
    have HIS := Lib.hid his
    clear hG hp e0 hI his
    cases I
    · rw [if_neg (by decide)]
      go_enter Try.func16, Try.ntmps16
      go_wp2_with fail
      rw [← hW]
      clear hW
      obtain ⟨j0, j1, j2, j3, j4⟩ := HRES.out _ (Below.refl _ _)
      go_wp2_with (first | (go_at_call 41; refine (HVV.out _ (Below.refl _ _)).mono ?_; rintro e w1 ⟨rfl, hb1⟩; have HB1 := Lib.hid hb1; clear hb1 j0 j1 j2 j3 j4; obtain ⟨j0, j1, j2, j3, j4⟩ := HRES.out _ HB1.out) | (go_at_call 49; refine (HIS.out _).mono ?_; rintro e w2 ⟨rfl, hw2⟩; subst hw2))
      go_ret2
      exact ⟨_, rfl, OwnI.of (own_keep (own_keep HOW.out (Below.refl _ _)) HB1.out) (Nat.le_refl _), bel_trans HBW.out HB1.out⟩
    · rw [if_pos rfl]
      obtain ⟨N, rfl⟩ := Int.eq_ofNat_of_zero_le (show 0 ≤ n by omega)
      rw [Int.toNat_natCast]
      obtain ⟨i0, hi, hz0', hz1, hz2⟩ := info_parts info_int2
      have HI : Hid (Try.prog.info? 3 = some i0 ∧ i0.zero = some (.int .i64 0) ∧ i0.size = 1 ∧ i0.bytes = 8) := Lib.hid ⟨hi, hz0', hz1, hz2⟩
      clear hi hz0' hz1 hz2
      go_enter Try.func16, Try.ntmps16
      go_wp2_with fail
      rw [← hW]
      clear hW
      obtain ⟨j0, j1, j2, j3, j4⟩ := HRES.out _ (Below.refl _ _)
      go_wp2_with (first | (go_at_call 41; refine (HVV.out _ (Below.refl _ _)).mono ?_; rintro e w1 ⟨rfl, hb1⟩; have HB1 := Lib.hid hb1; clear hb1 j0 j1 j2 j3 j4; obtain ⟨j0, j1, j2, j3, j4⟩ := HRES.out _ HB1.out) | (go_at_call 49; refine (HIS.out _).mono ?_; rintro e w2 ⟨rfl, hw2⟩; subst hw2))
      clear j0 j1 j2 j3 j4
      go_loopw [9, 8] (fun c v wr => ∃ k : Nat, k ≤ N ∧ c = .int .i64 k ∧ Below w.heap.size w wr ∧ (Box wr w.heap.size 25 #[.int .i64 N, .slice ad es.length cap] ∧ Box wr (w.heap.size + 1) 28 #[.int .i64 m, .int .i64 a, .slice at0 zs.length ct]) ∧ wr.ownsRow w.heap.size 3 1 v (nwL k (wbP m zs b)).length ((nwL k (wbP m zs b)).map (Value.int .i64))) (fun c _ _ => N - (intOf c).toNat)
      case atStart => exact ⟨0, Nat.zero_le _, rfl, bel_trans HBW.out HB1.out, ⟨HBOX.out.1.keep HB1.out, HBOX.out.2.keep HB1.out⟩, own_keep (own_keep HOW.out (Below.refl _ _)) HB1.out⟩
      case round =>
        obtain ⟨k, hk, rfl, hbel, hbx, hown⟩ := hrel
        have HO := Lib.hid hown
        have HL := Lib.hid hbel
        have HX := Lib.hid hbx
        have x0 : wr.cell? ⟨w.heap.size, 0, none⟩ = some (.int .i64 N) := by simpa using hbx.1.cell 0
        clear hown hbx
        by_cases hlt : k < N
        · have hlt' : (k : Int) < N := by omega
          have hkz : k < zs.length := by have := HP.out.2.2.1; omega
          have hkz' : (k : Int) < zs.length := by omega
          obtain ⟨bz, off, cz, hse, hbz, hc⟩ := HT.out.at hkz
          injection hse with hsa _ hsc
          subst hsa hsc
          obtain ⟨z, hz⟩ : ∃ z, z = zs.getD k 0 := ⟨_, rfl⟩
          have hcz := hc k hkz
          rw [← hz] at hcz
          have ff : ∀ w'', Below wr.heap.size wr w'' → w''.cell? ⟨w.heap.size + 1, 0, none⟩ = some (.int .i64 m) ∧ w''.cell? ⟨w.heap.size + 1, 2, none⟩ = some (.slice (some ⟨bz, off, none⟩) zs.length ct) ∧ w''.cell? ⟨bz, off + k, none⟩ = some (.int .i64 z) := fun w'' h =>
            ⟨by simpa using (HX.out.2.keep h).cell 0, by simpa using (HX.out.2.keep h).cell 2, ((bel_trans hbel h).cell (p := ⟨bz, _, none⟩) hbz).trans hcz⟩
          have FF := Lib.hid ff
          have hsb : ∀ w', Calls Try.prog 42 #[.int .i64 m, .int .i64 b, .int .i64 z] w' fun e w'' => e = .returned (.bool (mBet m b z)) ∧ Below w'.heap.size w' w'' := fun w' => (sBet HP.out.2.2.2.1 b z w').mono (by rintro e w'' ⟨h1, rfl⟩; exact ⟨h1, Below.refl _ _⟩)
          have ht := nwL_succ k (wbP m zs b)
          rw [show wbP m zs b (k : Int) = !(mBet m b z) by unfold wbP; rw [Int.toNat_natCast, hz]] at ht
          have hln := nwL_len k (wbP m zs b)
          have hwr := hbel.size
          generalize mBet m b z = P at hsb ht
          have HSB := Lib.hid hsb
          clear hc hcz hz ff hsb hbel
          cases P
          · rw [if_pos (by decide)] at ht
            have HTT := Lib.hid ht
            clear ht
            obtain ⟨hi, hz0, hz1, hz2⟩ := HI.out
            go_wp2_with fail
            refine wp_region_below (by kernel_rfl) (by kernel_rfl) ?_
            repeat (go_big_quiet_step ((intro hw; first | with_reducible rfl | (obtain ⟨f0, f1, f2⟩ := FF.out _ hw; simp only [f0, f1, f2, Result.andThen]; first | exact ⟨trivial, rfl⟩ | exact ⟨rfl, rfl⟩) | (go_at_call 42; exact quietB (HSB.out _) hw))))
            refine wpQuiet_nil ?_
            intro w2 hw2
            have H2 := Lib.hid hw2
            clear hw2
            have hs2 := (bel_trans HL.out H2.out).size
            go_wp2_with (at_builtin; refine wpList_append_own _ rfl (.tmp 39) (.tmp 41) 26 rfl w.heap.size 3 i0 (.int .i64 0) 1 8 Try.underlying26 hi hz0 hz1 hz2 rfl (by decide) _ _ _ rfl ((own_keep HO.out H2.out).alloc _) ⟨w2.heap.size, 0, none⟩ 1 1 [.int .i64 (k : Int)] rfl rfl ?c1 ?c2 ?c3 ?c4 ?c5 ?_)
            case c1 => exact fun j u hj => by simpa using cell_one_new w2 (.int .i64 (k : Int)) 3 j u hj
            case c2 => simp [Value.oneCell']
            case c3 => unfold maxLen; omega
            case c4 => omega
            case c5 => simp; omega
            intro v' w6 hown6 hgrow6 _
            have hown6' : w6.ownsRow w.heap.size 3 1 v' (nwL (k + 1) (wbP m zs b)).length ((nwL (k + 1) (wbP m zs b)).map (Value.int .i64)) := by rw [HTT.out]; simpa using hown6
            have H7 := Lib.hid hown6'
            have HX6 := Lib.hid (And.intro (Box.grown ((HX.out.1.keep H2.out).alloc _) hgrow6 ((own_keep HO.out H2.out).alloc _) (by decide)) (Box.grown ((HX.out.2.keep H2.out).alloc _) hgrow6 ((own_keep HO.out H2.out).alloc _) (by decide)))
            have H8 : Hid (Below w.heap.size w w6) := Lib.hid (((bel_trans HL.out H2.out).alloc hs2 _).grown hgrow6 (by simp; omega) (fun q hq => ((own_keep HO.out H2.out).lt q hq).1))
            clear hown6 hown6' hgrow6 hi hz0 hz1 hz2 x0
            go_wp2
            go_roundw
            case rel => first | exact ⟨k + 1, by omega, by go_num, H8.out, HX6.out, H7.out⟩ | ((repeat apply Exists.intro); exact ⟨⟨k + 1, by omega, by go_num, H8.out, HX6.out, H7.out⟩, rfl⟩)
            case measure => simp [intOf]; omega
          · rw [if_neg (by decide), List.append_nil] at ht
            have HTT := Lib.hid ht
            clear ht
            go_wp2_with fail
            refine wp_region_below (by kernel_rfl) (by kernel_rfl) ?_
            repeat (go_big_quiet_step ((intro hw; first | with_reducible rfl | (obtain ⟨f0, f1, f2⟩ := FF.out _ hw; simp only [f0, f1, f2, Result.andThen]; first | exact ⟨trivial, rfl⟩ | exact ⟨rfl, rfl⟩) | (go_at_call 42; exact quietB (HSB.out _) hw))))
            refine wpQuiet_nil ?_
            intro w2 hw2
            have H2 := Lib.hid hw2
            clear hw2
            go_wp2
            go_roundw
            case rel => first | exact ⟨k + 1, by omega, by go_num, bel_trans HL.out H2.out, ⟨HX.out.1.keep H2.out, HX.out.2.keep H2.out⟩, by rw [HTT.out]; exact own_keep HO.out H2.out⟩ | ((repeat apply Exists.intro); exact ⟨⟨k + 1, by omega, by go_num, bel_trans HL.out H2.out, ⟨HX.out.1.keep H2.out, HX.out.2.keep H2.out⟩, by rw [HTT.out]; exact own_keep HO.out H2.out⟩, rfl⟩)
            case measure => simp [intOf]; omega
        · have hke : k = N := by omega
          have hkk : ¬ ((k : Int) < N) := by omega
          rw [hke] at HO
          have HKE := Lib.hid hke
          clear hke
          go_wp2
          go_ret2
          exact ⟨_, rfl, OwnI.of HO.out (Nat.le_refl _), hbel⟩
end Go.Proofs.Ytlgjcofpdaljnaa
