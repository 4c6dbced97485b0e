/- BridgeNodes of the program and of the model. -/
import Derived.Test.YtbinpaaihdcnlaaDerF
import Derived.Deep.RegionHeld3
namespace Go.Proofs.Ytbinpaaihdcnlaa
open Go.RowKit Go.BigFrame Go.Deep
set_option linter.unusedVariables false
set_option linter.unusedSimpArgs false

/-- Without a node another one is not reached. -/
def brP (es : List Ed) (N A X : Nat) (x : Int) : Bool := (x != (A : Int) && x != (X : Int)) && !(rcB 4 (woL es [x]) N A X)
def brB (n : Int) (es : List Ed) (a x : Int) : Bool := onOk n es 4 [a, x] && rcB 4 es n.toNat a.toNat x.toNat
def brR (n : Int) (es : List Ed) (a x : Int) : List Int := if brB n es a x = true then nwL n.toNat (brP es n.toNat a.toNat x.toNat) else []
theorem brR_len (n : Int) (es : List Ed) (a x : Int) : (brR n es a x).length ≤ 12 := by
  unfold brR
  split
  · rename_i h
    simp only [brB, Bool.and_eq_true] at h
    have := gVal_n (onOk_parts h.1).1
    have := nwL_len n.toNat (brP es n.toNat a.toNat x.toNat)
    omega
  · simp

set_option maxHeartbeats 4000000 in
theorem keeps_bridge (es : List Ed) (N A X : Nat) (s : Value) (B1 B2 B3 B4 : Nat) (W : World) (h1 : W.cell? ⟨B1, 0, none⟩ = some (.int .i64 A)) (l1 : B1 < W.heap.size) (h2 : W.cell? ⟨B2, 0, none⟩ = some (.int .i64 X)) (l2 : B2 < W.heap.size) (h3 : W.cell? ⟨B3, 0, none⟩ = some (opsV 4)) (l3 : B3 < W.heap.size) (h4 : W.cell? ⟨B4, 0, none⟩ = some (.int .i64 N)) (h5 : W.cell? ⟨B4, 1, none⟩ = some s) (l4 : B4 < W.heap.size) (hs : RowE W s es) (hg : gVal N es = true) (hA : A < N) (hX : X < N) :
    KeepsI 81 #[.pointer (some ⟨B1, 0, none⟩), .pointer (some ⟨B2, 0, none⟩), .pointer (some ⟨B3, 0, none⟩), .pointer (some ⟨B4, 0, none⟩)] (brP es N A X) N W := by
  intro w' i hb hi
  obtain ⟨T, rv, fn, fe, fb, fo, fj, rn, re, rb, ro, rj, D⟩ := disp (m := 4) (by decide)
  have hval := D.val
  rw [hval] at h3
  obtain ⟨ad, cap, rfl, hz0⟩ := id hs
  have h40 := (gVal_parts hg).2.2.1
  have hn := gVal_n hg
  have ff : ∀ w'', Below w'.heap.size w' w'' → w''.cell? ⟨B1, 0, none⟩ = some (.int .i64 A) ∧ w''.cell? ⟨B2, 0, none⟩ = some (.int .i64 X) ∧ w''.cell? ⟨B3, 0, none⟩ = some (.iface T rv) ∧ w''.cell? ⟨B4, 0, none⟩ = some (.int .i64 N) ∧ w''.cell? ⟨B4, 1, none⟩ = some (.slice ad es.length cap) := fun w'' h =>
    ⟨((bel_trans hb h).cell (p := ⟨B1, _, none⟩) l1).trans h1, ((bel_trans hb h).cell (p := ⟨B2, _, none⟩) l2).trans h2, ((bel_trans hb h).cell (p := ⟨B3, _, none⟩) l3).trans h3, ((bel_trans hb h).cell (p := ⟨B4, _, none⟩) l4).trans h4, ((bel_trans hb h).cell (p := ⟨B4, _, none⟩) l4).trans h5⟩
  have FF := Lib.hid ff
  have hlo := fun (t : Value) w'' (h : Below w'.heap.size w' w'') (ht : Row w'' t [(i : Int)]) => leaveOut N es [(i : Int)] _ t w'' (hs.keep (bel_trans hb h)) ht (by omega) (by simp)
  have hrc := fun (v : Value) w'' (h : RowE w'' v (woL es [(i : Int)])) => reaches 4 (woL es [(i : Int)]) N A X v w'' (by decide) h (Nat.le_trans (filter_lenE _ _) (by omega)) hA hX (by omega) (by have := eAll_of (gVal_filter (woP [(i : Int)]) hg); rwa [Int.toNat_natCast] at this)
  rw [hval] at hrc
  unfold brP
  generalize rcB 4 (woL es [(i : Int)]) N A X = P at hrc ⊢
  generalize woL es [(i : Int)] = L at hlo hrc
  have HLO := Lib.hid hlo
  have HRC := Lib.hid hrc
  clear D hval h1 h2 h3 h4 h5 ff hlo hrc hz0 hb hs hg
  show Calls _ _ #[.int .i64 i, .pointer (some ⟨B1, 0, none⟩), .pointer (some ⟨B2, 0, none⟩), .pointer (some ⟨B3, 0, none⟩), .pointer (some ⟨B4, 0, none⟩)] _ _
  by_cases hiA : (i : Int) = A
  · have d1 : ((i : Int) != A) = false := by simpa using hiA
    rw [d1, Bool.false_and, Bool.false_and]
    clear hiA
    go_enter Try.func81, Try.ntmps81
    go_wp2_with fail
    refine wp_region_below (by kernel_rfl) (by kernel_rfl) ?_
    repeat (go_big_quiet_step ((intro hw; first | with_reducible rfl | (obtain ⟨f0, f1, f2, f3, f4⟩ := FF.out _ hw; simp only [f0, f1, f2, f3, f4, Result.andThen]; first | exact ⟨trivial, rfl⟩ | exact ⟨rfl, rfl⟩))))
    refine wpQuiet_nil ?_
    intro w1 hw1
    go_wp2
    go_ret
    exact ⟨rfl, hw1⟩
  have d1 : ((i : Int) != A) = true := by simpa using hiA
  rw [d1, Bool.true_and]
  by_cases hiX : (i : Int) = X
  · have d2 : ((i : Int) != X) = false := by simpa using hiX
    rw [d2, Bool.false_and]
    clear hiA hiX
    go_enter Try.func81, Try.ntmps81
    go_wp2_with fail
    refine wp_region_below (by kernel_rfl) (by kernel_rfl) ?_
    repeat (go_big_quiet_step ((intro hw; first | with_reducible rfl | (obtain ⟨f0, f1, f2, f3, f4⟩ := FF.out _ hw; simp only [f0, f1, f2, f3, f4, Result.andThen]; first | exact ⟨trivial, rfl⟩ | exact ⟨rfl, rfl⟩))))
    refine wpQuiet_nil ?_
    intro w1 hw1
    go_wp2
    go_ret
    exact ⟨rfl, hw1⟩
  have d2 : ((i : Int) != X) = true := by simpa using hiX
  rw [d2, Bool.true_and]
  have r0 : Hid (∀ (A0 : Obj), Below w'.heap.size w' ((w'.alloc A0).drew)) := Lib.hid (fun A0 => ((Below.refl _ _).alloc (Nat.le_refl _) _).drew)
  have hr1 : Hid (Row ((w'.alloc (.cells #[.int .i64 i] 3)).drew) (.slice (some ⟨w'.heap.size, 0, none⟩) 1 1) [(i : Int)]) := Lib.hid (row_one w' i _)
  clear hiA hiX
  go_enter Try.func81, Try.ntmps81
  go_wp2_with fail
  go_region_held3 (fun q : World => q.cell? ⟨B1, 0, none⟩ = some (.int .i64 A) ∧ q.cell? ⟨B2, 0, none⟩ = some (.int .i64 X) ∧ q.cell? ⟨B3, 0, none⟩ = some (.iface T rv) ∧ q.cell? ⟨B4, 0, none⟩ = some (.int .i64 N) ∧ q.cell? ⟨B4, 1, none⟩ = some (.slice ad es.length cap)) (first | (with_reducible exact FF.out _ (Below.refl _ _)) | (with_reducible exact FF.out _ (Below.refl _ _).drew) | (with_reducible exact FF.out _ (r0.out _)) | (with_reducible exact FF.out _ (bel_trans (r0.out _) hbA)) | (with_reducible exact FF.out _ (bel_trans (bel_trans (r0.out _) hbA) hbB))) (first | (go_at_call 77; (with_reducible refine (HLO.out _ _ (r0.out _) hr1.out).mono ?_); rintro e wA ⟨v, rfl, hown, hokv, hbA⟩; have HO := Lib.hid hown; clear hown hokv) | (go_at_call 80; (with_reducible refine (HRC.out _ _ (OwnE.rowD HO.out)).mono ?_); rintro e wB ⟨rfl, hbB⟩))
  all_goals
    go_wp2
    go_ret
    exact ⟨rfl, bel_trans (bel_trans (r0.out _) hbA) hbB⟩

theorem row_oneb (w : World) (a b : Int) : Row (w.alloc (.cells #[.int .i64 a, .int .i64 b] 3)) (.slice (some ⟨w.heap.size, 0, none⟩) 2 2) [a, b] := row_two w a b _

set_option maxHeartbeats 4000000 in
theorem bridgeNodes (n a x : Int) (es : List Ed) (s : Value) (w : World) (hs : RowE w s es) (hl : es.length ≤ 281474976710656) :
    Calls Try.prog 36 #[.agg #[.int .i64 n, s], .int .i64 a, .int .i64 x] w fun e w' => ∃ v, e = .returned (.tuple #[v, .bool (brB n es a x)]) ∧ OwnI w w' v (brR n es a x) ∧ Below w.heap.size w w' := by
  obtain ⟨ad, cap, rfl, hz0⟩ := id hs
  clear hz0
  have hmf : ∀ (fn : Fn) (first cap : Array Value) (w : World), (Instr.makeFunc fn first cap).run Try.prog w = .ok (.func fn first cap) w := fun _ _ _ _ => rfl
  obtain ⟨W, hW⟩ : ∃ W, W = (((w.alloc (.cells #[.int .i64 n, .slice ad es.length cap] 25)).alloc (.cells #[.int .i64 a] 3)).alloc (.cells #[.int .i64 x] 3)) := ⟨_, rfl⟩
  have hbW : Below w.heap.size w W := by rw [hW]; exact (((Below.refl _ _).alloc (Nat.le_refl _) _).alloc (by simp) _).alloc (by simp; omega) _
  have hsz : W.heap.size = w.heap.size + 3 := by rw [hW]; simp
  have hres : ∀ w', Below W.heap.size W w' → w'.cell? ⟨w.heap.size, 0, none⟩ = some (.int .i64 n) ∧ w'.cell? ⟨w.heap.size, 1, none⟩ = some (.slice ad es.length cap) ∧ w'.cell? ⟨w.heap.size + 1, 0, none⟩ = some (.int .i64 a) ∧ w'.cell? ⟨w.heap.size + 2, 0, none⟩ = some (.int .i64 x) := fun w' h =>
    ⟨(h.cell (p := ⟨w.heap.size, 0, none⟩) (by simp only; omega)).trans (by rw [hW]; go_simp), (h.cell (p := ⟨w.heap.size, 1, none⟩) (by simp only; omega)).trans (by rw [hW]; go_simp), (h.cell (p := ⟨w.heap.size + 1, 0, none⟩) (by simp only; omega)).trans (by rw [hW]; go_simp), (h.cell (p := ⟨w.heap.size + 2, 0, none⟩) (by simp only; omega)).trans (by rw [hW]; go_simp)⟩
  have har : Below W.heap.size W (W.alloc (.cells #[.int .i64 a, .int .i64 x] 3)) := (Below.refl _ _).alloc (Nat.le_refl _) _
  have hon := opsOn n 4 es [a, x] _ _ _ (hs.keep (bel_trans hbW har)) (row_oneb W a x) hl (by simp)
  rw [show W.heap.size = w.heap.size + 1 + 1 + 1 from hsz] at hon
  have AR := Lib.hid har
  have HRES := Lib.hid hres
  have HBW := Lib.hid hbW
  have HSZ := Lib.hid hsz
  have HWE := Lib.hid hW
  have HS := Lib.hid hs
  clear hres hbW hsz hs har
  unfold brR
  obtain ⟨Gv, hG⟩ : ∃ G, G = onOk n es 4 [a, x] := ⟨_, rfl⟩
  rw [← hG] at hon
  cases Gv
  · rw [show brB n es a x = false by unfold brB; rw [← hG]; rfl, if_neg (by decide)]
    rw [show opsR 4 false = .nilIface from rfl] at hon
    have HON := Lib.hid hon
    clear hon hG
    go_enter Try.func36, Try.ntmps36
    go_wp2_with fail
    rw [← hW]
    clear hW
    obtain ⟨j0, j1, j2, j3⟩ := HRES.out _ (Below.refl _ _)
    go_wp2_with (go_at_call 62; refine HON.out.mono ?_; rintro e w1 ⟨rfl, hb1⟩; have HB1 := Lib.hid (bel_trans AR.out hb1); clear hb1; have HOX := Lib.hid (Box.new w1 79 #[.nilIface]); have AL : Hid (Below w1.heap.size w1 (w1.alloc (.cells #[.nilIface] 79))) := Lib.hid ((Below.refl _ _).alloc (Nat.le_refl _) _); clear j0 j1 j2 j3; obtain ⟨j0, j1, j2, j3⟩ := HRES.out _ (bel_trans HB1.out AL.out))
    go_ret2
    exact ⟨_, rfl, own_nilI _ _, bel_trans HBW.out (bel_trans HB1.out AL.out)⟩
  · have hp := onOk_parts hG.symm
    obtain ⟨T, rv, fn, fe, fb, fo, fj, rn, re, rb, ro, rj, D⟩ := disp (m := 4) (by decide)
    rw [show opsR 4 true = opsV 4 from rfl, D.val] at hon
    have hn := gVal_n hp.1
    have ha := hp.2.1 a (by simp)
    have hx := hp.2.1 x (by simp)
    have h40 := (gVal_parts hp.1).2.2.1
    have he := eAll_of hp.1
    obtain ⟨N, rfl⟩ := Int.eq_ofNat_of_zero_le (show 0 ≤ n by omega)
    obtain ⟨A, rfl⟩ := Int.eq_ofNat_of_zero_le ha.1
    obtain ⟨X, rfl⟩ := Int.eq_ofNat_of_zero_le hx.1
    have hA : A < N := by omega
    have hX : X < N := by omega
    rw [Int.toNat_natCast] at he
    have hrc := fun w' (h : Below W.heap.size W w') => reaches 4 es N A X (.slice ad es.length cap) w' (by decide) (HS.out.keep (bel_trans HBW.out h)) (by omega) hA hX (by omega) he
    rw [D.val] at hrc
    have HVAL := Lib.hid D.val
    have HG := Lib.hid hp.1
    have HON := Lib.hid hon
    have e0 : brB N es A X = rcB 4 es N A X := by unfold brB; rw [← hG, Bool.true_and]; simp
    rw [e0, Int.toNat_natCast, Int.toNat_natCast, Int.toNat_natCast]
    obtain ⟨I, hI⟩ : ∃ I, I = rcB 4 es N A X := ⟨_, rfl⟩
    rw [← hI] at hrc ⊢
    have HRC := Lib.hid hrc
    clear hon hG hp D hrc e0 hI he
    cases I
    · rw [if_neg (by decide)]
      go_enter Try.func36, Try.ntmps36
      go_wp2_with fail
      rw [← hW]
      clear hW
      obtain ⟨j0, j1, j2, j3⟩ := HRES.out _ (Below.refl _ _)
      go_wp2_with (first | (go_at_call 62; refine HON.out.mono ?_; rintro e w1 ⟨rfl, hb1⟩; have HB1 := Lib.hid (bel_trans AR.out hb1); clear hb1; have HOX := Lib.hid (Box.new w1 79 #[.iface T rv]); have AL : Hid (Below w1.heap.size w1 (w1.alloc (.cells #[.iface T rv] 79))) := Lib.hid ((Below.refl _ _).alloc (Nat.le_refl _) _); clear j0 j1 j2 j3; obtain ⟨j0, j1, j2, j3⟩ := HRES.out _ (bel_trans HB1.out AL.out)) | (go_at_call 80; (with_reducible refine (HRC.out _ (bel_trans HB1.out AL.out)).mono ?_); rintro e w2 ⟨rfl, hb2⟩; have HB2 := Lib.hid (bel_trans AL.out hb2); have HOX2 := Lib.hid (HOX.out.keep hb2); clear hb2; clear j0 j1 j2 j3; obtain ⟨j0, j1, j2, j3⟩ := HRES.out _ (bel_trans HB1.out HB2.out)))
      go_ret2
      exact ⟨_, rfl, own_nilI _ _, bel_trans HBW.out (bel_trans HB1.out HB2.out)⟩
    · rw [if_pos rfl]
      have heg : ∀ args w, (callFunc 81 args).run Try.prog w = .ok (.enter 81 args) w := enters_of Try.func81 (by kernel_rfl) rfl
      go_enter Try.func36, Try.ntmps36
      go_wp2_with fail
      rw [← hW]
      clear hW
      obtain ⟨j0, j1, j2, j3⟩ := HRES.out _ (Below.refl _ _)
      go_wp2_with (first | (go_at_call 62; refine HON.out.mono ?_; rintro e w1 ⟨rfl, hb1⟩; have HB1 := Lib.hid (bel_trans AR.out hb1); clear hb1; have HOX := Lib.hid (Box.new w1 79 #[.iface T rv]); have AL : Hid (Below w1.heap.size w1 (w1.alloc (.cells #[.iface T rv] 79))) := Lib.hid ((Below.refl _ _).alloc (Nat.le_refl _) _); clear j0 j1 j2 j3; obtain ⟨j0, j1, j2, j3⟩ := HRES.out _ (bel_trans HB1.out AL.out)) | (go_at_call 80; (with_reducible refine (HRC.out _ (bel_trans HB1.out AL.out)).mono ?_); rintro e w2 ⟨rfl, hb2⟩; have HB2 := Lib.hid (bel_trans AL.out hb2); have HOX2 := Lib.hid (HOX.out.keep hb2); clear hb2; clear j0 j1 j2 j3; obtain ⟨j0, j1, j2, j3⟩ := HRES.out _ (bel_trans HB1.out HB2.out)))
      have h1s := HB1.out.size
      have h2s := HB2.out.size
      have hsz := HSZ.out
      have hk := keeps_bridge es N A X (.slice ad es.length cap) (w.heap.size + 1) (w.heap.size + 2) w1.heap.size w.heap.size w2 j2 (by omega) j3 (by omega) (by rw [HVAL.out]; simpa using HOX2.out.cell 0) HOX2.out.lt j0 j1 (by omega) (HS.out.keep (bel_trans HBW.out (bel_trans HB1.out HB2.out))) HG.out hA hX
      refine (nodesWhere N _ _ _ _ w2 heg hk (by omega)).mono ?_
      rintro e w3 ⟨v, rfl, hown, hb3⟩
      have H3 := Lib.hid (And.intro hown hb3)
      clear hown hb3 hk
      go_wp2
      go_ret2
      exact ⟨_, rfl, InR.wider H3.out.1 (bel_trans HBW.out (bel_trans HB1.out HB2.out)).size (Nat.le_refl _) (Nat.le_refl _), bel_trans HBW.out (bel_trans HB1.out (bel_trans HB2.out H3.out.2))⟩
end Go.Proofs.Ytbinpaaihdcnlaa
