/- RanksOf of the program. -/
import Derived.Test.YtneapbggnnndhaaDerK
import Derived.Test.YtneapbggnnndhaaCmpM
import Derived.Shelf.Abstract
namespace Go.Proofs.Ytneapbggnnndhaa
open Go.RowKit Go.BigFrame Go.Deep
set_option linter.unusedVariables false
set_option linter.unusedSimpArgs false
set_option linter.unnecessarySimpa false

theorem stableCmp (N c : Nat) (lt : Int → Int → Bool) (cf : Int → Int → Int) (kf : FuncId) (lb : Array Value) (W : World) (D : Nat) (w : World) (hcf : ∀ a b : Int, (0 ≤ a ∧ a < N) → (0 ≤ b ∧ b < N) → decide (cf a b < 0) = lt a b) (eg : ∀ args w, (callFunc kf args).run Try.prog w = .ok (.enter kf args) w) (hk : CmpI kf lb cf N W) (hD : W.heap.size ≤ D) (hw : Below W.heap.size W w) (hr : w.rowIs D 3 N (cellI (ndsL N))) (h1 : 1 ≤ N) (hN : N ≤ 12) :
    Calls Try.prog 70 #[.slice (some ⟨D, 0, none⟩) N c, .int .i64 N, .func (.func kf) #[] lb] w fun e w' => e = .returned (.tuple #[]) ∧ w'.rowIs D 3 N (cellI (rkL lt N)) ∧ Below W.heap.size W w' := by
  have h20 : ¬ ((20 : Int) ≤ N) := by omega
  have h21 : ¬ ((20 : Int) < N) := by omega
  have his := insertionSort N c lt cf kf lb W D w hcf eg hk hD hw hr h1 hN
  have HIS := Lib.hid his
  clear his hk hw hr hcf eg
  go_enter Try.func70, Try.ntmps70
  go_wp2
  refine wp_loop_rounds 1 ?_
  rw [rounds_succ]
  go_wp2_with fail
  refine HIS.out.mono ?_
  rintro e w1 ⟨rfl, hr1, hb1⟩
  go_wp2
  refine wp_loop_rounds 1 ?_
  rw [rounds_succ]
  go_wp2
  go_end0
  exact ⟨rfl, hr1, hb1⟩
theorem sortStable (N c : Nat) (lt : Int → Int → Bool) (cf : Int → Int → Int) (kf : FuncId) (lb : Array Value) (W : World) (D : Nat) (w : World) (hcf : ∀ a b : Int, (0 ≤ a ∧ a < N) → (0 ≤ b ∧ b < N) → decide (cf a b < 0) = lt a b) (eg : ∀ args w, (callFunc kf args).run Try.prog w = .ok (.enter kf args) w) (hk : CmpI kf lb cf N W) (hD : W.heap.size ≤ D) (hw : Below W.heap.size W w) (hr : w.rowIs D 3 N (cellI (ndsL N))) (h1 : 1 ≤ N) (hN : N ≤ 12) :
    Calls Try.prog 45 #[.slice (some ⟨D, 0, none⟩) N c, .func (.func kf) #[] lb] w fun e w' => e = .returned (.tuple #[]) ∧ w'.rowIs D 3 N (cellI (rkL lt N)) ∧ Below W.heap.size W w' := by
  have his := stableCmp N c lt cf kf lb W D w hcf eg hk hD hw hr h1 hN
  have HIS := Lib.hid his
  clear his hk hw hr hcf eg
  go_enter Try.func45, Try.ntmps45
  go_wp2_with fail
  refine HIS.out.mono ?_
  rintro e w1 ⟨rfl, hr1, hb1⟩
  go_wp2
  go_end0
  exact ⟨rfl, hr1, hb1⟩

/-- Is a node in front of another one? -/
def rkB (m : Int) (zs : List Int) (x y : Int) : Bool := mBet m (zs.getD x.toNat 0) (zs.getD y.toNat 0)
def rkC (m : Int) (zs : List Int) (x y : Int) : Int := if rkB m zs x y = true then -1 else if rkB m zs y x = true then 1 else 0
def rkR (n : Int) (es : List Ed) (m a : Int) (zs : List Int) : List Int := if vVal n es m a zs = true then rkL (rkB m zs) n.toNat else []
theorem rkR_len (n : Int) (es : List Ed) (m a : Int) (zs : List Int) : (rkR n es m a zs).length ≤ 12 := by
  unfold rkR
  split
  · rename_i h
    have := gVal_n (vVal_pts h).1
    rw [rkL_len]
    omega
  · simp
theorem rkC_lt (m : Int) (zs : List Int) (x y : Int) : decide (rkC m zs x y < 0) = rkB m zs x y := by
  unfold rkC
  cases rkB m zs x y <;> cases rkB m zs y x <;> simp

theorem rkC_cmp (m : Int) (zs : List Int) (x y : Int) : rkC m zs x y = cmpM m (zs.getD x.toNat 0) (zs.getD y.toNat 0) := rfl
set_option maxHeartbeats 2000000 in
theorem cmp_ranks (m : Int) (zs : List Int) (t : Value) (B1 B2 N : Nat) (W : World) (hm : mKind m = true) (h1 : W.cell? ⟨B1, 0, none⟩ = some (opsV m)) (l1 : B1 < W.heap.size) (h3 : W.cell? ⟨B2, 2, none⟩ = some t) (l3 : B2 < W.heap.size) (ht : Row W t zs) (hN : zs.length = N) (hl : N ≤ 12) :
    CmpI 46 #[.pointer (some ⟨B1, 0, none⟩), .pointer (some ⟨B2, 0, none⟩)] (rkC m zs) N W := by
  intro w' a b hb ha' hb'
  obtain ⟨i, rfl⟩ := Int.eq_ofNat_of_zero_le ha'.1
  obtain ⟨j, rfl⟩ := Int.eq_ofNat_of_zero_le hb'.1
  have hi : i < zs.length := by omega
  have hj : j < zs.length := by omega
  have hi' : (i : Int) < zs.length := by omega
  have hj' : (j : Int) < zs.length := by omega
  obtain ⟨bz, off, cap, rfl, hbz, hc⟩ := ht.at hi
  obtain ⟨x, hx⟩ : ∃ x, x = zs.getD i 0 := ⟨_, rfl⟩
  obtain ⟨y, hy⟩ : ∃ y, y = zs.getD j 0 := ⟨_, rfl⟩
  have hcx := hc i hi
  have hcy := hc j hj
  rw [← hx] at hcx
  rw [← hy] at hcy
  have hcm := fun w => compareMeasures m x y hm w
  rw [rkC_cmp, Int.toNat_natCast, Int.toNat_natCast, ← hx, ← hy]
  generalize cmpM m x y = R at hcm ⊢
  obtain ⟨T, rv, fn, fe, fb, fo, fj, rn, re, rb, ro, rj, D⟩ := disp hm
  have hval := D.val
  rw [hval] at h1 hcm
  have ff : ∀ w'', Below w'.heap.size w' w'' → w''.cell? ⟨B1, 0, none⟩ = some (.iface T rv) ∧ w''.cell? ⟨B2, 2, none⟩ = some (.slice (some ⟨bz, off, none⟩) zs.length cap) ∧ w''.cell? ⟨bz, off + i, none⟩ = some (.int .i64 x) ∧ w''.cell? ⟨bz, off + j, none⟩ = some (.int .i64 y) := fun w'' h =>
    ⟨((bel_trans hb h).cell (p := ⟨B1, _, none⟩) l1).trans h1, ((bel_trans hb h).cell (p := ⟨B2, _, none⟩) l3).trans h3, ((bel_trans hb h).cell (p := ⟨bz, _, none⟩) hbz).trans hcx, ((bel_trans hb h).cell (p := ⟨bz, _, none⟩) hbz).trans hcy⟩
  have FF := Lib.hid ff
  have HC := Lib.hid hcm
  clear D hval h1 h3 ff hc hcx hcy hx hy hb ht hN hi hj ha' hb' hcm
  show Calls _ _ #[.int .i64 i, .int .i64 j, .pointer (some ⟨B1, 0, none⟩), .pointer (some ⟨B2, 0, none⟩)] _ _
  go_enter Try.func46, Try.ntmps46
  go_wp2_with fail
  refine wp_region_below (by kernel_rfl) (by kernel_rfl) ?_
  repeat (go_big_quiet_step ((intro hw; first | with_reducible rfl | (obtain ⟨f0, f1, f2, f3⟩ := FF.out _ hw; simp only [f0, f1, f2, f3, Result.andThen]; first | exact ⟨trivial, rfl⟩ | exact ⟨rfl, rfl⟩) | (with_reducible exact quietB (HC.out _) hw))))
  refine wpQuiet_nil ?_
  intro w1 hw1
  go_wp2
  go_ret
  exact ⟨rfl, hw1⟩

set_option maxRecDepth 20000 in
set_option maxHeartbeats 4000000 in
theorem ranksOf (n m a : Int) (es : List Ed) (zs : List Int) (s t : Value) (w : World) (hs : RowE w s es) (ht : Row w t zs) (hl : es.length ≤ 281474976710656) (hl2 : zs.length ≤ 281474976710656) :
    Calls Try.prog 14 #[.agg #[.int .i64 n, s], .agg #[.int .i64 m, .int .i64 a, t]] w fun e w' => ∃ v, e = .returned (.tuple #[v, .bool (vVal n es m a zs)]) ∧ OwnI w w' v (rkR n es m a zs) ∧ Below w.heap.size w w' := by
  obtain ⟨ad, cap, rfl, hz0⟩ := id hs
  obtain ⟨at0, ct, rfl, hz1⟩ := id ht
  clear hz0 hz1
  have hmf : ∀ (fn : Fn) (first cap : Array Value) (w : World), (Instr.makeFunc fn first cap).run Try.prog w = .ok (.func fn first cap) w := fun _ _ _ _ => rfl
  obtain ⟨W, hW⟩ : ∃ W, W = ((w.alloc (.cells #[.int .i64 n, .slice ad es.length cap] 34)).alloc (.cells #[.int .i64 m, .int .i64 a, .slice at0 zs.length ct] 36)) := ⟨_, rfl⟩
  have hbW : Below w.heap.size w W := by rw [hW]; exact ((Below.refl _ _).alloc (Nat.le_refl _) _).alloc (by simp) _
  have hsz : W.heap.size = w.heap.size + 2 := by rw [hW]; simp
  have hov := fun w' (h : Below W.heap.size W w') => opsOfView n m a es zs _ _ w' (hs.keep (bel_trans hbW h)) (ht.keep (bel_trans hbW h)) hl hl2
  have hres : ∀ w', Below W.heap.size W w' → w'.cell? ⟨w.heap.size, 0, none⟩ = some (.int .i64 n) ∧ w'.cell? ⟨w.heap.size, 1, none⟩ = some (.slice ad es.length cap) ∧ w'.cell? ⟨w.heap.size + 1, 0, none⟩ = some (.int .i64 m) ∧ w'.cell? ⟨w.heap.size + 1, 1, none⟩ = some (.int .i64 a) ∧ w'.cell? ⟨w.heap.size + 1, 2, none⟩ = some (.slice at0 zs.length ct) := fun w' h =>
    ⟨(h.cell (p := ⟨w.heap.size, 0, none⟩) (by simp only; omega)).trans (by rw [hW]; go_simp), (h.cell (p := ⟨w.heap.size, 1, none⟩) (by simp only; omega)).trans (by rw [hW]; go_simp), (h.cell (p := ⟨w.heap.size + 1, 0, none⟩) (by simp only; omega)).trans (by rw [hW]; go_simp), (h.cell (p := ⟨w.heap.size + 1, 1, none⟩) (by simp only; omega)).trans (by rw [hW]; go_simp), (h.cell (p := ⟨w.heap.size + 1, 2, none⟩) (by simp only; omega)).trans (by rw [hW]; go_simp)⟩
  have HRES := Lib.hid hres
  have HBW := Lib.hid hbW
  have HSZ := Lib.hid hsz
  have HWE := Lib.hid hW
  have HT := Lib.hid ht
  clear hres hbW hsz hs ht
  unfold rkR
  obtain ⟨Gv, hG⟩ : ∃ G, G = vVal n es m a zs := ⟨_, rfl⟩
  rw [← hG] at hov ⊢
  cases Gv
  · rw [if_neg (by decide)]
    rw [show opsR m false = .nilIface from rfl] at hov
    have HOV := Lib.hid hov
    have AL : Hid (∀ w1 : World, Below w1.heap.size w1 (w1.alloc (.cells #[.nilIface] 71))) := Lib.hid (fun w1 => (Below.refl _ _).alloc (Nat.le_refl _) _)
    clear hov hG
    go_enter Try.func14, Try.ntmps14
    go_wp2_with fail
    rw [← hW]
    clear hW
    obtain ⟨j0, j1, j2, j3, j4⟩ := HRES.out _ (Below.refl _ _)
    go_wp2_with (go_at_call 44; refine (HOV.out _ (Below.refl _ _)).mono ?_; rintro e w1 ⟨rfl, hb1⟩; have HB1 := Lib.hid hb1; have HOX := Lib.hid (Box.new w1 71 #[.nilIface]); clear hb1; clear j0 j1 j2 j3 j4; obtain ⟨j0, j1, j2, j3, j4⟩ := HRES.out _ (bel_trans HB1.out (AL.out w1)))
    go_ret2
    exact ⟨_, rfl, own_nilI _ _, bel_trans HBW.out (bel_trans HB1.out (AL.out w1))⟩
  · rw [if_pos rfl]
    have hp := vVal_pts hG.symm
    obtain ⟨T, rv, fn, fe, fb, fo, fj, rn, re, rb, ro, rj, D⟩ := disp hp.2.2.2.1
    rw [show opsR m true = opsV m from rfl, D.val] at hov
    have hn := gVal_n hp.1
    have HP := Lib.hid hp
    have HVAL := Lib.hid D.val
    have HOV := Lib.hid hov
    have AL : Hid (∀ w1 : World, Below w1.heap.size w1 (w1.alloc (.cells #[.iface T rv] 71))) := Lib.hid (fun w1 => (Below.refl _ _).alloc (Nat.le_refl _) _)
    obtain ⟨N, rfl⟩ := Int.eq_ofNat_of_zero_le (show 0 ≤ n by omega)
    have hzN : zs.length = N := by have := hp.2.2.1; omega
    have HZN := Lib.hid hzN
    have h1N : 1 ≤ N := by omega
    have h12 : N ≤ 12 := by omega
    rw [Int.toNat_natCast]
    clear hov hG D hp hzN
    have heg : ∀ args w, (callFunc 46 args).run Try.prog w = .ok (.enter 46 args) w := enters_of Try.func46 (by kernel_rfl) rfl
    have hmk := run_make_row' (P := Try.prog) 25 3 (.int .i64 0) 8 Try.underlying25 info_int2 rfl .i64 .i64 N (by omega) (by omega)
    go_enter Try.func14, Try.ntmps14
    go_wp2_with fail
    rw [← hW]
    clear hW
    obtain ⟨j0, j1, j2, j3, j4⟩ := HRES.out _ (Below.refl _ _)
    go_wp2_with (go_at_call 44; refine (HOV.out _ (Below.refl _ _)).mono ?_; rintro e w1 ⟨rfl, hb1⟩; have HB1 := Lib.hid hb1; have HOX := Lib.hid (Box.new w1 71 #[.iface T rv]); clear hb1; clear j0 j1 j2 j3 j4; obtain ⟨j0, j1, j2, j3, j4⟩ := HRES.out _ (bel_trans HB1.out (AL.out w1)))
    clear hmk
    have hb1s := HB1.out.size
    have hszs := HSZ.out
    have HCMP : Hid (CmpI 46 #[.pointer (some ⟨w1.heap.size, 0, none⟩), .pointer (some ⟨w.heap.size + 1, 0, none⟩)] (rkC m zs) N (w1.alloc (.cells #[.iface T rv] 71))) := Lib.hid (cmp_ranks m zs (.slice at0 zs.length ct) w1.heap.size (w.heap.size + 1) N (w1.alloc (.cells #[.iface T rv] 71)) HP.out.2.2.2.1 (by rw [HVAL.out]; simpa using HOX.out.cell 0) HOX.out.lt j4 (by simp; omega) (HT.out.keep (bel_trans HBW.out (bel_trans HB1.out (AL.out w1)))) HZN.out h12)
    have HBX : Hid (Below w.heap.size w (w1.alloc (.cells #[.iface T rv] 71))) := Lib.hid (bel_trans HBW.out (bel_trans HB1.out (AL.out w1)))
    have hWX : (w1.alloc (.cells #[.iface T rv] 71)).heap.size = w1.heap.size + 1 := by simp
    have HWX := Lib.hid hWX
    generalize hWXe : (w1.alloc (.cells #[.iface T rv] 71)) = WX at HCMP HBX HWX j0 j1 j2 j3 j4 ⊢
    have HWXE := Lib.hid hWXe
    clear hWX hWXe j0 j1 j2 j3 j4
    have hDe : w1.heap.size + 1 = WX.heap.size := HWX.out.symm
    have HD := Lib.hid hDe
    clear hDe
    go_loopw [23] (fun c wr => ∃ k : Nat, k ≤ N ∧ c = .int .i64 k ∧ wr.rowIs (w1.heap.size + 1) 3 N (partI (ndsL N) k) ∧ Below WX.heap.size WX wr) (fun c _ => N - (intOf c).toNat)
    case atStart => exact ⟨0, Nat.zero_le _, rfl, by rw [HD.out]; exact (World.rowIs_made WX _ _ _).congr (fun i _ => by simp [partI]), (Below.refl _ _).alloc (Nat.le_refl _) _⟩
    case round =>
      obtain ⟨k, hk, rfl, hrow, hbel⟩ := hrel
      by_cases hlt : k < N
      · have hlt' : (k : Int) < N := by omega
        have hst : wr.cell? ⟨w1.heap.size + 1, k, none⟩ = some (partI (ndsL N) k k) := hrow.cell hlt
        have hfr : wr.frozen? ⟨w1.heap.size + 1, k, none⟩ = false := hrow.frozen k
        have HROW : Hid ((wr.setCell ⟨w1.heap.size + 1, k, none⟩ (.int .i64 k)).rowIs (w1.heap.size + 1) 3 N (partI (ndsL N) (k + 1))) := Lib.hid ((hrow.set k _).congr (fun i hi => by
          unfold partI
          by_cases e : i = k
          · subst e; rw [if_pos rfl, if_pos (by omega)]; simp [ndsL, List.getD, hi]
          · rw [if_neg e]
            by_cases h2 : i < k
            · rw [if_pos h2, if_pos (by omega)]
            · rw [if_neg h2, if_neg (by omega)]))
        have HBEL : Hid (Below WX.heap.size WX (wr.setCell ⟨w1.heap.size + 1, k, none⟩ (.int .i64 k))) := Lib.hid (hbel.setCell (by simp only; have := HD.out; omega) _)
        clear hrow hbel
        go_wp2
        go_roundw
        case rel => first | exact ⟨k + 1, by omega, by go_num, HROW.out, HBEL.out⟩ | ((repeat apply Exists.intro); exact ⟨⟨k + 1, by omega, by go_num, HROW.out, HBEL.out⟩, rfl⟩)
        case measure => simp [intOf]; omega
      · have hke : k = N := by omega
        have hkk : ¬ ((k : Int) < N) := by omega
        have hrow2 : wr.rowIs (w1.heap.size + 1) 3 N (cellI (ndsL N)) := hrow.congr (fun i hi => by unfold partI cellI; rw [if_pos (by omega)])
        have hss := sortStable N N (rkB m zs) (rkC m zs) 46 #[.pointer (some ⟨w1.heap.size, 0, none⟩), .pointer (some ⟨w.heap.size + 1, 0, none⟩)] WX (w1.heap.size + 1) wr (fun a b _ _ => rkC_lt m zs a b) heg HCMP.out (by have := HD.out; omega) hbel hrow2 h1N h12
        have HSS := Lib.hid hss
        clear hke hrow hrow2 hbel hss
        go_wp2_with (go_at_call 45; refine HSS.out.mono ?_; rintro e w3 ⟨rfl, hr3, hb3⟩; have H3 := Lib.hid (And.intro hr3 hb3); clear hr3 hb3)
        go_ret2
        have h3s := rowIs_lt H3.out.1
        have h1s := HBX.out.size
        have hln := rkL_len (rkB m zs) N
        have hds := HD.out
        refine ⟨_, rfl, ?_, bel_trans HBX.out H3.out.2⟩
        have := InR.of_rowIs (fz := true) (sz := 1) (n := N) (lo := w.heap.size) (hi := w3.heap.size) H3.out.1 (by omega) (fun i _ => rfl) N (by omega) h3s (Nat.le_refl _)
        unfold OwnI
        rw [hln]
        exact this
end Go.Proofs.Ytneapbggnnndhaa
