/- ReverseGraph, in the model. -/
import Derived.Test.YtaoecegnjhbagaaRevI
import Derived.Test.YtaoecegnjhbagaaPutT
namespace Go.Proofs.Ytaoecegnjhbagaa
open Go.RowKit Go.BigFrame Go.Deep
set_option linter.unusedVariables false
set_option linter.unusedSimpArgs false

/-- The graph that is being made, in a block. -/
def RvAt (w wr : World) (n : Int) (L : List Ed) : Prop :=
  ∃ va vc, Box wr (w.heap.size + 1 + 1) 25 #[.int .i64 n, .slice va L.length vc] ∧ InR true wr (w.heap.size + 3) wr.heap.size (.slice va L.length vc) L.length 3 (cellE L) ∧ okS (.slice va L.length vc)

set_option maxRecDepth 20000 in
set_option maxHeartbeats 4000000 in
theorem l2Reverse (n : Int) (es : List Ed) (s : Value) (w : World) (hs : RowE w s es) (hl : es.length ≤ 1048576) (hg : gVal n es = true) :
    Calls Try.prog 60 #[.agg #[.int .i64 n, s]] w fun e w' => ∃ v, e = .returned (.agg #[.int .i64 n, v]) ∧ OwnE w w' v (rvL es) ∧ okS v ∧ Below w.heap.size w w' := by
  obtain ⟨ad, cap, hs0, hz0⟩ := id hs
  subst hs0
  have hb3 : Below w.heap.size w (((w.alloc (.cells #[.int .i64 n, .slice ad es.length cap] 25)).alloc (.cells #[.int .i64 0, .slice none 0 0] 25)).alloc (.cells #[.int .i64 n, .slice none 0 0] 25)) := (((Below.refl _ _).alloc (Nat.le_refl _) _).alloc (by simp) _).alloc (by simp <;> omega) _
  have hx0 : Box (((w.alloc (.cells #[.int .i64 n, .slice ad es.length cap] 25)).alloc (.cells #[.int .i64 0, .slice none 0 0] 25)).alloc (.cells #[.int .i64 n, .slice none 0 0] 25)) w.heap.size 25 #[.int .i64 n, .slice ad es.length cap] := ((Box.new w _ _).alloc _).alloc _
  have hx1 : Box (((w.alloc (.cells #[.int .i64 n, .slice ad es.length cap] 25)).alloc (.cells #[.int .i64 0, .slice none 0 0] 25)).alloc (.cells #[.int .i64 n, .slice none 0 0] 25)) (w.heap.size + 1) 25 #[.int .i64 0, .slice none 0 0] := by
    have := (Box.new (w.alloc (.cells #[.int .i64 n, .slice ad es.length cap] 25)) 25 #[.int .i64 0, .slice none 0 0]).alloc (.cells #[.int .i64 n, .slice none 0 0] 25)
    simpa using this
  have hx2 : Box (((w.alloc (.cells #[.int .i64 n, .slice ad es.length cap] 25)).alloc (.cells #[.int .i64 0, .slice none 0 0] 25)).alloc (.cells #[.int .i64 n, .slice none 0 0] 25)) (w.heap.size + 1 + 1) 25 #[.int .i64 n, .slice none 0 0] := by
    have := Box.new ((w.alloc (.cells #[.int .i64 n, .slice ad es.length cap] 25)).alloc (.cells #[.int .i64 0, .slice none 0 0] 25)) 25 #[.int .i64 n, .slice none 0 0]
    simpa using this
  have K0 := Lib.hid (And.intro hb3 (And.intro hx0 hx1))
  have R0 : Hid (RvAt w (((w.alloc (.cells #[.int .i64 n, .slice ad es.length cap] 25)).alloc (.cells #[.int .i64 0, .slice none 0 0] 25)).alloc (.cells #[.int .i64 n, .slice none 0 0] 25)) n []) := Lib.hid ⟨none, 0, hx2, ⟨none, 0, rfl, .inl rfl⟩, okS_nil⟩
  have HZ := Lib.hid hz0
  have HG := Lib.hid hg
  clear hb3 hx0 hx1 hx2 hz0 hs hg
  go_enter Try.func60, Try.ntmps60
  go_wp2
  generalize (((w.alloc (.cells #[.int .i64 n, .slice ad es.length cap] 25)).alloc (.cells #[.int .i64 0, .slice none 0 0] 25)).alloc (.cells #[.int .i64 n, .slice none 0 0] 25)) = v0 at K0 R0 ⊢
  go_loopw [4] (fun c wr => ∃ k : Nat, k ≤ es.length ∧ c = .int .i64 k ∧ Hid (RvAt w wr n (rvK es k)) ∧ Hid (Below w.heap.size w wr ∧ Box wr w.heap.size 25 #[.int .i64 n, .slice ad es.length cap] ∧ Box wr (w.heap.size + 1) 25 #[.int .i64 0, .slice none 0 0])) (fun c _ => es.length - (intOf c).toNat)
  case atStart => exact ⟨0, Nat.zero_le _, rfl, R0, K0⟩
  case round =>
    obtain ⟨k, hk, rfl, HR, HX⟩ := hrel
    obtain ⟨va, vc, hbx, hin, hok⟩ := HR.out
    have x1 : wr.cell? ⟨w.heap.size, 1, none⟩ = some (.slice ad es.length cap) := by simpa using HX.out.2.1.cell 1
    have g0 : wr.cell? ⟨w.heap.size + 1 + 1, 0, none⟩ = some (.int .i64 n) := by simpa using hbx.cell 0
    have g1 : wr.cell? ⟨w.heap.size + 1 + 1, 1, none⟩ = some (.slice va (rvK es k).length vc) := by simpa using hbx.cell 1
    have HBX := Lib.hid hbx
    have HIN := Lib.hid hin
    clear hbx hin hok
    by_cases hlt : k < es.length
    · have hlt' : (k : Int) < es.length := by omega
      rcases HZ.out with h0 | ⟨b, off, rfl, hb, hc⟩
      · rw [h0] at hlt; simp at hlt
      obtain ⟨x, y, z, hx⟩ : ∃ x y z, (x, y, z) = es.getD k (0, 0, 0) := ⟨_, _, _, rfl⟩
      obtain ⟨c0, c1, c2⟩ := hc k hlt
      rw [← HX.out.1.cell (p := ⟨b, _, none⟩) hb, ← hx] at c0 c1 c2
      simp only at c0 c1 c2
      have hval := rvK_val HG.out k
      have hsucc := rvK_succ es hlt
      rw [← hx] at hsucc
      have hins := insL_val hval.1 (y, x, z)
      simp only at hins
      have hL : insL (y, x, z) (cutL (rvK es k) y x) = rvK es (k + 1) := by rw [hsucc]; exact hins
      have hpu := fun w' (h : Below wr.heap.size wr w') => l2Put n (rvK es k) y x z (.slice va (rvK es k).length vc) w' (HIN.out.keep h).edges (by have := hval.2; omega)
      rw [hL] at hpu
      have HPU := Lib.hid hpu
      clear hc hx hval hsucc hins hL hpu
      go_wp2
      refine wp_region_tail 20 (by kernel_rfl) (by kernel_rfl) ?_
      simp only [List.take_succ_cons, List.take_zero, List.drop_succ_cons, List.drop_zero]
      repeat (go_big_quiet_step (fail))
      refine wpQuiet_nil ?_
      go_wp2_with fail
      refine (HPU.out _ ((Below.refl _ _).drew)).mono ?_
      rintro e w1 ⟨v, rfl, hown, hok, hb1⟩
      obtain ⟨ua, uc, rfl, hz9⟩ := id hown
      clear hz9
      have hbw : Below wr.heap.size wr w1 := bel_trans ((Below.refl _ _).drew) hb1
      have HB1 := Lib.hid hbw
      have HOW := Lib.hid hown
      have HOK := Lib.hid hok
      have y0 : w1.cell? ⟨w.heap.size + 1 + 1, 0, none⟩ = some (.int .i64 n) := by simpa using (HBX.out.keep hbw).cell 0
      have y1 : w1.cell? ⟨w.heap.size + 1 + 1, 1, none⟩ = some (.slice va (rvK es k).length vc) := by simpa using (HBX.out.keep hbw).cell 1
      have f0 := (HBX.out.keep hbw).frozen 0
      have f1 := (HBX.out.keep hbw).frozen 1
      clear hbw hb1 hown hok
      go_wp2
      go_roundw
      case rel =>
        have hsz : w.heap.size + 3 ≤ wr.heap.size := HBX.out.lt
        have hch : ∀ u0 u1, Chg (w.heap.size + 1 + 1) (w.heap.size + 3) w1 ((w1.setCell ⟨w.heap.size + 1 + 1, 0, none⟩ u0).setCell ⟨w.heap.size + 1 + 1, 1, none⟩ u1) := fun u0 u1 => ((Chg.refl _ _ _).setCell (by simp only; omega) (by simp only; omega) _).setCell (by simp only; omega) (by simp only; omega) _
        have hbx2 := ((HBX.out.keep HB1.out).set 0 (.int .i64 n)).set 1 (.slice ua (rvK es (k + 1)).length uc)
        exact ⟨k + 1, by omega, by go_num, Lib.hid ⟨ua, uc, by simpa using hbx2, by
            have h1 := (InR.chg HOW.out (hch (.int .i64 n) (.slice ua (rvK es (k + 1)).length uc)) (.inl (by simp; omega))).wider (l := w.heap.size + 3) (h := w1.heap.size) (by simp; omega) (by simp) (by simp)
            simpa using h1, HOK.out⟩, Lib.hid ⟨((bel_trans HX.out.1 HB1.out).setCell (by simp only; omega) _).setCell (by simp only; omega) _, ((HX.out.2.1.keep HB1.out).setOther (by omega) _ _).setOther (by omega) _ _, ((HX.out.2.2.keep HB1.out).setOther (by omega) _ _).setOther (by omega) _ _⟩⟩
      case measure => simp [intOf]; omega
    · have hke : k = es.length := by omega
      have hkk : ¬ ((k : Int) < es.length) := by omega
      have hall : rvK es k = rvL es := by rw [hke, rvK_all]
      have HA := Lib.hid hall
      have h10 : wr.cell? ⟨w.heap.size + 1, 0, none⟩ = some (.int .i64 0) := by simpa using HX.out.2.2.cell 0
      have h11 : wr.cell? ⟨w.heap.size + 1, 1, none⟩ = some (.slice none 0 0) := by simpa using HX.out.2.2.cell 1
      have f0 := HX.out.2.2.frozen 0
      have f1 := HX.out.2.2.frozen 1
      obtain ⟨va2, vc2, hbx2, hin2, hok2⟩ := HR.out
      have HOK := Lib.hid hok2
      have e9 : va2 = va ∧ vc2 = vc := by
        have h1 := hbx2.cell 1
        have h2 := HBX.out.cell 1
        rw [h1] at h2
        simpa using h2
      obtain ⟨rfl, rfl⟩ := e9
      clear hke hall hbx2 hin2 hok2
      go_wp2
      try simp only [Exit.inBlock, Exit.then]
      refine bodyPost_ret (v := .agg #[.int .i64 n, .slice va2 (rvK es k).length vc2]) ?_ rfl ?_
      · rw [results_cell1 rfl]
        go_simp
      have hsz : w.heap.size + 3 ≤ wr.heap.size := HBX.out.lt
      have hch : ∀ u0 u1, Chg (w.heap.size + 1) (w.heap.size + 2) wr ((wr.setCell ⟨w.heap.size + 1, 0, none⟩ u0).setCell ⟨w.heap.size + 1, 1, none⟩ u1) := fun u0 u1 => ((Chg.refl _ _ _).setCell (by simp only; omega) (by simp only; omega) _).setCell (by simp only; omega) (by simp only; omega) _
      refine ⟨_, rfl, ?_, HOK.out, bel_chg HX.out.1 (hch _ _) (by omega)⟩
      have h1 := (HIN.out.chg (hch (.int .i64 n) (.slice va2 (rvK es k).length vc2)) (.inl (by omega))).wider (l := w.heap.size) (h := ((wr.setCell ⟨w.heap.size + 1, 0, none⟩ (.int .i64 n)).setCell ⟨w.heap.size + 1, 1, none⟩ (.slice va2 (rvK es k).length vc2)).heap.size) (by omega) (by simp) (Nat.le_refl _)
      rw [← HA.out]
      exact h1

end Go.Proofs.Ytaoecegnjhbagaa
