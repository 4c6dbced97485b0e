/-
  Proved: the worst measure is the empty path's or one of the others', and none of the others is worse (the law FnWorstOf returns true for every input and leaves it as it was), with no further condition.
-/
import Derived.Test.YtjpikbbpmbeckaaRows
import Derived.Test.YtjpikbbpmbeckaaWstL
import Derived.WalkKit
import Derived.ProofKit
import Derived.OpenShut
import Derived.ShutString
import Derived.ChangeOld
import Derived.Below
namespace Go.Proofs.Ytjpikbbpmbeckaa.fnWorstOf
open Go.Proofs.Ytjpikbbpmbeckaa Go.BigFrame
open Go.ChangeShapes Go.WideShapes Go.ChangeAt Go.RowKit
open Go.ChangeMaps (open_string shut_string)
set_option linter.unusedVariables false

theorem own : ownKnob Try.prog.godebug = none := by kernel_rfl
theorem laidOut : laidOutB Try.prog = true := by kernel_rfl

def IsRow (k : IntKind) (w : World) (a : Option Addr) (len cap : Nat) (zs : List Int) : Prop :=
  (a = none ∧ len = 0 ∧ cap = 0 ∧ zs = []) ∨
  ∃ x, a = some x ∧ len ≤ cap ∧ cap ≤ maxLen ∧ zs.length = cap ∧ (∀ i, i < zs.length → w.cell? (x.add i) = some (.int k (zs.getD i 0))) ∧ ∀ n ∈ zs, (Lit.int k n).wf = true

theorem bytes_of {w : World} {a : Option Addr} {len cap : Nat} {zs : List Int} (h : IsRow .u8 w a len cap zs) : Bytes w a len ∧ len ≤ cap ∧ len ≤ 9223372036854775807 := by
  rcases h with ⟨rfl, rfl, rfl, rfl⟩ | ⟨x, rfl, hl, hm, hz, hc, hw⟩
  · exact ⟨.inl rfl, Nat.le_refl _, by omega⟩
  · unfold maxLen at hm
    refine ⟨?_, hl, by omega⟩
    by_cases h0 : len = 0
    · exact .inl h0
    · obtain ⟨b, off, rfl, hc'⟩ := ints_at hc (by omega)
      exact .inr ⟨b, off, rfl, World.block_lt_of_cell? _ _ (hc' 0 (by omega)), fun i hi => ⟨zs[i]?.getD 0, (range_u8 hw i).1, (range_u8 hw i).2, hc' i (by omega)⟩⟩

theorem walk (a0 : Option Addr) (len0 cap0 : Nat) (z0 : List Int) (w : World) (w0 : IsRow .u8 w a0 len0 cap0 z0) :
    Calls Try.prog 4 #[.slice a0 len0 cap0] w fun e w' => e = .returned (.bool true) ∧ Below w.heap.size w w' := by
  obtain ⟨hby, hcp, hn⟩ := bytes_of w0
  have HB0 := Lib.hid hby
  clear hby w0
  by_cases h0 : 1048576 < len0
  · go_enter Try.func4, Try.ntmps4
    go_wp2
    go_ret
    exact ⟨rfl, Below.refl _ _⟩
  have h0' : len0 ≤ 1048576 := by omega
  clear h0
  go_enter Try.func4, Try.ntmps4
  go_wp2_with fail
  refine (dDrawWorstOf a0 len0 cap0 _ HB0.out hcp (by omega)).mono ?_
  rintro e w1 ⟨m, z, v, a, rfl, hsm, hgr, hok, hb1⟩
  obtain ⟨xa, xc, rfl⟩ : ∃ a c, v = .slice a z.length c := by obtain ⟨-, a, c, e, -⟩ := hgr; exact ⟨a, c, e⟩
  have hbE : Below w1.heap.size w1 (w1.alloc (.cells #[.int .i64 m, .slice xa z.length xc] 33)) := (Below.refl _ _).alloc (Nat.le_refl _) _
  have K2 := Lib.hid (And.intro (bel_trans hb1 hbE) (And.intro (hgr.gridO.keep hbE) (Box.new w1 33 #[.int .i64 m, .slice xa z.length xc])))
  have hl := hsm.1
  have hl1 : z.length ≤ 281474976710656 := by omega
  have hl2 : ∀ i, i < z.length → (z.getD i []).length ≤ 281474976710656 := fun i hi => by have := hsm.2 i hi; omega
  clear hsm hgr hok hb1 hbE
  have hst := fun w h => worstOf m a z (.slice xa z.length xc) w h hl1 hl2
  have hss := fun w h => sWorstOf m a z (.slice xa z.length xc) w h hl1 hl2
  cases hV : wOk m z a
  · rw [show wVal m z a = 0 by unfold wVal; rw [hV]; rfl, hV] at hst hss
    have HST := Lib.hid hst
    have HSS := Lib.hid hss
    clear hst hss
    clear hV
    go_wp2_with fail
    generalize (w1.alloc (.cells #[.int .i64 m, .slice xa z.length xc] 33)) = w2 at K2 ⊢
    have x0_2 : w2.cell? ⟨w1.heap.size, 0, none⟩ = some (.int .i64 m) := by simpa using K2.out.2.2.cell 0
    have x1_2 : w2.cell? ⟨w1.heap.size, 1, none⟩ = some (.slice xa z.length xc) := by simpa using K2.out.2.2.cell 1
    refine (HST.out _ K2.out.2.1).mono ?_
    rintro e w3 ⟨rfl, hb3⟩
    have K3 := Lib.hid (And.intro (bel_trans K2.out.1 hb3) (And.intro (K2.out.2.1.keep hb3) (K2.out.2.2.keep hb3)))
    clear hb3 x0_2 x1_2
    have x0_3 : w3.cell? ⟨w1.heap.size, 0, none⟩ = some (.int .i64 m) := by simpa using K3.out.2.2.cell 0
    have x1_3 : w3.cell? ⟨w1.heap.size, 1, none⟩ = some (.slice xa z.length xc) := by simpa using K3.out.2.2.cell 1
    go_wp2_with fail
    refine (HSS.out _ K3.out.2.1.grid).mono ?_
    rintro e w4 ⟨rfl, hb4⟩
    have K4 := Lib.hid (And.intro (bel_trans K3.out.1 hb4) (And.intro (K3.out.2.1.keep hb4) (K3.out.2.2.keep hb4)))
    clear hb4 x0_3 x1_3
    go_wp2
    go_ret
    exact ⟨rfl, K4.out.1⟩
  · have hp : mVal m z = true ∧ 0 ≤ a ∧ a < z.length := by
      unfold wOk at hV
      rw [Bool.and_eq_true, Bool.and_eq_true, decide_eq_true_eq, decide_eq_true_eq] at hV
      exact ⟨hV.1, hV.2.1, hV.2.2⟩
    obtain ⟨A, rfl⟩ := Int.eq_ofNat_of_zero_le hp.2.1
    have hA : A < z.length := by omega
    have hA' : (A : Int) < z.length := by omega
    obtain ⟨zs, hzs⟩ : ∃ zs, zs = z.getD A [] := ⟨_, rfl⟩
    have hzl : zs.length = z.length := by rw [hzs]; exact (mSq_parts (mVal_parts hp.1).1).2.2 A hA
    obtain ⟨V, hVv⟩ : ∃ V, V = wstTo m zs (A : Nat) zs.length := ⟨_, rfl⟩
    have hwv : wVal m z (A : Nat) = V := by rw [wVal_at hp.1 hA, ← hzs, hVv]; rfl
    have hnone : ∀ k : Nat, k < z.length → ¬ (k : Int) = (A : Nat) → mBet m V (zs.getD k 0) = false := fun k hk hne => by rw [hVv]; exact wst_none _ _ (by omega) hne
    have hsome : smTo V (mOne m) zs (A : Nat) z.length = true := by rw [hVv, ← hzl]; exact wst_some _
    rw [hwv, hV] at hst hss
    have hie := fun w => iEmptyPath m w
    rw [show rEmpty m = mOne m by unfold rEmpty; rw [if_pos (mVal_parts hp.1).2.1], (mVal_parts hp.1).2.1] at hie
    have hib : ∀ (k : Nat), k < z.length → ¬ (k : Int) = (A : Nat) → ∀ w, Calls Try.prog 23 #[.int .i64 m, .int .i64 V, .int .i64 (zs.getD k 0)] w fun e w' => e = .returned (.bool false) ∧ Below w.heap.size w w' := fun k hk hne w => by
      have h9 := iIsBetter m V (zs.getD k 0) w
      rw [show bBet m V (zs.getD k 0) = false by unfold bBet; rw [hnone k hk hne, Bool.and_false]] at h9
      exact h9
    have HIE := Lib.hid hie
    have HIB := Lib.hid hib
    have HSM := Lib.hid hsome
    have HZS := Lib.hid hzs
    have HZL := Lib.hid hzl
    clear hie hib hsome hnone hwv hVv hzs hzl hp hV
    have HST := Lib.hid hst
    have HSS := Lib.hid hss
    clear hst hss
    go_wp2_with fail
    generalize (w1.alloc (.cells #[.int .i64 m, .slice xa z.length xc] 33)) = w2 at K2 ⊢
    have x0_2 : w2.cell? ⟨w1.heap.size, 0, none⟩ = some (.int .i64 m) := by simpa using K2.out.2.2.cell 0
    have x1_2 : w2.cell? ⟨w1.heap.size, 1, none⟩ = some (.slice xa z.length xc) := by simpa using K2.out.2.2.cell 1
    refine (HST.out _ K2.out.2.1).mono ?_
    rintro e w3 ⟨rfl, hb3⟩
    have K3 := Lib.hid (And.intro (bel_trans K2.out.1 hb3) (And.intro (K2.out.2.1.keep hb3) (K2.out.2.2.keep hb3)))
    clear hb3 x0_2 x1_2
    have x0_3 : w3.cell? ⟨w1.heap.size, 0, none⟩ = some (.int .i64 m) := by simpa using K3.out.2.2.cell 0
    have x1_3 : w3.cell? ⟨w1.heap.size, 1, none⟩ = some (.slice xa z.length xc) := by simpa using K3.out.2.2.cell 1
    go_wp2_with fail
    refine (HSS.out _ K3.out.2.1.grid).mono ?_
    rintro e w4 ⟨rfl, hb4⟩
    have K4 := Lib.hid (And.intro (bel_trans K3.out.1 hb4) (And.intro (K3.out.2.1.keep hb4) (K3.out.2.2.keep hb4)))
    clear hb4 x0_3 x1_3
    have hff : ∃ (gb go rb ro rc : Nat), xa = some ⟨gb, go, none⟩ ∧ ∀ w', Below w4.heap.size w4 w' → (w'.cell? ⟨w1.heap.size, 0, none⟩ = some (.int .i64 m) ∧ w'.cell? ⟨w1.heap.size, 1, none⟩ = some (.slice xa z.length xc) ∧ w'.cell? ⟨gb, go + A, none⟩ = some (.slice (some ⟨rb, ro, none⟩) z.length rc)) ∧ ∀ k : Nat, k < z.length → w'.cell? ⟨rb, ro + k, none⟩ = some (.int .i64 (zs.getD k 0)) := by
      obtain ⟨ga, gc, hge, hgz⟩ := K4.out.2.1
      injection hge with e1 e2 e3
      rcases hgz with hgz | ⟨gb, go, T, rfl, hgb, hc⟩
      · rw [hgz] at hA; simp at hA
      have hr := InR.of_row (hc A hA).2.1
      rw [← HZS.out, HZL.out] at hr
      obtain ⟨ra, rc, hT, hz⟩ := hr
      rcases hz with hz | ⟨rb, ro, rfl, h1, h2, h3, hrc⟩
      · omega
      refine ⟨gb, go, rb, ro, rc, e1, fun w' h => ⟨⟨by simpa using (K4.out.2.2.keep h).cell 0, by simpa using (K4.out.2.2.keep h).cell 1, ?_⟩, fun k hk => ?_⟩⟩
      · exact (h.cell (p := ⟨gb, go + A, none⟩) hgb).trans ((hc A hA).1.trans (by rw [hT]))
      · exact (h.cell (p := ⟨rb, ro + k, none⟩) (by simp only; omega)).trans (hrc k (by omega)).1
    obtain ⟨gb, go, rb, ro, rc, rfl, hff⟩ := hff
    have FF := Lib.hid hff
    clear hff
    obtain ⟨⟨x0_4, x1_4, x2_4⟩, -⟩ := FF.out w4 (Below.refl _ _)
    go_wp2_with fail
    refine (HIE.out _).mono ?_
    rintro e w5 ⟨rfl, hb5⟩
    have HB5 := Lib.hid hb5
    clear hb5 x0_4 x1_4 x2_4
    obtain ⟨⟨x0_5, x1_5, x2_5⟩, -⟩ := FF.out w5 HB5.out
    go_wp2_with fail
    go_loopw [11, 12] (fun s c wr => ∃ k : Nat, k ≤ z.length ∧ s = .bool (smTo V (mOne m) zs (A : Nat) k) ∧ c = .int .i64 k ∧ Hid (Below w4.heap.size w4 wr)) (fun _ c _ => z.length - (intOf c).toNat)
    case atStart => exact ⟨0, Nat.zero_le _, by unfold smTo; simp; exact beq_dec9 _ _, rfl, HB5⟩
    case round =>
      obtain ⟨k, hk, rfl, rfl, HBW⟩ := hrel
      clear x0_5 x1_5 x2_5
      obtain ⟨⟨x0, x1, x2⟩, hrow⟩ := FF.out wr HBW.out
      by_cases hlt : k < z.length
      · have hlt' : (k : Int) < z.length := by omega
        have x3 := hrow k hlt
        clear hrow
        by_cases hne : k = A
        · subst hne
          go_wp2
          go_roundw
          case rel => first | exact ⟨k + 1, by omega, by rw [smTo_eq], by go_num, HBW⟩ | ((repeat apply Exists.intro); exact ⟨⟨k + 1, by omega, by rw [smTo_eq], by go_num, HBW⟩, rfl⟩) | exact ⟨_, ⟨k + 1, by omega, by rw [smTo_eq], by go_num, HBW⟩, rfl⟩
          case measure => simp [intOf]; omega
        · have hne' : ¬ (k : Int) = (A : Nat) := by omega
          have hib := HIB.out k hlt hne'
          have HI := Lib.hid hib
          clear hib
          have HSU := Lib.hid (show smTo V (mOne m) zs (A : Nat) (k + 1) = (smTo V (mOne m) zs (A : Nat) k || decide (zs.getD k 0 = V)) from smTo_ne hne')
          obtain ⟨y, hy⟩ : ∃ y, y = zs.getD k 0 := ⟨_, rfl⟩
          have X3 := Lib.hid hy.symm
          rw [← hy] at x3 HI HSU
          obtain ⟨b, hb⟩ : ∃ b, b = smTo V (mOne m) zs (A : Nat) k := ⟨_, rfl⟩
          rw [← hb] at HSU ⊢
          clear hy hb
          have hgg : ∀ w', Below wr.heap.size wr w' → (w'.cell? ⟨w1.heap.size, 0, none⟩ = some (.int .i64 m) ∧ w'.cell? ⟨w1.heap.size, 1, none⟩ = some (.slice (some ⟨gb, go, none⟩) z.length xc) ∧ w'.cell? ⟨gb, go + A, none⟩ = some (.slice (some ⟨rb, ro, none⟩) z.length rc) ∧ w'.cell? ⟨rb, ro + k, none⟩ = some (.int .i64 y)) := fun w' h => by
            obtain ⟨⟨f0, f1, f2⟩, f3⟩ := FF.out w' (bel_trans HBW.out h)
            exact ⟨f0, f1, f2, by rw [f3 k hlt, X3.out]⟩
          have GG := Lib.hid hgg
          clear hgg
          cases b
          · go_wp2_with fail
            refine wp_region_below (by kernel_rfl) (by kernel_rfl) ?_
            repeat (go_big_quiet_step ((intro hw; first | with_reducible rfl | (obtain ⟨f0, f1, f2, f3⟩ := GG.out _ hw; simp only [f0, f1, f2, f3, Result.andThen]; first | exact ⟨trivial, rfl⟩ | exact ⟨rfl, rfl⟩) | (go_at_call 23; exact quietB (HI.out _) hw))))
            refine wpQuiet_nil ?_
            intro w9 hb9
            have HB9 := Lib.hid (bel_trans HBW.out hb9)
            go_wp2
            go_roundw
            case rel => first | exact ⟨k + 1, by omega, by first | (rw [HSU.out]; simp; done) | (rw [HSU.out]; simp; exact beq_dec9 _ _), by go_num, HB9⟩ | ((repeat apply Exists.intro); exact ⟨⟨k + 1, by omega, by first | (rw [HSU.out]; simp; done) | (rw [HSU.out]; simp; exact beq_dec9 _ _), by go_num, HB9⟩, rfl⟩) | exact ⟨_, ⟨k + 1, by omega, by first | (rw [HSU.out]; simp; done) | (rw [HSU.out]; simp; exact beq_dec9 _ _), by go_num, HB9⟩, rfl⟩
            case measure => simp [intOf]; omega
          · go_wp2_with fail
            refine wp_region_below (by kernel_rfl) (by kernel_rfl) ?_
            repeat (go_big_quiet_step ((intro hw; first | with_reducible rfl | (obtain ⟨f0, f1, f2, f3⟩ := GG.out _ hw; simp only [f0, f1, f2, f3, Result.andThen]; first | exact ⟨trivial, rfl⟩ | exact ⟨rfl, rfl⟩) | (go_at_call 23; exact quietB (HI.out _) hw))))
            refine wpQuiet_nil ?_
            intro w9 hb9
            have HB9 := Lib.hid (bel_trans HBW.out hb9)
            go_wp2
            go_roundw
            case rel => first | exact ⟨k + 1, by omega, by first | (rw [HSU.out]; simp; done) | (rw [HSU.out]; simp; exact beq_dec9 _ _), by go_num, HB9⟩ | ((repeat apply Exists.intro); exact ⟨⟨k + 1, by omega, by first | (rw [HSU.out]; simp; done) | (rw [HSU.out]; simp; exact beq_dec9 _ _), by go_num, HB9⟩, rfl⟩) | exact ⟨_, ⟨k + 1, by omega, by first | (rw [HSU.out]; simp; done) | (rw [HSU.out]; simp; exact beq_dec9 _ _), by go_num, HB9⟩, rfl⟩
            case measure => simp [intOf]; omega
      · have hke : k = z.length := by omega
        subst hke
        have hbe := HSM.out
        rw [HSM.out]
        go_wp2
        go_ret
        exact ⟨rfl, bel_trans K4.out.1 HBW.out⟩

set_option maxRecDepth 100000 in
theorem lifted (os : Os) (started : os.Started) (H : Type) (enc : TypeId × Value → H) :
    ReturnsInHanded {} Try.checked os 4 .any (Rows.fnWorstOfSpec.pre6 enc Try.prog Try.f4 Rows.fnWorstOfRow.domain false) (Rows.fnWorstOfSpec.post enc Try.prog Try.f4 false true false false) := by
  refine returnsInHanded_of_change (C := Try.checked) own started (by kernel_rfl) Try.func4
    (ChangeSpec.witness6 (enc := enc) (C := Try.checked) false ⟨#[], #[.slice none 0 0], []⟩ 8 (by kernel_rfl) (by kernel_rfl) (by kernel_rfl) (by kernel_rfl)) ?_
  intro W base args ds gs before hval0 hW hcnd _
  have hval : ∀ (j : Nat) t v, Try.f4.params[j]? = some t → args[j]? = some v → Value.okWide Try.prog W .any base t v := hval0
  have hW' := hW
  obtain ⟨p, q, hA0, hV, rfl, hfz, hnd⟩ := hW
  have hA : DataW.TrodAll enc Try.prog W 0 (fun _ => true) true Try.f4.params.toList args.toList ds p := hA0
  rw [Try.params4] at hA hval
  obtain ⟨v0, vs0, d0, ds0, p0, q0, hargs, rfl, rfl, h0, r0⟩ := trodAll_cons hA
  obtain ⟨rfl, rfl, rfl⟩ := trodAll_nil r0
  obtain rfl : args = #[v0] := by cases args; simp_all
  obtain ⟨rfl, rfl⟩ := trodVars_none hV
  obtain ⟨a0, len0, cap0, rfl⟩ := okWide_slice Try.underlying22 (hval 0 22 v0 rfl rfl)
  have k0 := h0
  have lt0 : ∀ x ∈ p0, x.block < W.heap.size := by obtain ⟨m, hm⟩ := k0; exact DataW.trod_lt m _ _ _ hm
  obtain ⟨z0, w0⟩ : ∃ zs, IsRow .u8 W a0 len0 cap0 zs := by
    obtain ⟨fuel, hf⟩ := h0
    rcases open_ints Try.underlying22 Try.underlying5 (by kernel_rfl) hf with ⟨hcs, _⟩ | ⟨x, l, c, zs, hcs, _, hl, hm, hz, _, hcell, hwz⟩
    · simp [Value.cells] at hcs
      obtain ⟨rfl, rfl, rfl⟩ := hcs
      exact ⟨[], .inl ⟨rfl, rfl, rfl, rfl⟩⟩
    · simp [Value.cells] at hcs
      obtain ⟨rfl, rfl, rfl⟩ := hcs
      exact ⟨zs, .inr ⟨_, rfl, hl, hm, by simpa using hz, hcell, hwz⟩⟩
  clear hA0 hval0
  refine (walk a0 len0 cap0 z0 W w0).mono fun e W' ⟨he, bel⟩ => ?_
  subst he
  exact ⟨_, rfl, _, _, _, [], _, [], hW', trodAll_mk1 (shut_bool Try.underlying4 _), (trodAll_cons_mk (Below.trod laidOut (by kernel_rfl) (of_decide_eq_true (by kernel_rfl)) k0 bel lt0) trodAll_mk0), rfl, bel.frame _, fun h => by cases h⟩

theorem over : Rows.fnWorstOfRow.holds Try.pinned (OpenSpec.ofChange Rows.fnWorstOfSpec) :=
  OpenClaim.holds_of_wide 4 Try.f4 rfl rfl rfl rfl rfl rfl rfl ⟨rfl, rfl, rfl, rfl, rfl⟩ rfl rfl rfl rfl rfl (by kernel_rfl) Try.func4 (by kernel_rfl)
    (of_decide_eq_true (by kernel_rfl)) (by unfold Func.isWrapper; first | (rw [if_pos (by decide +kernel)]; kernel_rfl) | (rw [if_neg (by decide +kernel)]; exact ⟨rfl, rfl⟩))
    (fun os started H enc _ => lifted os started H enc)

theorem proved : Rows.FnWorstOfSaid := over
end Go.Proofs.Ytjpikbbpmbeckaa.fnWorstOf
