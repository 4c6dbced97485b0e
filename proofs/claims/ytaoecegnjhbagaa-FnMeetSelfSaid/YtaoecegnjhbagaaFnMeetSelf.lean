/-
  Proved: a node meets itself by the empty path, and along the turned edges the same value is found (the law FnMeetSelf returns true for every input and leaves it as it was), with no further condition.
-/
import Derived.Test.YtaoecegnjhbagaaRows
import Derived.Test.YtaoecegnjhbagaaTarget
import Derived.Test.YtaoecegnjhbagaaImpl2
import Derived.Test.YtaoecegnjhbagaaMeetV
import Derived.Test.YtaoecegnjhbagaaStartL
import Derived.WalkKit
import Derived.ProofKit
import Derived.OpenShut
import Derived.ShutString
import Derived.ChangeOld
import Derived.Below
namespace Go.Proofs.Ytaoecegnjhbagaa.fnMeetSelf
open Go.Proofs.Ytaoecegnjhbagaa Go.BigFrame
open Go.ChangeShapes Go.WideShapes Go.ChangeAt Go.RowKit
open Go.ChangeMaps (open_string shut_string)
set_option linter.unusedVariables false

theorem own : ownKnob Try.prog.godebug = none := by kernel_rfl
theorem laidOut : laidOutB Try.prog = true := by kernel_rfl

def IsRow (k : IntKind) (w : World) (a : Option Addr) (len cap : Nat) (zs : List Int) : Prop :=
  (a = none ∧ len = 0 ∧ cap = 0 ∧ zs = []) ∨
  ∃ x, a = some x ∧ len ≤ cap ∧ cap ≤ maxLen ∧ zs.length = cap ∧ (∀ i, i < zs.length → w.cell? (x.add i) = some (.int k (zs.getD i 0))) ∧ ∀ n ∈ zs, (Lit.int k n).wf = true

theorem bytes_of {w : World} {a : Option Addr} {len cap : Nat} {zs : List Int} (h : IsRow .u8 w a len cap zs) : Bytes w a len ∧ len ≤ cap ∧ len ≤ 9223372036854775807 := by
  rcases h with ⟨rfl, rfl, rfl, rfl⟩ | ⟨x, rfl, hl, hm, hz, hc, hw⟩
  · exact ⟨.inl rfl, Nat.le_refl _, by omega⟩
  · unfold maxLen at hm
    refine ⟨?_, hl, by omega⟩
    by_cases h0 : len = 0
    · exact .inl h0
    · obtain ⟨b, off, rfl, hc'⟩ := ints_at hc (by omega)
      exact .inr ⟨b, off, rfl, World.block_lt_of_cell? _ _ (hc' 0 (by omega)), fun i hi => ⟨zs[i]?.getD 0, (range_u8 hw i).1, (range_u8 hw i).2, hc' i (by omega)⟩⟩

theorem walk (a0 : Option Addr) (len0 cap0 : Nat) (z0 : List Int) (w : World) (w0 : IsRow .u8 w a0 len0 cap0 z0) :
    Calls Try.prog 10 #[.slice a0 len0 cap0] w fun e w' => e = .returned (.bool true) ∧ Below w.heap.size w w' := by
  obtain ⟨hby, hcp, hn⟩ := bytes_of w0
  have HB0 := Lib.hid hby
  clear hby w0
  by_cases h0 : 1048576 < len0
  · go_enter Try.func10, Try.ntmps10
    go_wp2
    go_ret
    exact ⟨rfl, Below.refl _ _⟩
  have h0' : len0 ≤ 1048576 := by omega
  clear h0
  obtain ⟨w0, hw0⟩ : ∃ w0, w0 = w := ⟨_, rfl⟩
  subst hw0
  have H0 := Below.refl w0.heap.size w0
  go_enter Try.func10, Try.ntmps10
  go_wp2_with fail
  refine (dDrawMeetInMiddle a0 len0 cap0 _ HB0.out hcp (by omega)).mono ?_
  rintro e w1 ⟨n, es, v, m, src, tgt, rfl, hle, hrow, hok, hb1⟩
  have H1 := bel_trans H0 hb1
  have SZ1 := Lib.hid hb1.size
  obtain ⟨va, vc, rfl, hz9⟩ := id hrow
  have HOKG := Lib.hid hok
  clear hz9 hok
  have G_1 := Lib.hid (hrow)
  clear hrow
  go_wp2_with fail
  have hb2 : Below w1.heap.size w1 (w1.alloc (.cells #[.int .i64 n, .slice va es.length vc] 25)) := (Below.refl _ _).alloc (by simp <;> omega) _
  have H2 := bel_trans H1 hb2
  have SZ2 := Lib.hid hb2.size
  have G_2 := Lib.hid (G_1.out.keep hb2)
  have qg0_2 : (w1.alloc (.cells #[.int .i64 n, .slice va es.length vc] 25)).cell? ⟨w1.heap.size, 0, none⟩ = some (.int .i64 n) := by go_simp
  have qg1_2 : (w1.alloc (.cells #[.int .i64 n, .slice va es.length vc] 25)).cell? ⟨w1.heap.size, 1, none⟩ = some (.slice va es.length vc) := by go_simp
  have zg_2 : w1.heap.size < (w1.alloc (.cells #[.int .i64 n, .slice va es.length vc] 25)).heap.size := by simp <;> omega
  generalize (w1.alloc (.cells #[.int .i64 n, .slice va es.length vc] 25)) = w2 at hb2 H2 SZ2 G_2 qg0_2 qg1_2 zg_2 ⊢
  have ZBg := Lib.hid zg_2
  clear G_1
  have hle2 : es.length ≤ 1048576 := by omega
  have hle3 : es.length ≤ 281474976710656 := by omega
  have hst := fun s w (h : RowE w s es) => meetInMiddle n m src tgt es s w h hle2
  have hss := fun s w (h : RowE w s es) => sMeetInMiddle n m src tgt es s w h hle2
  cases hk : onOk n es m [src, tgt]
  · have e1 : (mmR n es m src tgt).1 = 0 := by unfold mmR; rw [hk]; rfl
    have e2 : (mmR n es m src tgt).2 = 0 := by unfold mmR; rw [hk]; rfl
    rw [e1, e2, hk] at hst hss
    have HST := Lib.hid hst
    have HSS := Lib.hid hss
    clear hst hss hk e1 e2
    go_wp2_with fail
    refine (HST.out _ _ G_2.out.edges).mono ?_
    rintro e w3 ⟨rfl, hb3⟩
    have H3 := bel_trans H2 hb3
    have SZ3 := Lib.hid hb3.size
    have qg0_3 := (hb3.cell (p := ⟨w1.heap.size, 0, none⟩) zg_2).trans qg0_2
    have qg1_3 := (hb3.cell (p := ⟨w1.heap.size, 1, none⟩) zg_2).trans qg1_2
    have zg_3 := Nat.lt_of_lt_of_le zg_2 hb3.size
    have G_3 := Lib.hid (G_2.out.keep hb3)
    clear zg_2 qg1_2 qg0_2 G_2
    go_wp2_with fail
    refine (HSS.out _ _ G_3.out.edges).mono ?_
    rintro e w4 ⟨rfl, hb4⟩
    have H4 := bel_trans H3 hb4
    have SZ4 := Lib.hid hb4.size
    have qg0_4 := (hb4.cell (p := ⟨w1.heap.size, 0, none⟩) zg_3).trans qg0_3
    have qg1_4 := (hb4.cell (p := ⟨w1.heap.size, 1, none⟩) zg_3).trans qg1_3
    have zg_4 := Nat.lt_of_lt_of_le zg_3 hb4.size
    have G_4 := Lib.hid (G_3.out.keep hb4)
    clear qg0_3 qg1_3 zg_3 G_3
    go_wp2
    go_ret
    exact ⟨rfl, H4⟩
  · obtain ⟨hgv, hsr, htr, hmk⟩ := onOk_two hk
    have h12 := (gVal_iff.1 hgv).1.2.1
    obtain ⟨hv1, hv2⟩ := mmR_val hgv hsr htr hmk
    obtain ⟨T, hT⟩ : ∃ T, T = (mmR n es m src tgt).2 := ⟨_, rfl⟩
    obtain ⟨L, hL⟩ : ∃ L, L = vRt m n es src := ⟨_, rfl⟩
    rw [← hT, ← hL] at hv2
    rw [hv1, ← hL, ← hT, hk] at hst hss
    clear hv1 hT
    obtain ⟨V, hV⟩ : ∃ V, V = L.getD tgt.toNat 0 := ⟨_, rfl⟩
    rw [← hV] at hst hss
    have hs2 := (mmR_val hgv hsr hsr hmk).1
    rw [vRt_src hmk (eAll_of hgv) hsr.1 (by omega)] at hs2
    obtain ⟨T2, hT2⟩ : ∃ T2, T2 = (mmR n es m src src).2 := ⟨_, rfl⟩
    have hse := fun s w (h : RowE w s es) => meetInMiddle n m src src es s w h hle2
    rw [hs2, ← hT2, onOk_two2 hgv hsr hsr hmk] at hse
    have HSE := Lib.hid hse
    clear hse hs2 hT2
    have hrg := fun s w (h : RowE w s es) => reverseGraph n es s w h hle2
    rw [show rgN n es = n by unfold rgN; rw [if_pos hgv], show rgL n es = rvL es by unfold rgL; rw [if_pos hgv], hgv] at hrg
    have HRG := Lib.hid hrg
    clear hrg
    have hrl : (rvL es).length ≤ 1048576 := by have := (rvL_val hgv).2.2; omega
    have hrf := (rev_facts hgv).1
    have hr2 := (mmR_val hrf htr hsr hmk).1
    rw [rt_rev2 hgv hsr htr hmk, ← hL, ← hV] at hr2
    obtain ⟨T3, hT3⟩ : ∃ T3, T3 = (mmR n (rvL es) m tgt src).2 := ⟨_, rfl⟩
    have hre := fun s w (h : RowE w s (rvL es)) => meetInMiddle n m tgt src (rvL es) s w h hrl
    rw [hr2, ← hT3, onOk_two2 hrf htr hsr hmk] at hre
    have HRE := Lib.hid hre
    clear hre hr2 hT3 hrf
    obtain ⟨R, hR⟩ : ∃ R, R = rvL es := ⟨_, rfl⟩
    rw [← hR] at HRG HRE hrl
    have HST := Lib.hid hst
    have HSS := Lib.hid hss
    have HMK := Lib.hid hmk
    clear hst hss hk hgv hmk hv2 hL htr hsr hR hV
    go_wp2_with fail
    refine (HST.out _ _ G_2.out.edges).mono ?_
    rintro e w3 ⟨rfl, hb3⟩
    have H3 := bel_trans H2 hb3
    have SZ3 := Lib.hid hb3.size
    have qg0_3 := (hb3.cell (p := ⟨w1.heap.size, 0, none⟩) zg_2).trans qg0_2
    have qg1_3 := (hb3.cell (p := ⟨w1.heap.size, 1, none⟩) zg_2).trans qg1_2
    have zg_3 := Nat.lt_of_lt_of_le zg_2 hb3.size
    have G_3 := Lib.hid (G_2.out.keep hb3)
    clear zg_2 qg1_2 qg0_2 G_2
    go_wp2_with fail
    refine (HSS.out _ _ G_3.out.edges).mono ?_
    rintro e w4 ⟨rfl, hb4⟩
    have H4 := bel_trans H3 hb4
    have SZ4 := Lib.hid hb4.size
    have qg0_4 := (hb4.cell (p := ⟨w1.heap.size, 0, none⟩) zg_3).trans qg0_3
    have qg1_4 := (hb4.cell (p := ⟨w1.heap.size, 1, none⟩) zg_3).trans qg1_3
    have zg_4 := Nat.lt_of_lt_of_le zg_3 hb4.size
    have G_4 := Lib.hid (G_3.out.keep hb4)
    clear qg0_3 qg1_3 zg_3 G_3
    go_wp2_with fail
    refine (iEmptyPath m _).mono ?_
    rintro e w5 ⟨hS, hb5⟩
    have H5 := bel_trans H4 hb5
    have SZ5 := Lib.hid hb5.size
    have qg0_5 := (hb5.cell (p := ⟨w1.heap.size, 0, none⟩) zg_4).trans qg0_4
    have qg1_5 := (hb5.cell (p := ⟨w1.heap.size, 1, none⟩) zg_4).trans qg1_4
    have zg_5 := Nat.lt_of_lt_of_le zg_4 hb5.size
    have G_5 := Lib.hid (G_4.out.keep hb5)
    rw [rEmpty_of HMK.out, HMK.out] at hS
    subst hS
    clear qg0_4 qg1_4 zg_4 G_4
    go_wp2_with fail
    refine (HSE.out _ _ G_5.out.edges).mono ?_
    rintro e w6 ⟨rfl, hb6⟩
    have H6 := bel_trans H5 hb6
    have SZ6 := Lib.hid hb6.size
    have qg0_6 := (hb6.cell (p := ⟨w1.heap.size, 0, none⟩) zg_5).trans qg0_5
    have qg1_6 := (hb6.cell (p := ⟨w1.heap.size, 1, none⟩) zg_5).trans qg1_5
    have zg_6 := Nat.lt_of_lt_of_le zg_5 hb6.size
    have G_6 := Lib.hid (G_5.out.keep hb6)
    clear qg0_5 qg1_5 zg_5 G_5
    go_wp2_with fail
    refine (HRG.out _ _ G_6.out.edges).mono ?_
    rintro e w7 ⟨vr, rfl, howr, hokr, hb7⟩
    have H7 := bel_trans H6 hb7
    have SZ7 := Lib.hid hb7.size
    have qg0_7 := (hb7.cell (p := ⟨w1.heap.size, 0, none⟩) zg_6).trans qg0_6
    have qg1_7 := (hb7.cell (p := ⟨w1.heap.size, 1, none⟩) zg_6).trans qg1_6
    have zg_7 := Nat.lt_of_lt_of_le zg_6 hb7.size
    have G_7 := Lib.hid (G_6.out.keep hb7)
    obtain ⟨ar, cr, rfl, hz9⟩ := id howr
    clear hz9 hokr
    have R_7 := Lib.hid (show InR true w7 w6.heap.size w7.heap.size _ R.length 3 (cellE R) from howr)
    clear qg0_6 qg1_6 zg_6 G_6
    clear howr
    go_wp2_with fail
    have hb8 : Below w7.heap.size w7 (w7.alloc (.cells #[.int .i64 n, .slice ar R.length cr] 25)) := (Below.refl _ _).alloc (by simp <;> omega) _
    have H8 := bel_trans H7 hb8
    have SZ8 := Lib.hid hb8.size
    have qg0_8 := (hb8.cell (p := ⟨w1.heap.size, 0, none⟩) zg_7).trans qg0_7
    have qg1_8 := (hb8.cell (p := ⟨w1.heap.size, 1, none⟩) zg_7).trans qg1_7
    have zg_8 := Nat.lt_of_lt_of_le zg_7 hb8.size
    have G_8 := Lib.hid (G_7.out.keep hb8)
    have R_8 := Lib.hid (R_7.out.keep hb8)
    have qr0_8 : (w7.alloc (.cells #[.int .i64 n, .slice ar R.length cr] 25)).cell? ⟨w7.heap.size, 0, none⟩ = some (.int .i64 n) := by go_simp
    have qr1_8 : (w7.alloc (.cells #[.int .i64 n, .slice ar R.length cr] 25)).cell? ⟨w7.heap.size, 1, none⟩ = some (.slice ar R.length cr) := by go_simp
    have zr_8 : w7.heap.size < (w7.alloc (.cells #[.int .i64 n, .slice ar R.length cr] 25)).heap.size := by simp <;> omega
    generalize (w7.alloc (.cells #[.int .i64 n, .slice ar R.length cr] 25)) = w8 at hb8 H8 SZ8 G_8 R_8 qg0_8 qg1_8 qr0_8 qr1_8 zg_8 zr_8 ⊢
    have ZBr := Lib.hid zr_8
    clear qg0_7 qg1_7 zg_7 G_7 R_7
    go_wp2_with fail
    refine (HRE.out _ _ R_8.out.edges).mono ?_
    rintro e w9 ⟨rfl, hb9⟩
    have H9 := bel_trans H8 hb9
    have SZ9 := Lib.hid hb9.size
    have qg0_9 := (hb9.cell (p := ⟨w1.heap.size, 0, none⟩) zg_8).trans qg0_8
    have qg1_9 := (hb9.cell (p := ⟨w1.heap.size, 1, none⟩) zg_8).trans qg1_8
    have zg_9 := Nat.lt_of_lt_of_le zg_8 hb9.size
    have qr0_9 := (hb9.cell (p := ⟨w7.heap.size, 0, none⟩) zr_8).trans qr0_8
    have qr1_9 := (hb9.cell (p := ⟨w7.heap.size, 1, none⟩) zr_8).trans qr1_8
    have zr_9 := Nat.lt_of_lt_of_le zr_8 hb9.size
    have G_9 := Lib.hid (G_8.out.keep hb9)
    have R_9 := Lib.hid (R_8.out.keep hb9)
    clear qg0_8 qg1_8 zg_8 G_8 R_8 qr0_8 qr1_8 zr_8
    go_wp2
    go_ret
    exact ⟨by simp, H9⟩

set_option maxRecDepth 100000 in
theorem lifted (os : Os) (started : os.Started) (H : Type) (enc : TypeId × Value → H) :
    ReturnsInHanded {} Try.checked os 10 .any (Rows.fnMeetSelfSpec.pre6 enc Try.prog Try.f10 Rows.fnMeetSelfRow.domain false) (Rows.fnMeetSelfSpec.post enc Try.prog Try.f10 false true false false) := by
  refine returnsInHanded_of_change (C := Try.checked) own started (by kernel_rfl) Try.func10
    (ChangeSpec.witness6 (enc := enc) (C := Try.checked) false ⟨#[], #[.slice none 0 0], []⟩ 8 (by kernel_rfl) (by kernel_rfl) (by kernel_rfl) (by kernel_rfl)) ?_
  intro W base args ds gs before hval0 hW hcnd _
  have hval : ∀ (j : Nat) t v, Try.f10.params[j]? = some t → args[j]? = some v → Value.okWide Try.prog W .any base t v := hval0
  have hW' := hW
  obtain ⟨p, q, hA0, hV, rfl, hfz, hnd⟩ := hW
  have hA : DataW.TrodAll enc Try.prog W 0 (fun _ => true) true Try.f10.params.toList args.toList ds p := hA0
  rw [Try.params10] at hA hval
  obtain ⟨v0, vs0, d0, ds0, p0, q0, hargs, rfl, rfl, h0, r0⟩ := trodAll_cons hA
  obtain ⟨rfl, rfl, rfl⟩ := trodAll_nil r0
  obtain rfl : args = #[v0] := by cases args; simp_all
  obtain ⟨rfl, rfl⟩ := trodVars_none hV
  obtain ⟨a0, len0, cap0, rfl⟩ := okWide_slice Try.underlying22 (hval 0 22 v0 rfl rfl)
  have k0 := h0
  have lt0 : ∀ x ∈ p0, x.block < W.heap.size := by obtain ⟨m, hm⟩ := k0; exact DataW.trod_lt m _ _ _ hm
  obtain ⟨z0, w0⟩ : ∃ zs, IsRow .u8 W a0 len0 cap0 zs := by
    obtain ⟨fuel, hf⟩ := h0
    rcases open_ints Try.underlying22 Try.underlying5 (by kernel_rfl) hf with ⟨hcs, _⟩ | ⟨x, l, c, zs, hcs, _, hl, hm, hz, _, hcell, hwz⟩
    · simp [Value.cells] at hcs
      obtain ⟨rfl, rfl, rfl⟩ := hcs
      exact ⟨[], .inl ⟨rfl, rfl, rfl, rfl⟩⟩
    · simp [Value.cells] at hcs
      obtain ⟨rfl, rfl, rfl⟩ := hcs
      exact ⟨zs, .inr ⟨_, rfl, hl, hm, by simpa using hz, hcell, hwz⟩⟩
  clear hA0 hval0
  refine (walk a0 len0 cap0 z0 W w0).mono fun e W' ⟨he, bel⟩ => ?_
  subst he
  exact ⟨_, rfl, _, _, _, [], _, [], hW', trodAll_mk1 (shut_bool Try.underlying4 _), (trodAll_cons_mk (Below.trod laidOut (by kernel_rfl) (of_decide_eq_true (by kernel_rfl)) k0 bel lt0) trodAll_mk0), rfl, bel.frame _, fun h => by cases h⟩

theorem over : Rows.fnMeetSelfRow.holds Try.pinned (OpenSpec.ofChange Rows.fnMeetSelfSpec) :=
  OpenClaim.holds_of_wide 10 Try.f10 rfl rfl rfl rfl rfl rfl rfl ⟨rfl, rfl, rfl, rfl, rfl⟩ rfl rfl rfl rfl rfl (by kernel_rfl) Try.func10 (by kernel_rfl)
    (of_decide_eq_true (by kernel_rfl)) (by unfold Func.isWrapper; first | (rw [if_pos (by decide +kernel)]; kernel_rfl) | (rw [if_neg (by decide +kernel)]; exact ⟨rfl, rfl⟩))
    (fun os started H enc _ => lifted os started H enc)

theorem proved : Rows.FnMeetSelfSaid := over
end Go.Proofs.Ytaoecegnjhbagaa.fnMeetSelf
