/-
  Proved: no node has a better worst measure than the center, and the program and the model name the same one (the law FnCenterOf returns true for every input and leaves it as it was), with no further condition.
-/
import Derived.Test.YtjpikbbpmbeckaaRows
import Derived.Test.YtjpikbbpmbeckaaCenL
import Derived.WalkKit
import Derived.ProofKit
import Derived.OpenShut
import Derived.ShutString
import Derived.ChangeOld
import Derived.Below
namespace Go.Proofs.Ytjpikbbpmbeckaa.fnCenterOf
open Go.Proofs.Ytjpikbbpmbeckaa Go.BigFrame
open Go.ChangeShapes Go.WideShapes Go.ChangeAt Go.RowKit
open Go.ChangeMaps (open_string shut_string)
set_option linter.unusedVariables false

theorem own : ownKnob Try.prog.godebug = none := by kernel_rfl
theorem laidOut : laidOutB Try.prog = true := by kernel_rfl

def IsRow (k : IntKind) (w : World) (a : Option Addr) (len cap : Nat) (zs : List Int) : Prop :=
  (a = none ∧ len = 0 ∧ cap = 0 ∧ zs = []) ∨
  ∃ x, a = some x ∧ len ≤ cap ∧ cap ≤ maxLen ∧ zs.length = cap ∧ (∀ i, i < zs.length → w.cell? (x.add i) = some (.int k (zs.getD i 0))) ∧ ∀ n ∈ zs, (Lit.int k n).wf = true

theorem bytes_of {w : World} {a : Option Addr} {len cap : Nat} {zs : List Int} (h : IsRow .u8 w a len cap zs) : Bytes w a len ∧ len ≤ cap ∧ len ≤ 9223372036854775807 := by
  rcases h with ⟨rfl, rfl, rfl, rfl⟩ | ⟨x, rfl, hl, hm, hz, hc, hw⟩
  · exact ⟨.inl rfl, Nat.le_refl _, by omega⟩
  · unfold maxLen at hm
    refine ⟨?_, hl, by omega⟩
    by_cases h0 : len = 0
    · exact .inl h0
    · obtain ⟨b, off, rfl, hc'⟩ := ints_at hc (by omega)
      exact .inr ⟨b, off, rfl, World.block_lt_of_cell? _ _ (hc' 0 (by omega)), fun i hi => ⟨zs[i]?.getD 0, (range_u8 hw i).1, (range_u8 hw i).2, hc' i (by omega)⟩⟩

theorem walk (a0 : Option Addr) (len0 cap0 : Nat) (z0 : List Int) (w : World) (w0 : IsRow .u8 w a0 len0 cap0 z0) :
    Calls Try.prog 5 #[.slice a0 len0 cap0] w fun e w' => e = .returned (.bool true) ∧ Below w.heap.size w w' := by
  obtain ⟨hby, hcp, hn⟩ := bytes_of w0
  have HB0 := Lib.hid hby
  clear hby w0
  by_cases h0 : 1048576 < len0
  · go_enter Try.func5, Try.ntmps5
    go_wp2
    go_ret
    exact ⟨rfl, Below.refl _ _⟩
  have h0' : len0 ≤ 1048576 := by omega
  clear h0
  go_enter Try.func5, Try.ntmps5
  go_wp2_with fail
  refine (dDrawCenterOf a0 len0 cap0 _ HB0.out hcp (by omega)).mono ?_
  rintro e w1 ⟨m, z, v, rfl, hsm, hgr, hok, hb1⟩
  obtain ⟨xa, xc, rfl⟩ : ∃ a c, v = .slice a z.length c := by obtain ⟨-, a, c, e, -⟩ := hgr; exact ⟨a, c, e⟩
  have hbE : Below w1.heap.size w1 (w1.alloc (.cells #[.int .i64 m, .slice xa z.length xc] 33)) := (Below.refl _ _).alloc (Nat.le_refl _) _
  have K2 := Lib.hid (And.intro (bel_trans hb1 hbE) (And.intro (hgr.gridO.keep hbE) (Box.new w1 33 #[.int .i64 m, .slice xa z.length xc])))
  have hl := hsm.1
  have hl1 : z.length ≤ 281474976710656 := by omega
  have hl2 : ∀ i, i < z.length → (z.getD i []).length ≤ 281474976710656 := fun i hi => by have := hsm.2 i hi; omega
  clear hsm hgr hok hb1 hbE
  have hst := fun w h => centerOf m z (.slice xa z.length xc) w h hl1 hl2
  have hss := fun w h => sCenterOf m z (.slice xa z.length xc) w h hl1 hl2
  have hmv := fun w h => matrixValid m z (.slice xa z.length xc) w h hl1 hl2
  have hms := fun w h => sMatrixValid m z (.slice xa z.length xc) w h hl1 hl2
  cases hV : mVal m z
  · rw [hV] at hst hss hmv hms
    obtain ⟨C, hC⟩ : ∃ C, C = cenVal m z := ⟨_, rfl⟩
    rw [← hC] at hst hss
    clear hC hV
    have HST := Lib.hid hst
    have HSS := Lib.hid hss
    have HMV := Lib.hid hmv
    have HMS := Lib.hid hms
    clear hst hss hmv hms
    go_wp2_with fail
    generalize (w1.alloc (.cells #[.int .i64 m, .slice xa z.length xc] 33)) = w2 at K2 ⊢
    have x0_2 : w2.cell? ⟨w1.heap.size, 0, none⟩ = some (.int .i64 m) := by simpa using K2.out.2.2.cell 0
    have x1_2 : w2.cell? ⟨w1.heap.size, 1, none⟩ = some (.slice xa z.length xc) := by simpa using K2.out.2.2.cell 1
    refine (HST.out _ K2.out.2.1).mono ?_
    rintro e w3 ⟨rfl, hb3⟩
    have K3 := Lib.hid (And.intro (bel_trans K2.out.1 hb3) (And.intro (K2.out.2.1.keep hb3) (K2.out.2.2.keep hb3)))
    clear hb3 x0_2 x1_2
    have x0_3 : w3.cell? ⟨w1.heap.size, 0, none⟩ = some (.int .i64 m) := by simpa using K3.out.2.2.cell 0
    have x1_3 : w3.cell? ⟨w1.heap.size, 1, none⟩ = some (.slice xa z.length xc) := by simpa using K3.out.2.2.cell 1
    go_wp2_with fail
    refine (HSS.out _ K3.out.2.1.grid).mono ?_
    rintro e w4 ⟨rfl, hb4⟩
    have K4 := Lib.hid (And.intro (bel_trans K3.out.1 hb4) (And.intro (K3.out.2.1.keep hb4) (K3.out.2.2.keep hb4)))
    clear hb4 x0_3 x1_3
    have x0_4 : w4.cell? ⟨w1.heap.size, 0, none⟩ = some (.int .i64 m) := by simpa using K4.out.2.2.cell 0
    have x1_4 : w4.cell? ⟨w1.heap.size, 1, none⟩ = some (.slice xa z.length xc) := by simpa using K4.out.2.2.cell 1
    go_wp2_with fail
    refine (HMV.out _ K4.out.2.1).mono ?_
    rintro e w5 ⟨rfl, hb5⟩
    have K5 := Lib.hid (And.intro (bel_trans K4.out.1 hb5) (And.intro (K4.out.2.1.keep hb5) (K4.out.2.2.keep hb5)))
    clear hb5 x0_4 x1_4
    have x0_5 : w5.cell? ⟨w1.heap.size, 0, none⟩ = some (.int .i64 m) := by simpa using K5.out.2.2.cell 0
    have x1_5 : w5.cell? ⟨w1.heap.size, 1, none⟩ = some (.slice xa z.length xc) := by simpa using K5.out.2.2.cell 1
    go_wp2_with fail
    refine (HMS.out _ K5.out.2.1.grid).mono ?_
    rintro e w6 ⟨rfl, hb6⟩
    have K6 := Lib.hid (And.intro (bel_trans K5.out.1 hb6) (And.intro (K5.out.2.1.keep hb6) (K5.out.2.2.keep hb6)))
    clear hb6 x0_5 x1_5
    have x0_6 : w6.cell? ⟨w1.heap.size, 0, none⟩ = some (.int .i64 m) := by simpa using K6.out.2.2.cell 0
    have x1_6 : w6.cell? ⟨w1.heap.size, 1, none⟩ = some (.slice xa z.length xc) := by simpa using K6.out.2.2.cell 1
    go_wp2_with fail
    refine (HMV.out _ K6.out.2.1).mono ?_
    rintro e w7 ⟨rfl, hb7⟩
    have K7 := Lib.hid (And.intro (bel_trans K6.out.1 hb7) (And.intro (K6.out.2.1.keep hb7) (K6.out.2.2.keep hb7)))
    clear hb7 x0_6 x1_6
    have x0_7 : w7.cell? ⟨w1.heap.size, 0, none⟩ = some (.int .i64 m) := by simpa using K7.out.2.2.cell 0
    have x1_7 : w7.cell? ⟨w1.heap.size, 1, none⟩ = some (.slice xa z.length xc) := by simpa using K7.out.2.2.cell 1
    go_wp2_with fail
    refine (HMS.out _ K7.out.2.1.grid).mono ?_
    rintro e w8 ⟨rfl, hb8⟩
    have K8 := Lib.hid (And.intro (bel_trans K7.out.1 hb8) (And.intro (K7.out.2.1.keep hb8) (K7.out.2.2.keep hb8)))
    clear hb8 x0_7 x1_7
    go_wp2
    go_ret
    exact ⟨rfl, K8.out.1⟩
  · obtain ⟨C, hC, hCl, hbest⟩ := cen_best hV
    rw [hV, hC] at hst hss
    rw [hV] at hmv hms
    have hwo := fun (k : Nat) (hk : k < z.length) w h => worstOf m (k : Nat) z (.slice xa z.length xc) w h hl1 hl2
    have hwo2 : ∀ (k : Nat), k < z.length → wOk m z (k : Nat) = true := fun k hk => wOk_at hV hk
    have hib : ∀ (k : Nat), k < z.length → ∀ w, Calls Try.prog 23 #[.int .i64 m, .int .i64 (wVal m z (k : Nat)), .int .i64 (wVal m z (C : Nat))] w fun e w' => e = .returned (.bool false) ∧ Below w.heap.size w w' := fun k hk w => by
      have h9 := iIsBetter m (wVal m z (k : Nat)) (wVal m z (C : Nat)) w
      rw [show bBet m (wVal m z (k : Nat)) (wVal m z (C : Nat)) = false by unfold bBet; rw [hbest k hk, Bool.and_false]] at h9
      exact h9
    have HWO := Lib.hid (fun (k : Nat) (hk : k < z.length) w h => by have h9 := hwo k hk w h; rw [hwo2 k hk] at h9; exact h9)
    have HIB := Lib.hid hib
    clear hwo hwo2 hib hbest hC hV
    have HST := Lib.hid hst
    have HSS := Lib.hid hss
    have HMV := Lib.hid hmv
    have HMS := Lib.hid hms
    clear hst hss hmv hms
    go_wp2_with fail
    generalize (w1.alloc (.cells #[.int .i64 m, .slice xa z.length xc] 33)) = w2 at K2 ⊢
    have x0_2 : w2.cell? ⟨w1.heap.size, 0, none⟩ = some (.int .i64 m) := by simpa using K2.out.2.2.cell 0
    have x1_2 : w2.cell? ⟨w1.heap.size, 1, none⟩ = some (.slice xa z.length xc) := by simpa using K2.out.2.2.cell 1
    refine (HST.out _ K2.out.2.1).mono ?_
    rintro e w3 ⟨rfl, hb3⟩
    have K3 := Lib.hid (And.intro (bel_trans K2.out.1 hb3) (And.intro (K2.out.2.1.keep hb3) (K2.out.2.2.keep hb3)))
    clear hb3 x0_2 x1_2
    have x0_3 : w3.cell? ⟨w1.heap.size, 0, none⟩ = some (.int .i64 m) := by simpa using K3.out.2.2.cell 0
    have x1_3 : w3.cell? ⟨w1.heap.size, 1, none⟩ = some (.slice xa z.length xc) := by simpa using K3.out.2.2.cell 1
    go_wp2_with fail
    refine (HSS.out _ K3.out.2.1.grid).mono ?_
    rintro e w4 ⟨rfl, hb4⟩
    have K4 := Lib.hid (And.intro (bel_trans K3.out.1 hb4) (And.intro (K3.out.2.1.keep hb4) (K3.out.2.2.keep hb4)))
    clear hb4 x0_3 x1_3
    have x0_4 : w4.cell? ⟨w1.heap.size, 0, none⟩ = some (.int .i64 m) := by simpa using K4.out.2.2.cell 0
    have x1_4 : w4.cell? ⟨w1.heap.size, 1, none⟩ = some (.slice xa z.length xc) := by simpa using K4.out.2.2.cell 1
    go_wp2_with fail
    refine (HMV.out _ K4.out.2.1).mono ?_
    rintro e w5 ⟨rfl, hb5⟩
    have K5 := Lib.hid (And.intro (bel_trans K4.out.1 hb5) (And.intro (K4.out.2.1.keep hb5) (K4.out.2.2.keep hb5)))
    clear hb5 x0_4 x1_4
    have x0_5 : w5.cell? ⟨w1.heap.size, 0, none⟩ = some (.int .i64 m) := by simpa using K5.out.2.2.cell 0
    have x1_5 : w5.cell? ⟨w1.heap.size, 1, none⟩ = some (.slice xa z.length xc) := by simpa using K5.out.2.2.cell 1
    go_wp2_with fail
    refine (HMS.out _ K5.out.2.1.grid).mono ?_
    rintro e w6 ⟨rfl, hb6⟩
    have K6 := Lib.hid (And.intro (bel_trans K5.out.1 hb6) (And.intro (K5.out.2.1.keep hb6) (K5.out.2.2.keep hb6)))
    clear hb6 x0_5 x1_5
    have x0_6 : w6.cell? ⟨w1.heap.size, 0, none⟩ = some (.int .i64 m) := by simpa using K6.out.2.2.cell 0
    have x1_6 : w6.cell? ⟨w1.heap.size, 1, none⟩ = some (.slice xa z.length xc) := by simpa using K6.out.2.2.cell 1
    go_wp2_with fail
    refine (HWO.out C hCl _ K6.out.2.1).mono ?_
    rintro e w7 ⟨rfl, hb7⟩
    have K7 := Lib.hid (And.intro (bel_trans K6.out.1 hb7) (And.intro (K6.out.2.1.keep hb7) (K6.out.2.2.keep hb7)))
    clear hb7 x0_6 x1_6
    have x0_7 : w7.cell? ⟨w1.heap.size, 0, none⟩ = some (.int .i64 m) := by simpa using K7.out.2.2.cell 0
    have x1_7 : w7.cell? ⟨w1.heap.size, 1, none⟩ = some (.slice xa z.length xc) := by simpa using K7.out.2.2.cell 1
    go_wp2_with fail
    go_loopw [10] (fun c wr => ∃ k : Nat, k ≤ z.length ∧ c = .int .i64 k ∧ Hid (Below w7.heap.size w7 wr)) (fun c _ => z.length - (intOf c).toNat)
    case atStart => exact ⟨0, Nat.zero_le _, rfl, Lib.hid (Below.refl _ _)⟩
    case round =>
      obtain ⟨k, hk, rfl, HBW⟩ := hrel
      clear x0_7 x1_7
      have KR := Lib.hid (And.intro (bel_trans K7.out.1 HBW.out) (And.intro (K7.out.2.1.keep HBW.out) (K7.out.2.2.keep HBW.out)))
      have x0_r : wr.cell? ⟨w1.heap.size, 0, none⟩ = some (.int .i64 m) := by simpa using KR.out.2.2.cell 0
      have x1_r : wr.cell? ⟨w1.heap.size, 1, none⟩ = some (.slice xa z.length xc) := by simpa using KR.out.2.2.cell 1
      by_cases hlt : k < z.length
      · have hlt' : (k : Int) < z.length := by omega
        go_wp2_with fail
        refine (HWO.out k hlt _ KR.out.2.1).mono ?_
        rintro e w8 ⟨rfl, hb8⟩
        have K8 := Lib.hid (And.intro (bel_trans HBW.out hb8) (KR.out.2.2.keep hb8))
        clear hb8 x0_r x1_r
        have x0_8 : w8.cell? ⟨w1.heap.size, 0, none⟩ = some (.int .i64 m) := by simpa using K8.out.2.cell 0
        go_wp2_with fail
        refine (HIB.out k hlt _).mono ?_
        rintro e w9 ⟨rfl, hb9⟩
        have K9 := Lib.hid (bel_trans K8.out.1 hb9)
        clear hb9 x0_8
        go_wp2
        go_roundw
        case rel => first | exact ⟨k + 1, by omega, by go_num, K9⟩ | ((repeat apply Exists.intro); exact ⟨⟨k + 1, by omega, by go_num, K9⟩, rfl⟩) | exact ⟨_, ⟨k + 1, by omega, by go_num, K9⟩, rfl⟩
        case measure => simp [intOf]; omega
      · have hke : k = z.length := by omega
        subst hke
        go_wp2
        go_ret
        exact ⟨rfl, KR.out.1⟩

set_option maxRecDepth 100000 in
theorem lifted (os : Os) (started : os.Started) (H : Type) (enc : TypeId × Value → H) :
    ReturnsInHanded {} Try.checked os 5 .any (Rows.fnCenterOfSpec.pre6 enc Try.prog Try.f5 Rows.fnCenterOfRow.domain false) (Rows.fnCenterOfSpec.post enc Try.prog Try.f5 false true false false) := by
  refine returnsInHanded_of_change (C := Try.checked) own started (by kernel_rfl) Try.func5
    (ChangeSpec.witness6 (enc := enc) (C := Try.checked) false ⟨#[], #[.slice none 0 0], []⟩ 8 (by kernel_rfl) (by kernel_rfl) (by kernel_rfl) (by kernel_rfl)) ?_
  intro W base args ds gs before hval0 hW hcnd _
  have hval : ∀ (j : Nat) t v, Try.f5.params[j]? = some t → args[j]? = some v → Value.okWide Try.prog W .any base t v := hval0
  have hW' := hW
  obtain ⟨p, q, hA0, hV, rfl, hfz, hnd⟩ := hW
  have hA : DataW.TrodAll enc Try.prog W 0 (fun _ => true) true Try.f5.params.toList args.toList ds p := hA0
  rw [Try.params5] at hA hval
  obtain ⟨v0, vs0, d0, ds0, p0, q0, hargs, rfl, rfl, h0, r0⟩ := trodAll_cons hA
  obtain ⟨rfl, rfl, rfl⟩ := trodAll_nil r0
  obtain rfl : args = #[v0] := by cases args; simp_all
  obtain ⟨rfl, rfl⟩ := trodVars_none hV
  obtain ⟨a0, len0, cap0, rfl⟩ := okWide_slice Try.underlying22 (hval 0 22 v0 rfl rfl)
  have k0 := h0
  have lt0 : ∀ x ∈ p0, x.block < W.heap.size := by obtain ⟨m, hm⟩ := k0; exact DataW.trod_lt m _ _ _ hm
  obtain ⟨z0, w0⟩ : ∃ zs, IsRow .u8 W a0 len0 cap0 zs := by
    obtain ⟨fuel, hf⟩ := h0
    rcases open_ints Try.underlying22 Try.underlying5 (by kernel_rfl) hf with ⟨hcs, _⟩ | ⟨x, l, c, zs, hcs, _, hl, hm, hz, _, hcell, hwz⟩
    · simp [Value.cells] at hcs
      obtain ⟨rfl, rfl, rfl⟩ := hcs
      exact ⟨[], .inl ⟨rfl, rfl, rfl, rfl⟩⟩
    · simp [Value.cells] at hcs
      obtain ⟨rfl, rfl, rfl⟩ := hcs
      exact ⟨zs, .inr ⟨_, rfl, hl, hm, by simpa using hz, hcell, hwz⟩⟩
  clear hA0 hval0
  refine (walk a0 len0 cap0 z0 W w0).mono fun e W' ⟨he, bel⟩ => ?_
  subst he
  exact ⟨_, rfl, _, _, _, [], _, [], hW', trodAll_mk1 (shut_bool Try.underlying4 _), (trodAll_cons_mk (Below.trod laidOut (by kernel_rfl) (of_decide_eq_true (by kernel_rfl)) k0 bel lt0) trodAll_mk0), rfl, bel.frame _, fun h => by cases h⟩

theorem over : Rows.fnCenterOfRow.holds Try.pinned (OpenSpec.ofChange Rows.fnCenterOfSpec) :=
  OpenClaim.holds_of_wide 5 Try.f5 rfl rfl rfl rfl rfl rfl rfl ⟨rfl, rfl, rfl, rfl, rfl⟩ rfl rfl rfl rfl rfl (by kernel_rfl) Try.func5 (by kernel_rfl)
    (of_decide_eq_true (by kernel_rfl)) (by unfold Func.isWrapper; first | (rw [if_pos (by decide +kernel)]; kernel_rfl) | (rw [if_neg (by decide +kernel)]; exact ⟨rfl, rfl⟩))
    (fun os started H enc _ => lifted os started H enc)

theorem proved : Rows.FnCenterOfSaid := over
end Go.Proofs.Ytjpikbbpmbeckaa.fnCenterOf
