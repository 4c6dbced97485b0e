/-
  Proved: an edge has the measure of a path with it alone (the law FnEdgeMeasure returns true for every input and leaves it as it was), with no further condition.
-/
import Derived.Test.YtmiomafgfeofnaaRows
import Derived.Test.YtmiomafgfeofnaaLaw
import Derived.Test.YtmiomafgfeofnaaDraw2
import Derived.Test.YtmiomafgfeofnaaPath2
import Derived.WalkKit
import Derived.ProofKit
import Derived.OpenShut
import Derived.ShutString
import Derived.ChangeOld
import Derived.Below
namespace Go.Proofs.Ytmiomafgfeofnaa.fnEdgeMeasure
open Go.Proofs.Ytmiomafgfeofnaa Go.BigFrame
open Go.ChangeShapes Go.WideShapes Go.ChangeAt Go.RowKit
open Go.ChangeMaps (open_string shut_string)
set_option linter.unusedVariables false

theorem own : ownKnob Try.prog.godebug = none := by kernel_rfl
theorem laidOut : laidOutB Try.prog = true := by kernel_rfl

def IsRow (k : IntKind) (w : World) (a : Option Addr) (len cap : Nat) (zs : List Int) : Prop :=
  (a = none ∧ len = 0 ∧ cap = 0 ∧ zs = []) ∨
  ∃ x, a = some x ∧ len ≤ cap ∧ cap ≤ maxLen ∧ zs.length = cap ∧ (∀ i, i < zs.length → w.cell? (x.add i) = some (.int k (zs.getD i 0))) ∧ ∀ n ∈ zs, (Lit.int k n).wf = true

theorem bytes_of {w : World} {a : Option Addr} {len cap : Nat} {zs : List Int} (h : IsRow .u8 w a len cap zs) : Bytes w a len ∧ len ≤ cap ∧ len ≤ 9223372036854775807 := by
  rcases h with ⟨rfl, rfl, rfl, rfl⟩ | ⟨x, rfl, hl, hm, hz, hc, hw⟩
  · exact ⟨.inl rfl, Nat.le_refl _, by omega⟩
  · unfold maxLen at hm
    refine ⟨?_, hl, by omega⟩
    by_cases h0 : len = 0
    · exact .inl h0
    · obtain ⟨b, off, rfl, hc'⟩ := ints_at hc (by omega)
      exact .inr ⟨b, off, rfl, World.block_lt_of_cell? _ _ (hc' 0 (by omega)), fun i hi => ⟨zs[i]?.getD 0, (range_u8 hw i).1, (range_u8 hw i).2, by simpa [List.getD] using hc' i (by omega)⟩⟩

theorem path_one_no {m x : Int} (h : bEdge m x = false) : bPath m [x] = false ∧ rPath m [x] = 0 := by
  have hb : bPath m [x] = false := by simpa [bPath, bEdge] using h
  exact ⟨hb, by unfold rPath; rw [hb]; rfl⟩
theorem path_one_yes {m x : Int} (h : bEdge m x = true) : bPath m [x] = true ∧ rPath m [x] = mEdge m x := by
  have hb : bPath m [x] = true := by simpa [bPath, bEdge] using h
  have hk : mKind m = true ∧ mWeight x = true := by simpa [bEdge] using h
  exact ⟨hb, by unfold rPath; rw [hb]; exact mJoin_oneL hk.1 (mEdge_in hk.1 hk.2)⟩
theorem edge_is {m x : Int} (h : bEdge m x = true) : mIs m (mEdge m x) = true := by
  have hk : mKind m = true ∧ mWeight x = true := by simpa [bEdge] using h
  exact mIs_mk hk.1 (mEdge_in hk.1 hk.2)
theorem iPathN {m v : Int} {zs : List Int} {b : Bool} (h1 : bPath m zs = b) (h2 : rPath m zs = v) {s : Value} {w : World} (hr : Row w s zs) (hl : zs.length ≤ 1048576) :
    Calls Try.prog 26 #[.int .i64 m, s] w fun e w' => e = .returned (.tuple #[.int .i64 v, .bool b]) ∧ Below w.heap.size w w' := by
  have hc := iPathMeasure m zs s w hr hl
  rw [h1, h2] at hc
  exact hc
theorem walk (a0 : Option Addr) (len0 cap0 : Nat) (z0 : List Int) (w : World) (w0 : IsRow .u8 w a0 len0 cap0 z0) :
    Calls Try.prog 11 #[.slice a0 len0 cap0] w fun e w' => e = .returned (.bool true) ∧ Below w.heap.size w w' := by
  obtain ⟨hby, hcp, hn⟩ := bytes_of w0
  have HB0 := Lib.hid hby
  clear hby w0
  by_cases h0 : 1048576 < len0
  · go_enter Try.func11, Try.ntmps11
    go_wp2
    go_ret
    exact ⟨rfl, Below.refl _ _⟩
  · have h0' : len0 ≤ 1048576 := by omega
    clear h0
    go_enter Try.func11, Try.ntmps11
    go_wp2_with fail
    refine (dDrawEdgeMeasure a0 len0 cap0 w HB0.out hcp (by omega)).mono ?_
    rintro e w0 ⟨m, x, rfl, hb0⟩
    cases h : bEdge m x
    · have hp := path_one_no h
      have H := Lib.hid h
      have HP := Lib.hid hp
      clear h hp
      go_wp2_with (first | (go_at_call 36; (with_reducible refine (iEdgeN H _).mono ?_); rintro e w1 ⟨rfl, hb1⟩) | (go_at_call 37; (with_reducible refine (sEdgeN H _).mono ?_); rintro e w2 ⟨rfl, rfl⟩) | (go_at_call 26; refine (iPathN HP.out.1 HP.out.2 (row_one _ x _) (by simp)).mono ?_; rintro e w3 ⟨rfl, hb3⟩))
      go_ret
      exact ⟨rfl, bel_trans (bel_trans hb0 hb1) (bel_trans ((Below.refl _ _).alloc (Nat.le_refl _) _) hb3)⟩
    · obtain ⟨v, hv⟩ : ∃ v, v = mEdge m x := ⟨_, rfl⟩
      have hp := path_one_yes h
      have H := Lib.hid h
      have E := Lib.hid hv.symm
      have HP := Lib.hid (show bPath m [x] = true ∧ rPath m [x] = v by rw [hv]; exact hp)
      have HV := Lib.hid (show mIs m v = true by rw [hv]; exact edge_is h)
      clear h hp hv
      go_wp2_with (first | (go_at_call 36; (with_reducible refine (iEdgeY H E _).mono ?_); rintro e w1 ⟨rfl, hb1⟩) | (go_at_call 37; (with_reducible refine (sEdgeY H E _).mono ?_); rintro e w2 ⟨rfl, rfl⟩) | (go_at_call 26; refine (iPathN HP.out.1 HP.out.2 (row_one _ x _) (by simp)).mono ?_; rintro e w3 ⟨rfl, hb3⟩) | (go_at_call 19; (with_reducible refine (iValIs HV _).mono ?_); rintro e w4 ⟨rfl, hb4⟩))
      go_ret
      exact ⟨rfl, bel_trans (bel_trans (bel_trans hb0 hb1) (bel_trans ((Below.refl _ _).alloc (Nat.le_refl _) _) hb3)) hb4⟩

set_option maxRecDepth 100000 in
theorem lifted (os : Os) (started : os.Started) (H : Type) (enc : TypeId × Value → H) :
    ReturnsInHanded {} Try.checked os 11 .any (Rows.fnEdgeMeasureSpec.pre6 enc Try.prog Try.f11 Rows.fnEdgeMeasureRow.domain false) (Rows.fnEdgeMeasureSpec.post enc Try.prog Try.f11 false true false false) := by
  refine returnsInHanded_of_change (C := Try.checked) own started (by kernel_rfl) Try.func11
    (ChangeSpec.witness6 (enc := enc) (C := Try.checked) false ⟨#[], #[.slice none 0 0], []⟩ 8 (by kernel_rfl) (by kernel_rfl) (by kernel_rfl) (by kernel_rfl)) ?_
  intro W base args ds gs before hval0 hW hcnd _
  have hval : ∀ (j : Nat) t v, Try.f11.params[j]? = some t → args[j]? = some v → Value.okWide Try.prog W .any base t v := hval0
  have hW' := hW
  obtain ⟨p, q, hA0, hV, rfl, hfz, hnd⟩ := hW
  have hA : DataW.TrodAll enc Try.prog W 0 (fun _ => true) true Try.f11.params.toList args.toList ds p := hA0
  rw [Try.params11] at hA hval
  obtain ⟨v0, vs0, d0, ds0, p0, q0, hargs, rfl, rfl, h0, r0⟩ := trodAll_cons hA
  obtain ⟨rfl, rfl, rfl⟩ := trodAll_nil r0
  obtain rfl : args = #[v0] := by cases args; simp_all
  obtain ⟨rfl, rfl⟩ := trodVars_none hV
  obtain ⟨a0, len0, cap0, rfl⟩ := okWide_slice Try.underlying22 (hval 0 22 v0 rfl rfl)
  have k0 := h0
  have lt0 : ∀ x ∈ p0, x.block < W.heap.size := by obtain ⟨m, hm⟩ := k0; exact DataW.trod_lt m _ _ _ hm
  obtain ⟨z0, w0⟩ : ∃ zs, IsRow .u8 W a0 len0 cap0 zs := by
    obtain ⟨fuel, hf⟩ := h0
    rcases open_ints Try.underlying22 Try.underlying5 (by kernel_rfl) hf with ⟨hcs, _⟩ | ⟨x, l, c, zs, hcs, _, hl, hm, hz, _, hcell, hwz⟩
    · simp [Value.cells] at hcs
      obtain ⟨rfl, rfl, rfl⟩ := hcs
      exact ⟨[], .inl ⟨rfl, rfl, rfl, rfl⟩⟩
    · simp [Value.cells] at hcs
      obtain ⟨rfl, rfl, rfl⟩ := hcs
      exact ⟨zs, .inr ⟨_, rfl, hl, hm, by simpa using hz, hcell, hwz⟩⟩
  clear hA0 hval0
  refine (walk a0 len0 cap0 z0 W w0).mono fun e W' ⟨he, bel⟩ => ?_
  subst he
  exact ⟨_, rfl, _, _, _, [], _, [], hW', trodAll_mk1 (shut_bool Try.underlying4 _), (trodAll_cons_mk (Below.trod laidOut (by kernel_rfl) (of_decide_eq_true (by kernel_rfl)) k0 bel lt0) trodAll_mk0), rfl, bel.frame _, fun h => by cases h⟩

theorem over : Rows.fnEdgeMeasureRow.holds Try.pinned (OpenSpec.ofChange Rows.fnEdgeMeasureSpec) :=
  OpenClaim.holds_of_wide 11 Try.f11 rfl rfl rfl rfl rfl rfl rfl ⟨rfl, rfl, rfl, rfl, rfl⟩ rfl rfl rfl rfl rfl (by kernel_rfl) Try.func11 (by kernel_rfl)
    (of_decide_eq_true (by kernel_rfl)) (by unfold Func.isWrapper; first | (rw [if_pos (by decide +kernel)]; kernel_rfl) | (rw [if_neg (by decide +kernel)]; exact ⟨rfl, rfl⟩))
    (fun os started H enc _ => lifted os started H enc)

theorem proved : Rows.FnEdgeMeasureSaid := over
end Go.Proofs.Ytmiomafgfeofnaa.fnEdgeMeasure
