/-
  Proved: a path has the measure of its parts put together (the law FnPathMeasure returns true for every input and leaves it as it was), with no further condition.
-/
import Derived.Test.YtmiomafgfeofnaaRows
import Derived.Test.YtmiomafgfeofnaaLaw
import Derived.Test.YtmiomafgfeofnaaDraw3
import Derived.Test.YtmiomafgfeofnaaPath2
import Derived.WalkKit
import Derived.ProofKit
import Derived.OpenShut
import Derived.ShutString
import Derived.ChangeOld
import Derived.Below
namespace Go.Proofs.Ytmiomafgfeofnaa.fnPathMeasure
open Go.Proofs.Ytmiomafgfeofnaa Go.BigFrame
open Go.ChangeShapes Go.WideShapes Go.ChangeAt Go.RowKit
open Go.ChangeMaps (open_string shut_string)
set_option linter.unusedVariables false

theorem own : ownKnob Try.prog.godebug = none := by kernel_rfl
theorem laidOut : laidOutB Try.prog = true := by kernel_rfl

def IsRow (k : IntKind) (w : World) (a : Option Addr) (len cap : Nat) (zs : List Int) : Prop :=
  (a = none ∧ len = 0 ∧ cap = 0 ∧ zs = []) ∨
  ∃ x, a = some x ∧ len ≤ cap ∧ cap ≤ maxLen ∧ zs.length = cap ∧ (∀ i, i < zs.length → w.cell? (x.add i) = some (.int k (zs.getD i 0))) ∧ ∀ n ∈ zs, (Lit.int k n).wf = true

theorem bytes_of {w : World} {a : Option Addr} {len cap : Nat} {zs : List Int} (h : IsRow .u8 w a len cap zs) : Bytes w a len ∧ len ≤ cap ∧ len ≤ 9223372036854775807 := by
  rcases h with ⟨rfl, rfl, rfl, rfl⟩ | ⟨x, rfl, hl, hm, hz, hc, hw⟩
  · exact ⟨.inl rfl, Nat.le_refl _, by omega⟩
  · unfold maxLen at hm
    refine ⟨?_, hl, by omega⟩
    by_cases h0 : len = 0
    · exact .inl h0
    · obtain ⟨b, off, rfl, hc'⟩ := ints_at hc (by omega)
      exact .inr ⟨b, off, rfl, World.block_lt_of_cell? _ _ (hc' 0 (by omega)), fun i hi => ⟨zs[i]?.getD 0, (range_u8 hw i).1, (range_u8 hw i).2, by simpa [List.getD] using hc' i (by omega)⟩⟩

theorem iPathN {m v : Int} {zs : List Int} {b : Bool} (h1 : bPath m zs = b) (h2 : rPath m zs = v) {s : Value} {w : World} (hr : Row w s zs) (hl : zs.length ≤ 1048576) :
    Calls Try.prog 26 #[.int .i64 m, s] w fun e w' => e = .returned (.tuple #[.int .i64 v, .bool b]) ∧ Below w.heap.size w w' := by
  have hc := iPathMeasure m zs s w hr hl
  rw [h1, h2] at hc
  exact hc
theorem sPathN {m v : Int} {zs : List Int} {b : Bool} (h1 : bPath m zs = b) (h2 : rPath m zs = v) {s : Value} {w : World} (hr : Row w s zs) (hl : zs.length ≤ 1048576) :
    Calls Try.prog 27 #[.int .i64 m, s] w fun e w' => e = .returned (.tuple #[.int .i64 v, .bool b]) ∧ w = w' := by
  have hc := sPathMeasure m zs s w hr hl
  rw [h1, h2] at hc
  exact hc
theorem mPath_append (m v : Int) (xs ys : List Int) : mPath m v (xs ++ ys) = mPath m (mPath m v xs) ys := by simp [mPath]
theorem mPath_from {m : Int} (hm : mKind m = true) : ∀ (ys : List Int) (a : Int), mIn m a = true → ys.all mWeight = true → mJoin m a (mPath m (mOne m) ys) = mPath m a ys := by
  intro ys
  have key : ∀ (ys : List Int) (a v : Int), mIn m a = true → mIn m v = true → ys.all mWeight = true → mJoin m a (mPath m v ys) = mPath m (mJoin m a v) ys := by
    intro ys
    induction ys with
    | nil => intro a v _ _ _; rfl
    | cons y ys ih =>
      intro a v ha hv hall
      simp only [List.all_cons, Bool.and_eq_true] at hall
      have hy := mEdge_in hm hall.1
      show mJoin m a (mPath m (mJoin m v (mEdge m y)) ys) = mPath m (mJoin m (mJoin m a v) (mEdge m y)) ys
      rw [ih a _ ha (mJoinIn hm hv hy) hall.2, mJoin_assoc hm ha hv hy]
  intro a ha hall
  rw [key ys a (mOne m) ha (mOneIn hm) hall, mJoin_oneR hm ha]
theorem bPath_parts {m : Int} {zs : List Int} (h : bPath m zs = true) : mKind m = true ∧ zs.length ≤ 50 ∧ zs.all mWeight = true := by simpa [bPath] using h
theorem bPath_mk {m : Int} {zs : List Int} (h1 : mKind m = true) (h2 : zs.length ≤ 50) (h3 : zs.all mWeight = true) : bPath m zs = true := by simp [bPath, h1, h2, h3]
theorem rPath_yes {m : Int} {zs : List Int} (h : bPath m zs = true) : rPath m zs = mPath m (mOne m) zs := by unfold rPath; rw [h]; rfl
theorem rPath_no {m : Int} {zs : List Int} (h : bPath m zs = false) : rPath m zs = 0 := by unfold rPath; rw [h]; rfl
theorem rPath_in {m : Int} {zs : List Int} (h : bPath m zs = true) : mIn m (rPath m zs) = true := by
  have hp := bPath_parts h
  rw [rPath_yes h]; exact mPath_in hp.1 zs _ (mOneIn hp.1) hp.2.2
theorem bPath_take {m : Int} {zs : List Int} (h : bPath m zs = true) (k : Nat) : bPath m (zs.take k) = true := by
  have hp := bPath_parts h
  exact bPath_mk hp.1 (by rw [List.length_take]; omega) (by rw [List.all_eq_true]; intro y hy; exact List.all_eq_true.1 hp.2.2 y (List.mem_of_mem_take hy))
theorem bPath_drop {m : Int} {zs : List Int} (h : bPath m zs = true) (k : Nat) : bPath m (zs.drop k) = true := by
  have hp := bPath_parts h
  exact bPath_mk hp.1 (by rw [List.length_drop]; omega) (by rw [List.all_eq_true]; intro y hy; exact List.all_eq_true.1 hp.2.2 y (List.mem_of_mem_drop hy))
theorem path_split {m : Int} {zs : List Int} (h : bPath m zs = true) (k : Nat) : mJoin m (rPath m (zs.take k)) (rPath m (zs.drop k)) = rPath m zs := by
  have hp := bPath_parts h
  rw [rPath_yes (bPath_take h k), rPath_yes (bPath_drop h k), rPath_yes h,
    mPath_from hp.1 (zs.drop k) _ (mPath_in hp.1 _ _ (mOneIn hp.1) (bPath_parts (bPath_take h k)).2.2) (bPath_parts (bPath_drop h k)).2.2, ← mPath_append, List.take_append_drop]
theorem row_take {w : World} {b off cap : Nat} {zs : List Int} (hb : b < w.heap.size) (hc : ∀ i, i < zs.length → w.cell? ⟨b, off + i, none⟩ = some (.int .i64 (zs.getD i 0))) {k : Nat} (hk : k ≤ zs.length) : Row w (.slice (some ⟨b, off, none⟩) k cap) (zs.take k) := by
  have hl : (zs.take k).length = k := by rw [List.length_take]; omega
  refine ⟨_, cap, by rw [hl], .inr ⟨b, off, rfl, hb, fun i hi => ?_⟩⟩
  rw [hl] at hi
  rw [hc i (by omega)]
  simp [List.getD, hi]
theorem row_drop {w : World} {b off cap : Nat} {zs : List Int} (hb : b < w.heap.size) (hc : ∀ i, i < zs.length → w.cell? ⟨b, off + i, none⟩ = some (.int .i64 (zs.getD i 0))) {k : Nat} (hk : k ≤ zs.length) : Row w (.slice (some ⟨b, off + k, none⟩) (zs.length - k) cap) (zs.drop k) := by
  have hl : (zs.drop k).length = zs.length - k := by rw [List.length_drop]
  refine ⟨_, cap, by rw [hl], .inr ⟨b, off + k, rfl, hb, fun i hi => ?_⟩⟩
  rw [hl] at hi
  rw [Nat.add_assoc, hc (k + i) (by omega)]
  simp [List.getD]
theorem row_zero {w : World} {a : Option Addr} {cap n : Nat} {zs : List Int} (hn : n = 0) (hz : zs = []) : Row w (.slice a n cap) zs := by subst hn hz; exact ⟨a, cap, rfl, .inl rfl⟩
theorem row_none {w : World} {a : Option Addr} {cap : Nat} {zs : List Int} (hz : zs = []) : Row w (.slice a 0 cap) zs := by subst hz; exact ⟨a, cap, rfl, .inl rfl⟩
theorem walk (a0 : Option Addr) (len0 cap0 : Nat) (z0 : List Int) (w : World) (w0 : IsRow .u8 w a0 len0 cap0 z0) :
    Calls Try.prog 7 #[.slice a0 len0 cap0] w fun e w' => e = .returned (.bool true) ∧ Below w.heap.size w w' := by
  obtain ⟨hby, hcp, hn⟩ := bytes_of w0
  have HB0 := Lib.hid hby
  clear hby w0
  by_cases h0 : 1048576 < len0
  · go_enter Try.func7, Try.ntmps7
    go_wp2
    go_ret
    exact ⟨rfl, Below.refl _ _⟩
  · have h0' : len0 ≤ 1048576 := by omega
    clear h0
    go_enter Try.func7, Try.ntmps7
    go_wp2_with fail
    refine (dDrawPathMeasure a0 len0 cap0 w HB0.out hcp (by omega)).mono ?_
    rintro e w0 ⟨m, zs, s, rfl, hz5, hrc, hb0⟩
    obtain ⟨v, hv⟩ : ∃ v, v = rPath m zs := ⟨_, rfl⟩
    have HR := Lib.hid hrc
    have E1 := Lib.hid hv.symm
    clear hrc hv
    cases hbp : bPath m zs
    · have E2 := Lib.hid (show v = 0 by rw [← E1.out]; exact rPath_no hbp)
      have HB := Lib.hid hbp
      clear hbp
      go_wp2_with fail
      refine (iPathN HB.out E1.out HR.out.row (by omega)).mono ?_
      rintro e w1 ⟨rfl, hb1⟩
      go_wp2_with fail
      refine (sPathN HB.out E1.out (HR.out.row.below hb1) (by omega)).mono ?_
      rintro e w2 ⟨rfl, rfl⟩
      go_wp2
      go_ret
      exact ⟨rfl, bel_trans hb0 hb1⟩
    · have HB := Lib.hid hbp
      have HVI := Lib.hid (show mIs m v = true by rw [← E1.out]; exact mIs_mk (bPath_parts hbp).1 (rPath_in hbp))
      clear hbp
      go_wp2_with fail
      refine (iPathN HB.out E1.out HR.out.row (by omega)).mono ?_
      rintro e w1 ⟨rfl, hb1⟩
      go_wp2_with fail
      refine (sPathN HB.out E1.out (HR.out.row.below hb1) (by omega)).mono ?_
      rintro e w2 ⟨rfl, rfl⟩
      have HR1 := Lib.hid (HR.out.below hb1)
      have hbel1 := bel_trans hb0 hb1
      clear hb0 hb1
      rcases HR1.out with ⟨rfl, hz⟩ | ⟨b, off, cp, rfl, hzc, hb, hc⟩
      · have HZ := Lib.hid hz
        have hz0 : zs.length ≤ 0 := by rw [hz]; simp
        clear hz
        go_wp2_with fail
        go_loopw [9] (fun c wr => ∃ k : Nat, k ≤ 1 ∧ c = .int .i64 k ∧ Below w.heap.size w wr) (fun c _ => 1 - (intOf c).toNat)
        case atStart => exact ⟨0, Nat.zero_le _, rfl, hbel1⟩
        case round =>
          obtain ⟨k, hk, rfl, hbel⟩ := hrel
          by_cases hk0 : k < 1
          · obtain rfl : k = 0 := by omega
            have HT := Lib.hid (show bTwo m v v = true ∧ mJoin m v v = v by
              have h1 := path_split HB.out 0
              rw [HZ.out] at h1
              simp only [List.take_nil, List.drop_nil] at h1
              rw [← HZ.out, E1.out] at h1
              exact ⟨bTwo_is HVI.out HVI.out, h1⟩)
            have HT1 := Lib.hid HT.out.1
            have HT2 := Lib.hid HT.out.2
            go_wp2_with fail
            refine (iPathN HB.out E1.out (row_none HZ.out) (by omega)).mono ?_
            rintro e wa ⟨rfl, hba⟩
            go_wp2_with fail
            refine (iPathN HB.out E1.out (row_none HZ.out) (by omega)).mono ?_
            rintro e wb ⟨rfl, hbb⟩
            go_wp2_with (first | (go_at_call 16; (with_reducible refine (iExtY HT1 HT2 _).mono ?_); rintro e w8 ⟨rfl, hb8⟩))
            go_roundw
            case rel => first | exact ⟨1, by omega, rfl, bel_trans (bel_trans (bel_trans hbel hba) hbb) hb8⟩ | ((repeat apply Exists.intro); exact ⟨⟨1, by omega, rfl, bel_trans (bel_trans (bel_trans hbel hba) hbb) hb8⟩, rfl⟩)
            case measure => simp [intOf]
          · obtain rfl : k = 1 := by omega
            go_wp2_with (first | (go_at_call 19; (with_reducible refine (iValIs HVI _).mono ?_); rintro e w9 ⟨rfl, hb9⟩))
            go_ret
            exact ⟨rfl, bel_trans hbel hb9⟩
      · have HC := Lib.hid hc
        have HBB := Lib.hid hb
        clear hc
        have hsz : w1.heap.size ≤ w1.heap.size := Nat.le_refl _
        go_wp2_with fail
        go_loopw [9] (fun c wr => ∃ k : Nat, k ≤ zs.length + 1 ∧ c = .int .i64 k ∧ Below w1.heap.size w1 wr) (fun c _ => zs.length + 1 - (intOf c).toNat)
        case atStart => exact ⟨0, Nat.zero_le _, rfl, Below.refl _ _⟩
        case round =>
          obtain ⟨k, hk, rfl, hbel⟩ := hrel
          by_cases hk0 : k ≤ zs.length
          · have hk0' : (k : Int) ≤ zs.length := by omega
            obtain ⟨x, hx⟩ : ∃ x, x = rPath m (zs.take k) := ⟨_, rfl⟩
            obtain ⟨y, hy⟩ : ∃ y, y = rPath m (zs.drop k) := ⟨_, rfl⟩
            have HX := Lib.hid hx.symm
            have HY := Lib.hid hy.symm
            have hp := bPath_parts HB.out
            have HT1 := Lib.hid (show bTwo m x y = true by rw [hx, hy]; exact mTwo hp.1 (rPath_in (bPath_take HB.out k)) (rPath_in (bPath_drop HB.out k)))
            have HT2 := Lib.hid (show mJoin m x y = v by rw [hx, hy, path_split HB.out k]; exact E1.out)
            clear hx hy hp
            have hlt : (zs.take k).length ≤ 1048576 := by rw [List.length_take]; omega
            have hld : (zs.drop k).length ≤ 1048576 := by rw [List.length_drop]; omega
            have hcw : Hid (∀ i, i < zs.length → wr.cell? ⟨b, off + i, none⟩ = some (.int .i64 (zs.getD i 0))) := fun i hi => by rw [hbel.cell (p := ⟨b, off + i, none⟩) HBB.out]; exact HC.out i hi
            have hbw : b < wr.heap.size := Nat.lt_of_lt_of_le HBB.out hbel.size
            by_cases hcap : k = cp
            · have hke : zs.length = k := by omega
              have HD := Lib.hid (show zs.drop k = [] by rw [← hke, List.drop_length])
              have HK0 := Lib.hid (show zs.length - k = 0 by omega)
              have hk1 : ¬ (k < cp) := by omega
              clear hcap hke
              go_wp2_with fail
              refine (iPathN (bPath_take HB.out k) HX.out (row_take hbw hcw.out hk0) hlt).mono ?_
              rintro e wa ⟨rfl, hba⟩
              go_wp2_with fail
              refine (iPathN (bPath_drop HB.out k) HY.out (row_zero HK0.out HD.out) hld).mono ?_
              rintro e wb ⟨rfl, hbb⟩
              go_wp2_with (first | (go_at_call 16; (with_reducible refine (iExtY HT1 HT2 _).mono ?_); rintro e w8 ⟨rfl, hb8⟩))
              go_roundw
              case rel => first | exact ⟨k + 1, by omega, by go_num, bel_trans (bel_trans (bel_trans hbel hba) hbb) hb8⟩ | ((repeat apply Exists.intro); exact ⟨⟨k + 1, by omega, by go_num, bel_trans (bel_trans (bel_trans hbel hba) hbb) hb8⟩, rfl⟩)
              case measure => simp [intOf]; omega
            · have hk1 : k < cp := by omega
              clear hcap
              go_wp2_with fail
              refine (iPathN (bPath_take HB.out k) HX.out (row_take hbw hcw.out hk0) hlt).mono ?_
              rintro e wa ⟨rfl, hba⟩
              go_wp2_with fail
              refine (iPathN (bPath_drop HB.out k) HY.out (row_drop (by have := hba.size; omega) (fun i hi => by rw [hba.cell (p := ⟨b, off + i, none⟩) hbw]; exact hcw.out i hi) hk0) hld).mono ?_
              rintro e wb ⟨rfl, hbb⟩
              go_wp2_with (first | (go_at_call 16; (with_reducible refine (iExtY HT1 HT2 _).mono ?_); rintro e w8 ⟨rfl, hb8⟩))
              go_roundw
              case rel => first | exact ⟨k + 1, by omega, by go_num, bel_trans (bel_trans (bel_trans hbel hba) hbb) hb8⟩ | ((repeat apply Exists.intro); exact ⟨⟨k + 1, by omega, by go_num, bel_trans (bel_trans (bel_trans hbel hba) hbb) hb8⟩, rfl⟩)
              case measure => simp [intOf]; omega
          · have hk1 : ¬ ((k : Int) ≤ zs.length) := by omega
            go_wp2_with (first | (go_at_call 19; (with_reducible refine (iValIs HVI _).mono ?_); rintro e w9 ⟨rfl, hb9⟩))
            go_ret
            exact ⟨rfl, bel_trans (bel_trans hbel1 hbel) hb9⟩

set_option maxRecDepth 100000 in
theorem lifted (os : Os) (started : os.Started) (H : Type) (enc : TypeId × Value → H) :
    ReturnsInHanded {} Try.checked os 7 .any (Rows.fnPathMeasureSpec.pre6 enc Try.prog Try.f7 Rows.fnPathMeasureRow.domain false) (Rows.fnPathMeasureSpec.post enc Try.prog Try.f7 false true false false) := by
  refine returnsInHanded_of_change (C := Try.checked) own started (by kernel_rfl) Try.func7
    (ChangeSpec.witness6 (enc := enc) (C := Try.checked) false ⟨#[], #[.slice none 0 0], []⟩ 8 (by kernel_rfl) (by kernel_rfl) (by kernel_rfl) (by kernel_rfl)) ?_
  intro W base args ds gs before hval0 hW hcnd _
  have hval : ∀ (j : Nat) t v, Try.f7.params[j]? = some t → args[j]? = some v → Value.okWide Try.prog W .any base t v := hval0
  have hW' := hW
  obtain ⟨p, q, hA0, hV, rfl, hfz, hnd⟩ := hW
  have hA : DataW.TrodAll enc Try.prog W 0 (fun _ => true) true Try.f7.params.toList args.toList ds p := hA0
  rw [Try.params7] at hA hval
  obtain ⟨v0, vs0, d0, ds0, p0, q0, hargs, rfl, rfl, h0, r0⟩ := trodAll_cons hA
  obtain ⟨rfl, rfl, rfl⟩ := trodAll_nil r0
  obtain rfl : args = #[v0] := by cases args; simp_all
  obtain ⟨rfl, rfl⟩ := trodVars_none hV
  obtain ⟨a0, len0, cap0, rfl⟩ := okWide_slice Try.underlying22 (hval 0 22 v0 rfl rfl)
  have k0 := h0
  have lt0 : ∀ x ∈ p0, x.block < W.heap.size := by obtain ⟨m, hm⟩ := k0; exact DataW.trod_lt m _ _ _ hm
  obtain ⟨z0, w0⟩ : ∃ zs, IsRow .u8 W a0 len0 cap0 zs := by
    obtain ⟨fuel, hf⟩ := h0
    rcases open_ints Try.underlying22 Try.underlying5 (by kernel_rfl) hf with ⟨hcs, _⟩ | ⟨x, l, c, zs, hcs, _, hl, hm, hz, _, hcell, hwz⟩
    · simp [Value.cells] at hcs
      obtain ⟨rfl, rfl, rfl⟩ := hcs
      exact ⟨[], .inl ⟨rfl, rfl, rfl, rfl⟩⟩
    · simp [Value.cells] at hcs
      obtain ⟨rfl, rfl, rfl⟩ := hcs
      exact ⟨zs, .inr ⟨_, rfl, hl, hm, by simpa using hz, hcell, hwz⟩⟩
  clear hA0 hval0
  refine (walk a0 len0 cap0 z0 W w0).mono fun e W' ⟨he, bel⟩ => ?_
  subst he
  exact ⟨_, rfl, _, _, _, [], _, [], hW', trodAll_mk1 (shut_bool Try.underlying4 _), (trodAll_cons_mk (Below.trod laidOut (by kernel_rfl) (of_decide_eq_true (by kernel_rfl)) k0 bel lt0) trodAll_mk0), rfl, bel.frame _, fun h => by cases h⟩

theorem over : Rows.fnPathMeasureRow.holds Try.pinned (OpenSpec.ofChange Rows.fnPathMeasureSpec) :=
  OpenClaim.holds_of_wide 7 Try.f7 rfl rfl rfl rfl rfl rfl rfl ⟨rfl, rfl, rfl, rfl, rfl⟩ rfl rfl rfl rfl rfl (by kernel_rfl) Try.func7 (by kernel_rfl)
    (of_decide_eq_true (by kernel_rfl)) (by unfold Func.isWrapper; first | (rw [if_pos (by decide +kernel)]; kernel_rfl) | (rw [if_neg (by decide +kernel)]; exact ⟨rfl, rfl⟩))
    (fun os started H enc _ => lifted os started H enc)

theorem proved : Rows.FnPathMeasureSaid := over
end Go.Proofs.Ytmiomafgfeofnaa.fnPathMeasure
