/-
  Proved: a path with one weight more is never better, and a path backwards has the same measure (the law FnPathOrder returns true for every input and leaves it as it was), with no further condition.
-/
import Derived.Test.YtmiomafgfeofnaaRows
import Derived.Test.YtmiomafgfeofnaaLaw
import Derived.Test.YtmiomafgfeofnaaDraw3
import Derived.Test.YtmiomafgfeofnaaPath2
import Derived.WalkKit
import Derived.ProofKit
import Derived.OpenShut
import Derived.ShutString
import Derived.ChangeOld
import Derived.Below
namespace Go.Proofs.Ytmiomafgfeofnaa.fnPathOrder
open Go.Proofs.Ytmiomafgfeofnaa Go.BigFrame
open Go.ChangeShapes Go.WideShapes Go.ChangeAt Go.RowKit
open Go.ChangeMaps (open_string shut_string)
set_option linter.unusedVariables false

theorem own : ownKnob Try.prog.godebug = none := by kernel_rfl
theorem laidOut : laidOutB Try.prog = true := by kernel_rfl

def IsRow (k : IntKind) (w : World) (a : Option Addr) (len cap : Nat) (zs : List Int) : Prop :=
  (a = none ∧ len = 0 ∧ cap = 0 ∧ zs = []) ∨
  ∃ x, a = some x ∧ len ≤ cap ∧ cap ≤ maxLen ∧ zs.length = cap ∧ (∀ i, i < zs.length → w.cell? (x.add i) = some (.int k (zs.getD i 0))) ∧ ∀ n ∈ zs, (Lit.int k n).wf = true

theorem bytes_of {w : World} {a : Option Addr} {len cap : Nat} {zs : List Int} (h : IsRow .u8 w a len cap zs) : Bytes w a len ∧ len ≤ cap ∧ len ≤ 9223372036854775807 := by
  rcases h with ⟨rfl, rfl, rfl, rfl⟩ | ⟨x, rfl, hl, hm, hz, hc, hw⟩
  · exact ⟨.inl rfl, Nat.le_refl _, by omega⟩
  · unfold maxLen at hm
    refine ⟨?_, hl, by omega⟩
    by_cases h0 : len = 0
    · exact .inl h0
    · obtain ⟨b, off, rfl, hc'⟩ := ints_at hc (by omega)
      exact .inr ⟨b, off, rfl, World.block_lt_of_cell? _ _ (hc' 0 (by omega)), fun i hi => ⟨zs[i]?.getD 0, (range_u8 hw i).1, (range_u8 hw i).2, by simpa [List.getD] using hc' i (by omega)⟩⟩

theorem iPathN {m v : Int} {zs : List Int} {b : Bool} (h1 : bPath m zs = b) (h2 : rPath m zs = v) {s : Value} {w : World} (hr : Row w s zs) (hl : zs.length ≤ 1048576) :
    Calls Try.prog 26 #[.int .i64 m, s] w fun e w' => e = .returned (.tuple #[.int .i64 v, .bool b]) ∧ Below w.heap.size w w' := by
  have hc := iPathMeasure m zs s w hr hl
  rw [h1, h2] at hc
  exact hc
theorem sPathN {m v : Int} {zs : List Int} {b : Bool} (h1 : bPath m zs = b) (h2 : rPath m zs = v) {s : Value} {w : World} (hr : Row w s zs) (hl : zs.length ≤ 1048576) :
    Calls Try.prog 27 #[.int .i64 m, s] w fun e w' => e = .returned (.tuple #[.int .i64 v, .bool b]) ∧ w = w' := by
  have hc := sPathMeasure m zs s w hr hl
  rw [h1, h2] at hc
  exact hc
theorem mPath_append (m v : Int) (xs ys : List Int) : mPath m v (xs ++ ys) = mPath m (mPath m v xs) ys := by simp [mPath]
theorem mPath_from {m : Int} (hm : mKind m = true) : ∀ (ys : List Int) (a : Int), mIn m a = true → ys.all mWeight = true → mJoin m a (mPath m (mOne m) ys) = mPath m a ys := by
  intro ys
  have key : ∀ (ys : List Int) (a v : Int), mIn m a = true → mIn m v = true → ys.all mWeight = true → mJoin m a (mPath m v ys) = mPath m (mJoin m a v) ys := by
    intro ys
    induction ys with
    | nil => intro a v _ _ _; rfl
    | cons y ys ih =>
      intro a v ha hv hall
      simp only [List.all_cons, Bool.and_eq_true] at hall
      have hy := mEdge_in hm hall.1
      show mJoin m a (mPath m (mJoin m v (mEdge m y)) ys) = mPath m (mJoin m (mJoin m a v) (mEdge m y)) ys
      rw [ih a _ ha (mJoinIn hm hv hy) hall.2, mJoin_assoc hm ha hv hy]
  intro a ha hall
  rw [key ys a (mOne m) ha (mOneIn hm) hall, mJoin_oneR hm ha]
theorem bPath_parts {m : Int} {zs : List Int} (h : bPath m zs = true) : mKind m = true ∧ zs.length ≤ 50 ∧ zs.all mWeight = true := by simpa [bPath] using h
theorem bPath_mk {m : Int} {zs : List Int} (h1 : mKind m = true) (h2 : zs.length ≤ 50) (h3 : zs.all mWeight = true) : bPath m zs = true := by simp [bPath, h1, h2, h3]
theorem rPath_yes {m : Int} {zs : List Int} (h : bPath m zs = true) : rPath m zs = mPath m (mOne m) zs := by unfold rPath; rw [h]; rfl
theorem rPath_no {m : Int} {zs : List Int} (h : bPath m zs = false) : rPath m zs = 0 := by unfold rPath; rw [h]; rfl
theorem rPath_in {m : Int} {zs : List Int} (h : bPath m zs = true) : mIn m (rPath m zs) = true := by
  have hp := bPath_parts h
  rw [rPath_yes h]; exact mPath_in hp.1 zs _ (mOneIn hp.1) hp.2.2
theorem bPath_take {m : Int} {zs : List Int} (h : bPath m zs = true) (k : Nat) : bPath m (zs.take k) = true := by
  have hp := bPath_parts h
  exact bPath_mk hp.1 (by rw [List.length_take]; omega) (by rw [List.all_eq_true]; intro y hy; exact List.all_eq_true.1 hp.2.2 y (List.mem_of_mem_take hy))
theorem bPath_drop {m : Int} {zs : List Int} (h : bPath m zs = true) (k : Nat) : bPath m (zs.drop k) = true := by
  have hp := bPath_parts h
  exact bPath_mk hp.1 (by rw [List.length_drop]; omega) (by rw [List.all_eq_true]; intro y hy; exact List.all_eq_true.1 hp.2.2 y (List.mem_of_mem_drop hy))
theorem path_split {m : Int} {zs : List Int} (h : bPath m zs = true) (k : Nat) : mJoin m (rPath m (zs.take k)) (rPath m (zs.drop k)) = rPath m zs := by
  have hp := bPath_parts h
  rw [rPath_yes (bPath_take h k), rPath_yes (bPath_drop h k), rPath_yes h,
    mPath_from hp.1 (zs.drop k) _ (mPath_in hp.1 _ _ (mOneIn hp.1) (bPath_parts (bPath_take h k)).2.2) (bPath_parts (bPath_drop h k)).2.2, ← mPath_append, List.take_append_drop]
theorem mJoin_comm (m a b : Int) : mJoin m a b = mJoin m b a := by
  unfold mJoin
  split
  · rw [Int.add_comm]
  · split <;> omega
theorem path_back {m : Int} (hm : mKind m = true) : ∀ zs : List Int, zs.all mWeight = true → mPath m (mOne m) zs.reverse = mPath m (mOne m) zs := by
  intro zs
  induction zs with
  | nil => intro _; rfl
  | cons y ys ih =>
    intro hall
    simp only [List.all_cons, Bool.and_eq_true] at hall
    have hy := mEdge_in hm hall.1
    rw [List.reverse_cons, mPath_append, ih hall.2]
    show mJoin m (mPath m (mOne m) ys) (mEdge m y) = mPath m (mJoin m (mOne m) (mEdge m y)) ys
    rw [mJoin_oneL hm hy, ← mPath_from hm ys (mEdge m y) hy hall.2, mJoin_comm]
theorem bPath_back {m : Int} {zs : List Int} (h : bPath m zs = true) : bPath m zs.reverse = true ∧ rPath m zs.reverse = rPath m zs := by
  have hp := bPath_parts h
  have hb : bPath m zs.reverse = true := bPath_mk hp.1 (by simpa using hp.2.1) (by simpa using hp.2.2)
  exact ⟨hb, by rw [rPath_yes hb, rPath_yes h, path_back hp.1 zs hp.2.2]⟩
theorem bPath_more {m : Int} {zs : List Int} (h : bPath m zs = true) (hl : zs.length ≤ 5) : bPath m (zs ++ [7]) = true ∧ mBet m (rPath m (zs ++ [7])) (rPath m zs) = false := by
  have hp := bPath_parts h
  have hb : bPath m (zs ++ [7]) = true := bPath_mk hp.1 (by simp; omega) (by rw [List.all_append, hp.2.2]; rfl)
  refine ⟨hb, ?_⟩
  rw [rPath_yes hb, rPath_yes h, mPath_append]
  exact mJoin_worseL hp.1 (mPath_in hp.1 zs _ (mOneIn hp.1) hp.2.2) (mEdge_in hp.1 rfl)
theorem drop_back (zs : List Int) (j : Nat) (h : j < zs.length) : (zs.drop j).reverse = (zs.drop (j + 1)).reverse ++ [zs.getD j 0] := by
  rw [List.drop_eq_getElem_cons h, List.reverse_cons, getD_of h]
theorem news_old {w w' : World} {b off : Nat} {zs : List Int} (hc : ∀ i, i < zs.length → w.cell? ⟨b, off + i, none⟩ = some (.int .i64 (zs.getD i 0))) (hb : b < w.heap.size) (hbel : Below w.heap.size w w') :
    ∀ j u, (zs.map (Value.int .i64))[j]? = some u → w'.cell? ((⟨b, off, none⟩ : Addr).add j) = some u := by
  intro j u hj
  rw [List.getElem?_map] at hj
  cases hz : zs[j]? with
  | none => rw [hz] at hj; simp at hj
  | some x =>
    rw [hz] at hj
    simp only [Option.map_some, Option.some.injEq] at hj
    have hlt : j < zs.length := (List.getElem?_eq_some_iff.1 hz).1
    have ha : (⟨b, off, none⟩ : Addr).add j = ⟨b, off + j, none⟩ := by unfold Addr.add; split <;> simp_all
    rw [ha, hbel.cell (p := ⟨b, off + j, none⟩) hb, hc j hlt, ← hj]
    simp [List.getD, hz]
theorem one_all (zs : List Int) : ∀ u ∈ zs.map (Value.int .i64), u.oneCell' = true := by
  intro u hu
  obtain ⟨x, _, rfl⟩ := List.mem_map.1 hu
  rfl
theorem cell_one_at (w : World) (x : Value) (t : TypeId) {n : Nat} (hn : n = w.heap.size) : ∀ j u, [x][j]? = some u → (w.alloc (.cells #[x] t)).cell? ((⟨n, 0, none⟩ : Addr).add j) = some u := by subst hn; exact cell_one_new w x t
theorem walk (a0 : Option Addr) (len0 cap0 : Nat) (z0 : List Int) (w : World) (w0 : IsRow .u8 w a0 len0 cap0 z0) :
    Calls Try.prog 13 #[.slice a0 len0 cap0] w fun e w' => e = .returned (.bool true) ∧ Below w.heap.size w w' := by
  obtain ⟨hby, hcp, hn⟩ := bytes_of w0
  have HB0 := Lib.hid hby
  clear hby w0
  by_cases h0 : 1048576 < len0
  · go_enter Try.func13, Try.ntmps13
    go_wp2
    go_ret
    exact ⟨rfl, Below.refl _ _⟩
  · have h0' : len0 ≤ 1048576 := by omega
    clear h0
    go_enter Try.func13, Try.ntmps13
    go_wp2_with fail
    refine (dDrawPathMeasure a0 len0 cap0 w HB0.out hcp (by omega)).mono ?_
    rintro e w0 ⟨m, zs, s, rfl, hz5, hrc, hb0⟩
    obtain ⟨v, hv⟩ : ∃ v, v = rPath m zs := ⟨_, rfl⟩
    have HR := Lib.hid hrc
    have E1 := Lib.hid hv.symm
    clear hrc hv
    cases hbp : bPath m zs
    · have E2 := Lib.hid (show v = 0 by rw [← E1.out]; exact rPath_no hbp)
      have HB := Lib.hid hbp
      clear hbp
      go_wp2_with fail
      refine (iPathN HB.out E1.out HR.out.row (by omega)).mono ?_
      rintro e w1 ⟨rfl, hb1⟩
      go_wp2_with fail
      refine (sPathN HB.out E1.out (HR.out.row.below hb1) (by omega)).mono ?_
      rintro e w2 ⟨rfl, rfl⟩
      go_wp2
      go_ret
      exact ⟨rfl, bel_trans hb0 hb1⟩
    · have HB := Lib.hid hbp
      obtain ⟨x, hx⟩ : ∃ x, x = rPath m (zs ++ [7]) := ⟨_, rfl⟩
      have hmore := bPath_more hbp hz5
      have HM := Lib.hid hmore.1
      have EX := Lib.hid hx.symm
      have BX := Lib.hid (bBet_of (mTwo (bPath_parts hbp).1 (show mIn m x = true by rw [hx]; exact rPath_in hmore.1) (show mIn m v = true by rw [← E1.out]; exact rPath_in hbp)) (show mBet m x v = false by rw [hx, ← E1.out]; exact hmore.2))
      have HBK := Lib.hid (show bPath m zs.reverse = true ∧ rPath m zs.reverse = v by rw [← E1.out]; exact bPath_back hbp)
      clear hbp hmore hx
      go_wp2_with fail
      refine (iPathN HB.out E1.out HR.out.row (by omega)).mono ?_
      rintro e w1 ⟨rfl, hb1⟩
      go_wp2_with fail
      refine (sPathN HB.out E1.out (HR.out.row.below hb1) (by omega)).mono ?_
      rintro e w2 ⟨rfl, rfl⟩
      have HR1 := Lib.hid (HR.out.below hb1)
      have hbel1 := bel_trans hb0 hb1
      clear hb0 hb1
      obtain ⟨i0, hi, hz0, hz1, hz2⟩ := info_parts info_int'
      obtain ⟨B, hB⟩ : ∃ B, B = w1.heap.size := ⟨_, rfl⟩
      have hown0 : (w1.alloc (.cells #[] 3)).ownsRow B 3 1 (.slice (some ⟨w1.heap.size, 0, none⟩) 0 0) 0 [] := World.ownsRow_made w1 #[] 0 (by omega) (by unfold maxLen; omega) rfl
      have HBQ := Lib.hid hB
      have HI := Lib.hid (And.intro hi (And.intro hz0 (And.intro hz1 hz2)))
      have hBle : B ≤ w1.heap.size := by omega
      have hBge : w1.heap.size ≤ B := by omega
      have HO := Lib.hid hown0
      clear hB hown0
      rcases HR1.out with ⟨rfl, hz⟩ | ⟨b, off, cp, rfl, hzc, hb, hc⟩
      · have HZ := Lib.hid hz
        clear hz
        have hown2 : (w1.alloc (.cells #[] 3)).ownsRow B 3 1 (.slice (some ⟨w1.heap.size, 0, none⟩) 0 0) (0 + zs.length) ([] ++ zs.map (Value.int .i64)) := by rw [HZ.out]; exact HO.out
        have hb2 : Below w1.heap.size w1 (w1.alloc (.cells #[] 3)) := (Below.refl _ _).alloc (Nat.le_refl _) _
        have H2 := Lib.hid hown2
        have hb2q := Lib.hid hb2
        have hz0l : zs.length ≤ 0 := by rw [HZ.out]; simp
        clear hown2 hb2
        go_wp2_with (first | (at_builtin; refine wpList_append_own_none rfl (.tmp 57) (.tmp 58) 32 rfl B 3 i0 1 Try.underlying32 hi _ _ _ rfl HO.out rfl ?_) | (at_builtin; refine wpList_append_own _ rfl (.tmp 59) (.tmp 60) 32 rfl B 3 i0 (.int .i64 0) 1 8 Try.underlying32 hi hz0 hz1 hz2 rfl (by decide) _ _ _ rfl (H2.out.alloc _) ⟨w1.heap.size + 1, 0, none⟩ 1 1 [.int .i64 7] rfl rfl (cell_one_at _ _ _ (by simp)) (by simp [Value.oneCell']) (by unfold maxLen; omega) (by omega) (by simp; omega) ?_; intro v3 w3 hown3 hg3 _))
        have hb3 : Below w1.heap.size w1 w3 := (hb2q.out.alloc hb2q.out.size _).grown hg3 (by first | (simp; done) | (simp; omega)) (fun k hk => by have := (H2.out.lt k hk).1; omega)
        have hown3' : w3.ownsRow B 3 1 v3 (zs ++ [7]).length ((zs ++ [7]).map (Value.int .i64)) := by simpa using hown3
        have H3 := Lib.hid hown3'
        have hb3q := Lib.hid hb3
        clear hown3 hown3' hi hz0 hz1 hz2
        refine (iPathN HM.out EX.out (rowC_of_owns H3.out).row (by simp; omega)).mono ?_
        rintro e w4 ⟨rfl, hb4⟩
        have hb14 := bel_trans hb3q.out hb4
        have hown4 : (w4.alloc (.cells #[] 3)).ownsRow B 3 1 (.slice (some ⟨w4.heap.size, 0, none⟩) 0 0) 0 [] := World.ownsRow_made w4 #[] 0 (by have := hb14.size; omega) (by unfold maxLen; omega) rfl
        have H4 := Lib.hid hown4
        have hb14q := Lib.hid hb14
        clear hown4 hb14 hb4
        go_wp2_with fail
        go_loopw [11, 12] (fun o c wr => ∃ j : Nat, j ≤ zs.length ∧ c = .int .i64 ((j : Int) - 1) ∧ wr.ownsRow B 3 1 o (zs.drop j).reverse.length ((zs.drop j).reverse.map (Value.int .i64)) ∧ Below w1.heap.size w1 wr) (fun _ c _ => (intOf c + 1).toNat)
        case atStart => exact ⟨zs.length, Nat.le_refl _, by first | rfl | (rw [HZ.out]; rfl), by simpa using H4.out, (hb14q.out.alloc hb14q.out.size _)⟩
        case round =>
          obtain ⟨j, hj, rfl, hown, hbel⟩ := hrel
          have H5 := Lib.hid hown
          have H6 := Lib.hid hbel
          clear hown hbel
          cases j with
          | zero =>
            have hback : (zs.drop 0).reverse = zs.reverse := by simp
            have H7 := Lib.hid (show wr.ownsRow B 3 1 u11 zs.reverse.length (zs.reverse.map (Value.int .i64)) by rw [← hback]; exact H5.out)
            have hl7 : zs.reverse.length ≤ 1048576 := by simp; omega
            clear hback
            go_wp2_with fail
            refine (iPathN HBK.out.1 HBK.out.2 (rowC_of_owns H7.out).row hl7).mono ?_
            rintro e w7 ⟨rfl, hb7⟩
            go_wp2_with (first | (go_at_call 20; (with_reducible refine (iBetIs BX _).mono ?_); rintro e w8 ⟨rfl, hb8⟩))
            go_ret
            exact ⟨rfl, bel_trans (bel_trans (bel_trans hbel1 H6.out) hb7) hb8⟩
          | succ j =>
            have hlt : j < zs.length := by omega
            exact absurd hlt (by omega)
      · have HC := Lib.hid hc
        have HBB := Lib.hid hb
        have HN1 := Lib.hid (news_old (w' := w1.alloc (.cells #[] 3)) hc hb ((Below.refl _ _).alloc (Nat.le_refl _) _))
        clear hc
        go_wp2_with (first | (at_builtin; refine wpList_append_own _ rfl (.tmp 57) (.tmp 58) 32 rfl B 3 i0 (.int .i64 0) 1 8 Try.underlying32 hi hz0 hz1 hz2 rfl (by decide) _ _ _ rfl HO.out ⟨b, off, none⟩ zs.length cp (zs.map (Value.int .i64)) rfl (by simp) HN1.out (one_all zs) (by unfold maxLen; omega) (by omega) (by simp; omega) ?_; intro v2 w2 hown2 hg2 _) | (at_builtin; refine wpList_append_own _ rfl (.tmp 59) (.tmp 60) 32 rfl B 3 i0 (.int .i64 0) 1 8 Try.underlying32 hi hz0 hz1 hz2 rfl (by decide) _ _ _ rfl (hown2.alloc _) ⟨w2.heap.size, 0, none⟩ 1 1 [.int .i64 7] rfl rfl (cell_one_new _ _ _) (by simp [Value.oneCell']) (by unfold maxLen; omega) (by omega) (by have := hg2.size; simp at this ⊢; omega) ?_; intro v3 w3 hown3 hg3 _))
        have hb2 : Below w1.heap.size w1 w2 := ((Below.refl _ _).alloc (Nat.le_refl _) _).grown hg2 (by simp) (fun k hk => by have := (HO.out.lt k hk).1; omega)
        have hb3 : Below w1.heap.size w1 w3 := (hb2.alloc hb2.size _).grown hg3 (by have := hb2.size; simp; omega) (fun k hk => by have := (hown2.lt k hk).1; omega)
        clear hown2 hb2 hg2 hg3
        have hown3' : w3.ownsRow B 3 1 v3 (zs ++ [7]).length ((zs ++ [7]).map (Value.int .i64)) := by simpa using hown3
        have H3 := Lib.hid hown3'
        have hb3q := Lib.hid hb3
        clear hown3 hown3' hi hz0 hz1 hz2
        refine (iPathN HM.out EX.out (rowC_of_owns H3.out).row (by simp; omega)).mono ?_
        rintro e w4 ⟨rfl, hb4⟩
        have hb14 := bel_trans hb3q.out hb4
        have hown4 : (w4.alloc (.cells #[] 3)).ownsRow B 3 1 (.slice (some ⟨w4.heap.size, 0, none⟩) 0 0) 0 [] := World.ownsRow_made w4 #[] 0 (by have := hb14.size; omega) (by unfold maxLen; omega) rfl
        have H4 := Lib.hid hown4
        have hb14q := Lib.hid hb14
        clear hown4 hb14 hb4
        go_wp2_with fail
        go_loopw [11, 12] (fun o c wr => ∃ j : Nat, j ≤ zs.length ∧ c = .int .i64 ((j : Int) - 1) ∧ wr.ownsRow B 3 1 o (zs.drop j).reverse.length ((zs.drop j).reverse.map (Value.int .i64)) ∧ Below w1.heap.size w1 wr) (fun _ c _ => (intOf c + 1).toNat)
        case atStart => exact ⟨zs.length, Nat.le_refl _, by first | rfl | (rw [HZ.out]; rfl), by simpa using H4.out, (hb14q.out.alloc hb14q.out.size _)⟩
        case round =>
          obtain ⟨j, hj, rfl, hown, hbel⟩ := hrel
          have H5 := Lib.hid hown
          have H6 := Lib.hid hbel
          clear hown hbel
          cases j with
          | zero =>
            have hback : (zs.drop 0).reverse = zs.reverse := by simp
            have H7 := Lib.hid (show wr.ownsRow B 3 1 u11 zs.reverse.length (zs.reverse.map (Value.int .i64)) by rw [← hback]; exact H5.out)
            have hl7 : zs.reverse.length ≤ 1048576 := by simp; omega
            clear hback
            go_wp2_with fail
            refine (iPathN HBK.out.1 HBK.out.2 (rowC_of_owns H7.out).row hl7).mono ?_
            rintro e w7 ⟨rfl, hb7⟩
            go_wp2_with (first | (go_at_call 20; (with_reducible refine (iBetIs BX _).mono ?_); rintro e w8 ⟨rfl, hb8⟩))
            go_ret
            exact ⟨rfl, bel_trans (bel_trans (bel_trans hbel1 H6.out) hb7) hb8⟩
          | succ j =>
            have hlt : j < zs.length := by omega
            obtain ⟨y, hy⟩ : ∃ y, y = zs.getD j 0 := ⟨_, rfl⟩
            have hck : wr.cell? ⟨b, off + j, none⟩ = some (.int .i64 y) := by rw [H6.out.cell (p := ⟨b, off + j, none⟩) HBB.out, hy]; exact HC.out j hlt
            have hd := drop_back zs j hlt
            obtain ⟨hi, hz0, hz1, hz2⟩ := HI.out
            have hBr : B ≤ wr.heap.size := by have := H6.out.size; omega
            have hdl : (zs.drop (j + 1)).reverse.length ≤ 5 := by simp; omega
            have HY := Lib.hid hy
            have HD := Lib.hid hd
            have hjz : 0 ≤ ((j : Int) + 1) - 1 := by omega
            have hje : (((j + 1 : Nat) : Int) - 1) = (j : Int) := by omega
            rw [hje]
            clear hy hd hje hjz
            have hj0 : (0 : Int) ≤ j := by omega
            have hjl : (j : Int) < zs.length := by omega
            go_wp2_with (at_builtin; refine wpList_append_own _ rfl (.tmp 73) (.tmp 78) 32 rfl B 3 i0 (.int .i64 0) 1 8 Try.underlying32 hi hz0 hz1 hz2 rfl (by decide) _ _ _ rfl (H5.out.alloc _) ⟨wr.heap.size, 0, none⟩ 1 1 [.int .i64 y] rfl rfl (cell_one_new _ _ _) (by simp [Value.oneCell']) (by unfold maxLen; omega) (by omega) (by simp; omega) ?_; intro v6 w6 hown6 hg6 _)
            have hown6' : w6.ownsRow B 3 1 v6 (zs.drop j).reverse.length ((zs.drop j).reverse.map (Value.int .i64)) := by rw [HD.out, ← HY.out, List.length_append, List.map_append]; exact hown6
            have hb6 : Below w1.heap.size w1 w6 := (H6.out.alloc H6.out.size _).grown hg6 (by have := H6.out.size; simp; omega) (fun k hk => by have := (H5.out.lt k hk).1; omega)
            have H8 := Lib.hid hown6'
            have H9 := Lib.hid hb6
            clear hown6 hown6' hg6 hb6 hi hz0 hz1 hz2
            go_wp2
            go_roundw
            case rel => first | exact ⟨j, by omega, rfl, H8.out, H9.out⟩ | ((repeat apply Exists.intro); exact ⟨⟨j, by omega, rfl, H8.out, H9.out⟩, rfl⟩)
            case measure => simp [intOf]

set_option maxRecDepth 100000 in
theorem lifted (os : Os) (started : os.Started) (H : Type) (enc : TypeId × Value → H) :
    ReturnsInHanded {} Try.checked os 13 .any (Rows.fnPathOrderSpec.pre6 enc Try.prog Try.f13 Rows.fnPathOrderRow.domain false) (Rows.fnPathOrderSpec.post enc Try.prog Try.f13 false true false false) := by
  refine returnsInHanded_of_change (C := Try.checked) own started (by kernel_rfl) Try.func13
    (ChangeSpec.witness6 (enc := enc) (C := Try.checked) false ⟨#[], #[.slice none 0 0], []⟩ 8 (by kernel_rfl) (by kernel_rfl) (by kernel_rfl) (by kernel_rfl)) ?_
  intro W base args ds gs before hval0 hW hcnd _
  have hval : ∀ (j : Nat) t v, Try.f13.params[j]? = some t → args[j]? = some v → Value.okWide Try.prog W .any base t v := hval0
  have hW' := hW
  obtain ⟨p, q, hA0, hV, rfl, hfz, hnd⟩ := hW
  have hA : DataW.TrodAll enc Try.prog W 0 (fun _ => true) true Try.f13.params.toList args.toList ds p := hA0
  rw [Try.params13] at hA hval
  obtain ⟨v0, vs0, d0, ds0, p0, q0, hargs, rfl, rfl, h0, r0⟩ := trodAll_cons hA
  obtain ⟨rfl, rfl, rfl⟩ := trodAll_nil r0
  obtain rfl : args = #[v0] := by cases args; simp_all
  obtain ⟨rfl, rfl⟩ := trodVars_none hV
  obtain ⟨a0, len0, cap0, rfl⟩ := okWide_slice Try.underlying22 (hval 0 22 v0 rfl rfl)
  have k0 := h0
  have lt0 : ∀ x ∈ p0, x.block < W.heap.size := by obtain ⟨m, hm⟩ := k0; exact DataW.trod_lt m _ _ _ hm
  obtain ⟨z0, w0⟩ : ∃ zs, IsRow .u8 W a0 len0 cap0 zs := by
    obtain ⟨fuel, hf⟩ := h0
    rcases open_ints Try.underlying22 Try.underlying5 (by kernel_rfl) hf with ⟨hcs, _⟩ | ⟨x, l, c, zs, hcs, _, hl, hm, hz, _, hcell, hwz⟩
    · simp [Value.cells] at hcs
      obtain ⟨rfl, rfl, rfl⟩ := hcs
      exact ⟨[], .inl ⟨rfl, rfl, rfl, rfl⟩⟩
    · simp [Value.cells] at hcs
      obtain ⟨rfl, rfl, rfl⟩ := hcs
      exact ⟨zs, .inr ⟨_, rfl, hl, hm, by simpa using hz, hcell, hwz⟩⟩
  clear hA0 hval0
  refine (walk a0 len0 cap0 z0 W w0).mono fun e W' ⟨he, bel⟩ => ?_
  subst he
  exact ⟨_, rfl, _, _, _, [], _, [], hW', trodAll_mk1 (shut_bool Try.underlying4 _), (trodAll_cons_mk (Below.trod laidOut (by kernel_rfl) (of_decide_eq_true (by kernel_rfl)) k0 bel lt0) trodAll_mk0), rfl, bel.frame _, fun h => by cases h⟩

theorem over : Rows.fnPathOrderRow.holds Try.pinned (OpenSpec.ofChange Rows.fnPathOrderSpec) :=
  OpenClaim.holds_of_wide 13 Try.f13 rfl rfl rfl rfl rfl rfl rfl ⟨rfl, rfl, rfl, rfl, rfl⟩ rfl rfl rfl rfl rfl (by kernel_rfl) Try.func13 (by kernel_rfl)
    (of_decide_eq_true (by kernel_rfl)) (by unfold Func.isWrapper; first | (rw [if_pos (by decide +kernel)]; kernel_rfl) | (rw [if_neg (by decide +kernel)]; exact ⟨rfl, rfl⟩))
    (fun os started H enc _ => lifted os started H enc)

theorem proved : Rows.FnPathOrderSaid := over
end Go.Proofs.Ytmiomafgfeofnaa.fnPathOrder
