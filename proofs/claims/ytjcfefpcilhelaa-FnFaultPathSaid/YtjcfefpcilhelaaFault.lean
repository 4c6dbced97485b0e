/- FirstFault, in the program and in the model. -/
import Derived.Test.YtjcfefpcilhelaaRowAt
import Derived.Test.YtjcfefpcilhelaaRelaxJ
import Derived.Test.YtjcfefpcilhelaaFind3
import Derived.Test.YtjcfefpcilhelaaRight
import Derived.Test.YtjcfefpcilhelaaViewT
import Derived.Test.YtjcfefpcilhelaaBoxes
import Derived.Test.YtjcfefpcilhelaaVValS
namespace Go.Proofs.Ytjcfefpcilhelaa
open Go.RowKit Go.BigFrame Go.Deep
set_option linter.unusedVariables false
set_option linter.unusedSimpArgs false

/-- The first number at which lists differ. -/
def ffK (zs rs : List Int) : Option Nat := (List.range zs.length).find? (fun i => zs.getD i 0 != rs.getD i 0)
def ffO : Option Nat → Int | some i => (i : Int) | none => 0
def ffR (n : Int) (es : List Ed) (m a : Int) (zs : List Int) : Option Nat := if vVal n es m a zs = true then ffK zs (vIter m es n.toNat (vStart m n a)) else none
theorem ffK_hit {zs rs : List Int} {k : Nat} (hk : k < zs.length) (hb : ∀ i, i < k → zs.getD i 0 = rs.getD i 0) (h : (zs.getD k 0 != rs.getD k 0) = true) : ffK zs rs = some k := by
  unfold ffK
  rw [List.find?_range_eq_some]
  exact ⟨h, List.mem_range.2 hk, fun j hj => by rw [hb j hj]; simp⟩
theorem ffK_some {zs rs : List Int} {k : Nat} (h : ffK zs rs = some k) : k < zs.length ∧ zs.getD k 0 ≠ rs.getD k 0 ∧ ∀ j, j < k → zs.getD j 0 = rs.getD j 0 := by
  unfold ffK at h
  rw [List.find?_range_eq_some] at h
  obtain ⟨h1, h2, h3⟩ := h
  exact ⟨List.mem_range.1 h2, by simpa using h1, fun j hj => by have := h3 j hj; simpa using this⟩
theorem ffK_ne {zs rs : List Int} {k : Nat} (h : ffK zs rs = some k) : zs ≠ rs := fun e => (ffK_some h).2.1 (by rw [e])
theorem ffK_eq {zs rs : List Int} (h : ffK zs rs = none) (hl : zs.length = rs.length) : zs = rs := by
  unfold ffK at h
  rw [List.find?_range_eq_none] at h
  exact eq_of_at hl (fun i hi => by have := h i hi; simpa using this)
theorem ffK_none {zs rs : List Int} (h : ∀ i, i < zs.length → zs.getD i 0 = rs.getD i 0) : ffK zs rs = none := by
  unfold ffK
  rw [List.find?_range_eq_none]
  exact fun j hj => by rw [h j hj]; simp

set_option maxRecDepth 20000 in
set_option maxHeartbeats 4000000 in
theorem firstFault (n m a : Int) (es : List Ed) (zs : List Int) (s t : Value) (w : World) (hs : RowE w s es) (ht : Row w t zs) (hl : es.length ≤ 281474976710656) (hl2 : zs.length ≤ 281474976710656) :
    Calls Try.prog 26 #[.agg #[.int .i64 n, s], .agg #[.int .i64 m, .int .i64 a, t]] w fun e w' => e = .returned (.tuple #[.int .i64 (ffO (ffR n es m a zs)), .bool (ffR n es m a zs).isSome]) ∧ Below w.heap.size w w' := by
  have hB : ∀ (A B : Obj), Below w.heap.size w ((w.alloc A).alloc B) := fun A B => ((Below.refl _ _).alloc (Nat.le_refl _) _).alloc (by simp) _
  have ho := fun A B => opsOfView n m a es zs s t ((w.alloc A).alloc B) (hs.keep (hB A B)) (ht.keep (hB A B)) hl hl2
  have hS := Lib.hid hs
  have hT := Lib.hid ht
  obtain ⟨ad, cap, rfl, hz0⟩ := hs
  obtain ⟨ad2, cap2, rfl, hy0⟩ := ht
  have HB := Lib.hid hB
  clear hz0 hB hy0
  unfold ffR
  cases hV : vVal n es m a zs
  · rw [hV] at ho
    rw [if_neg (by decide)]
    have HO := Lib.hid ho
    clear ho hV
    go_enter Try.func26, Try.ntmps26
    go_wp2_with (go_at_call 59; refine (HO.out _ _).mono ?_; rintro e w1 ⟨rfl, hb1⟩)
    go_ret2
    exact ⟨rfl, bel_trans (HB.out _ _) hb1⟩
  rw [hV] at ho
  rw [if_pos rfl]
  obtain ⟨hg, ha, hzn, hm, hva⟩ := vVal_pts hV
  obtain ⟨g1, g2, g3, _⟩ := gVal_parts hg
  have hea := eAll_of hg
  obtain ⟨N, rfl⟩ : ∃ N : Nat, n = N := ⟨n.toNat, by omega⟩
  obtain ⟨A0, rfl⟩ : ∃ A0 : Nat, a = A0 := ⟨a.toNat, by omega⟩
  rw [Int.toNat_natCast] at hea ⊢
  have hlen : (vIter m es N (vStart m N A0)).length = N := by rw [vIter_length, vStart_length, Int.toNat_natCast]
  obtain ⟨L, hL⟩ : ∃ L, L = vIter m es N (vStart m N A0) := ⟨_, rfl⟩
  have hr := fun w' (h : Below w.heap.size w w') => rightValues m es N A0 (.slice ad es.length cap) w' hm (hS.out.keep h) (by omega) (by omega) (by omega) hea
  rw [← hL] at hr hlen ⊢
  have e1 : opsR m true = opsV m := rfl
  rw [e1] at ho
  obtain ⟨O, hO⟩ : ∃ O, O = opsV m := ⟨_, rfl⟩
  rw [← hO] at ho hr
  have HO := Lib.hid ho
  have HR := Lib.hid hr
  have hN0 : 0 < zs.length := by omega
  have HN := Lib.hid (And.intro hzn hlen)
  obtain ⟨b2, off2, cap3, hse, hb2, hc2⟩ := hT.out.at hN0
  injection hse with hsa _ hsc
  subst hsa hsc
  have HC2 := Lib.hid (And.intro hb2 hc2)
  have hbx0 : Box ((w.alloc (.cells #[.int .i64 N, .slice ad es.length cap] 25)).alloc (.cells #[.int .i64 m, .int .i64 A0, .slice (some ⟨b2, off2, none⟩) zs.length cap2] 30)) (w.heap.size + 1) 30 #[.int .i64 m, .int .i64 A0, .slice (some ⟨b2, off2, none⟩) zs.length cap2] := by
    have := Box.new (w.alloc (.cells #[.int .i64 N, .slice ad es.length cap] 25)) 30 #[.int .i64 m, .int .i64 A0, .slice (some ⟨b2, off2, none⟩) zs.length cap2]
    simpa using this
  have HBX := Lib.hid (And.intro ((Box.new w 25 #[.int .i64 N, .slice ad es.length cap]).alloc (.cells #[.int .i64 m, .int .i64 A0, .slice (some ⟨b2, off2, none⟩) zs.length cap2] 30)) hbx0)
  clear ho hr hO hL e1 hV hg hva hea hzn hlen hb2 hc2 hbx0
  go_enter Try.func26, Try.ntmps26
  go_wp2_with (first | (go_at_call 59; refine (HO.out _ _).mono ?_; rintro e w1 ⟨rfl, hb1⟩; have K1 := Lib.hid (And.intro (bel_trans (HB.out _ _) hb1) (And.intro (HBX.out.1.keep hb1) (HBX.out.2.keep hb1))); have x0 : w1.cell? ⟨w.heap.size, 0, none⟩ = some (.int .i64 N) := (by simpa using K1.out.2.1.cell 0); have x1 : w1.cell? ⟨w.heap.size, 1, none⟩ = some (.slice ad es.length cap) := (by simpa using K1.out.2.1.cell 1); have y1 : w1.cell? ⟨w.heap.size + 1, 1, none⟩ = some (.int .i64 A0) := (by simpa using K1.out.2.2.cell 1); clear hb1) | (go_at_call 56; (with_reducible refine (HR.out _ K1.out.1).mono ?_); rintro e w2 ⟨u, r, rfl, hou, hok, hfs, hb2⟩; obtain ⟨ub, uo, uc, rfl, hub, huc⟩ := (InR.rowI hou).at (i := 0) (by have := HN.out; omega); have HU := Lib.hid huc; have K2 := Lib.hid (And.intro (bel_trans K1.out.1 hb2) (And.intro (K1.out.2.1.keep hb2) (K1.out.2.2.keep hb2))); clear x0 x1 y1 hou hok hfs hb2; have y2 : w2.cell? ⟨w.heap.size + 1, 2, none⟩ = some (.slice (some ⟨b2, off2, none⟩) zs.length cap2) := (by simpa using K2.out.2.2.cell 2)))
  go_loop [31] (fun c => ∃ k : Nat, k ≤ zs.length ∧ c = .int .i64 k ∧ ∀ i, i < k → zs.getD i 0 = L.getD i 0) (fun c => zs.length - (intOf c).toNat)
  case atStart => exact ⟨0, Nat.zero_le _, rfl, fun i hi => absurd hi (Nat.not_lt_zero _)⟩
  case round =>
    obtain ⟨k, hk, rfl, hall⟩ := hrel
    have HA := Lib.hid hall
    clear hall
    by_cases hlt : k < zs.length
    · have hlt' : (k : Int) < zs.length := by omega
      have hlu : (k : Int) < L.length := by have := HN.out; omega
      obtain ⟨x, hx⟩ : ∃ x, x = zs.getD k 0 := ⟨_, rfl⟩
      obtain ⟨y, hy⟩ : ∃ y, y = L.getD k 0 := ⟨_, rfl⟩
      have c1 := (K2.out.1.cell (p := ⟨b2, off2 + k, none⟩) HC2.out.1).trans (HC2.out.2 k hlt)
      have c2 := HU.out k (by omega)
      rw [← hx] at c1
      rw [← hy] at c2
      have HXY := Lib.hid (And.intro hx hy)
      clear hx hy
      cases hd : (x != y)
      · have hn : Hid (∀ i, i < k + 1 → zs.getD i 0 = L.getD i 0) := Lib.hid (fun i hi => by
          by_cases h : i = k
          · subst h
            rw [← HXY.out.1, ← HXY.out.2]
            simpa using hd
          · exact HA.out i (by omega))
        go_wp2
        go_round
        case rel => exact ⟨k + 1, by omega, by go_num, hn.out⟩
        case measure => simp [intOf]; omega
      · have hres : Hid (ffK zs L = some k) := Lib.hid (ffK_hit hlt HA.out (by rw [← HXY.out.1, ← HXY.out.2]; exact hd))
        go_wp2
        go_ret2
        exact ⟨by rw [hres.out]; rfl, K2.out.1⟩
    · have hkk : ¬ ((k : Int) < zs.length) := by omega
      have hres : Hid (ffK zs L = none) := Lib.hid (ffK_none (fun i hi => HA.out i (by omega)))
      go_wp2
      go_ret2
      exact ⟨by rw [hres.out]; rfl, K2.out.1⟩

set_option maxRecDepth 20000 in
set_option maxHeartbeats 4000000 in
theorem sFirstFault (n m a : Int) (es : List Ed) (zs : List Int) (s t : Value) (w : World) (hs : RowE w s es) (ht : Row w t zs) (hl : es.length ≤ 281474976710656) (hl2 : zs.length ≤ 281474976710656) :
    Calls Try.prog 27 #[.agg #[.int .i64 n, s], .agg #[.int .i64 m, .int .i64 a, t]] w fun e w' => e = .returned (.tuple #[.int .i64 (ffO (ffR n es m a zs)), .bool (ffR n es m a zs).isSome]) ∧ Below w.heap.size w w' := by
  have hB : ∀ (A B : Obj), Below w.heap.size w ((w.alloc A).alloc B) := fun A B => ((Below.refl _ _).alloc (Nat.le_refl _) _).alloc (by simp) _
  have hv := fun w' (h : Below w.heap.size w w') => sViewValid n m a es zs s t w' (hs.keep h) (ht.keep h) hl hl2
  have hS := Lib.hid hs
  have hT := Lib.hid ht
  obtain ⟨ad, cap, rfl, hz0⟩ := hs
  obtain ⟨ad2, cap2, rfl, hy0⟩ := ht
  have HB := Lib.hid hB
  clear hz0 hB hy0
  unfold ffR
  cases hV : vVal n es m a zs
  · rw [hV] at hv
    rw [if_neg (by decide)]
    have HV := Lib.hid hv
    clear hv hV
    go_enter Try.func27, Try.ntmps27
    go_wp2_with (go_at_call 61; refine (HV.out _ (HB.out _ _)).mono ?_; rintro e w1 ⟨rfl, hb1⟩)
    go_ret2
    exact ⟨rfl, bel_trans (HB.out _ _) hb1⟩
  rw [hV] at hv
  rw [if_pos rfl]
  obtain ⟨hg, ha, hzn, hm, hva⟩ := vVal_pts hV
  obtain ⟨g1, g2, g3, _⟩ := gVal_parts hg
  have hea := eAll_of hg
  obtain ⟨N, rfl⟩ : ∃ N : Nat, n = N := ⟨n.toNat, by omega⟩
  obtain ⟨A0, rfl⟩ : ∃ A0 : Nat, a = A0 := ⟨a.toNat, by omega⟩
  rw [Int.toNat_natCast] at hea ⊢
  have hlen : (vIter m es N (vStart m N A0)).length = N := by rw [vIter_length, vStart_length, Int.toNat_natCast]
  obtain ⟨L, hL⟩ : ∃ L, L = vIter m es N (vStart m N A0) := ⟨_, rfl⟩
  have hr := fun w' (h : Below w.heap.size w w') => l3View m es N A0 (.slice ad es.length cap) w' hm (hS.out.keep h) (by omega) (by omega) (by omega) hea
  rw [← hL] at hr hlen ⊢
  have HV := Lib.hid hv
  have HR := Lib.hid hr
  have hN0 : 0 < zs.length := by omega
  have HN := Lib.hid (And.intro hzn hlen)
  obtain ⟨b2, off2, cap3, hse, hb2, hc2⟩ := hT.out.at hN0
  injection hse with hsa _ hsc
  subst hsa hsc
  have HC2 := Lib.hid (And.intro hb2 hc2)
  have hbx0 : Box ((w.alloc (.cells #[.int .i64 N, .slice ad es.length cap] 25)).alloc (.cells #[.int .i64 m, .int .i64 A0, .slice (some ⟨b2, off2, none⟩) zs.length cap2] 30)) (w.heap.size + 1) 30 #[.int .i64 m, .int .i64 A0, .slice (some ⟨b2, off2, none⟩) zs.length cap2] := by
    have := Box.new (w.alloc (.cells #[.int .i64 N, .slice ad es.length cap] 25)) 30 #[.int .i64 m, .int .i64 A0, .slice (some ⟨b2, off2, none⟩) zs.length cap2]
    simpa using this
  have HBX := Lib.hid (And.intro ((Box.new w 25 #[.int .i64 N, .slice ad es.length cap]).alloc (.cells #[.int .i64 m, .int .i64 A0, .slice (some ⟨b2, off2, none⟩) zs.length cap2] 30)) hbx0)
  clear hv hr hL hV hg hva hea hzn hlen hb2 hc2 hbx0
  go_enter Try.func27, Try.ntmps27
  go_wp2_with (first | (go_at_call 61; refine (HV.out _ (HB.out _ _)).mono ?_; rintro e w1 ⟨rfl, hb1⟩; have K1 := Lib.hid (And.intro (bel_trans (HB.out _ _) hb1) (And.intro (HBX.out.1.keep hb1) (HBX.out.2.keep hb1))); have x0 : w1.cell? ⟨w.heap.size, 0, none⟩ = some (.int .i64 N) := (by simpa using K1.out.2.1.cell 0); have x1 : w1.cell? ⟨w.heap.size, 1, none⟩ = some (.slice ad es.length cap) := (by simpa using K1.out.2.1.cell 1); have y0 : w1.cell? ⟨w.heap.size + 1, 0, none⟩ = some (.int .i64 m) := (by simpa using K1.out.2.2.cell 0); have y1 : w1.cell? ⟨w.heap.size + 1, 1, none⟩ = some (.int .i64 A0) := (by simpa using K1.out.2.2.cell 1); clear hb1) | (go_at_call 58; (with_reducible refine (HR.out _ K1.out.1).mono ?_); rintro e w2 ⟨u, rfl, hou, hok, hb2⟩; obtain ⟨ub, uo, uc, rfl, hub, huc⟩ := (InR.rowI hou).at (i := 0) (by have := HN.out; omega); have HU := Lib.hid (And.intro hub huc); have K2 := Lib.hid (And.intro (bel_trans K1.out.1 hb2) (And.intro (K1.out.2.1.keep hb2) (K1.out.2.2.keep hb2))); clear x0 x1 y0 y1 hou hok hb2 hub huc))
  have K3 := Lib.hid (And.intro (K2.out.1.alloc K2.out.1.size (.cells #[.int .i64 m, .int .i64 A0, .slice (some ⟨ub, uo, none⟩) L.length uc] 30)) (And.intro (K2.out.2.1.alloc (.cells #[.int .i64 m, .int .i64 A0, .slice (some ⟨ub, uo, none⟩) L.length uc] 30)) (And.intro (K2.out.2.2.alloc (.cells #[.int .i64 m, .int .i64 A0, .slice (some ⟨ub, uo, none⟩) L.length uc] 30)) (Box.new w2 30 #[.int .i64 m, .int .i64 A0, .slice (some ⟨ub, uo, none⟩) L.length uc]))))
  have HU3 : Hid (ub < (w2.alloc (.cells #[.int .i64 m, .int .i64 A0, .slice (some ⟨ub, uo, none⟩) L.length uc] 30)).heap.size ∧ ∀ j, j < L.length → (w2.alloc (.cells #[.int .i64 m, .int .i64 A0, .slice (some ⟨ub, uo, none⟩) L.length uc] 30)).cell? ⟨ub, uo + j, none⟩ = some (.int .i64 (L.getD j 0))) := Lib.hid ⟨by have := HU.out.1; simp; omega, fun j hj => (((Below.refl _ w2).alloc (Nat.le_refl _) _).cell (p := ⟨ub, _, none⟩) HU.out.1).trans (HU.out.2 j hj)⟩
  generalize hW3 : (w2.alloc (.cells #[.int .i64 m, .int .i64 A0, .slice (some ⟨ub, uo, none⟩) L.length uc] 30)) = W3 at K3 HU3 ⊢
  obtain ⟨Z, hZ⟩ : ∃ Z, Z = w2.heap.size := ⟨_, rfl⟩
  rw [← hZ] at K3 ⊢
  clear hW3 hZ
  go_loopw [7] (fun c wr => ∃ k : Nat, k ≤ zs.length ∧ c = .int .i64 k ∧ (∀ i, i < k → zs.getD i 0 = L.getD i 0) ∧ Hid (Below W3.heap.size W3 wr)) (fun c _ => zs.length - (intOf c).toNat)
  case atStart => exact ⟨0, Nat.zero_le _, rfl, fun i hi => absurd hi (Nat.not_lt_zero _), Lib.hid (Below.refl _ _)⟩
  case round =>
    obtain ⟨k, hk, rfl, hall, HR3⟩ := hrel
    have HA := Lib.hid hall
    clear hall
    have x0 : wr.cell? ⟨w.heap.size, 0, none⟩ = some (.int .i64 N) := by simpa using (K3.out.2.1.keep HR3.out).cell 0
    by_cases hlt : k < zs.length
    · have hlt' : (k : Int) < zs.length := by omega
      have hlN : (k : Int) < N := by have := HN.out; omega
      have hlu : (k : Int) < L.length := by have := HN.out; omega
      obtain ⟨x, hx⟩ : ∃ x, x = zs.getD k 0 := ⟨_, rfl⟩
      obtain ⟨y, hy⟩ : ∃ y, y = L.getD k 0 := ⟨_, rfl⟩
      have hff : ∀ w', Below wr.heap.size wr w' → (w'.cell? ⟨w.heap.size + 1, 2, none⟩ = some (.slice (some ⟨b2, off2, none⟩) zs.length cap2) ∧ w'.cell? ⟨Z, 2, none⟩ = some (.slice (some ⟨ub, uo, none⟩) L.length uc) ∧ w'.cell? ⟨b2, off2 + k, none⟩ = some (.int .i64 x) ∧ w'.cell? ⟨ub, uo + k, none⟩ = some (.int .i64 y)) ∧ Below W3.heap.size W3 w' := fun w' h => by
        have hB := bel_trans HR3.out h
        exact ⟨⟨by simpa using (K3.out.2.2.1.keep hB).cell 2, by simpa using (K3.out.2.2.2.keep hB).cell 2, ((bel_trans K3.out.1 hB).cell (p := ⟨b2, _, none⟩) HC2.out.1).trans (by rw [hx]; exact HC2.out.2 k hlt), (hB.cell (p := ⟨ub, _, none⟩) HU3.out.1).trans (by rw [hy]; exact HU3.out.2 k (by omega))⟩, hB⟩
      have FF := Lib.hid hff
      have HXY := Lib.hid (And.intro hx hy)
      clear hx hy hff
      go_wp2_with fail
      refine wp_region_below (by kernel_rfl) (by kernel_rfl) ?_
      repeat (go_big_quiet_step ((intro hw; first | with_reducible rfl | (obtain ⟨⟨f0, f1, f2, f3⟩, -⟩ := FF.out _ hw; simp only [f0, f1, f2, f3, Result.andThen]; first | exact ⟨trivial, rfl⟩ | exact ⟨rfl, rfl⟩))))
      refine wpQuiet_nil ?_
      intro w4 hw4
      have H4 := Lib.hid (FF.out _ hw4).2
      clear x0 hw4
      cases hd : (y != x)
      · have hn : Hid (∀ i, i < k + 1 → zs.getD i 0 = L.getD i 0) := Lib.hid (fun i hi => by
          by_cases h : i = k
          · subst h
            rw [← HXY.out.1, ← HXY.out.2]
            have : y = x := by simpa using hd
            exact this.symm
          · exact HA.out i (by omega))
        go_wp2
        go_roundw
        case rel => first | exact ⟨k + 1, by omega, by go_num, hn.out, H4⟩ | ((repeat apply Exists.intro); exact ⟨⟨k + 1, by omega, by go_num, hn.out, H4⟩, rfl⟩)
        case measure => simp [intOf]; omega
      · have hres : Hid (ffK zs L = some k) := Lib.hid (ffK_hit hlt HA.out (by
          rw [← HXY.out.1, ← HXY.out.2]
          have : y ≠ x := by simpa using hd
          simpa using fun h => this h.symm))
        go_wp2
        go_ret2
        exact ⟨by rw [hres.out]; rfl, bel_trans K3.out.1 H4.out⟩
    · have hkk : ¬ ((k : Int) < N) := by have := HN.out; omega
      have hres : Hid (ffK zs L = none) := Lib.hid (ffK_none (fun i hi => HA.out i (by omega)))
      go_wp2
      go_ret2
      exact ⟨by rw [hres.out]; rfl, bel_trans K3.out.1 HR3.out⟩
end Go.Proofs.Ytjcfefpcilhelaa
