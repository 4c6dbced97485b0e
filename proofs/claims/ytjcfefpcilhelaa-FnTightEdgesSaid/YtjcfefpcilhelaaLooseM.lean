/- LooseEdges: in the program. LooseEdges: in the model. Loose edges: mathematics. -/
import Derived.Test.YtjcfefpcilhelaaOneS
import Derived.Test.YtjcfefpcilhelaaReachedS
import Derived.Test.YtjcfefpcilhelaaRelaxJ
import Derived.Test.YtjcfefpcilhelaaBoxes
import Derived.Test.YtjcfefpcilhelaaBestB
import Derived.Test.YtjcfefpcilhelaaGvInts
namespace Go.Proofs.Ytjcfefpcilhelaa
open Go.RowKit Go.BigFrame Go.Deep
set_option linter.unusedVariables false
set_option linter.unusedSimpArgs false

/-- The numbers of the loose edges among the first k. -/
def lsK (m : Int) (es : List Ed) (zs : List Int) (k : Nat) : List Int := ((List.range k).filter (fun i => vLo m zs (es.getD i (0, 0, 0)))).map (fun (i : Nat) => (i : Int))
def ls (m : Int) (es : List Ed) (zs : List Int) : List Int := lsK m es zs es.length
def lsV (n : Int) (es : List Ed) (m a : Int) (zs : List Int) : List Int := if vVal n es m a zs = true then ls m es zs else []
theorem lsK_succ (m : Int) (es : List Ed) (zs : List Int) (k : Nat) : lsK m es zs (k + 1) = lsK m es zs k ++ (if vLo m zs (es.getD k (0, 0, 0)) = true then [(k : Int)] else []) := by
  unfold lsK
  rw [List.range_succ, List.filter_append, List.map_append]
  simp only [List.filter_cons, List.filter_nil]
  generalize vLo m zs (es.getD k (0, 0, 0)) = b
  cases b <;> simp
theorem lsK_len (m : Int) (es : List Ed) (zs : List Int) (k : Nat) : (lsK m es zs k).length ≤ k := by
  unfold lsK; rw [List.length_map]; exact Nat.le_trans (List.length_filter_le _ _) (by simp)
/-- An edge of a valid graph, as numbers. -/
theorem edge_nat {N k : Nat} {es : List Ed} {x y z : Int} (he : eAll N es) (hk : k < es.length) (hx : (x, y, z) = es.getD k (0, 0, 0)) : ∃ X Y : Nat, x = X ∧ y = Y ∧ X < N ∧ Y < N ∧ mWeight z = true := by
  have hin : es.getD k (0, 0, 0) ∈ es := by simp [List.getD, hk]
  have h := he _ hin
  rw [← hx] at h
  simp only at h
  exact ⟨x.toNat, y.toNat, by have := h.1.1; omega, by have := h.2.1.1; omega, h.1.2, h.2.1.2, h.2.2⟩

set_option maxRecDepth 20000 in
set_option maxHeartbeats 4000000 in
theorem looseEdges (n m a : Int) (es : List Ed) (zs : List Int) (s t : Value) (w : World) (hs : RowE w s es) (ht : Row w t zs) (hl : es.length ≤ 281474976710656) (hl2 : zs.length ≤ 281474976710656) :
    Calls Try.prog 24 #[.agg #[.int .i64 n, s], .agg #[.int .i64 m, .int .i64 a, t]] w fun e w' => ∃ v, e = .returned v ∧ OwnI w w' v (lsV n es m a zs) ∧ Below w.heap.size w w' := by
  have hB : ∀ (A B : Obj), Below w.heap.size w ((w.alloc A).alloc B) := fun A B => ((Below.refl _ _).alloc (Nat.le_refl _) _).alloc (by simp) _
  have ho := fun A B => opsOfView n m a es zs s t ((w.alloc A).alloc B) (hs.keep (hB A B)) (ht.keep (hB A B)) hl hl2
  have hT := Lib.hid ht
  obtain ⟨ad, cap, rfl, hz0⟩ := hs
  obtain ⟨ad2, cap2, rfl, hy0⟩ := ht
  clear hy0
  have HZ := Lib.hid hz0
  have HB := Lib.hid hB
  clear hz0 hB
  unfold lsV
  cases hV : vVal n es m a zs
  · rw [hV] at ho
    rw [if_neg (by decide)]
    have HO := Lib.hid ho
    clear ho hV
    go_enter Try.func24, Try.ntmps24
    go_wp2_with (go_at_call 59; refine (HO.out _ _).mono ?_; rintro e w1 ⟨rfl, hb1⟩)
    go_ret
    exact ⟨_, rfl, ⟨none, 0, rfl, .inl rfl⟩, bel_trans (HB.out _ _) hb1⟩
  rw [hV] at ho
  rw [if_pos rfl]
  obtain ⟨hm, h0, h12, h40, hv, he⟩ := vVal_use hV
  have e1 : opsR m true = opsV m := rfl
  rw [e1] at ho
  have hlo := fun X Y z w' (hb : Below w.heap.size w w') hX hY hw => isLoose m zs (.slice ad2 zs.length cap2) X Y z w' hm (hT.out.keep hb) hX hY (by omega) hv hw
  obtain ⟨O, hO⟩ : ∃ O, O = opsV m := ⟨_, rfl⟩
  rw [← hO] at ho hlo
  have HO := Lib.hid ho
  have HLO := Lib.hid hlo
  have HE := Lib.hid he
  obtain ⟨i0, hi, hz0', hz1, hz2⟩ := info_parts info_int2
  have HI : Hid (Try.prog.info? 3 = some i0 ∧ i0.zero = some (.int .i64 0) ∧ i0.size = 1 ∧ i0.bytes = 8) := Lib.hid ⟨hi, hz0', hz1, hz2⟩
  have hbx0 : Box ((w.alloc (.cells #[.int .i64 n, .slice ad es.length cap] 25)).alloc (.cells #[.int .i64 m, .int .i64 a, .slice ad2 zs.length cap2] 30)) (w.heap.size + 1) 30 #[.int .i64 m, .int .i64 a, .slice ad2 zs.length cap2] := by
    have := Box.new (w.alloc (.cells #[.int .i64 n, .slice ad es.length cap] 25)) 30 #[.int .i64 m, .int .i64 a, .slice ad2 zs.length cap2]
    simpa using this
  have HBX := Lib.hid hbx0
  clear ho hV e1 hO hlo hv he hi hz0' hz1 hz2 hbx0 hm
  go_enter Try.func24, Try.ntmps24
  go_wp2_with (go_at_call 59; refine (HO.out _ _).mono ?_; rintro e w1 ⟨rfl, hb1⟩; have x2 := hb1.cell (p := ⟨w.heap.size, 1, none⟩) (by simp <;> omega))
  have hB1 := bel_trans (HB.out _ _) hb1
  have HX1 := Lib.hid (And.intro hB1 (HBX.out.keep hb1))
  clear x2 hb1 hB1
  go_loopw [21, 7] (fun c v wr => ∃ k : Nat, k ≤ es.length ∧ c = .int .i64 k ∧ wr.ownsRow w.heap.size 3 1 v (lsK m es zs k).length ((lsK m es zs k).map (Value.int .i64)) ∧ Hid (Below w.heap.size w wr ∧ Box wr (w.heap.size + 1) 30 #[.int .i64 m, .int .i64 a, .slice ad2 zs.length cap2])) (fun c _ _ => es.length - (intOf c).toNat)
  case atStart => exact ⟨0, Nat.zero_le _, rfl, ⟨by simp [lsK], .inl ⟨rfl, by simp [lsK]⟩⟩, HX1⟩
  case round =>
    obtain ⟨k, hk, rfl, hown, HX⟩ := hrel
    have HOW := Lib.hid hown
    clear hown
    by_cases hlt : k < es.length
    · have hlt' : (k : Int) < es.length := by omega
      rcases HZ.out with h0' | ⟨b, off, rfl, hb, hc⟩
      · rw [h0'] at hlt; simp at hlt
      obtain ⟨x, y, z, hx⟩ : ∃ x y z, (x, y, z) = es.getD k (0, 0, 0) := ⟨_, _, _, rfl⟩
      obtain ⟨X, Y, rfl, rfl, hX, hY, hwz⟩ := edge_nat HE.out hlt hx
      have h1 := hc k hlt
      rw [← hx] at h1
      simp only at h1
      have c0 := (HX.out.1.cell (p := ⟨b, off + k * 3, none⟩) hb).trans h1.1
      have c1 := (HX.out.1.cell (p := ⟨b, off + k * 3 + 1, none⟩) hb).trans h1.2.1
      have c2 := (HX.out.1.cell (p := ⟨b, off + k * 3 + 2, none⟩) hb).trans h1.2.2
      have y2 : wr.cell? ⟨w.heap.size + 1, 2, none⟩ = some (.slice ad2 zs.length cap2) := by simpa using HX.out.2.cell 2
      have hst := lsK_succ m es zs k
      rw [← hx] at hst
      have hls := HX.out.2.lt
      have hbA : Below wr.heap.size wr (wr.alloc (.cells #[.int .i64 X, .int .i64 Y, .int .i64 z] 36)) := (Below.refl _ _).alloc (Nat.le_refl _) _
      have HBA := Lib.hid (And.intro hbA (bel_trans HX.out.1 hbA))
      have HWZ := Lib.hid hwz
      clear hc h1 hx hbA hwz
      cases hpx : vLo m zs ((X : Int), (Y : Int), z)
      · rw [hpx, if_neg (by decide), List.append_nil] at hst
        have HT := Lib.hid hst
        have hcall := HLO.out X Y z _ HBA.out.2 hX hY HWZ.out
        rw [hpx] at hcall
        have HC := Lib.hid hcall
        clear hst hpx hcall
        go_wp2_with (go_at_call 65; (with_reducible refine (HC.out).mono ?_); rintro e w2 ⟨rfl, hb2⟩)
        have hb3 := bel_trans HBA.out.1 hb2
        have HX2 := Lib.hid (And.intro (bel_trans HX.out.1 hb3) (HX.out.2.keep hb3))
        go_roundw
        case rel => first | exact ⟨k + 1, by omega, by go_num, by rw [HT.out]; exact own_keep HOW.out hb3, HX2⟩ | ((repeat apply Exists.intro); exact ⟨⟨k + 1, by omega, by go_num, by rw [HT.out]; exact own_keep HOW.out hb3, HX2⟩, rfl⟩)
        case measure => simp [intOf]; omega
      · rw [hpx, if_pos rfl] at hst
        have HT := Lib.hid hst
        have hcall := HLO.out X Y z _ HBA.out.2 hX hY HWZ.out
        rw [hpx] at hcall
        have HC := Lib.hid hcall
        have hln : (lsK m es zs k).length ≤ k := lsK_len _ _ _ _
        clear hst hpx hcall
        obtain ⟨hi, hz0, hz1, hz2⟩ := HI.out
        go_wp2_with (first | (go_at_call 65; (with_reducible refine (HC.out).mono ?_); rintro e w2 ⟨rfl, hb2⟩; have hb3 := bel_trans HBA.out.1 hb2; have HX2 := Lib.hid (And.intro (bel_trans HX.out.1 hb3) (HX.out.2.keep hb3)); have HOW2 := Lib.hid (own_keep HOW.out hb3); clear hb2 hb3) | (at_builtin; refine wpList_append_own _ rfl (.tmp 31) (.tmp 33) 28 rfl w.heap.size 3 i0 (.int .i64 0) 1 8 Try.underlying28 hi hz0 hz1 hz2 rfl (by decide) _ _ _ rfl (HOW2.out.alloc _) ⟨w2.heap.size, 0, none⟩ 1 1 [.int .i64 k] rfl rfl ?c1 ?c2 ?c3 ?c4 ?c5 ?_))
        case c1 => exact cell_one_new _ _ _
        case c2 => simp [Value.oneCell']
        case c3 => unfold maxLen; omega
        case c4 => omega
        case c5 => have := HX2.out.1.size; simp; omega
        intro v' w6 hown6 hgrow6 _
        have hown6' : w6.ownsRow w.heap.size 3 1 v' (lsK m es zs (k + 1)).length ((lsK m es zs (k + 1)).map (Value.int .i64)) := by rw [HT.out]; simpa using hown6
        have H7 := Lib.hid hown6'
        have H8 := Lib.hid (And.intro ((HX2.out.1.alloc HX2.out.1.size _).grown hgrow6 (by have := HX2.out.1.size; simp; omega) (fun q hq => (HOW2.out.lt q hq).1)) ((HX2.out.2.alloc _).grown hgrow6 (HOW2.out.alloc _) (by decide)))
        clear hown6 hown6' hgrow6 hi hz0 hz1 hz2
        go_wp2
        go_roundw
        case rel => first | exact ⟨k + 1, by omega, by go_num, H7.out, H8⟩ | ((repeat apply Exists.intro); exact ⟨⟨k + 1, by omega, by go_num, H7.out, H8⟩, rfl⟩)
        case measure => simp [intOf]; omega
    · have hke : k = es.length := by omega
      have hkk : ¬ ((k : Int) < es.length) := by omega
      have HK := Lib.hid hke
      clear hke
      go_wp2
      go_ret
      refine ⟨_, rfl, OwnI.of ?_ (Nat.le_refl _), HX.out.1⟩
      rw [show ls m es zs = lsK m es zs k by unfold ls; rw [HK.out]]
      exact HOW.out
end Go.Proofs.Ytjcfefpcilhelaa
namespace Go.Proofs.Ytjcfefpcilhelaa
open Go.RowKit Go.BigFrame Go.Deep
set_option linter.unusedVariables false
set_option linter.unusedSimpArgs false

end Go.Proofs.Ytjcfefpcilhelaa
namespace Go.Proofs.Ytjcfefpcilhelaa
open Go.RowKit
set_option linter.unusedVariables false
set_option linter.unusedSimpArgs false

theorem ls_mem {m : Int} {es : List Ed} {zs : List Int} {k : Nat} (hk : k < es.length) : inL (ls m es zs) (k : Int) = vLo m zs (es.getD k (0, 0, 0)) := by
  unfold inL ls lsK
  cases h : vLo m zs (es.getD k (0, 0, 0))
  · refine decide_eq_false (fun q => ?_)
    obtain ⟨i, hi, hik⟩ := List.mem_map.1 q
    have e : i = k := by omega
    subst e
    have := (List.mem_filter.1 hi).2
    rw [h] at this
    cases this
  · exact decide_eq_true (List.mem_map.2 ⟨k, List.mem_filter.2 ⟨List.mem_range.2 hk, h⟩, rfl⟩)
theorem ls_stable {n m a : Int} {es : List Ed} {zs : List Int} (hm : mKind m = true) (he : eAll zs.length es) (hv : vAll m zs) (hV : vVal n es m a zs = true) : isB n es m a zs = decide ((ls m es zs).length = 0) := by
  have hz : ∀ k, k < es.length → es.getD k (0, 0, 0) ∈ es := fun k hk => by
    rw [show es.getD k (0, 0, 0) = es[k] by simp [List.getD, hk]]; exact List.getElem_mem hk
  cases hb : isB n es m a zs
  · symm
    refine decide_eq_false (fun q => ?_)
    have hn : ls m es zs = [] := List.eq_nil_of_length_eq_zero q
    have hf : ∀ e ∈ es, mBet m (vGive m zs e) (zs.getD e.2.1.toNat 0) = false := by
      intro e hein
      obtain ⟨k, hk, rfl⟩ := List.getElem_of_mem hein
      have h1 := ls_mem (m := m) (zs := zs) hk
      rw [hn] at h1
      have h2 : vLo m zs (es.getD k (0, 0, 0)) = false := by rw [← h1]; simp [inL]
      rw [show es.getD k (0, 0, 0) = es[k] by simp [List.getD, hk]] at h2
      exact h2
    rw [isB_of hV (relax_of_fix hm he hv hf)] at hb
    cases hb
  · symm
    refine decide_eq_true ?_
    have hf := fix_of_relax hm he hv (isB_parts hb).2
    unfold ls lsK
    rw [List.length_map, List.length_eq_zero_iff, List.filter_eq_nil_iff]
    intro k hk
    have := hf _ (hz k (List.mem_range.1 hk))
    show ¬ vLo m zs (es.getD k (0, 0, 0)) = true
    unfold vLo
    rw [this]
    decide
end Go.Proofs.Ytjcfefpcilhelaa
