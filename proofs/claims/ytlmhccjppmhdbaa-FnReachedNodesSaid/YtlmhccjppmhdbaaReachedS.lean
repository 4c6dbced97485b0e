/- ReachedNodes, in the model. -/
import Derived.Test.YtlmhccjppmhdbaaReached
import Derived.Test.YtlmhccjppmhdbaaBoxes
namespace Go.Proofs.Ytlmhccjppmhdbaa
open Go.RowKit Go.BigFrame Go.Deep
set_option linter.unusedVariables false
set_option linter.unusedSimpArgs false

set_option maxRecDepth 20000 in
set_option maxHeartbeats 2000000 in
theorem sReachedNodes (n m a : Int) (es : List Ed) (zs : List Int) (s t : Value) (w : World) (hs : RowE w s es) (ht : Row w t zs) (hl : es.length ≤ 281474976710656) (hl2 : zs.length ≤ 1048576) :
    Calls Try.prog 48 #[.agg #[.int .i64 n, s], .agg #[.int .i64 m, .int .i64 a, t]] w fun e w' => ∃ v, e = .returned v ∧ OwnI w w' v (rchV n es m a zs) ∧ Below w.heap.size w w' := by
  have hv := fun w' (h : Below w.heap.size w w') => sViewValid n m a es zs s t w' (hs.keep h) (ht.keep h) hl (by omega)
  obtain ⟨ad, cap, rfl, hz0⟩ := hs
  obtain ⟨ad2, cap2, rfl, hy0⟩ := ht
  clear hz0
  have HY := Lib.hid hy0
  have hb3 : Below w.heap.size w (((w.alloc (.cells #[.int .i64 n, .slice ad es.length cap] 33)).alloc (.cells #[.int .i64 m, .int .i64 a, .slice ad2 zs.length cap2] 43)).alloc (.cells #[] 3)) := (((Below.refl _ _).alloc (Nat.le_refl _) _).alloc (by simp) _).alloc (by simp <;> omega) _
  have hx0 : Box (((w.alloc (.cells #[.int .i64 n, .slice ad es.length cap] 33)).alloc (.cells #[.int .i64 m, .int .i64 a, .slice ad2 zs.length cap2] 43)).alloc (.cells #[] 3)) w.heap.size 33 #[.int .i64 n, .slice ad es.length cap] := ((Box.new w _ _).alloc _).alloc _
  have hx1 : Box (((w.alloc (.cells #[.int .i64 n, .slice ad es.length cap] 33)).alloc (.cells #[.int .i64 m, .int .i64 a, .slice ad2 zs.length cap2] 43)).alloc (.cells #[] 3)) (w.heap.size + 1) 43 #[.int .i64 m, .int .i64 a, .slice ad2 zs.length cap2] := by
    have := (Box.new (w.alloc (.cells #[.int .i64 n, .slice ad es.length cap] 33)) 43 #[.int .i64 m, .int .i64 a, .slice ad2 zs.length cap2]).alloc (.cells #[] 3)
    simpa using this
  have HX3 := Lib.hid (And.intro hb3 (And.intro hx0 hx1))
  clear hy0 hb3 hx0 hx1
  unfold rchV
  cases hV : vVal n es m a zs
  · rw [hV] at hv
    rw [if_neg (by decide)]
    have HV := Lib.hid hv
    clear hv hV
    go_enter Try.func48, Try.ntmps48
    go_wp2
    go_loopw [6, 5] (fun c v wr => c = .int .i64 0 ∧ (v = .slice (some ⟨w.heap.size + 2, 0, none⟩) 0 0 ∧ Below w.heap.size w wr ∧ Box wr w.heap.size 33 #[.int .i64 n, .slice ad es.length cap] ∧ Box wr (w.heap.size + 1) 43 #[.int .i64 m, .int .i64 a, .slice ad2 zs.length cap2])) (fun _ _ _ => 0)
    case atStart => exact ⟨rfl, rfl, HX3.out.1, HX3.out.2.1, HX3.out.2.2⟩
    case round =>
      obtain ⟨rfl, rfl, hbel, hb0, hb1⟩ := hrel
      have x0 : wr.cell? ⟨w.heap.size, 0, none⟩ = some (.int .i64 n) := by simpa using hb0.cell 0
      have x1 : wr.cell? ⟨w.heap.size, 1, none⟩ = some (.slice ad es.length cap) := by simpa using hb0.cell 1
      have y0 : wr.cell? ⟨w.heap.size + 1, 0, none⟩ = some (.int .i64 m) := by simpa using hb1.cell 0
      have y1 : wr.cell? ⟨w.heap.size + 1, 1, none⟩ = some (.int .i64 a) := by simpa using hb1.cell 1
      have y2 : wr.cell? ⟨w.heap.size + 1, 2, none⟩ = some (.slice ad2 zs.length cap2) := by simpa using hb1.cell 2
      clear hb0 hb1
      by_cases hlt : (0 : Int) < zs.length
      · go_wp2_with (go_at_call 83; refine (HV.out _ hbel).mono ?_; rintro e w1 ⟨rfl, hb1⟩)
        go_ret
        exact ⟨_, rfl, ⟨_, 0, rfl, .inl rfl⟩, bel_trans hbel hb1⟩
      · go_wp2
        go_ret
        exact ⟨_, rfl, ⟨_, 0, rfl, .inl rfl⟩, hbel⟩
  rw [hV] at hv
  rw [if_pos rfl]
  have hm : mKind m = true := by
    unfold vVal mAll at hV
    simp only [Bool.and_eq_true] at hV
    exact hV.2.1
  have hno := fun w => calls_below (sNone hm w)
  have HV := Lib.hid hv
  have HN := Lib.hid hno
  obtain ⟨i0, hi, hz0', hz1, hz2⟩ := info_parts info_int2
  have HI : Hid (Try.prog.info? 3 = some i0 ∧ i0.zero = some (.int .i64 0) ∧ i0.size = 1 ∧ i0.bytes = 8) := Lib.hid ⟨hi, hz0', hz1, hz2⟩
  clear hv hV hno hi hz0' hz1 hz2
  go_enter Try.func48, Try.ntmps48
  go_wp2
  go_loopw [6, 5] (fun c v wr => ∃ k : Nat, k ≤ zs.length ∧ c = .int .i64 k ∧ wr.ownsRow (w.heap.size + 2) 3 1 v (rchK m zs k).length ((rchK m zs k).map (Value.int .i64)) ∧ Hid (Below w.heap.size w wr ∧ Box wr w.heap.size 33 #[.int .i64 n, .slice ad es.length cap] ∧ Box wr (w.heap.size + 1) 43 #[.int .i64 m, .int .i64 a, .slice ad2 zs.length cap2])) (fun c _ _ => zs.length - (intOf c).toNat)
  case atStart => exact ⟨0, Nat.zero_le _, rfl, by have := own_empty ((w.alloc (Obj.cells #[.int .i64 n, .slice ad es.length cap] 33)).alloc (.cells #[.int .i64 m, .int .i64 a, .slice ad2 zs.length cap2] 43)) 3 (w.heap.size + 2) (by simp); simpa [rchK] using this, HX3⟩
  case round =>
    obtain ⟨k, hk, rfl, hown, HX⟩ := hrel
    have x0 : wr.cell? ⟨w.heap.size, 0, none⟩ = some (.int .i64 n) := by simpa using HX.out.2.1.cell 0
    have x1 : wr.cell? ⟨w.heap.size, 1, none⟩ = some (.slice ad es.length cap) := by simpa using HX.out.2.1.cell 1
    have y0 : wr.cell? ⟨w.heap.size + 1, 0, none⟩ = some (.int .i64 m) := by simpa using HX.out.2.2.cell 0
    have y1 : wr.cell? ⟨w.heap.size + 1, 1, none⟩ = some (.int .i64 a) := by simpa using HX.out.2.2.cell 1
    have y2 : wr.cell? ⟨w.heap.size + 1, 2, none⟩ = some (.slice ad2 zs.length cap2) := by simpa using HX.out.2.2.cell 2
    have HOW := Lib.hid hown
    clear hown
    by_cases hlt : k < zs.length
    · have hlt' : (k : Int) < zs.length := by omega
      rcases HY.out with h0 | ⟨b, off, rfl, hb, hc⟩
      · rw [h0] at hlt; simp at hlt
      obtain ⟨p, hp⟩ : ∃ p, p = zs.getD k 0 := ⟨_, rfl⟩
      have h1 := hc k hlt
      rw [← hp] at h1
      have hst := rchK_succ m zs k
      rw [← hp] at hst
      have hfacts : ∀ w', Below w.heap.size w w' → Box w' (w.heap.size + 1) 43 #[.int .i64 m, .int .i64 a, .slice (some ⟨b, off, none⟩) zs.length cap2] →
          w'.cell? ⟨w.heap.size + 1, 0, none⟩ = some (.int .i64 m) ∧ w'.cell? ⟨w.heap.size + 1, 2, none⟩ = some (.slice (some ⟨b, off, none⟩) zs.length cap2) ∧ w'.cell? ⟨b, off + k, none⟩ = some (.int .i64 p) := fun w' h hbx =>
        ⟨by simpa using hbx.cell 0, by simpa using hbx.cell 2, (h.cell (p := ⟨b, off + k, none⟩) hb).trans h1⟩
      have HF := Lib.hid hfacts
      clear hc h1 hp hfacts
      cases hpx : (p != mNone m)
      · rw [hpx, if_neg (by decide), List.append_nil] at hst
        have HT := Lib.hid hst
        clear hst
        go_wp2_with (go_at_call 83; refine (HV.out _ HX.out.1).mono ?_; rintro e w1 ⟨rfl, hb1⟩; clear x0 x1 y0 y1 y2)
        have HX1 := Lib.hid (And.intro (bel_trans HX.out.1 hb1) (And.intro (HX.out.2.1.keep hb1) (HX.out.2.2.keep hb1)))
        have hff := fun w' (h : Below w1.heap.size w1 w') => HF.out w' (bel_trans HX1.out.1 h) (HX1.out.2.2.keep h)
        have FF := Lib.hid hff
        clear hff
        refine wp_region_below (by kernel_rfl) (by kernel_rfl) ?_
        repeat (go_big_quiet_step ((intro hw; first | with_reducible rfl | (obtain ⟨f0, f1, f2⟩ := FF.out _ hw; simp only [f0, f1, f2, Result.andThen]; first | exact ⟨trivial, rfl⟩ | exact ⟨rfl, rfl⟩) | (go_at_call 84; exact quietB (HN.out _) hw))))
        refine wpQuiet_nil ?_
        intro w2 hw2
        have hb2 := bel_trans hb1 hw2
        have HX2 := Lib.hid (And.intro (bel_trans HX.out.1 hb2) (And.intro (HX.out.2.1.keep hb2) (HX.out.2.2.keep hb2)))
        go_wp2
        go_roundw
        case rel => first | exact ⟨k + 1, by omega, by go_num, by rw [HT.out]; exact own_keep HOW.out hb2, HX2⟩ | ((repeat apply Exists.intro); exact ⟨⟨k + 1, by omega, by go_num, by rw [HT.out]; exact own_keep HOW.out hb2, HX2⟩, rfl⟩)
        case measure => simp [intOf]; omega
      · rw [hpx, if_pos rfl] at hst
        have HT := Lib.hid hst
        have hln : (rchK m zs k).length ≤ k := rchK_len _ _ _
        clear hst
        go_wp2_with (go_at_call 83; refine (HV.out _ HX.out.1).mono ?_; rintro e w1 ⟨rfl, hb1⟩; clear x0 x1 y0 y1 y2)
        have HX1 := Lib.hid (And.intro (bel_trans HX.out.1 hb1) (And.intro (HX.out.2.1.keep hb1) (HX.out.2.2.keep hb1)))
        have hff := fun w' (h : Below w1.heap.size w1 w') => HF.out w' (bel_trans HX1.out.1 h) (HX1.out.2.2.keep h)
        have FF := Lib.hid hff
        clear hff
        refine wp_region_below (by kernel_rfl) (by kernel_rfl) ?_
        repeat (go_big_quiet_step ((intro hw; first | with_reducible rfl | (obtain ⟨f0, f1, f2⟩ := FF.out _ hw; simp only [f0, f1, f2, Result.andThen]; first | exact ⟨trivial, rfl⟩ | exact ⟨rfl, rfl⟩) | (go_at_call 84; exact quietB (HN.out _) hw))))
        refine wpQuiet_nil ?_
        intro w2 hw2
        have hb2 := bel_trans hb1 hw2
        have HX2 := Lib.hid (And.intro (bel_trans HX.out.1 hb2) (And.intro (HX.out.2.1.keep hb2) (HX.out.2.2.keep hb2)))
        have HOW2 := Lib.hid (own_keep HOW.out hb2)
        clear hb1 hw2
        obtain ⟨hi, hz0, hz1, hz2⟩ := HI.out
        go_wp2_with (at_builtin; refine wpList_append_own _ rfl (.tmp 29) (.tmp 31) 26 rfl (w.heap.size + 2) 3 i0 (.int .i64 0) 1 8 Try.underlying26 hi hz0 hz1 hz2 rfl (by decide) _ _ _ rfl (HOW2.out.alloc _) ⟨w2.heap.size, 0, none⟩ 1 1 [.int .i64 k] rfl rfl ?c1 ?c2 ?c3 ?c4 ?c5 ?_)
        case c1 => exact cell_one_new _ _ _
        case c2 => simp [Value.oneCell']
        case c3 => unfold maxLen; omega
        case c4 => omega
        case c5 => have := HX2.out.2.2.lt; simp; omega
        intro v' w6 hown6 hgrow6 _
        have hown6' : w6.ownsRow (w.heap.size + 2) 3 1 v' (rchK m zs (k + 1)).length ((rchK m zs (k + 1)).map (Value.int .i64)) := by rw [HT.out]; simpa using hown6
        have H7 := Lib.hid hown6'
        have H8 := Lib.hid (And.intro ((HX2.out.1.alloc HX2.out.1.size _).grown hgrow6 (by have := HX2.out.1.size; simp; omega) (fun q hq => by have := (HOW2.out.lt q hq).1; omega)) (And.intro ((HX2.out.2.1.alloc _).grown hgrow6 (HOW2.out.alloc _) (by decide)) ((HX2.out.2.2.alloc _).grown hgrow6 (HOW2.out.alloc _) (by decide))))
        clear hown6 hown6' hgrow6 hi hz0 hz1 hz2
        go_wp2
        go_roundw
        case rel => first | exact ⟨k + 1, by omega, by go_num, H7.out, H8⟩ | ((repeat apply Exists.intro); exact ⟨⟨k + 1, by omega, by go_num, H7.out, H8⟩, rfl⟩)
        case measure => simp [intOf]; omega
    · have hke : k = zs.length := by omega
      have hkk : ¬ ((k : Int) < zs.length) := by omega
      have HK := Lib.hid hke
      clear hke
      go_wp2
      go_ret
      refine ⟨_, rfl, OwnI.of ?_ (Nat.le_add_right _ 2), HX.out.1⟩
      rw [show rch m zs = rchK m zs k by unfold rch; rw [HK.out]]
      exact HOW.out
end Go.Proofs.Ytlmhccjppmhdbaa
