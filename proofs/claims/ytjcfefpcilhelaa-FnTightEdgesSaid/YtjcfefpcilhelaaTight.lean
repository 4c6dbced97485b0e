/- TightEdges, in the program and in the model. -/
import Derived.Test.YtjcfefpcilhelaaLooseM
import Derived.Test.YtjcfefpcilhelaaRelaxJ
import Derived.Test.YtjcfefpcilhelaaSpec
import Derived.Test.YtjcfefpcilhelaaRelaxT
namespace Go.Proofs.Ytjcfefpcilhelaa
open Go.RowKit Go.BigFrame Go.Deep
set_option linter.unusedVariables false
set_option linter.unusedSimpArgs false

/-- Does an edge give its end the value that it has? -/
def vTi (m : Int) (zs : List Int) (e : Ed) : Bool := (zs.getD e.2.1.toNat 0 != mNone m) && (zs.getD e.2.1.toNat 0 == vGive m zs e)
def tiK (m : Int) (es : List Ed) (zs : List Int) (k : Nat) : List Int := ((List.range k).filter (fun i => vTi m zs (es.getD i (0, 0, 0)))).map (fun (i : Nat) => (i : Int))
def ti (m : Int) (es : List Ed) (zs : List Int) : List Int := tiK m es zs es.length
def tiV (n : Int) (es : List Ed) (m a : Int) (zs : List Int) : List Int := if vVal n es m a zs = true then ti m es zs else []
theorem tiK_succ (m : Int) (es : List Ed) (zs : List Int) (k : Nat) : tiK m es zs (k + 1) = tiK m es zs k ++ (if vTi m zs (es.getD k (0, 0, 0)) = true then [(k : Int)] else []) := by
  unfold tiK
  rw [List.range_succ, List.filter_append, List.map_append]
  simp only [List.filter_cons, List.filter_nil]
  generalize vTi m zs (es.getD k (0, 0, 0)) = b
  cases b <;> simp
theorem tiK_len (m : Int) (es : List Ed) (zs : List Int) (k : Nat) : (tiK m es zs k).length ≤ k := by
  unfold tiK; rw [List.length_map]; exact Nat.le_trans (List.length_filter_le _ _) (by simp)

set_option maxRecDepth 20000 in
set_option maxHeartbeats 4000000 in
theorem tightEdges (n m a : Int) (es : List Ed) (zs : List Int) (s t : Value) (w : World) (hs : RowE w s es) (ht : Row w t zs) (hl : es.length ≤ 281474976710656) (hl2 : zs.length ≤ 281474976710656) :
    Calls Try.prog 17 #[.agg #[.int .i64 n, s], .agg #[.int .i64 m, .int .i64 a, t]] w fun e w' => ∃ v, e = .returned v ∧ OwnI w w' v (tiV n es m a zs) ∧ Below w.heap.size w w' := by
  have hB : ∀ (A B : Obj), Below w.heap.size w ((w.alloc A).alloc B) := fun A B => ((Below.refl _ _).alloc (Nat.le_refl _) _).alloc (by simp) _
  have ho := fun A B => opsOfView n m a es zs s t ((w.alloc A).alloc B) (hs.keep (hB A B)) (ht.keep (hB A B)) hl hl2
  have hT := Lib.hid ht
  obtain ⟨ad, cap, rfl, hz0⟩ := hs
  obtain ⟨ad2, cap2, rfl, hy0⟩ := ht
  have HY := Lib.hid hy0
  have HZ := Lib.hid hz0
  have HB := Lib.hid hB
  clear hz0 hB hy0
  unfold tiV
  cases hV : vVal n es m a zs
  · rw [hV] at ho
    rw [if_neg (by decide)]
    have HO := Lib.hid ho
    clear ho hV
    go_enter Try.func17, Try.ntmps17
    go_wp2_with (go_at_call 59; refine (HO.out _ _).mono ?_; rintro e w1 ⟨rfl, hb1⟩)
    go_ret
    exact ⟨_, rfl, ⟨none, 0, rfl, .inl rfl⟩, bel_trans (HB.out _ _) hb1⟩
  rw [hV] at ho
  rw [if_pos rfl]
  obtain ⟨hm, h0, h12, h40, hv, he⟩ := vVal_use hV
  obtain ⟨T, rv, fn, fe, fb, fo, fj, rn, re, rb, ro, rj, D⟩ := disp hm
  have hval := D.val
  have hn1 := D.mn.run
  have hn2 := D.mn.ahead
  have hn3 := D.mn.enter
  have HN := Lib.hid D.cn
  have e1 : opsR m true = .iface T rv := by rw [← hval]; rfl
  rw [e1] at ho
  have hev := fun X Y z w' (hb : Below w.heap.size w w') hX hw => edgeValue m zs (.slice ad2 zs.length cap2) X Y z w' hm (hT.out.keep hb) hX (by omega) hv hw
  rw [hval] at hev
  have HO := Lib.hid ho
  have HEV := Lib.hid hev
  have HE := Lib.hid he
  obtain ⟨i0, hi, hz0', hz1, hz2⟩ := info_parts info_int2
  have HI : Hid (Try.prog.info? 3 = some i0 ∧ i0.zero = some (.int .i64 0) ∧ i0.size = 1 ∧ i0.bytes = 8) := Lib.hid ⟨hi, hz0', hz1, hz2⟩
  have hbx0 : Box ((w.alloc (.cells #[.int .i64 n, .slice ad es.length cap] 25)).alloc (.cells #[.int .i64 m, .int .i64 a, .slice ad2 zs.length cap2] 30)) (w.heap.size + 1) 30 #[.int .i64 m, .int .i64 a, .slice ad2 zs.length cap2] := by
    have := Box.new (w.alloc (.cells #[.int .i64 n, .slice ad es.length cap] 25)) 30 #[.int .i64 m, .int .i64 a, .slice ad2 zs.length cap2]
    simpa using this
  have HBX := Lib.hid hbx0
  clear ho hV e1 hval D hev hv he hi hz0' hz1 hz2 hbx0 hm
  go_enter Try.func17, Try.ntmps17
  go_wp2_with (go_at_call 59; refine (HO.out _ _).mono ?_; rintro e w1 ⟨rfl, hb1⟩; have x2 := hb1.cell (p := ⟨w.heap.size, 1, none⟩) (by simp <;> omega))
  have hB1 := bel_trans (HB.out _ _) hb1
  have HX1 := Lib.hid (And.intro hB1 (HBX.out.keep hb1))
  clear x2 hb1 hB1
  go_loopw [22, 7] (fun c v wr => ∃ k : Nat, k ≤ es.length ∧ c = .int .i64 k ∧ wr.ownsRow w.heap.size 3 1 v (tiK m es zs k).length ((tiK m es zs k).map (Value.int .i64)) ∧ Hid (Below w.heap.size w wr ∧ Box wr (w.heap.size + 1) 30 #[.int .i64 m, .int .i64 a, .slice ad2 zs.length cap2])) (fun c _ _ => es.length - (intOf c).toNat)
  case atStart => exact ⟨0, Nat.zero_le _, rfl, ⟨by simp [tiK], .inl ⟨rfl, by simp [tiK]⟩⟩, HX1⟩
  case round =>
    obtain ⟨k, hk, rfl, hown, HX⟩ := hrel
    have HOW := Lib.hid hown
    clear hown
    by_cases hlt : k < es.length
    · have hlt' : (k : Int) < es.length := by omega
      rcases HZ.out with h0' | ⟨b, off, rfl, hb, hc⟩
      · rw [h0'] at hlt; simp at hlt
      obtain ⟨x, y, z, hx⟩ : ∃ x y z, (x, y, z) = es.getD k (0, 0, 0) := ⟨_, _, _, rfl⟩
      obtain ⟨X, Y, rfl, rfl, hX, hY, hwz⟩ := edge_nat HE.out hlt hx
      rcases HY.out with h0'' | ⟨b2, off2, rfl, hb2, hc2⟩
      · rw [h0''] at hY; simp at hY
      have h1 := hc k hlt
      rw [← hx] at h1
      simp only at h1
      obtain ⟨p, hp⟩ : ∃ p, p = zs.getD Y 0 := ⟨_, rfl⟩
      have h2 := hc2 Y hY
      rw [← hp] at h2
      obtain ⟨q, hq⟩ : ∃ q, q = vGive m zs ((X : Int), (Y : Int), z) := ⟨_, rfl⟩
      have hst := tiK_succ m es zs k
      rw [← hx] at hst
      unfold vTi at hst
      rw [← hq, show zs.getD (((X : Int), (Y : Int), z) : Ed).2.1.toNat 0 = p by rw [hp]; rfl] at hst
      have hev := fun w' hb hX hw => HEV.out X Y z w' hb hX hw
      rw [← hq] at hev
      have HEW := Lib.hid (fun w' (hb : Below w.heap.size w w') => hev w' hb hX hwz)
      have c0 := (HX.out.1.cell (p := ⟨b, off + k * 3, none⟩) hb).trans h1.1
      have c1 := (HX.out.1.cell (p := ⟨b, off + k * 3 + 1, none⟩) hb).trans h1.2.1
      have c2 := (HX.out.1.cell (p := ⟨b, off + k * 3 + 2, none⟩) hb).trans h1.2.2
      have y2 : wr.cell? ⟨w.heap.size + 1, 2, none⟩ = some (.slice (some ⟨b2, off2, none⟩) zs.length cap2) := by simpa using HX.out.2.cell 2
      have hls := HX.out.2.lt
      have hls2 : b2 < wr.heap.size := by have := HX.out.1.size; omega
      have d2 := (HX.out.1.cell (p := ⟨b2, off2 + Y, none⟩) hb2).trans h2
      have hYl : (Y : Int) < zs.length := by omega
      have hbA : Below wr.heap.size wr (wr.alloc (.cells #[.int .i64 X, .int .i64 Y, .int .i64 z] 36)) := (Below.refl _ _).alloc (Nat.le_refl _) _
      have hff : ∀ w', Below (wr.alloc (.cells #[.int .i64 X, .int .i64 Y, .int .i64 z] 36)).heap.size (wr.alloc (.cells #[.int .i64 X, .int .i64 Y, .int .i64 z] 36)) w' → (w'.cell? ⟨wr.heap.size, 0, none⟩ = some (.int .i64 X) ∧ w'.cell? ⟨wr.heap.size, 1, none⟩ = some (.int .i64 Y) ∧ w'.cell? ⟨wr.heap.size, 2, none⟩ = some (.int .i64 z) ∧ w'.cell? ⟨w.heap.size + 1, 2, none⟩ = some (.slice (some ⟨b2, off2, none⟩) zs.length cap2)) ∧ Below wr.heap.size wr w' ∧ Below w.heap.size w w' ∧ Box w' (w.heap.size + 1) 30 #[.int .i64 m, .int .i64 a, .slice (some ⟨b2, off2, none⟩) zs.length cap2] := fun w' h => by
        have hB := bel_trans hbA h
        have hk := HX.out.2.keep hB
        exact ⟨⟨(h.cell (p := ⟨_, _, none⟩) (by simp)).trans (by go_simp), (h.cell (p := ⟨_, _, none⟩) (by simp)).trans (by go_simp), (h.cell (p := ⟨_, _, none⟩) (by simp)).trans (by go_simp), by simpa using hk.cell 2⟩, hB, bel_trans HX.out.1 hB, hk⟩
      have FF := Lib.hid hff
      clear hc hc2 h1 h2 hx hp hq hwz hff hev hbA
      cases hpx : (p != mNone m)
      · rw [hpx, Bool.false_and, if_neg (by decide), List.append_nil] at hst
        have HT := Lib.hid hst
        clear hst
        go_wp2_with (with_reducible refine (HN.out _).mono ?_; rintro e w2 ⟨rfl, hb2'⟩; have F2 := Lib.hid (FF.out _ hb2'); have HOW2 := Lib.hid (own_keep HOW.out F2.out.2.1); obtain ⟨m0, m1, m2, m3⟩ := F2.out.1; clear hb2')
        have F3 := Lib.hid F2.out.2.2
        go_roundw
        case rel => first | exact ⟨k + 1, by omega, by go_num, by rw [HT.out]; exact HOW2.out, F3⟩ | ((repeat apply Exists.intro); exact ⟨⟨k + 1, by omega, by go_num, by rw [HT.out]; exact HOW2.out, F3⟩, rfl⟩)
        case measure => simp [intOf]; omega
      cases hqx : (p == q)
      · rw [hpx, hqx, Bool.and_false, if_neg (by decide), List.append_nil] at hst
        have HT := Lib.hid hst
        clear hst
        go_wp2_with (first | (with_reducible refine (HN.out _).mono ?_; rintro e w2 ⟨rfl, hb2'⟩; have F2 := Lib.hid (FF.out _ hb2'); have HOW2 := Lib.hid (own_keep HOW.out F2.out.2.1); obtain ⟨m0, m1, m2, m3⟩ := F2.out.1; clear hb2') | (go_at_call 60; (with_reducible refine (HEW.out _ F2.out.2.2.1).mono ?_); rintro e w3 ⟨rfl, hb3'⟩; have F3 := Lib.hid (And.intro (bel_trans F2.out.2.2.1 hb3') (F2.out.2.2.2.keep hb3')); have HOW3 := Lib.hid (own_keep HOW2.out hb3'); clear hb3'))
        go_roundw
        case rel => first | exact ⟨k + 1, by omega, by go_num, by rw [HT.out]; exact HOW3.out, F3⟩ | ((repeat apply Exists.intro); exact ⟨⟨k + 1, by omega, by go_num, by rw [HT.out]; exact HOW3.out, F3⟩, rfl⟩)
        case measure => simp [intOf]; omega
      · rw [hpx, hqx, Bool.true_and, if_pos rfl] at hst
        have HT := Lib.hid hst
        have hln : (tiK m es zs k).length ≤ k := tiK_len _ _ _ _
        clear hst
        obtain ⟨hi, hz0, hz1, hz2⟩ := HI.out
        go_wp2_with (first | (with_reducible refine (HN.out _).mono ?_; rintro e w2 ⟨rfl, hb2'⟩; have F2 := Lib.hid (FF.out _ hb2'); have HOW2 := Lib.hid (own_keep HOW.out F2.out.2.1); obtain ⟨m0, m1, m2, m3⟩ := F2.out.1; clear hb2') | (go_at_call 60; (with_reducible refine (HEW.out _ F2.out.2.2.1).mono ?_); rintro e w3 ⟨rfl, hb3'⟩; have F3 := Lib.hid (And.intro (bel_trans F2.out.2.2.1 hb3') (F2.out.2.2.2.keep hb3')); have HOW3 := Lib.hid (own_keep HOW2.out hb3'); clear hb3') | (at_builtin; refine wpList_append_own _ rfl (.tmp 46) (.tmp 48) 28 rfl w.heap.size 3 i0 (.int .i64 0) 1 8 Try.underlying28 hi hz0 hz1 hz2 rfl (by decide) _ _ _ rfl (HOW3.out.alloc _) ⟨w3.heap.size, 0, none⟩ 1 1 [.int .i64 k] rfl rfl ?c1 ?c2 ?c3 ?c4 ?c5 ?_))
        case c1 => exact cell_one_new _ _ _
        case c2 => simp [Value.oneCell']
        case c3 => unfold maxLen; omega
        case c4 => omega
        case c5 => have := F3.out.1.size; simp; omega
        intro v' w6 hown6 hgrow6 _
        have hown6' : w6.ownsRow w.heap.size 3 1 v' (tiK m es zs (k + 1)).length ((tiK m es zs (k + 1)).map (Value.int .i64)) := by rw [HT.out]; simpa using hown6
        have H7 := Lib.hid hown6'
        have H8 := Lib.hid (And.intro ((F3.out.1.alloc F3.out.1.size _).grown hgrow6 (by have := F3.out.1.size; simp; omega) (fun q hq => (HOW3.out.lt q hq).1)) ((F3.out.2.alloc _).grown hgrow6 (HOW3.out.alloc _) (by decide)))
        clear hown6 hown6' hgrow6 hi hz0 hz1 hz2
        go_wp2
        go_roundw
        case rel => first | exact ⟨k + 1, by omega, by go_num, H7.out, H8⟩ | ((repeat apply Exists.intro); exact ⟨⟨k + 1, by omega, by go_num, H7.out, H8⟩, rfl⟩)
        case measure => simp [intOf]; omega
    · have hke : k = es.length := by omega
      have hkk : ¬ ((k : Int) < es.length) := by omega
      have HK := Lib.hid hke
      clear hke
      go_wp2
      go_ret
      refine ⟨_, rfl, OwnI.of ?_ (Nat.le_refl _), HX.out.1⟩
      rw [show ti m es zs = tiK m es zs k by unfold ti; rw [HK.out]]
      exact HOW.out

set_option maxRecDepth 20000 in
set_option maxHeartbeats 4000000 in
theorem sTightEdges (n m a : Int) (es : List Ed) (zs : List Int) (s t : Value) (w : World) (hs : RowE w s es) (ht : Row w t zs) (hl : es.length ≤ 281474976710656) (hl2 : zs.length ≤ 281474976710656) :
    Calls Try.prog 19 #[.agg #[.int .i64 n, s], .agg #[.int .i64 m, .int .i64 a, t]] w fun e w' => ∃ v, e = .returned v ∧ OwnI w w' v (tiV n es m a zs) ∧ Below w.heap.size w w' := by
  have hv := fun w' (h : Below w.heap.size w w') => sViewValid n m a es zs s t w' (hs.keep h) (ht.keep h) hl hl2
  have hT := Lib.hid ht
  obtain ⟨ad, cap, rfl, hz0⟩ := hs
  obtain ⟨ad2, cap2, rfl, hy0⟩ := ht
  have HZ := Lib.hid hz0
  have HY := Lib.hid hy0
  have hb3 : Below w.heap.size w (((w.alloc (.cells #[.int .i64 n, .slice ad es.length cap] 25)).alloc (.cells #[.int .i64 m, .int .i64 a, .slice ad2 zs.length cap2] 30)).alloc (.cells #[] 3)) := (((Below.refl _ _).alloc (Nat.le_refl _) _).alloc (by simp) _).alloc (by simp <;> omega) _
  have hx0 : Box (((w.alloc (.cells #[.int .i64 n, .slice ad es.length cap] 25)).alloc (.cells #[.int .i64 m, .int .i64 a, .slice ad2 zs.length cap2] 30)).alloc (.cells #[] 3)) w.heap.size 25 #[.int .i64 n, .slice ad es.length cap] := ((Box.new w _ _).alloc _).alloc _
  have hx1 : Box (((w.alloc (.cells #[.int .i64 n, .slice ad es.length cap] 25)).alloc (.cells #[.int .i64 m, .int .i64 a, .slice ad2 zs.length cap2] 30)).alloc (.cells #[] 3)) (w.heap.size + 1) 30 #[.int .i64 m, .int .i64 a, .slice ad2 zs.length cap2] := by
    have := (Box.new (w.alloc (.cells #[.int .i64 n, .slice ad es.length cap] 25)) 30 #[.int .i64 m, .int .i64 a, .slice ad2 zs.length cap2]).alloc (.cells #[] 3)
    simpa using this
  have HX3 := Lib.hid (And.intro hb3 (And.intro hx0 hx1))
  clear hz0 hy0 hb3 hx0 hx1
  unfold tiV
  cases hV : vVal n es m a zs
  · rw [hV] at hv
    rw [if_neg (by decide)]
    have HV := Lib.hid hv
    clear hv hV
    go_enter Try.func19, Try.ntmps19
    go_wp2
    go_loopw [6, 5] (fun c v wr => c = .int .i64 0 ∧ (v = .slice (some ⟨w.heap.size + 2, 0, none⟩) 0 0 ∧ Below w.heap.size w wr ∧ Box wr w.heap.size 25 #[.int .i64 n, .slice ad es.length cap] ∧ Box wr (w.heap.size + 1) 30 #[.int .i64 m, .int .i64 a, .slice ad2 zs.length cap2])) (fun _ _ _ => 0)
    case atStart => exact ⟨rfl, rfl, HX3.out.1, HX3.out.2.1, HX3.out.2.2⟩
    case round =>
      obtain ⟨rfl, rfl, hbel, hb0, hb1⟩ := hrel
      have x0 : wr.cell? ⟨w.heap.size, 0, none⟩ = some (.int .i64 n) := by simpa using hb0.cell 0
      have x1 : wr.cell? ⟨w.heap.size, 1, none⟩ = some (.slice ad es.length cap) := by simpa using hb0.cell 1
      have y0 : wr.cell? ⟨w.heap.size + 1, 0, none⟩ = some (.int .i64 m) := by simpa using hb1.cell 0
      have y1 : wr.cell? ⟨w.heap.size + 1, 1, none⟩ = some (.int .i64 a) := by simpa using hb1.cell 1
      have y2 : wr.cell? ⟨w.heap.size + 1, 2, none⟩ = some (.slice ad2 zs.length cap2) := by simpa using hb1.cell 2
      clear hb0 hb1
      by_cases hlt : (0 : Int) < es.length
      · go_wp2_with (go_at_call 61; refine (HV.out _ hbel).mono ?_; rintro e w1 ⟨rfl, hb1⟩)
        go_ret
        exact ⟨_, rfl, ⟨_, 0, rfl, .inl rfl⟩, bel_trans hbel hb1⟩
      · go_wp2
        go_ret
        exact ⟨_, rfl, ⟨_, 0, rfl, .inl rfl⟩, hbel⟩
  rw [hV] at hv
  rw [if_pos rfl]
  obtain ⟨hm, h0, h12, h40, hva, he⟩ := vVal_use hV
  have hno := fun w => calls_below (sNone hm w)
  have hev := fun (X Y : Nat) z w' (hb : Below w.heap.size w w') hX hw => l5Value m a zs (.slice ad2 zs.length cap2) X Y z w' hm (hT.out.keep hb) hX (by omega) hva hw
  have HV := Lib.hid hv
  have HN := Lib.hid hno
  have HEV := Lib.hid hev
  have HE := Lib.hid he
  obtain ⟨i0, hi, hz0', hz1, hz2⟩ := info_parts info_int2
  have HI : Hid (Try.prog.info? 3 = some i0 ∧ i0.zero = some (.int .i64 0) ∧ i0.size = 1 ∧ i0.bytes = 8) := Lib.hid ⟨hi, hz0', hz1, hz2⟩
  clear hv hV hno hi hz0' hz1 hz2 hev hva he hm
  go_enter Try.func19, Try.ntmps19
  go_wp2
  go_loopw [6, 5] (fun c v wr => ∃ k : Nat, k ≤ es.length ∧ c = .int .i64 k ∧ wr.ownsRow (w.heap.size + 2) 3 1 v (tiK m es zs k).length ((tiK m es zs k).map (Value.int .i64)) ∧ Hid (Below w.heap.size w wr ∧ Box wr w.heap.size 25 #[.int .i64 n, .slice ad es.length cap] ∧ Box wr (w.heap.size + 1) 30 #[.int .i64 m, .int .i64 a, .slice ad2 zs.length cap2])) (fun c _ _ => es.length - (intOf c).toNat)
  case atStart => exact ⟨0, Nat.zero_le _, rfl, by have := own_empty ((w.alloc (Obj.cells #[.int .i64 n, .slice ad es.length cap] 25)).alloc (.cells #[.int .i64 m, .int .i64 a, .slice ad2 zs.length cap2] 30)) 3 (w.heap.size + 2) (by simp); simpa [tiK] using this, HX3⟩
  case round =>
    obtain ⟨k, hk, rfl, hown, HX⟩ := hrel
    have x0 : wr.cell? ⟨w.heap.size, 0, none⟩ = some (.int .i64 n) := by simpa using HX.out.2.1.cell 0
    have x1 : wr.cell? ⟨w.heap.size, 1, none⟩ = some (.slice ad es.length cap) := by simpa using HX.out.2.1.cell 1
    have y0 : wr.cell? ⟨w.heap.size + 1, 0, none⟩ = some (.int .i64 m) := by simpa using HX.out.2.2.cell 0
    have y1 : wr.cell? ⟨w.heap.size + 1, 1, none⟩ = some (.int .i64 a) := by simpa using HX.out.2.2.cell 1
    have y2 : wr.cell? ⟨w.heap.size + 1, 2, none⟩ = some (.slice ad2 zs.length cap2) := by simpa using HX.out.2.2.cell 2
    have HOW := Lib.hid hown
    clear hown
    by_cases hlt : k < es.length
    · have hlt' : (k : Int) < es.length := by omega
      rcases HZ.out with h0' | ⟨b, off, rfl, hb, hc⟩
      · rw [h0'] at hlt; simp at hlt
      obtain ⟨x, y, z, hx⟩ : ∃ x y z, (x, y, z) = es.getD k (0, 0, 0) := ⟨_, _, _, rfl⟩
      obtain ⟨X, Y, rfl, rfl, hX, hY, hwz⟩ := edge_nat HE.out hlt hx
      rcases HY.out with h0'' | ⟨b2, off2, rfl, hb2, hc2⟩
      · rw [h0''] at hY; simp at hY
      have h1 := hc k hlt
      rw [← hx] at h1
      simp only at h1
      obtain ⟨p, hp⟩ : ∃ p, p = zs.getD Y 0 := ⟨_, rfl⟩
      have h2 := hc2 Y hY
      rw [← hp] at h2
      obtain ⟨q, hq⟩ : ∃ q, q = vGive m zs ((X : Int), (Y : Int), z) := ⟨_, rfl⟩
      have hst := tiK_succ m es zs k
      rw [← hx] at hst
      unfold vTi at hst
      rw [← hq, show zs.getD (((X : Int), (Y : Int), z) : Ed).2.1.toNat 0 = p by rw [hp]; rfl] at hst
      have hcm : (p == q) = (q == p) := by rw [Bool.eq_iff_iff, beq_iff_eq, beq_iff_eq]; exact eq_comm
      rw [hcm] at hst
      clear hcm
      have hev := fun w' hb hX hw => HEV.out X Y z w' hb hX hw
      rw [← hq] at hev
      have HEW := Lib.hid (fun w' (hb : Below w.heap.size w w') => hev w' hb hX hwz)
      have hYl : (Y : Int) < zs.length := by omega
      have hfw : ∀ w', Below w.heap.size w w' → Box w' w.heap.size 25 #[.int .i64 n, .slice (some ⟨b, off, none⟩) es.length cap] → w'.cell? ⟨w.heap.size, 1, none⟩ = some (.slice (some ⟨b, off, none⟩) es.length cap) ∧ w'.cell? ⟨b, off + k * 3, none⟩ = some (.int .i64 X) ∧ w'.cell? ⟨b, off + k * 3 + 1, none⟩ = some (.int .i64 Y) ∧ w'.cell? ⟨b, off + k * 3 + 2, none⟩ = some (.int .i64 z) := fun w' h hbx =>
        ⟨by simpa using hbx.cell 1, (h.cell (p := ⟨b, _, none⟩) hb).trans h1.1, (h.cell (p := ⟨b, _, none⟩) hb).trans h1.2.1, (h.cell (p := ⟨b, _, none⟩) hb).trans h1.2.2⟩
      have FW := Lib.hid hfw
      have hff : ∀ w1, Below wr.heap.size wr w1 → ∀ w', Below (w1.alloc (.cells #[.int .i64 X, .int .i64 Y, .int .i64 z] 36)).heap.size (w1.alloc (.cells #[.int .i64 X, .int .i64 Y, .int .i64 z] 36)) w' → (w'.cell? ⟨w1.heap.size, 0, none⟩ = some (.int .i64 X) ∧ w'.cell? ⟨w1.heap.size, 1, none⟩ = some (.int .i64 Y) ∧ w'.cell? ⟨w1.heap.size, 2, none⟩ = some (.int .i64 z) ∧ w'.cell? ⟨w.heap.size + 1, 0, none⟩ = some (.int .i64 m) ∧ w'.cell? ⟨w.heap.size + 1, 1, none⟩ = some (.int .i64 a) ∧ w'.cell? ⟨w.heap.size + 1, 2, none⟩ = some (.slice (some ⟨b2, off2, none⟩) zs.length cap2) ∧ w'.cell? ⟨b2, off2 + Y, none⟩ = some (.int .i64 p)) ∧ Below wr.heap.size wr w' ∧ Below w.heap.size w w' := fun w1 g w' h => by
        have hB := bel_trans (bel_trans g ((Below.refl _ _).alloc (Nat.le_refl _) (.cells #[.int .i64 X, .int .i64 Y, .int .i64 z] 36))) h
        have hk := HX.out.2.2.keep hB
        exact ⟨⟨(h.cell (p := ⟨_, _, none⟩) (by simp)).trans (by go_simp), (h.cell (p := ⟨_, _, none⟩) (by simp)).trans (by go_simp), (h.cell (p := ⟨_, _, none⟩) (by simp)).trans (by go_simp), by simpa using hk.cell 0, by simpa using hk.cell 1, by simpa using hk.cell 2, ((bel_trans HX.out.1 hB).cell (p := ⟨b2, _, none⟩) hb2).trans h2⟩, hB, bel_trans HX.out.1 hB⟩
      have FF := Lib.hid hff
      clear hc hc2 h1 h2 hx hp hq hwz hff hfw hev
      cases hpx : (p != mNone m)
      · rw [hpx, Bool.false_and, if_neg (by decide), List.append_nil] at hst
        have HT := Lib.hid hst
        clear hst
        go_wp2_with (go_at_call 61; refine (HV.out _ HX.out.1).mono ?_; rintro e w1 ⟨rfl, hb1⟩; obtain ⟨g0, g1, g2, g3⟩ := FW.out _ (bel_trans HX.out.1 hb1) (HX.out.2.1.keep hb1); clear x0 x1 y0 y1 y2)
        have F1 := Lib.hid (FF.out _ hb1)
        clear g0 g1 g2 g3
        generalize hW1 : (w1.alloc (.cells #[.int .i64 X, .int .i64 Y, .int .i64 z] 36)) = W1 at F1 ⊢
        clear hW1
        refine wp_region_below (by kernel_rfl) (by kernel_rfl) ?_
        repeat (go_big_quiet_step ((intro hw; first | with_reducible rfl | (obtain ⟨⟨f0, f1, f2, f3, f4, f5, f6⟩, -⟩ := F1.out _ hw; simp only [f0, f1, f2, f3, f4, f5, f6, Result.andThen]; first | exact ⟨trivial, rfl⟩ | exact ⟨rfl, rfl⟩) | (go_at_call 62; exact quietB (HN.out _) hw) | (go_at_call 63; exact quietB (HEW.out _ (F1.out _ hw).2.2) hw))))
        refine wpQuiet_nil ?_
        intro w2 hw2
        have hb2' := (F1.out _ hw2).2.1
        have HX2 := Lib.hid (And.intro (F1.out _ hw2).2.2 (And.intro (HX.out.2.1.keep hb2') (HX.out.2.2.keep hb2')))
        have HOW2 := Lib.hid (own_keep HOW.out hb2')
        clear hb1 hw2 hb2'
        go_wp2
        go_roundw
        case rel => first | exact ⟨k + 1, by omega, by go_num, by rw [HT.out]; exact HOW2.out, HX2⟩ | ((repeat apply Exists.intro); exact ⟨⟨k + 1, by omega, by go_num, by rw [HT.out]; exact HOW2.out, HX2⟩, rfl⟩)
        case measure => simp [intOf]; omega
      cases hqx : (q == p)
      · rw [hpx, hqx, Bool.and_false, if_neg (by decide), List.append_nil] at hst
        have HT := Lib.hid hst
        clear hst
        go_wp2_with (go_at_call 61; refine (HV.out _ HX.out.1).mono ?_; rintro e w1 ⟨rfl, hb1⟩; obtain ⟨g0, g1, g2, g3⟩ := FW.out _ (bel_trans HX.out.1 hb1) (HX.out.2.1.keep hb1); clear x0 x1 y0 y1 y2)
        have F1 := Lib.hid (FF.out _ hb1)
        clear g0 g1 g2 g3
        generalize hW1 : (w1.alloc (.cells #[.int .i64 X, .int .i64 Y, .int .i64 z] 36)) = W1 at F1 ⊢
        clear hW1
        refine wp_region_below (by kernel_rfl) (by kernel_rfl) ?_
        repeat (go_big_quiet_step ((intro hw; first | with_reducible rfl | (obtain ⟨⟨f0, f1, f2, f3, f4, f5, f6⟩, -⟩ := F1.out _ hw; simp only [f0, f1, f2, f3, f4, f5, f6, Result.andThen]; first | exact ⟨trivial, rfl⟩ | exact ⟨rfl, rfl⟩) | (go_at_call 62; exact quietB (HN.out _) hw) | (go_at_call 63; exact quietB (HEW.out _ (F1.out _ hw).2.2) hw))))
        refine wpQuiet_nil ?_
        intro w2 hw2
        have hb2' := (F1.out _ hw2).2.1
        have HX2 := Lib.hid (And.intro (F1.out _ hw2).2.2 (And.intro (HX.out.2.1.keep hb2') (HX.out.2.2.keep hb2')))
        have HOW2 := Lib.hid (own_keep HOW.out hb2')
        clear hb1 hw2 hb2'
        go_wp2
        go_roundw
        case rel => first | exact ⟨k + 1, by omega, by go_num, by rw [HT.out]; exact HOW2.out, HX2⟩ | ((repeat apply Exists.intro); exact ⟨⟨k + 1, by omega, by go_num, by rw [HT.out]; exact HOW2.out, HX2⟩, rfl⟩)
        case measure => simp [intOf]; omega
      · rw [hpx, hqx, Bool.true_and, if_pos rfl] at hst
        have HT := Lib.hid hst
        have hln : (tiK m es zs k).length ≤ k := tiK_len _ _ _ _
        clear hst
        go_wp2_with (go_at_call 61; refine (HV.out _ HX.out.1).mono ?_; rintro e w1 ⟨rfl, hb1⟩; obtain ⟨g0, g1, g2, g3⟩ := FW.out _ (bel_trans HX.out.1 hb1) (HX.out.2.1.keep hb1); clear x0 x1 y0 y1 y2)
        have F1 := Lib.hid (FF.out _ hb1)
        clear g0 g1 g2 g3
        generalize hW1 : (w1.alloc (.cells #[.int .i64 X, .int .i64 Y, .int .i64 z] 36)) = W1 at F1 ⊢
        clear hW1
        refine wp_region_below (by kernel_rfl) (by kernel_rfl) ?_
        repeat (go_big_quiet_step ((intro hw; first | with_reducible rfl | (obtain ⟨⟨f0, f1, f2, f3, f4, f5, f6⟩, -⟩ := F1.out _ hw; simp only [f0, f1, f2, f3, f4, f5, f6, Result.andThen]; first | exact ⟨trivial, rfl⟩ | exact ⟨rfl, rfl⟩) | (go_at_call 62; exact quietB (HN.out _) hw) | (go_at_call 63; exact quietB (HEW.out _ (F1.out _ hw).2.2) hw))))
        refine wpQuiet_nil ?_
        intro w2 hw2
        have hb2' := (F1.out _ hw2).2.1
        have HX2 := Lib.hid (And.intro (F1.out _ hw2).2.2 (And.intro (HX.out.2.1.keep hb2') (HX.out.2.2.keep hb2')))
        have HOW2 := Lib.hid (own_keep HOW.out hb2')
        clear hb1 hw2 hb2'
        obtain ⟨hi, hz0, hz1, hz2⟩ := HI.out
        go_wp2_with (at_builtin; refine wpList_append_own _ rfl (.tmp 48) (.tmp 50) 28 rfl (w.heap.size + 2) 3 i0 (.int .i64 0) 1 8 Try.underlying28 hi hz0 hz1 hz2 rfl (by decide) _ _ _ rfl (HOW2.out.alloc _) ⟨w2.heap.size, 0, none⟩ 1 1 [.int .i64 k] rfl rfl ?c1 ?c2 ?c3 ?c4 ?c5 ?_)
        case c1 => exact cell_one_new _ _ _
        case c2 => simp [Value.oneCell']
        case c3 => unfold maxLen; omega
        case c4 => omega
        case c5 => have := HX2.out.2.2.lt; simp; omega
        intro v' w6 hown6 hgrow6 _
        have hown6' : w6.ownsRow (w.heap.size + 2) 3 1 v' (tiK m es zs (k + 1)).length ((tiK m es zs (k + 1)).map (Value.int .i64)) := by rw [HT.out]; simpa using hown6
        have H7 := Lib.hid hown6'
        have H8 := Lib.hid (And.intro ((HX2.out.1.alloc HX2.out.1.size _).grown hgrow6 (by have := HX2.out.1.size; simp; omega) (fun q hq => by have := (HOW2.out.lt q hq).1; omega)) (And.intro ((HX2.out.2.1.alloc _).grown hgrow6 (HOW2.out.alloc _) (by decide)) ((HX2.out.2.2.alloc _).grown hgrow6 (HOW2.out.alloc _) (by decide))))
        clear hown6 hown6' hgrow6 hi hz0 hz1 hz2
        go_wp2
        go_roundw
        case rel => first | exact ⟨k + 1, by omega, by go_num, H7.out, H8⟩ | ((repeat apply Exists.intro); exact ⟨⟨k + 1, by omega, by go_num, H7.out, H8⟩, rfl⟩)
        case measure => simp [intOf]; omega
    · have hke : k = es.length := by omega
      have hkk : ¬ ((k : Int) < es.length) := by omega
      have HK := Lib.hid hke
      clear hke
      go_wp2
      go_ret
      refine ⟨_, rfl, OwnI.of ?_ (Nat.le_add_right _ 2), HX.out.1⟩
      rw [show ti m es zs = tiK m es zs k by unfold ti; rw [HK.out]]
      exact HOW.out
theorem ti_at {m : Int} {es : List Ed} {zs : List Int} {k : Nat} (h : k < (ti m es zs).length) : ∃ i : Nat, i < es.length ∧ (ti m es zs).getD k 0 = (i : Int) ∧ vTi m zs (es.getD i (0, 0, 0)) = true := by
  have hm : (ti m es zs).getD k 0 ∈ ti m es zs := by
    simp only [List.getD, List.getElem?_eq_getElem h, Option.getD_some]
    exact List.getElem_mem h
  obtain ⟨i, hi, e⟩ := List.mem_map.1 hm
  have h2 := List.mem_filter.1 hi
  exact ⟨i, List.mem_range.1 h2.1, e.symm, h2.2⟩
theorem ti_loose {m : Int} {es : List Ed} {zs : List Int} {k : Nat} (h : k < (ti m es zs).length) : inL (ls m es zs) ((ti m es zs).getD k 0) = false := by
  obtain ⟨i, hi, e, ht⟩ := ti_at h
  rw [e, ls_mem hi]
  unfold vTi at ht
  rw [Bool.and_eq_true, beq_iff_eq] at ht
  unfold vLo
  rw [← ht.2]
  exact bet_irr _ _
theorem filter_two {α : Type} (p q : α → Bool) : ∀ (l : List α), (∀ x ∈ l, p x = true → q x = false) → (l.filter p).length + (l.filter q).length ≤ l.length
  | [], _ => by simp
  | x :: l, h => by
    have ih := filter_two p q l (fun y hy => h y (List.mem_cons_of_mem _ hy))
    have hx := h x (List.mem_cons_self ..)
    rw [List.filter_cons, List.filter_cons]
    cases hp : p x <;> cases hq : q x <;> simp <;> first | omega | (rw [hx hp] at hq; cases hq)
theorem ti_ls_len (m : Int) (es : List Ed) (zs : List Int) : (ti m es zs).length + (ls m es zs).length ≤ es.length := by
  unfold ti tiK ls lsK
  rw [List.length_map, List.length_map]
  have := filter_two (fun i => vTi m zs (es.getD i (0, 0, 0))) (fun i => vLo m zs (es.getD i (0, 0, 0))) (List.range es.length) (fun i _ ht => by
    unfold vTi at ht
    rw [Bool.and_eq_true, beq_iff_eq] at ht
    unfold vLo
    rw [← ht.2]
    exact bet_irr _ _)
  rwa [List.length_range] at this

end Go.Proofs.Ytjcfefpcilhelaa
