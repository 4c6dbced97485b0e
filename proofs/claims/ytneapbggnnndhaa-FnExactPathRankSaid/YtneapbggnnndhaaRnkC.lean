/- The place of a path among all paths between its ends: the model. -/
import Derived.Test.YtneapbggnnndhaaRnkB
namespace Go.Proofs.Ytneapbggnnndhaa
open Go.RowKit Go.BigFrame Go.Deep
set_option linter.unusedVariables false
set_option linter.unusedSimpArgs false

set_option maxRecDepth 20000 in
set_option maxHeartbeats 8000000 in
theorem l11Place (n m y : Int) (es : List Ed) (ys : List Int) (s t : Value) (w : World) (hs : RowE w s es) (ht : Row w t ys) (hl : es.length ≤ 1048576) (hl2 : ys.length ≤ 281474976710656) :
    Calls Try.prog 61 #[.agg #[.int .i64 n, s], .int .i64 m, .agg #[t, .int .i64 y]] w fun e w' => ∃ v qs, e = .returned (.tuple #[.int .i64 (prI n es m ys y), v]) ∧ Pths w' w.heap.size v qs ∧ (prB n es m ys y = true → qs.map PP.p = prL n es m ys) ∧ Below w.heap.size w w' := by
  obtain ⟨ad, cap, rfl, hz0⟩ := id hs
  obtain ⟨ad2, c2, rfl, hz1⟩ := id ht
  clear hz0
  have hb0 : Below w.heap.size w ((w.alloc (.cells #[.int .i64 n, .slice ad es.length cap] 34)).alloc (.cells #[.slice ad2 ys.length c2, .int .i64 y] 49)) := ((Below.refl _ _).alloc (Nat.le_refl _) _).alloc (by simp) _
  have hx1 := (Box.new w 34 #[.int .i64 n, .slice ad es.length cap]).alloc (.cells #[.slice ad2 ys.length c2, .int .i64 y] 49)
  have hx2 := Box.new (w.alloc (.cells #[.int .i64 n, .slice ad es.length cap] 34)) 49 #[.slice ad2 ys.length c2, .int .i64 y]
  by_cases h0 : ys.length = 0
  · have e0 : prL n es m ys = [] := by unfold prL; rw [if_pos h0]
    have e1 : prI n es m ys y = -1 := by unfold prI; rw [e0, plP_nil]
    have e2 : prB n es m ys y = false := by unfold prB; rw [e1]; rfl
    rw [e1, e2]
    have d0 : decide ((ys.length : Int) = 0) = true := decide_eq_true (by omega)
    have d1 : ((ys.length : Int) == 0) = true := by rw [beq_iff_eq]; omega
    have hk2 : ∀ w' : World, Below ((w.alloc (.cells #[.int .i64 n, .slice ad es.length cap] 34)).alloc (.cells #[.slice ad2 ys.length c2, .int .i64 y] 49)).heap.size ((w.alloc (.cells #[.int .i64 n, .slice ad es.length cap] 34)).alloc (.cells #[.slice ad2 ys.length c2, .int .i64 y] 49)) w' → w'.cell? ⟨w.heap.size + 1, 0, none⟩ = some (.slice ad2 ys.length c2) := fun w' h => by
      have hk2 := hx2.keep h
      rw [show (w.alloc (.cells #[.int .i64 n, .slice ad es.length cap] 34)).heap.size = w.heap.size + 1 by simp] at hk2
      simpa using hk2.cell 0
    have HK := Lib.hid hk2
    have HB0 := Lib.hid hb0
    clear hb0 hx1 hx2 hs ht hz1 e0 e1 e2 h0 hk2
    go_enter Try.func61, Try.ntmps61
    go_wp2_with fail
    generalize ((w.alloc (.cells #[.int .i64 n, .slice ad es.length cap] 34)).alloc (.cells #[.slice ad2 ys.length c2, .int .i64 y] 49)) = w1 at HB0 HK ⊢
    refine wp_region_below (by kernel_rfl) (by kernel_rfl) ?_
    repeat (go_big_quiet_step ((intro hw; first | with_reducible rfl | (have f0 := HK.out _ hw; simp only [f0, Result.andThen]; first | exact ⟨trivial, rfl⟩ | exact ⟨rfl, rfl⟩))))
    refine wpQuiet_nil ?_
    intro w2 hw2
    have H2 := Lib.hid (bel_trans HB0.out hw2)
    clear hw2
    go_wp2
    go_ret2
    exact ⟨.slice (some ⟨w2.heap.size, 0, none⟩) 0 0, [], rfl, pths_empty _ _ H2.out.size, (fun h => nomatch h), H2.out.alloc H2.out.size _⟩
  · have hpos : 0 < ys.length := by omega
    rcases hz1 with hz1 | ⟨b2, off2, rfl, hb2l, hcz⟩
    · exact absurd (by rw [hz1]; rfl) h0
    have eL : prL n es m ys = psO n es m (ys.getD 0 0) (ys.getD (ys.length - 1) 0) := by unfold prL; rw [if_neg h0]
    have hcA := hcz 0 hpos
    have hcC := hcz (ys.length - 1) (by omega)
    have eI : prI n es m ys y = plP (prL n es m ys) (ys, y) := rfl
    have eB : prB n es m ys y = decide (prI n es m ys y ≥ 0) := rfl
    rw [eL] at eI
    generalize prL n es m ys = L at eL
    subst eL
    generalize ys.getD 0 0 = A0 at *
    generalize ys.getD (ys.length - 1) 0 = C0 at *
    have hno := fun h => psO_not (n := n) (es := es) (m := m) (a := A0) (b := C0) h
    have hyes := fun (h : spB n es m A0 C0 = true) => And.intro (spB_kind h) (show psO n es m A0 C0 = srt m (spL m es A0 C0) by unfold psO; rw [spR_yes h])
    have hlp := fun (qs : List PP) (h : spB n es m A0 C0 = true) (hq : qs.map PP.p = spL m es A0 C0) => by
      rw [← spR_yes h] at hq
      exact And.intro (ofP_len hq (fun p hp => (spR_mem hp).1)) (show qs.length ≤ 400 by have := spR_len n es m A0 C0; rw [← hq, List.length_map] at this; exact this)
    have eS : spB n es m A0 C0 = (onOk n es m [A0, C0] && decide ((spL m es A0 C0).length ≤ 400)) := rfl
    have hri := fun w' (h : Below w.heap.size w w') => l11Right n m A0 C0 es (.slice ad es.length cap) w' (hs.keep h) hl
    have hal := fun w' (h : Below w.heap.size w w') (hon : onOk n es m [A0, C0] = true) => l11All n m A0 C0 es (.slice ad es.length cap) w' (hs.keep h) hl hon
    generalize prI n es m ys y = I0 at *
    generalize prB n es m ys y = B0 at *
    generalize psO n es m A0 C0 = PS at *
    generalize spB n es m A0 C0 = S at *
    generalize onOk n es m [A0, C0] = G at *
    generalize spL m es A0 C0 = SL at *
    have d0 : decide ((ys.length : Int) = 0) = false := decide_eq_false (by omega)
    have d1 : ((ys.length : Int) == 0) = false := by rw [beq_eq_false_iff_ne]; omega
    have q1 : ¬ ((ys.length : Int) - 1 < 0) := by omega
    have q2 : ¬ ((ys.length : Int) ≤ (ys.length : Int) - 1) := by omega
    have q3 : ((ys.length : Int) - 1).toNat = ys.length - 1 := by omega
    have q5 : (0 : Int) ≤ (ys.length : Int) - 1 := by omega
    have q6 : (ys.length : Int) - 1 < (ys.length : Int) := by omega
    have q7 : (1 : Int) ≤ ys.length := by omega
    have qw : IntKind.i64.wrap ((ys.length : Int) - 1) = (ys.length : Int) - 1 := by rw [IntKind.wrap_i64]; omega
    have q4 : ¬ ((ys.length : Int) ≤ 0) := by omega
    have HB0 := Lib.hid hb0
    have HT := Lib.hid ht
    have HX1 := Lib.hid hx1
    have HX2 := Lib.hid hx2
    have HRI := Lib.hid hri
    have HAL := Lib.hid hal
    have HLP := Lib.hid hlp
    have HNO := Lib.hid hno
    have HYES := Lib.hid hyes
    have ES := Lib.hid eS
    have HE := Lib.hid (And.intro eI eB)
    have hbs : (w.alloc (.cells #[.int .i64 n, .slice ad es.length cap] 34)).heap.size = w.heap.size + 1 := by simp
    have hold : ∀ w' : World, Below ((w.alloc (.cells #[.int .i64 n, .slice ad es.length cap] 34)).alloc (.cells #[.slice (some ⟨b2, off2, none⟩) ys.length c2, .int .i64 y] 49)).heap.size ((w.alloc (.cells #[.int .i64 n, .slice ad es.length cap] 34)).alloc (.cells #[.slice (some ⟨b2, off2, none⟩) ys.length c2, .int .i64 y] 49)) w' → (w'.cell? ⟨w.heap.size, 0, none⟩ = some (.int .i64 n) ∧ w'.cell? ⟨w.heap.size, 1, none⟩ = some (.slice ad es.length cap) ∧ w'.cell? ⟨w.heap.size + 1, 0, none⟩ = some (.slice (some ⟨b2, off2, none⟩) ys.length c2) ∧ w'.cell? ⟨w.heap.size + 1, 1, none⟩ = some (.int .i64 y) ∧ w'.cell? ⟨b2, off2, none⟩ = some (.int .i64 A0) ∧ w'.cell? ⟨b2, off2 + (ys.length - 1), none⟩ = some (.int .i64 C0)) := fun w' h => by
      have hB := bel_trans HB0.out h
      have hk1 := HX1.out.keep h
      have hk2 := HX2.out.keep h
      rw [hbs] at hk2
      exact ⟨by simpa using hk1.cell 0, by simpa using hk1.cell 1, by simpa using hk2.cell 0, by simpa using hk2.cell 1, (hB.cell (p := ⟨b2, off2, none⟩) hb2l).trans (by simpa using hcA), (hB.cell (p := ⟨b2, _, none⟩) hb2l).trans hcC⟩
    have HOLD := Lib.hid hold
    clear hb0 hx1 hx2 hs ht hcz hcA hcC hold hri hal hlp hno hyes eS eI eB hbs
    cases G
    · have hS : S = false := by rw [ES.out]; rfl
      have hI : I0 = -1 := by rw [HE.out.1, HNO.out hS, plP_nil]
      have hB : B0 = false := by rw [HE.out.2, hI]; rfl
      subst hI hB
      go_enter Try.func61, Try.ntmps61
      go_wp2_with fail
      generalize ((w.alloc (.cells #[.int .i64 n, .slice ad es.length cap] 34)).alloc (.cells #[.slice (some ⟨b2, off2, none⟩) ys.length c2, .int .i64 y] 49)) = w1 at HB0 HX1 HX2 HOLD ⊢
      refine wp_region_below (by kernel_rfl) (by kernel_rfl) ?_
      repeat (go_big_quiet_step ((intro hw; first | with_reducible rfl | (obtain ⟨f0, f1, f2, f3, f4, f5⟩ := HOLD.out _ hw; simp only [f0, f1, f2, f3, f4, f5, Result.andThen]; first | exact ⟨trivial, rfl⟩ | exact ⟨rfl, rfl⟩) | (with_reducible exact quietB (HRI.out _ (bel_trans HB0.out hw)) hw))))
      refine wpQuiet_nil ?_
      intro w2 hw2
      have H2 := Lib.hid (bel_trans HB0.out hw2)
      clear hw2
      go_wp2
      go_ret2
      exact ⟨.slice (some ⟨w2.heap.size, 0, none⟩) 0 0, [], rfl, pths_empty _ _ H2.out.size, (fun h => nomatch h), H2.out.alloc H2.out.size _⟩
    · have HAL2 : Hid (∀ (w' : World), Below w.heap.size w w' → Calls Try.prog 56 #[.agg #[.int .i64 n, .slice ad es.length cap], .int .i64 m, .int .i64 A0, .int .i64 C0] w' fun e w'_1 => ∃ v qs, e = .returned (.tuple #[v, .bool (decide (SL.length ≤ 400))]) ∧ Pths w'_1 w'.heap.size v qs ∧ qs.map PP.p = SL ∧ Below w'.heap.size w' w'_1) := Lib.hid (fun w' h => HAL.out w' h rfl)
      have ES2 : Hid (S = decide (SL.length ≤ 400)) := Lib.hid (by rw [ES.out]; rfl)
      generalize decide (SL.length ≤ 400) = D at HAL2 ES2
      have hSD := ES2.out
      subst hSD
      clear HAL ES
      go_enter Try.func61, Try.ntmps61
      go_wp2_with fail
      generalize ((w.alloc (.cells #[.int .i64 n, .slice ad es.length cap] 34)).alloc (.cells #[.slice (some ⟨b2, off2, none⟩) ys.length c2, .int .i64 y] 49)) = w1 at HB0 HX1 HX2 HOLD ⊢
      refine wp_region_below (by kernel_rfl) (by kernel_rfl) ?_
      repeat (go_big_quiet_step ((intro hw; first | with_reducible rfl | (obtain ⟨f0, f1, f2, f3, f4, f5⟩ := HOLD.out _ hw; simp only [f0, f1, f2, f3, f4, f5, Result.andThen]; first | exact ⟨trivial, rfl⟩ | exact ⟨rfl, rfl⟩) | (with_reducible exact quietB (HRI.out _ (bel_trans HB0.out hw)) hw))))
      refine wpQuiet_nil ?_
      intro w2 hw2
      have hs12 := hw2.size
      have HOLD2 : Hid (∀ w' : World, Below w2.heap.size w2 w' → (w'.cell? ⟨w.heap.size, 0, none⟩ = some (.int .i64 n) ∧ w'.cell? ⟨w.heap.size, 1, none⟩ = some (.slice ad es.length cap) ∧ w'.cell? ⟨w.heap.size + 1, 0, none⟩ = some (.slice (some ⟨b2, off2, none⟩) ys.length c2) ∧ w'.cell? ⟨w.heap.size + 1, 1, none⟩ = some (.int .i64 y) ∧ w'.cell? ⟨b2, off2, none⟩ = some (.int .i64 A0) ∧ w'.cell? ⟨b2, off2 + (ys.length - 1), none⟩ = some (.int .i64 C0))) := Lib.hid (fun w' h => HOLD.out w' (bel_trans hw2 h))
      have HB2 := Lib.hid (bel_trans HB0.out hw2)
      have HX22 := Lib.hid (HX2.out.keep hw2)
      clear hw2 HB0 HX1 HX2 HOLD
      go_wp2_with fail
      go_region_held3 (fun w' : World => w'.cell? ⟨w.heap.size, 0, none⟩ = some (.int .i64 n) ∧ w'.cell? ⟨w.heap.size, 1, none⟩ = some (.slice ad es.length cap) ∧ w'.cell? ⟨w.heap.size + 1, 0, none⟩ = some (.slice (some ⟨b2, off2, none⟩) ys.length c2) ∧ w'.cell? ⟨w.heap.size + 1, 1, none⟩ = some (.int .i64 y) ∧ w'.cell? ⟨b2, off2, none⟩ = some (.int .i64 A0) ∧ w'.cell? ⟨b2, off2 + (ys.length - 1), none⟩ = some (.int .i64 C0)) (first | with_reducible exact HOLD2.out _ ((Below.refl _ _).drew) | with_reducible exact HOLD2.out _ (bel_trans ((Below.refl _ _).drew) hb3)) (first | (go_at_call 56; (with_reducible refine (HAL2.out _ (bel_trans HB2.out ((Below.refl _ _).drew))).mono ?_); rintro e w3 ⟨v, qs, rfl, hp3, hm3, hb3⟩))
      have hb23 : Below w2.heap.size w2 w3 := by first | exact bel_trans ((Below.refl _ _).drew) hb3 | exact hb3
      have hfin := bel_trans HB2.out hb23
      have hszw := HB2.out.size
      cases S
      · have hI : I0 = -1 := by rw [HE.out.1, HNO.out rfl, plP_nil]
        have hB : B0 = false := by rw [HE.out.2, hI]; rfl
        subst hI hB
        have H3 := Lib.hid hfin
        clear hp3 hm3 hb3 hb23 hfin
        go_wp2
        go_ret2
        exact ⟨.slice (some ⟨w3.heap.size, 0, none⟩) 0 0, rfl, ⟨[], pths_empty _ _ H3.out.size⟩, H3.out.alloc H3.out.size _⟩
      · have hyy := HYES.out rfl
        have hm3' := hm3
        have hlq := HLP.out qs rfl hm3
        have hp3w := pths_low hp3 (base' := w.heap.size) (by simpa using hszw)
        have hso := l11Sort hyy.1 qs v w.heap.size w3 hp3w hfin.size hlq.1 hlq.2
        rw [hm3, ← hyy.2] at hso
        have HSO := Lib.hid hso
        have H3 := Lib.hid (And.intro hfin hb23)
        have HL3 := Lib.hid hlq
        have HM3 := Lib.hid hm3
        have HPS := Lib.hid hyy.2
        clear hp3 hm3 hm3' hb3 hb23 hfin hyy hlq hp3w hso
        go_wp2_with fail
        refine HSO.out.mono ?_
        rintro e w4 ⟨v4, qs4, rfl, ⟨hm4, hp4, hl4⟩, hb4⟩
        have hlen4 : qs4.length ≤ 400 := by rw [hl4]; exact HL3.out.2
        have hfin4 := bel_trans H3.out.1 hb4
        have HF : Hid (Pths w4 w.heap.size v4 qs4 ∧ qs4.map PP.p = PS ∧ Below w.heap.size w w4) := Lib.hid ⟨hp4, hm4, hfin4⟩
        have HQL : Hid (∀ q ∈ qs4, q.zs.length ≤ 1000) := Lib.hid (fun q hq => by
          have h1 : q.p ∈ qs4.map PP.p := List.mem_map_of_mem hq
          rw [hm4, HPS.out, srt_mem, ← HM3.out] at h1
          obtain ⟨q', hq', e'⟩ := List.mem_map.1 h1
          have h2 := HL3.out.1 q' hq'
          have h3 : q.zs = q'.zs := by injection e' with e1 e2; exact e1.symm
          rw [h3]
          exact h2)
        have HI4 : Hid (I0 = plP (qs4.map PP.p) (ys, y)) := Lib.hid (by rw [HE.out.1, hm4])
        have HW4 : Hid (Below w2.heap.size w2 w4) := Lib.hid (bel_trans H3.out.2 hb4)
        have hown := hp4.own.2
        clear hp4 hm4 hb4 hfin4 hl4
        rcases hown with ⟨hv, hn0⟩ | ⟨g, cap4, cur, hv, hbg, hhg, hcap, -⟩
        · subst hv
          have hq0 : qs4 = [] := List.length_eq_zero_iff.1 hn0
          subst hq0
          have hI : I0 = -1 := by rw [HI4.out]; exact plP_nil _
          subst hI
          clear hn0
          go_wp2
          go_loopw [10] (fun c wr => c = .int .i64 0 ∧ wr = w4) (fun c _ => 0)
          case atStart => exact ⟨rfl, rfl⟩
          case round =>
            obtain ⟨rfl, rfl⟩ := hrel
            go_wp2
            go_ret2
            exact ⟨_, [], rfl, HF.out.1, (fun _ => HF.out.2.1), HF.out.2.2⟩
        · subst hv
          have hgl := (Array.getElem?_eq_some_iff.1 hhg).1
          clear hhg
          go_wp2
          go_loopw [10] (fun c wr => ∃ k : Nat, k ≤ qs4.length ∧ c = .int .i64 k ∧ Hid (Below w4.heap.size w4 wr ∧ ∀ j, j < k → eqP (fQ qs4 j) (ys, y) = false)) (fun c _ => qs4.length - (intOf c).toNat)
          case atStart => exact ⟨0, Nat.zero_le _, rfl, Lib.hid ⟨Below.refl _ _, fun j hj => absurd hj (Nat.not_lt_zero _)⟩⟩
          case round =>
            obtain ⟨k, hk, rfl, HR⟩ := hrel
            by_cases hlt : k < qs4.length
            · have hlt' : (k : Int) < qs4.length := by omega
              have hlt2 : ¬ ((qs4.length : Int) ≤ k) := by omega
              have hlt3 : ¬ ((k : Int) < 0) := by omega
              have hglr : g < wr.heap.size := Nat.lt_of_lt_of_le hgl HR.out.1.size
              obtain ⟨hc0, hc1⟩ := cellsP_get (HF.out.1.keep HR.out.1) hlt
              have hrow := own_row (HF.out.1.row _ (getD_memP hlt)).1
              have hql := HQL.out _ (getD_memP hlt)
              obtain ⟨a1, s1, e1⟩ := own_slice (HF.out.1.row _ (getD_memP hlt)).1
              have hcall := fun W (h : Below wr.heap.size wr W) => sPathSame (qs4.getD k ppZ).x y (qs4.getD k ppZ).zs ys (qs4.getD k ppZ).v (.slice (some ⟨b2, off2, none⟩) ys.length c2) W (hrow.keep (bel_trans HR.out.1 h)) (HT.out.keep (bel_trans HF.out.2.2 (bel_trans HR.out.1 h))) (by omega) hl2
              rw [show pSame (qs4.getD k ppZ).zs (qs4.getD k ppZ).x ys y = eqP (fQ qs4 k) (ys, y) from rfl] at hcall
              clear hrow hql
              generalize qs4.getD k ppZ = P1 at hc0 hc1 hcall e1
              rw [e1] at hc0 hcall
              clear e1
              have FF : Hid (∀ w', Below wr.heap.size wr w' → w'.cell? ⟨w.heap.size + 1, 0, none⟩ = some (.slice (some ⟨b2, off2, none⟩) ys.length c2) ∧ w'.cell? ⟨w.heap.size + 1, 1, none⟩ = some (.int .i64 y) ∧ w'.cell? ⟨g, k * 2, none⟩ = some (.slice a1 P1.zs.length s1) ∧ w'.cell? ⟨g, k * 2 + 1, none⟩ = some (.int .i64 P1.x)) := Lib.hid (fun w' h => by
                obtain ⟨-, -, k2, k3, -, -⟩ := HOLD2.out w' (bel_trans HW4.out (bel_trans HR.out.1 h))
                exact ⟨k2, k3, (h.cell (p := ⟨g, _, none⟩) hglr).trans hc0, (h.cell (p := ⟨g, _, none⟩) hglr).trans hc1⟩)
              clear hc0 hc1
              cases hL : eqP (fQ qs4 k) (ys, y)
              · rw [hL] at hcall
                have HC := Lib.hid hcall
                have HL1 := Lib.hid hL
                clear hcall hL
                go_wp2_with fail
                refine wp_region_below (by kernel_rfl) (by kernel_rfl) ?_
                repeat (go_big_quiet_step ((intro hw; first | with_reducible rfl | (obtain ⟨f0, f1, f2, f3⟩ := FF.out _ hw; simp only [f0, f1, f2, f3, Result.andThen]; first | exact ⟨trivial, rfl⟩ | exact ⟨rfl, rfl⟩) | (with_reducible exact quietB (HC.out _ hw) hw))))
                refine wpQuiet_nil ?_
                intro w5 hw5
                go_wp2
                refine ⟨⟨k + 1, by omega, rfl, Lib.hid ⟨bel_trans HR.out.1 hw5, fun j hj => ?_⟩⟩, ?_⟩
                · by_cases e : j = k
                  · rw [e]; exact HL1.out
                  · exact HR.out.2 j (by omega)
                · show qs4.length - ((k : Int) + 1).toNat < qs4.length - (k : Int).toNat
                  omega
              · rw [hL] at hcall
                have HC := Lib.hid hcall
                have HL1 := Lib.hid hL
                clear hcall hL
                go_wp2_with fail
                refine wp_region_below (by kernel_rfl) (by kernel_rfl) ?_
                repeat (go_big_quiet_step ((intro hw; first | with_reducible rfl | (obtain ⟨f0, f1, f2, f3⟩ := FF.out _ hw; simp only [f0, f1, f2, f3, Result.andThen]; first | exact ⟨trivial, rfl⟩ | exact ⟨rfl, rfl⟩) | (with_reducible exact quietB (HC.out _ hw) hw))))
                refine wpQuiet_nil ?_
                intro w5 hw5
                go_wp2
                go_ret2
                rw [HI4.out, plQ_hit hlt HL1.out HR.out.2]
                exact ⟨.slice (some ⟨g, 0, none⟩) qs4.length cap4, qs4, rfl, HF.out.1.keep (bel_trans HR.out.1 hw5), (fun _ => HF.out.2.1), bel_trans HF.out.2.2 (bel_trans HR.out.1 hw5)⟩
            · have hge : k = qs4.length := by omega
              subst hge
              go_wp2
              go_ret2
              rw [HI4.out, plQ_none HR.out.2]
              exact ⟨.slice (some ⟨g, 0, none⟩) qs4.length cap4, qs4, rfl, HF.out.1.keep HR.out.1, (fun _ => HF.out.2.1), bel_trans HF.out.2.2 HR.out.1⟩

set_option maxRecDepth 20000 in
set_option maxHeartbeats 4000000 in
theorem sPathRank (n m y : Int) (es : List Ed) (ys : List Int) (s t : Value) (w : World) (hs : RowE w s es) (ht : Row w t ys) (hl : es.length ≤ 1048576) (hl2 : ys.length ≤ 281474976710656) :
    Calls Try.prog 36 #[.agg #[.int .i64 n, s], .int .i64 m, .agg #[t, .int .i64 y]] w fun e w' => e = .returned (.tuple #[.int .i64 (if prB n es m ys y then prI n es m ys y else 0), .bool (prB n es m ys y)]) ∧ Below w.heap.size w w' := by
  obtain ⟨ad, cap, rfl, hz0⟩ := id hs
  obtain ⟨ad2, c2, rfl, hz1⟩ := id ht
  clear hz0 hz1
  have hb0 : Below w.heap.size w ((w.alloc (.cells #[.int .i64 n, .slice ad es.length cap] 34)).alloc (.cells #[.slice ad2 ys.length c2, .int .i64 y] 49)) := ((Below.refl _ _).alloc (Nat.le_refl _) _).alloc (by simp) _
  have hpa := fun w' (h : Below w.heap.size w w') => l11Place n m y es ys (.slice ad es.length cap) (.slice ad2 ys.length c2) w' (hs.keep h) (ht.keep h) hl hl2
  have eB : prB n es m ys y = decide (prI n es m ys y ≥ 0) := rfl
  generalize prB n es m ys y = B at hpa eB ⊢
  generalize prI n es m ys y = I at hpa eB ⊢
  have HB0 := Lib.hid hb0
  have HPA := Lib.hid hpa
  clear hb0 hpa hs ht
  by_cases hI : I < 0
  · have hB : B = false := by rw [eB]; exact decide_eq_false (by omega)
    subst hB
    have d0 : decide (I < 0) = true := decide_eq_true hI
    clear eB
    go_enter Try.func36, Try.ntmps36
    go_wp2_with fail
    refine (HPA.out _ HB0.out).mono ?_
    rintro e w1 ⟨v, qs, rfl, hp, hi, hb1⟩
    have H1 := Lib.hid (bel_trans HB0.out hb1)
    clear hp hi hb1
    go_wp2
    go_ret2
    exact ⟨rfl, H1.out⟩
  · have hB : B = true := by rw [eB]; exact decide_eq_true (by omega)
    subst hB
    have d0 : decide (I < 0) = false := decide_eq_false hI
    clear eB
    go_enter Try.func36, Try.ntmps36
    go_wp2_with fail
    refine (HPA.out _ HB0.out).mono ?_
    rintro e w1 ⟨v, qs, rfl, hp, hi, hb1⟩
    have H1 := Lib.hid (bel_trans HB0.out hb1)
    clear hp hi hb1
    go_wp2
    go_ret2
    exact ⟨rfl, H1.out⟩
/-- The number that both hand back. -/
def prV (n : Int) (es : List Ed) (m : Int) (ys : List Int) (y : Int) : Int := if prB n es m ys y then prI n es m ys y else 0
theorem pathRankX (n m y : Int) (es : List Ed) (ys : List Int) (s t : Value) (w : World) (hs : RowE w s es) (ht : Row w t ys) (hok : okS s) (hl : es.length ≤ 1048576) (hl2 : ys.length ≤ 281474976710656) :
    Calls Try.prog 37 #[.agg #[.int .i64 n, s], .int .i64 m, .agg #[t, .int .i64 y]] w fun e w' => e = .returned (.tuple #[.int .i64 (prV n es m ys y), .bool (prB n es m ys y)]) ∧ Below w.heap.size w w' := pathRank n m y es ys s t w hs ht hok hl hl2
theorem sPathRankX (n m y : Int) (es : List Ed) (ys : List Int) (s t : Value) (w : World) (hs : RowE w s es) (ht : Row w t ys) (hl : es.length ≤ 1048576) (hl2 : ys.length ≤ 281474976710656) :
    Calls Try.prog 36 #[.agg #[.int .i64 n, s], .int .i64 m, .agg #[t, .int .i64 y]] w fun e w' => e = .returned (.tuple #[.int .i64 (prV n es m ys y), .bool (prB n es m ys y)]) ∧ Below w.heap.size w w' := sPathRank n m y es ys s t w hs ht hl hl2
end Go.Proofs.Ytneapbggnnndhaa
