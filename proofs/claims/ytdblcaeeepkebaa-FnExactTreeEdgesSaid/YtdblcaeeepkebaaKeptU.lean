/- Kept views, in the model: the nodes below one, paths, and the edges of the tree. -/
import Derived.Test.YtdblcaeeepkebaaKeptT
namespace Go.Proofs.Ytdblcaeeepkebaa
open Go.RowKit Go.BigFrame Go.Deep
set_option linter.unusedVariables false
set_option linter.unusedSimpArgs false

theorem kVal_par {n m A : Int} {es : List Ed} {zs ps : List Int} (h : kVal n m A es zs ps = true) : parOk ps := by
  obtain ⟨hg, hA, hz, hm, hv, hn, _, hf⟩ := kVal_parts h
  have h1 : (List.range ps.length).all (fitK m A es zs ps) = true := by
    rw [List.all_eq_true]; intro i hi; exact hf i (List.mem_range.1 hi)
  rw [fit_eq hg hn, Bool.and_eq_true, List.all_eq_true] at h1
  exact parOk_of_rng (m := m) (A := A) (zs := zs) hn (fun i hi => h1.1 i (List.mem_range.2 hi))
theorem pt_out {ps : List Int} {src x : Int} (h : x < 0 ∨ ps.length ≤ x) : ptR ps src x = none := by
  unfold ptR
  rw [ptGo]
  have : inP ps x = false := by
    unfold inP
    rcases h with h | h
    · rw [decide_eq_false (by omega)]; rfl
    · rw [decide_eq_false (show ¬ (x < ps.length) by omega), Bool.and_false]
  rw [this, if_neg (by decide)]

set_option maxRecDepth 20000 in
set_option maxHeartbeats 4000000 in
theorem sNodesBelow (n m A x : Int) (es : List Ed) (zs ps : List Int) (s v p : Value) (w : World) (hs : RowE w s es) (hv : Row w v zs) (hp : Row w p ps) (hl : es.length ≤ 1048576) (hl2 : zs.length ≤ 1048576) (hl3 : ps.length ≤ 1048576) :
    Calls Try.prog 39 #[.agg (kC n m A s v p), .int .i64 x] w fun e w' => ∃ u, e = .returned (.tuple #[u, .bool (kVal n m A es zs ps && inN n x)]) ∧ OwnI w w' u (nbV n m A es zs ps x) ∧ Below w.heap.size w w' := by
  obtain ⟨sa, sc, rfl, hz0⟩ := id hs
  obtain ⟨va, vc, rfl, hz1⟩ := id hv
  obtain ⟨pa, pc, rfl, hz2⟩ := id hp
  clear hz0 hz1 hz2
  have b0 := Box.new w 57 (kC n m A (.slice sa es.length sc) (.slice va zs.length vc) (.slice pa ps.length pc))
  have hb0 : Below w.heap.size w (w.alloc (.cells (kC n m A (.slice sa es.length sc) (.slice va zs.length vc) (.slice pa ps.length pc)) 57)) := (Below.refl _ _).alloc (Nat.le_refl _) _
  have K0 := Lib.hid (And.intro hb0 b0)
  have fx : ∀ w', Box w' w.heap.size 57 (kC n m A (.slice sa es.length sc) (.slice va zs.length vc) (.slice pa ps.length pc)) → w'.cell? ⟨w.heap.size, 0, none⟩ = some (.int .i64 n) ∧ w'.cell? ⟨w.heap.size, 1, none⟩ = some (.slice sa es.length sc) ∧ w'.cell? ⟨w.heap.size, 2, none⟩ = some (.int .i64 m) ∧ w'.cell? ⟨w.heap.size, 3, none⟩ = some (.int .i64 A) ∧ w'.cell? ⟨w.heap.size, 4, none⟩ = some (.slice va zs.length vc) ∧ w'.cell? ⟨w.heap.size, 5, none⟩ = some (.slice pa ps.length pc) :=
    fun w' hb => ⟨by simpa using hb.cell 0, by simpa using hb.cell 1, by simpa using hb.cell 2, by simpa using hb.cell 3, by simpa using hb.cell 4, by simpa using hb.cell 5⟩
  have FX := Lib.hid fx
  clear b0 hb0 fx
  have ho := fun w' (h : Below w.heap.size w w') => sKeptValid n m A es zs ps (.slice sa es.length sc) (.slice va zs.length vc) (.slice pa ps.length pc) w' (hs.keep h) (hv.keep h) (hp.keep h) hl hl2 hl3
  unfold nbV
  have HS := Lib.hid hs
  have HV := Lib.hid hv
  have HP := Lib.hid hp
  clear hs hv hp
  cases hK : kVal n m A es zs ps
  · rw [hK] at ho
    have HO := Lib.hid ho
    clear ho hK
    rw [Bool.false_and, if_neg (by decide)]
    go_enter Try.func39, Try.ntmps39
    go_wp2_with fail
    have SZ0 : Hid ((w.alloc (.cells (kC n m A (.slice sa es.length sc) (.slice va zs.length vc) (.slice pa ps.length pc)) 57)).heap.size = w.heap.size + 1) := Lib.hid (by simp)
    generalize (w.alloc (.cells (kC n m A (.slice sa es.length sc) (.slice va zs.length vc) (.slice pa ps.length pc)) 57)) = w0 at K0 SZ0 ⊢
    have K9 := Lib.hid (And.intro (K0.out.1.alloc K0.out.1.size (.cells #[] 3)) (And.intro (K0.out.2.alloc (.cells #[] 3)) (own_empty3 w0 3 1 w.heap.size K0.out.1.size)))
    have BA : Hid (w0.heap.size < (w0.alloc (.cells #[] 3)).heap.size) := Lib.hid (by simp)
    generalize (w0.alloc (.cells #[] 3)) = w9 at K9 BA ⊢
    have KB := Lib.hid (And.intro K9.out.1 K9.out.2.1)
    obtain ⟨x0, x1, x2, x3, x4, x5⟩ := FX.out _ KB.out.2
    go_wp2_with (go_at_call 35; (with_reducible refine (HO.out _ KB.out.1).mono ?_); rintro e w1 ⟨rfl, hb1⟩; have BK1 := Lib.hid hb1; have K1 := Lib.hid (And.intro (bel_trans KB.out.1 hb1) (KB.out.2.keep hb1)); clear x0 x1 x2 x3 x4 x5 hb1; obtain ⟨x0, x1, x2, x3, x4, x5⟩ := FX.out _ K1.out.2)
    go_ret2
    exact ⟨_, rfl, ⟨_, _, rfl, .inl rfl⟩, K1.out.1⟩
  rw [hK] at ho
  have HO := Lib.hid ho
  rw [Bool.true_and]
  have HPO := Lib.hid (kVal_par hK)
  obtain ⟨-, -, -, -, -, hpn, -, -⟩ := kVal_parts hK
  have HPN := Lib.hid hpn
  clear ho hK hpn
  by_cases hx0 : x < 0
  · have e0 : inN n x = false := by unfold inN; rw [decide_eq_false (by omega)]; rfl
    have d0 : decide (x < 0) = true := decide_eq_true hx0
    rw [e0, if_neg (by decide)]
    have HX0 := Lib.hid hx0
    clear hx0 e0
    go_enter Try.func39, Try.ntmps39
    go_wp2_with fail
    have SZ0 : Hid ((w.alloc (.cells (kC n m A (.slice sa es.length sc) (.slice va zs.length vc) (.slice pa ps.length pc)) 57)).heap.size = w.heap.size + 1) := Lib.hid (by simp)
    generalize (w.alloc (.cells (kC n m A (.slice sa es.length sc) (.slice va zs.length vc) (.slice pa ps.length pc)) 57)) = w0 at K0 SZ0 ⊢
    have K9 := Lib.hid (And.intro (K0.out.1.alloc K0.out.1.size (.cells #[] 3)) (And.intro (K0.out.2.alloc (.cells #[] 3)) (own_empty3 w0 3 1 w.heap.size K0.out.1.size)))
    have BA : Hid (w0.heap.size < (w0.alloc (.cells #[] 3)).heap.size) := Lib.hid (by simp)
    generalize (w0.alloc (.cells #[] 3)) = w9 at K9 BA ⊢
    have KB := Lib.hid (And.intro K9.out.1 K9.out.2.1)
    obtain ⟨x0, x1, x2, x3, x4, x5⟩ := FX.out _ KB.out.2
    go_wp2_with (go_at_call 35; (with_reducible refine (HO.out _ KB.out.1).mono ?_); rintro e w1 ⟨rfl, hb1⟩; have BK1 := Lib.hid hb1; have K1 := Lib.hid (And.intro (bel_trans KB.out.1 hb1) (KB.out.2.keep hb1)); clear x0 x1 x2 x3 x4 x5 hb1; obtain ⟨x0, x1, x2, x3, x4, x5⟩ := FX.out _ K1.out.2)
    go_ret2
    exact ⟨_, rfl, ⟨_, _, rfl, .inl rfl⟩, K1.out.1⟩
  have d0 : decide (x < 0) = false := decide_eq_false hx0
  by_cases hx1 : n ≤ x
  · have e0 : inN n x = false := by unfold inN; rw [decide_eq_false (show ¬ (x < n) by omega), Bool.and_false]
    have d1 : decide (n ≤ x) = true := decide_eq_true hx1
    rw [e0, if_neg (by decide)]
    have HX0 := Lib.hid (And.intro hx0 hx1)
    clear hx0 hx1 e0
    go_enter Try.func39, Try.ntmps39
    go_wp2_with fail
    have SZ0 : Hid ((w.alloc (.cells (kC n m A (.slice sa es.length sc) (.slice va zs.length vc) (.slice pa ps.length pc)) 57)).heap.size = w.heap.size + 1) := Lib.hid (by simp)
    generalize (w.alloc (.cells (kC n m A (.slice sa es.length sc) (.slice va zs.length vc) (.slice pa ps.length pc)) 57)) = w0 at K0 SZ0 ⊢
    have K9 := Lib.hid (And.intro (K0.out.1.alloc K0.out.1.size (.cells #[] 3)) (And.intro (K0.out.2.alloc (.cells #[] 3)) (own_empty3 w0 3 1 w.heap.size K0.out.1.size)))
    have BA : Hid (w0.heap.size < (w0.alloc (.cells #[] 3)).heap.size) := Lib.hid (by simp)
    generalize (w0.alloc (.cells #[] 3)) = w9 at K9 BA ⊢
    have KB := Lib.hid (And.intro K9.out.1 K9.out.2.1)
    obtain ⟨x0, x1, x2, x3, x4, x5⟩ := FX.out _ KB.out.2
    go_wp2_with (go_at_call 35; (with_reducible refine (HO.out _ KB.out.1).mono ?_); rintro e w1 ⟨rfl, hb1⟩; have BK1 := Lib.hid hb1; have K1 := Lib.hid (And.intro (bel_trans KB.out.1 hb1) (KB.out.2.keep hb1)); clear x0 x1 x2 x3 x4 x5 hb1; obtain ⟨x0, x1, x2, x3, x4, x5⟩ := FX.out _ K1.out.2)
    go_ret2
    exact ⟨_, rfl, ⟨_, _, rfl, .inl rfl⟩, K1.out.1⟩
  have d1 : decide (n ≤ x) = false := decide_eq_false hx1
  have e0 : inN n x = true := by unfold inN; rw [decide_eq_true (show 0 ≤ x by omega), decide_eq_true (show x < n by omega)]; rfl
  rw [e0, if_pos rfl]
  have HX0 := Lib.hid (And.intro hx0 hx1)
  clear hx0 hx1 e0
  have hib := fun (i : Nat) (hi : i < ps.length) w' (h : Below w.heap.size w w') => l6Below n m A es zs ps (.slice sa es.length sc) (.slice va zs.length vc) (.slice pa ps.length pc) i x w' (HS.out.keep h) (HV.out.keep h) (HP.out.keep h) hl3 HPO.out (by omega)
  have hbp : ∀ i : Nat, i < ps.length → belowL ps x (ps.length + 1) (i : Int) = ptB ps x (i : Int) := fun i hi => (belowL_pt HPO.out (top := x) (ps.length + 1) (i : Int) [] (by omega)).symm
  have HIB := Lib.hid hib
  have HBP := Lib.hid hbp
  clear hib hbp
  obtain ⟨i0, hi, hz0', hz1, hz2⟩ := info_parts info_int2
  have HI : Hid (Try.prog.info? 3 = some i0 ∧ i0.zero = some (.int .i64 0) ∧ i0.size = 1 ∧ i0.bytes = 8) := Lib.hid ⟨hi, hz0', hz1, hz2⟩
  clear hi hz0' hz1 hz2
  go_enter Try.func39, Try.ntmps39
  go_wp2_with fail
  have SZ0 : Hid ((w.alloc (.cells (kC n m A (.slice sa es.length sc) (.slice va zs.length vc) (.slice pa ps.length pc)) 57)).heap.size = w.heap.size + 1) := Lib.hid (by simp)
  generalize (w.alloc (.cells (kC n m A (.slice sa es.length sc) (.slice va zs.length vc) (.slice pa ps.length pc)) 57)) = w0 at K0 SZ0 ⊢
  have K9 := Lib.hid (And.intro (K0.out.1.alloc K0.out.1.size (.cells #[] 3)) (And.intro (K0.out.2.alloc (.cells #[] 3)) (own_empty3 w0 3 1 w.heap.size K0.out.1.size)))
  have BA : Hid (w0.heap.size < (w0.alloc (.cells #[] 3)).heap.size) := Lib.hid (by simp)
  generalize (w0.alloc (.cells #[] 3)) = w9 at K9 BA ⊢
  have KB := Lib.hid (And.intro K9.out.1 K9.out.2.1)
  obtain ⟨x0, x1, x2, x3, x4, x5⟩ := FX.out _ KB.out.2
  go_wp2_with (go_at_call 35; (with_reducible refine (HO.out _ KB.out.1).mono ?_); rintro e w1 ⟨rfl, hb1⟩; have BK1 := Lib.hid hb1; have K1 := Lib.hid (And.intro (bel_trans KB.out.1 hb1) (KB.out.2.keep hb1)); clear x0 x1 x2 x3 x4 x5 hb1; obtain ⟨x0, x1, x2, x3, x4, x5⟩ := FX.out _ K1.out.2)
  have HOW1 : Hid (w1.ownsRow w.heap.size 3 1 (.slice (some ⟨w.heap.size + 1, 0, none⟩) 0 0) (nbK ps x 0).length ((nbK ps x 0).map (Value.int .i64))) := Lib.hid (by
    have hb1 : Below w9.heap.size w9 w1 := BK1.out
    have h := own_keep K9.out.2.2 hb1
    rw [SZ0.out] at h
    exact h)
  go_loopw [7, 6] (fun c v wr => ∃ k : Nat, k ≤ ps.length ∧ c = .int .i64 k ∧ Hid (wr.ownsRow w.heap.size 3 1 v (nbK ps x k).length ((nbK ps x k).map (Value.int .i64))) ∧ Hid (Below w.heap.size w wr ∧ Box wr w.heap.size 57 (kC n m A (.slice sa es.length sc) (.slice va zs.length vc) (.slice pa ps.length pc)))) (fun c _ _ => ps.length - (intOf c).toNat)
  case atStart => exact ⟨0, Nat.zero_le _, rfl, HOW1, K1⟩
  case round =>
    obtain ⟨k, hk, rfl, HOW, HK⟩ := hrel
    clear x0 x1 x2 x3 x4 x5 HOW1
    obtain ⟨x0, x1, x2, x3, x4, x5⟩ := FX.out _ HK.out.2
    by_cases hlt : k < ps.length
    · have hlt' : (k : Int) < n := by have := HPN.out; omega
      have hib := HIB.out k hlt wr HK.out.1
      rw [HBP.out k hlt] at hib
      have hst := nbK_succ ps x k
      cases hb : ptB ps x k
      · rw [hb] at hib hst
        rw [if_neg (by decide), List.append_nil] at hst
        have HT := Lib.hid hst
        have HC := Lib.hid hib
        clear hst hib hb
        go_wp2_with (go_at_call 77; (with_reducible refine (HC.out).mono ?_); rintro e w2 ⟨rfl, hb2⟩; have HOW2 := Lib.hid (own_keep HOW.out hb2); have K2 := Lib.hid (And.intro (bel_trans HK.out.1 hb2) (HK.out.2.keep hb2)); clear x0 x1 x2 x3 x4 x5 hb2; obtain ⟨x0, x1, x2, x3, x4, x5⟩ := FX.out _ K2.out.2)
        go_roundw
        case rel => first | exact ⟨k + 1, by omega, by go_num, by rw [HT.out]; exact HOW2, K2⟩ | ((repeat apply Exists.intro); exact ⟨⟨k + 1, by omega, by go_num, by rw [HT.out]; exact HOW2, K2⟩, rfl⟩)
        case measure => simp [intOf]; omega
      · rw [hb] at hib hst
        rw [if_pos rfl] at hst
        have HT := Lib.hid hst
        have HC := Lib.hid hib
        have hln : (nbK ps x k).length ≤ k := nbK_len _ _ _
        clear hst hib hb
        obtain ⟨hi, hz0, hz1, hz2⟩ := HI.out
        go_wp2_with (first | (go_at_call 77; (with_reducible refine (HC.out).mono ?_); rintro e w2 ⟨rfl, hb2⟩; have HOW2 := Lib.hid (own_keep HOW.out hb2); have K2 := Lib.hid (And.intro (bel_trans HK.out.1 hb2) (HK.out.2.keep hb2)); clear x0 x1 x2 x3 x4 x5 hb2; obtain ⟨x0, x1, x2, x3, x4, x5⟩ := FX.out _ K2.out.2) | (at_builtin; refine wpList_append_own _ rfl (.tmp 35) (.tmp 37) 26 rfl w.heap.size 3 i0 (.int .i64 0) 1 8 Try.underlying26 hi hz0 hz1 hz2 rfl (by decide) _ _ _ rfl (HOW2.out.alloc _) ⟨w2.heap.size, 0, none⟩ 1 1 [.int .i64 k] rfl rfl ?c1 ?c2 ?c3 ?c4 ?c5 ?_))
        case c1 => exact cell_one_new _ _ _
        case c2 => simp [Value.oneCell']
        case c3 => unfold maxLen; omega
        case c4 => omega
        case c5 => have := K2.out.1.size; simp; omega
        intro v' w6 hown6 hgrow6 _
        have hown6' : w6.ownsRow w.heap.size 3 1 v' (nbK ps x (k + 1)).length ((nbK ps x (k + 1)).map (Value.int .i64)) := by rw [HT.out]; simpa using hown6
        have H7 := Lib.hid hown6'
        have H8 : Hid (Below w.heap.size w w6 ∧ Box w6 w.heap.size 57 (kC n m A (.slice sa es.length sc) (.slice va zs.length vc) (.slice pa ps.length pc))) := Lib.hid ⟨(K2.out.1.alloc K2.out.1.size _).grown hgrow6 (by have := K2.out.1.size; simp; omega) (fun q hq => (HOW2.out.lt q hq).1), (K2.out.2.alloc _).grown hgrow6 (HOW2.out.alloc _) (by decide)⟩
        clear hown6 hown6' hgrow6 hi hz0 hz1 hz2
        clear x0 x1 x2 x3 x4 x5
        obtain ⟨x0, x1, x2, x3, x4, x5⟩ := FX.out _ H8.out.2
        go_wp2
        go_roundw
        case rel => first | exact ⟨k + 1, by omega, by go_num, H7, H8⟩ | ((repeat apply Exists.intro); exact ⟨⟨k + 1, by omega, by go_num, H7, H8⟩, rfl⟩)
        case measure => simp [intOf]; omega
    · have hke : k = ps.length := by omega
      have hkk : ¬ ((k : Int) < n) := by have := HPN.out; omega
      have HKE := Lib.hid hke
      clear hke
      go_wp2
      go_ret2
      refine ⟨_, rfl, ?_, HK.out.1⟩
      rw [show nbL ps x = nbK ps x k by unfold nbL; rw [HKE.out]]
      exact OwnI.of HOW.out (Nat.le_refl _)

set_option maxRecDepth 20000 in
set_option maxHeartbeats 4000000 in
theorem sKeptPath (n m A x : Int) (es : List Ed) (zs ps : List Int) (s v p : Value) (w : World) (hs : RowE w s es) (hv : Row w v zs) (hp : Row w p ps) (hl : es.length ≤ 1048576) (hl2 : zs.length ≤ 1048576) (hl3 : ps.length ≤ 1048576) :
    Calls Try.prog 42 #[.agg (kC n m A s v p), .int .i64 x] w fun e w' => ∃ u, e = .returned (.tuple #[u, .bool (kVal n m A es zs ps && ptB ps A x)]) ∧ OwnI w w' u (kpL n m A es zs ps x) ∧ Below w.heap.size w w' := by
  obtain ⟨sa, sc, rfl, hz0⟩ := id hs
  obtain ⟨va, vc, rfl, hz1⟩ := id hv
  obtain ⟨pa, pc, rfl, hz2⟩ := id hp
  clear hz0 hz1 hz2
  have b0 := Box.new w 57 (kC n m A (.slice sa es.length sc) (.slice va zs.length vc) (.slice pa ps.length pc))
  have hb0 : Below w.heap.size w (w.alloc (.cells (kC n m A (.slice sa es.length sc) (.slice va zs.length vc) (.slice pa ps.length pc)) 57)) := (Below.refl _ _).alloc (Nat.le_refl _) _
  have K0 := Lib.hid (And.intro hb0 b0)
  have fx : ∀ w', Box w' w.heap.size 57 (kC n m A (.slice sa es.length sc) (.slice va zs.length vc) (.slice pa ps.length pc)) → w'.cell? ⟨w.heap.size, 0, none⟩ = some (.int .i64 n) ∧ w'.cell? ⟨w.heap.size, 1, none⟩ = some (.slice sa es.length sc) ∧ w'.cell? ⟨w.heap.size, 2, none⟩ = some (.int .i64 m) ∧ w'.cell? ⟨w.heap.size, 3, none⟩ = some (.int .i64 A) ∧ w'.cell? ⟨w.heap.size, 4, none⟩ = some (.slice va zs.length vc) ∧ w'.cell? ⟨w.heap.size, 5, none⟩ = some (.slice pa ps.length pc) :=
    fun w' hb => ⟨by simpa using hb.cell 0, by simpa using hb.cell 1, by simpa using hb.cell 2, by simpa using hb.cell 3, by simpa using hb.cell 4, by simpa using hb.cell 5⟩
  have FX := Lib.hid fx
  clear b0 hb0 fx
  have ho := fun w' (h : Below w.heap.size w w') => sKeptValid n m A es zs ps (.slice sa es.length sc) (.slice va zs.length vc) (.slice pa ps.length pc) w' (hs.keep h) (hv.keep h) (hp.keep h) hl hl2 hl3
  have hpt := fun w' (h : Below w.heap.size w w') => sPathTo 0 A x [] ps [] (.slice none 0 0) (.slice pa ps.length pc) (.slice none 0 0) w' (Row.nil w') (hp.keep h) (Row.nil w') hl3
  have HPT := Lib.hid hpt
  unfold kpL
  clear hs hv hp hpt
  cases hK : kVal n m A es zs ps
  · rw [hK] at ho
    have HO := Lib.hid ho
    clear ho hK
    rw [Bool.false_and, if_neg (by decide)]
    go_enter Try.func42, Try.ntmps42
    go_wp2_with fail
    generalize (w.alloc (.cells (kC n m A (.slice sa es.length sc) (.slice va zs.length vc) (.slice pa ps.length pc)) 57)) = w0 at K0 ⊢
    obtain ⟨x0, x1, x2, x3, x4, x5⟩ := FX.out _ K0.out.2
    go_wp2_with (go_at_call 35; (with_reducible refine (HO.out _ K0.out.1).mono ?_); rintro e w1 ⟨rfl, hb1⟩; have BK1 := Lib.hid hb1; have K1 := Lib.hid (And.intro (bel_trans K0.out.1 hb1) (K0.out.2.keep hb1)); clear x0 x1 x2 x3 x4 x5 hb1; obtain ⟨x0, x1, x2, x3, x4, x5⟩ := FX.out _ K1.out.2)
    go_ret2
    exact ⟨_, rfl, ⟨_, _, rfl, .inl rfl⟩, K1.out.1.alloc K1.out.1.size _⟩
  rw [hK] at ho
  have HO := Lib.hid ho
  rw [Bool.true_and, if_pos rfl]
  obtain ⟨-, -, -, -, -, hpn, -, -⟩ := kVal_parts hK
  clear ho hK
  by_cases hx0 : x < 0
  · have d0 : decide (x < 0) = true := decide_eq_true hx0
    obtain ⟨e1, e2⟩ := pt_none (pt_out (ps := ps) (src := A) (.inl hx0))
    rw [e1, e2]
    have HX0 := Lib.hid hx0
    clear hx0 e1 e2 hpn
    go_enter Try.func42, Try.ntmps42
    go_wp2_with fail
    generalize (w.alloc (.cells (kC n m A (.slice sa es.length sc) (.slice va zs.length vc) (.slice pa ps.length pc)) 57)) = w0 at K0 ⊢
    obtain ⟨x0, x1, x2, x3, x4, x5⟩ := FX.out _ K0.out.2
    go_wp2_with (go_at_call 35; (with_reducible refine (HO.out _ K0.out.1).mono ?_); rintro e w1 ⟨rfl, hb1⟩; have BK1 := Lib.hid hb1; have K1 := Lib.hid (And.intro (bel_trans K0.out.1 hb1) (K0.out.2.keep hb1)); clear x0 x1 x2 x3 x4 x5 hb1; obtain ⟨x0, x1, x2, x3, x4, x5⟩ := FX.out _ K1.out.2)
    go_ret2
    exact ⟨_, rfl, ⟨_, _, rfl, .inl rfl⟩, K1.out.1.alloc K1.out.1.size _⟩
  have d0 : decide (x < 0) = false := decide_eq_false hx0
  by_cases hx1 : n ≤ x
  · have d1 : decide (n ≤ x) = true := decide_eq_true hx1
    obtain ⟨e1, e2⟩ := pt_none (pt_out (ps := ps) (src := A) (x := x) (.inr (by omega)))
    rw [e1, e2]
    have HX0 := Lib.hid (And.intro hx0 hx1)
    clear hx0 hx1 e1 e2 hpn
    go_enter Try.func42, Try.ntmps42
    go_wp2_with fail
    generalize (w.alloc (.cells (kC n m A (.slice sa es.length sc) (.slice va zs.length vc) (.slice pa ps.length pc)) 57)) = w0 at K0 ⊢
    obtain ⟨x0, x1, x2, x3, x4, x5⟩ := FX.out _ K0.out.2
    go_wp2_with (go_at_call 35; (with_reducible refine (HO.out _ K0.out.1).mono ?_); rintro e w1 ⟨rfl, hb1⟩; have BK1 := Lib.hid hb1; have K1 := Lib.hid (And.intro (bel_trans K0.out.1 hb1) (K0.out.2.keep hb1)); clear x0 x1 x2 x3 x4 x5 hb1; obtain ⟨x0, x1, x2, x3, x4, x5⟩ := FX.out _ K1.out.2)
    go_ret2
    exact ⟨_, rfl, ⟨_, _, rfl, .inl rfl⟩, K1.out.1.alloc K1.out.1.size _⟩
  have d1 : decide (n ≤ x) = false := decide_eq_false hx1
  have HX0 := Lib.hid (And.intro hx0 hx1)
  clear hx0 hx1 hpn
  go_enter Try.func42, Try.ntmps42
  go_wp2_with fail
  generalize (w.alloc (.cells (kC n m A (.slice sa es.length sc) (.slice va zs.length vc) (.slice pa ps.length pc)) 57)) = w0 at K0 ⊢
  obtain ⟨x0, x1, x2, x3, x4, x5⟩ := FX.out _ K0.out.2
  go_wp2_with (first | (go_at_call 35; (with_reducible refine (HO.out _ K0.out.1).mono ?_); rintro e w1 ⟨rfl, hb1⟩; have BK1 := Lib.hid hb1; have K1 := Lib.hid (And.intro (bel_trans K0.out.1 hb1) (K0.out.2.keep hb1)); clear x0 x1 x2 x3 x4 x5 hb1; obtain ⟨x0, x1, x2, x3, x4, x5⟩ := FX.out _ K1.out.2) | (go_at_call 66; (with_reducible refine (HPT.out _ K1.out.1).mono ?_); rintro e w2 ⟨u, rfl, hou, hb2⟩))
  go_ret2
  exact ⟨_, rfl, hou.wider K1.out.1.size (Nat.le_refl _) (Nat.le_refl _), bel_trans K1.out.1 hb2⟩

set_option maxRecDepth 20000 in
set_option maxHeartbeats 4000000 in
theorem sTreeEdges (n m A : Int) (es : List Ed) (zs ps : List Int) (s v p : Value) (w : World) (hs : RowE w s es) (hv : Row w v zs) (hp : Row w p ps) (hl : es.length ≤ 1048576) (hl2 : zs.length ≤ 1048576) (hl3 : ps.length ≤ 1048576) :
    Calls Try.prog 44 #[.agg (kC n m A s v p)] w fun e w' => ∃ u, e = .returned (.tuple #[u, .bool (kVal n m A es zs ps)]) ∧ OwnE w w' u (teL n m A es zs ps) ∧ Below w.heap.size w w' := by
  obtain ⟨sa, sc, rfl, hz0⟩ := id hs
  obtain ⟨va, vc, rfl, hz1⟩ := id hv
  obtain ⟨pa, pc, rfl, hz2⟩ := id hp
  clear hz0 hz1 hz2
  have b0 := Box.new w 57 (kC n m A (.slice sa es.length sc) (.slice va zs.length vc) (.slice pa ps.length pc))
  have hb0 : Below w.heap.size w (w.alloc (.cells (kC n m A (.slice sa es.length sc) (.slice va zs.length vc) (.slice pa ps.length pc)) 57)) := (Below.refl _ _).alloc (Nat.le_refl _) _
  have K0 := Lib.hid (And.intro hb0 b0)
  have fx : ∀ w', Box w' w.heap.size 57 (kC n m A (.slice sa es.length sc) (.slice va zs.length vc) (.slice pa ps.length pc)) → w'.cell? ⟨w.heap.size, 0, none⟩ = some (.int .i64 n) ∧ w'.cell? ⟨w.heap.size, 1, none⟩ = some (.slice sa es.length sc) ∧ w'.cell? ⟨w.heap.size, 2, none⟩ = some (.int .i64 m) ∧ w'.cell? ⟨w.heap.size, 3, none⟩ = some (.int .i64 A) ∧ w'.cell? ⟨w.heap.size, 4, none⟩ = some (.slice va zs.length vc) ∧ w'.cell? ⟨w.heap.size, 5, none⟩ = some (.slice pa ps.length pc) :=
    fun w' hb => ⟨by simpa using hb.cell 0, by simpa using hb.cell 1, by simpa using hb.cell 2, by simpa using hb.cell 3, by simpa using hb.cell 4, by simpa using hb.cell 5⟩
  have FX := Lib.hid fx
  clear b0 hb0 fx
  have ho := fun w' (h : Below w.heap.size w w') => sKeptValid n m A es zs ps (.slice sa es.length sc) (.slice va zs.length vc) (.slice pa ps.length pc) w' (hs.keep h) (hv.keep h) (hp.keep h) hl hl2 hl3
  unfold teL
  have HS := Lib.hid hs
  have HP := Lib.hid hp
  clear hs hv hp
  cases hK : kVal n m A es zs ps
  · rw [hK] at ho
    have HO := Lib.hid ho
    clear ho hK
    rw [if_neg (by decide)]
    go_enter Try.func44, Try.ntmps44
    go_wp2_with fail
    have SZ0 : Hid ((w.alloc (.cells (kC n m A (.slice sa es.length sc) (.slice va zs.length vc) (.slice pa ps.length pc)) 57)).heap.size = w.heap.size + 1) := Lib.hid (by simp)
    generalize (w.alloc (.cells (kC n m A (.slice sa es.length sc) (.slice va zs.length vc) (.slice pa ps.length pc)) 57)) = w0 at K0 SZ0 ⊢
    have K9 := Lib.hid (And.intro (K0.out.1.alloc K0.out.1.size (.cells #[] 79)) (And.intro (K0.out.2.alloc (.cells #[] 79)) (own_empty3 w0 79 3 w.heap.size K0.out.1.size)))
    have BA : Hid (w0.heap.size < (w0.alloc (.cells #[] 79)).heap.size) := Lib.hid (by simp)
    generalize (w0.alloc (.cells #[] 79)) = w9 at K9 BA ⊢
    have KB := Lib.hid (And.intro K9.out.1 K9.out.2.1)
    obtain ⟨x0, x1, x2, x3, x4, x5⟩ := FX.out _ KB.out.2
    go_wp2_with (go_at_call 35; (with_reducible refine (HO.out _ KB.out.1).mono ?_); rintro e w1 ⟨rfl, hb1⟩; have BK1 := Lib.hid hb1; have K1 := Lib.hid (And.intro (bel_trans KB.out.1 hb1) (KB.out.2.keep hb1)); clear x0 x1 x2 x3 x4 x5 hb1; obtain ⟨x0, x1, x2, x3, x4, x5⟩ := FX.out _ K1.out.2)
    go_ret2
    exact ⟨_, rfl, ⟨_, _, rfl, .inl rfl⟩, K1.out.1⟩
  rw [hK] at ho
  have HO := Lib.hid ho
  obtain ⟨hg, hA, hzn, hm, hva, hpn, -, -⟩ := kVal_parts hK
  rw [if_pos rfl]
  clear ho hK hva
  have hea : ∀ k, k < es.length → 0 ≤ (es.getD k (0, 0, 0)).2.1 ∧ (es.getD k (0, 0, 0)).2.1.toNat < ps.length := fun k hk => by
    have h := (eAll_of hg _ (List.getElem_mem hk)).2.1
    have e2 : es.getD k (0, 0, 0) = es[k] := by simp [List.getD, hk]
    rw [e2]; omega
  have HEA := Lib.hid hea
  have HPN := Lib.hid hpn
  have HG := Lib.hid hg
  obtain ⟨i0, hi, hz0', hz1, hz2⟩ := info_parts info_edge
  have HI : Hid (Try.prog.info? 79 = some i0 ∧ i0.zero = some (.agg #[.int .i64 0, .int .i64 0, .int .i64 0]) ∧ i0.size = 3 ∧ i0.bytes = 24) := Lib.hid ⟨hi, hz0', hz1, hz2⟩
  clear hea hpn hg hi hz0' hz1 hz2 hzn
  go_enter Try.func44, Try.ntmps44
  go_wp2_with fail
  have SZ0 : Hid ((w.alloc (.cells (kC n m A (.slice sa es.length sc) (.slice va zs.length vc) (.slice pa ps.length pc)) 57)).heap.size = w.heap.size + 1) := Lib.hid (by simp)
  generalize (w.alloc (.cells (kC n m A (.slice sa es.length sc) (.slice va zs.length vc) (.slice pa ps.length pc)) 57)) = w0 at K0 SZ0 ⊢
  have K9 := Lib.hid (And.intro (K0.out.1.alloc K0.out.1.size (.cells #[] 79)) (And.intro (K0.out.2.alloc (.cells #[] 79)) (own_empty3 w0 79 3 w.heap.size K0.out.1.size)))
  have BA : Hid (w0.heap.size < (w0.alloc (.cells #[] 79)).heap.size) := Lib.hid (by simp)
  generalize (w0.alloc (.cells #[] 79)) = w9 at K9 BA ⊢
  have KB := Lib.hid (And.intro K9.out.1 K9.out.2.1)
  obtain ⟨x0, x1, x2, x3, x4, x5⟩ := FX.out _ KB.out.2
  go_wp2_with (go_at_call 35; (with_reducible refine (HO.out _ KB.out.1).mono ?_); rintro e w1 ⟨rfl, hb1⟩; have BK1 := Lib.hid hb1; have K1 := Lib.hid (And.intro (bel_trans KB.out.1 hb1) (KB.out.2.keep hb1)); clear x0 x1 x2 x3 x4 x5 hb1; obtain ⟨x0, x1, x2, x3, x4, x5⟩ := FX.out _ K1.out.2)
  have HOW1 : Hid (w1.ownsRow w.heap.size 79 3 (.slice (some ⟨w.heap.size + 1, 0, none⟩) 0 0) (treeL (es.take 0) ps).length (cellsE (treeL (es.take 0) ps))) := Lib.hid (by
    have hb1 : Below w9.heap.size w9 w1 := BK1.out
    have h := own_keep K9.out.2.2 hb1
    rw [SZ0.out] at h
    exact h)
  go_loopw [5, 4] (fun c v wr => ∃ k : Nat, k ≤ es.length ∧ c = .int .i64 k ∧ Hid (wr.ownsRow w.heap.size 79 3 v (treeL (es.take k) ps).length (cellsE (treeL (es.take k) ps))) ∧ Hid (Below w.heap.size w wr ∧ Box wr w.heap.size 57 (kC n m A (.slice sa es.length sc) (.slice va zs.length vc) (.slice pa ps.length pc)))) (fun c _ _ => es.length - (intOf c).toNat)
  case atStart => exact ⟨0, Nat.zero_le _, rfl, HOW1, K1⟩
  case round =>
    obtain ⟨k, hk, rfl, HOW, HK⟩ := hrel
    clear x0 x1 x2 x3 x4 x5 HOW1
    obtain ⟨x0, x1, x2, x3, x4, x5⟩ := FX.out _ HK.out.2
    by_cases hlt : k < es.length
    · have hlt' : (k : Int) < es.length := by omega
      obtain ⟨sb, so, sc2, hse, hsb, hsc⟩ := HS.out.at hlt
      injection hse with hsa _ hsc2
      subst hsa hsc2
      obtain ⟨x, y, z, hx⟩ : ∃ x y z, (x, y, z) = es.getD k (0, 0, 0) := ⟨_, _, _, rfl⟩
      have h1 := hsc k hlt
      have h2 := HEA.out k hlt
      have ht := treeL_take es ps hlt
      rw [← hx] at h1 h2 ht
      simp only at h1 h2 ht
      obtain ⟨Y, rfl⟩ : ∃ Y : Nat, y = Y := ⟨y.toNat, by omega⟩
      rw [Int.toNat_natCast] at h2 ht
      have hY : Y < ps.length := h2.2
      have hY' : (Y : Int) < ps.length := by omega
      obtain ⟨pb, po, pc2, hpe, hpb, hpc⟩ := HP.out.at hY
      injection hpe with hpa _ hpc2
      subst hpa hpc2
      obtain ⟨q, hq⟩ : ∃ q, q = ps.getD Y 0 := ⟨_, rfl⟩
      have h3 := hpc Y hY
      rw [← hq] at h3 ht
      have fr : ∀ w', Below w.heap.size w w' → w'.cell? ⟨sb, so + k * 3, none⟩ = some (.int .i64 x) ∧ w'.cell? ⟨sb, so + k * 3 + 1, none⟩ = some (.int .i64 Y) ∧ w'.cell? ⟨sb, so + k * 3 + 2, none⟩ = some (.int .i64 z) ∧ w'.cell? ⟨pb, po + Y, none⟩ = some (.int .i64 q) := fun w' h => ⟨(h.cell (p := ⟨sb, _, none⟩) hsb).trans h1.1, (h.cell (p := ⟨sb, _, none⟩) hsb).trans h1.2.1, (h.cell (p := ⟨sb, _, none⟩) hsb).trans h1.2.2, (h.cell (p := ⟨pb, _, none⟩) hpb).trans h3⟩
      have FR := Lib.hid fr
      have hln : (treeL (es.take k) ps).length ≤ k := Nat.le_trans (treeL_len _ _) (by simp; omega)
      clear h1 h2 h3 hx hq hsc hpc fr
      by_cases hqx : q = x
      · rw [if_pos hqx] at ht
        have d1 : (q == x) = true := by simpa using hqx
        have HT := Lib.hid ht
        have HQ := Lib.hid hqx
        clear ht hqx
        obtain ⟨hi, hz0, hz1, hz2⟩ := HI.out
        go_wp2_with fail
        refine wp_region_below (by kernel_rfl) (by kernel_rfl) ?_
        repeat (go_big_quiet_step ((intro hw; first | with_reducible rfl | (obtain ⟨f0, f1, f2, f3, f4, f5⟩ := FX.out _ (HK.out.2.keep hw); obtain ⟨r0, r1, r2, r3⟩ := FR.out _ (bel_trans HK.out.1 hw); simp only [f0, f1, f2, f3, f4, f5, r0, r1, r2, r3, Result.andThen]; first | exact ⟨trivial, rfl⟩ | exact ⟨rfl, rfl⟩))))
        refine wpQuiet_nil ?_
        intro w3 hw3
        have K3 := Lib.hid (And.intro (bel_trans HK.out.1 hw3) (HK.out.2.keep hw3))
        have HOW3 := Lib.hid (own_keep HOW.out hw3)
        clear hw3 x0 x1 x2 x3 x4 x5
        obtain ⟨x0, x1, x2, x3, x4, x5⟩ := FX.out _ K3.out.2
        obtain ⟨e0, e1, e2, -⟩ := FR.out _ K3.out.1
        go_wp2_with (at_builtin; refine wpList_append_own _ rfl (.tmp 38) (.tmp 45) 29 rfl w.heap.size 79 i0 (.agg #[.int .i64 0, .int .i64 0, .int .i64 0]) 3 24 Try.underlying29 hi hz0 hz1 hz2 rfl (by decide) _ _ _ rfl (HOW3.out.alloc _) ⟨w3.heap.size, 0, none⟩ 1 1 [.int .i64 x, .int .i64 Y, .int .i64 z] rfl rfl ?c1 ?c2 ?c3 ?c4 ?c5 ?_)
        case c1 => exact cell_three_new _ _ _ _ _
        case c2 => simp [Value.oneCell']
        case c3 => unfold maxLen; omega
        case c4 => omega
        case c5 => have := K3.out.1.size; simp; omega
        intro v' w6 hown6 hgrow6 _
        have hown6' : w6.ownsRow w.heap.size 79 3 v' (treeL (es.take (k + 1)) ps).length (cellsE (treeL (es.take (k + 1)) ps)) := by rw [HT.out, List.length_append, cellsE_app, cellsE_one1]; exact hown6
        have H7 := Lib.hid hown6'
        have H8 : Hid (Below w.heap.size w w6 ∧ Box w6 w.heap.size 57 (kC n m A (.slice (some ⟨sb, so, none⟩) es.length sc) (.slice va zs.length vc) (.slice (some ⟨pb, po, none⟩) ps.length pc))) := Lib.hid ⟨(K3.out.1.alloc K3.out.1.size _).grown hgrow6 (by have := K3.out.1.size; simp; omega) (fun q hq => (HOW3.out.lt q hq).1), (K3.out.2.alloc _).grown hgrow6 (HOW3.out.alloc _) (by decide)⟩
        clear hown6 hown6' hgrow6 hi hz0 hz1 hz2 e0 e1 e2 x0 x1 x2 x3 x4 x5
        obtain ⟨x0, x1, x2, x3, x4, x5⟩ := FX.out _ H8.out.2
        go_wp2
        go_roundw
        case rel => first | exact ⟨k + 1, by omega, by go_num, H7, H8⟩ | ((repeat apply Exists.intro); exact ⟨⟨k + 1, by omega, by go_num, H7, H8⟩, rfl⟩)
        case measure => simp [intOf]; omega
      · rw [if_neg hqx, List.append_nil] at ht
        have d1 : (q == x) = false := by simpa using hqx
        have HT := Lib.hid ht
        have HQ := Lib.hid hqx
        clear ht hqx
        go_wp2_with fail
        refine wp_region_below (by kernel_rfl) (by kernel_rfl) ?_
        repeat (go_big_quiet_step ((intro hw; first | with_reducible rfl | (obtain ⟨f0, f1, f2, f3, f4, f5⟩ := FX.out _ (HK.out.2.keep hw); obtain ⟨r0, r1, r2, r3⟩ := FR.out _ (bel_trans HK.out.1 hw); simp only [f0, f1, f2, f3, f4, f5, r0, r1, r2, r3, Result.andThen]; first | exact ⟨trivial, rfl⟩ | exact ⟨rfl, rfl⟩))))
        refine wpQuiet_nil ?_
        intro w3 hw3
        have K3 := Lib.hid (And.intro (bel_trans HK.out.1 hw3) (HK.out.2.keep hw3))
        have HOW3 := Lib.hid (own_keep HOW.out hw3)
        clear hw3 x0 x1 x2 x3 x4 x5
        obtain ⟨x0, x1, x2, x3, x4, x5⟩ := FX.out _ K3.out.2
        go_wp2
        go_roundw
        case rel => first | exact ⟨k + 1, by omega, by go_num, by rw [HT.out]; exact HOW3, K3⟩ | ((repeat apply Exists.intro); exact ⟨⟨k + 1, by omega, by go_num, by rw [HT.out]; exact HOW3, K3⟩, rfl⟩)
        case measure => simp [intOf]; omega
    · have hke : k = es.length := by omega
      have hkk : ¬ ((k : Int) < es.length) := by omega
      have HKE := Lib.hid hke
      clear hke
      go_wp2
      go_ret2
      refine ⟨_, rfl, ?_, HK.out.1⟩
      have := HOW.out
      rw [HKE.out, List.take_length] at this
      exact OwnE.of this (Nat.le_refl _)
end Go.Proofs.Ytdblcaeeepkebaa
