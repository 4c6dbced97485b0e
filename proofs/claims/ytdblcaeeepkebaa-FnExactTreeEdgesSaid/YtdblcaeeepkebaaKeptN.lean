/- Kept views, in the program: the nodes below one, paths, and the edges of the tree. -/
import Derived.Test.YtdblcaeeepkebaaKeptV
import Derived.Test.YtdblcaeeepkebaaNext
import Derived.Test.YtdblcaeeepkebaaCutS
namespace Go.Proofs.Ytdblcaeeepkebaa
open Go.RowKit Go.BigFrame Go.Deep
set_option linter.unusedVariables false
set_option linter.unusedSimpArgs false

/-- The nodes below a node, of the first k ones. -/
def nbK (ps : List Int) (top : Int) (k : Nat) : List Int := ((List.range k).filter (fun i => ptB ps top (i : Nat))).map (fun (i : Nat) => (i : Int))
def nbL (ps : List Int) (top : Int) : List Int := nbK ps top ps.length
theorem nbK_succ (ps : List Int) (top : Int) (k : Nat) : nbK ps top (k + 1) = nbK ps top k ++ (if ptB ps top k = true then [(k : Int)] else []) := by
  unfold nbK
  rw [List.range_succ, List.filter_append, List.map_append]
  congr 1
  rw [List.filter_cons]
  cases ptB ps top k <;> simp
theorem nbK_len (ps : List Int) (top : Int) (k : Nat) : (nbK ps top k).length ≤ k := by
  unfold nbK; rw [List.length_map]; exact Nat.le_trans (List.length_filter_le _ _) (by simp)
/-- The edges of a tree. -/
def treeL (es : List Ed) (ps : List Int) : List Ed := es.filter (fun e => decide (ps.getD e.2.1.toNat 0 = e.1))
theorem treeL_take (es : List Ed) (ps : List Int) {k : Nat} (hk : k < es.length) : treeL (es.take (k + 1)) ps = treeL (es.take k) ps ++ (if ps.getD (es.getD k (0, 0, 0)).2.1.toNat 0 = (es.getD k (0, 0, 0)).1 then [es.getD k (0, 0, 0)] else []) := by
  have : es.take (k + 1) = es.take k ++ [es.getD k (0, 0, 0)] := by rw [List.take_succ_eq_append_getElem hk]; simp [List.getD, hk]
  rw [this]
  generalize es.getD k (0, 0, 0) = e
  unfold treeL
  rw [List.filter_append]
  congr 1
  by_cases h : ps.getD e.2.1.toNat 0 = e.1
  · rw [if_pos h, List.filter_cons, decide_eq_true h, if_pos rfl, List.filter_nil]
  · rw [if_neg h, List.filter_cons, decide_eq_false h, if_neg (by decide), List.filter_nil]
theorem treeL_len (es : List Ed) (ps : List Int) : (treeL es ps).length ≤ es.length := List.length_filter_le _ _
theorem cell_three_new (w : World) (x y z : Value) (t : TypeId) : ∀ j u, [x, y, z][j]? = some u → (w.alloc (.cells #[x, y, z] t)).cell? (Addr.add ⟨w.heap.size, 0, none⟩ j) = some u := by
  intro j u h
  have hn : (w.alloc (.cells #[x, y, z] t)).heap[w.heap.size]? = some (.cells #[x, y, z] t (0, 0)) := blk_alloc_new _ _
  have hc : (w.alloc (.cells #[x, y, z] t)).cell? ⟨w.heap.size, j, none⟩ = #[x, y, z][j]? := by
    unfold World.cell?
    simp only [hn]
    simp
  have ha : Addr.add ⟨w.heap.size, 0, none⟩ j = ⟨w.heap.size, j, none⟩ := by rw [Go.WideShapes.add_plain, Nat.zero_add]
  rw [ha, hc]
  simpa using h

set_option maxRecDepth 20000 in
set_option maxHeartbeats 2000000 in
theorem nodesBelow (ps : List Int) (top : Int) (v : Value) (w : World) (hp : Row w v ps) (hl : ps.length ≤ 1048576) :
    Calls Try.prog 78 #[v, .int .i64 top] w fun e w' => ∃ u, e = .returned u ∧ OwnI w w' u (nbL ps top) ∧ okS u ∧ Below w.heap.size w w' := by
  obtain ⟨pa, pc, rfl, hz2⟩ := id hp
  clear hz2
  have hib := fun (i : Nat) w' (h : Below w.heap.size w w') => isBelow ps i top (.slice pa ps.length pc) w' (hp.keep h) hl
  have HIB := Lib.hid hib
  obtain ⟨i0, hi, hz0', hz1, hz2⟩ := info_parts info_int2
  have HI : Hid (Try.prog.info? 3 = some i0 ∧ i0.zero = some (.int .i64 0) ∧ i0.size = 1 ∧ i0.bytes = 8) := Lib.hid ⟨hi, hz0', hz1, hz2⟩
  clear hib hp hi hz0' hz1 hz2
  go_enter Try.func78, Try.ntmps78
  go_wp2
  go_loopw [9, 5] (fun c v wr => ∃ k : Nat, k ≤ ps.length ∧ c = .int .i64 k ∧ Hid (wr.ownsRow w.heap.size 3 1 v (nbK ps top k).length ((nbK ps top k).map (Value.int .i64))) ∧ Hid (Below w.heap.size w wr)) (fun c _ _ => ps.length - (intOf c).toNat)
  case atStart => exact ⟨0, Nat.zero_le _, rfl, Lib.hid ⟨by simp [nbK], .inl ⟨rfl, by simp [nbK]⟩⟩, Lib.hid (Below.refl _ _)⟩
  case round =>
    obtain ⟨k, hk, rfl, HOW, HB⟩ := hrel
    by_cases hlt : k < ps.length
    · have hlt' : (k : Int) < ps.length := by omega
      have hib := HIB.out k wr HB.out
      have hst := nbK_succ ps top k
      cases hb : ptB ps top k
      · rw [hb] at hib hst
        rw [if_neg (by decide), List.append_nil] at hst
        have HT := Lib.hid hst
        have HC := Lib.hid hib
        clear hst hib hb
        go_wp2_with (go_at_call 107; (with_reducible refine (HC.out).mono ?_); rintro e w2 ⟨rfl, hb2⟩; have HOW2 := Lib.hid (own_keep HOW.out hb2); have HB2 := Lib.hid (bel_trans HB.out hb2); clear hb2)
        go_roundw
        case rel => first | exact ⟨k + 1, by omega, by go_num, by rw [HT.out]; exact HOW2, HB2⟩ | ((repeat apply Exists.intro); exact ⟨⟨k + 1, by omega, by go_num, by rw [HT.out]; exact HOW2, HB2⟩, rfl⟩)
        case measure => simp [intOf]; omega
      · rw [hb] at hib hst
        rw [if_pos rfl] at hst
        have HT := Lib.hid hst
        have HC := Lib.hid hib
        have hln : (nbK ps top k).length ≤ k := nbK_len _ _ _
        clear hst hib hb
        obtain ⟨hi, hz0, hz1, hz2⟩ := HI.out
        go_wp2_with (first | (go_at_call 107; (with_reducible refine (HC.out).mono ?_); rintro e w2 ⟨rfl, hb2⟩; have HOW2 := Lib.hid (own_keep HOW.out hb2); have HB2 := Lib.hid (bel_trans HB.out hb2); clear hb2) | (at_builtin; refine wpList_append_own _ rfl (.tmp 16) (.tmp 18) 26 rfl w.heap.size 3 i0 (.int .i64 0) 1 8 Try.underlying26 hi hz0 hz1 hz2 rfl (by decide) _ _ _ rfl (HOW2.out.alloc _) ⟨w2.heap.size, 0, none⟩ 1 1 [.int .i64 k] rfl rfl ?c1 ?c2 ?c3 ?c4 ?c5 ?_))
        case c1 => exact cell_one_new _ _ _
        case c2 => simp [Value.oneCell']
        case c3 => unfold maxLen; omega
        case c4 => omega
        case c5 => have := HB2.out.size; simp; omega
        intro v' w6 hown6 hgrow6 _
        have hown6' : w6.ownsRow w.heap.size 3 1 v' (nbK ps top (k + 1)).length ((nbK ps top (k + 1)).map (Value.int .i64)) := by rw [HT.out]; simpa using hown6
        have H7 := Lib.hid hown6'
        have H8 : Hid (Below w.heap.size w w6) := Lib.hid ((HB2.out.alloc HB2.out.size _).grown hgrow6 (by have := HB2.out.size; simp; omega) (fun q hq => (HOW2.out.lt q hq).1))
        clear hown6 hown6' hgrow6 hi hz0 hz1 hz2
        go_wp2
        go_roundw
        case rel => first | exact ⟨k + 1, by omega, by go_num, H7, H8⟩ | ((repeat apply Exists.intro); exact ⟨⟨k + 1, by omega, by go_num, H7, H8⟩, rfl⟩)
        case measure => simp [intOf]; omega
    · have hke : k = ps.length := by omega
      have hkk : ¬ ((k : Int) < ps.length) := by omega
      have HK := Lib.hid hke
      clear hke
      go_wp2
      go_ret
      refine ⟨_, rfl, ?_, own_ok HOW.out, HB.out⟩
      rw [show nbL ps top = nbK ps top k by unfold nbL; rw [HK.out]]
      exact OwnI.of HOW.out (Nat.le_refl _)

/-- The nodes below a node of a kept view. -/
def nbV (n m A : Int) (es : List Ed) (zs ps : List Int) (x : Int) : List Int := if (kVal n m A es zs ps && inN n x) = true then nbL ps x else []
set_option maxRecDepth 20000 in
set_option maxHeartbeats 2000000 in
theorem nodesBelowK (n m A x : Int) (es : List Ed) (zs ps : List Int) (s v p : Value) (w : World) (hs : RowE w s es) (hv : Row w v zs) (hp : Row w p ps) (hl : es.length ≤ 1048576) (hl2 : zs.length ≤ 1048576) (hl3 : ps.length ≤ 1048576) :
    Calls Try.prog 40 #[.agg (kC n m A s v p), .int .i64 x] w fun e w' => ∃ u, e = .returned (.tuple #[u, .bool (kVal n m A es zs ps && inN n x)]) ∧ OwnI w w' u (nbV n m A es zs ps x) ∧ Below w.heap.size w w' := by
  obtain ⟨sa, sc, rfl, hz0⟩ := id hs
  obtain ⟨va, vc, rfl, hz1⟩ := id hv
  obtain ⟨pa, pc, rfl, hz2⟩ := id hp
  clear hz0 hz1 hz2
  have b0 := Box.new w 57 (kC n m A (.slice sa es.length sc) (.slice va zs.length vc) (.slice pa ps.length pc))
  have hb0 : Below w.heap.size w (w.alloc (.cells (kC n m A (.slice sa es.length sc) (.slice va zs.length vc) (.slice pa ps.length pc)) 57)) := (Below.refl _ _).alloc (Nat.le_refl _) _
  have K0 := Lib.hid (And.intro hb0 b0)
  have fx : ∀ w', Box w' w.heap.size 57 (kC n m A (.slice sa es.length sc) (.slice va zs.length vc) (.slice pa ps.length pc)) → w'.cell? ⟨w.heap.size, 0, none⟩ = some (.int .i64 n) ∧ w'.cell? ⟨w.heap.size, 1, none⟩ = some (.slice sa es.length sc) ∧ w'.cell? ⟨w.heap.size, 2, none⟩ = some (.int .i64 m) ∧ w'.cell? ⟨w.heap.size, 3, none⟩ = some (.int .i64 A) ∧ w'.cell? ⟨w.heap.size, 4, none⟩ = some (.slice va zs.length vc) ∧ w'.cell? ⟨w.heap.size, 5, none⟩ = some (.slice pa ps.length pc) :=
    fun w' hb => ⟨by simpa using hb.cell 0, by simpa using hb.cell 1, by simpa using hb.cell 2, by simpa using hb.cell 3, by simpa using hb.cell 4, by simpa using hb.cell 5⟩
  have FX := Lib.hid fx
  clear b0 hb0 fx
  have ho := fun w' (h : Below w.heap.size w w') => keptValid n m A es zs ps (.slice sa es.length sc) (.slice va zs.length vc) (.slice pa ps.length pc) w' (hs.keep h) (hv.keep h) (hp.keep h) hl hl2 hl3
  have hh := fun w' => hasNode n x (.slice sa es.length sc) w'
  simp only [show (decide (0 ≤ x) && decide (x < n)) = inN n x from rfl] at hh
  have hnb := fun w' (h : Below w.heap.size w w') => nodesBelow ps x (.slice pa ps.length pc) w' (hp.keep h) hl3
  have HNB := Lib.hid hnb
  unfold nbV
  clear hs hv hp hnb
  cases hK : kVal n m A es zs ps
  · rw [hK] at ho
    have HO := Lib.hid ho
    clear ho hK hh
    rw [Bool.false_and, if_neg (by decide)]
    go_enter Try.func40, Try.ntmps40
    go_wp2_with fail
    generalize (w.alloc (.cells (kC n m A (.slice sa es.length sc) (.slice va zs.length vc) (.slice pa ps.length pc)) 57)) = w0 at K0 ⊢
    obtain ⟨x0, x1, x2, x3, x4, x5⟩ := FX.out _ K0.out.2
    go_wp2_with (go_at_call 37; (with_reducible refine (HO.out _ K0.out.1).mono ?_); rintro e w1 ⟨rfl, hb1⟩; have K1 := Lib.hid (And.intro (bel_trans K0.out.1 hb1) (K0.out.2.keep hb1)); clear x0 x1 x2 x3 x4 x5; obtain ⟨x0, x1, x2, x3, x4, x5⟩ := FX.out _ K1.out.2)
    go_ret2
    exact ⟨_, rfl, ⟨none, 0, rfl, .inl rfl⟩, K1.out.1⟩
  rw [hK] at ho
  have HO := Lib.hid ho
  rw [Bool.true_and]
  cases hN : inN n x
  · rw [hN] at hh
    have HH := Lib.hid hh
    clear ho hK hh hN
    rw [if_neg (by decide)]
    go_enter Try.func40, Try.ntmps40
    go_wp2_with fail
    generalize (w.alloc (.cells (kC n m A (.slice sa es.length sc) (.slice va zs.length vc) (.slice pa ps.length pc)) 57)) = w0 at K0 ⊢
    obtain ⟨x0, x1, x2, x3, x4, x5⟩ := FX.out _ K0.out.2
    go_wp2_with (first | (go_at_call 37; (with_reducible refine (HO.out _ K0.out.1).mono ?_); rintro e w1 ⟨rfl, hb1⟩; have K1 := Lib.hid (And.intro (bel_trans K0.out.1 hb1) (K0.out.2.keep hb1)); clear x0 x1 x2 x3 x4 x5; obtain ⟨x0, x1, x2, x3, x4, x5⟩ := FX.out _ K1.out.2) | (go_at_call 67; (with_reducible refine (HH.out _).mono ?_); rintro e w2 ⟨rfl, hb2⟩; have K2 := Lib.hid (And.intro (bel_trans K1.out.1 hb2) (K1.out.2.keep hb2)); clear x0 x1 x2 x3 x4 x5; obtain ⟨x0, x1, x2, x3, x4, x5⟩ := FX.out _ K2.out.2))
    go_ret2
    exact ⟨_, rfl, ⟨none, 0, rfl, .inl rfl⟩, K2.out.1⟩
  rw [hN] at hh
  have HH := Lib.hid hh
  clear ho hK hh hN
  rw [if_pos rfl]
  go_enter Try.func40, Try.ntmps40
  go_wp2_with fail
  generalize (w.alloc (.cells (kC n m A (.slice sa es.length sc) (.slice va zs.length vc) (.slice pa ps.length pc)) 57)) = w0 at K0 ⊢
  obtain ⟨x0, x1, x2, x3, x4, x5⟩ := FX.out _ K0.out.2
  go_wp2_with (first | (go_at_call 37; (with_reducible refine (HO.out _ K0.out.1).mono ?_); rintro e w1 ⟨rfl, hb1⟩; have K1 := Lib.hid (And.intro (bel_trans K0.out.1 hb1) (K0.out.2.keep hb1)); clear x0 x1 x2 x3 x4 x5; obtain ⟨x0, x1, x2, x3, x4, x5⟩ := FX.out _ K1.out.2) | (go_at_call 67; (with_reducible refine (HH.out _).mono ?_); rintro e w2 ⟨rfl, hb2⟩; have K2 := Lib.hid (And.intro (bel_trans K1.out.1 hb2) (K1.out.2.keep hb2)); clear x0 x1 x2 x3 x4 x5; obtain ⟨x0, x1, x2, x3, x4, x5⟩ := FX.out _ K2.out.2) | (go_at_call 78; (with_reducible refine (HNB.out _ K2.out.1).mono ?_); rintro e w3 ⟨u, rfl, hou, hok, hb3⟩))
  go_ret2
  exact ⟨_, rfl, hou.wider K2.out.1.size (Nat.le_refl _) (Nat.le_refl _), bel_trans K2.out.1 hb3⟩

/-- The path to a node of a kept view. -/
def kpL (n m A : Int) (es : List Ed) (zs ps : List Int) (x : Int) : List Int := if kVal n m A es zs ps = true then ptL ps A x else []
set_option maxRecDepth 20000 in
set_option maxHeartbeats 2000000 in
theorem keptPath (n m A x : Int) (es : List Ed) (zs ps : List Int) (s v p : Value) (w : World) (hs : RowE w s es) (hv : Row w v zs) (hp : Row w p ps) (hl : es.length ≤ 1048576) (hl2 : zs.length ≤ 1048576) (hl3 : ps.length ≤ 1048576) :
    Calls Try.prog 43 #[.agg (kC n m A s v p), .int .i64 x] w fun e w' => ∃ u, e = .returned (.tuple #[u, .bool (kVal n m A es zs ps && ptB ps A x)]) ∧ OwnI w w' u (kpL n m A es zs ps x) ∧ Below w.heap.size w w' := by
  obtain ⟨sa, sc, rfl, hz0⟩ := id hs
  obtain ⟨va, vc, rfl, hz1⟩ := id hv
  obtain ⟨pa, pc, rfl, hz2⟩ := id hp
  clear hz0 hz1 hz2
  have b0 := Box.new w 57 (kC n m A (.slice sa es.length sc) (.slice va zs.length vc) (.slice pa ps.length pc))
  have hb0 : Below w.heap.size w (w.alloc (.cells (kC n m A (.slice sa es.length sc) (.slice va zs.length vc) (.slice pa ps.length pc)) 57)) := (Below.refl _ _).alloc (Nat.le_refl _) _
  have K0 := Lib.hid (And.intro hb0 b0)
  have fx : ∀ w', Box w' w.heap.size 57 (kC n m A (.slice sa es.length sc) (.slice va zs.length vc) (.slice pa ps.length pc)) → w'.cell? ⟨w.heap.size, 0, none⟩ = some (.int .i64 n) ∧ w'.cell? ⟨w.heap.size, 1, none⟩ = some (.slice sa es.length sc) ∧ w'.cell? ⟨w.heap.size, 2, none⟩ = some (.int .i64 m) ∧ w'.cell? ⟨w.heap.size, 3, none⟩ = some (.int .i64 A) ∧ w'.cell? ⟨w.heap.size, 4, none⟩ = some (.slice va zs.length vc) ∧ w'.cell? ⟨w.heap.size, 5, none⟩ = some (.slice pa ps.length pc) :=
    fun w' hb => ⟨by simpa using hb.cell 0, by simpa using hb.cell 1, by simpa using hb.cell 2, by simpa using hb.cell 3, by simpa using hb.cell 4, by simpa using hb.cell 5⟩
  have FX := Lib.hid fx
  clear b0 hb0 fx
  have ho := fun w' (h : Below w.heap.size w w') => keptValid n m A es zs ps (.slice sa es.length sc) (.slice va zs.length vc) (.slice pa ps.length pc) w' (hs.keep h) (hv.keep h) (hp.keep h) hl hl2 hl3
  have hpt := fun w' (h : Below w.heap.size w w') => pathTo 0 A x [] ps [] (.slice none 0 0) (.slice pa ps.length pc) (.slice none 0 0) w' (Row.nil w') (hp.keep h) (Row.nil w') hl3
  have HPT := Lib.hid hpt
  unfold kpL
  clear hs hv hp hpt
  cases hK : kVal n m A es zs ps
  · rw [hK] at ho
    have HO := Lib.hid ho
    clear ho hK
    rw [Bool.false_and, if_neg (by decide)]
    go_enter Try.func43, Try.ntmps43
    go_wp2_with fail
    generalize (w.alloc (.cells (kC n m A (.slice sa es.length sc) (.slice va zs.length vc) (.slice pa ps.length pc)) 57)) = w0 at K0 ⊢
    obtain ⟨x0, x1, x2, x3, x4, x5⟩ := FX.out _ K0.out.2
    go_wp2_with (go_at_call 37; (with_reducible refine (HO.out _ K0.out.1).mono ?_); rintro e w1 ⟨rfl, hb1⟩; have K1 := Lib.hid (And.intro (bel_trans K0.out.1 hb1) (K0.out.2.keep hb1)); clear x0 x1 x2 x3 x4 x5; obtain ⟨x0, x1, x2, x3, x4, x5⟩ := FX.out _ K1.out.2)
    go_ret2
    exact ⟨_, rfl, ⟨none, 0, rfl, .inl rfl⟩, K1.out.1⟩
  rw [hK] at ho
  have HO := Lib.hid ho
  rw [Bool.true_and, if_pos rfl]
  clear ho hK
  go_enter Try.func43, Try.ntmps43
  go_wp2_with fail
  generalize (w.alloc (.cells (kC n m A (.slice sa es.length sc) (.slice va zs.length vc) (.slice pa ps.length pc)) 57)) = w0 at K0 ⊢
  obtain ⟨x0, x1, x2, x3, x4, x5⟩ := FX.out _ K0.out.2
  go_wp2_with (first | (go_at_call 37; (with_reducible refine (HO.out _ K0.out.1).mono ?_); rintro e w1 ⟨rfl, hb1⟩; have K1 := Lib.hid (And.intro (bel_trans K0.out.1 hb1) (K0.out.2.keep hb1)); clear x0 x1 x2 x3 x4 x5; obtain ⟨x0, x1, x2, x3, x4, x5⟩ := FX.out _ K1.out.2) | (go_at_call 69; (with_reducible refine (HPT.out _ K1.out.1).mono ?_); rintro e w2 ⟨u, rfl, hou, hb2⟩))
  go_ret2
  exact ⟨_, rfl, hou.wider K1.out.1.size (Nat.le_refl _) (Nat.le_refl _), bel_trans K1.out.1 hb2⟩

/-- The edges by which the nodes of a kept view are reached. -/
def teL (n m A : Int) (es : List Ed) (zs ps : List Int) : List Ed := if kVal n m A es zs ps = true then treeL es ps else []
theorem kVal_parts {n m A : Int} {es : List Ed} {zs ps : List Int} (h : kVal n m A es zs ps = true) : gVal n es = true ∧ (0 ≤ A ∧ A < n) ∧ (zs.length : Int) = n ∧ mKind m = true ∧ vAll m zs ∧ (ps.length : Int) = n ∧ zs = vIter m es n.toNat (vStart m n A) ∧ (∀ i, i < ps.length → fitK m A es zs ps i = true) := by
  unfold kVal at h
  rw [Bool.and_eq_true, Bool.and_eq_true, Bool.and_eq_true, decide_eq_true_eq] at h
  obtain ⟨⟨h1, h2⟩, h3, h4⟩ := h
  obtain ⟨a, b, c, d, e⟩ := vVal_parts h1
  unfold iSame at h3
  rw [decide_eq_true_eq] at h3
  rw [List.all_eq_true] at h4
  exact ⟨a, b, c, d, e, h2, h3, fun i hi => h4 i (List.mem_range.2 hi)⟩
set_option maxRecDepth 20000 in
set_option maxHeartbeats 4000000 in
theorem treeEdges (n m A : Int) (es : List Ed) (zs ps : List Int) (s v p : Value) (w : World) (hs : RowE w s es) (hv : Row w v zs) (hp : Row w p ps) (hl : es.length ≤ 1048576) (hl2 : zs.length ≤ 1048576) (hl3 : ps.length ≤ 1048576) :
    Calls Try.prog 45 #[.agg (kC n m A s v p)] w fun e w' => ∃ u, e = .returned (.tuple #[u, .bool (kVal n m A es zs ps)]) ∧ OwnE w w' u (teL n m A es zs ps) ∧ Below w.heap.size w w' := by
  obtain ⟨sa, sc, rfl, hz0⟩ := id hs
  obtain ⟨va, vc, rfl, hz1⟩ := id hv
  obtain ⟨pa, pc, rfl, hz2⟩ := id hp
  clear hz0 hz1 hz2
  have b0 := Box.new w 57 (kC n m A (.slice sa es.length sc) (.slice va zs.length vc) (.slice pa ps.length pc))
  have hb0 : Below w.heap.size w (w.alloc (.cells (kC n m A (.slice sa es.length sc) (.slice va zs.length vc) (.slice pa ps.length pc)) 57)) := (Below.refl _ _).alloc (Nat.le_refl _) _
  have K0 := Lib.hid (And.intro hb0 b0)
  have fx : ∀ w', Box w' w.heap.size 57 (kC n m A (.slice sa es.length sc) (.slice va zs.length vc) (.slice pa ps.length pc)) → w'.cell? ⟨w.heap.size, 0, none⟩ = some (.int .i64 n) ∧ w'.cell? ⟨w.heap.size, 1, none⟩ = some (.slice sa es.length sc) ∧ w'.cell? ⟨w.heap.size, 2, none⟩ = some (.int .i64 m) ∧ w'.cell? ⟨w.heap.size, 3, none⟩ = some (.int .i64 A) ∧ w'.cell? ⟨w.heap.size, 4, none⟩ = some (.slice va zs.length vc) ∧ w'.cell? ⟨w.heap.size, 5, none⟩ = some (.slice pa ps.length pc) :=
    fun w' hb => ⟨by simpa using hb.cell 0, by simpa using hb.cell 1, by simpa using hb.cell 2, by simpa using hb.cell 3, by simpa using hb.cell 4, by simpa using hb.cell 5⟩
  have FX := Lib.hid fx
  clear b0 hb0 fx
  have ho := fun w' (h : Below w.heap.size w w') => keptValid n m A es zs ps (.slice sa es.length sc) (.slice va zs.length vc) (.slice pa ps.length pc) w' (hs.keep h) (hv.keep h) (hp.keep h) hl hl2 hl3
  unfold teL
  have HS := Lib.hid hs
  have HP := Lib.hid hp
  clear hs hv hp
  cases hK : kVal n m A es zs ps
  · rw [hK] at ho
    have HO := Lib.hid ho
    clear ho hK
    rw [if_neg (by decide)]
    go_enter Try.func45, Try.ntmps45
    go_wp2_with fail
    generalize (w.alloc (.cells (kC n m A (.slice sa es.length sc) (.slice va zs.length vc) (.slice pa ps.length pc)) 57)) = w0 at K0 ⊢
    obtain ⟨x0, x1, x2, x3, x4, x5⟩ := FX.out _ K0.out.2
    go_wp2_with (go_at_call 37; (with_reducible refine (HO.out _ K0.out.1).mono ?_); rintro e w1 ⟨rfl, hb1⟩; have K1 := Lib.hid (And.intro (bel_trans K0.out.1 hb1) (K0.out.2.keep hb1)); clear x0 x1 x2 x3 x4 x5; obtain ⟨x0, x1, x2, x3, x4, x5⟩ := FX.out _ K1.out.2)
    go_ret2
    exact ⟨_, rfl, ⟨none, 0, rfl, .inl rfl⟩, K1.out.1⟩
  rw [hK] at ho
  have HO := Lib.hid ho
  obtain ⟨hg, hA, hzn, hm, hva, hpn, -, -⟩ := kVal_parts hK
  rw [if_pos rfl]
  clear ho hK hva
  have hea : ∀ k, k < es.length → 0 ≤ (es.getD k (0, 0, 0)).2.1 ∧ (es.getD k (0, 0, 0)).2.1.toNat < ps.length := fun k hk => by
    have h := (eAll_of hg _ (List.getElem_mem hk)).2.1
    have e2 : es.getD k (0, 0, 0) = es[k] := by simp [List.getD, hk]
    rw [e2]; omega
  have HEA := Lib.hid hea
  have HPN := Lib.hid hpn
  have HG := Lib.hid hg
  obtain ⟨i0, hi, hz0', hz1, hz2⟩ := info_parts info_edge
  have HI : Hid (Try.prog.info? 79 = some i0 ∧ i0.zero = some (.agg #[.int .i64 0, .int .i64 0, .int .i64 0]) ∧ i0.size = 3 ∧ i0.bytes = 24) := Lib.hid ⟨hi, hz0', hz1, hz2⟩
  clear hea hpn hg hi hz0' hz1 hz2 hzn
  go_enter Try.func45, Try.ntmps45
  go_wp2_with fail
  generalize (w.alloc (.cells (kC n m A (.slice sa es.length sc) (.slice va zs.length vc) (.slice pa ps.length pc)) 57)) = w0 at K0 ⊢
  obtain ⟨x0, x1, x2, x3, x4, x5⟩ := FX.out _ K0.out.2
  go_wp2_with (go_at_call 37; (with_reducible refine (HO.out _ K0.out.1).mono ?_); rintro e w1 ⟨rfl, hb1⟩; have K1 := Lib.hid (And.intro (bel_trans K0.out.1 hb1) (K0.out.2.keep hb1)); clear x0 x1 x2 x3 x4 x5; obtain ⟨x0, x1, x2, x3, x4, x5⟩ := FX.out _ K1.out.2)
  go_loopw [14, 4] (fun c v wr => ∃ k : Nat, k ≤ es.length ∧ c = .int .i64 k ∧ Hid (wr.ownsRow w.heap.size 79 3 v (treeL (es.take k) ps).length (cellsE (treeL (es.take k) ps))) ∧ Hid (Below w.heap.size w wr ∧ Box wr w.heap.size 57 (kC n m A (.slice sa es.length sc) (.slice va zs.length vc) (.slice pa ps.length pc)))) (fun c _ _ => es.length - (intOf c).toNat)
  case atStart => exact ⟨0, Nat.zero_le _, rfl, Lib.hid ⟨by simp [treeL, cellsE], .inl ⟨rfl, by simp [treeL]⟩⟩, K1⟩
  case round =>
    obtain ⟨k, hk, rfl, HOW, HK⟩ := hrel
    clear x0 x1 x2 x3 x4 x5
    by_cases hlt : k < es.length
    · have hlt' : (k : Int) < es.length := by omega
      obtain ⟨sb, so, sc2, hse, hsb, hsc⟩ := HS.out.at hlt
      injection hse with hsa _ hsc2
      subst hsa hsc2
      obtain ⟨x, y, z, hx⟩ : ∃ x y z, (x, y, z) = es.getD k (0, 0, 0) := ⟨_, _, _, rfl⟩
      have h1 := hsc k hlt
      have h2 := HEA.out k hlt
      have ht := treeL_take es ps hlt
      rw [← hx] at h1 h2 ht
      simp only at h1 h2 ht
      obtain ⟨Y, rfl⟩ : ∃ Y : Nat, y = Y := ⟨y.toNat, by omega⟩
      rw [Int.toNat_natCast] at h2 ht
      have hY : Y < ps.length := h2.2
      have hY' : (Y : Int) < ps.length := by omega
      obtain ⟨pb, po, pc2, hpe, hpb, hpc⟩ := HP.out.at hY
      injection hpe with hpa _ hpc2
      subst hpa hpc2
      obtain ⟨q, hq⟩ : ∃ q, q = ps.getD Y 0 := ⟨_, rfl⟩
      have h3 := hpc Y hY
      rw [← hq] at h3 ht
      have c0 := (HK.out.1.cell (p := ⟨sb, so + k * 3, none⟩) hsb).trans h1.1
      have c1 := (HK.out.1.cell (p := ⟨sb, so + k * 3 + 1, none⟩) hsb).trans h1.2.1
      have c2 := (HK.out.1.cell (p := ⟨sb, so + k * 3 + 2, none⟩) hsb).trans h1.2.2
      have c3 := (HK.out.1.cell (p := ⟨pb, po + Y, none⟩) hpb).trans h3
      have hln : (treeL (es.take k) ps).length ≤ k := Nat.le_trans (treeL_len _ _) (by simp; omega)
      have hB1 : Below wr.heap.size wr (wr.alloc (.cells #[.int .i64 x, .int .i64 Y, .int .i64 z] 79)) := (Below.refl _ _).alloc (Nat.le_refl _) _
      obtain ⟨x0, x1, x2, x3, x4, x5⟩ := FX.out _ HK.out.2
      clear h1 h2 h3 hx hq hsc hpc
      by_cases hqx : q = x
      · rw [if_pos hqx] at ht
        have d1 : (q == x) = true := by simpa using hqx
        have HT := Lib.hid ht
        have HQ := Lib.hid hqx
        clear ht hqx
        obtain ⟨hi, hz0, hz1, hz2⟩ := HI.out
        have KE := Lib.hid (And.intro hB1 (Box.new wr 79 #[.int .i64 x, .int .i64 Y, .int .i64 z]))
        have HC3 := Lib.hid c3
        clear hB1
        go_wp2
        generalize (wr.alloc (.cells #[.int .i64 x, .int .i64 Y, .int .i64 z] 79)) = wq at KE ⊢
        have HK1 := Lib.hid (And.intro (bel_trans HK.out.1 KE.out.1) (HK.out.2.keep KE.out.1))
        clear x0 x1 x2 x3 x4 x5 c0 c1 c2 c3
        refine wp_region_below (by kernel_rfl) (by kernel_rfl) ?_
        repeat (go_big_quiet_step ((intro hw; first | with_reducible rfl | (obtain ⟨f0, f1, f2, f3, f4, f5⟩ := FX.out _ (HK1.out.2.keep hw); have e0 := (KE.out.2.keep hw).cell 0; have e1 := (KE.out.2.keep hw).cell 1; have e3 := ((bel_trans KE.out.1 hw).cell (p := ⟨pb, po + Y, none⟩) (Nat.lt_of_lt_of_le hpb HK.out.1.size)).trans HC3.out; simp at e0 e1; simp only [f5, e0, e1, e3, Result.andThen]; first | exact ⟨trivial, rfl⟩ | exact ⟨rfl, rfl⟩))))
        refine wpQuiet_nil ?_
        intro w3 hw3
        have HK3 := Lib.hid (And.intro (bel_trans HK1.out.1 hw3) (HK1.out.2.keep hw3))
        have KE3 := Lib.hid (KE.out.2.keep hw3)
        have HOW3 := Lib.hid (own_keep (own_keep HOW.out KE.out.1) hw3)
        have SZ3 := Lib.hid (Nat.le_trans KE.out.1.size hw3.size)
        clear hw3
        have e0 : w3.cell? ⟨wr.heap.size, 0, none⟩ = some (.int .i64 x) := by simpa using KE3.out.cell 0
        have e1 : w3.cell? ⟨wr.heap.size, 1, none⟩ = some (.int .i64 Y) := by simpa using KE3.out.cell 1
        have e2 : w3.cell? ⟨wr.heap.size, 2, none⟩ = some (.int .i64 z) := by simpa using KE3.out.cell 2
        go_wp2_with (at_builtin; refine wpList_append_own _ rfl (.tmp 27) (.tmp 29) 29 rfl w.heap.size 79 i0 (.agg #[.int .i64 0, .int .i64 0, .int .i64 0]) 3 24 Try.underlying29 hi hz0 hz1 hz2 rfl (by decide) _ _ _ rfl (HOW3.out.alloc _) ⟨w3.heap.size, 0, none⟩ 1 1 [.int .i64 x, .int .i64 Y, .int .i64 z] rfl rfl ?c1 ?c2 ?c3 ?c4 ?c5 ?_)
        case c1 => exact cell_three_new _ _ _ _ _
        case c2 => simp [Value.oneCell']
        case c3 => unfold maxLen; omega
        case c4 => omega
        case c5 => have := HK3.out.1.size; simp; omega
        intro v' w6 hown6 hgrow6 _
        have hown6' : w6.ownsRow w.heap.size 79 3 v' (treeL (es.take (k + 1)) ps).length (cellsE (treeL (es.take (k + 1)) ps)) := by rw [HT.out, List.length_append, cellsE_app, cellsE_one1]; exact hown6
        have H7 := Lib.hid hown6'
        have H8 : Hid (Below w.heap.size w w6 ∧ Box w6 w.heap.size 57 (kC n m A (.slice (some ⟨sb, so, none⟩) es.length sc) (.slice va zs.length vc) (.slice (some ⟨pb, po, none⟩) ps.length pc))) := Lib.hid ⟨(HK3.out.1.alloc HK3.out.1.size _).grown hgrow6 (by have := HK3.out.1.size; simp; omega) (fun q hq => (HOW3.out.lt q hq).1), (HK3.out.2.alloc _).grown hgrow6 (HOW3.out.alloc _) (by decide)⟩
        clear hown6 hown6' hgrow6 hi hz0 hz1 hz2 e0 e1 e2
        go_wp2
        go_roundw
        case rel => first | exact ⟨k + 1, by omega, by go_num, H7, H8⟩ | ((repeat apply Exists.intro); exact ⟨⟨k + 1, by omega, by go_num, H7, H8⟩, rfl⟩)
        case measure => simp [intOf]; omega
      · rw [if_neg hqx, List.append_nil] at ht
        have d1 : (q == x) = false := by simpa using hqx
        have HT := Lib.hid ht
        have HQ := Lib.hid hqx
        clear ht hqx
        have KE := Lib.hid (And.intro hB1 (Box.new wr 79 #[.int .i64 x, .int .i64 Y, .int .i64 z]))
        have HC3 := Lib.hid c3
        clear hB1
        go_wp2
        generalize (wr.alloc (.cells #[.int .i64 x, .int .i64 Y, .int .i64 z] 79)) = wq at KE ⊢
        have HK1 := Lib.hid (And.intro (bel_trans HK.out.1 KE.out.1) (HK.out.2.keep KE.out.1))
        clear x0 x1 x2 x3 x4 x5 c0 c1 c2 c3
        refine wp_region_below (by kernel_rfl) (by kernel_rfl) ?_
        repeat (go_big_quiet_step ((intro hw; first | with_reducible rfl | (obtain ⟨f0, f1, f2, f3, f4, f5⟩ := FX.out _ (HK1.out.2.keep hw); have e0 := (KE.out.2.keep hw).cell 0; have e1 := (KE.out.2.keep hw).cell 1; have e3 := ((bel_trans KE.out.1 hw).cell (p := ⟨pb, po + Y, none⟩) (Nat.lt_of_lt_of_le hpb HK.out.1.size)).trans HC3.out; simp at e0 e1; simp only [f5, e0, e1, e3, Result.andThen]; first | exact ⟨trivial, rfl⟩ | exact ⟨rfl, rfl⟩))))
        refine wpQuiet_nil ?_
        intro w3 hw3
        have HK3 := Lib.hid (And.intro (bel_trans HK1.out.1 hw3) (HK1.out.2.keep hw3))
        have KE3 := Lib.hid (KE.out.2.keep hw3)
        have HOW3 := Lib.hid (own_keep (own_keep HOW.out KE.out.1) hw3)
        have SZ3 := Lib.hid (Nat.le_trans KE.out.1.size hw3.size)
        clear hw3
        go_wp2
        go_roundw
        case rel => first | exact ⟨k + 1, by omega, by go_num, by rw [HT.out]; exact HOW3, HK3⟩ | ((repeat apply Exists.intro); exact ⟨⟨k + 1, by omega, by go_num, by rw [HT.out]; exact HOW3, HK3⟩, rfl⟩)
        case measure => simp [intOf]; omega
    · have hke : k = es.length := by omega
      have hkk : ¬ ((k : Int) < es.length) := by omega
      have HKE := Lib.hid hke
      clear hke
      go_wp2
      go_ret2
      refine ⟨_, rfl, ?_, HK.out.1⟩
      have := HOW.out
      rw [HKE.out, List.take_length] at this
      exact OwnE.of this (Nat.le_refl _)
end Go.Proofs.Ytdblcaeeepkebaa
