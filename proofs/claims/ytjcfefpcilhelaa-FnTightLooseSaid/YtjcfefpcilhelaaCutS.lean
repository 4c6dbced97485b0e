/- l2Cut of the model: a graph without an edge. CutEdge of the program. CutEdge of the model. -/
import Derived.Test.YtjcfefpcilhelaaPutM
import Derived.Test.YtjcfefpcilhelaaBoxes
import Derived.Test.YtjcfefpcilhelaaFind3
import Derived.Deep.RegionLaw
namespace Go.Proofs.Ytjcfefpcilhelaa
open Go.RowKit Go.BigFrame Go.Deep
set_option linter.unusedVariables false
set_option linter.unusedSimpArgs false


theorem cells_new3 (w : World) (p q r : Value) (t : TypeId) : ∀ j u, [p, q, r][j]? = some u → ((w.alloc (.cells #[p, q, r] t)).drew).cell? (Addr.add ⟨w.heap.size, 0, none⟩ j) = some u := by
  intro j u h
  have hn : (w.alloc (.cells #[p, q, r] t)).heap[w.heap.size]? = some (.cells #[p, q, r] t (0, 0)) := blk_alloc_new _ _
  have hc : ((w.alloc (.cells #[p, q, r] t)).drew).cell? ⟨w.heap.size, j, none⟩ = #[p, q, r][j]? := by
    show (w.alloc (.cells #[p, q, r] t)).cell? ⟨w.heap.size, j, none⟩ = _
    unfold World.cell?
    simp only [hn]
    simp
  have ha : Addr.add ⟨w.heap.size, 0, none⟩ j = ⟨w.heap.size, j, none⟩ := by rw [Go.WideShapes.add_plain, Nat.zero_add]
  rw [ha, hc]
  simpa using h

/-- The edges without those between two ends. -/
def cutL (es : List Ed) (a b : Int) : List Ed := es.filter (fun e => !(eBe a b e))
theorem cutL_take (es : List Ed) (a b : Int) {k : Nat} (hk : k < es.length) : cutL (es.take (k + 1)) a b = cutL (es.take k) a b ++ (if eBe a b (es.getD k (0, 0, 0)) = true then [] else [es.getD k (0, 0, 0)]) := by
  have : es.take (k + 1) = es.take k ++ [es.getD k (0, 0, 0)] := by rw [List.take_succ_eq_append_getElem hk]; simp [List.getD, hk]
  rw [this]
  generalize es.getD k (0, 0, 0) = e
  unfold cutL
  rw [List.filter_append]
  congr 1
  by_cases h : eBe a b e = true <;> simp [List.filter_cons, h]
theorem cutL_len (es : List Ed) (a b : Int) : (cutL es a b).length ≤ es.length := by
  unfold cutL; exact List.length_filter_le _ _
/-- A block that is a graph's box. -/
def BoxG (w : World) (B : Nat) (t : TypeId) (n : Int) (v : Value) : Prop := w.heap[B]? = some (.cells #[.int .i64 n, v] t (0, 0))
theorem BoxG.cells {w : World} {B : Nat} {t : TypeId} {n : Int} {v : Value} (h : BoxG w B t n v) : w.cell? ⟨B, 0, none⟩ = some (.int .i64 n) ∧ w.cell? ⟨B, 1, none⟩ = some v ∧ w.frozen? ⟨B, 0, none⟩ = false ∧ w.frozen? ⟨B, 1, none⟩ = false ∧ B < w.heap.size := by
  unfold BoxG at h
  exact ⟨by simp [World.cell?, h], by simp [World.cell?, h], by simp [World.frozen?, h], by simp [World.frozen?, h], (Array.getElem?_eq_some_iff.1 h).1⟩
theorem BoxG.keep {w w' : World} {B : Nat} {t : TypeId} {n : Int} {v : Value} (h : BoxG w B t n v) (hb : Below w.heap.size w w') : BoxG w' B t n v := (hb.block B h.cells.2.2.2.2).trans h
theorem BoxG.alloc {w : World} {B : Nat} {t : TypeId} {n : Int} {v : Value} (h : BoxG w B t n v) (o : Obj) : BoxG (w.alloc o) B t n v := h.keep ((Below.refl _ _).alloc (Nat.le_refl _) _)
theorem BoxG.set {w : World} {B : Nat} {t : TypeId} {n : Int} {v : Value} (h : BoxG w B t n v) (v' : Value) : BoxG (w.setCell ⟨B, 1, none⟩ v') B t n v' := by
  unfold BoxG at *
  simp [World.setCell, Array.getElem?_modify, h]
theorem BoxG.set0 {w : World} {B : Nat} {t : TypeId} {n : Int} {v : Value} (h : BoxG w B t n v) (m : Int) : BoxG (w.setCell ⟨B, 0, none⟩ (.int .i64 m)) B t m v := by
  unfold BoxG at *
  simp [World.setCell, Array.getElem?_modify, h]
theorem BoxG.setOther {w : World} {B B' : Nat} {t : TypeId} {n : Int} {v : Value} (h : BoxG w B t n v) (hne : B ≠ B') (o : Nat) (u : Value) : BoxG (w.setCell ⟨B', o, none⟩ u) B t n v := by
  unfold BoxG at *
  rw [← h]
  exact Below.heap_setCell w ⟨B', o, none⟩ u B hne
theorem BoxG.new (w : World) (t : TypeId) (n : Int) (v : Value) : BoxG (w.alloc (.cells #[.int .i64 n, v] t)) w.heap.size t n v := blk_alloc_new _ _
theorem BoxG.grown {w w' : World} {B : Nat} {t e : TypeId} {n : Int} {v u : Value} {base sz m : Nat} {xs : List Value} (h : BoxG w B t n v) (hg : w.grownBy w' u.ownBlock) (ho : w.ownsRow base e sz u m xs) (hne : e ≠ t) : BoxG w' B t n v := by
  unfold BoxG at *
  rw [← h]
  refine hg.block B (Array.getElem?_eq_some_iff.1 h).1 (fun hb => ?_)
  rcases ho.2 with ⟨rfl, _⟩ | ⟨g, cap, cur, rfl, _, hgg, _⟩
  · simp [Value.ownBlock] at hb
  · simp [Value.ownBlock] at hb
    subst hb
    rw [h] at hgg
    simp at hgg
    exact hne hgg.2.symm
theorem own_setCell {w : World} {base : Nat} {e t : TypeId} {sz m : Nat} {u v v' : Value} {n : Int} {xs : List Value} {B : Nat} {o : Nat} (h : BoxG w B t n v) (ho : w.ownsRow base e sz u m xs) (hne : e ≠ t) : (w.setCell ⟨B, o, none⟩ v').ownsRow base e sz u m xs := by
  obtain ⟨hl, ho⟩ := ho
  refine ⟨hl, ?_⟩
  rcases ho with ho | ⟨g, cap, cur, rfl, hb, hgg, rest⟩
  · exact .inl ho
  · refine .inr ⟨g, cap, cur, rfl, hb, ?_, rest⟩
    rw [← hgg]
    refine Below.heap_setCell w ⟨B, o, none⟩ v' g (fun hb => ?_)
    simp only at hb
    subst hb
    unfold BoxG at h
    rw [h] at hgg
    simp at hgg
    exact hne hgg.2.symm
theorem cellsE_one1 (x y z : Int) : cellsE [(x, y, z)] = [.int .i64 x, .int .i64 y, .int .i64 z] := by
  simp [cellsE, cellE, List.range_succ]
/-- One edge more in a box's row. -/
theorem own_more {w6 : World} {base B : Nat} {t : TypeId} {n : Int} {v v' : Value} {es fs : List Ed} {x y z : Int} (h : w6.ownsRow base 36 3 v' (es.length + 1) (cellsE es ++ [.int .i64 x, .int .i64 y, .int .i64 z])) (hf : fs = es ++ [(x, y, z)]) (hb : BoxG w6 B t n v) (hne : 36 ≠ t) (u : Value) :
    (w6.setCell ⟨B, 1, none⟩ u).ownsRow base 36 3 v' fs.length (cellsE fs) := by
  rw [hf, List.length_append, cellsE_app, cellsE_one1]
  exact own_setCell hb h hne
theorem own_empty3 (w : World) (t : TypeId) (sz B : Nat) (hB : B ≤ w.heap.size) : (w.alloc (Obj.cells #[] t)).ownsRow B t sz (.slice (some ⟨w.heap.size, 0, none⟩) 0 0) 0 [] :=
  ⟨by simp, .inr ⟨w.heap.size, 0, #[], rfl, hB, blk_alloc_new _ _, Nat.le_refl _, by unfold maxLen; omega, by simp, by simp⟩⟩

set_option maxRecDepth 100000 in
set_option maxHeartbeats 1000000 in
theorem l2Cut (n : Int) (es : List Ed) (a b : Int) (s : Value) (w : World) (hs : RowE w s es) (hl : es.length ≤ 1048576) :
    Calls Try.prog 157 #[.agg #[.int .i64 n, s], .int .i64 a, .int .i64 b] w fun e w' => ∃ v, e = .returned (.agg #[.int .i64 n, v]) ∧ OwnE w w' v (cutL es a b) ∧ okS v ∧ Below w.heap.size w w' := by
  obtain ⟨ad, cap, rfl, hz0⟩ := hs
  have hz := Lib.hid hz0
  obtain ⟨i0, hi, hz0', hz1, hz2⟩ := info_parts info_edge
  have HI : Hid (Try.prog.info? 36 = some i0 ∧ i0.zero = some (.agg #[.int .i64 0, .int .i64 0, .int .i64 0]) ∧ i0.size = 3 ∧ i0.bytes = 24) := Lib.hid ⟨hi, hz0', hz1, hz2⟩
  clear hz0 hi hz0' hz1 hz2
  go_enter Try.func157, Try.ntmps157
  go_wp2
  go_loopw [8] (fun c wr => ∃ k : Nat, k ≤ es.length ∧ c = .int .i64 k ∧ Below w.heap.size w wr ∧ (∃ v, BoxG wr (w.heap.size + 1 + 1 + 1) 25 n v ∧ wr.ownsRow w.heap.size 36 3 v (cutL (es.take k) a b).length (cellsE (cutL (es.take k) a b))) ∧ BoxG wr w.heap.size 25 n (.slice ad es.length cap) ∧ BoxG wr (w.heap.size + 1) 25 0 (.slice none 0 0)) (fun c _ => es.length - (intOf c).toNat)
  case atStart => exact ⟨0, Nat.zero_le _, rfl, ((((Below.refl _ _).alloc (Nat.le_refl _) _).alloc (by simp) _).alloc (by simp; omega) _).alloc (by simp; omega) _, ⟨_, by have := BoxG.new (((w.alloc (Obj.cells #[.int .i64 n, .slice ad es.length cap] 25)).alloc (Obj.cells #[.int .i64 0, .slice none 0 0] 25)).alloc (Obj.cells #[] 36)) 25 n (.slice (some ⟨w.heap.size + 1 + 1, 0, none⟩) 0 0); simpa using this, by have := (own_empty3 ((w.alloc (Obj.cells #[.int .i64 n, .slice ad es.length cap] 25)).alloc (Obj.cells #[.int .i64 0, .slice none 0 0] 25)) 36 3 w.heap.size (by simp; omega)).alloc (Obj.cells #[.int .i64 n, .slice (some ⟨w.heap.size + 1 + 1, 0, none⟩) 0 0] 25); simpa [cutL, cellsE] using this⟩, (((BoxG.new _ _ _ _).alloc _).alloc _).alloc _, by have := ((BoxG.new (w.alloc (Obj.cells #[.int .i64 n, .slice ad es.length cap] 25)) 25 0 (.slice none 0 0)).alloc (Obj.cells #[] 36)).alloc (Obj.cells #[.int .i64 n, .slice (some ⟨w.heap.size + 1 + 1, 0, none⟩) 0 0] 25); simpa using this⟩
  case round =>
    obtain ⟨k, hk, rfl, hbel, ⟨v, hbx, hown⟩, hbg, hbr⟩ := hrel
    have HX := Lib.hid hbx
    have HO := Lib.hid hown
    have HG := Lib.hid hbg
    have HR := Lib.hid hbr
    obtain ⟨x0, x1, x2, x3, x4⟩ := hbx.cells
    obtain ⟨g0, g1, -, -, g4⟩ := hbg.cells
    obtain ⟨r0, r1, r2, r3, r4⟩ := hbr.cells
    clear hbx hown hbg hbr
    by_cases hlt : k < es.length
    · have hlt' : (k : Int) < es.length := by omega
      rcases hz.out with h0 | ⟨b0, off, rfl, hb, hc⟩
      · rw [h0] at hlt; simp at hlt
      obtain ⟨x, y, z, hx⟩ : ∃ x y z, (x, y, z) = es.getD k (0, 0, 0) := ⟨_, _, _, rfl⟩
      have h1 := hc k hlt
      rw [← hx] at h1
      simp only at h1
      have c0 := (hbel.cell (p := ⟨b0, off + k * 3, none⟩) hb).trans h1.1
      have c1 := (hbel.cell (p := ⟨b0, off + k * 3 + 1, none⟩) hb).trans h1.2.1
      have c2 := (hbel.cell (p := ⟨b0, off + k * 3 + 2, none⟩) hb).trans h1.2.2
      have ht := cutL_take es a b hlt
      rw [← hx] at ht
      have hln : (cutL (es.take k) a b).length ≤ k := Nat.le_trans (cutL_len _ _ _) (by simp; omega)
      clear hc h1 hx
      cases hbe : eBe a b (x, y, z)
      · rw [hbe, if_neg (by simp)] at ht
        have HT := Lib.hid ht
        have hwr := hbel.size
        clear ht
        obtain ⟨hi, hz0, hz1, hz2⟩ := HI.out
        have hxg : ∀ A w6, World.grownBy ((wr.alloc A).drew) w6 v.ownBlock → BoxG w6 (w.heap.size + 1 + 1 + 1) 25 n v := fun A w6 h => BoxG.grown (w := (wr.alloc A).drew) (HX.out.alloc A) h (own_drew (HO.out.alloc A)) (by decide)
        have HXG := Lib.hid hxg
        clear hxg
        have hgg : ∀ A w6, World.grownBy ((wr.alloc A).drew) w6 v.ownBlock → BoxG w6 w.heap.size 25 n (.slice (some ⟨b0, off, none⟩) es.length cap) := fun A w6 h => BoxG.grown (w := (wr.alloc A).drew) (HG.out.alloc A) h (own_drew (HO.out.alloc A)) (by decide)
        have hrg : ∀ A w6, World.grownBy ((wr.alloc A).drew) w6 v.ownBlock → BoxG w6 (w.heap.size + 1) 25 0 (.slice none 0 0) := fun A w6 h => BoxG.grown (w := (wr.alloc A).drew) (HR.out.alloc A) h (own_drew (HO.out.alloc A)) (by decide)
        have HGG := Lib.hid hgg
        have HRG := Lib.hid hrg
        clear hgg hrg
        by_cases h1 : x = a
        · have d1 : (x != a) = false := by simpa using h1
          have d2 : (y != b) = true := by
            have : ¬ y = b := by intro h; simp [eBe, h1, h] at hbe
            simpa using this
          clear h1 hbe
          go_wp2
          go_region_law (first | (refine step_append_own rfl (.tmp 39) (.tmp 45) 23 rfl w.heap.size 36 i0 (.agg #[.int .i64 0, .int .i64 0, .int .i64 0]) 3 24 Try.underlying23 hi hz0 hz1 hz2 rfl (by decide) _ _ _ rfl (own_drew (HO.out.alloc _)) ⟨wr.heap.size, 0, none⟩ 1 1 [.int .i64 x, .int .i64 y, .int .i64 z] rfl rfl (cells_new3 _ _ _ _ _) (by simp [Value.oneCell']) (by unfold maxLen; omega) (by omega) (by simp; omega) ?_; intro v' w6 hown6 hgrow6; obtain ⟨va, vc, rfl⟩ := own_slice hown6; have HX6 := Lib.hid (HXG.out _ _ hgrow6); obtain ⟨-, y1, -, y3, -⟩ := HX6.out.cells))
          all_goals go_wp2
          all_goals go_roundw
          all_goals first | (simp [intOf]; omega) | exact ⟨k + 1, by omega, by go_num, ((((hbel.alloc hwr _).drew).grown hgrow6 (by simp; omega) (fun q hq => (HO.out.lt q hq).1)).setCell (by simp; omega) _), ⟨_, HX6.out.set _, own_more hown6 HT.out HX6.out (by decide) _⟩, (HGG.out _ _ hgrow6).setOther (by omega) 1 _, (HRG.out _ _ hgrow6).setOther (by omega) 1 _⟩ | ((repeat apply Exists.intro); exact ⟨⟨k + 1, by omega, by go_num, ((((hbel.alloc hwr _).drew).grown hgrow6 (by simp; omega) (fun q hq => (HO.out.lt q hq).1)).setCell (by simp; omega) _), ⟨_, HX6.out.set _, own_more hown6 HT.out HX6.out (by decide) _⟩, (HGG.out _ _ hgrow6).setOther (by omega) 1 _, (HRG.out _ _ hgrow6).setOther (by omega) 1 _⟩, rfl⟩)
        · have d1 : (x != a) = true := by simpa using h1
          clear h1 hbe
          go_wp2
          go_region_law (first | (refine step_append_own rfl (.tmp 39) (.tmp 45) 23 rfl w.heap.size 36 i0 (.agg #[.int .i64 0, .int .i64 0, .int .i64 0]) 3 24 Try.underlying23 hi hz0 hz1 hz2 rfl (by decide) _ _ _ rfl (own_drew (HO.out.alloc _)) ⟨wr.heap.size, 0, none⟩ 1 1 [.int .i64 x, .int .i64 y, .int .i64 z] rfl rfl (cells_new3 _ _ _ _ _) (by simp [Value.oneCell']) (by unfold maxLen; omega) (by omega) (by simp; omega) ?_; intro v' w6 hown6 hgrow6; obtain ⟨va, vc, rfl⟩ := own_slice hown6; have HX6 := Lib.hid (HXG.out _ _ hgrow6); obtain ⟨-, y1, -, y3, -⟩ := HX6.out.cells))
          all_goals go_wp2
          all_goals go_roundw
          all_goals first | (simp [intOf]; omega) | exact ⟨k + 1, by omega, by go_num, ((((hbel.alloc hwr _).drew).grown hgrow6 (by simp; omega) (fun q hq => (HO.out.lt q hq).1)).setCell (by simp; omega) _), ⟨_, HX6.out.set _, own_more hown6 HT.out HX6.out (by decide) _⟩, (HGG.out _ _ hgrow6).setOther (by omega) 1 _, (HRG.out _ _ hgrow6).setOther (by omega) 1 _⟩ | ((repeat apply Exists.intro); exact ⟨⟨k + 1, by omega, by go_num, ((((hbel.alloc hwr _).drew).grown hgrow6 (by simp; omega) (fun q hq => (HO.out.lt q hq).1)).setCell (by simp; omega) _), ⟨_, HX6.out.set _, own_more hown6 HT.out HX6.out (by decide) _⟩, (HGG.out _ _ hgrow6).setOther (by omega) 1 _, (HRG.out _ _ hgrow6).setOther (by omega) 1 _⟩, rfl⟩)
      · rw [hbe, if_pos rfl, List.append_nil] at ht
        have HT := Lib.hid ht
        have hxy : x = a ∧ y = b := by simpa [eBe] using hbe
        have d1 : (x != a) = false := by simpa using hxy.1
        have d2 : (y != b) = false := by simpa using hxy.2
        clear ht hxy hbe
        go_wp2
        go_roundw
        case rel => first | exact ⟨k + 1, by omega, by go_num, hbel, ⟨v, HX.out, by rw [HT.out]; exact HO.out⟩, HG.out, HR.out⟩ | ((repeat apply Exists.intro); exact ⟨⟨k + 1, by omega, by go_num, hbel, ⟨v, HX.out, by rw [HT.out]; exact HO.out⟩, HG.out, HR.out⟩, rfl⟩)
        case measure => simp [intOf]; omega
    · have hke : k = es.length := by omega
      have hkk : ¬ ((k : Int) < es.length) := by omega
      have ht : es.take k = es := by rw [hke, List.take_length]
      rw [ht] at HO
      have HK := Lib.hid hke
      clear hke ht
      obtain ⟨va, vc, rfl⟩ := own_slice HO.out
      go_wp2
      try simp only [Exit.inBlock, Exit.then]
      refine bodyPost_ret (v := .agg #[.int .i64 n, .slice va (cutL es a b).length vc]) ?_ rfl ?_
      · rw [results_cell1 rfl]
        go_simp
      exact ⟨_, rfl, OwnE.of (own_setCell (HR.out.set0 n) (own_setCell HR.out HO.out (by decide)) (by decide)) (Nat.le_refl _), own_ok HO.out, (hbel.setCell (by simp) _).setCell (by simp) _⟩
end Go.Proofs.Ytjcfefpcilhelaa
namespace Go.Proofs.Ytjcfefpcilhelaa
open Go.RowKit Go.BigFrame Go.Deep
set_option linter.unusedVariables false
set_option linter.unusedSimpArgs false

/-- The edges without the one in a place. -/
def kL (es : List Ed) (a b : Int) : List Ed := es.take (lbE es a b) ++ es.drop (lbE es a b + 1)
def kB (n : Int) (es : List Ed) (a b : Int) : Bool := gVal n es && fdE es a b
def kN (n : Int) (es : List Ed) (a b : Int) : Int := if kB n es a b = true then n else 0
def kR (n : Int) (es : List Ed) (a b : Int) : List Ed := if kB n es a b = true then kL es a b else []

end Go.Proofs.Ytjcfefpcilhelaa
namespace Go.Proofs.Ytjcfefpcilhelaa
open Go.RowKit Go.BigFrame Go.Deep
set_option linter.unusedVariables false
set_option linter.unusedSimpArgs false

theorem cutL_val {n : Int} {es : List Ed} (hg : gVal n es = true) {a b : Int} (hf : fdE es a b = true) : cutL es a b = kL es a b := by
  have hlt : lbE es a b < es.length := by unfold fdE at hf; simp at hf; exact hf.1
  have hat : eBe a b (es.getD (lbE es a b) (0, 0, 0)) = true := by unfold fdE at hf; rw [← eBe_iff] at hf; simp at hf; simpa [List.getD, hlt] using hf.2
  have hsplit : es = es.take (lbE es a b) ++ es.getD (lbE es a b) (0, 0, 0) :: es.drop (lbE es a b + 1) := by
    have h1 : es.drop (lbE es a b) = es.getD (lbE es a b) (0, 0, 0) :: es.drop (lbE es a b + 1) := by
      rw [List.drop_eq_getElem_cons hlt]; simp [List.getD, hlt]
    rw [← h1, List.take_append_drop]
  unfold kL cutL
  conv => lhs; rw [hsplit]
  rw [List.filter_append, List.filter_cons, hat]
  congr 1
  · rw [List.filter_eq_self]
    intro e he
    obtain ⟨i, hi, rfl⟩ := List.getElem_of_mem he
    rw [List.length_take] at hi
    have := eBe_lt (lbE_lt (es := es) (a := a) (b := b) (i := i) (by omega))
    rw [List.getElem_take]
    simpa [List.getD, (by omega : i < es.length)] using this
  · simp only [Bool.not_true, Bool.false_eq_true, if_false]
    rw [List.filter_eq_self]
    intro e he
    obtain ⟨i, hi, rfl⟩ := List.getElem_of_mem he
    rw [List.length_drop] at hi
    have ho := gVal_sorted hg (show lbE es a b < lbE es a b + 1 + i by omega) (by omega)
    rw [List.getElem_drop]
    unfold eBe at hat ⊢
    simp only [Bool.and_eq_true, decide_eq_true_eq] at hat
    unfold EdLt at ho
    have e1 : es.getD (lbE es a b + 1 + i) (0, 0, 0) = es[lbE es a b + 1 + i] := by simp [List.getD, (by omega : lbE es a b + 1 + i < es.length)]
    rw [e1] at ho
    by_cases h1 : es[lbE es a b + 1 + i].1 = a <;> by_cases h2 : es[lbE es a b + 1 + i].2.1 = b <;> simp [h1, h2] <;> omega

end Go.Proofs.Ytjcfefpcilhelaa
