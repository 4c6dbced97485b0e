/- l2Cut of the model: a graph without an edge. CutEdge of the program. CutEdge of the model. An edge put into its place: mathematics. When a graph with an edge put into its place is valid. l2Put of the model. PutEdge of the model. -/
import Derived.Test.YtlgjcofpdaljnaaPutM
import Derived.Test.YtlgjcofpdaljnaaBoxes
import Derived.Test.YtlgjcofpdaljnaaFind3
import Derived.Deep.RegionLaw
namespace Go.Proofs.Ytlgjcofpdaljnaa
open Go.RowKit Go.BigFrame Go.Deep
set_option linter.unusedVariables false
set_option linter.unusedSimpArgs false


theorem cells_new3 (w : World) (p q r : Value) (t : TypeId) : ∀ j u, [p, q, r][j]? = some u → ((w.alloc (.cells #[p, q, r] t)).drew).cell? (Addr.add ⟨w.heap.size, 0, none⟩ j) = some u := by
  intro j u h
  have hn : (w.alloc (.cells #[p, q, r] t)).heap[w.heap.size]? = some (.cells #[p, q, r] t (0, 0)) := blk_alloc_new _ _
  have hc : ((w.alloc (.cells #[p, q, r] t)).drew).cell? ⟨w.heap.size, j, none⟩ = #[p, q, r][j]? := by
    show (w.alloc (.cells #[p, q, r] t)).cell? ⟨w.heap.size, j, none⟩ = _
    unfold World.cell?
    simp only [hn]
    simp
  have ha : Addr.add ⟨w.heap.size, 0, none⟩ j = ⟨w.heap.size, j, none⟩ := by rw [Go.WideShapes.add_plain, Nat.zero_add]
  rw [ha, hc]
  simpa using h

/-- The edges without those between two ends. -/
def cutL (es : List Ed) (a b : Int) : List Ed := es.filter (fun e => !(eBe a b e))
theorem cutL_take (es : List Ed) (a b : Int) {k : Nat} (hk : k < es.length) : cutL (es.take (k + 1)) a b = cutL (es.take k) a b ++ (if eBe a b (es.getD k (0, 0, 0)) = true then [] else [es.getD k (0, 0, 0)]) := by
  have : es.take (k + 1) = es.take k ++ [es.getD k (0, 0, 0)] := by rw [List.take_succ_eq_append_getElem hk]; simp [List.getD, hk]
  rw [this]
  generalize es.getD k (0, 0, 0) = e
  unfold cutL
  rw [List.filter_append]
  congr 1
  by_cases h : eBe a b e = true <;> simp [List.filter_cons, h]
theorem cutL_len (es : List Ed) (a b : Int) : (cutL es a b).length ≤ es.length := by
  unfold cutL; exact List.length_filter_le _ _
/-- A block that is a graph's box. -/
def BoxG (w : World) (B : Nat) (t : TypeId) (n : Int) (v : Value) : Prop := w.heap[B]? = some (.cells #[.int .i64 n, v] t (0, 0))
theorem BoxG.cells {w : World} {B : Nat} {t : TypeId} {n : Int} {v : Value} (h : BoxG w B t n v) : w.cell? ⟨B, 0, none⟩ = some (.int .i64 n) ∧ w.cell? ⟨B, 1, none⟩ = some v ∧ w.frozen? ⟨B, 0, none⟩ = false ∧ w.frozen? ⟨B, 1, none⟩ = false ∧ B < w.heap.size := by
  unfold BoxG at h
  exact ⟨by simp [World.cell?, h], by simp [World.cell?, h], by simp [World.frozen?, h], by simp [World.frozen?, h], (Array.getElem?_eq_some_iff.1 h).1⟩
theorem BoxG.keep {w w' : World} {B : Nat} {t : TypeId} {n : Int} {v : Value} (h : BoxG w B t n v) (hb : Below w.heap.size w w') : BoxG w' B t n v := (hb.block B h.cells.2.2.2.2).trans h
theorem BoxG.alloc {w : World} {B : Nat} {t : TypeId} {n : Int} {v : Value} (h : BoxG w B t n v) (o : Obj) : BoxG (w.alloc o) B t n v := h.keep ((Below.refl _ _).alloc (Nat.le_refl _) _)
theorem BoxG.set {w : World} {B : Nat} {t : TypeId} {n : Int} {v : Value} (h : BoxG w B t n v) (v' : Value) : BoxG (w.setCell ⟨B, 1, none⟩ v') B t n v' := by
  unfold BoxG at *
  simp [World.setCell, Array.getElem?_modify, h]
theorem BoxG.set0 {w : World} {B : Nat} {t : TypeId} {n : Int} {v : Value} (h : BoxG w B t n v) (m : Int) : BoxG (w.setCell ⟨B, 0, none⟩ (.int .i64 m)) B t m v := by
  unfold BoxG at *
  simp [World.setCell, Array.getElem?_modify, h]
theorem BoxG.setOther {w : World} {B B' : Nat} {t : TypeId} {n : Int} {v : Value} (h : BoxG w B t n v) (hne : B ≠ B') (o : Nat) (u : Value) : BoxG (w.setCell ⟨B', o, none⟩ u) B t n v := by
  unfold BoxG at *
  rw [← h]
  exact Below.heap_setCell w ⟨B', o, none⟩ u B hne
theorem BoxG.new (w : World) (t : TypeId) (n : Int) (v : Value) : BoxG (w.alloc (.cells #[.int .i64 n, v] t)) w.heap.size t n v := blk_alloc_new _ _
theorem BoxG.grown {w w' : World} {B : Nat} {t e : TypeId} {n : Int} {v u : Value} {base sz m : Nat} {xs : List Value} (h : BoxG w B t n v) (hg : w.grownBy w' u.ownBlock) (ho : w.ownsRow base e sz u m xs) (hne : e ≠ t) : BoxG w' B t n v := by
  unfold BoxG at *
  rw [← h]
  refine hg.block B (Array.getElem?_eq_some_iff.1 h).1 (fun hb => ?_)
  rcases ho.2 with ⟨rfl, _⟩ | ⟨g, cap, cur, rfl, _, hgg, _⟩
  · simp [Value.ownBlock] at hb
  · simp [Value.ownBlock] at hb
    subst hb
    rw [h] at hgg
    simp at hgg
    exact hne hgg.2.symm
theorem own_setCell {w : World} {base : Nat} {e t : TypeId} {sz m : Nat} {u v v' : Value} {n : Int} {xs : List Value} {B : Nat} {o : Nat} (h : BoxG w B t n v) (ho : w.ownsRow base e sz u m xs) (hne : e ≠ t) : (w.setCell ⟨B, o, none⟩ v').ownsRow base e sz u m xs := by
  obtain ⟨hl, ho⟩ := ho
  refine ⟨hl, ?_⟩
  rcases ho with ho | ⟨g, cap, cur, rfl, hb, hgg, rest⟩
  · exact .inl ho
  · refine .inr ⟨g, cap, cur, rfl, hb, ?_, rest⟩
    rw [← hgg]
    refine Below.heap_setCell w ⟨B, o, none⟩ v' g (fun hb => ?_)
    simp only at hb
    subst hb
    unfold BoxG at h
    rw [h] at hgg
    simp at hgg
    exact hne hgg.2.symm
theorem cellsE_one1 (x y z : Int) : cellsE [(x, y, z)] = [.int .i64 x, .int .i64 y, .int .i64 z] := by
  simp [cellsE, cellE, List.range_succ]
/-- One edge more in a box's row. -/
theorem own_more {w6 : World} {base B : Nat} {t : TypeId} {n : Int} {v v' : Value} {es fs : List Ed} {x y z : Int} (h : w6.ownsRow base 67 3 v' (es.length + 1) (cellsE es ++ [.int .i64 x, .int .i64 y, .int .i64 z])) (hf : fs = es ++ [(x, y, z)]) (hb : BoxG w6 B t n v) (hne : 67 ≠ t) (u : Value) :
    (w6.setCell ⟨B, 1, none⟩ u).ownsRow base 67 3 v' fs.length (cellsE fs) := by
  rw [hf, List.length_append, cellsE_app, cellsE_one1]
  exact own_setCell hb h hne
theorem own_empty3 (w : World) (t : TypeId) (sz B : Nat) (hB : B ≤ w.heap.size) : (w.alloc (Obj.cells #[] t)).ownsRow B t sz (.slice (some ⟨w.heap.size, 0, none⟩) 0 0) 0 [] :=
  ⟨by simp, .inr ⟨w.heap.size, 0, #[], rfl, hB, blk_alloc_new _ _, Nat.le_refl _, by unfold maxLen; omega, by simp, by simp⟩⟩

set_option maxRecDepth 100000 in
set_option maxHeartbeats 1000000 in
theorem l2Cut (n : Int) (es : List Ed) (a b : Int) (s : Value) (w : World) (hs : RowE w s es) (hl : es.length ≤ 1048576) :
    Calls Try.prog 74 #[.agg #[.int .i64 n, s], .int .i64 a, .int .i64 b] w fun e w' => ∃ v, e = .returned (.agg #[.int .i64 n, v]) ∧ OwnE w w' v (cutL es a b) ∧ okS v ∧ Below w.heap.size w w' := by
  obtain ⟨ad, cap, rfl, hz0⟩ := hs
  have hz := Lib.hid hz0
  obtain ⟨i0, hi, hz0', hz1, hz2⟩ := info_parts info_edge
  have HI : Hid (Try.prog.info? 67 = some i0 ∧ i0.zero = some (.agg #[.int .i64 0, .int .i64 0, .int .i64 0]) ∧ i0.size = 3 ∧ i0.bytes = 24) := Lib.hid ⟨hi, hz0', hz1, hz2⟩
  clear hz0 hi hz0' hz1 hz2
  go_enter Try.func74, Try.ntmps74
  go_wp2
  go_loopw [8] (fun c wr => ∃ k : Nat, k ≤ es.length ∧ c = .int .i64 k ∧ Below w.heap.size w wr ∧ (∃ v, BoxG wr (w.heap.size + 1 + 1 + 1) 25 n v ∧ wr.ownsRow w.heap.size 67 3 v (cutL (es.take k) a b).length (cellsE (cutL (es.take k) a b))) ∧ BoxG wr w.heap.size 25 n (.slice ad es.length cap) ∧ BoxG wr (w.heap.size + 1) 25 0 (.slice none 0 0)) (fun c _ => es.length - (intOf c).toNat)
  case atStart => exact ⟨0, Nat.zero_le _, rfl, ((((Below.refl _ _).alloc (Nat.le_refl _) _).alloc (by simp) _).alloc (by simp; omega) _).alloc (by simp; omega) _, ⟨_, by have := BoxG.new (((w.alloc (Obj.cells #[.int .i64 n, .slice ad es.length cap] 25)).alloc (Obj.cells #[.int .i64 0, .slice none 0 0] 25)).alloc (Obj.cells #[] 67)) 25 n (.slice (some ⟨w.heap.size + 1 + 1, 0, none⟩) 0 0); simpa using this, by have := (own_empty3 ((w.alloc (Obj.cells #[.int .i64 n, .slice ad es.length cap] 25)).alloc (Obj.cells #[.int .i64 0, .slice none 0 0] 25)) 67 3 w.heap.size (by simp; omega)).alloc (Obj.cells #[.int .i64 n, .slice (some ⟨w.heap.size + 1 + 1, 0, none⟩) 0 0] 25); simpa [cutL, cellsE] using this⟩, (((BoxG.new _ _ _ _).alloc _).alloc _).alloc _, by have := ((BoxG.new (w.alloc (Obj.cells #[.int .i64 n, .slice ad es.length cap] 25)) 25 0 (.slice none 0 0)).alloc (Obj.cells #[] 67)).alloc (Obj.cells #[.int .i64 n, .slice (some ⟨w.heap.size + 1 + 1, 0, none⟩) 0 0] 25); simpa using this⟩
  case round =>
    obtain ⟨k, hk, rfl, hbel, ⟨v, hbx, hown⟩, hbg, hbr⟩ := hrel
    have HX := Lib.hid hbx
    have HO := Lib.hid hown
    have HG := Lib.hid hbg
    have HR := Lib.hid hbr
    obtain ⟨x0, x1, x2, x3, x4⟩ := hbx.cells
    obtain ⟨g0, g1, -, -, g4⟩ := hbg.cells
    obtain ⟨r0, r1, r2, r3, r4⟩ := hbr.cells
    clear hbx hown hbg hbr
    by_cases hlt : k < es.length
    · have hlt' : (k : Int) < es.length := by omega
      rcases hz.out with h0 | ⟨b0, off, rfl, hb, hc⟩
      · rw [h0] at hlt; simp at hlt
      obtain ⟨x, y, z, hx⟩ : ∃ x y z, (x, y, z) = es.getD k (0, 0, 0) := ⟨_, _, _, rfl⟩
      have h1 := hc k hlt
      rw [← hx] at h1
      simp only at h1
      have c0 := (hbel.cell (p := ⟨b0, off + k * 3, none⟩) hb).trans h1.1
      have c1 := (hbel.cell (p := ⟨b0, off + k * 3 + 1, none⟩) hb).trans h1.2.1
      have c2 := (hbel.cell (p := ⟨b0, off + k * 3 + 2, none⟩) hb).trans h1.2.2
      have ht := cutL_take es a b hlt
      rw [← hx] at ht
      have hln : (cutL (es.take k) a b).length ≤ k := Nat.le_trans (cutL_len _ _ _) (by simp; omega)
      clear hc h1 hx
      cases hbe : eBe a b (x, y, z)
      · rw [hbe, if_neg (by simp)] at ht
        have HT := Lib.hid ht
        have hwr := hbel.size
        clear ht
        obtain ⟨hi, hz0, hz1, hz2⟩ := HI.out
        have hxg : ∀ A w6, World.grownBy ((wr.alloc A).drew) w6 v.ownBlock → BoxG w6 (w.heap.size + 1 + 1 + 1) 25 n v := fun A w6 h => BoxG.grown (w := (wr.alloc A).drew) (HX.out.alloc A) h (own_drew (HO.out.alloc A)) (by decide)
        have HXG := Lib.hid hxg
        clear hxg
        have hgg : ∀ A w6, World.grownBy ((wr.alloc A).drew) w6 v.ownBlock → BoxG w6 w.heap.size 25 n (.slice (some ⟨b0, off, none⟩) es.length cap) := fun A w6 h => BoxG.grown (w := (wr.alloc A).drew) (HG.out.alloc A) h (own_drew (HO.out.alloc A)) (by decide)
        have hrg : ∀ A w6, World.grownBy ((wr.alloc A).drew) w6 v.ownBlock → BoxG w6 (w.heap.size + 1) 25 0 (.slice none 0 0) := fun A w6 h => BoxG.grown (w := (wr.alloc A).drew) (HR.out.alloc A) h (own_drew (HO.out.alloc A)) (by decide)
        have HGG := Lib.hid hgg
        have HRG := Lib.hid hrg
        clear hgg hrg
        by_cases h1 : x = a
        · have d1 : (x != a) = false := by simpa using h1
          have d2 : (y != b) = true := by
            have : ¬ y = b := by intro h; simp [eBe, h1, h] at hbe
            simpa using this
          clear h1 hbe
          go_wp2
          go_region_law (first | (refine step_append_own rfl (.tmp 39) (.tmp 45) 23 rfl w.heap.size 67 i0 (.agg #[.int .i64 0, .int .i64 0, .int .i64 0]) 3 24 Try.underlying23 hi hz0 hz1 hz2 rfl (by decide) _ _ _ rfl (own_drew (HO.out.alloc _)) ⟨wr.heap.size, 0, none⟩ 1 1 [.int .i64 x, .int .i64 y, .int .i64 z] rfl rfl (cells_new3 _ _ _ _ _) (by simp [Value.oneCell']) (by unfold maxLen; omega) (by omega) (by simp; omega) ?_; intro v' w6 hown6 hgrow6; obtain ⟨va, vc, rfl⟩ := own_slice hown6; have HX6 := Lib.hid (HXG.out _ _ hgrow6); obtain ⟨-, y1, -, y3, -⟩ := HX6.out.cells))
          all_goals go_wp2
          all_goals go_roundw
          all_goals first | (simp [intOf]; omega) | exact ⟨k + 1, by omega, by go_num, ((((hbel.alloc hwr _).drew).grown hgrow6 (by simp; omega) (fun q hq => (HO.out.lt q hq).1)).setCell (by simp; omega) _), ⟨_, HX6.out.set _, own_more hown6 HT.out HX6.out (by decide) _⟩, (HGG.out _ _ hgrow6).setOther (by omega) 1 _, (HRG.out _ _ hgrow6).setOther (by omega) 1 _⟩ | ((repeat apply Exists.intro); exact ⟨⟨k + 1, by omega, by go_num, ((((hbel.alloc hwr _).drew).grown hgrow6 (by simp; omega) (fun q hq => (HO.out.lt q hq).1)).setCell (by simp; omega) _), ⟨_, HX6.out.set _, own_more hown6 HT.out HX6.out (by decide) _⟩, (HGG.out _ _ hgrow6).setOther (by omega) 1 _, (HRG.out _ _ hgrow6).setOther (by omega) 1 _⟩, rfl⟩)
        · have d1 : (x != a) = true := by simpa using h1
          clear h1 hbe
          go_wp2
          go_region_law (first | (refine step_append_own rfl (.tmp 39) (.tmp 45) 23 rfl w.heap.size 67 i0 (.agg #[.int .i64 0, .int .i64 0, .int .i64 0]) 3 24 Try.underlying23 hi hz0 hz1 hz2 rfl (by decide) _ _ _ rfl (own_drew (HO.out.alloc _)) ⟨wr.heap.size, 0, none⟩ 1 1 [.int .i64 x, .int .i64 y, .int .i64 z] rfl rfl (cells_new3 _ _ _ _ _) (by simp [Value.oneCell']) (by unfold maxLen; omega) (by omega) (by simp; omega) ?_; intro v' w6 hown6 hgrow6; obtain ⟨va, vc, rfl⟩ := own_slice hown6; have HX6 := Lib.hid (HXG.out _ _ hgrow6); obtain ⟨-, y1, -, y3, -⟩ := HX6.out.cells))
          all_goals go_wp2
          all_goals go_roundw
          all_goals first | (simp [intOf]; omega) | exact ⟨k + 1, by omega, by go_num, ((((hbel.alloc hwr _).drew).grown hgrow6 (by simp; omega) (fun q hq => (HO.out.lt q hq).1)).setCell (by simp; omega) _), ⟨_, HX6.out.set _, own_more hown6 HT.out HX6.out (by decide) _⟩, (HGG.out _ _ hgrow6).setOther (by omega) 1 _, (HRG.out _ _ hgrow6).setOther (by omega) 1 _⟩ | ((repeat apply Exists.intro); exact ⟨⟨k + 1, by omega, by go_num, ((((hbel.alloc hwr _).drew).grown hgrow6 (by simp; omega) (fun q hq => (HO.out.lt q hq).1)).setCell (by simp; omega) _), ⟨_, HX6.out.set _, own_more hown6 HT.out HX6.out (by decide) _⟩, (HGG.out _ _ hgrow6).setOther (by omega) 1 _, (HRG.out _ _ hgrow6).setOther (by omega) 1 _⟩, rfl⟩)
      · rw [hbe, if_pos rfl, List.append_nil] at ht
        have HT := Lib.hid ht
        have hxy : x = a ∧ y = b := by simpa [eBe] using hbe
        have d1 : (x != a) = false := by simpa using hxy.1
        have d2 : (y != b) = false := by simpa using hxy.2
        clear ht hxy hbe
        go_wp2
        go_roundw
        case rel => first | exact ⟨k + 1, by omega, by go_num, hbel, ⟨v, HX.out, by rw [HT.out]; exact HO.out⟩, HG.out, HR.out⟩ | ((repeat apply Exists.intro); exact ⟨⟨k + 1, by omega, by go_num, hbel, ⟨v, HX.out, by rw [HT.out]; exact HO.out⟩, HG.out, HR.out⟩, rfl⟩)
        case measure => simp [intOf]; omega
    · have hke : k = es.length := by omega
      have hkk : ¬ ((k : Int) < es.length) := by omega
      have ht : es.take k = es := by rw [hke, List.take_length]
      rw [ht] at HO
      have HK := Lib.hid hke
      clear hke ht
      obtain ⟨va, vc, rfl⟩ := own_slice HO.out
      go_wp2
      try simp only [Exit.inBlock, Exit.then]
      refine bodyPost_ret (v := .agg #[.int .i64 n, .slice va (cutL es a b).length vc]) ?_ rfl ?_
      · rw [results_cell1 rfl]
        go_simp
      exact ⟨_, rfl, OwnE.of (own_setCell (HR.out.set0 n) (own_setCell HR.out HO.out (by decide)) (by decide)) (Nat.le_refl _), own_ok HO.out, (hbel.setCell (by simp) _).setCell (by simp) _⟩
end Go.Proofs.Ytlgjcofpdaljnaa
namespace Go.Proofs.Ytlgjcofpdaljnaa
open Go.RowKit Go.BigFrame Go.Deep
set_option linter.unusedVariables false
set_option linter.unusedSimpArgs false

/-- The edges without the one in a place. -/
def kL (es : List Ed) (a b : Int) : List Ed := es.take (lbE es a b) ++ es.drop (lbE es a b + 1)
def kB (n : Int) (es : List Ed) (a b : Int) : Bool := gVal n es && fdE es a b
def kN (n : Int) (es : List Ed) (a b : Int) : Int := if kB n es a b = true then n else 0
def kR (n : Int) (es : List Ed) (a b : Int) : List Ed := if kB n es a b = true then kL es a b else []

end Go.Proofs.Ytlgjcofpdaljnaa
namespace Go.Proofs.Ytlgjcofpdaljnaa
open Go.RowKit Go.BigFrame Go.Deep
set_option linter.unusedVariables false
set_option linter.unusedSimpArgs false

theorem cutL_val {n : Int} {es : List Ed} (hg : gVal n es = true) {a b : Int} (hf : fdE es a b = true) : cutL es a b = kL es a b := by
  have hlt : lbE es a b < es.length := by unfold fdE at hf; simp at hf; exact hf.1
  have hat : eBe a b (es.getD (lbE es a b) (0, 0, 0)) = true := by unfold fdE at hf; rw [← eBe_iff] at hf; simp at hf; simpa [List.getD, hlt] using hf.2
  have hsplit : es = es.take (lbE es a b) ++ es.getD (lbE es a b) (0, 0, 0) :: es.drop (lbE es a b + 1) := by
    have h1 : es.drop (lbE es a b) = es.getD (lbE es a b) (0, 0, 0) :: es.drop (lbE es a b + 1) := by
      rw [List.drop_eq_getElem_cons hlt]; simp [List.getD, hlt]
    rw [← h1, List.take_append_drop]
  unfold kL cutL
  conv => lhs; rw [hsplit]
  rw [List.filter_append, List.filter_cons, hat]
  congr 1
  · rw [List.filter_eq_self]
    intro e he
    obtain ⟨i, hi, rfl⟩ := List.getElem_of_mem he
    rw [List.length_take] at hi
    have := eBe_lt (lbE_lt (es := es) (a := a) (b := b) (i := i) (by omega))
    rw [List.getElem_take]
    simpa [List.getD, (by omega : i < es.length)] using this
  · simp only [Bool.not_true, Bool.false_eq_true, if_false]
    rw [List.filter_eq_self]
    intro e he
    obtain ⟨i, hi, rfl⟩ := List.getElem_of_mem he
    rw [List.length_drop] at hi
    have ho := gVal_sorted hg (show lbE es a b < lbE es a b + 1 + i by omega) (by omega)
    rw [List.getElem_drop]
    unfold eBe at hat ⊢
    simp only [Bool.and_eq_true, decide_eq_true_eq] at hat
    unfold EdLt at ho
    have e1 : es.getD (lbE es a b + 1 + i) (0, 0, 0) = es[lbE es a b + 1 + i] := by simp [List.getD, (by omega : lbE es a b + 1 + i < es.length)]
    rw [e1] at ho
    by_cases h1 : es[lbE es a b + 1 + i].1 = a <;> by_cases h2 : es[lbE es a b + 1 + i].2.1 = b <;> simp [h1, h2] <;> omega

end Go.Proofs.Ytlgjcofpdaljnaa
namespace Go.Proofs.Ytlgjcofpdaljnaa
open Go.RowKit Go.BigFrame Go.Deep
set_option linter.unusedVariables false
set_option linter.unusedSimpArgs false

/-- Is an edge in front of another one? -/
def edB (e d : Ed) : Bool := sLess e.1 e.2.1 d.1 d.2.1
/-- One round: what has been put out, and whether the edge is in it. -/
def insS (e : Ed) (s : List Ed × Bool) (d : Ed) : List Ed × Bool := if s.2 = false ∧ edB e d = true then (s.1 ++ [e] ++ [d], true) else (s.1 ++ [d], s.2)
def insF (e : Ed) (l : List Ed) : List Ed × Bool := l.foldl (insS e) ([], false)
def insL (e : Ed) (l : List Ed) : List Ed := if (insF e l).2 = true then (insF e l).1 else (insF e l).1 ++ [e]
theorem insF_snoc (e : Ed) (l : List Ed) {k : Nat} (hk : k < l.length) : insF e (l.take (k + 1)) = insS e (insF e (l.take k)) (l.getD k (0, 0, 0)) := by
  have : l.take (k + 1) = l.take k ++ [l.getD k (0, 0, 0)] := by rw [List.take_succ_eq_append_getElem hk]; simp [List.getD, hk]
  rw [this]
  unfold insF
  rw [List.foldl_append]
  rfl
theorem insF_len (e : Ed) (l : List Ed) : (insF e l).1.length ≤ l.length + 1 ∧ ((insF e l).2 = false → (insF e l).1.length ≤ l.length) := by
  have key : ∀ (l : List Ed) (s : List Ed × Bool) (m : Nat), s.1.length ≤ m + 1 → (s.2 = false → s.1.length ≤ m) → ((l.foldl (insS e) s).1.length ≤ m + l.length + 1 ∧ ((l.foldl (insS e) s).2 = false → (l.foldl (insS e) s).1.length ≤ m + l.length)) := by
    intro l
    induction l with
    | nil => intro s m h1 h2; exact ⟨by simpa using h1, by simpa using h2⟩
    | cons d l ih =>
      intro s m h1 h2
      have := ih (insS e s d) (m + 1) (by
        unfold insS
        split
        · have := h2 (by rename_i h; exact h.1)
          simp; omega
        · simp; omega) (by
        unfold insS
        split
        · intro h; simp at h
        · intro h
          have := h2 h
          simp; omega)
      rw [List.foldl_cons, List.length_cons]
      constructor
      · have := this.1; omega
      · intro h; have := this.2 h; omega
  have := key l ([], false) 0 (by simp) (by simp)
  unfold insF
  simpa using this
theorem fold_done (e : Ed) (l p : List Ed) : l.foldl (insS e) (p, true) = (p ++ l, true) := by
  induction l generalizing p with
  | nil => simp
  | cons d l ih => rw [List.foldl_cons]; simp [insS, ih]
theorem fold_skip (e : Ed) (l p : List Ed) (h : ∀ d ∈ l, edB e d = false) : l.foldl (insS e) (p, false) = (p ++ l, false) := by
  induction l generalizing p with
  | nil => simp
  | cons d l ih =>
    have hd := h d (by simp)
    rw [List.foldl_cons]
    have : insS e (p, false) d = (p ++ [d], false) := by simp [insS, hd]
    rw [this, ih (p ++ [d]) (fun x hx => h x (by simp [hx]))]
    simp
theorem insL_split (e : Ed) (l1 l2 : List Ed) (h1 : ∀ d ∈ l1, edB e d = false) (h2 : ∀ d l, l2 = d :: l → edB e d = true) : insL e (l1 ++ l2) = l1 ++ e :: l2 := by
  have hf : insF e (l1 ++ l2) = l2.foldl (insS e) (l1, false) := by unfold insF; rw [List.foldl_append, fold_skip e l1 [] h1]; simp
  cases l2 with
  | nil => unfold insL; rw [hf]; simp
  | cons d l =>
    have hd := h2 d l rfl
    have : insF e (l1 ++ d :: l) = (l1 ++ [e] ++ [d] ++ l, true) := by
      rw [hf, List.foldl_cons]
      have : insS e (l1, false) d = (l1 ++ [e] ++ [d], true) := by simp [insS, hd]
      rw [this, fold_done]
    unfold insL
    rw [this]
    simp
theorem edB_iff {e d : Ed} : edB e d = true ↔ EdLt e d := by
  unfold edB EdLt
  rw [sLess_eq, decide_eq_true_eq, cEnds_lt]
/-- In a valid graph, an edge is put where its place is. -/
theorem insL_val {n : Int} {es : List Ed} (hg : gVal n es = true) (e : Ed) : insL e (cutL es e.1 e.2.1) = pL es e := by
  have hcut : cutL es e.1 e.2.1 = es.take (lbE es e.1 e.2.1) ++ es.drop (lbE es e.1 e.2.1 + fdN es e.1 e.2.1) := by
    cases hf : fdE es e.1 e.2.1
    · have h0 : fdN es e.1 e.2.1 = 0 := by simp [fdN, hf]
      rw [h0, Nat.add_zero, List.take_append_drop]
      unfold cutL
      rw [List.filter_eq_self]
      intro d hd
      obtain ⟨i, hi, rfl⟩ := List.getElem_of_mem hd
      have hl := lfE_val hg e.1 e.2.1
      rw [hf] at hl
      simp only [Bool.false_eq_true, if_false] at hl
      unfold lfE at hl
      split at hl
      · omega
      · rename_i h
        rw [List.findIdx?_eq_none_iff] at h
        simpa using h _ (List.getElem_mem hi)
    · rw [cutL_val hg hf]
      unfold kL
      simp [fdN, hf]
  rw [hcut]
  unfold pL
  apply insL_split
  · intro d hd
    obtain ⟨i, hi, rfl⟩ := List.getElem_of_mem hd
    rw [List.length_take] at hi
    have hlt := lbE_lt (es := es) (a := e.1) (b := e.2.1) (i := i) (by omega)
    rw [eLt_iff] at hlt
    rw [List.getElem_take]
    have e1 : es.getD i (0, 0, 0) = es[i]'(by omega) := by simp [List.getD, (by omega : i < es.length)]
    rw [e1] at hlt
    apply Bool.eq_false_iff.2
    intro h
    rw [edB_iff] at h
    unfold EdLt at h
    omega
  · intro d l hl
    have hlen : lbE es e.1 e.2.1 + fdN es e.1 e.2.1 < es.length := by
      have : (es.drop (lbE es e.1 e.2.1 + fdN es e.1 e.2.1)).length = (d :: l).length := by rw [hl]
      rw [List.length_drop, List.length_cons] at this
      omega
    have hd : d = es.getD (lbE es e.1 e.2.1 + fdN es e.1 e.2.1) (0, 0, 0) := by
      have : (es.drop (lbE es e.1 e.2.1 + fdN es e.1 e.2.1))[0]? = some d := by rw [hl]; rfl
      rw [List.getElem?_drop, Nat.add_zero] at this
      simp [List.getD, this]
    rw [hd, edB_iff]
    have hlb : lbE es e.1 e.2.1 < es.length := by omega
    have hst := lbE_stop hlb
    have hst2 : ¬ eLt e.1 e.2.1 (es.getD (lbE es e.1 e.2.1) (0, 0, 0)) = true := by rw [hst]; simp
    rw [eLt_iff] at hst2
    cases hf : fdE es e.1 e.2.1
    · have h0 : fdN es e.1 e.2.1 = 0 := by simp [fdN, hf]
      rw [h0, Nat.add_zero]
      unfold fdE at hf
      rw [decide_eq_true hlb, Bool.true_and] at hf
      have hne : ¬ cEnds (es.getD (lbE es e.1 e.2.1) (0, 0, 0)).1 (es.getD (lbE es e.1 e.2.1) (0, 0, 0)).2.1 e.1 e.2.1 = 0 := by simpa using hf
      rw [cEnds_eq] at hne
      unfold EdLt
      omega
    · have h1 : fdN es e.1 e.2.1 = 1 := by simp [fdN, hf]
      rw [h1] at hlen ⊢
      have ho := gVal_next hg hlen
      unfold fdE at hf
      rw [decide_eq_true hlb, Bool.true_and, decide_eq_true_eq, cEnds_eq] at hf
      unfold EdLt at *
      omega
end Go.Proofs.Ytlgjcofpdaljnaa
namespace Go.Proofs.Ytlgjcofpdaljnaa
open Go.RowKit Go.BigFrame Go.Deep
set_option linter.unusedVariables false
set_option linter.unusedSimpArgs false

theorem gVal_iff {n : Int} {L : List Ed} : gVal n L = true ↔ (1 ≤ n ∧ n ≤ 12 ∧ L.length ≤ 40) ∧ (∀ d ∈ L, eFits n d.1 d.2.1 d.2.2 = true) ∧ L.Pairwise EdLt := by
  constructor
  · intro h
    have hp := gVal_parts h
    refine ⟨⟨hp.1, hp.2.1, hp.2.2.1⟩, ?_, ?_⟩
    · intro d hd
      obtain ⟨i, hi, rfl⟩ := List.getElem_of_mem hd
      have := gVal_fits h hi
      simpa [List.getD, hi] using this
    · rw [List.pairwise_iff_getElem]
      intro i j hi hj hij
      have := gVal_sorted h hij hj
      simpa [List.getD, hi, hj] using this
  · rintro ⟨⟨h1, h2, h3⟩, hf, hp⟩
    rw [List.pairwise_iff_getElem] at hp
    simp only [gVal, Bool.and_eq_true, decide_eq_true_eq, List.all_eq_true, List.mem_range]
    refine ⟨⟨h1, h2⟩, h3, fun i hi => ?_⟩
    have h0 := hf _ (List.getElem_mem hi)
    have e0 : L.getD i (0, 0, 0) = L[i] := by simp [List.getD, hi]
    simp only [okAt, e0, h0, Bool.true_and, Bool.or_eq_true, decide_eq_true_eq]
    by_cases hz : i = 0
    · exact .inl hz
    · right
      have hi1 : i - 1 < L.length := by omega
      have e1 : L.getD (i - 1) (0, 0, 0) = L[i - 1] := by simp [List.getD, hi1]
      rw [e1]
      exact cEnds_lt.2 (hp (i - 1) i hi1 hi (by omega))

theorem pL_mem {es : List Ed} {e d : Ed} (h : d ∈ pL es e) : d = e ∨ d ∈ es := by
  unfold pL at h
  simp only [List.mem_append, List.mem_cons] at h
  rcases h with h | h | h
  · exact .inr (List.mem_of_mem_take h)
  · exact .inl h
  · exact .inr (List.mem_of_mem_drop h)
theorem pL_sorted {n : Int} {es : List Ed} (hg : gVal n es = true) (e : Ed) : (pL es e).Pairwise EdLt := by
  have hs := (gVal_iff.1 hg).2.2
  unfold pL
  rw [List.pairwise_append]
  have hbefore : ∀ d ∈ es.take (lbE es e.1 e.2.1), EdLt d e := by
    intro d hd
    obtain ⟨i, hi, rfl⟩ := List.getElem_of_mem hd
    rw [List.length_take] at hi
    have hlt := lbE_lt (es := es) (a := e.1) (b := e.2.1) (i := i) (by omega)
    rw [eLt_iff] at hlt
    rw [List.getElem_take]
    have e1 : es.getD i (0, 0, 0) = es[i]'(by omega) := by simp [List.getD, (by omega : i < es.length)]
    rw [e1] at hlt
    unfold EdLt
    omega
  have hbehind : ∀ d ∈ es.drop (lbE es e.1 e.2.1 + fdN es e.1 e.2.1), EdLt e d := by
    intro d hd
    obtain ⟨i, hi, rfl⟩ := List.getElem_of_mem hd
    rw [List.length_drop] at hi
    rw [List.getElem_drop]
    have hlb : lbE es e.1 e.2.1 < es.length := by omega
    have hst := lbE_stop hlb
    have hst2 : ¬ eLt e.1 e.2.1 (es.getD (lbE es e.1 e.2.1) (0, 0, 0)) = true := by rw [hst]; simp
    rw [eLt_iff] at hst2
    have e1 : es.getD (lbE es e.1 e.2.1 + fdN es e.1 e.2.1 + i) (0, 0, 0) = es[lbE es e.1 e.2.1 + fdN es e.1 e.2.1 + i] := by simp [List.getD, (by omega : lbE es e.1 e.2.1 + fdN es e.1 e.2.1 + i < es.length)]
    rw [← e1]
    cases hf : fdE es e.1 e.2.1
    · have h0 : fdN es e.1 e.2.1 = 0 := by simp [fdN, hf]
      rw [h0, Nat.add_zero] at hi ⊢
      unfold fdE at hf
      rw [decide_eq_true hlb, Bool.true_and] at hf
      have hne : ¬ cEnds (es.getD (lbE es e.1 e.2.1) (0, 0, 0)).1 (es.getD (lbE es e.1 e.2.1) (0, 0, 0)).2.1 e.1 e.2.1 = 0 := by simpa using hf
      rw [cEnds_eq] at hne
      by_cases hi0 : i = 0
      · subst hi0
        rw [Nat.add_zero]
        unfold EdLt; omega
      · have ho := gVal_sorted hg (show lbE es e.1 e.2.1 < lbE es e.1 e.2.1 + i by omega) (by omega)
        unfold EdLt at *; omega
    · have h1 : fdN es e.1 e.2.1 = 1 := by simp [fdN, hf]
      rw [h1] at hi ⊢
      have ho := gVal_sorted hg (show lbE es e.1 e.2.1 < lbE es e.1 e.2.1 + 1 + i by omega) (by omega)
      unfold fdE at hf
      rw [decide_eq_true hlb, Bool.true_and, decide_eq_true_eq, cEnds_eq] at hf
      unfold EdLt at *
      omega
  refine ⟨hs.sublist (List.take_sublist _ _), ?_, ?_⟩
  · rw [List.pairwise_cons]
    exact ⟨hbehind, hs.sublist (List.drop_sublist _ _)⟩
  · intro a ha b hb
    rw [List.mem_cons] at hb
    rcases hb with rfl | hb
    · exact hbefore a ha
    · exact (hbefore a ha).trans (hbehind b hb)
theorem gVal_put {n : Int} {es : List Ed} (hg : gVal n es = true) (e : Ed) : gVal n (pL es e) = (eFits n e.1 e.2.1 e.2.2 && decide ((pL es e).length ≤ 40)) := by
  rw [Bool.eq_iff_iff, gVal_iff, Bool.and_eq_true, decide_eq_true_eq]
  have h := gVal_iff.1 hg
  constructor
  · rintro ⟨⟨_, _, h3⟩, hf, _⟩
    exact ⟨hf e (by unfold pL; simp), h3⟩
  · rintro ⟨hf, h3⟩
    refine ⟨⟨h.1.1, h.1.2.1, h3⟩, ?_, pL_sorted hg e⟩
    intro d hd
    rcases pL_mem hd with rfl | hd
    · exact hf
    · exact h.2.1 d hd
end Go.Proofs.Ytlgjcofpdaljnaa
namespace Go.Proofs.Ytlgjcofpdaljnaa
open Go.RowKit Go.BigFrame Go.Deep
set_option linter.unusedVariables false
set_option linter.unusedSimpArgs false

theorem Chg.of_grown {w w' : World} {u : Value} {base : Nat} {e : TypeId} {sz m : Nat} {xs : List Value} (hg : w.grownBy w' u.ownBlock) (ho : w.ownsRow base e sz u m xs) : Chg base w.heap.size w w' :=
  ⟨hg.os, hg.tape, hg.output, hg.size, fun k hk hd => hg.block k hk (fun h => by have := (ho.lt k h.symm).1; omega)⟩
theorem BoxG.chg {w w' : World} {B lo hi : Nat} {t : TypeId} {n : Int} {v : Value} (h : BoxG w B t n v) (c : Chg lo hi w w') (d : B < lo ∨ hi ≤ B) : BoxG w' B t n v := (c.block B h.cells.2.2.2.2 d).trans h
/-- What holds in each round of l2Put: B is the old graph's box, w0 the world at the start. -/
structure PutR (w0 wr : World) (B : Nat) (n x y z : Int) (vao : Option Addr) (vco : Nat) (old : List Ed) (L : List Ed) (v : Value) : Prop where
  bel : Below w0.heap.size w0 wr
  lo : w0.heap.size + 3 ≤ B
  box : BoxG wr (B + 1 + 1) 25 n v
  own : wr.ownsRow (B + 1) 67 3 v L.length (cellsE L)
  obox : BoxG wr B 25 n (.slice vao old.length vco)
  rbox : BoxG wr (w0.heap.size + 1 + 1) 25 0 (.slice none 0 0)
  e0 : wr.cell? ⟨w0.heap.size + 1, 0, none⟩ = some (.int .i64 x)
  e1 : wr.cell? ⟨w0.heap.size + 1, 1, none⟩ = some (.int .i64 y)
  e2 : wr.cell? ⟨w0.heap.size + 1, 2, none⟩ = some (.int .i64 z)
  row : InR true wr 0 B (.slice vao old.length vco) old.length 3 (cellE old)
section
variable {w0 wr : World} {B : Nat} {n x y z : Int} {vao : Option Addr} {vco : Nat} {old L : List Ed} {v : Value}
theorem PutR.below {w' : World} (h : PutR w0 wr B n x y z vao vco old L v) (hb : Below wr.heap.size wr w') : PutR w0 w' B n x y z vao vco old L v := by
  have hs := h.obox.cells.2.2.2.2
  have hlo := h.lo
  exact ⟨bel_trans h.bel hb, h.lo, h.box.keep hb, own_keep3 h.own hb, h.obox.keep hb, h.rbox.keep hb, (hb.cell (p := ⟨_, 0, none⟩) (by simp only; omega)).trans h.e0, (hb.cell (p := ⟨_, 1, none⟩) (by simp only; omega)).trans h.e1, (hb.cell (p := ⟨_, 2, none⟩) (by simp only; omega)).trans h.e2, h.row.keep hb⟩
/-- One edge more: the row has grown in w6, and has been stored. -/
theorem PutR.more {W1 w6 : World} {v' : Value} {d : Ed} (h : PutR w0 wr B n x y z vao vco old L v) (hb : Below wr.heap.size wr W1) (hg : World.grownBy W1 w6 v.ownBlock)
    (ho : w6.ownsRow (B + 1) 67 3 v' (L.length + 1) (cellsE L ++ [.int .i64 d.1, .int .i64 d.2.1, .int .i64 d.2.2])) : PutR w0 (w6.setCell ⟨B + 1 + 1, 1, none⟩ v') B n x y z vao vco old (L ++ [d]) v' := by
  have h1 : PutR w0 W1 B n x y z vao vco old L v := h.below hb
  have c := Chg.of_grown hg h1.own
  have hx := BoxG.grown h1.box hg h1.own (by decide)
  have hlo := h.lo
  have hs := h1.obox.cells.2.2.2.2
  have hs2 := h1.box.cells.2.2.2.2
  have c2 : Chg (B + 1) (max W1.heap.size (B + 3)) W1 (w6.setCell ⟨B + 1 + 1, 1, none⟩ v') := by
    have hm : max W1.heap.size (B + 3) = W1.heap.size := by omega
    rw [hm]
    exact c.setCell (by simp only; omega) (by simp only; omega) _
  refine ⟨bel_chg h1.bel c2 (by omega), hlo, hx.set _, ?_, h1.obox.chg c2 (by omega), h1.rbox.chg c2 (by omega), (c2.cell (p := ⟨_, 0, none⟩) (by simp only; omega) (by simp only; omega)).trans h1.e0, (c2.cell (p := ⟨_, 1, none⟩) (by simp only; omega) (by simp only; omega)).trans h1.e1, (c2.cell (p := ⟨_, 2, none⟩) (by simp only; omega) (by simp only; omega)).trans h1.e2, h1.row.chg c2 (by omega)⟩
  obtain ⟨d0, d1, d2⟩ := d
  exact own_more ho rfl hx (by decide) _
theorem PutR.grow {W1 w6 : World} (h : PutR w0 wr B n x y z vao vco old L v) (hb : Below wr.heap.size wr W1) (hg : World.grownBy W1 w6 v.ownBlock) : BoxG w6 (B + 1 + 1) 25 n v := BoxG.grown (h.below hb).box hg (h.below hb).own (by decide)
theorem PutR.rgrow {W1 w6 : World} (h : PutR w0 wr B n x y z vao vco old L v) (hb : Below wr.heap.size wr W1) (hg : World.grownBy W1 w6 v.ownBlock) : BoxG w6 (w0.heap.size + 1 + 1) 25 0 (.slice none 0 0) := BoxG.grown (h.below hb).rbox hg (h.below hb).own (by decide)
theorem PutR.addr {k : Nat} (h : PutR w0 wr B n x y z vao vco old L v) (hk : k < old.length) : ∃ b off, vao = some ⟨b, off, none⟩ := by
  obtain ⟨a, c, hs, hz⟩ := h.row.edges
  injection hs with h1 _ _
  subst h1
  rcases hz with h0 | ⟨b, off, rfl, _⟩
  · rw [h0] at hk; simp at hk
  · exact ⟨b, off, rfl⟩
theorem PutR.cell3 {k b off : Nat} {p q r : Int} (h : PutR w0 wr B n x y z (some ⟨b, off, none⟩) vco old L v) (hk : k < old.length) (hd : (p, q, r) = old.getD k (0, 0, 0)) :
    wr.cell? ⟨b, off + k * 3, none⟩ = some (.int .i64 p) ∧ wr.cell? ⟨b, off + k * 3 + 1, none⟩ = some (.int .i64 q) ∧ wr.cell? ⟨b, off + k * 3 + 2, none⟩ = some (.int .i64 r) := by
  obtain ⟨a, c, hs, hz⟩ := h.row.edges
  injection hs with h1 _ _
  subst h1
  rcases hz with h0 | ⟨b', off', h1, hb, hc⟩
  · rw [h0] at hk; simp at hk
  · injection h1 with h1
    injection h1 with h1 h2 _
    subst h1 h2
    have := hc k hk
    rw [← hd] at this
    exact this
theorem PutR.start {w2 : World} {lo : Nat} (hb : Below w0.heap.size w0 w2) (hlo : w0.heap.size + 3 ≤ w2.heap.size) (hr : BoxG w2 (w0.heap.size + 1 + 1) 25 0 (.slice none 0 0)) (e0 : w2.cell? ⟨w0.heap.size + 1, 0, none⟩ = some (.int .i64 x)) (e1 : w2.cell? ⟨w0.heap.size + 1, 1, none⟩ = some (.int .i64 y)) (e2 : w2.cell? ⟨w0.heap.size + 1, 2, none⟩ = some (.int .i64 z))
    (hv : InR true w2 lo w2.heap.size (.slice vao old.length vco) old.length 3 (cellE old)) :
    PutR w0 (((w2.alloc (.cells #[.int .i64 n, .slice vao old.length vco] 25)).alloc (.cells #[] 67)).alloc (.cells #[.int .i64 n, .slice (some ⟨w2.heap.size + 1, 0, none⟩) 0 0] 25)) w2.heap.size n x y z vao vco old [] (.slice (some ⟨w2.heap.size + 1, 0, none⟩) 0 0) := by
  have b1 : Below w2.heap.size w2 (w2.alloc (.cells #[.int .i64 n, .slice vao old.length vco] 25)) := (Below.refl _ _).alloc (Nat.le_refl _) _
  have b3 : Below w2.heap.size w2 (((w2.alloc (.cells #[.int .i64 n, .slice vao old.length vco] 25)).alloc (.cells #[] 67)).alloc (.cells #[.int .i64 n, .slice (some ⟨w2.heap.size + 1, 0, none⟩) 0 0] 25)) := (b1.alloc (by simp) _).alloc (by simp; omega) _
  refine ⟨bel_trans hb b3, hlo, ?_, ?_, ((BoxG.new _ _ _ _).alloc _).alloc _, hr.keep b3, (b3.cell (p := ⟨_, 0, none⟩) (by simp only; omega)).trans e0, (b3.cell (p := ⟨_, 1, none⟩) (by simp only; omega)).trans e1, (b3.cell (p := ⟨_, 2, none⟩) (by simp only; omega)).trans e2, (hv.wider (Nat.zero_le _) (Nat.le_refl _) (Nat.le_refl _)).keep b3⟩
  · have := BoxG.new ((w2.alloc (.cells #[.int .i64 n, .slice vao old.length vco] 25)).alloc (.cells #[] 67)) 25 n (.slice (some ⟨w2.heap.size + 1, 0, none⟩) 0 0)
    simpa using this
  · have := (own_empty3 (w2.alloc (.cells #[.int .i64 n, .slice vao old.length vco] 25)) 67 3 (w2.heap.size + 1) (by simp)).alloc (.cells #[.int .i64 n, .slice (some ⟨w2.heap.size + 1, 0, none⟩) 0 0] 25)
    simpa [cellsE] using this
end

set_option maxRecDepth 100000 in
set_option maxHeartbeats 2000000 in
theorem l2Put (n : Int) (es : List Ed) (x y z : Int) (s : Value) (w : World) (hs : RowE w s es) (hl : es.length ≤ 1048576) :
    Calls Try.prog 128 #[.agg #[.int .i64 n, s], .agg #[.int .i64 x, .int .i64 y, .int .i64 z]] w fun e w' => ∃ v, e = .returned (.agg #[.int .i64 n, v]) ∧ OwnE w w' v (insL (x, y, z) (cutL es x y)) ∧ okS v ∧ Below w.heap.size w w' := by
  obtain ⟨ad, cap, hs0, hz0⟩ := id hs
  subst hs0
  have hcu := fun w h => l2Cut n es x y (.slice ad es.length cap) w h hl
  have hlen := cutL_len es x y
  obtain ⟨old, hold⟩ : ∃ old, old = cutL es x y := ⟨_, rfl⟩
  rw [← hold] at hcu hlen ⊢
  have HCU := Lib.hid hcu
  have R := Lib.hid (InR.of_edges hs)
  obtain ⟨i0, hi, hz0', hz1, hz2⟩ := info_parts info_edge
  have HI : Hid (Try.prog.info? 67 = some i0 ∧ i0.zero = some (.agg #[.int .i64 0, .int .i64 0, .int .i64 0]) ∧ i0.size = 3 ∧ i0.bytes = 24) := Lib.hid ⟨hi, hz0', hz1, hz2⟩
  clear hz0 hs hold hcu hi hz0' hz1 hz2
  obtain ⟨w0, hw0⟩ : ∃ w0, w0 = w := ⟨_, rfl⟩
  subst hw0
  have H0 := Below.refl w0.heap.size w0
  have R_0 := R
  clear R
  go_enter Try.func128, Try.ntmps128
  go_wp2_with fail
  have hb1 : Below w0.heap.size w0 (((w0.alloc (.cells #[.int .i64 n, .slice ad es.length cap] 25)).alloc (.cells #[.int .i64 x, .int .i64 y, .int .i64 z] 67)).alloc (.cells #[.int .i64 0, .slice none 0 0] 25)) := (((Below.refl _ _).alloc (by simp <;> omega) _).alloc (by simp <;> omega) _).alloc (by simp <;> omega) _
  have H1 := bel_trans H0 hb1
  have SZ1 := Lib.hid hb1.size
  have R_1 := Lib.hid (R_0.out.keep hb1)
  have qg0_1 : (((w0.alloc (.cells #[.int .i64 n, .slice ad es.length cap] 25)).alloc (.cells #[.int .i64 x, .int .i64 y, .int .i64 z] 67)).alloc (.cells #[.int .i64 0, .slice none 0 0] 25)).cell? ⟨w0.heap.size, 0, none⟩ = some (.int .i64 n) := by go_simp
  have qg1_1 : (((w0.alloc (.cells #[.int .i64 n, .slice ad es.length cap] 25)).alloc (.cells #[.int .i64 x, .int .i64 y, .int .i64 z] 67)).alloc (.cells #[.int .i64 0, .slice none 0 0] 25)).cell? ⟨w0.heap.size, 1, none⟩ = some (.slice ad es.length cap) := by go_simp
  have zg_1 : w0.heap.size < (((w0.alloc (.cells #[.int .i64 n, .slice ad es.length cap] 25)).alloc (.cells #[.int .i64 x, .int .i64 y, .int .i64 z] 67)).alloc (.cells #[.int .i64 0, .slice none 0 0] 25)).heap.size := by simp <;> omega
  have qe0_1 : (((w0.alloc (.cells #[.int .i64 n, .slice ad es.length cap] 25)).alloc (.cells #[.int .i64 x, .int .i64 y, .int .i64 z] 67)).alloc (.cells #[.int .i64 0, .slice none 0 0] 25)).cell? ⟨w0.heap.size + 1, 0, none⟩ = some (.int .i64 x) := by go_simp
  have qe1_1 : (((w0.alloc (.cells #[.int .i64 n, .slice ad es.length cap] 25)).alloc (.cells #[.int .i64 x, .int .i64 y, .int .i64 z] 67)).alloc (.cells #[.int .i64 0, .slice none 0 0] 25)).cell? ⟨w0.heap.size + 1, 1, none⟩ = some (.int .i64 y) := by go_simp
  have qe2_1 : (((w0.alloc (.cells #[.int .i64 n, .slice ad es.length cap] 25)).alloc (.cells #[.int .i64 x, .int .i64 y, .int .i64 z] 67)).alloc (.cells #[.int .i64 0, .slice none 0 0] 25)).cell? ⟨w0.heap.size + 1, 2, none⟩ = some (.int .i64 z) := by go_simp
  have ze_1 : w0.heap.size + 1 < (((w0.alloc (.cells #[.int .i64 n, .slice ad es.length cap] 25)).alloc (.cells #[.int .i64 x, .int .i64 y, .int .i64 z] 67)).alloc (.cells #[.int .i64 0, .slice none 0 0] 25)).heap.size := by simp <;> omega
  have frr0_1 : (((w0.alloc (.cells #[.int .i64 n, .slice ad es.length cap] 25)).alloc (.cells #[.int .i64 x, .int .i64 y, .int .i64 z] 67)).alloc (.cells #[.int .i64 0, .slice none 0 0] 25)).frozen? ⟨w0.heap.size + 1 + 1, 0, none⟩ = false := by go_simp
  have frr1_1 : (((w0.alloc (.cells #[.int .i64 n, .slice ad es.length cap] 25)).alloc (.cells #[.int .i64 x, .int .i64 y, .int .i64 z] 67)).alloc (.cells #[.int .i64 0, .slice none 0 0] 25)).frozen? ⟨w0.heap.size + 1 + 1, 1, none⟩ = false := by go_simp
  have qr0_1 : (((w0.alloc (.cells #[.int .i64 n, .slice ad es.length cap] 25)).alloc (.cells #[.int .i64 x, .int .i64 y, .int .i64 z] 67)).alloc (.cells #[.int .i64 0, .slice none 0 0] 25)).cell? ⟨w0.heap.size + 1 + 1, 0, none⟩ = some (.int .i64 0) := by go_simp
  have qr1_1 : (((w0.alloc (.cells #[.int .i64 n, .slice ad es.length cap] 25)).alloc (.cells #[.int .i64 x, .int .i64 y, .int .i64 z] 67)).alloc (.cells #[.int .i64 0, .slice none 0 0] 25)).cell? ⟨w0.heap.size + 1 + 1, 1, none⟩ = some (.slice none 0 0) := by go_simp
  have zr_1 : w0.heap.size + 1 + 1 < (((w0.alloc (.cells #[.int .i64 n, .slice ad es.length cap] 25)).alloc (.cells #[.int .i64 x, .int .i64 y, .int .i64 z] 67)).alloc (.cells #[.int .i64 0, .slice none 0 0] 25)).heap.size := by simp <;> omega
  have hrb : BoxG (((w0.alloc (.cells #[.int .i64 n, .slice ad es.length cap] 25)).alloc (.cells #[.int .i64 x, .int .i64 y, .int .i64 z] 67)).alloc (.cells #[.int .i64 0, .slice none 0 0] 25)) (w0.heap.size + 1 + 1) 25 0 (.slice none 0 0) := by have := BoxG.new ((w0.alloc (.cells #[.int .i64 n, .slice ad es.length cap] 25)).alloc (.cells #[.int .i64 x, .int .i64 y, .int .i64 z] 67)) 25 0 (.slice none 0 0); simpa using this
  generalize (((w0.alloc (.cells #[.int .i64 n, .slice ad es.length cap] 25)).alloc (.cells #[.int .i64 x, .int .i64 y, .int .i64 z] 67)).alloc (.cells #[.int .i64 0, .slice none 0 0] 25)) = w1 at hrb hb1 H1 SZ1 R_1 frr0_1 frr1_1 qe0_1 qe1_1 qe2_1 qg0_1 qg1_1 qr0_1 qr1_1 ze_1 zg_1 zr_1 ⊢
  have ZBg := Lib.hid zg_1
  have ZBe := Lib.hid ze_1
  have ZBr := Lib.hid zr_1
  clear R_0
  refine (HCU.out _ R_1.out.edges).mono ?_
  rintro e w2 ⟨v, rfl, hown, hokv, hb2⟩
  have H2 := bel_trans H1 hb2
  have SZ2 := Lib.hid hb2.size
  have qg0_2 := (hb2.cell (p := ⟨w0.heap.size, 0, none⟩) zg_1).trans qg0_1
  have qg1_2 := (hb2.cell (p := ⟨w0.heap.size, 1, none⟩) zg_1).trans qg1_1
  have zg_2 := Nat.lt_of_lt_of_le zg_1 hb2.size
  have qe0_2 := (hb2.cell (p := ⟨w0.heap.size + 1, 0, none⟩) ze_1).trans qe0_1
  have qe1_2 := (hb2.cell (p := ⟨w0.heap.size + 1, 1, none⟩) ze_1).trans qe1_1
  have qe2_2 := (hb2.cell (p := ⟨w0.heap.size + 1, 2, none⟩) ze_1).trans qe2_1
  have ze_2 := Nat.lt_of_lt_of_le ze_1 hb2.size
  have qr0_2 := (hb2.cell (p := ⟨w0.heap.size + 1 + 1, 0, none⟩) zr_1).trans qr0_1
  have frr0_2 := (hb2.frozen (p := ⟨w0.heap.size + 1 + 1, 0, none⟩) zr_1).trans frr0_1
  have qr1_2 := (hb2.cell (p := ⟨w0.heap.size + 1 + 1, 1, none⟩) zr_1).trans qr1_1
  have frr1_2 := (hb2.frozen (p := ⟨w0.heap.size + 1 + 1, 1, none⟩) zr_1).trans frr1_1
  have zr_2 := Nat.lt_of_lt_of_le zr_1 hb2.size
  have R_2 := Lib.hid (R_1.out.keep hb2)
  obtain ⟨vao, vco, rfl, hvz⟩ := id hown
  clear hvz
  have hrb2 := hrb.keep hb2
  have V_2 := Lib.hid (hown)
  clear R_1 qg0_1 qg1_1 zg_1 qe0_1 qe1_1 qe2_1 ze_1 frr0_1 frr1_1 qr0_1 qr1_1 zr_1
  have hlo : w0.heap.size + 3 ≤ w2.heap.size := by have := ZBr.out; have := SZ2.out; omega
  have PS := Lib.hid (PutR.start (n := n) (vao := vao) (vco := vco) (old := old) H2 hlo hrb2 qe0_2 qe1_2 qe2_2 V_2.out)
  have hB0 : w0.heap.size ≤ w2.heap.size := by omega
  clear hrb hrb2 hown
  go_wp2
  clear qg0_2 qg1_2 zg_2 qe0_2 qe1_2 qe2_2 ze_2 qr0_2 frr0_2 qr1_2 frr1_2 zr_2 R_2 V_2
  go_loopw [7, 8] (fun dn c wr => ∃ k : Nat, k ≤ old.length ∧ c = .int .i64 k ∧ dn = .bool (insF (x, y, z) (old.take k)).2 ∧ ∃ v, PutR w0 wr w2.heap.size n x y z vao vco old (insF (x, y, z) (old.take k)).1 v) (fun _ c _ => old.length - (intOf c).toNat)
  case atStart => exact ⟨0, Nat.zero_le _, rfl, rfl, _, PS.out⟩
  case round =>
    obtain ⟨k, hk, rfl, rfl, v, hput⟩ := hrel
    have hlk := insF_len (x, y, z) (old.take k)
    have HP := Lib.hid hput
    clear hput
    by_cases hlt : k < old.length
    · have hsn := insF_snoc (x, y, z) old hlt
      obtain ⟨p, q, r, hd⟩ : ∃ p q r, (p, q, r) = old.getD k (0, 0, 0) := ⟨_, _, _, rfl⟩
      rw [← hd] at hsn
      have hle : (old.take k).length = k := by rw [List.length_take]; omega
      rw [hle] at hlk
      generalize insF (x, y, z) (old.take k) = st at HP hsn hlk ⊢
      obtain ⟨L, dn⟩ := st
      simp only at HP hlk
      have hlt' : (k : Int) < old.length := by omega
      obtain ⟨b0, off, hvao⟩ := HP.out.addr hlt
      subst hvao
      have hcl : (p, q, r) = old.getD k (0, 0, 0) := hd
      have HD := Lib.hid hcl
      clear hd hcl
      have ff : ∀ w', Below wr.heap.size wr w' → w'.cell? ⟨w0.heap.size + 1, 0, none⟩ = some (.int .i64 x) ∧ w'.cell? ⟨w0.heap.size + 1, 1, none⟩ = some (.int .i64 y) ∧ w'.cell? ⟨w0.heap.size + 1, 2, none⟩ = some (.int .i64 z) ∧ w'.cell? ⟨w2.heap.size, 1, none⟩ = some (.slice (some ⟨b0, off, none⟩) old.length vco) ∧
          w'.cell? ⟨b0, off + k * 3, none⟩ = some (.int .i64 p) ∧ w'.cell? ⟨b0, off + k * 3 + 1, none⟩ = some (.int .i64 q) ∧ w'.cell? ⟨b0, off + k * 3 + 2, none⟩ = some (.int .i64 r) := by
        intro w' h
        have h1 := HP.out.below h
        have h2 := h1.cell3 hlt HD.out
        exact ⟨h1.e0, h1.e1, h1.e2, h1.obox.cells.2.1, h2.1, h2.2.1, h2.2.2⟩
      have FF := Lib.hid ff
      have hll := fun w => l2Less x y z p q r w
      have hbe : edB (x, y, z) (p, q, r) = sLess x y p q := rfl
      have g1 := HP.out.obox.cells.2.1
      clear ff
      obtain ⟨hi, hz0, hz1, hz2⟩ := HI.out
      cases dn
      · have hlk2 := hlk.2 rfl
        cases hb : sLess x y p q
        · -- not yet
          have hT : insF (x, y, z) (old.take (k + 1)) = (L ++ [(p, q, r)], false) := by rw [hsn]; simp [insS, hbe, hb]
          have HT := Lib.hid hT
          rw [hb] at hll
          have HLL := Lib.hid hll
          clear hT hsn hll hbe hb hlk
          go_wp2
          refine wp_region_below (by kernel_rfl) (by kernel_rfl) ?_
          repeat (go_big_quiet_step ((intro hw; first | with_reducible rfl | (obtain ⟨f0, f1, f2, g0, c0, c1, c2⟩ := FF.out _ hw; simp only [f0, f1, f2, g0, c0, c1, c2, Result.andThen]; first | exact ⟨trivial, rfl⟩ | exact ⟨rfl, rfl⟩) | (go_at_call 114; exact quietB (HLL.out _) hw))))
          refine wpQuiet_nil ?_
          intro w5 hw5
          have H5 := Lib.hid (HP.out.below hw5)
          obtain ⟨-, kx1, -, kx3, kx4⟩ := H5.out.box.cells
          obtain ⟨-, ko1, -, -, ko4⟩ := H5.out.obox.cells
          have ke0 := H5.out.e0
          have ke1 := H5.out.e1
          have ke2 := H5.out.e2
          obtain ⟨kc0, kc1, kc2⟩ := H5.out.cell3 hlt HD.out
          go_wp2
          have hxg : ∀ A w6, World.grownBy ((w5.alloc A).drew) w6 v.ownBlock → BoxG w6 (w2.heap.size + 1 + 1) 25 n (v) := fun A w6 h => H5.out.grow (((Below.refl _ _).alloc (Nat.le_refl _) _).drew) h
          have HXG := Lib.hid hxg
          have hsz5 : w2.heap.size + 1 ≤ w5.heap.size := Nat.le_of_lt (Nat.lt_of_succ_lt H5.out.box.cells.2.2.2.2)
          clear hxg
          go_region_law (first | (refine step_append_own rfl (.tmp 44) (.tmp 50) 23 rfl (w2.heap.size + 1) 67 i0 (.agg #[.int .i64 0, .int .i64 0, .int .i64 0]) 3 24 Try.underlying23 hi hz0 hz1 hz2 rfl (by decide) _ _ _ rfl (own_drew (H5.out.own.alloc _)) ⟨w5.heap.size, 0, none⟩ 1 1 [.int .i64 p, .int .i64 q, .int .i64 r] rfl rfl (cells_new3 _ _ _ _ _) (by simp [Value.oneCell']) (by unfold maxLen; first | omega | (simp; omega)) (by first | omega | (simp; omega)) (by first | omega | (simp; omega)) ?_; intro v6 w6 hown6 hgrow6; obtain ⟨va, vc, rfl⟩ := own_slice hown6; have HX6 := Lib.hid (HXG.out _ _ hgrow6); obtain ⟨-, y1, -, y3, -⟩ := HX6.out.cells))
          all_goals go_wp2
          all_goals go_roundw
          all_goals first | (simp [intOf]; omega) | exact ⟨k + 1, by omega, by go_num, by rw [HT.out], _, by rw [HT.out]; exact H5.out.more (W1 := (w5.alloc _).drew) (((Below.refl _ _).alloc (Nat.le_refl _) _).drew) hgrow6 hown6⟩ | ((repeat apply Exists.intro); exact ⟨⟨k + 1, by omega, by go_num, by rw [HT.out], _, by rw [HT.out]; exact H5.out.more (W1 := (w5.alloc _).drew) (((Below.refl _ _).alloc (Nat.le_refl _) _).drew) hgrow6 hown6⟩, rfl⟩)
        · -- here
          have hT : insF (x, y, z) (old.take (k + 1)) = (L ++ [(x, y, z)] ++ [(p, q, r)], true) := by rw [hsn]; simp [insS, hbe, hb]
          have HT := Lib.hid hT
          rw [hb] at hll
          have HLL := Lib.hid hll
          clear hT hsn hll hbe hb hlk
          go_wp2
          refine wp_region_below (by kernel_rfl) (by kernel_rfl) ?_
          repeat (go_big_quiet_step ((intro hw; first | with_reducible rfl | (obtain ⟨f0, f1, f2, g0, c0, c1, c2⟩ := FF.out _ hw; simp only [f0, f1, f2, g0, c0, c1, c2, Result.andThen]; first | exact ⟨trivial, rfl⟩ | exact ⟨rfl, rfl⟩) | (go_at_call 114; exact quietB (HLL.out _) hw))))
          refine wpQuiet_nil ?_
          intro w5 hw5
          have H5 := Lib.hid (HP.out.below hw5)
          obtain ⟨-, kx1, -, kx3, kx4⟩ := H5.out.box.cells
          obtain ⟨-, ko1, -, -, ko4⟩ := H5.out.obox.cells
          have ke0 := H5.out.e0
          have ke1 := H5.out.e1
          have ke2 := H5.out.e2
          obtain ⟨kc0, kc1, kc2⟩ := H5.out.cell3 hlt HD.out
          have hsz5 : w2.heap.size + 1 ≤ w5.heap.size := Nat.le_of_lt (Nat.lt_of_succ_lt H5.out.box.cells.2.2.2.2)
          go_wp2_with (at_builtin; refine wpList_append_own _ rfl (.tmp 38) (.tmp 40) 23 rfl (w2.heap.size + 1) 67 i0 (.agg #[.int .i64 0, .int .i64 0, .int .i64 0]) 3 24 Try.underlying23 hi hz0 hz1 hz2 rfl (by decide) _ _ _ rfl (H5.out.own.alloc _) ⟨w5.heap.size, 0, none⟩ 1 1 [.int .i64 x, .int .i64 y, .int .i64 z] rfl rfl ?c1 (by simp [Value.oneCell']) ?c3 ?c4 ?c5 ?_)
          case c1 => exact cells_new3 w5 _ _ _ _
          case c3 => unfold maxLen; omega
          case c4 => omega
          case c5 => simp; omega
          intro v6 w6 hown6 hgrow6 _
          obtain ⟨va6, vc6, rfl⟩ := own_slice hown6
          have H7 := Lib.hid (H5.out.more (W1 := w5.alloc _) (d := (x, y, z)) ((Below.refl _ _).alloc (Nat.le_refl _) _) hgrow6 hown6)
          have HX7 := H5.out.grow ((Below.refl _ _).alloc (Nat.le_refl _) _) hgrow6
          obtain ⟨-, y1, -, y3, -⟩ := HX7.cells
          clear HX7 hown6 hgrow6 kx1 kx3 kx4 ko4 ko1 ke0 ke1 ke2 kc0 kc1 kc2
          go_wp2
          generalize (w6.setCell ⟨w2.heap.size + 1 + 1, 1, none⟩ (Value.slice va6 (L.length + 1) vc6)) = w7 at H7 ⊢
          clear y1 y3
          obtain ⟨-, mx1, -, mx3, mx4⟩ := H7.out.box.cells
          obtain ⟨-, mo1, -, -, mo4⟩ := H7.out.obox.cells
          have me0 := H7.out.e0
          have me1 := H7.out.e1
          have me2 := H7.out.e2
          obtain ⟨mc0, mc1, mc2⟩ := H7.out.cell3 hlt HD.out
          have hll7 : (L ++ [(x, y, z)]).length = L.length + 1 := by simp
          have ho7 : w7.ownsRow (w2.heap.size + 1) 67 3 (Value.slice va6 (L.length + 1) vc6) (L.length + 1) (cellsE (L ++ [(x, y, z)])) := by have := H7.out.own; rw [hll7] at this; exact this
          have HO7 := Lib.hid ho7
          have HL7 := Lib.hid hll7
          clear hll7 ho7
          have hxg : ∀ A w6, World.grownBy ((w7.alloc A).drew) w6 (Value.slice va6 (L.length + 1) vc6).ownBlock → BoxG w6 (w2.heap.size + 1 + 1) 25 n ((Value.slice va6 (L.length + 1) vc6)) := fun A w6 h => H7.out.grow (((Below.refl _ _).alloc (Nat.le_refl _) _).drew) h
          have HXG := Lib.hid hxg
          have hsz5 : w2.heap.size + 1 ≤ w7.heap.size := Nat.le_of_lt (Nat.lt_of_succ_lt H7.out.box.cells.2.2.2.2)
          clear hxg
          go_region_law (first | (refine step_append_own rfl (.tmp 44) (.tmp 50) 23 rfl (w2.heap.size + 1) 67 i0 (.agg #[.int .i64 0, .int .i64 0, .int .i64 0]) 3 24 Try.underlying23 hi hz0 hz1 hz2 rfl (by decide) _ _ _ rfl (own_drew (HO7.out.alloc _)) ⟨w7.heap.size, 0, none⟩ 1 1 [.int .i64 p, .int .i64 q, .int .i64 r] rfl rfl (cells_new3 _ _ _ _ _) (by simp [Value.oneCell']) (by unfold maxLen; first | omega | (simp; omega)) (by first | omega | (simp; omega)) (by first | omega | (simp; omega)) ?_; intro v6 w6 hown6 hgrow6; obtain ⟨va, vc, rfl⟩ := own_slice hown6; have HX6 := Lib.hid (HXG.out _ _ hgrow6); obtain ⟨-, y1, -, y3, -⟩ := HX6.out.cells))
          all_goals go_wp2
          all_goals go_roundw
          all_goals first | (simp [intOf]; omega) | exact ⟨k + 1, by omega, by go_num, by rw [HT.out], _, by rw [HT.out]; exact H7.out.more (W1 := (w7.alloc _).drew) (((Below.refl _ _).alloc (Nat.le_refl _) _).drew) hgrow6 (by rw [HL7.out]; exact hown6)⟩ | ((repeat apply Exists.intro); exact ⟨⟨k + 1, by omega, by go_num, by rw [HT.out], _, by rw [HT.out]; exact H7.out.more (W1 := (w7.alloc _).drew) (((Below.refl _ _).alloc (Nat.le_refl _) _).drew) hgrow6 (by rw [HL7.out]; exact hown6)⟩, rfl⟩)
      · -- done already
        have hT : insF (x, y, z) (old.take (k + 1)) = (L ++ [(p, q, r)], true) := by rw [hsn]; simp [insS]
        have HT := Lib.hid hT
        clear hT hsn hll hbe
        go_wp2
        refine wp_region_below (by kernel_rfl) (by kernel_rfl) ?_
        repeat (go_big_quiet_step ((intro hw; with_reducible rfl)))
        refine wpQuiet_nil ?_
        intro w5 hw5
        have H5 := Lib.hid (HP.out.below hw5)
        obtain ⟨-, kx1, -, kx3, kx4⟩ := H5.out.box.cells
        obtain ⟨-, ko1, -, -, ko4⟩ := H5.out.obox.cells
        have ke0 := H5.out.e0
        have ke1 := H5.out.e1
        have ke2 := H5.out.e2
        obtain ⟨kc0, kc1, kc2⟩ := H5.out.cell3 hlt HD.out
        go_wp2
        have hxg : ∀ A w6, World.grownBy ((w5.alloc A).drew) w6 v.ownBlock → BoxG w6 (w2.heap.size + 1 + 1) 25 n (v) := fun A w6 h => H5.out.grow (((Below.refl _ _).alloc (Nat.le_refl _) _).drew) h
        have HXG := Lib.hid hxg
        have hsz5 : w2.heap.size + 1 ≤ w5.heap.size := Nat.le_of_lt (Nat.lt_of_succ_lt H5.out.box.cells.2.2.2.2)
        clear hxg
        go_region_law (first | (refine step_append_own rfl (.tmp 44) (.tmp 50) 23 rfl (w2.heap.size + 1) 67 i0 (.agg #[.int .i64 0, .int .i64 0, .int .i64 0]) 3 24 Try.underlying23 hi hz0 hz1 hz2 rfl (by decide) _ _ _ rfl (own_drew (H5.out.own.alloc _)) ⟨w5.heap.size, 0, none⟩ 1 1 [.int .i64 p, .int .i64 q, .int .i64 r] rfl rfl (cells_new3 _ _ _ _ _) (by simp [Value.oneCell']) (by unfold maxLen; first | omega | (simp; omega)) (by first | omega | (simp; omega)) (by first | omega | (simp; omega)) ?_; intro v6 w6 hown6 hgrow6; obtain ⟨va, vc, rfl⟩ := own_slice hown6; have HX6 := Lib.hid (HXG.out _ _ hgrow6); obtain ⟨-, y1, -, y3, -⟩ := HX6.out.cells))
        all_goals go_wp2
        all_goals go_roundw
        all_goals first | (simp [intOf]; omega) | exact ⟨k + 1, by omega, by go_num, by rw [HT.out], _, by rw [HT.out]; exact H5.out.more (W1 := (w5.alloc _).drew) (((Below.refl _ _).alloc (Nat.le_refl _) _).drew) hgrow6 hown6⟩ | ((repeat apply Exists.intro); exact ⟨⟨k + 1, by omega, by go_num, by rw [HT.out], _, by rw [HT.out]; exact H5.out.more (W1 := (w5.alloc _).drew) (((Below.refl _ _).alloc (Nat.le_refl _) _).drew) hgrow6 hown6⟩, rfl⟩)

    · have hke : k = old.length := by omega
      have hkk : ¬ ((k : Int) < old.length) := by omega
      have htk : old.take k = old := by rw [hke, List.take_length]
      rw [htk] at HP hlk ⊢
      have hins : insL (x, y, z) old = if (insF (x, y, z) old).2 = true then (insF (x, y, z) old).1 else (insF (x, y, z) old).1 ++ [(x, y, z)] := rfl
      have HIN := Lib.hid hins
      clear hins htk hke
      generalize insF (x, y, z) old = st at HP hlk HIN ⊢
      obtain ⟨L, dn⟩ := st
      simp only at HP hlk HIN
      obtain ⟨hi, hz0, hz1, hz2⟩ := HI.out
      have hsz5 : w2.heap.size + 1 ≤ wr.heap.size := Nat.le_of_lt (Nat.lt_of_succ_lt HP.out.box.cells.2.2.2.2)
      obtain ⟨-, kx1, -, kx3, kx4⟩ := HP.out.box.cells
      have ke0 := HP.out.e0
      have ke1 := HP.out.e1
      have ke2 := HP.out.e2
      have ko1 := HP.out.obox.cells.2.1
      cases dn
      · have hlk2 := hlk.2 rfl
        have hI : insL (x, y, z) old = L ++ [(x, y, z)] := by rw [HIN.out]; rfl
        have HII := Lib.hid hI
        clear hI hlk
        go_wp2_with (at_builtin; refine wpList_append_own _ rfl (.tmp 56) (.tmp 58) 23 rfl (w2.heap.size + 1) 67 i0 (.agg #[.int .i64 0, .int .i64 0, .int .i64 0]) 3 24 Try.underlying23 hi hz0 hz1 hz2 rfl (by decide) _ _ _ rfl (HP.out.own.alloc _) ⟨wr.heap.size, 0, none⟩ 1 1 [.int .i64 x, .int .i64 y, .int .i64 z] rfl rfl ?c1 (by simp [Value.oneCell']) ?c3 ?c4 ?c5 ?_)
        case c3 => unfold maxLen; omega
        case c4 => omega
        case c5 => first | omega | (simp; omega)
        intro v6 w6 hown6 hgrow6 _
        obtain ⟨va6, vc6, rfl⟩ := own_slice hown6
        have H7 := Lib.hid (HP.out.more (W1 := wr.alloc _) (d := (x, y, z)) ((Below.refl _ _).alloc (Nat.le_refl _) _) hgrow6 hown6)
        have HX7 := HP.out.grow ((Below.refl _ _).alloc (Nat.le_refl _) _) hgrow6
        obtain ⟨y0, y1, y2, y3, y4⟩ := HX7.cells
        have rr := H7.out.rbox.cells
        have hr6 := HP.out.rgrow ((Below.refl _ _).alloc (Nat.le_refl _) _) hgrow6
        obtain ⟨r0, r1, r2, r3, r4⟩ := hr6.cells
        have hne : w0.heap.size + 1 + 1 ≠ w2.heap.size + 1 + 1 := by omega
        clear HX7 rr hgrow6
        go_wp2
        try simp only [Exit.inBlock, Exit.then]
        refine bodyPost_ret (v := .agg #[.int .i64 n, .slice va6 (L.length + 1) vc6]) ?_ rfl ?_
        · rw [results_cell1 rfl]
          go_simp
        have hll7 : (L ++ [(x, y, z)]).length = L.length + 1 := by simp
        have ho7 := H7.out.own
        rw [HII.out]
        refine ⟨_, rfl, OwnE.of (base := w2.heap.size + 1) (by have := own_setCell (o := 1) (v' := .slice va6 (L.length + 1) vc6) (H7.out.rbox.set0 n) (own_setCell (o := 0) (v' := .int .i64 n) H7.out.rbox ho7 (by decide)) (by decide); exact this) (by omega), own_ok ho7, (H7.out.bel.setCell (by simp only; omega) _).setCell (by simp only; omega) _⟩
      · have hI : insL (x, y, z) old = L := by rw [HIN.out]; rfl
        have HII := Lib.hid hI
        clear hI hlk
        obtain ⟨va, vc, rfl⟩ := own_slice HP.out.own
        have HPP := HP.out
        have kx0 := HPP.box.cells.1
        obtain ⟨r0, r1, r2, r3, r4⟩ := HPP.rbox.cells
        clear HPP
        go_wp2
        try simp only [Exit.inBlock, Exit.then]
        refine bodyPost_ret (v := .agg #[.int .i64 n, .slice va L.length vc]) ?_ rfl ?_
        · rw [results_cell1 rfl]
          go_simp
        rw [HII.out]
        exact ⟨_, rfl, OwnE.of (own_setCell (HP.out.rbox.set0 n) (own_setCell HP.out.rbox HP.out.own (by decide)) (by decide)) (by omega), own_ok HP.out.own, (HP.out.bel.setCell (by simp only; omega) _).setCell (by simp only; omega) _⟩
end Go.Proofs.Ytlgjcofpdaljnaa
namespace Go.Proofs.Ytlgjcofpdaljnaa
open Go.RowKit Go.BigFrame Go.Deep
set_option linter.unusedVariables false
set_option linter.unusedSimpArgs false

theorem putB_val {n : Int} {es : List Ed} (hg : gVal n es = true) (e : Ed) : putB n es e = gVal n (pL es e) := by
  rw [gVal_put hg]; unfold putB; rw [hg, Bool.true_and]
theorem pL_len (es : List Ed) (e : Ed) : (pL es e).length ≤ es.length + 1 := by
  unfold pL
  rw [List.length_append, List.length_cons, List.length_take, List.length_drop]
  omega

set_option maxRecDepth 100000 in
set_option maxHeartbeats 1000000 in
theorem sPutEdge (n : Int) (es : List Ed) (x y z : Int) (s : Value) (w : World) (hs : RowE w s es) (hl : es.length ≤ 1048576) :
    Calls Try.prog 104 #[.agg #[.int .i64 n, s], .agg #[.int .i64 x, .int .i64 y, .int .i64 z]] w fun e w' => ∃ v, e = .returned (.tuple #[.agg #[.int .i64 (putN n es (x, y, z)), v], .bool (putB n es (x, y, z))]) ∧ OwnE w w' v (putL n es (x, y, z)) ∧ okS v ∧ Below w.heap.size w w' := by
  have hl2 : es.length ≤ 281474976710656 := by omega
  obtain ⟨ad, cap, hs0, hz0⟩ := id hs
  subst hs0
  have hgv := fun w h => sGraphValid n es (.slice ad es.length cap) w h hl2
  have hlp := fun w h => l2Put n es x y z (.slice ad es.length cap) w h hl
  have R := Lib.hid (InR.of_edges hs)
  clear hz0 hs
  cases hg : gVal n es
  · have e0 : putB n es (x, y, z) = false := by unfold putB; rw [hg]; rfl
    have e1 : putN n es (x, y, z) = 0 := by unfold putN; rw [e0]; rfl
    have e2 : putL n es (x, y, z) = [] := by unfold putL; rw [e0]; rfl
    rw [e0, e1, e2]
    rw [hg] at hgv
    have HV := Lib.hid hgv
    clear hgv e0 e1 e2 hlp
    obtain ⟨w0, hw0⟩ : ∃ w0, w0 = w := ⟨_, rfl⟩
    subst hw0
    have H0 := Below.refl w0.heap.size w0
    have R_0 := R
    clear R
    go_enter Try.func104, Try.ntmps104
    go_wp2_with fail
    have hb1 : Below w0.heap.size w0 (((w0.alloc (.cells #[.int .i64 n, .slice ad es.length cap] 25)).alloc (.cells #[.int .i64 x, .int .i64 y, .int .i64 z] 67)).alloc (.cells #[.int .i64 0, .slice none 0 0] 25)) := (((Below.refl _ _).alloc (by simp <;> omega) _).alloc (by simp <;> omega) _).alloc (by simp <;> omega) _
    have H1 := bel_trans H0 hb1
    have SZ1 := Lib.hid hb1.size
    have R_1 := Lib.hid (R_0.out.keep hb1)
    have qg0_1 : (((w0.alloc (.cells #[.int .i64 n, .slice ad es.length cap] 25)).alloc (.cells #[.int .i64 x, .int .i64 y, .int .i64 z] 67)).alloc (.cells #[.int .i64 0, .slice none 0 0] 25)).cell? ⟨w0.heap.size, 0, none⟩ = some (.int .i64 n) := by go_simp
    have qg1_1 : (((w0.alloc (.cells #[.int .i64 n, .slice ad es.length cap] 25)).alloc (.cells #[.int .i64 x, .int .i64 y, .int .i64 z] 67)).alloc (.cells #[.int .i64 0, .slice none 0 0] 25)).cell? ⟨w0.heap.size, 1, none⟩ = some (.slice ad es.length cap) := by go_simp
    have zg_1 : w0.heap.size < (((w0.alloc (.cells #[.int .i64 n, .slice ad es.length cap] 25)).alloc (.cells #[.int .i64 x, .int .i64 y, .int .i64 z] 67)).alloc (.cells #[.int .i64 0, .slice none 0 0] 25)).heap.size := by simp <;> omega
    have qe0_1 : (((w0.alloc (.cells #[.int .i64 n, .slice ad es.length cap] 25)).alloc (.cells #[.int .i64 x, .int .i64 y, .int .i64 z] 67)).alloc (.cells #[.int .i64 0, .slice none 0 0] 25)).cell? ⟨w0.heap.size + 1, 0, none⟩ = some (.int .i64 x) := by go_simp
    have qe1_1 : (((w0.alloc (.cells #[.int .i64 n, .slice ad es.length cap] 25)).alloc (.cells #[.int .i64 x, .int .i64 y, .int .i64 z] 67)).alloc (.cells #[.int .i64 0, .slice none 0 0] 25)).cell? ⟨w0.heap.size + 1, 1, none⟩ = some (.int .i64 y) := by go_simp
    have qe2_1 : (((w0.alloc (.cells #[.int .i64 n, .slice ad es.length cap] 25)).alloc (.cells #[.int .i64 x, .int .i64 y, .int .i64 z] 67)).alloc (.cells #[.int .i64 0, .slice none 0 0] 25)).cell? ⟨w0.heap.size + 1, 2, none⟩ = some (.int .i64 z) := by go_simp
    have ze_1 : w0.heap.size + 1 < (((w0.alloc (.cells #[.int .i64 n, .slice ad es.length cap] 25)).alloc (.cells #[.int .i64 x, .int .i64 y, .int .i64 z] 67)).alloc (.cells #[.int .i64 0, .slice none 0 0] 25)).heap.size := by simp <;> omega
    have frr0_1 : (((w0.alloc (.cells #[.int .i64 n, .slice ad es.length cap] 25)).alloc (.cells #[.int .i64 x, .int .i64 y, .int .i64 z] 67)).alloc (.cells #[.int .i64 0, .slice none 0 0] 25)).frozen? ⟨w0.heap.size + 1 + 1, 0, none⟩ = false := by go_simp
    have frr1_1 : (((w0.alloc (.cells #[.int .i64 n, .slice ad es.length cap] 25)).alloc (.cells #[.int .i64 x, .int .i64 y, .int .i64 z] 67)).alloc (.cells #[.int .i64 0, .slice none 0 0] 25)).frozen? ⟨w0.heap.size + 1 + 1, 1, none⟩ = false := by go_simp
    have qr0_1 : (((w0.alloc (.cells #[.int .i64 n, .slice ad es.length cap] 25)).alloc (.cells #[.int .i64 x, .int .i64 y, .int .i64 z] 67)).alloc (.cells #[.int .i64 0, .slice none 0 0] 25)).cell? ⟨w0.heap.size + 1 + 1, 0, none⟩ = some (.int .i64 0) := by go_simp
    have qr1_1 : (((w0.alloc (.cells #[.int .i64 n, .slice ad es.length cap] 25)).alloc (.cells #[.int .i64 x, .int .i64 y, .int .i64 z] 67)).alloc (.cells #[.int .i64 0, .slice none 0 0] 25)).cell? ⟨w0.heap.size + 1 + 1, 1, none⟩ = some (.slice none 0 0) := by go_simp
    have zr_1 : w0.heap.size + 1 + 1 < (((w0.alloc (.cells #[.int .i64 n, .slice ad es.length cap] 25)).alloc (.cells #[.int .i64 x, .int .i64 y, .int .i64 z] 67)).alloc (.cells #[.int .i64 0, .slice none 0 0] 25)).heap.size := by simp <;> omega
    generalize (((w0.alloc (.cells #[.int .i64 n, .slice ad es.length cap] 25)).alloc (.cells #[.int .i64 x, .int .i64 y, .int .i64 z] 67)).alloc (.cells #[.int .i64 0, .slice none 0 0] 25)) = w1 at hb1 H1 SZ1 R_1 frr0_1 frr1_1 qe0_1 qe1_1 qe2_1 qg0_1 qg1_1 qr0_1 qr1_1 ze_1 zg_1 zr_1 ⊢
    have ZBg := Lib.hid zg_1
    have ZBe := Lib.hid ze_1
    have ZBr := Lib.hid zr_1
    clear R_0
    refine (HV.out _ R_1.out.edges).mono ?_
    rintro e w2 ⟨rfl, hb2⟩
    have H2 := bel_trans H1 hb2
    have SZ2 := Lib.hid hb2.size
    have qg0_2 := (hb2.cell (p := ⟨w0.heap.size, 0, none⟩) zg_1).trans qg0_1
    have qg1_2 := (hb2.cell (p := ⟨w0.heap.size, 1, none⟩) zg_1).trans qg1_1
    have zg_2 := Nat.lt_of_lt_of_le zg_1 hb2.size
    have qe0_2 := (hb2.cell (p := ⟨w0.heap.size + 1, 0, none⟩) ze_1).trans qe0_1
    have qe1_2 := (hb2.cell (p := ⟨w0.heap.size + 1, 1, none⟩) ze_1).trans qe1_1
    have qe2_2 := (hb2.cell (p := ⟨w0.heap.size + 1, 2, none⟩) ze_1).trans qe2_1
    have ze_2 := Nat.lt_of_lt_of_le ze_1 hb2.size
    have qr0_2 := (hb2.cell (p := ⟨w0.heap.size + 1 + 1, 0, none⟩) zr_1).trans qr0_1
    have frr0_2 := (hb2.frozen (p := ⟨w0.heap.size + 1 + 1, 0, none⟩) zr_1).trans frr0_1
    have qr1_2 := (hb2.cell (p := ⟨w0.heap.size + 1 + 1, 1, none⟩) zr_1).trans qr1_1
    have frr1_2 := (hb2.frozen (p := ⟨w0.heap.size + 1 + 1, 1, none⟩) zr_1).trans frr1_1
    have zr_2 := Nat.lt_of_lt_of_le zr_1 hb2.size
    have R_2 := Lib.hid (R_1.out.keep hb2)
    clear R_1 qg0_1 qg1_1 zg_1 qe0_1 qe1_1 qe2_1 ze_1 frr0_1 frr1_1 qr0_1 qr1_1 zr_1
    go_wp2
    try simp only [Exit.inBlock, Exit.then]
    refine bodyPost_ret (v := .tuple #[.agg #[.int .i64 0, .slice none 0 0], .bool false]) ?_ rfl ?_
    · rw [results_cell_tmp rfl]
      go_simp
    exact ⟨_, rfl, ownE_nil _ _, okS_nil, (H2.setCell (by have := ZBr.out; simp only; omega) _).setCell (by have := ZBr.out; simp only; omega) _⟩
  rw [hg] at hgv
  have HV := Lib.hid hgv
  have hpl := pL_len es (x, y, z)
  have hv := putB_val hg (x, y, z)
  rw [insL_val hg (x, y, z)] at hlp
  have e1 : putN n es (x, y, z) = if gVal n (pL es (x, y, z)) = true then n else 0 := by unfold putN; rw [hv]
  have e2 : putL n es (x, y, z) = if gVal n (pL es (x, y, z)) = true then pL es (x, y, z) else [] := by unfold putL; rw [hv]
  rw [hv, e1, e2]
  generalize pL es (x, y, z) = L at hlp hpl ⊢
  have HP := Lib.hid hlp
  have hg2 := fun w s h => sGraphValid n L s w h (by omega)
  clear hgv hv e1 e2 hlp
  cases hb : gVal n L
  · rw [hb] at hg2
    have HW := Lib.hid hg2
    clear hg2
    rw [if_neg (by simp), if_neg (by simp)]
    obtain ⟨w0, hw0⟩ : ∃ w0, w0 = w := ⟨_, rfl⟩
    subst hw0
    have H0 := Below.refl w0.heap.size w0
    have R_0 := R
    clear R
    go_enter Try.func104, Try.ntmps104
    go_wp2_with fail
    have hb1 : Below w0.heap.size w0 (((w0.alloc (.cells #[.int .i64 n, .slice ad es.length cap] 25)).alloc (.cells #[.int .i64 x, .int .i64 y, .int .i64 z] 67)).alloc (.cells #[.int .i64 0, .slice none 0 0] 25)) := (((Below.refl _ _).alloc (by simp <;> omega) _).alloc (by simp <;> omega) _).alloc (by simp <;> omega) _
    have H1 := bel_trans H0 hb1
    have SZ1 := Lib.hid hb1.size
    have R_1 := Lib.hid (R_0.out.keep hb1)
    have qg0_1 : (((w0.alloc (.cells #[.int .i64 n, .slice ad es.length cap] 25)).alloc (.cells #[.int .i64 x, .int .i64 y, .int .i64 z] 67)).alloc (.cells #[.int .i64 0, .slice none 0 0] 25)).cell? ⟨w0.heap.size, 0, none⟩ = some (.int .i64 n) := by go_simp
    have qg1_1 : (((w0.alloc (.cells #[.int .i64 n, .slice ad es.length cap] 25)).alloc (.cells #[.int .i64 x, .int .i64 y, .int .i64 z] 67)).alloc (.cells #[.int .i64 0, .slice none 0 0] 25)).cell? ⟨w0.heap.size, 1, none⟩ = some (.slice ad es.length cap) := by go_simp
    have zg_1 : w0.heap.size < (((w0.alloc (.cells #[.int .i64 n, .slice ad es.length cap] 25)).alloc (.cells #[.int .i64 x, .int .i64 y, .int .i64 z] 67)).alloc (.cells #[.int .i64 0, .slice none 0 0] 25)).heap.size := by simp <;> omega
    have qe0_1 : (((w0.alloc (.cells #[.int .i64 n, .slice ad es.length cap] 25)).alloc (.cells #[.int .i64 x, .int .i64 y, .int .i64 z] 67)).alloc (.cells #[.int .i64 0, .slice none 0 0] 25)).cell? ⟨w0.heap.size + 1, 0, none⟩ = some (.int .i64 x) := by go_simp
    have qe1_1 : (((w0.alloc (.cells #[.int .i64 n, .slice ad es.length cap] 25)).alloc (.cells #[.int .i64 x, .int .i64 y, .int .i64 z] 67)).alloc (.cells #[.int .i64 0, .slice none 0 0] 25)).cell? ⟨w0.heap.size + 1, 1, none⟩ = some (.int .i64 y) := by go_simp
    have qe2_1 : (((w0.alloc (.cells #[.int .i64 n, .slice ad es.length cap] 25)).alloc (.cells #[.int .i64 x, .int .i64 y, .int .i64 z] 67)).alloc (.cells #[.int .i64 0, .slice none 0 0] 25)).cell? ⟨w0.heap.size + 1, 2, none⟩ = some (.int .i64 z) := by go_simp
    have ze_1 : w0.heap.size + 1 < (((w0.alloc (.cells #[.int .i64 n, .slice ad es.length cap] 25)).alloc (.cells #[.int .i64 x, .int .i64 y, .int .i64 z] 67)).alloc (.cells #[.int .i64 0, .slice none 0 0] 25)).heap.size := by simp <;> omega
    have frr0_1 : (((w0.alloc (.cells #[.int .i64 n, .slice ad es.length cap] 25)).alloc (.cells #[.int .i64 x, .int .i64 y, .int .i64 z] 67)).alloc (.cells #[.int .i64 0, .slice none 0 0] 25)).frozen? ⟨w0.heap.size + 1 + 1, 0, none⟩ = false := by go_simp
    have frr1_1 : (((w0.alloc (.cells #[.int .i64 n, .slice ad es.length cap] 25)).alloc (.cells #[.int .i64 x, .int .i64 y, .int .i64 z] 67)).alloc (.cells #[.int .i64 0, .slice none 0 0] 25)).frozen? ⟨w0.heap.size + 1 + 1, 1, none⟩ = false := by go_simp
    have qr0_1 : (((w0.alloc (.cells #[.int .i64 n, .slice ad es.length cap] 25)).alloc (.cells #[.int .i64 x, .int .i64 y, .int .i64 z] 67)).alloc (.cells #[.int .i64 0, .slice none 0 0] 25)).cell? ⟨w0.heap.size + 1 + 1, 0, none⟩ = some (.int .i64 0) := by go_simp
    have qr1_1 : (((w0.alloc (.cells #[.int .i64 n, .slice ad es.length cap] 25)).alloc (.cells #[.int .i64 x, .int .i64 y, .int .i64 z] 67)).alloc (.cells #[.int .i64 0, .slice none 0 0] 25)).cell? ⟨w0.heap.size + 1 + 1, 1, none⟩ = some (.slice none 0 0) := by go_simp
    have zr_1 : w0.heap.size + 1 + 1 < (((w0.alloc (.cells #[.int .i64 n, .slice ad es.length cap] 25)).alloc (.cells #[.int .i64 x, .int .i64 y, .int .i64 z] 67)).alloc (.cells #[.int .i64 0, .slice none 0 0] 25)).heap.size := by simp <;> omega
    generalize (((w0.alloc (.cells #[.int .i64 n, .slice ad es.length cap] 25)).alloc (.cells #[.int .i64 x, .int .i64 y, .int .i64 z] 67)).alloc (.cells #[.int .i64 0, .slice none 0 0] 25)) = w1 at hb1 H1 SZ1 R_1 frr0_1 frr1_1 qe0_1 qe1_1 qe2_1 qg0_1 qg1_1 qr0_1 qr1_1 ze_1 zg_1 zr_1 ⊢
    have ZBg := Lib.hid zg_1
    have ZBe := Lib.hid ze_1
    have ZBr := Lib.hid zr_1
    clear R_0
    refine (HV.out _ R_1.out.edges).mono ?_
    rintro e w2 ⟨rfl, hb2⟩
    have H2 := bel_trans H1 hb2
    have SZ2 := Lib.hid hb2.size
    have qg0_2 := (hb2.cell (p := ⟨w0.heap.size, 0, none⟩) zg_1).trans qg0_1
    have qg1_2 := (hb2.cell (p := ⟨w0.heap.size, 1, none⟩) zg_1).trans qg1_1
    have zg_2 := Nat.lt_of_lt_of_le zg_1 hb2.size
    have qe0_2 := (hb2.cell (p := ⟨w0.heap.size + 1, 0, none⟩) ze_1).trans qe0_1
    have qe1_2 := (hb2.cell (p := ⟨w0.heap.size + 1, 1, none⟩) ze_1).trans qe1_1
    have qe2_2 := (hb2.cell (p := ⟨w0.heap.size + 1, 2, none⟩) ze_1).trans qe2_1
    have ze_2 := Nat.lt_of_lt_of_le ze_1 hb2.size
    have qr0_2 := (hb2.cell (p := ⟨w0.heap.size + 1 + 1, 0, none⟩) zr_1).trans qr0_1
    have frr0_2 := (hb2.frozen (p := ⟨w0.heap.size + 1 + 1, 0, none⟩) zr_1).trans frr0_1
    have qr1_2 := (hb2.cell (p := ⟨w0.heap.size + 1 + 1, 1, none⟩) zr_1).trans qr1_1
    have frr1_2 := (hb2.frozen (p := ⟨w0.heap.size + 1 + 1, 1, none⟩) zr_1).trans frr1_1
    have zr_2 := Nat.lt_of_lt_of_le zr_1 hb2.size
    have R_2 := Lib.hid (R_1.out.keep hb2)
    clear R_1 qg0_1 qg1_1 zg_1 qe0_1 qe1_1 qe2_1 ze_1 frr0_1 frr1_1 qr0_1 qr1_1 zr_1
    go_wp2_with fail
    refine (HP.out _ R_2.out.edges).mono ?_
    rintro e w3 ⟨v, rfl, hown, hokv, hb3⟩
    have H3 := bel_trans H2 hb3
    have SZ3 := Lib.hid hb3.size
    have qg0_3 := (hb3.cell (p := ⟨w0.heap.size, 0, none⟩) zg_2).trans qg0_2
    have qg1_3 := (hb3.cell (p := ⟨w0.heap.size, 1, none⟩) zg_2).trans qg1_2
    have zg_3 := Nat.lt_of_lt_of_le zg_2 hb3.size
    have qe0_3 := (hb3.cell (p := ⟨w0.heap.size + 1, 0, none⟩) ze_2).trans qe0_2
    have qe1_3 := (hb3.cell (p := ⟨w0.heap.size + 1, 1, none⟩) ze_2).trans qe1_2
    have qe2_3 := (hb3.cell (p := ⟨w0.heap.size + 1, 2, none⟩) ze_2).trans qe2_2
    have ze_3 := Nat.lt_of_lt_of_le ze_2 hb3.size
    have qr0_3 := (hb3.cell (p := ⟨w0.heap.size + 1 + 1, 0, none⟩) zr_2).trans qr0_2
    have frr0_3 := (hb3.frozen (p := ⟨w0.heap.size + 1 + 1, 0, none⟩) zr_2).trans frr0_2
    have qr1_3 := (hb3.cell (p := ⟨w0.heap.size + 1 + 1, 1, none⟩) zr_2).trans qr1_2
    have frr1_3 := (hb3.frozen (p := ⟨w0.heap.size + 1 + 1, 1, none⟩) zr_2).trans frr1_2
    have zr_3 := Nat.lt_of_lt_of_le zr_2 hb3.size
    have R_3 := Lib.hid (R_2.out.keep hb3)
    obtain ⟨va, vc, rfl, hvz⟩ := id hown
    clear hvz
    have V_3 := Lib.hid (hown)
    clear qg0_2 qg1_2 zg_2 qe0_2 qe1_2 qe2_2 ze_2 qr0_2 frr0_2 qr1_2 frr1_2 zr_2 R_2
    clear hown
    go_wp2_with fail
    have hb4 : Below w3.heap.size w3 (w3.alloc (.cells #[.int .i64 n, .slice va L.length vc] 25)) := (Below.refl _ _).alloc (by simp <;> omega) _
    have H4 := bel_trans H3 hb4
    have SZ4 := Lib.hid hb4.size
    have qg0_4 := (hb4.cell (p := ⟨w0.heap.size, 0, none⟩) zg_3).trans qg0_3
    have qg1_4 := (hb4.cell (p := ⟨w0.heap.size, 1, none⟩) zg_3).trans qg1_3
    have zg_4 := Nat.lt_of_lt_of_le zg_3 hb4.size
    have qe0_4 := (hb4.cell (p := ⟨w0.heap.size + 1, 0, none⟩) ze_3).trans qe0_3
    have qe1_4 := (hb4.cell (p := ⟨w0.heap.size + 1, 1, none⟩) ze_3).trans qe1_3
    have qe2_4 := (hb4.cell (p := ⟨w0.heap.size + 1, 2, none⟩) ze_3).trans qe2_3
    have ze_4 := Nat.lt_of_lt_of_le ze_3 hb4.size
    have qr0_4 := (hb4.cell (p := ⟨w0.heap.size + 1 + 1, 0, none⟩) zr_3).trans qr0_3
    have frr0_4 := (hb4.frozen (p := ⟨w0.heap.size + 1 + 1, 0, none⟩) zr_3).trans frr0_3
    have qr1_4 := (hb4.cell (p := ⟨w0.heap.size + 1 + 1, 1, none⟩) zr_3).trans qr1_3
    have frr1_4 := (hb4.frozen (p := ⟨w0.heap.size + 1 + 1, 1, none⟩) zr_3).trans frr1_3
    have zr_4 := Nat.lt_of_lt_of_le zr_3 hb4.size
    have R_4 := Lib.hid (R_3.out.keep hb4)
    have V_4 := Lib.hid (V_3.out.keep hb4)
    have qo0_4 : (w3.alloc (.cells #[.int .i64 n, .slice va L.length vc] 25)).cell? ⟨w3.heap.size, 0, none⟩ = some (.int .i64 n) := by go_simp
    have qo1_4 : (w3.alloc (.cells #[.int .i64 n, .slice va L.length vc] 25)).cell? ⟨w3.heap.size, 1, none⟩ = some (.slice va L.length vc) := by go_simp
    have zo_4 : w3.heap.size < (w3.alloc (.cells #[.int .i64 n, .slice va L.length vc] 25)).heap.size := by simp <;> omega
    generalize (w3.alloc (.cells #[.int .i64 n, .slice va L.length vc] 25)) = w4 at hb4 H4 SZ4 R_4 V_4 frr0_4 frr1_4 qe0_4 qe1_4 qe2_4 qg0_4 qg1_4 qo0_4 qo1_4 qr0_4 qr1_4 ze_4 zg_4 zo_4 zr_4 ⊢
    have ZBo := Lib.hid zo_4
    clear qg0_3 qg1_3 zg_3 qe0_3 qe1_3 qe2_3 ze_3 qr0_3 frr0_3 qr1_3 frr1_3 zr_3 R_3 V_3
    refine (HW.out _ _ V_4.out.edges).mono ?_
    rintro e w5 ⟨rfl, hb5⟩
    have H5 := bel_trans H4 hb5
    have SZ5 := Lib.hid hb5.size
    have qg0_5 := (hb5.cell (p := ⟨w0.heap.size, 0, none⟩) zg_4).trans qg0_4
    have qg1_5 := (hb5.cell (p := ⟨w0.heap.size, 1, none⟩) zg_4).trans qg1_4
    have zg_5 := Nat.lt_of_lt_of_le zg_4 hb5.size
    have qe0_5 := (hb5.cell (p := ⟨w0.heap.size + 1, 0, none⟩) ze_4).trans qe0_4
    have qe1_5 := (hb5.cell (p := ⟨w0.heap.size + 1, 1, none⟩) ze_4).trans qe1_4
    have qe2_5 := (hb5.cell (p := ⟨w0.heap.size + 1, 2, none⟩) ze_4).trans qe2_4
    have ze_5 := Nat.lt_of_lt_of_le ze_4 hb5.size
    have qr0_5 := (hb5.cell (p := ⟨w0.heap.size + 1 + 1, 0, none⟩) zr_4).trans qr0_4
    have frr0_5 := (hb5.frozen (p := ⟨w0.heap.size + 1 + 1, 0, none⟩) zr_4).trans frr0_4
    have qr1_5 := (hb5.cell (p := ⟨w0.heap.size + 1 + 1, 1, none⟩) zr_4).trans qr1_4
    have frr1_5 := (hb5.frozen (p := ⟨w0.heap.size + 1 + 1, 1, none⟩) zr_4).trans frr1_4
    have zr_5 := Nat.lt_of_lt_of_le zr_4 hb5.size
    have qo0_5 := (hb5.cell (p := ⟨w3.heap.size, 0, none⟩) zo_4).trans qo0_4
    have qo1_5 := (hb5.cell (p := ⟨w3.heap.size, 1, none⟩) zo_4).trans qo1_4
    have zo_5 := Nat.lt_of_lt_of_le zo_4 hb5.size
    have R_5 := Lib.hid (R_4.out.keep hb5)
    have V_5 := Lib.hid (V_4.out.keep hb5)
    clear qg0_4 qg1_4 zg_4 qe0_4 qe1_4 qe2_4 ze_4 qr0_4 frr0_4 qr1_4 frr1_4 zr_4 R_4 V_4 qo0_4 qo1_4 zo_4
    go_wp2
    try simp only [Exit.inBlock, Exit.then]
    refine bodyPost_ret (v := .tuple #[.agg #[.int .i64 0, .slice none 0 0], .bool false]) ?_ rfl ?_
    · rw [results_cell_tmp rfl]
      go_simp
    exact ⟨_, rfl, ownE_nil _ _, okS_nil, (H5.setCell (by have := ZBr.out; simp only; omega) _).setCell (by have := ZBr.out; simp only; omega) _⟩
  · rw [hb] at hg2
    have HW := Lib.hid hg2
    clear hg2
    rw [if_pos rfl, if_pos rfl]
    obtain ⟨w0, hw0⟩ : ∃ w0, w0 = w := ⟨_, rfl⟩
    subst hw0
    have H0 := Below.refl w0.heap.size w0
    have R_0 := R
    clear R
    go_enter Try.func104, Try.ntmps104
    go_wp2_with fail
    have hb1 : Below w0.heap.size w0 (((w0.alloc (.cells #[.int .i64 n, .slice ad es.length cap] 25)).alloc (.cells #[.int .i64 x, .int .i64 y, .int .i64 z] 67)).alloc (.cells #[.int .i64 0, .slice none 0 0] 25)) := (((Below.refl _ _).alloc (by simp <;> omega) _).alloc (by simp <;> omega) _).alloc (by simp <;> omega) _
    have H1 := bel_trans H0 hb1
    have SZ1 := Lib.hid hb1.size
    have R_1 := Lib.hid (R_0.out.keep hb1)
    have qg0_1 : (((w0.alloc (.cells #[.int .i64 n, .slice ad es.length cap] 25)).alloc (.cells #[.int .i64 x, .int .i64 y, .int .i64 z] 67)).alloc (.cells #[.int .i64 0, .slice none 0 0] 25)).cell? ⟨w0.heap.size, 0, none⟩ = some (.int .i64 n) := by go_simp
    have qg1_1 : (((w0.alloc (.cells #[.int .i64 n, .slice ad es.length cap] 25)).alloc (.cells #[.int .i64 x, .int .i64 y, .int .i64 z] 67)).alloc (.cells #[.int .i64 0, .slice none 0 0] 25)).cell? ⟨w0.heap.size, 1, none⟩ = some (.slice ad es.length cap) := by go_simp
    have zg_1 : w0.heap.size < (((w0.alloc (.cells #[.int .i64 n, .slice ad es.length cap] 25)).alloc (.cells #[.int .i64 x, .int .i64 y, .int .i64 z] 67)).alloc (.cells #[.int .i64 0, .slice none 0 0] 25)).heap.size := by simp <;> omega
    have qe0_1 : (((w0.alloc (.cells #[.int .i64 n, .slice ad es.length cap] 25)).alloc (.cells #[.int .i64 x, .int .i64 y, .int .i64 z] 67)).alloc (.cells #[.int .i64 0, .slice none 0 0] 25)).cell? ⟨w0.heap.size + 1, 0, none⟩ = some (.int .i64 x) := by go_simp
    have qe1_1 : (((w0.alloc (.cells #[.int .i64 n, .slice ad es.length cap] 25)).alloc (.cells #[.int .i64 x, .int .i64 y, .int .i64 z] 67)).alloc (.cells #[.int .i64 0, .slice none 0 0] 25)).cell? ⟨w0.heap.size + 1, 1, none⟩ = some (.int .i64 y) := by go_simp
    have qe2_1 : (((w0.alloc (.cells #[.int .i64 n, .slice ad es.length cap] 25)).alloc (.cells #[.int .i64 x, .int .i64 y, .int .i64 z] 67)).alloc (.cells #[.int .i64 0, .slice none 0 0] 25)).cell? ⟨w0.heap.size + 1, 2, none⟩ = some (.int .i64 z) := by go_simp
    have ze_1 : w0.heap.size + 1 < (((w0.alloc (.cells #[.int .i64 n, .slice ad es.length cap] 25)).alloc (.cells #[.int .i64 x, .int .i64 y, .int .i64 z] 67)).alloc (.cells #[.int .i64 0, .slice none 0 0] 25)).heap.size := by simp <;> omega
    have frr0_1 : (((w0.alloc (.cells #[.int .i64 n, .slice ad es.length cap] 25)).alloc (.cells #[.int .i64 x, .int .i64 y, .int .i64 z] 67)).alloc (.cells #[.int .i64 0, .slice none 0 0] 25)).frozen? ⟨w0.heap.size + 1 + 1, 0, none⟩ = false := by go_simp
    have frr1_1 : (((w0.alloc (.cells #[.int .i64 n, .slice ad es.length cap] 25)).alloc (.cells #[.int .i64 x, .int .i64 y, .int .i64 z] 67)).alloc (.cells #[.int .i64 0, .slice none 0 0] 25)).frozen? ⟨w0.heap.size + 1 + 1, 1, none⟩ = false := by go_simp
    have qr0_1 : (((w0.alloc (.cells #[.int .i64 n, .slice ad es.length cap] 25)).alloc (.cells #[.int .i64 x, .int .i64 y, .int .i64 z] 67)).alloc (.cells #[.int .i64 0, .slice none 0 0] 25)).cell? ⟨w0.heap.size + 1 + 1, 0, none⟩ = some (.int .i64 0) := by go_simp
    have qr1_1 : (((w0.alloc (.cells #[.int .i64 n, .slice ad es.length cap] 25)).alloc (.cells #[.int .i64 x, .int .i64 y, .int .i64 z] 67)).alloc (.cells #[.int .i64 0, .slice none 0 0] 25)).cell? ⟨w0.heap.size + 1 + 1, 1, none⟩ = some (.slice none 0 0) := by go_simp
    have zr_1 : w0.heap.size + 1 + 1 < (((w0.alloc (.cells #[.int .i64 n, .slice ad es.length cap] 25)).alloc (.cells #[.int .i64 x, .int .i64 y, .int .i64 z] 67)).alloc (.cells #[.int .i64 0, .slice none 0 0] 25)).heap.size := by simp <;> omega
    generalize (((w0.alloc (.cells #[.int .i64 n, .slice ad es.length cap] 25)).alloc (.cells #[.int .i64 x, .int .i64 y, .int .i64 z] 67)).alloc (.cells #[.int .i64 0, .slice none 0 0] 25)) = w1 at hb1 H1 SZ1 R_1 frr0_1 frr1_1 qe0_1 qe1_1 qe2_1 qg0_1 qg1_1 qr0_1 qr1_1 ze_1 zg_1 zr_1 ⊢
    have ZBg := Lib.hid zg_1
    have ZBe := Lib.hid ze_1
    have ZBr := Lib.hid zr_1
    clear R_0
    refine (HV.out _ R_1.out.edges).mono ?_
    rintro e w2 ⟨rfl, hb2⟩
    have H2 := bel_trans H1 hb2
    have SZ2 := Lib.hid hb2.size
    have qg0_2 := (hb2.cell (p := ⟨w0.heap.size, 0, none⟩) zg_1).trans qg0_1
    have qg1_2 := (hb2.cell (p := ⟨w0.heap.size, 1, none⟩) zg_1).trans qg1_1
    have zg_2 := Nat.lt_of_lt_of_le zg_1 hb2.size
    have qe0_2 := (hb2.cell (p := ⟨w0.heap.size + 1, 0, none⟩) ze_1).trans qe0_1
    have qe1_2 := (hb2.cell (p := ⟨w0.heap.size + 1, 1, none⟩) ze_1).trans qe1_1
    have qe2_2 := (hb2.cell (p := ⟨w0.heap.size + 1, 2, none⟩) ze_1).trans qe2_1
    have ze_2 := Nat.lt_of_lt_of_le ze_1 hb2.size
    have qr0_2 := (hb2.cell (p := ⟨w0.heap.size + 1 + 1, 0, none⟩) zr_1).trans qr0_1
    have frr0_2 := (hb2.frozen (p := ⟨w0.heap.size + 1 + 1, 0, none⟩) zr_1).trans frr0_1
    have qr1_2 := (hb2.cell (p := ⟨w0.heap.size + 1 + 1, 1, none⟩) zr_1).trans qr1_1
    have frr1_2 := (hb2.frozen (p := ⟨w0.heap.size + 1 + 1, 1, none⟩) zr_1).trans frr1_1
    have zr_2 := Nat.lt_of_lt_of_le zr_1 hb2.size
    have R_2 := Lib.hid (R_1.out.keep hb2)
    clear R_1 qg0_1 qg1_1 zg_1 qe0_1 qe1_1 qe2_1 ze_1 frr0_1 frr1_1 qr0_1 qr1_1 zr_1
    go_wp2_with fail
    refine (HP.out _ R_2.out.edges).mono ?_
    rintro e w3 ⟨v, rfl, hown, hokv, hb3⟩
    have H3 := bel_trans H2 hb3
    have SZ3 := Lib.hid hb3.size
    have qg0_3 := (hb3.cell (p := ⟨w0.heap.size, 0, none⟩) zg_2).trans qg0_2
    have qg1_3 := (hb3.cell (p := ⟨w0.heap.size, 1, none⟩) zg_2).trans qg1_2
    have zg_3 := Nat.lt_of_lt_of_le zg_2 hb3.size
    have qe0_3 := (hb3.cell (p := ⟨w0.heap.size + 1, 0, none⟩) ze_2).trans qe0_2
    have qe1_3 := (hb3.cell (p := ⟨w0.heap.size + 1, 1, none⟩) ze_2).trans qe1_2
    have qe2_3 := (hb3.cell (p := ⟨w0.heap.size + 1, 2, none⟩) ze_2).trans qe2_2
    have ze_3 := Nat.lt_of_lt_of_le ze_2 hb3.size
    have qr0_3 := (hb3.cell (p := ⟨w0.heap.size + 1 + 1, 0, none⟩) zr_2).trans qr0_2
    have frr0_3 := (hb3.frozen (p := ⟨w0.heap.size + 1 + 1, 0, none⟩) zr_2).trans frr0_2
    have qr1_3 := (hb3.cell (p := ⟨w0.heap.size + 1 + 1, 1, none⟩) zr_2).trans qr1_2
    have frr1_3 := (hb3.frozen (p := ⟨w0.heap.size + 1 + 1, 1, none⟩) zr_2).trans frr1_2
    have zr_3 := Nat.lt_of_lt_of_le zr_2 hb3.size
    have R_3 := Lib.hid (R_2.out.keep hb3)
    obtain ⟨va, vc, rfl, hvz⟩ := id hown
    clear hvz
    have V_3 := Lib.hid (hown)
    clear qg0_2 qg1_2 zg_2 qe0_2 qe1_2 qe2_2 ze_2 qr0_2 frr0_2 qr1_2 frr1_2 zr_2 R_2
    clear hown
    go_wp2_with fail
    have hb4 : Below w3.heap.size w3 (w3.alloc (.cells #[.int .i64 n, .slice va L.length vc] 25)) := (Below.refl _ _).alloc (by simp <;> omega) _
    have H4 := bel_trans H3 hb4
    have SZ4 := Lib.hid hb4.size
    have qg0_4 := (hb4.cell (p := ⟨w0.heap.size, 0, none⟩) zg_3).trans qg0_3
    have qg1_4 := (hb4.cell (p := ⟨w0.heap.size, 1, none⟩) zg_3).trans qg1_3
    have zg_4 := Nat.lt_of_lt_of_le zg_3 hb4.size
    have qe0_4 := (hb4.cell (p := ⟨w0.heap.size + 1, 0, none⟩) ze_3).trans qe0_3
    have qe1_4 := (hb4.cell (p := ⟨w0.heap.size + 1, 1, none⟩) ze_3).trans qe1_3
    have qe2_4 := (hb4.cell (p := ⟨w0.heap.size + 1, 2, none⟩) ze_3).trans qe2_3
    have ze_4 := Nat.lt_of_lt_of_le ze_3 hb4.size
    have qr0_4 := (hb4.cell (p := ⟨w0.heap.size + 1 + 1, 0, none⟩) zr_3).trans qr0_3
    have frr0_4 := (hb4.frozen (p := ⟨w0.heap.size + 1 + 1, 0, none⟩) zr_3).trans frr0_3
    have qr1_4 := (hb4.cell (p := ⟨w0.heap.size + 1 + 1, 1, none⟩) zr_3).trans qr1_3
    have frr1_4 := (hb4.frozen (p := ⟨w0.heap.size + 1 + 1, 1, none⟩) zr_3).trans frr1_3
    have zr_4 := Nat.lt_of_lt_of_le zr_3 hb4.size
    have R_4 := Lib.hid (R_3.out.keep hb4)
    have V_4 := Lib.hid (V_3.out.keep hb4)
    have qo0_4 : (w3.alloc (.cells #[.int .i64 n, .slice va L.length vc] 25)).cell? ⟨w3.heap.size, 0, none⟩ = some (.int .i64 n) := by go_simp
    have qo1_4 : (w3.alloc (.cells #[.int .i64 n, .slice va L.length vc] 25)).cell? ⟨w3.heap.size, 1, none⟩ = some (.slice va L.length vc) := by go_simp
    have zo_4 : w3.heap.size < (w3.alloc (.cells #[.int .i64 n, .slice va L.length vc] 25)).heap.size := by simp <;> omega
    generalize (w3.alloc (.cells #[.int .i64 n, .slice va L.length vc] 25)) = w4 at hb4 H4 SZ4 R_4 V_4 frr0_4 frr1_4 qe0_4 qe1_4 qe2_4 qg0_4 qg1_4 qo0_4 qo1_4 qr0_4 qr1_4 ze_4 zg_4 zo_4 zr_4 ⊢
    have ZBo := Lib.hid zo_4
    clear qg0_3 qg1_3 zg_3 qe0_3 qe1_3 qe2_3 ze_3 qr0_3 frr0_3 qr1_3 frr1_3 zr_3 R_3 V_3
    refine (HW.out _ _ V_4.out.edges).mono ?_
    rintro e w5 ⟨rfl, hb5⟩
    have H5 := bel_trans H4 hb5
    have SZ5 := Lib.hid hb5.size
    have qg0_5 := (hb5.cell (p := ⟨w0.heap.size, 0, none⟩) zg_4).trans qg0_4
    have qg1_5 := (hb5.cell (p := ⟨w0.heap.size, 1, none⟩) zg_4).trans qg1_4
    have zg_5 := Nat.lt_of_lt_of_le zg_4 hb5.size
    have qe0_5 := (hb5.cell (p := ⟨w0.heap.size + 1, 0, none⟩) ze_4).trans qe0_4
    have qe1_5 := (hb5.cell (p := ⟨w0.heap.size + 1, 1, none⟩) ze_4).trans qe1_4
    have qe2_5 := (hb5.cell (p := ⟨w0.heap.size + 1, 2, none⟩) ze_4).trans qe2_4
    have ze_5 := Nat.lt_of_lt_of_le ze_4 hb5.size
    have qr0_5 := (hb5.cell (p := ⟨w0.heap.size + 1 + 1, 0, none⟩) zr_4).trans qr0_4
    have frr0_5 := (hb5.frozen (p := ⟨w0.heap.size + 1 + 1, 0, none⟩) zr_4).trans frr0_4
    have qr1_5 := (hb5.cell (p := ⟨w0.heap.size + 1 + 1, 1, none⟩) zr_4).trans qr1_4
    have frr1_5 := (hb5.frozen (p := ⟨w0.heap.size + 1 + 1, 1, none⟩) zr_4).trans frr1_4
    have zr_5 := Nat.lt_of_lt_of_le zr_4 hb5.size
    have qo0_5 := (hb5.cell (p := ⟨w3.heap.size, 0, none⟩) zo_4).trans qo0_4
    have qo1_5 := (hb5.cell (p := ⟨w3.heap.size, 1, none⟩) zo_4).trans qo1_4
    have zo_5 := Nat.lt_of_lt_of_le zo_4 hb5.size
    have R_5 := Lib.hid (R_4.out.keep hb5)
    have V_5 := Lib.hid (V_4.out.keep hb5)
    clear qg0_4 qg1_4 zg_4 qe0_4 qe1_4 qe2_4 ze_4 qr0_4 frr0_4 qr1_4 frr1_4 zr_4 R_4 V_4 qo0_4 qo1_4 zo_4
    go_wp2
    try simp only [Exit.inBlock, Exit.then]
    refine bodyPost_ret (v := .tuple #[.agg #[.int .i64 n, .slice va L.length vc], .bool true]) ?_ rfl ?_
    · rw [results_cell_tmp rfl]
      go_simp
    have hch : Chg (w0.heap.size + 2) (w0.heap.size + 3) w5 ((w5.setCell ⟨w0.heap.size + 1 + 1, 0, none⟩ (.int .i64 n)).setCell ⟨w0.heap.size + 1 + 1, 1, none⟩ (.slice va L.length vc)) := ((Chg.refl _ _ _).setCell (by simp only; omega) (by simp only; omega) _).setCell (by simp only; omega) (by simp only; omega) _
    exact ⟨.slice va L.length vc, rfl, ((V_5.out.chg hch (.inl (by have := ZBr.out; have := SZ2.out; omega))).wider (by have := SZ2.out; have := SZ1.out; omega) (by simp; have := SZ5.out; have := SZ4.out; omega) (Nat.le_refl _)), hokv, bel_chg H5 hch (by omega)⟩
end Go.Proofs.Ytlgjcofpdaljnaa
