/- l2Cut of the model: a graph without an edge. CutEdge of the program. CutEdge of the model. An edge put into its place: mathematics. When a graph with an edge put into its place is valid. l2Put of the model. PutEdge of the model. -/
import Derived.Test.YtneapbggnnndhaaGreatPutM
import Derived.Test.YtneapbggnnndhaaGreatBoxes
import Derived.Test.YtneapbggnnndhaaGreatFind3
import Derived.Deep.RegionLaw
namespace Go.Proofs.YtneapbggnnndhaaGreat
open Go.RowKit Go.BigFrame Go.Deep
set_option linter.unusedVariables false
set_option linter.unusedSimpArgs false


theorem cells_new3 (w : World) (p q r : Value) (t : TypeId) : ∀ j u, [p, q, r][j]? = some u → ((w.alloc (.cells #[p, q, r] t)).drew).cell? (Addr.add ⟨w.heap.size, 0, none⟩ j) = some u := by
  intro j u h
  have hn : (w.alloc (.cells #[p, q, r] t)).heap[w.heap.size]? = some (.cells #[p, q, r] t (0, 0)) := blk_alloc_new _ _
  have hc : ((w.alloc (.cells #[p, q, r] t)).drew).cell? ⟨w.heap.size, j, none⟩ = #[p, q, r][j]? := by
    show (w.alloc (.cells #[p, q, r] t)).cell? ⟨w.heap.size, j, none⟩ = _
    unfold World.cell?
    simp only [hn]
    simp
  have ha : Addr.add ⟨w.heap.size, 0, none⟩ j = ⟨w.heap.size, j, none⟩ := by rw [Go.WideShapes.add_plain, Nat.zero_add]
  rw [ha, hc]
  simpa using h

/-- The edges without those between two ends. -/
def cutL (es : List Ed) (a b : Int) : List Ed := es.filter (fun e => !(eBe a b e))
theorem cutL_take (es : List Ed) (a b : Int) {k : Nat} (hk : k < es.length) : cutL (es.take (k + 1)) a b = cutL (es.take k) a b ++ (if eBe a b (es.getD k (0, 0, 0)) = true then [] else [es.getD k (0, 0, 0)]) := by
  have : es.take (k + 1) = es.take k ++ [es.getD k (0, 0, 0)] := by rw [List.take_succ_eq_append_getElem hk]; simp [List.getD, hk]
  rw [this]
  generalize es.getD k (0, 0, 0) = e
  unfold cutL
  rw [List.filter_append]
  congr 1
  by_cases h : eBe a b e = true <;> simp [List.filter_cons, h]
theorem cutL_len (es : List Ed) (a b : Int) : (cutL es a b).length ≤ es.length := by
  unfold cutL; exact List.length_filter_le _ _
/-- A block that is a graph's box. -/
def BoxG (w : World) (B : Nat) (t : TypeId) (n : Int) (v : Value) : Prop := w.heap[B]? = some (.cells #[.int .i64 n, v] t (0, 0))
theorem BoxG.cells {w : World} {B : Nat} {t : TypeId} {n : Int} {v : Value} (h : BoxG w B t n v) : w.cell? ⟨B, 0, none⟩ = some (.int .i64 n) ∧ w.cell? ⟨B, 1, none⟩ = some v ∧ w.frozen? ⟨B, 0, none⟩ = false ∧ w.frozen? ⟨B, 1, none⟩ = false ∧ B < w.heap.size := by
  unfold BoxG at h
  exact ⟨by simp [World.cell?, h], by simp [World.cell?, h], by simp [World.frozen?, h], by simp [World.frozen?, h], (Array.getElem?_eq_some_iff.1 h).1⟩
theorem BoxG.keep {w w' : World} {B : Nat} {t : TypeId} {n : Int} {v : Value} (h : BoxG w B t n v) (hb : Below w.heap.size w w') : BoxG w' B t n v := (hb.block B h.cells.2.2.2.2).trans h
theorem BoxG.alloc {w : World} {B : Nat} {t : TypeId} {n : Int} {v : Value} (h : BoxG w B t n v) (o : Obj) : BoxG (w.alloc o) B t n v := h.keep ((Below.refl _ _).alloc (Nat.le_refl _) _)
theorem BoxG.set {w : World} {B : Nat} {t : TypeId} {n : Int} {v : Value} (h : BoxG w B t n v) (v' : Value) : BoxG (w.setCell ⟨B, 1, none⟩ v') B t n v' := by
  unfold BoxG at *
  simp [World.setCell, Array.getElem?_modify, h]
theorem BoxG.set0 {w : World} {B : Nat} {t : TypeId} {n : Int} {v : Value} (h : BoxG w B t n v) (m : Int) : BoxG (w.setCell ⟨B, 0, none⟩ (.int .i64 m)) B t m v := by
  unfold BoxG at *
  simp [World.setCell, Array.getElem?_modify, h]
theorem BoxG.setOther {w : World} {B B' : Nat} {t : TypeId} {n : Int} {v : Value} (h : BoxG w B t n v) (hne : B ≠ B') (o : Nat) (u : Value) : BoxG (w.setCell ⟨B', o, none⟩ u) B t n v := by
  unfold BoxG at *
  rw [← h]
  exact Below.heap_setCell w ⟨B', o, none⟩ u B hne
theorem BoxG.new (w : World) (t : TypeId) (n : Int) (v : Value) : BoxG (w.alloc (.cells #[.int .i64 n, v] t)) w.heap.size t n v := blk_alloc_new _ _
theorem BoxG.grown {w w' : World} {B : Nat} {t e : TypeId} {n : Int} {v u : Value} {base sz m : Nat} {xs : List Value} (h : BoxG w B t n v) (hg : w.grownBy w' u.ownBlock) (ho : w.ownsRow base e sz u m xs) (hne : e ≠ t) : BoxG w' B t n v := by
  unfold BoxG at *
  rw [← h]
  refine hg.block B (Array.getElem?_eq_some_iff.1 h).1 (fun hb => ?_)
  rcases ho.2 with ⟨rfl, _⟩ | ⟨g, cap, cur, rfl, _, hgg, _⟩
  · simp [Value.ownBlock] at hb
  · simp [Value.ownBlock] at hb
    subst hb
    rw [h] at hgg
    simp at hgg
    exact hne hgg.2.symm
theorem own_setCell {w : World} {base : Nat} {e t : TypeId} {sz m : Nat} {u v v' : Value} {n : Int} {xs : List Value} {B : Nat} {o : Nat} (h : BoxG w B t n v) (ho : w.ownsRow base e sz u m xs) (hne : e ≠ t) : (w.setCell ⟨B, o, none⟩ v').ownsRow base e sz u m xs := by
  obtain ⟨hl, ho⟩ := ho
  refine ⟨hl, ?_⟩
  rcases ho with ho | ⟨g, cap, cur, rfl, hb, hgg, rest⟩
  · exact .inl ho
  · refine .inr ⟨g, cap, cur, rfl, hb, ?_, rest⟩
    rw [← hgg]
    refine Below.heap_setCell w ⟨B, o, none⟩ v' g (fun hb => ?_)
    simp only at hb
    subst hb
    unfold BoxG at h
    rw [h] at hgg
    simp at hgg
    exact hne hgg.2.symm
theorem cellsE_one1 (x y z : Int) : cellsE [(x, y, z)] = [.int .i64 x, .int .i64 y, .int .i64 z] := by
  simp [cellsE, cellE, List.range_succ]
/-- One edge more in a box's row. -/
theorem own_more {w6 : World} {base B : Nat} {t : TypeId} {n : Int} {v v' : Value} {es fs : List Ed} {x y z : Int} (h : w6.ownsRow base 67 3 v' (es.length + 1) (cellsE es ++ [.int .i64 x, .int .i64 y, .int .i64 z])) (hf : fs = es ++ [(x, y, z)]) (hb : BoxG w6 B t n v) (hne : 67 ≠ t) (u : Value) :
    (w6.setCell ⟨B, 1, none⟩ u).ownsRow base 67 3 v' fs.length (cellsE fs) := by
  rw [hf, List.length_append, cellsE_app, cellsE_one1]
  exact own_setCell hb h hne
theorem own_empty3 (w : World) (t : TypeId) (sz B : Nat) (hB : B ≤ w.heap.size) : (w.alloc (Obj.cells #[] t)).ownsRow B t sz (.slice (some ⟨w.heap.size, 0, none⟩) 0 0) 0 [] :=
  ⟨by simp, .inr ⟨w.heap.size, 0, #[], rfl, hB, blk_alloc_new _ _, Nat.le_refl _, by unfold maxLen; omega, by simp, by simp⟩⟩

end Go.Proofs.YtneapbggnnndhaaGreat
namespace Go.Proofs.YtneapbggnnndhaaGreat
open Go.RowKit Go.BigFrame Go.Deep
set_option linter.unusedVariables false
set_option linter.unusedSimpArgs false

/-- The edges without the one in a place. -/
def kL (es : List Ed) (a b : Int) : List Ed := es.take (lbE es a b) ++ es.drop (lbE es a b + 1)
def kB (n : Int) (es : List Ed) (a b : Int) : Bool := gVal n es && fdE es a b
def kN (n : Int) (es : List Ed) (a b : Int) : Int := if kB n es a b = true then n else 0
def kR (n : Int) (es : List Ed) (a b : Int) : List Ed := if kB n es a b = true then kL es a b else []

end Go.Proofs.YtneapbggnnndhaaGreat
namespace Go.Proofs.YtneapbggnnndhaaGreat
open Go.RowKit Go.BigFrame Go.Deep
set_option linter.unusedVariables false
set_option linter.unusedSimpArgs false

theorem cutL_val {n : Int} {es : List Ed} (hg : gVal n es = true) {a b : Int} (hf : fdE es a b = true) : cutL es a b = kL es a b := by
  have hlt : lbE es a b < es.length := by unfold fdE at hf; simp at hf; exact hf.1
  have hat : eBe a b (es.getD (lbE es a b) (0, 0, 0)) = true := by unfold fdE at hf; rw [← eBe_iff] at hf; simp at hf; simpa [List.getD, hlt] using hf.2
  have hsplit : es = es.take (lbE es a b) ++ es.getD (lbE es a b) (0, 0, 0) :: es.drop (lbE es a b + 1) := by
    have h1 : es.drop (lbE es a b) = es.getD (lbE es a b) (0, 0, 0) :: es.drop (lbE es a b + 1) := by
      rw [List.drop_eq_getElem_cons hlt]; simp [List.getD, hlt]
    rw [← h1, List.take_append_drop]
  unfold kL cutL
  conv => lhs; rw [hsplit]
  rw [List.filter_append, List.filter_cons, hat]
  congr 1
  · rw [List.filter_eq_self]
    intro e he
    obtain ⟨i, hi, rfl⟩ := List.getElem_of_mem he
    rw [List.length_take] at hi
    have := eBe_lt (lbE_lt (es := es) (a := a) (b := b) (i := i) (by omega))
    rw [List.getElem_take]
    simpa [List.getD, (by omega : i < es.length)] using this
  · simp only [Bool.not_true, Bool.false_eq_true, if_false]
    rw [List.filter_eq_self]
    intro e he
    obtain ⟨i, hi, rfl⟩ := List.getElem_of_mem he
    rw [List.length_drop] at hi
    have ho := gVal_sorted hg (show lbE es a b < lbE es a b + 1 + i by omega) (by omega)
    rw [List.getElem_drop]
    unfold eBe at hat ⊢
    simp only [Bool.and_eq_true, decide_eq_true_eq] at hat
    unfold EdLt at ho
    have e1 : es.getD (lbE es a b + 1 + i) (0, 0, 0) = es[lbE es a b + 1 + i] := by simp [List.getD, (by omega : lbE es a b + 1 + i < es.length)]
    rw [e1] at ho
    by_cases h1 : es[lbE es a b + 1 + i].1 = a <;> by_cases h2 : es[lbE es a b + 1 + i].2.1 = b <;> simp [h1, h2] <;> omega

end Go.Proofs.YtneapbggnnndhaaGreat
namespace Go.Proofs.YtneapbggnnndhaaGreat
open Go.RowKit Go.BigFrame Go.Deep
set_option linter.unusedVariables false
set_option linter.unusedSimpArgs false

/-- Is an edge in front of another one? -/
def edB (e d : Ed) : Bool := sLess e.1 e.2.1 d.1 d.2.1
/-- One round: what has been put out, and whether the edge is in it. -/
def insS (e : Ed) (s : List Ed × Bool) (d : Ed) : List Ed × Bool := if s.2 = false ∧ edB e d = true then (s.1 ++ [e] ++ [d], true) else (s.1 ++ [d], s.2)
def insF (e : Ed) (l : List Ed) : List Ed × Bool := l.foldl (insS e) ([], false)
def insL (e : Ed) (l : List Ed) : List Ed := if (insF e l).2 = true then (insF e l).1 else (insF e l).1 ++ [e]
theorem insF_snoc (e : Ed) (l : List Ed) {k : Nat} (hk : k < l.length) : insF e (l.take (k + 1)) = insS e (insF e (l.take k)) (l.getD k (0, 0, 0)) := by
  have : l.take (k + 1) = l.take k ++ [l.getD k (0, 0, 0)] := by rw [List.take_succ_eq_append_getElem hk]; simp [List.getD, hk]
  rw [this]
  unfold insF
  rw [List.foldl_append]
  rfl
theorem insF_len (e : Ed) (l : List Ed) : (insF e l).1.length ≤ l.length + 1 ∧ ((insF e l).2 = false → (insF e l).1.length ≤ l.length) := by
  have key : ∀ (l : List Ed) (s : List Ed × Bool) (m : Nat), s.1.length ≤ m + 1 → (s.2 = false → s.1.length ≤ m) → ((l.foldl (insS e) s).1.length ≤ m + l.length + 1 ∧ ((l.foldl (insS e) s).2 = false → (l.foldl (insS e) s).1.length ≤ m + l.length)) := by
    intro l
    induction l with
    | nil => intro s m h1 h2; exact ⟨by simpa using h1, by simpa using h2⟩
    | cons d l ih =>
      intro s m h1 h2
      have := ih (insS e s d) (m + 1) (by
        unfold insS
        split
        · have := h2 (by rename_i h; exact h.1)
          simp; omega
        · simp; omega) (by
        unfold insS
        split
        · intro h; simp at h
        · intro h
          have := h2 h
          simp; omega)
      rw [List.foldl_cons, List.length_cons]
      constructor
      · have := this.1; omega
      · intro h; have := this.2 h; omega
  have := key l ([], false) 0 (by simp) (by simp)
  unfold insF
  simpa using this
theorem fold_done (e : Ed) (l p : List Ed) : l.foldl (insS e) (p, true) = (p ++ l, true) := by
  induction l generalizing p with
  | nil => simp
  | cons d l ih => rw [List.foldl_cons]; simp [insS, ih]
theorem fold_skip (e : Ed) (l p : List Ed) (h : ∀ d ∈ l, edB e d = false) : l.foldl (insS e) (p, false) = (p ++ l, false) := by
  induction l generalizing p with
  | nil => simp
  | cons d l ih =>
    have hd := h d (by simp)
    rw [List.foldl_cons]
    have : insS e (p, false) d = (p ++ [d], false) := by simp [insS, hd]
    rw [this, ih (p ++ [d]) (fun x hx => h x (by simp [hx]))]
    simp
theorem insL_split (e : Ed) (l1 l2 : List Ed) (h1 : ∀ d ∈ l1, edB e d = false) (h2 : ∀ d l, l2 = d :: l → edB e d = true) : insL e (l1 ++ l2) = l1 ++ e :: l2 := by
  have hf : insF e (l1 ++ l2) = l2.foldl (insS e) (l1, false) := by unfold insF; rw [List.foldl_append, fold_skip e l1 [] h1]; simp
  cases l2 with
  | nil => unfold insL; rw [hf]; simp
  | cons d l =>
    have hd := h2 d l rfl
    have : insF e (l1 ++ d :: l) = (l1 ++ [e] ++ [d] ++ l, true) := by
      rw [hf, List.foldl_cons]
      have : insS e (l1, false) d = (l1 ++ [e] ++ [d], true) := by simp [insS, hd]
      rw [this, fold_done]
    unfold insL
    rw [this]
    simp
theorem edB_iff {e d : Ed} : edB e d = true ↔ EdLt e d := by
  unfold edB EdLt
  rw [sLess_eq, decide_eq_true_eq, cEnds_lt]
/-- In a valid graph, an edge is put where its place is. -/
theorem insL_val {n : Int} {es : List Ed} (hg : gVal n es = true) (e : Ed) : insL e (cutL es e.1 e.2.1) = pL es e := by
  have hcut : cutL es e.1 e.2.1 = es.take (lbE es e.1 e.2.1) ++ es.drop (lbE es e.1 e.2.1 + fdN es e.1 e.2.1) := by
    cases hf : fdE es e.1 e.2.1
    · have h0 : fdN es e.1 e.2.1 = 0 := by simp [fdN, hf]
      rw [h0, Nat.add_zero, List.take_append_drop]
      unfold cutL
      rw [List.filter_eq_self]
      intro d hd
      obtain ⟨i, hi, rfl⟩ := List.getElem_of_mem hd
      have hl := lfE_val hg e.1 e.2.1
      rw [hf] at hl
      simp only [Bool.false_eq_true, if_false] at hl
      unfold lfE at hl
      split at hl
      · omega
      · rename_i h
        rw [List.findIdx?_eq_none_iff] at h
        simpa using h _ (List.getElem_mem hi)
    · rw [cutL_val hg hf]
      unfold kL
      simp [fdN, hf]
  rw [hcut]
  unfold pL
  apply insL_split
  · intro d hd
    obtain ⟨i, hi, rfl⟩ := List.getElem_of_mem hd
    rw [List.length_take] at hi
    have hlt := lbE_lt (es := es) (a := e.1) (b := e.2.1) (i := i) (by omega)
    rw [eLt_iff] at hlt
    rw [List.getElem_take]
    have e1 : es.getD i (0, 0, 0) = es[i]'(by omega) := by simp [List.getD, (by omega : i < es.length)]
    rw [e1] at hlt
    apply Bool.eq_false_iff.2
    intro h
    rw [edB_iff] at h
    unfold EdLt at h
    omega
  · intro d l hl
    have hlen : lbE es e.1 e.2.1 + fdN es e.1 e.2.1 < es.length := by
      have : (es.drop (lbE es e.1 e.2.1 + fdN es e.1 e.2.1)).length = (d :: l).length := by rw [hl]
      rw [List.length_drop, List.length_cons] at this
      omega
    have hd : d = es.getD (lbE es e.1 e.2.1 + fdN es e.1 e.2.1) (0, 0, 0) := by
      have : (es.drop (lbE es e.1 e.2.1 + fdN es e.1 e.2.1))[0]? = some d := by rw [hl]; rfl
      rw [List.getElem?_drop, Nat.add_zero] at this
      simp [List.getD, this]
    rw [hd, edB_iff]
    have hlb : lbE es e.1 e.2.1 < es.length := by omega
    have hst := lbE_stop hlb
    have hst2 : ¬ eLt e.1 e.2.1 (es.getD (lbE es e.1 e.2.1) (0, 0, 0)) = true := by rw [hst]; simp
    rw [eLt_iff] at hst2
    cases hf : fdE es e.1 e.2.1
    · have h0 : fdN es e.1 e.2.1 = 0 := by simp [fdN, hf]
      rw [h0, Nat.add_zero]
      unfold fdE at hf
      rw [decide_eq_true hlb, Bool.true_and] at hf
      have hne : ¬ cEnds (es.getD (lbE es e.1 e.2.1) (0, 0, 0)).1 (es.getD (lbE es e.1 e.2.1) (0, 0, 0)).2.1 e.1 e.2.1 = 0 := by simpa using hf
      rw [cEnds_eq] at hne
      unfold EdLt
      omega
    · have h1 : fdN es e.1 e.2.1 = 1 := by simp [fdN, hf]
      rw [h1] at hlen ⊢
      have ho := gVal_next hg hlen
      unfold fdE at hf
      rw [decide_eq_true hlb, Bool.true_and, decide_eq_true_eq, cEnds_eq] at hf
      unfold EdLt at *
      omega
end Go.Proofs.YtneapbggnnndhaaGreat
namespace Go.Proofs.YtneapbggnnndhaaGreat
open Go.RowKit Go.BigFrame Go.Deep
set_option linter.unusedVariables false
set_option linter.unusedSimpArgs false

theorem gVal_iff {n : Int} {L : List Ed} : gVal n L = true ↔ (1 ≤ n ∧ n ≤ 12 ∧ L.length ≤ 40) ∧ (∀ d ∈ L, eFits n d.1 d.2.1 d.2.2 = true) ∧ L.Pairwise EdLt := by
  constructor
  · intro h
    have hp := gVal_parts h
    refine ⟨⟨hp.1, hp.2.1, hp.2.2.1⟩, ?_, ?_⟩
    · intro d hd
      obtain ⟨i, hi, rfl⟩ := List.getElem_of_mem hd
      have := gVal_fits h hi
      simpa [List.getD, hi] using this
    · rw [List.pairwise_iff_getElem]
      intro i j hi hj hij
      have := gVal_sorted h hij hj
      simpa [List.getD, hi, hj] using this
  · rintro ⟨⟨h1, h2, h3⟩, hf, hp⟩
    rw [List.pairwise_iff_getElem] at hp
    simp only [gVal, Bool.and_eq_true, decide_eq_true_eq, List.all_eq_true, List.mem_range]
    refine ⟨⟨h1, h2⟩, h3, fun i hi => ?_⟩
    have h0 := hf _ (List.getElem_mem hi)
    have e0 : L.getD i (0, 0, 0) = L[i] := by simp [List.getD, hi]
    simp only [okAt, e0, h0, Bool.true_and, Bool.or_eq_true, decide_eq_true_eq]
    by_cases hz : i = 0
    · exact .inl hz
    · right
      have hi1 : i - 1 < L.length := by omega
      have e1 : L.getD (i - 1) (0, 0, 0) = L[i - 1] := by simp [List.getD, hi1]
      rw [e1]
      exact cEnds_lt.2 (hp (i - 1) i hi1 hi (by omega))

theorem pL_mem {es : List Ed} {e d : Ed} (h : d ∈ pL es e) : d = e ∨ d ∈ es := by
  unfold pL at h
  simp only [List.mem_append, List.mem_cons] at h
  rcases h with h | h | h
  · exact .inr (List.mem_of_mem_take h)
  · exact .inl h
  · exact .inr (List.mem_of_mem_drop h)
theorem pL_sorted {n : Int} {es : List Ed} (hg : gVal n es = true) (e : Ed) : (pL es e).Pairwise EdLt := by
  have hs := (gVal_iff.1 hg).2.2
  unfold pL
  rw [List.pairwise_append]
  have hbefore : ∀ d ∈ es.take (lbE es e.1 e.2.1), EdLt d e := by
    intro d hd
    obtain ⟨i, hi, rfl⟩ := List.getElem_of_mem hd
    rw [List.length_take] at hi
    have hlt := lbE_lt (es := es) (a := e.1) (b := e.2.1) (i := i) (by omega)
    rw [eLt_iff] at hlt
    rw [List.getElem_take]
    have e1 : es.getD i (0, 0, 0) = es[i]'(by omega) := by simp [List.getD, (by omega : i < es.length)]
    rw [e1] at hlt
    unfold EdLt
    omega
  have hbehind : ∀ d ∈ es.drop (lbE es e.1 e.2.1 + fdN es e.1 e.2.1), EdLt e d := by
    intro d hd
    obtain ⟨i, hi, rfl⟩ := List.getElem_of_mem hd
    rw [List.length_drop] at hi
    rw [List.getElem_drop]
    have hlb : lbE es e.1 e.2.1 < es.length := by omega
    have hst := lbE_stop hlb
    have hst2 : ¬ eLt e.1 e.2.1 (es.getD (lbE es e.1 e.2.1) (0, 0, 0)) = true := by rw [hst]; simp
    rw [eLt_iff] at hst2
    have e1 : es.getD (lbE es e.1 e.2.1 + fdN es e.1 e.2.1 + i) (0, 0, 0) = es[lbE es e.1 e.2.1 + fdN es e.1 e.2.1 + i] := by simp [List.getD, (by omega : lbE es e.1 e.2.1 + fdN es e.1 e.2.1 + i < es.length)]
    rw [← e1]
    cases hf : fdE es e.1 e.2.1
    · have h0 : fdN es e.1 e.2.1 = 0 := by simp [fdN, hf]
      rw [h0, Nat.add_zero] at hi ⊢
      unfold fdE at hf
      rw [decide_eq_true hlb, Bool.true_and] at hf
      have hne : ¬ cEnds (es.getD (lbE es e.1 e.2.1) (0, 0, 0)).1 (es.getD (lbE es e.1 e.2.1) (0, 0, 0)).2.1 e.1 e.2.1 = 0 := by simpa using hf
      rw [cEnds_eq] at hne
      by_cases hi0 : i = 0
      · subst hi0
        rw [Nat.add_zero]
        unfold EdLt; omega
      · have ho := gVal_sorted hg (show lbE es e.1 e.2.1 < lbE es e.1 e.2.1 + i by omega) (by omega)
        unfold EdLt at *; omega
    · have h1 : fdN es e.1 e.2.1 = 1 := by simp [fdN, hf]
      rw [h1] at hi ⊢
      have ho := gVal_sorted hg (show lbE es e.1 e.2.1 < lbE es e.1 e.2.1 + 1 + i by omega) (by omega)
      unfold fdE at hf
      rw [decide_eq_true hlb, Bool.true_and, decide_eq_true_eq, cEnds_eq] at hf
      unfold EdLt at *
      omega
  refine ⟨hs.sublist (List.take_sublist _ _), ?_, ?_⟩
  · rw [List.pairwise_cons]
    exact ⟨hbehind, hs.sublist (List.drop_sublist _ _)⟩
  · intro a ha b hb
    rw [List.mem_cons] at hb
    rcases hb with rfl | hb
    · exact hbefore a ha
    · exact (hbefore a ha).trans (hbehind b hb)
theorem gVal_put {n : Int} {es : List Ed} (hg : gVal n es = true) (e : Ed) : gVal n (pL es e) = (eFits n e.1 e.2.1 e.2.2 && decide ((pL es e).length ≤ 40)) := by
  rw [Bool.eq_iff_iff, gVal_iff, Bool.and_eq_true, decide_eq_true_eq]
  have h := gVal_iff.1 hg
  constructor
  · rintro ⟨⟨_, _, h3⟩, hf, _⟩
    exact ⟨hf e (by unfold pL; simp), h3⟩
  · rintro ⟨hf, h3⟩
    refine ⟨⟨h.1.1, h.1.2.1, h3⟩, ?_, pL_sorted hg e⟩
    intro d hd
    rcases pL_mem hd with rfl | hd
    · exact hf
    · exact h.2.1 d hd
end Go.Proofs.YtneapbggnnndhaaGreat
namespace Go.Proofs.YtneapbggnnndhaaGreat
open Go.RowKit Go.BigFrame Go.Deep
set_option linter.unusedVariables false
set_option linter.unusedSimpArgs false

theorem Chg.of_grown {w w' : World} {u : Value} {base : Nat} {e : TypeId} {sz m : Nat} {xs : List Value} (hg : w.grownBy w' u.ownBlock) (ho : w.ownsRow base e sz u m xs) : Chg base w.heap.size w w' :=
  ⟨hg.os, hg.tape, hg.output, hg.size, fun k hk hd => hg.block k hk (fun h => by have := (ho.lt k h.symm).1; omega)⟩
theorem BoxG.chg {w w' : World} {B lo hi : Nat} {t : TypeId} {n : Int} {v : Value} (h : BoxG w B t n v) (c : Chg lo hi w w') (d : B < lo ∨ hi ≤ B) : BoxG w' B t n v := (c.block B h.cells.2.2.2.2 d).trans h
/-- What holds in each round of l2Put: B is the old graph's box, w0 the world at the start. -/
structure PutR (w0 wr : World) (B : Nat) (n x y z : Int) (vao : Option Addr) (vco : Nat) (old : List Ed) (L : List Ed) (v : Value) : Prop where
  bel : Below w0.heap.size w0 wr
  lo : w0.heap.size + 3 ≤ B
  box : BoxG wr (B + 1 + 1) 35 n v
  own : wr.ownsRow (B + 1) 67 3 v L.length (cellsE L)
  obox : BoxG wr B 35 n (.slice vao old.length vco)
  rbox : BoxG wr (w0.heap.size + 1 + 1) 35 0 (.slice none 0 0)
  e0 : wr.cell? ⟨w0.heap.size + 1, 0, none⟩ = some (.int .i64 x)
  e1 : wr.cell? ⟨w0.heap.size + 1, 1, none⟩ = some (.int .i64 y)
  e2 : wr.cell? ⟨w0.heap.size + 1, 2, none⟩ = some (.int .i64 z)
  row : InR true wr 0 B (.slice vao old.length vco) old.length 3 (cellE old)
section
variable {w0 wr : World} {B : Nat} {n x y z : Int} {vao : Option Addr} {vco : Nat} {old L : List Ed} {v : Value}
theorem PutR.below {w' : World} (h : PutR w0 wr B n x y z vao vco old L v) (hb : Below wr.heap.size wr w') : PutR w0 w' B n x y z vao vco old L v := by
  have hs := h.obox.cells.2.2.2.2
  have hlo := h.lo
  exact ⟨bel_trans h.bel hb, h.lo, h.box.keep hb, own_keep3 h.own hb, h.obox.keep hb, h.rbox.keep hb, (hb.cell (p := ⟨_, 0, none⟩) (by simp only; omega)).trans h.e0, (hb.cell (p := ⟨_, 1, none⟩) (by simp only; omega)).trans h.e1, (hb.cell (p := ⟨_, 2, none⟩) (by simp only; omega)).trans h.e2, h.row.keep hb⟩
/-- One edge more: the row has grown in w6, and has been stored. -/
theorem PutR.more {W1 w6 : World} {v' : Value} {d : Ed} (h : PutR w0 wr B n x y z vao vco old L v) (hb : Below wr.heap.size wr W1) (hg : World.grownBy W1 w6 v.ownBlock)
    (ho : w6.ownsRow (B + 1) 67 3 v' (L.length + 1) (cellsE L ++ [.int .i64 d.1, .int .i64 d.2.1, .int .i64 d.2.2])) : PutR w0 (w6.setCell ⟨B + 1 + 1, 1, none⟩ v') B n x y z vao vco old (L ++ [d]) v' := by
  have h1 : PutR w0 W1 B n x y z vao vco old L v := h.below hb
  have c := Chg.of_grown hg h1.own
  have hx := BoxG.grown h1.box hg h1.own (by decide)
  have hlo := h.lo
  have hs := h1.obox.cells.2.2.2.2
  have hs2 := h1.box.cells.2.2.2.2
  have c2 : Chg (B + 1) (max W1.heap.size (B + 3)) W1 (w6.setCell ⟨B + 1 + 1, 1, none⟩ v') := by
    have hm : max W1.heap.size (B + 3) = W1.heap.size := by omega
    rw [hm]
    exact c.setCell (by simp only; omega) (by simp only; omega) _
  refine ⟨bel_chg h1.bel c2 (by omega), hlo, hx.set _, ?_, h1.obox.chg c2 (by omega), h1.rbox.chg c2 (by omega), (c2.cell (p := ⟨_, 0, none⟩) (by simp only; omega) (by simp only; omega)).trans h1.e0, (c2.cell (p := ⟨_, 1, none⟩) (by simp only; omega) (by simp only; omega)).trans h1.e1, (c2.cell (p := ⟨_, 2, none⟩) (by simp only; omega) (by simp only; omega)).trans h1.e2, h1.row.chg c2 (by omega)⟩
  obtain ⟨d0, d1, d2⟩ := d
  exact own_more ho rfl hx (by decide) _
theorem PutR.grow {W1 w6 : World} (h : PutR w0 wr B n x y z vao vco old L v) (hb : Below wr.heap.size wr W1) (hg : World.grownBy W1 w6 v.ownBlock) : BoxG w6 (B + 1 + 1) 35 n v := BoxG.grown (h.below hb).box hg (h.below hb).own (by decide)
theorem PutR.rgrow {W1 w6 : World} (h : PutR w0 wr B n x y z vao vco old L v) (hb : Below wr.heap.size wr W1) (hg : World.grownBy W1 w6 v.ownBlock) : BoxG w6 (w0.heap.size + 1 + 1) 35 0 (.slice none 0 0) := BoxG.grown (h.below hb).rbox hg (h.below hb).own (by decide)
theorem PutR.addr {k : Nat} (h : PutR w0 wr B n x y z vao vco old L v) (hk : k < old.length) : ∃ b off, vao = some ⟨b, off, none⟩ := by
  obtain ⟨a, c, hs, hz⟩ := h.row.edges
  injection hs with h1 _ _
  subst h1
  rcases hz with h0 | ⟨b, off, rfl, _⟩
  · rw [h0] at hk; simp at hk
  · exact ⟨b, off, rfl⟩
theorem PutR.cell3 {k b off : Nat} {p q r : Int} (h : PutR w0 wr B n x y z (some ⟨b, off, none⟩) vco old L v) (hk : k < old.length) (hd : (p, q, r) = old.getD k (0, 0, 0)) :
    wr.cell? ⟨b, off + k * 3, none⟩ = some (.int .i64 p) ∧ wr.cell? ⟨b, off + k * 3 + 1, none⟩ = some (.int .i64 q) ∧ wr.cell? ⟨b, off + k * 3 + 2, none⟩ = some (.int .i64 r) := by
  obtain ⟨a, c, hs, hz⟩ := h.row.edges
  injection hs with h1 _ _
  subst h1
  rcases hz with h0 | ⟨b', off', h1, hb, hc⟩
  · rw [h0] at hk; simp at hk
  · injection h1 with h1
    injection h1 with h1 h2 _
    subst h1 h2
    have := hc k hk
    rw [← hd] at this
    exact this
theorem PutR.start {w2 : World} {lo : Nat} (hb : Below w0.heap.size w0 w2) (hlo : w0.heap.size + 3 ≤ w2.heap.size) (hr : BoxG w2 (w0.heap.size + 1 + 1) 35 0 (.slice none 0 0)) (e0 : w2.cell? ⟨w0.heap.size + 1, 0, none⟩ = some (.int .i64 x)) (e1 : w2.cell? ⟨w0.heap.size + 1, 1, none⟩ = some (.int .i64 y)) (e2 : w2.cell? ⟨w0.heap.size + 1, 2, none⟩ = some (.int .i64 z))
    (hv : InR true w2 lo w2.heap.size (.slice vao old.length vco) old.length 3 (cellE old)) :
    PutR w0 (((w2.alloc (.cells #[.int .i64 n, .slice vao old.length vco] 35)).alloc (.cells #[] 67)).alloc (.cells #[.int .i64 n, .slice (some ⟨w2.heap.size + 1, 0, none⟩) 0 0] 35)) w2.heap.size n x y z vao vco old [] (.slice (some ⟨w2.heap.size + 1, 0, none⟩) 0 0) := by
  have b1 : Below w2.heap.size w2 (w2.alloc (.cells #[.int .i64 n, .slice vao old.length vco] 35)) := (Below.refl _ _).alloc (Nat.le_refl _) _
  have b3 : Below w2.heap.size w2 (((w2.alloc (.cells #[.int .i64 n, .slice vao old.length vco] 35)).alloc (.cells #[] 67)).alloc (.cells #[.int .i64 n, .slice (some ⟨w2.heap.size + 1, 0, none⟩) 0 0] 35)) := (b1.alloc (by simp) _).alloc (by simp; omega) _
  refine ⟨bel_trans hb b3, hlo, ?_, ?_, ((BoxG.new _ _ _ _).alloc _).alloc _, hr.keep b3, (b3.cell (p := ⟨_, 0, none⟩) (by simp only; omega)).trans e0, (b3.cell (p := ⟨_, 1, none⟩) (by simp only; omega)).trans e1, (b3.cell (p := ⟨_, 2, none⟩) (by simp only; omega)).trans e2, (hv.wider (Nat.zero_le _) (Nat.le_refl _) (Nat.le_refl _)).keep b3⟩
  · have := BoxG.new ((w2.alloc (.cells #[.int .i64 n, .slice vao old.length vco] 35)).alloc (.cells #[] 67)) 35 n (.slice (some ⟨w2.heap.size + 1, 0, none⟩) 0 0)
    simpa using this
  · have := (own_empty3 (w2.alloc (.cells #[.int .i64 n, .slice vao old.length vco] 35)) 67 3 (w2.heap.size + 1) (by simp)).alloc (.cells #[.int .i64 n, .slice (some ⟨w2.heap.size + 1, 0, none⟩) 0 0] 35)
    simpa [cellsE] using this
end

end Go.Proofs.YtneapbggnnndhaaGreat
namespace Go.Proofs.YtneapbggnnndhaaGreat
open Go.RowKit Go.BigFrame Go.Deep
set_option linter.unusedVariables false
set_option linter.unusedSimpArgs false

theorem putB_val {n : Int} {es : List Ed} (hg : gVal n es = true) (e : Ed) : putB n es e = gVal n (pL es e) := by
  rw [gVal_put hg]; unfold putB; rw [hg, Bool.true_and]
theorem pL_len (es : List Ed) (e : Ed) : (pL es e).length ≤ es.length + 1 := by
  unfold pL
  rw [List.length_append, List.length_cons, List.length_take, List.length_drop]
  omega

end Go.Proofs.YtneapbggnnndhaaGreat
