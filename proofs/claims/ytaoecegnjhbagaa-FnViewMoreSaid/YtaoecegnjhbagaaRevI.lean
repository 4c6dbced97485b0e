/- A graph turned round: the mathematics. slices.SortFunc of edges by their ends. ReverseGraph, in the program. -/
import Derived.Test.YtaoecegnjhbagaaIns2
import Derived.Test.YtaoecegnjhbagaaShS
import Derived.Sort.Lot0
import Derived.Test.YtaoecegnjhbagaaCutS
import Derived.Test.YtaoecegnjhbagaaBoxes
namespace Go.Proofs.Ytaoecegnjhbagaa
set_option linter.unusedVariables false
set_option linter.unusedSimpArgs false

/-- An edge the other way round. -/
def swE (e : Ed) : Ed := (e.2.1, e.1, e.2.2)
/-- Two edges have not the same ends. -/
def NE (a b : Ed) : Prop := ¬ (a.1 = b.1 ∧ a.2.1 = b.2.1)
theorem NE.symm {a b : Ed} (h : NE a b) : NE b a := fun ⟨h1, h2⟩ => h ⟨h1.symm, h2.symm⟩
theorem pL_len' (es : List Ed) (e : Ed) : (pL es e).length ≤ es.length + 1 := by
  unfold pL
  simp only [List.length_append, List.length_take, List.length_cons, List.length_drop]
  omega
theorem fdE_some {es : List Ed} {a b : Int} (h : fdE es a b = true) : ∃ d ∈ es, d.1 = a ∧ d.2.1 = b := by
  unfold fdE at h
  simp only [Bool.and_eq_true, decide_eq_true_eq] at h
  obtain ⟨h1, h2⟩ := h
  rw [cEnds_eq] at h2
  refine ⟨es.getD (lbE es a b) (0, 0, 0), ?_, h2⟩
  simp [List.getD, h1]
theorem pL_mem_iff {es : List Ed} {e : Ed} (h : fdE es e.1 e.2.1 = false) (d : Ed) : d ∈ pL es e ↔ d = e ∨ d ∈ es := by
  have hn : fdN es e.1 e.2.1 = 0 := by unfold fdN; rw [h]; rfl
  unfold pL
  rw [hn, Nat.add_zero]
  constructor
  · intro hd
    rcases List.mem_append.1 hd with h1 | h1
    · exact .inr (List.mem_of_mem_take h1)
    · rcases List.mem_cons.1 h1 with h2 | h2
      · exact .inl h2
      · exact .inr (List.mem_of_mem_drop h2)
  · rintro (rfl | hd)
    · exact List.mem_append_right _ (List.mem_cons_self)
    · rw [← List.take_append_drop (lbE es e.1 e.2.1) es] at hd
      rcases List.mem_append.1 hd with h1 | h1
      · exact List.mem_append_left _ h1
      · exact List.mem_append_right _ (List.mem_cons_of_mem _ h1)
theorem EdLt.irrefl (a : Ed) : ¬ EdLt a a := by unfold EdLt; omega
theorem sorted_same {A : List Ed} : ∀ {B : List Ed}, A.Pairwise EdLt → B.Pairwise EdLt → (∀ d, d ∈ A ↔ d ∈ B) → A = B := by
  induction A with
  | nil =>
    intro B _ _ h
    cases B with
    | nil => rfl
    | cons b B => exact absurd ((h b).2 List.mem_cons_self) (by simp)
  | cons a A ih =>
    intro B hA hB h
    cases B with
    | nil => exact absurd ((h a).1 List.mem_cons_self) (by simp)
    | cons b B =>
      rw [List.pairwise_cons] at hA hB
      have hab : a = b := by
        rcases List.mem_cons.1 ((h a).1 List.mem_cons_self) with e | e
        · exact e
        · rcases List.mem_cons.1 ((h b).2 List.mem_cons_self) with e2 | e2
          · exact e2.symm
          · exact absurd ((hB.1 a e).trans (hA.1 b e2)) (EdLt.irrefl _)
      subst hab
      congr 1
      refine ih hA.2 hB.2 (fun d => ?_)
      constructor
      · intro hd
        rcases List.mem_cons.1 ((h d).1 (List.mem_cons_of_mem _ hd)) with e | e
        · rw [e] at hd; exact absurd (hA.1 a hd) (EdLt.irrefl _)
        · exact e
      · intro hd
        rcases List.mem_cons.1 ((h d).2 (List.mem_cons_of_mem _ hd)) with e | e
        · rw [e] at hd; exact absurd (hB.1 a hd) (EdLt.irrefl _)
        · exact e
/-- The graph with all edges turned, put one after the other. -/
def rvL (es : List Ed) : List Ed := (es.map swE).foldl pL []
def rvK (es : List Ed) (k : Nat) : List Ed := ((es.map swE).take k).foldl pL []
theorem rvK_succ (es : List Ed) {k : Nat} (hk : k < es.length) : rvK es (k + 1) = pL (rvK es k) (swE (es.getD k (0, 0, 0))) := by
  unfold rvK
  rw [List.take_succ_eq_append_getElem (by simpa using hk), List.foldl_append]
  simp [List.getD, hk]
theorem rvK_all (es : List Ed) : rvK es es.length = rvL es := by unfold rvK rvL; rw [List.take_of_length_le (by simp)]
theorem rv_fold {n : Int} : ∀ (B A R : List Ed), gVal n R = true → (∀ d, d ∈ R ↔ d ∈ A) → R.length ≤ A.length → (A ++ B).Pairwise NE → (∀ d ∈ B, eFits n d.1 d.2.1 d.2.2 = true) → (A ++ B).length ≤ 40 →
    gVal n (B.foldl pL R) = true ∧ (∀ d, d ∈ B.foldl pL R ↔ d ∈ A ++ B) ∧ (B.foldl pL R).length ≤ (A ++ B).length := by
  intro B
  induction B with
  | nil => intro A R hg hm hl _ _ _; rw [List.append_nil]; exact ⟨hg, hm, hl⟩
  | cons e B ih =>
    intro A R hg hm hl hp hf h40
    have hnf : fdE R e.1 e.2.1 = false := by
      cases hc : fdE R e.1 e.2.1 with
      | false => rfl
      | true =>
        obtain ⟨d, hd, h1, h2⟩ := fdE_some hc
        have hd2 := (hm d).1 hd
        rw [List.pairwise_append] at hp
        exact absurd ⟨h1, h2⟩ (hp.2.2 d hd2 e List.mem_cons_self)
    have hlen := pL_len' R e
    have hg2 : gVal n (pL R e) = true := by
      rw [gVal_put hg, hf e List.mem_cons_self, decide_eq_true (by simp at h40; omega)]; rfl
    have := ih (A ++ [e]) (pL R e) hg2 (fun d => by rw [pL_mem_iff hnf, hm d]; simp [or_comm]) (by simp; omega) (by simpa using hp) (fun d hd => hf d (List.mem_cons_of_mem _ hd)) (by simpa using h40)
    simpa using this
theorem eFits_swap (n a b p : Int) : eFits n a b p = eFits n b a p := by
  rw [Bool.eq_iff_iff]
  unfold eFits
  simp only [Bool.and_eq_true, decide_eq_true_eq, bne_iff_ne, ne_eq, Bool.not_eq_true', decide_eq_false_iff_not]
  constructor <;> intro h <;> omega
theorem gVal_swapped {n : Int} {es : List Ed} (hg : gVal n es = true) : (es.map swE).Pairwise NE ∧ (∀ d ∈ es.map swE, eFits n d.1 d.2.1 d.2.2 = true) ∧ (es.map swE).length ≤ 40 := by
  obtain ⟨⟨h1, h12, h40⟩, hf, hp⟩ := gVal_iff.1 hg
  refine ⟨?_, ?_, by simpa using h40⟩
  · rw [List.pairwise_map]
    refine hp.imp (fun {a b} h => ?_)
    unfold NE swE
    unfold EdLt at h
    simp only
    omega
  · intro d hd
    obtain ⟨e, he, rfl⟩ := List.mem_map.1 hd
    have := hf e he
    unfold swE
    rw [eFits_swap]
    exact this
theorem gVal_nil {n : Int} {es : List Ed} (hg : gVal n es = true) : gVal n [] = true := by
  obtain ⟨⟨h1, h12, h40⟩, hf, hp⟩ := gVal_iff.1 hg
  exact gVal_iff.2 ⟨⟨h1, h12, by simp⟩, by simp, List.Pairwise.nil⟩
theorem rvL_val {n : Int} {es : List Ed} (hg : gVal n es = true) : gVal n (rvL es) = true ∧ (∀ d, d ∈ rvL es ↔ d ∈ es.map swE) ∧ (rvL es).length ≤ es.length := by
  obtain ⟨h1, h2, h3⟩ := gVal_swapped hg
  have := rv_fold (n := n) (es.map swE) [] [] (gVal_nil hg) (fun d => Iff.rfl) (Nat.le_refl _) (by simpa using h1) h2 (by simpa using h3)
  simpa [rvL] using this
theorem rvK_val {n : Int} {es : List Ed} (hg : gVal n es = true) (k : Nat) : gVal n (rvK es k) = true ∧ (rvK es k).length ≤ k := by
  obtain ⟨h1, h2, h3⟩ := gVal_swapped hg
  have := rv_fold (n := n) ((es.map swE).take k) [] [] (gVal_nil hg) (fun d => Iff.rfl) (Nat.le_refl _) (by simpa using List.Pairwise.sublist (List.take_sublist k _) h1) (fun d hd => h2 d (List.mem_of_mem_take hd)) (by simp at h3 ⊢; omega)
  simp only [List.nil_append] at this
  refine ⟨this.1, Nat.le_trans this.2.2 (by simp; omega)⟩
/-- Whatever sorting the turned edges gives is it. -/
theorem rv_sorted {n : Int} {es L : List Ed} (hg : gVal n es = true) (hp : L.Perm (es.map swE)) (hs : L.Pairwise (fun a b => ¬ EdLt b a)) : L = rvL es := by
  obtain ⟨h1, h2, h3⟩ := gVal_swapped hg
  obtain ⟨g1, g2, g3⟩ := rvL_val hg
  have hne : L.Pairwise NE := (hp.pairwise_iff (fun h => NE.symm h)).2 h1
  have hst : L.Pairwise EdLt := by
    refine List.Pairwise.imp₂ (fun a b h k => ?_) hs hne
    unfold EdLt NE at *
    omega
  exact sorted_same hst (gVal_iff.1 g1).2.2 (fun d => by rw [hp.mem_iff, g2 d])
end Go.Proofs.Ytaoecegnjhbagaa
namespace Go.Proofs.Ytaoecegnjhbagaa
open Go.RowKit Go.BigFrame Go.Deep Go.Lib Go.Sort
set_option linter.unusedVariables false
set_option linter.unusedSimpArgs false

theorem grow_drew (w : World) (os : Array Obj) : (grow w os).drew = grow w.drew os := rfl
/-- The order of the ends of two edges, the world known. -/
theorem compareEndsG (a b p c d q : Int) (w : World) :
    Calls Try.prog 58 #[.agg #[.int .i64 a, .int .i64 b, .int .i64 p], .agg #[.int .i64 c, .int .i64 d, .int .i64 q]] w fun e w' => e = .returned (.int .i64 (cEnds a b c d)) ∧ ∃ n os, w' = grow (w.drewN n) os := by
  go_enter Try.func58, Try.ntmps58
  go_wp2
  refine wp_region_tail 10 (by kernel_rfl) (by kernel_rfl) ?_
  simp only [List.take_succ_cons, List.take_zero, List.drop_succ_cons, List.drop_zero]
  repeat (go_big_quiet_step (exact cmpInt _ _ _ _))
  refine wpQuiet_nil ?_
  go_wp2_with (go_at_call 86; (refine (orTwo (cInt a c) (cInt b d) (w.heap.size + 1 + 1) 2 _ (by go_simp) (by go_simp)).mono ?_); rintro e w1 ⟨rfl, rfl⟩)
  go_ret
  exact ⟨rfl, 1, _, by rw [alloc_eq_grow, alloc_eq_grow, alloc_eq_grow, grow_grow, grow_grow, grow_drew]; rfl⟩

/-- The three cells of an edge. -/
def encE (e : Ed) : List Value := [.int .i64 e.1, .int .i64 e.2.1, .int .i64 e.2.2]
def cEd (e d : Ed) : Int := cEnds e.1 e.2.1 d.1 d.2.1
theorem ltEd (e d : Ed) : ltOf cEd e d = true ↔ EdLt e d := by
  unfold ltOf cEd EdLt
  rw [decide_eq_true_iff, cEnds_lt]
theorem ltEd' (e d : Ed) : ltOf cEd e d = false ↔ ¬ EdLt e d := by rw [← ltEd]; simp
theorem swoEd : SWO (ltOf cEd) where
  irrefl x := by rw [ltEd']; unfold EdLt; omega
  trans x y z h1 h2 := by rw [ltEd] at *; exact h1.trans h2
  ntrans x y z h1 h2 := by rw [ltEd'] at *; unfold EdLt at *; omega
instance : Inhabited Ed := ⟨(0, 0, 0)⟩
theorem encE_at (L : List Ed) (i : Nat) (hi : i < L.length * 3) : (encE L.toArray[i / 3]!)[i % 3]! = cellE L i := by
  have hlt : i / 3 < L.length := by omega
  have hg : L.toArray[i / 3]! = L.getD (i / 3) (0, 0, 0) := by simp [List.getD, hlt]
  rw [hg]
  have h3 : i % 3 = 0 ∨ i % 3 = 1 ∨ i % 3 = 2 := by omega
  rcases h3 with h | h | h
  · have e : cellE L i = .int .i64 (L.getD (i / 3) (0, 0, 0)).1 := by rw [← cellE0]; congr 1; omega
    rw [h, e]; rfl
  · have e : cellE L i = .int .i64 (L.getD (i / 3) (0, 0, 0)).2.1 := by rw [← cellE1]; congr 1; omega
    rw [h, e]; rfl
  · have e : cellE L i = .int .i64 (L.getD (i / 3) (0, 0, 0)).2.2 := by rw [← cellE2]; congr 1; omega
    rw [h, e]; rfl
theorem holdsE {w : World} {g : Nat} {t : TypeId} {es : List Ed} (h : w.rowIs g t (es.length * 3) (cellE es)) : HoldsK encE 3 w g 0 es.toArray := by
  intro j hj
  rw [size_flatK] at hj
  have hj' : j < es.length * 3 := by simpa using hj
  rw [get_flatK _ _ _ _ hj, encE_at es j hj', Nat.zero_add]
  exact ⟨h.cell hj', h.frozen j⟩
theorem rowIs_sort {w : World} {g : Nat} {t : TypeId} {es L : List Ed} (h : w.rowIs g t (es.length * 3) (cellE es)) (hl : L.length = es.length) (n : Nat) (os : Array Obj) : (sortWorldK encE 3 w g 0 n L.toArray os).rowIs g t (L.length * 3) (cellE L) := by
  have hlt := h.lt
  obtain ⟨c, hc, hs, _⟩ := h
  refine ⟨putCells id 0 (flatK encE 3 L.toArray) c, ?_, by simp [putCells, hs, hl], fun i hi => ?_⟩
  · have h1 : (putRowK encE 3 (Sort.ahead w n) g 0 L.toArray).heap[g]? = some (.cells (putCells id 0 (flatK encE 3 L.toArray) c) t (0, 0)) := by simp [putRowK, putRow, mapBlock, Sort.ahead, Array.getElem?_modify, hc, onCells]
    have h2 : g < (putRowK encE 3 (Sort.ahead w n) g 0 L.toArray).heap.size := (Array.getElem?_eq_some_iff.1 h1).1
    unfold sortWorldK grow
    simp only
    rw [Array.getElem?_append_left h2]
    exact h1
  · have hic : i < c.size := by rw [hs]; omega
    have hf : i < (flatK encE 3 L.toArray).size := by rw [size_flatK]; simpa using hi
    simp only [putCells, Array.getElem?_mapIdx, Array.getElem?_eq_getElem hic, Option.map_some]
    rw [if_pos ⟨Nat.zero_le _, by omega⟩, Nat.sub_zero, get_flatK _ _ _ _ (by simpa using hi), encE_at L i hi]
    rfl
theorem below_sort {W w : World} {g : Nat} {L : Array Ed} (hb : Below W.heap.size W w) (hg : W.heap.size ≤ g) (n : Nat) (os : Array Obj) : Below W.heap.size W (sortWorldK encE 3 w g 0 n L os) :=
  ⟨hb.os, hb.tape, hb.output, by have := hb.size; simp [sortWorldK, grow, putRowK, putRow, mapBlock, Sort.ahead]; omega, fun k hk => by
    rw [← hb.block k hk]
    have h1 : k < w.heap.size := Nat.lt_of_lt_of_le hk hb.size
    unfold sortWorldK grow
    simp only
    rw [Array.getElem?_append_left (by simpa [putRowK, putRow, mapBlock, Sort.ahead] using h1)]
    simp [putRowK, putRow, mapBlock, Sort.ahead, Array.getElem?_modify, show g ≠ k by omega]⟩

theorem sortEdges (es : List Ed) (g cap : Nat) (t : TypeId) (w : World) (h : w.rowIs g t (es.length * 3) (cellE es)) (hl : es.length ≤ 1048576) :
    Calls Try.prog 57 #[.slice (some ⟨g, 0, none⟩) es.length cap, .func (.func 58) #[] #[]] w fun e w' => e = .returned (.tuple #[]) ∧
      ∃ L : List Ed, L.Perm es ∧ L.Pairwise (fun a b => ¬ EdLt b a) ∧ w'.rowIs g t (L.length * 3) (cellE L) ∧ (∀ W : World, W.heap.size ≤ g → Below W.heap.size W w → Below W.heap.size W w') := by
  have eg : ∀ args w, (callFunc 58 args).run Try.prog w = .ok (.enter 58 args) w := enters_of Try.func58 (by kernel_rfl) rfl
  have hcmp : CmpLays Try.prog 58 #[] encE 3 cEd g 0 es.toArray.size w := fun m os dk hd x y => compareEndsG _ _ _ _ _ _ _
  have hcon := AnyQ.slices_SortFunc Try.sortE 3 Try.isAgg46 Try.sizeOf46 encE (fun _ => rfl) (fun x v hv => by simp [encE] at hv; rcases hv with rfl | rfl | rfl <;> rfl) cEd swoEd 58 #[] g 0 cap es.toArray w eg hcmp (holdsE h) h.lt (by simp; omega)
  have hs : es.toArray.size = es.length := by simp
  rw [hs] at hcon
  refine Calls.mono (f := 57) hcon ?_
  rintro e w' ⟨he, d', n, os, hp, hso, rfl⟩
  have hd : d'.size = es.length := by rw [hp.1]; simp
  have hL : d'.toList.toArray = d' := by simp
  have hperm : d'.toList.Perm es := by
    have h3 := hp.2.2
    rw [show d'.extract 0 es.length = d' by rw [← hd]; simp, show es.toArray.extract 0 es.length = es.toArray by simp] at h3
    simpa using h3
  refine ⟨he, d'.toList, hperm, ?_, ?_, fun W hW hB => below_sort hB hW n os⟩
  · rw [List.pairwise_iff_getElem]
    intro i j hi hj hij
    have h4 := hso i j (Nat.zero_le _) hij (by have : j < d'.toList.length := hj; simp at this; omega)
    rw [ltEd'] at h4
    have hi2 : i < d'.size := by simpa using hi
    have hj2 : j < d'.size := by simpa using hj
    simpa [hi2, hj2] using h4
  · have := rowIs_sort (L := d'.toList) h (by simp [hd]) n os
    rwa [hL] at this
end Go.Proofs.Ytaoecegnjhbagaa
namespace Go.Proofs.Ytaoecegnjhbagaa
open Go.RowKit Go.BigFrame Go.Deep
set_option linter.unusedVariables false
set_option linter.unusedSimpArgs false

/-- What ReverseGraph answers. -/
def rgN (n : Int) (es : List Ed) : Int := if gVal n es = true then n else 0
def rgL (n : Int) (es : List Ed) : List Ed := if gVal n es = true then rvL es else []
theorem rgL_len (n : Int) (es : List Ed) : (rgL n es).length ≤ 40 := by
  unfold rgL
  split
  · rename_i h; have := (rvL_val h).2.2; have := (gVal_iff.1 h).1.2.2; omega
  · simp

set_option maxRecDepth 20000 in
set_option maxHeartbeats 4000000 in
theorem reverseGraph (n : Int) (es : List Ed) (s : Value) (w : World) (hs : RowE w s es) (hl : es.length ≤ 1048576) :
    Calls Try.prog 29 #[.agg #[.int .i64 n, s]] w fun e w' => ∃ v, e = .returned (.tuple #[.agg #[.int .i64 (rgN n es), v], .bool (gVal n es)]) ∧ OwnE w w' v (rgL n es) ∧ okS v ∧ Below w.heap.size w w' := by
  have hl2 : es.length ≤ 281474976710656 := by omega
  obtain ⟨ad, cap, hs0, hz0⟩ := id hs
  subst hs0
  have hgv := fun w' (h : Below w.heap.size w w') => graphValid n es (.slice ad es.length cap) w' (hs.keep h) hl2
  have hb2 : Below w.heap.size w ((w.alloc (.cells #[.int .i64 n, .slice ad es.length cap] 25)).alloc (.cells #[.int .i64 0, .slice none 0 0] 25)) := ((Below.refl _ _).alloc (Nat.le_refl _) _).alloc (by simp) _
  have hx0 : Box ((w.alloc (.cells #[.int .i64 n, .slice ad es.length cap] 25)).alloc (.cells #[.int .i64 0, .slice none 0 0] 25)) w.heap.size 25 #[.int .i64 n, .slice ad es.length cap] := (Box.new w _ _).alloc _
  have hx1 : Box ((w.alloc (.cells #[.int .i64 n, .slice ad es.length cap] 25)).alloc (.cells #[.int .i64 0, .slice none 0 0] 25)) (w.heap.size + 1) 25 #[.int .i64 0, .slice none 0 0] := by
    have := Box.new (w.alloc (.cells #[.int .i64 n, .slice ad es.length cap] 25)) 25 #[.int .i64 0, .slice none 0 0]
    simpa using this
  have K0 := Lib.hid (And.intro hb2 (And.intro hx0 hx1))
  have HZ := Lib.hid hz0
  clear hb2 hx0 hx1 hz0 hs
  cases hg : gVal n es
  · have e1 : rgN n es = 0 := by unfold rgN; rw [hg]; rfl
    have e2 : rgL n es = [] := by unfold rgL; rw [hg]; rfl
    rw [e1, e2]
    rw [hg] at hgv
    have HV := Lib.hid hgv
    clear hgv e1 e2 hg
    go_enter Try.func29, Try.ntmps29
    go_wp2_with fail
    generalize ((w.alloc (.cells #[.int .i64 n, .slice ad es.length cap] 25)).alloc (.cells #[.int .i64 0, .slice none 0 0] 25)) = v0 at K0 ⊢
    refine (HV.out _ K0.out.1).mono ?_
    rintro e v1 ⟨rfl, hb1⟩
    have K1 := Lib.hid (And.intro (bel_trans K0.out.1 hb1) (K0.out.2.2.keep hb1))
    have y0 : v1.cell? ⟨w.heap.size + 1, 0, none⟩ = some (.int .i64 0) := by simpa using K1.out.2.cell 0
    have y1 : v1.cell? ⟨w.heap.size + 1, 1, none⟩ = some (.slice none 0 0) := by simpa using K1.out.2.cell 1
    have f0 := K1.out.2.frozen 0
    have f1 := K1.out.2.frozen 1
    clear hb1
    go_wp2
    try simp only [Exit.inBlock, Exit.then]
    refine bodyPost_ret (v := .tuple #[.agg #[.int .i64 0, .slice none 0 0], .bool false]) ?_ rfl ?_
    · rw [results_cell_tmp rfl]
      go_simp
    exact ⟨_, rfl, ownE_nil _ _, okS_nil, (K1.out.1.setCell (by simp only; omega) _).setCell (by simp only; omega) _⟩
  have e1 : rgN n es = n := by unfold rgN; rw [if_pos hg]
  have e2 : rgL n es = rvL es := by unfold rgL; rw [if_pos hg]
  rw [e1, e2]
  rw [hg] at hgv
  have HV := Lib.hid hgv
  have HG := Lib.hid hg
  have hmk := run_make_rowN (P := Try.prog) 23 46 (.agg #[.int .i64 0, .int .i64 0, .int .i64 0]) #[.int .i64 0, .int .i64 0, .int .i64 0] 3 24 Try.underlying23 info_edge (by rfl) .i64 .i64 es.length (by omega) (by omega)
  have hso := fun g w' h => sortEdges (es.map swE) g es.length 46 w' h (by simpa using hl)
  rw [List.length_map] at hso
  have HSO := Lib.hid hso
  clear hgv e1 e2 hg hso
  go_enter Try.func29, Try.ntmps29
  go_wp2_with fail
  generalize ((w.alloc (.cells #[.int .i64 n, .slice ad es.length cap] 25)).alloc (.cells #[.int .i64 0, .slice none 0 0] 25)) = v0 at K0 ⊢
  refine (HV.out _ K0.out.1).mono ?_
  rintro e v1 ⟨rfl, hb1⟩
  have K1 := Lib.hid (And.intro (bel_trans K0.out.1 hb1) (And.intro (K0.out.2.1.keep hb1) (K0.out.2.2.keep hb1)))
  have x0 : v1.cell? ⟨w.heap.size, 0, none⟩ = some (.int .i64 n) := by simpa using K1.out.2.1.cell 0
  have x1 : v1.cell? ⟨w.heap.size, 1, none⟩ = some (.slice ad es.length cap) := by simpa using K1.out.2.1.cell 1
  have z1 : w.heap.size + 1 < v1.heap.size := K1.out.2.2.lt
  have z0 : w.heap.size < v1.heap.size := K1.out.2.1.lt
  clear hb1
  go_wp2
  clear hmk x0 x1
  go_loopw [18] (fun c wr => ∃ k : Nat, k ≤ es.length ∧ c = .int .i64 k ∧ Hid (wr.rowIs v1.heap.size 46 (es.length * 3) (partE (es.map swE) k)) ∧ Hid (Below v1.heap.size v1 wr)) (fun c _ => es.length - (intOf c).toNat)
  case atStart => exact ⟨0, Nat.zero_le _, rfl, Lib.hid (made_part (es.map swE) v1 _ _), Lib.hid ((Below.refl _ _).alloc (Nat.le_refl _) _)⟩
  case round =>
    obtain ⟨k, hk, rfl, HR, HX⟩ := hrel
    have HW := Lib.hid (bel_trans K1.out.1 HX.out)
    have x1 : wr.cell? ⟨w.heap.size, 1, none⟩ = some (.slice ad es.length cap) := by simpa using (K1.out.2.1.keep HX.out).cell 1
    by_cases hlt : k < es.length
    · have hlt' : (k : Int) < es.length := by omega
      rcases HZ.out with h0 | ⟨b, off, rfl, hb, hc⟩
      · rw [h0] at hlt; simp at hlt
      obtain ⟨x, y, z, hx⟩ : ∃ x y z, (x, y, z) = es.getD k (0, 0, 0) := ⟨_, _, _, rfl⟩
      obtain ⟨c0, c1, c2⟩ := hc k hlt
      rw [← HW.out.cell (p := ⟨b, _, none⟩) hb, ← hx] at c0 c1 c2
      simp only at c0 c1 c2
      have hsw : (y, x, z) = (es.map swE).getD k (0, 0, 0) := by simp [List.getD, hlt] at hx ⊢; rw [← hx]; rfl
      have HSW := Lib.hid hsw
      have HRA := Lib.hid (HR.out.of_block (((Below.refl _ wr).alloc (Nat.le_refl _) (.cells #[.int .i64 x, .int .i64 y, .int .i64 z] 46)).block _ HR.out.lt))
      have t0 := HRA.out.cell (i := k * 3) (by omega)
      have t1 := HRA.out.cell (i := k * 3 + 1) (by omega)
      have t2 := HRA.out.cell (i := k * 3 + 2) (by omega)
      have u0 := HRA.out.frozen (k * 3)
      have u1 := HRA.out.frozen (k * 3 + 1)
      have u2 := HRA.out.frozen (k * 3 + 2)
      have q0 : wr.cell? ⟨v1.heap.size, k * 3, none⟩ = some (partE (es.map swE) k (k * 3)) := HR.out.cell (by omega)
      have q1 : wr.cell? ⟨v1.heap.size, k * 3 + 1, none⟩ = some (partE (es.map swE) k (k * 3 + 1)) := HR.out.cell (by omega)
      have q2 : wr.cell? ⟨v1.heap.size, k * 3 + 2, none⟩ = some (partE (es.map swE) k (k * 3 + 2)) := HR.out.cell (by omega)
      have p0 := HR.out.frozen (k * 3)
      have p1 := HR.out.frozen (k * 3 + 1)
      have p2 := HR.out.frozen (k * 3 + 2)
      have hlr : v1.heap.size < wr.heap.size := HR.out.lt
      clear hc hx hsw t0 t1 t2 u0 u1 u2
      go_wp2
      go_roundw
      case rel =>
        have hz1 : w.heap.size + 1 < v1.heap.size := z1
        exact ⟨k + 1, by omega, by go_num, Lib.hid ((by
          have h9 : (((wr.setCell ⟨v1.heap.size, k * 3, none⟩ (.int .i64 y)).setCell ⟨v1.heap.size, k * 3 + 1, none⟩ (.int .i64 x)).setCell ⟨v1.heap.size, k * 3 + 2, none⟩ (.int .i64 z)).rowIs v1.heap.size 46 (es.length * 3) (partE (es.map swE) (k + 1)) := (((HR.out.set _ _).set _ _).set _ _).congr (fun i hi => by rw [part_step, ← HSW.out])
          exact h9.of_block (((Below.refl _ _).alloc (Nat.le_refl _) _).block _ (by simpa using hlr)))), Lib.hid ((((HX.out.setCell (Nat.le_refl _) _).setCell (Nat.le_refl _) _).setCell (Nat.le_refl _) _).alloc (by simp; omega) _)⟩
      case measure => simp [intOf]; omega
    · have hke : k = es.length := by omega
      have hkk : ¬ ((k : Int) < es.length) := by omega
      have HK := Lib.hid hke
      have hrow : wr.rowIs v1.heap.size 46 (es.length * 3) (cellE (es.map swE)) := HR.out.congr (fun i hi => by unfold partE; rw [if_pos (by rw [HK.out]; exact hi)])
      have HROW := Lib.hid hrow
      clear hke hrow
      go_wp2_with fail
      refine (HSO.out _ _ HROW.out).mono ?_
      rintro e w7 ⟨rfl, L, hperm, hsort, hrow7, hB7⟩
      have HL := Lib.hid (rv_sorted HG.out hperm hsort)
      have hV := hB7 v1 (Nat.le_refl _) HX.out
      have g0 : w7.cell? ⟨w.heap.size, 0, none⟩ = some (.int .i64 n) := by simpa using (K1.out.2.1.keep hV).cell 0
      have y0 : w7.cell? ⟨w.heap.size + 1, 0, none⟩ = some (.int .i64 0) := by simpa using (K1.out.2.2.keep hV).cell 0
      have y1 : w7.cell? ⟨w.heap.size + 1, 1, none⟩ = some (.slice none 0 0) := by simpa using (K1.out.2.2.keep hV).cell 1
      have f0 := (K1.out.2.2.keep hV).frozen 0
      have f1 := (K1.out.2.2.keep hV).frozen 1
      have HV7 := Lib.hid hV
      have HR7 := Lib.hid hrow7
      have HLL := Lib.hid (hperm.length_eq.trans (List.length_map ..))
      clear hperm hsort hB7 hrow7 hV x1
      go_wp2
      try simp only [Exit.inBlock, Exit.then]
      refine bodyPost_ret (v := .tuple #[.agg #[.int .i64 n, .slice (some ⟨v1.heap.size, 0, none⟩) es.length es.length], .bool true]) ?_ rfl ?_
      · rw [results_cell_tmp rfl]
        go_simp
      have hW7 := bel_trans K1.out.1 HV7.out
      have hrow8 := HR7.out
      rw [HL.out] at hrow8
      have hll : es.length = (rvL es).length := by rw [← HL.out]; exact HLL.out.symm
      refine ⟨_, rfl, ?_, okS_some (Nat.le_refl _), (hW7.setCell (by simp only; omega) _).setCell (by simp only; omega) _⟩
      have hnew : NewE w ((w7.setCell ⟨w.heap.size + 1, 0, none⟩ (.int .i64 n)).setCell ⟨w.heap.size + 1, 1, none⟩ (.slice (some ⟨v1.heap.size, 0, none⟩) es.length es.length)) (.slice (some ⟨v1.heap.size, 0, none⟩) es.length es.length) (rvL es) := ⟨v1.heap.size, es.length, by rw [hll], ⟨by omega, by omega⟩, (hrow8.setOther (by simp only; omega) _).setOther (by simp only; omega) _⟩
      exact hnew.inR
end Go.Proofs.Ytaoecegnjhbagaa
