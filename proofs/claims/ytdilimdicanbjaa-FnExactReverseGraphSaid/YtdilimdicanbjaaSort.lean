/- slices.SortFunc of edges by their ends. -/
import Derived.Test.YtdilimdicanbjaaShS
import Derived.Test.YtdilimdicanbjaaIns2
import Derived.Sort.Lot0
namespace Go.Proofs.Ytdilimdicanbjaa
open Go.RowKit Go.BigFrame Go.Deep Go.Lib Go.Sort
set_option linter.unusedVariables false
set_option linter.unusedSimpArgs false

theorem grow_drew (w : World) (os : Array Obj) : (grow w os).drew = grow w.drew os := rfl
/-- The order of the ends of two edges, the world known. -/
theorem compareEndsG (a b p c d q : Int) (w : World) :
    Calls Try.prog 58 #[.agg #[.int .i64 a, .int .i64 b, .int .i64 p], .agg #[.int .i64 c, .int .i64 d, .int .i64 q]] w fun e w' => e = .returned (.int .i64 (cEnds a b c d)) ∧ ∃ n os, w' = grow (w.drewN n) os := by
  go_enter Try.func58, Try.ntmps58
  go_wp2
  refine wp_region_tail 10 (by kernel_rfl) (by kernel_rfl) ?_
  simp only [List.take_succ_cons, List.take_zero, List.drop_succ_cons, List.drop_zero]
  repeat (go_big_quiet_step (exact cmpInt _ _ _ _))
  refine wpQuiet_nil ?_
  go_wp2_with (go_at_call 81; (refine (orTwo (cInt a c) (cInt b d) (w.heap.size + 1 + 1) 2 _ (by go_simp) (by go_simp)).mono ?_); rintro e w1 ⟨rfl, rfl⟩)
  go_ret
  exact ⟨rfl, 1, _, by rw [alloc_eq_grow, alloc_eq_grow, alloc_eq_grow, grow_grow, grow_grow, grow_drew]; rfl⟩

/-- The three cells of an edge. -/
def encE (e : Ed) : List Value := [.int .i64 e.1, .int .i64 e.2.1, .int .i64 e.2.2]
def cEd (e d : Ed) : Int := cEnds e.1 e.2.1 d.1 d.2.1
theorem ltEd (e d : Ed) : ltOf cEd e d = true ↔ EdLt e d := by
  unfold ltOf cEd EdLt
  rw [decide_eq_true_iff, cEnds_lt]
theorem ltEd' (e d : Ed) : ltOf cEd e d = false ↔ ¬ EdLt e d := by rw [← ltEd]; simp
theorem swoEd : SWO (ltOf cEd) where
  irrefl x := by rw [ltEd']; unfold EdLt; omega
  trans x y z h1 h2 := by rw [ltEd] at *; exact h1.trans h2
  ntrans x y z h1 h2 := by rw [ltEd'] at *; unfold EdLt at *; omega
instance : Inhabited Ed := ⟨(0, 0, 0)⟩
theorem encE_at (L : List Ed) (i : Nat) (hi : i < L.length * 3) : (encE L.toArray[i / 3]!)[i % 3]! = cellE L i := by
  have hlt : i / 3 < L.length := by omega
  have hg : L.toArray[i / 3]! = L.getD (i / 3) (0, 0, 0) := by simp [List.getD, hlt]
  rw [hg]
  have h3 : i % 3 = 0 ∨ i % 3 = 1 ∨ i % 3 = 2 := by omega
  rcases h3 with h | h | h
  · have e : cellE L i = .int .i64 (L.getD (i / 3) (0, 0, 0)).1 := by rw [← cellE0]; congr 1; omega
    rw [h, e]; rfl
  · have e : cellE L i = .int .i64 (L.getD (i / 3) (0, 0, 0)).2.1 := by rw [← cellE1]; congr 1; omega
    rw [h, e]; rfl
  · have e : cellE L i = .int .i64 (L.getD (i / 3) (0, 0, 0)).2.2 := by rw [← cellE2]; congr 1; omega
    rw [h, e]; rfl
theorem holdsE {w : World} {g : Nat} {t : TypeId} {es : List Ed} (h : w.rowIs g t (es.length * 3) (cellE es)) : HoldsK encE 3 w g 0 es.toArray := by
  intro j hj
  rw [size_flatK] at hj
  have hj' : j < es.length * 3 := by simpa using hj
  rw [get_flatK _ _ _ _ hj, encE_at es j hj', Nat.zero_add]
  exact ⟨h.cell hj', h.frozen j⟩
theorem rowIs_sort {w : World} {g : Nat} {t : TypeId} {es L : List Ed} (h : w.rowIs g t (es.length * 3) (cellE es)) (hl : L.length = es.length) (n : Nat) (os : Array Obj) : (sortWorldK encE 3 w g 0 n L.toArray os).rowIs g t (L.length * 3) (cellE L) := by
  have hlt := h.lt
  obtain ⟨c, hc, hs, _⟩ := h
  refine ⟨putCells id 0 (flatK encE 3 L.toArray) c, ?_, by simp [putCells, hs, hl], fun i hi => ?_⟩
  · have h1 : (putRowK encE 3 (Sort.ahead w n) g 0 L.toArray).heap[g]? = some (.cells (putCells id 0 (flatK encE 3 L.toArray) c) t (0, 0)) := by simp [putRowK, putRow, mapBlock, Sort.ahead, Array.getElem?_modify, hc, onCells]
    have h2 : g < (putRowK encE 3 (Sort.ahead w n) g 0 L.toArray).heap.size := (Array.getElem?_eq_some_iff.1 h1).1
    unfold sortWorldK grow
    simp only
    rw [Array.getElem?_append_left h2]
    exact h1
  · have hic : i < c.size := by rw [hs]; omega
    have hf : i < (flatK encE 3 L.toArray).size := by rw [size_flatK]; simpa using hi
    simp only [putCells, Array.getElem?_mapIdx, Array.getElem?_eq_getElem hic, Option.map_some]
    rw [if_pos ⟨Nat.zero_le _, by omega⟩, Nat.sub_zero, get_flatK _ _ _ _ (by simpa using hi), encE_at L i hi]
    rfl
theorem below_sort {W w : World} {g : Nat} {L : Array Ed} (hb : Below W.heap.size W w) (hg : W.heap.size ≤ g) (n : Nat) (os : Array Obj) : Below W.heap.size W (sortWorldK encE 3 w g 0 n L os) :=
  ⟨hb.os, hb.tape, hb.output, by have := hb.size; simp [sortWorldK, grow, putRowK, putRow, mapBlock, Sort.ahead]; omega, fun k hk => by
    rw [← hb.block k hk]
    have h1 : k < w.heap.size := Nat.lt_of_lt_of_le hk hb.size
    unfold sortWorldK grow
    simp only
    rw [Array.getElem?_append_left (by simpa [putRowK, putRow, mapBlock, Sort.ahead] using h1)]
    simp [putRowK, putRow, mapBlock, Sort.ahead, Array.getElem?_modify, show g ≠ k by omega]⟩

theorem sortEdges (es : List Ed) (g cap : Nat) (t : TypeId) (w : World) (h : w.rowIs g t (es.length * 3) (cellE es)) (hl : es.length ≤ 1048576) :
    Calls Try.prog 57 #[.slice (some ⟨g, 0, none⟩) es.length cap, .func (.func 58) #[] #[]] w fun e w' => e = .returned (.tuple #[]) ∧
      ∃ L : List Ed, L.Perm es ∧ L.Pairwise (fun a b => ¬ EdLt b a) ∧ w'.rowIs g t (L.length * 3) (cellE L) ∧ (∀ W : World, W.heap.size ≤ g → Below W.heap.size W w → Below W.heap.size W w') := by
  have eg : ∀ args w, (callFunc 58 args).run Try.prog w = .ok (.enter 58 args) w := enters_of Try.func58 (by kernel_rfl) rfl
  have hcmp : CmpLays Try.prog 58 #[] encE 3 cEd g 0 es.toArray.size w := fun m os dk hd x y => compareEndsG _ _ _ _ _ _ _
  have hcon := AnyQ.slices_SortFunc Try.sortE 3 Try.isAgg72 Try.sizeOf72 encE (fun _ => rfl) (fun x v hv => by simp [encE] at hv; rcases hv with rfl | rfl | rfl <;> rfl) cEd swoEd 58 #[] g 0 cap es.toArray w eg hcmp (holdsE h) h.lt (by simp; omega)
  have hs : es.toArray.size = es.length := by simp
  rw [hs] at hcon
  refine Calls.mono (f := 57) hcon ?_
  rintro e w' ⟨he, d', n, os, hp, hso, rfl⟩
  have hd : d'.size = es.length := by rw [hp.1]; simp
  have hL : d'.toList.toArray = d' := by simp
  have hperm : d'.toList.Perm es := by
    have h3 := hp.2.2
    rw [show d'.extract 0 es.length = d' by rw [← hd]; simp, show es.toArray.extract 0 es.length = es.toArray by simp] at h3
    simpa using h3
  refine ⟨he, d'.toList, hperm, ?_, ?_, fun W hW hB => below_sort hB hW n os⟩
  · rw [List.pairwise_iff_getElem]
    intro i j hi hj hij
    have h4 := hso i j (Nat.zero_le _) hij (by have : j < d'.toList.length := hj; simp at this; omega)
    rw [ltEd'] at h4
    have hi2 : i < d'.size := by simpa using hi
    have hj2 : j < d'.size := by simpa using hj
    simpa [hi2, hj2] using h4
  · have := rowIs_sort (L := d'.toList) h (by simp [hd]) n os
    rwa [hL] at this
end Go.Proofs.Ytdilimdicanbjaa
