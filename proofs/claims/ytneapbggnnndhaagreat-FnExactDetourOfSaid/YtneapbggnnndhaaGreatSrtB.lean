/- Paths sorted by the library: the contract. -/
import Derived.Test.YtneapbggnnndhaaGreatSrtA
namespace Go.Proofs.YtneapbggnnndhaaGreat
open Go.RowKit Go.BigFrame Go.Deep Go.Lib Go.Sort
set_option linter.unusedVariables false
set_option linter.unusedSimpArgs false

/-- The paths of a list. -/
abbrev PIn (qs : List PP) := {q : PP // q ∈ qs}
def encQ {qs : List PP} (q : PIn qs) : List Value := [q.1.v, .int .i64 q.1.x]
def cQ (m : Int) {qs : List PP} (p q : PIn qs) : Int := cP m p.1.zs p.1.x q.1.zs q.1.x
theorem ltQ {m : Int} (hm : mKind m = true) {qs : List PP} (p q : PIn qs) : ltOf (cQ m) p q = lP m p.1.p q.1.p := cP_lt hm _ _ _ _
theorem swoQ {m : Int} (hm : mKind m = true) (qs : List PP) : SWO (ltOf (cQ m (qs := qs))) where
  irrefl x := by rw [ltQ hm]; exact lP_irr m _
  trans x y z h1 h2 := by rw [ltQ hm] at *; exact lP_trans h1 h2
  ntrans x y z h1 h2 := by rw [ltQ hm] at *; exact lP_ntrans hm h1 h2
/-- The world of a sort differs in the row's block, and in new ones. -/
theorem sortK_grown {qs : List PP} (w : World) (g n : Nat) (d : Array (PIn qs)) [Inhabited (PIn qs)] (os : Array Obj) : w.grownBy (sortWorldK encQ 2 w g 0 n d os) (some g) :=
  ⟨rfl, rfl, rfl, by simp [sortWorldK, grow, putRowK, putRow, mapBlock, Sort.ahead], fun k hk hne => by
    unfold sortWorldK grow
    simp only
    rw [Array.getElem?_append_left (by simpa [putRowK, putRow, mapBlock, Sort.ahead] using hk)]
    have : g ≠ k := fun e => hne (by rw [e])
    simp [putRowK, putRow, mapBlock, Sort.ahead, Array.getElem?_modify, this]⟩
theorem flatQ {qs : List PP} [Inhabited (PIn qs)] (L : List (PIn qs)) : (flatK encQ 2 L.toArray).toList = cellsP (L.map (·.1)) := by
  apply List.ext_getElem?
  intro j
  have hlen : (cellsP (L.map (·.1))).length = L.length * 2 := by rw [cellsP_len, List.length_map]
  by_cases hj : j < L.length * 2
  · have hf : j < (flatK encQ 2 L.toArray).size := by rw [size_flatK]; simpa using hj
    have h1 := get_flatK encQ 2 L.toArray j (by simpa using hj)
    have hi : j / 2 < L.length := by omega
    have h2 : L.toArray[j / 2]! = L[j / 2] := by rw [getElem!_pos _ _ (by simpa using hi)]; simp
    rw [getElem!_pos _ j hf, h2] at h1
    have h3 := cellsP_at (qs := L.map (·.1)) (i := j / 2) (by rw [List.length_map]; exact hi)
    rw [List.getElem_map] at h3
    rw [Array.getElem?_toList, Array.getElem?_eq_getElem hf, h1]
    rcases (show j % 2 = 0 ∨ j % 2 = 1 by omega) with h | h
    · rw [h]
      have e : j / 2 * 2 = j := by omega
      rw [e] at h3
      rw [h3.1]
      rfl
    · rw [h]
      have e : j / 2 * 2 + 1 = j := by omega
      rw [e] at h3
      rw [h3.2]
      rfl
  · rw [List.getElem?_eq_none (by simp; omega), List.getElem?_eq_none (by rw [hlen]; omega)]

set_option maxHeartbeats 1000000 in
theorem sortPaths {m : Int} (hm : mKind m = true) (qs : List PP) (v : Value) (B base : Nat) (w : World) (hP : Pths w base v qs) (hB : Box w B 76 #[opsV m]) (hl : ∀ q ∈ qs, q.zs.length ≤ 1000) (hn : qs.length ≤ 400) :
    Calls Tryz.prog 49 #[v, .func (.func 50) #[] #[.pointer (some ⟨B, 0, none⟩)]] w fun e w' => e = .returned (.tuple #[]) ∧
      ∃ qs' : List PP, (qs'.map PP.p) = srt m (qs.map PP.p) ∧ qs'.Perm qs ∧ Pths w' base v qs' ∧ ∀ W : World, W.heap.size ≤ base → Below W.heap.size W w → Below W.heap.size W w' := by
  by_cases h0 : qs = []
  · subst h0
    obtain ⟨a, c, rfl⟩ := own_slice hP.own
    have := AnyF.slices_SortFunc_none Tryz.sortP a c (.func (.func 50) #[] #[.pointer (some ⟨B, 0, none⟩)]) w
    refine Calls.mono (f := 49) this ?_
    rintro e w' ⟨he, rfl⟩
    exact ⟨he, [], (by unfold srt; simp), List.Perm.refl _, hP, fun W _ h => h⟩
  have hpos : 0 < qs.length := List.length_pos_iff.2 h0
  obtain ⟨g, cap, rfl, hbg, hgl, hcap⟩ := own_pos hP.own hpos
  haveI hinh : Inhabited (PIn qs) := ⟨⟨qs[0], List.getElem_mem hpos⟩⟩
  have eg : ∀ args w, (callFunc 50 args).run Tryz.prog w = .ok (.enter 50 args) w := enters_of Tryz.func50 (by kernel_rfl) rfl
  have hds : qs.attach.toArray.size = qs.length := by simp
  have hBg : B ≠ g := by
    intro e
    subst e
    obtain ⟨_, cs, hh⟩ := own_heap hP.own
    unfold Box at hB
    rw [hB] at hh
    simp at hh
  have hgr : ∀ (n : Nat) (os : Array Obj) (dk : Array (PIn qs)), w.grownBy (sortWorldK encQ 2 w g 0 n dk os) (some g) := fun n os dk => sortK_grown w g n dk os
  have hrow : ∀ (w' : World), w.grownBy w' (some g) → ∀ q ∈ qs, PRow w' base q := fun w' h q hq => by
    have hp := hP.row q hq
    refine ⟨hp.1.kept h (.inr (fun e => ?_)), hp.2⟩
    rcases own_types hp.1 hP.own (by decide) with h3 | h3
    · rw [h3] at e; cases e
    · exact h3 e
  have hcmp : CmpLays Tryz.prog 50 #[.pointer (some ⟨B, 0, none⟩)] encQ 2 (cQ m) g 0 qs.attach.toArray.size w := fun n os dk hd x y => by
    have hx := hrow _ (hgr n os dk) x.1 x.2
    have hy := hrow _ (hgr n os dk) y.1 y.2
    have hb : (sortWorldK encQ 2 w g 0 n dk os).cell? ⟨B, 0, none⟩ = some (opsV m) := (hgr n os dk).cell (by simpa using hB.cell 0) (by simpa using hBg)
    refine (cmpClosure m x.1.x y.1.x x.1.zs y.1.zs x.1.v y.1.v B _ hm hb (Nat.lt_of_lt_of_le hB.lt (hgr n os dk).size) (own_row hx.1) (own_row hy.1) (by have := hl _ x.2; omega) (by have := hl _ y.2; omega)).mono ?_
    rintro e w' ⟨he, hg⟩
    exact ⟨he, hg.grow⟩
  have hhold : HoldsK encQ 2 w g 0 qs.attach.toArray := by
    intro j hj
    rw [size_flatK] at hj
    have hf : j < (flatK encQ 2 qs.attach.toArray).size := by rw [size_flatK]; exact hj
    have h1 := congrArg (fun l => l[j]?) (flatQ qs.attach)
    simp only [Array.getElem?_toList] at h1
    rw [Array.getElem?_eq_getElem hf, List.attach_map_subtype_val] at h1
    have h2 := own_cell hP.own h1.symm
    rw [Nat.zero_add, getElem!_pos _ j hf]
    exact h2
  have hcon := AnyQ.slices_SortFunc Tryz.sortP 2 Tryz.isAgg30 Tryz.sizeOf30 encQ (fun _ => rfl) (fun x u hu => by
    obtain ⟨a, c, e⟩ := own_slice (hP.row x.1 x.2).1
    simp only [encQ, List.mem_cons, List.not_mem_nil, or_false] at hu
    rcases hu with rfl | rfl
    · rw [e]; rfl
    · rfl) (cQ m) (swoQ hm qs) 50 #[.pointer (some ⟨B, 0, none⟩)] g 0 cap qs.attach.toArray w eg hcmp hhold hgl (by rw [hds]; omega)
  rw [hds] at hcon
  refine Calls.mono (f := 49) hcon ?_
  rintro e w' ⟨he, d', n, os, hp, hso, rfl⟩
  have hd : d'.size = qs.length := by rw [hp.1]; exact hds
  have hperm0 : d'.toList.Perm qs.attach := by
    have h3 := hp.2.2
    rw [show d'.extract 0 qs.length = d' by rw [← hd]; simp, show qs.attach.toArray.extract 0 qs.length = qs.attach.toArray by simp; exact List.take_of_length_le (by simp)] at h3
    simpa using h3
  have hperm : (d'.toList.map (·.1)).Perm qs := by
    have := hperm0.map (·.1)
    rwa [List.attach_map_subtype_val] at this
  have hlen : (d'.toList.map (·.1)).length = qs.length := hperm.length_eq
  refine ⟨he, d'.toList.map (·.1), ?_, hperm, ⟨?_, fun q hq => hrow _ (hgr n os d') q (hperm.mem_iff.1 hq), ?_⟩, fun W hW hb => ?_⟩
  · refine srt_eq hm (hperm.map PP.p) ?_
    rw [List.map_map, List.pairwise_map, List.pairwise_iff_getElem]
    intro i j hi hj hij
    have hi2 : i < d'.size := by simpa using hi
    have hj2 : j < d'.size := by simpa using hj
    have h4 := hso i j (Nat.zero_le _) hij (by omega)
    rw [ltQ hm, getElem!_pos d' i hi2, getElem!_pos d' j hj2] at h4
    simpa using h4
  · have hown := hP.own
    rcases hown.2 with ⟨h5, _⟩ | ⟨g', cap', cur, hv, hb', hg', hn', hm', hs', ht'⟩
    · cases h5
    · injection hv with e1 e2 e3
      injection e1 with e1
      injection e1 with e1
      subst e1 e3
      refine ⟨by rw [cellsP_len], .inr ⟨g, cap, putCells id 0 (flatK encQ 2 d') cur, by rw [hlen], hb', ?_, by rw [hlen]; exact hn', hm', by simp [putCells, hs'], ?_⟩⟩
      · have h1 : (putRowK encQ 2 (Sort.ahead w n) g 0 d').heap[g]? = some (.cells (putCells id 0 (flatK encQ 2 d') cur) 30 (0, 0)) := by simp [putRowK, putRow, mapBlock, Sort.ahead, Array.getElem?_modify, hg', onCells]
        have h2 : g < (putRowK encQ 2 (Sort.ahead w n) g 0 d').heap.size := (Array.getElem?_eq_some_iff.1 h1).1
        unfold sortWorldK grow
        simp only
        rw [Array.getElem?_append_left h2]
        exact h1
      · have hF := flatQ (qs := qs) d'.toList
        rw [show d'.toList.toArray = d' by simp] at hF
        rw [hlen, ← hF]
        have hfs : (flatK encQ 2 d').size = qs.length * 2 := by rw [size_flatK, hd]
        have hcl : qs.length * 2 ≤ cur.size := by rw [hs']; exact Nat.mul_le_mul_right _ hn'
        apply List.ext_getElem?
        intro j
        rw [List.getElem?_take]
        by_cases hj : j < qs.length * 2
        · rw [if_pos hj]
          have hjc : j < cur.size := by omega
          have hjf : j < (flatK encQ 2 d').size := by omega
          simp only [putCells, Array.getElem?_toList, Array.getElem?_mapIdx, Array.getElem?_eq_getElem hjc, Option.map_some]
          rw [if_pos ⟨Nat.zero_le _, by omega⟩, Nat.sub_zero, Array.getElem?_eq_getElem hjf, getElem!_pos _ j hjf]
          rfl
        · rw [if_neg hj, Array.getElem?_toList, Array.getElem?_eq_none (by omega)]
  · exact (hperm.pairwise_iff (fun {a b} h => h.symm)).2 hP.dis
  · exact ⟨hb.os, hb.tape, hb.output, Nat.le_trans hb.size (hgr n os d').size, fun k hk => by
      rw [(hgr n os d').block k (Nat.lt_of_lt_of_le hk hb.size) (by simp; omega)]
      exact hb.block k hk⟩
end Go.Proofs.YtneapbggnnndhaaGreat
