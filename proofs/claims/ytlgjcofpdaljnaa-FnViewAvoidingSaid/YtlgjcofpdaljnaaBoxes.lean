/- Blocks whose cells are known, next to rows that grow. -/
import Derived.Test.YtlgjcofpdaljnaaRowAt
import Derived.Laws.AppendOwnNone
import Derived.Deep.RegionLaw
namespace Go.Proofs.Ytlgjcofpdaljnaa
open Go.RowKit Go.BigFrame Go.Deep
set_option linter.unusedVariables false
set_option linter.unusedSimpArgs false

/-- append to a slice of the call's own, as one step of a region that draws. -/
theorem step_append_own {P : Program} {ops : Array Oper} {o : Oper} {a : Act} {w : World} {K : Act → World → Prop} {Q : Exit → Act → World → Prop} {E : Prop}
    (hg : o.guard = none) (s x : Operand) (t : TypeId)
    (ho : o.op = .call { callee := .builtin .append, args := #[s, x], argTypes := #[t, t] })
    (base : Nat) (e : TypeId) (i : TypeInfo) (z : Value) (size bytes : Nat) (ht : P.underlying t = some (.slice e)) (hi : P.info? e = some i) (hz : i.zero = some z)
    (hsize : i.size = size) (hby : i.bytes = bytes) (hzs : z.cells.size = size) (hsz : 0 < size)
    (v : Value) (n : Nat) (xs : List Value) (hs : a.eval s = v) (hown : w.ownsRow base e size v n xs)
    (ad : Addr) (m c : Nat) (news : List Value) (hx : a.eval x = .slice (some ad) m c) (hl : news.length = m * size) (hnews : ∀ j u, news[j]? = some u → w.cell? (ad.add j) = some u) (h1 : ∀ u ∈ news, u.oneCell' = true)
    (h63 : n + m ≤ maxLen) (hbytes : (n + m) * bytes ≤ 140737488355328) (hbase : base ≤ w.heap.size)
    (h : ∀ v' w', w'.ownsRow base e size v' (n + m) (xs ++ news) → w.grownBy w' v.ownBlock → K (a.put o.dst v') w') :
    if Region.wanted o (yielded ops a.tmps) = true then Oper.wp P o a w K Q else E := by
  have hw : Region.wanted o (yielded ops a.tmps) = true := by simp [Region.wanted, hg]
  rw [if_pos hw]
  exact wp_append_own w s x t ho base e i z size bytes ht hi hz hsize hby hzs hsz v n xs hs hown ad m c news hx hl hnews h1 h63 hbytes hbase (fun v' w' h2 h3 _ => h v' w' h2 h3)
theorem own_slice {w : World} {base : Nat} {e : TypeId} {sz m : Nat} {u : Value} {xs : List Value} (h : w.ownsRow base e sz u m xs) : ∃ a c, u = .slice a m c := by
  rcases h.2 with ⟨rfl, h0⟩ | ⟨g, cap, cur, rfl, _⟩
  · rw [h0]; exact ⟨_, _, rfl⟩
  · exact ⟨_, _, rfl⟩
theorem own_drew {w : World} {base : Nat} {e : TypeId} {sz m : Nat} {u : Value} {xs : List Value} (h : w.ownsRow base e sz u m xs) : w.drew.ownsRow base e sz u m xs := h
theorem own_ok {w : World} {base : Nat} {e : TypeId} {sz m : Nat} {u : Value} {xs : List Value} (h : w.ownsRow base e sz u m xs) : okS u := by
  intro a n c e
  rcases h.2 with ⟨e2, _⟩ | ⟨g, cp, cur, e2, _, _, hcp, _⟩
  · have e3 := e2.symm.trans e
    injection e3 with e4 e5 e6
    subst e4 e5 e6
    exact ⟨Nat.le_refl _, (fun _ => rfl), fun x h => by cases h⟩
  · have e3 := e2.symm.trans e
    injection e3 with e4 e5 e6
    subst e4 e5 e6
    exact ⟨hcp, (fun h => by cases h), fun x h => by injection h with h; rw [← h]⟩

/-- A block with these cells. -/
def Box (w : World) (B : Nat) (t : TypeId) (cs : Array Value) : Prop := w.heap[B]? = some (.cells cs t (0, 0))
section
variable {w w' : World} {B : Nat} {t : TypeId} {cs : Array Value}
theorem Box.lt (h : Box w B t cs) : B < w.heap.size := (Array.getElem?_eq_some_iff.1 h).1
theorem Box.cell (h : Box w B t cs) (i : Nat) : w.cell? ⟨B, i, none⟩ = cs[i]? := by
  unfold Box at h
  simp [World.cell?, h]
theorem Box.frozen (h : Box w B t cs) (i : Nat) : w.frozen? ⟨B, i, none⟩ = false := by
  unfold Box at h
  simp [World.frozen?, h]
theorem Box.keep (h : Box w B t cs) (hb : Below w.heap.size w w') : Box w' B t cs := (hb.block B h.lt).trans h
theorem Box.alloc (h : Box w B t cs) (o : Obj) : Box (w.alloc o) B t cs := h.keep ((Below.refl _ _).alloc (Nat.le_refl _) _)
theorem Box.drew (h : Box w B t cs) : Box w.drew B t cs := h
theorem Box.set (h : Box w B t cs) (i : Nat) (v : Value) : Box (w.setCell ⟨B, i, none⟩ v) B t (cs.setIfInBounds i v) := by
  unfold Box at *
  simp [World.setCell, Array.getElem?_modify, h]
theorem Box.setOther (h : Box w B t cs) {B' : Nat} (hne : B ≠ B') (o : Nat) (u : Value) : Box (w.setCell ⟨B', o, none⟩ u) B t cs := by
  unfold Box at *
  rw [← h]
  exact Below.heap_setCell w ⟨B', o, none⟩ u B hne
theorem Box.grown {e : TypeId} {u : Value} {base sz m : Nat} {xs : List Value} (h : Box w B t cs) (hg : w.grownBy w' u.ownBlock) (ho : w.ownsRow base e sz u m xs) (hne : e ≠ t) : Box w' B t cs := by
  unfold Box at *
  rw [← h]
  refine hg.block B (Array.getElem?_eq_some_iff.1 h).1 (fun hb => ?_)
  rcases ho.2 with ⟨rfl, _⟩ | ⟨g, cap, cur, rfl, _, hgg, _⟩
  · simp [Value.ownBlock] at hb
  · simp [Value.ownBlock] at hb
    subst hb
    rw [h] at hgg
    simp at hgg
    exact hne hgg.2.symm
theorem Box.own {e : TypeId} {sz m : Nat} {u v' : Value} {xs : List Value} {base o : Nat} (h : Box w B t cs) (ho : w.ownsRow base e sz u m xs) (hne : e ≠ t) : (w.setCell ⟨B, o, none⟩ v').ownsRow base e sz u m xs := by
  obtain ⟨hl, ho⟩ := ho
  refine ⟨hl, ?_⟩
  rcases ho with ho | ⟨g, cap, cur, rfl, hb, hgg, rest⟩
  · exact .inl ho
  · refine .inr ⟨g, cap, cur, rfl, hb, ?_, rest⟩
    rw [← hgg]
    refine Below.heap_setCell w ⟨B, o, none⟩ v' g (fun hb => ?_)
    simp only at hb
    subst hb
    unfold Box at h
    rw [h] at hgg
    simp at hgg
    exact hne hgg.2.symm
theorem Box.new (w : World) (t : TypeId) (cs : Array Value) : Box (w.alloc (.cells cs t)) w.heap.size t cs := blk_alloc_new _ _
end
theorem cells_new1 (w : World) (p : Value) (t : TypeId) : ∀ j u, [p][j]? = some u → ((w.alloc (.cells #[p] t)).drew).cell? (Addr.add ⟨w.heap.size, 0, none⟩ j) = some u := by
  intro j u h
  have hn : (w.alloc (.cells #[p] t)).heap[w.heap.size]? = some (.cells #[p] t (0, 0)) := blk_alloc_new _ _
  have hc : ((w.alloc (.cells #[p] t)).drew).cell? ⟨w.heap.size, j, none⟩ = #[p][j]? := by
    show (w.alloc (.cells #[p] t)).cell? ⟨w.heap.size, j, none⟩ = _
    unfold World.cell?
    simp only [hn]
    simp
  have ha : Addr.add ⟨w.heap.size, 0, none⟩ j = ⟨w.heap.size, j, none⟩ := by rw [Go.WideShapes.add_plain, Nat.zero_add]
  rw [ha, hc]
  simpa using h
end Go.Proofs.Ytlgjcofpdaljnaa
