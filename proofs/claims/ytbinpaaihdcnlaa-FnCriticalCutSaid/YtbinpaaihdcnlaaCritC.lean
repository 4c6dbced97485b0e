/- CriticalCut: a graph in a variable of its own, the edges of a list in their order. -/
import Derived.Test.YtbinpaaihdcnlaaDerJ
import Derived.Test.YtbinpaaihdcnlaaEdgeM
import Derived.Test.YtbinpaaihdcnlaaBoxIn
import Derived.BigQuiet
namespace Go.Proofs.Ytbinpaaihdcnlaa
open Go.RowKit Go.BigFrame Go.Deep
set_option linter.unusedVariables false
set_option linter.unusedSimpArgs false
set_option linter.unnecessarySimpa false

/-- A graph in a variable that is new since w, with a row that is within its room. -/
def BoxC (w wx : World) (N : Int) (ls : List Ed) (p : Value) : Prop :=
  ∃ (g : Nat) (va : Option Addr) (vc : Nat), p = .pointer (some ⟨g, 0, none⟩) ∧ (wx.cell? ⟨g, 0, none⟩ = some (.int .i64 N) ∧ wx.cell? ⟨g, 1, none⟩ = some (.slice va ls.length vc)) ∧
    RowE wx (.slice va ls.length vc) ls ∧ (w.heap.size ≤ g ∧ g < wx.heap.size) ∧ Below w.heap.size w wx
theorem box_endC {w wB wC : World} {T : TypeId} {N : Int} {ls : List Ed} {v : Value} (hb : Below w.heap.size w wB) (hc : Below wB.heap.size wB wC) (ho : OwnE wB wC v ls) :
    BoxC w (wC.alloc (.cells #[.int .i64 N, v] T)) N ls (.pointer (some ⟨wC.heap.size, 0, none⟩)) := by
  obtain ⟨a, c, rfl⟩ := ho.slice
  have hB := BoxG.new wC T N (.slice a ls.length c)
  have h1 := hb.size
  have h2 := hc.size
  exact ⟨_, a, c, rfl, ⟨hB.cells.1, hB.cells.2.1⟩, InR.edges (InR.keep ho ((Below.refl _ _).alloc (Nat.le_refl _) _)), ⟨by omega, by simp⟩, b_alloc (bel_trans hb hc) _⟩
theorem box_midC {w x wB wC : World} {T : TypeId} {N N0 : Int} {ls : List Ed} {v v0 : Value} (hx : Below w.heap.size w x) (hb : Below (x.alloc (.cells #[.int .i64 N0, v0] T)).heap.size (x.alloc (.cells #[.int .i64 N0, v0] T)) wB)
    (hc : Below wB.heap.size wB wC) (ho : OwnE wB wC v ls) :
    BoxC w ((wC.setCell ⟨x.heap.size, 0, none⟩ (.int .i64 N)).setCell ⟨x.heap.size, 1, none⟩ v) N ls (.pointer (some ⟨x.heap.size, 0, none⟩)) := by
  obtain ⟨a, c, rfl⟩ := ho.slice
  have hB := ((((BoxG.new x T N0 v0).keep hb).keep hc).set0 N).set (.slice a ls.length c)
  have h0 := hx.size
  have h1 := hb.size
  have h2 := hc.size
  have h3 : x.heap.size + 1 ≤ wB.heap.size := by simpa using h1
  have hk' : Chg x.heap.size (x.heap.size + 1) wC ((wC.setCell ⟨x.heap.size, 0, none⟩ (.int .i64 N)).setCell ⟨x.heap.size, 1, none⟩ (.slice a ls.length c)) := ((Chg.refl _ _ _).setCell (by simp) (by simp) _).setCell (by simp) (by simp) _
  exact ⟨_, a, c, rfl, ⟨hB.cells.1, hB.cells.2.1⟩, InR.edges (InR.chg ho hk' (.inl h3)), ⟨h0, hB.cells.2.2.2.2⟩, bel_chg (bel_trans (bel_trans hx ((Below.refl _ _).alloc (Nat.le_refl _) _)) (bel_trans hb hc)) hk' h0⟩

theorem flt_split (p : Ed → Bool) (es : List Ed) (k : Nat) : es.filter p = (es.take k).filter p ++ (es.drop k).filter p := by
  rw [← List.filter_append, List.take_append_drop]
theorem flt_at {p : Ed → Bool} {es : List Ed} {k : Nat} (hk : k < es.length) (h : p (es.getD k (0, 0, 0)) = true) :
    ((es.take k).filter p).length < (es.filter p).length ∧ (es.filter p).getD ((es.take k).filter p).length (0, 0, 0) = es.getD k (0, 0, 0) ∧ ((es.take (k + 1)).filter p).length = ((es.take k).filter p).length + 1 := by
  have h1 := filter_takeE p es hk
  rw [if_pos h] at h1
  have h2 := flt_split p es (k + 1)
  rw [h1] at h2
  generalize es.getD k (0, 0, 0) = e at h1 h2 ⊢
  generalize (es.take k).filter p = a at h1 h2 ⊢
  refine ⟨?_, ?_, by rw [h1]; simp⟩
  · rw [h2]; simp
  · rw [h2, List.append_assoc]
    show ((a ++ ([e] ++ _))[a.length]?).getD _ = e
    rw [List.getElem?_append_right (Nat.le_refl _)]
    simp
theorem flt_no {p : Ed → Bool} {es : List Ed} {k : Nat} (hk : k < es.length) (h : p (es.getD k (0, 0, 0)) = false) :
    ((es.take (k + 1)).filter p).length = ((es.take k).filter p).length := by
  rw [filter_takeE p es hk, if_neg (by rw [h]; decide), List.append_nil]
theorem cut_of {N : Int} {es : List Ed} {e : Ed} (hg : gVal N es = true) (he : e ∈ es) : kB N es e.1 e.2.1 = true ∧ kN N es e.1 e.2.1 = N ∧ kR N es e.1 e.2.1 = cutL es e.1 e.2.1 := by
  have hf := (fdE_iff hg e.1 e.2.1).2 ⟨e, he, rfl, rfl⟩
  have hb : kB N es e.1 e.2.1 = true := by unfold kB; rw [hg, hf]; rfl
  exact ⟨hb, by unfold kN; rw [if_pos hb], by unfold kR; rw [if_pos hb, cutL_val hg hf]⟩
end Go.Proofs.Ytbinpaaihdcnlaa
