/- A view that is put into a variable of its own, somewhere in a region that draws its order. Parts of orders. -/
import Derived.Test.YtbinpaaihdcnlaaBel
import Derived.Test.YtbinpaaihdcnlaaBoxes
import Derived.Test.YtbinpaaihdcnlaaVStartT
import Derived.Deep.CutRange
import Derived.Deep.RegionHeld3
import Derived.Test.YtbinpaaihdcnlaaEndV
namespace Go.Proofs.Ytbinpaaihdcnlaa
open Go.RowKit Go.BigFrame Go.Deep
set_option linter.unusedVariables false
set_option linter.unusedSimpArgs false
set_option linter.unnecessarySimpa false

/-- A view in a variable that is new since w: its box at p, its row between lo and hi. -/
def BoxInV (w wx : World) (M A : Int) (ls : List Int) (p : Value) : Prop :=
  ∃ (g : Nat) (va : Option Addr) (vc lo hi : Nat), p = .pointer (some ⟨g, 0, none⟩) ∧ (wx.cell? ⟨g, 0, none⟩ = some (.int .i64 M) ∧ wx.cell? ⟨g, 1, none⟩ = some (.int .i64 A) ∧ wx.cell? ⟨g, 2, none⟩ = some (.slice va ls.length vc)) ∧
    InR true wx lo hi (.slice va ls.length vc) ls.length 1 (cellI ls) ∧ (w.heap.size ≤ g ∧ g < wx.heap.size) ∧ (w.heap.size ≤ lo ∧ hi ≤ wx.heap.size) ∧ (g < lo ∨ hi ≤ g) ∧ Below w.heap.size w wx
theorem box_endV {w wB wC : World} {T : TypeId} {M A : Int} {ls : List Int} {v : Value} (hb : Below w.heap.size w wB) (hc : Below wB.heap.size wB wC) (ho : OwnV wB wC v ls) :
    BoxInV w (wC.alloc (.cells #[.int .i64 M, .int .i64 A, v] T)) M A ls (.pointer (some ⟨wC.heap.size, 0, none⟩)) := by
  obtain ⟨a, c, rfl⟩ := ho.slice
  have hB := Box.new wC T #[.int .i64 M, .int .i64 A, .slice a ls.length c]
  have h1 := hb.size
  have h2 := hc.size
  exact ⟨_, a, c, wB.heap.size, wC.heap.size, rfl, ⟨by simpa using hB.cell 0, by simpa using hB.cell 1, by simpa using hB.cell 2⟩, InR.keep ho ((Below.refl _ _).alloc (Nat.le_refl _) _), ⟨by omega, by simp⟩, ⟨h1, by simp⟩, .inr (Nat.le_refl _), b_alloc (bel_trans hb hc) _⟩
theorem box_midV {w x wB wC : World} {T : TypeId} {M A M0 A0 : Int} {ls : List Int} {v v0 : Value} (hx : Below w.heap.size w x) (hb : Below (x.alloc (.cells #[.int .i64 M0, .int .i64 A0, v0] T)).heap.size (x.alloc (.cells #[.int .i64 M0, .int .i64 A0, v0] T)) wB)
    (hc : Below wB.heap.size wB wC) (ho : OwnV wB wC v ls) :
    BoxInV w (((wC.setCell ⟨x.heap.size, 0, none⟩ (.int .i64 M)).setCell ⟨x.heap.size, 1, none⟩ (.int .i64 A)).setCell ⟨x.heap.size, 2, none⟩ v) M A ls (.pointer (some ⟨x.heap.size, 0, none⟩)) := by
  obtain ⟨a, c, rfl⟩ := ho.slice
  have hB := (((((Box.new x T #[.int .i64 M0, .int .i64 A0, v0]).keep hb).keep hc).set 0 (.int .i64 M)).set 1 (.int .i64 A)).set 2 (.slice a ls.length c)
  have h0 := hx.size
  have h1 := hb.size
  have h2 := hc.size
  have h3 : x.heap.size + 1 ≤ wB.heap.size := by simpa using h1
  have hk : Chg x.heap.size (x.heap.size + 1) wC (((wC.setCell ⟨x.heap.size, 0, none⟩ (.int .i64 M)).setCell ⟨x.heap.size, 1, none⟩ (.int .i64 A)).setCell ⟨x.heap.size, 2, none⟩ (.slice a ls.length c)) := (((Chg.refl _ _ _).setCell (by simp) (by simp) _).setCell (by simp) (by simp) _).setCell (by simp) (by simp) _
  exact ⟨_, a, c, wB.heap.size, wC.heap.size, rfl, ⟨by simpa using hB.cell 0, by simpa using hB.cell 1, by simpa using hB.cell 2⟩, InR.chg ho hk (.inl h3), ⟨h0, hB.lt⟩, ⟨by omega, hk.size⟩, .inl (by omega), bel_chg (bel_trans (bel_trans hx ((Below.refl _ _).alloc (Nat.le_refl _) _)) (bel_trans hb hc)) hk h0⟩
end Go.Proofs.Ytbinpaaihdcnlaa
namespace Go.Proofs.Ytbinpaaihdcnlaa
open Go.RowKit Go.BigFrame Go.Deep
set_option linter.unusedVariables false
set_option linter.unusedSimpArgs false

theorem oOk_parts {l : Nat} {os : List Int} (h : oOk l os = true) (c : Nat) : oOk l (os.take c) = true ∧ oOk l (os.drop c) = true := by
  unfold oOk at *
  rw [Bool.and_eq_true, decide_eq_true_eq, List.all_eq_true] at h
  rw [Bool.and_eq_true, decide_eq_true_eq, List.all_eq_true, Bool.and_eq_true, decide_eq_true_eq, List.all_eq_true]
  refine ⟨⟨?_, fun x hx => h.2 x (List.mem_of_mem_take hx)⟩, ?_, fun x hx => h.2 x (List.mem_of_mem_drop hx)⟩
  · rw [List.length_take]; omega
  · rw [List.length_drop]; omega
theorem row_preP {w : World} {a : Option Addr} {n c c' k : Nat} {zs : List Int} (h : Row w (.slice a n c) zs) (hk : k ≤ zs.length) : Row w (.slice a k c') (zs.take k) := by
  obtain ⟨a', cap, he, hz⟩ := h
  injection he with e1 e2 e3
  subst e1
  have hl : (zs.take k).length = k := by rw [List.length_take]; omega
  refine ⟨a, c', by rw [hl], ?_⟩
  rcases hz with hz | ⟨b, off, rfl, hb, hc⟩
  · left; rw [hz]; simp
  · refine .inr ⟨b, off, rfl, hb, fun i hi => ?_⟩
    rw [hl] at hi
    rw [hc i (by omega)]
    simp [List.getD, List.getElem?_take, hi]
theorem row_sufP {w : World} {b off n c c' k : Nat} {zs : List Int} (h : Row w (.slice (some ⟨b, off, none⟩) n c) zs) (hk : k ≤ zs.length) (h0 : 0 < zs.length) : Row w (.slice (some ⟨b, off + k, none⟩) (zs.length - k) c') (zs.drop k) := by
  obtain ⟨a', cap, he, hz⟩ := h
  injection he with e1 e2 e3
  have hl : (zs.drop k).length = zs.length - k := List.length_drop ..
  refine ⟨_, c', by rw [hl], ?_⟩
  rcases hz with hz | ⟨b', off', h1, hb, hc⟩
  · rw [hz] at h0; simp at h0
  · rw [h1] at e1
    injection e1 with e1
    injection e1 with e1 e2 e3
    subst e1 e2
    refine .inr ⟨b, off + k, rfl, hb, fun i hi => ?_⟩
    rw [hl] at hi
    rw [Nat.add_assoc, hc (k + i) (by omega)]
    simp [List.getD]
end Go.Proofs.Ytbinpaaihdcnlaa
