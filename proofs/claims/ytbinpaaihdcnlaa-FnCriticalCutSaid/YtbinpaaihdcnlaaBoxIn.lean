/- A result that is put into a variable of its own, somewhere in a region that draws its order. -/
import Derived.Test.YtbinpaaihdcnlaaPutT
import Derived.Test.YtbinpaaihdcnlaaBel
import Derived.Deep.CutRange
import Derived.Deep.RegionHeld3
namespace Go.Proofs.Ytbinpaaihdcnlaa
open Go.RowKit Go.BigFrame Go.Deep
set_option linter.unusedVariables false
set_option linter.unusedSimpArgs false

/-- A graph in a variable that is new since w: its box at p, its row between lo and hi. -/
def BoxIn (w wx : World) (N : Int) (ls : List Ed) (p : Value) : Prop :=
  ∃ (g : Nat) (va : Option Addr) (vc lo hi : Nat), p = .pointer (some ⟨g, 0, none⟩) ∧ (wx.cell? ⟨g, 0, none⟩ = some (.int .i64 N) ∧ wx.cell? ⟨g, 1, none⟩ = some (.slice va ls.length vc)) ∧
    InR true wx lo hi (.slice va ls.length vc) ls.length 3 (cellE ls) ∧ (w.heap.size ≤ g ∧ g < wx.heap.size) ∧ (w.heap.size ≤ lo ∧ hi ≤ wx.heap.size) ∧ (g < lo ∨ hi ≤ g) ∧ Below w.heap.size w wx
theorem InR.slice {fz : Bool} {w : World} {lo hi n sz : Nat} {v : Value} {cs : Nat → Value} (h : InR fz w lo hi v n sz cs) : ∃ a c, v = .slice a n c := by
  obtain ⟨a, c, h, _⟩ := h
  exact ⟨a, c, h⟩
theorem box_end {w wB wC : World} {T : TypeId} {N : Int} {ls : List Ed} {v : Value} (hb : Below w.heap.size w wB) (hc : Below wB.heap.size wB wC) (ho : OwnE wB wC v ls) :
    BoxIn w (wC.alloc (.cells #[.int .i64 N, v] T)) N ls (.pointer (some ⟨wC.heap.size, 0, none⟩)) := by
  obtain ⟨a, c, rfl⟩ := ho.slice
  have hB := BoxG.new wC T N (.slice a ls.length c)
  have h1 := hb.size
  have h2 := hc.size
  exact ⟨_, a, c, wB.heap.size, wC.heap.size, rfl, ⟨hB.cells.1, hB.cells.2.1⟩, InR.keep ho ((Below.refl _ _).alloc (Nat.le_refl _) _), ⟨by omega, by simp⟩, ⟨h1, by simp⟩, .inr (Nat.le_refl _), b_alloc (bel_trans hb hc) _⟩
theorem box_mid {w x wB wC : World} {T : TypeId} {N N0 : Int} {ls : List Ed} {v v0 : Value} (hx : Below w.heap.size w x) (hb : Below (x.alloc (.cells #[.int .i64 N0, v0] T)).heap.size (x.alloc (.cells #[.int .i64 N0, v0] T)) wB)
    (hc : Below wB.heap.size wB wC) (ho : OwnE wB wC v ls) :
    BoxIn w ((wC.setCell ⟨x.heap.size, 0, none⟩ (.int .i64 N)).setCell ⟨x.heap.size, 1, none⟩ v) N ls (.pointer (some ⟨x.heap.size, 0, none⟩)) := by
  obtain ⟨a, c, rfl⟩ := ho.slice
  have hB := ((((BoxG.new x T N0 v0).keep hb).keep hc).set0 N).set (.slice a ls.length c)
  have h0 := hx.size
  have h1 := hb.size
  have h2 := hc.size
  have h3 : x.heap.size + 1 ≤ wB.heap.size := by simpa using h1
  have hk : Chg x.heap.size (x.heap.size + 1) wC ((wC.setCell ⟨x.heap.size, 0, none⟩ (.int .i64 N)).setCell ⟨x.heap.size, 1, none⟩ (.slice a ls.length c)) := ((Chg.refl _ _ _).setCell (by simp) (by simp) _).setCell (by simp) (by simp) _
  exact ⟨_, a, c, wB.heap.size, wC.heap.size, rfl, ⟨hB.cells.1, hB.cells.2.1⟩, InR.chg ho hk (.inl h3), ⟨h0, hB.cells.2.2.2.2⟩, ⟨by omega, hk.size⟩, .inl (by omega), bel_chg (bel_trans (bel_trans hx ((Below.refl _ _).alloc (Nat.le_refl _) _)) (bel_trans hb hc)) hk h0⟩
end Go.Proofs.Ytbinpaaihdcnlaa
