/- Parts of a row of changes; a graph put into a variable of its own in a region that draws its order. -/
import Derived.Test.YtbhhbhopogkmnaaChgM
namespace Go.Proofs.Ytbhhbhopogkmnaa
open Go.RowKit Go.BigFrame Go.Deep
set_option linter.unusedVariables false
set_option linter.unusedSimpArgs false

theorem cellCh_take {cs : List Ch} {k i : Nat} (h : i < k * 4) : cellCh (cs.take k) i = cellCh cs i := by
  have e : (cs.take k).getD (i / 4) chZ = cs.getD (i / 4) chZ := by
    have : i / 4 < k := by omega
    simp [List.getD, List.getElem?_take, this]
  unfold cellCh
  rw [e]
theorem cellCh_drop (cs : List Ch) (k i : Nat) : cellCh (cs.drop k) i = cellCh cs (k * 4 + i) := by
  have e : (cs.drop k).getD (i / 4) chZ = cs.getD ((k * 4 + i) / 4) chZ := by
    rw [show (k * 4 + i) / 4 = k + i / 4 by omega]
    simp [List.getD]
  unfold cellCh
  rw [e, show (k * 4 + i) % 4 = i % 4 by omega]
theorem rowC_pre {w : World} {a : Option Addr} {n c c' k : Nat} {cs : List Ch} (h : RowCh w (.slice a n c) cs) (hk : k ≤ cs.length) : RowCh w (.slice a k c') (cs.take k) := by
  obtain ⟨a', cap, he, hz⟩ := h
  injection he with e1 e2 e3
  subst e1
  have hl : (cs.take k).length = k := by rw [List.length_take]; omega
  refine ⟨a, c', by rw [hl], ?_⟩
  rw [hl]
  rcases hz with hz | ⟨b, off, rfl, h1, h2, h3, hc⟩
  · left; omega
  · exact .inr ⟨b, off, rfl, h1, h2, h3, fun i hi => by rw [cellCh_take hi]; exact hc i (by omega)⟩
theorem rowC_suf {w : World} {b off n c c' k : Nat} {cs : List Ch} (h : RowCh w (.slice (some ⟨b, off, none⟩) n c) cs) (hk : k ≤ cs.length) (h0 : 0 < cs.length) : RowCh w (.slice (some ⟨b, off + k * 4, none⟩) (cs.length - k) c') (cs.drop k) := by
  obtain ⟨a', cap, he, hz⟩ := h
  injection he with e1 e2 e3
  have hl : (cs.drop k).length = cs.length - k := List.length_drop ..
  refine ⟨_, c', by rw [hl], ?_⟩
  rw [hl]
  rcases hz with hz | ⟨b', off', k0, h1, h2, h3, hc⟩
  · omega
  · rw [k0] at e1
    injection e1 with e1
    injection e1 with e1 e2 e3
    subst e1 e2
    exact .inr ⟨b, off + k * 4, rfl, h1, h2, h3, fun i hi => by rw [cellCh_drop, Nat.add_assoc]; exact hc (k * 4 + i) (by omega)⟩
end Go.Proofs.Ytbhhbhopogkmnaa
