/- Rows at a place. -/
import Derived.Test.YtdblcaeeepkebaaRow
namespace Go.Proofs.Ytdblcaeeepkebaa
open Go.RowKit Go.BigFrame Go.Deep
set_option linter.unusedVariables false
set_option linter.unusedSimpArgs false

theorem Row.nil (w : World) : Row w (.slice none 0 0) [] := ⟨none, 0, rfl, .inl rfl⟩
theorem Row.at {w : World} {s : Value} {zs : List Int} (h : Row w s zs) {i : Nat} (hi : i < zs.length) : ∃ b off cap, s = .slice (some ⟨b, off, none⟩) zs.length cap ∧ b < w.heap.size ∧ ∀ j, j < zs.length → w.cell? ⟨b, off + j, none⟩ = some (.int .i64 (zs.getD j 0)) := by
  obtain ⟨a, cap, rfl, h⟩ := h
  rcases h with h | ⟨b, off, rfl, hb, hc⟩
  · rw [h] at hi; simp at hi
  · exact ⟨b, off, cap, rfl, hb, hc⟩
theorem RowE.at {w : World} {s : Value} {es : List Ed} (h : RowE w s es) {i : Nat} (hi : i < es.length) : ∃ b off cap, s = .slice (some ⟨b, off, none⟩) es.length cap ∧ b < w.heap.size ∧ ∀ j, j < es.length → w.cell? ⟨b, off + j * 3, none⟩ = some (.int .i64 (es.getD j (0, 0, 0)).1) ∧ w.cell? ⟨b, off + j * 3 + 1, none⟩ = some (.int .i64 (es.getD j (0, 0, 0)).2.1) ∧ w.cell? ⟨b, off + j * 3 + 2, none⟩ = some (.int .i64 (es.getD j (0, 0, 0)).2.2) := by
  obtain ⟨a, cap, rfl, h⟩ := h
  rcases h with h | ⟨b, off, rfl, hb, hc⟩
  · rw [h] at hi; simp at hi
  · exact ⟨b, off, cap, rfl, hb, hc⟩
end Go.Proofs.Ytdblcaeeepkebaa
