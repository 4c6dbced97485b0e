/- slices.Reverse at a row of the call's own. -/
import Derived.Test.YtlmhccjppmhdbaaShR
import Derived.Test.YtlmhccjppmhdbaaNext
import Derived.Lib.OwnBridge
namespace Go.Proofs.Ytlmhccjppmhdbaa
open Go.RowKit Go.BigFrame Go.Deep Go.Lib Go.Sort
set_option linter.unusedVariables false
set_option linter.unusedSimpArgs false

theorem reverseI (zs : List Int) (base : Nat) (v : Value) (w : World) (h : w.ownsRow base 3 1 v zs.length (zs.map (Value.int .i64))) (hl : zs.length ≤ 9223372036854775807) :
    Calls Try.prog 71 #[v] w fun e w' => e = .returned (.tuple #[]) ∧ w'.ownsRow base 3 1 v zs.length (zs.reverse.map (Value.int .i64)) ∧ (∀ W : World, W.heap.size ≤ base → Below W.heap.size W w → Below W.heap.size W w') := by
  by_cases hv : v = .slice none 0 0
  · subst hv
    have hz : zs = [] := by
      rcases h.2 with ⟨_, h0⟩ | ⟨g, cap, cur, e0, _⟩
      · exact List.length_eq_zero_iff.1 h0
      · cases e0
    subst hz
    exact (Any.slices_Reverse_int_empty Try.lays112 none 0 w).mono fun e w' ⟨he, hw⟩ => ⟨he, by subst hw; exact h, fun W _ hb => by subst hw; exact hb⟩
  · obtain ⟨g, cap, rfl, hb, hg, hn, hm, _, hH⟩ := holds_of_ownsRow h hv
    refine (Any.slices_Reverse_int Try.lays112 g 0 cap zs w hH hl).mono ?_
    rintro e w' ⟨he, q, rfl⟩
    refine ⟨he, ?_, fun W hW hB => below_putRow hB (by omega)⟩
    have h2 := ownsRow_putRow (ys := zs.reverse) (q := q) (k := zs.length) h (by simp) (Nat.le_refl _)
    rw [List.take_of_length_le (by simp)] at h2
    exact h2
end Go.Proofs.Ytlmhccjppmhdbaa
