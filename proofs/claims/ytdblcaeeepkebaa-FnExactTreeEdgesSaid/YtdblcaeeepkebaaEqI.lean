/- Slices of integers that the laws compare. -/
import Derived.Test.YtdblcaeeepkebaaBase
import Derived.Deep.OwnRows
namespace Go.Proofs.Ytdblcaeeepkebaa
open Go.RowKit Go.BigFrame Go.Deep
set_option linter.unusedVariables false
set_option linter.unusedSimpArgs false

theorem below_drewN0 {B : Nat} {a w : World} (h : Below B a w) (n : Nat) : Below B a (w.drewN n) := ⟨h.os, h.tape, h.output, h.size, h.block⟩

theorem eqIntS4 (zs : List Int) (s t : Value) (w : World) (hs : Row w s zs) (ht : Row w t zs) (hl : zs.length ≤ 4194304) :
    Calls Try.prog 17 #[s, t] w fun e w' => e = .returned (.bool true) ∧ Below w.heap.size w w' := by
  obtain ⟨a, cap, rfl, hz0⟩ := hs
  have hz := Lib.hid hz0
  obtain ⟨a2, cap2, rfl, hy0⟩ := ht
  have hy := Lib.hid hy0
  clear hz0 hy0
  go_enter Try.func17, Try.ntmps17
  go_wp2
  go_loopw [5] (fun c wr => ∃ k : Nat, k ≤ zs.length ∧ c = .int .i64 k ∧ Below w.heap.size w wr) (fun c _ => zs.length - (intOf c).toNat)
  case atStart => exact ⟨0, Nat.zero_le _, rfl, Below.refl _ _⟩
  case round =>
    obtain ⟨k, hk, rfl, hbel⟩ := hrel
    by_cases hlt : k < zs.length
    · have hlt' : (k : Int) < zs.length := by omega
      rcases hz.out with h0 | ⟨b, off, rfl, hb, hc⟩
      · rw [h0] at hlt; simp at hlt
      rcases hy.out with h0 | ⟨b2, off2, rfl, hb2, hc2⟩
      · rw [h0] at hlt; simp at hlt
      obtain ⟨x, hx⟩ : ∃ x, x = zs.getD k 0 := ⟨_, rfl⟩
      have hck : wr.cell? ⟨b, off + k, none⟩ = some (.int .i64 x) := by rw [hbel.cell (p := ⟨b, off + k, none⟩) hb, hx]; exact hc k hlt
      have hck2 : wr.cell? ⟨b2, off2 + k, none⟩ = some (.int .i64 x) := by rw [hbel.cell (p := ⟨b2, off2 + k, none⟩) hb2, hx]; exact hc2 k hlt
      have HX := Lib.hid hx
      clear hc hc2 hx
      go_wp2
      go_quiet (fail)
      go_wp2
      go_roundw
      case rel => first | exact ⟨k + 1, by omega, by go_num, below_drewN0 hbel _⟩ | ((repeat apply Exists.intro); exact ⟨⟨k + 1, by omega, by go_num, below_drewN0 hbel _⟩, rfl⟩)
      case measure => simp [intOf]; omega
    · have hke : k = zs.length := by omega
      have hkk : ¬ ((k : Int) < zs.length) := by omega
      have HK := Lib.hid hke
      clear hke
      go_wp2
      go_ret
      exact ⟨rfl, hbel⟩
theorem eqIntS (zs : List Int) (s t : Value) (w : World) (hs : Row w s zs) (ht : Row w t zs) (hl : zs.length ≤ 1048576) :
    Calls Try.prog 17 #[s, t] w fun e w' => e = .returned (.bool true) ∧ Below w.heap.size w w' := eqIntS4 zs s t w hs ht (by omega)
end Go.Proofs.Ytdblcaeeepkebaa
