/- The comparison of lists of changes in the laws: equal rows. -/
import Derived.Test.YtbhhbhopogkmnaaChgE
namespace Go.Proofs.Ytbhhbhopogkmnaa
open Go.RowKit Go.BigFrame
set_option linter.unusedVariables false
set_option linter.unusedSimpArgs false

set_option maxHeartbeats 1000000 in
theorem gvChanges (cs : List Ch) (s t : Value) (w : World) (hs : RowCh w s cs) (ht : RowCh w t cs) (hl : cs.length ≤ 281474976710656) :
    Calls Try.prog 23 #[s, t] w fun e w' => e = .returned (.bool true) ∧ Below w.heap.size w w' := by
  have HS := Lib.hid hs
  have HT := Lib.hid ht
  obtain ⟨a, cap, rfl⟩ := hs.slice
  obtain ⟨a2, cap2, rfl⟩ := ht.slice
  clear hs ht
  go_enter Try.func23, Try.ntmps23
  go_wp2
  go_loopw [5] (fun c wr => ∃ k : Nat, k ≤ cs.length ∧ c = .int .i64 k ∧ Below w.heap.size w wr) (fun c _ => cs.length - (intOf c).toNat)
  case atStart => exact ⟨0, Nat.zero_le _, rfl, Below.refl _ _⟩
  case round =>
    obtain ⟨k, hk, rfl, hbel⟩ := hrel
    by_cases hlt : k < cs.length
    · have hlt' : (k : Int) < cs.length := by omega
      obtain ⟨b, off, cp, hs1, hb, hc⟩ := HS.out.at hlt
      injection hs1 with hs1 _ hs3
      subst hs1 hs3
      obtain ⟨b2, off2, cp2, ht1, hb2, hc2⟩ := HT.out.at hlt
      injection ht1 with ht1 _ ht3
      subst ht1 ht3
      obtain ⟨q, x, y, z, hx⟩ : ∃ q x y z, (q, x, y, z) = cs.getD k chZ := ⟨_, _, _, _, rfl⟩
      have h1 := hc k hlt
      have h2 := hc2 k hlt
      rw [← hx] at h1 h2
      simp only at h1 h2
      have ff : ∀ w', Below wr.heap.size wr w' → w'.cell? ⟨b, off + k * 4, none⟩ = some (.bool q) ∧ w'.cell? ⟨b, off + k * 4 + 1, none⟩ = some (.int .i64 x) ∧ w'.cell? ⟨b, off + k * 4 + 2, none⟩ = some (.int .i64 y) ∧ w'.cell? ⟨b, off + k * 4 + 3, none⟩ = some (.int .i64 z) ∧
          w'.cell? ⟨b2, off2 + k * 4, none⟩ = some (.bool q) ∧ w'.cell? ⟨b2, off2 + k * 4 + 1, none⟩ = some (.int .i64 x) ∧ w'.cell? ⟨b2, off2 + k * 4 + 2, none⟩ = some (.int .i64 y) ∧ w'.cell? ⟨b2, off2 + k * 4 + 3, none⟩ = some (.int .i64 z) := by
        intro w' h
        have hB := bel_trans hbel h
        exact ⟨(hB.cell (p := ⟨b, _, none⟩) hb).trans h1.1, (hB.cell (p := ⟨b, _, none⟩) hb).trans h1.2.1, (hB.cell (p := ⟨b, _, none⟩) hb).trans h1.2.2.1, (hB.cell (p := ⟨b, _, none⟩) hb).trans h1.2.2.2, (hB.cell (p := ⟨b2, _, none⟩) hb2).trans h2.1, (hB.cell (p := ⟨b2, _, none⟩) hb2).trans h2.2.1, (hB.cell (p := ⟨b2, _, none⟩) hb2).trans h2.2.2.1, (hB.cell (p := ⟨b2, _, none⟩) hb2).trans h2.2.2.2⟩
      have FF := Lib.hid ff
      clear hc hc2 h1 h2 ff hx
      go_wp2
      refine wp_region_below (by kernel_rfl) (by kernel_rfl) ?_
      repeat (go_big_quiet_step ((intro hw; first | with_reducible rfl | (obtain ⟨f0, f1, f2, f3, g0, g1, g2, g3⟩ := FF.out _ hw; simp only [f0, f1, f2, f3, g0, g1, g2, g3, Result.andThen]; first | exact ⟨trivial, rfl⟩ | exact ⟨rfl, rfl⟩))))
      refine wpQuiet_nil ?_
      intro w1 hw1
      go_wp2
      go_roundw
      case rel => first | exact ⟨k + 1, by omega, by go_num, bel_trans hbel hw1⟩ | ((repeat apply Exists.intro); exact ⟨⟨k + 1, by omega, by go_num, bel_trans hbel hw1⟩, rfl⟩)
      case measure => simp [intOf]; omega
    · have hke : k = cs.length := by omega
      have hkk : ¬ ((k : Int) < cs.length) := by omega
      clear hke
      go_wp2
      go_ret
      exact ⟨rfl, hbel⟩
end Go.Proofs.Ytbhhbhopogkmnaa
