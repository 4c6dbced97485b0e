/- Copies of rows of edges. -/
import Derived.Test.YtbhhbhopogkmnaaCase3
import Derived.Test.YtbhhbhopogkmnaaRelaxJ
namespace Go.Proofs.Ytbhhbhopogkmnaa
open Go.RowKit Go.BigFrame Go.Deep
set_option linter.unusedVariables false
set_option linter.unusedSimpArgs false

set_option maxRecDepth 20000 in
set_option maxHeartbeats 1000000 in
theorem cloneE (es : List Ed) (b off cap : Nat) (w : World) (hr : RowE w (.slice (some ⟨b, off, none⟩) es.length cap) es) (hl : es.length ≤ 1048576) :
    Calls Try.prog 69 #[.slice (some ⟨b, off, none⟩) es.length cap] w fun e w' => ∃ v, e = .returned v ∧ OwnE w w' v es ∧ okS v ∧ Below w.heap.size w w' := by
  have hnews : ∀ j u, (cellsE es)[j]? = some u → (w.alloc (.cells #[] 49)).cell? ((⟨b, off, none⟩ : Addr).add j) = some u := fun j u hj => Lib.cell?_alloc_some _ (news_of hr j u hj)
  have HN := Lib.hid hnews
  obtain ⟨i0, hi, hz0, hz1, hz2⟩ := info_parts info_edge
  have HI := Lib.hid (And.intro hi (And.intro hz0 (And.intro hz1 hz2)))
  have hown0 : (w.alloc (.cells #[] 49)).ownsRow w.heap.size 49 3 (.slice (some ⟨w.heap.size, 0, none⟩) 0 0) 0 [] := World.ownsRow_made w #[] 0 (Nat.le_refl _) (by unfold maxLen; omega) rfl
  have HO := Lib.hid hown0
  have hall : ∀ u ∈ cellsE es, u.oneCell' = true := cellsE_one es
  have HALL := Lib.hid hall
  have hlen : (cellsE es).length = es.length * 3 := cellsE_len es
  have HLEN := Lib.hid hlen
  have hq : ∀ w, (binOp .eql 32 (.slice (some ⟨b, off, none⟩) es.length cap) (.slice none 0 0)).run Try.prog w = .ok (.bool false) w := fun w => Lib.run_eql_slice_nil w _ _ (some ⟨b, off, none⟩) es.length cap 0 0 Try.underlying32
  clear hown0 hnews hi hz0 hz1 hz2 hall hlen hr
  go_enter Try.func69, Try.ntmps69
  obtain ⟨hi, hz0, hz1, hz2⟩ := HI.out
  go_wp2_with (at_builtin; refine wpList_append_own _ rfl _ _ 32 rfl w.heap.size 49 i0 (.agg #[.int .i64 0, .int .i64 0, .int .i64 0]) 3 24 Try.underlying32 hi hz0 hz1 hz2 rfl (by decide) _ _ _ rfl HO.out ⟨b, off, none⟩ es.length cap (cellsE es) rfl ?c1 HN.out HALL.out ?c3 ?c4 ?c5 ?_)
  case c1 => exact HLEN.out
  case c3 => unfold maxLen; omega
  case c4 => omega
  case c5 => simp
  intro v' w6 hown6 hgrow6 _
  have hown7 : w6.ownsRow w.heap.size 49 3 v' es.length (cellsE es) := by simpa using hown6
  have H7 := Lib.hid hown7
  have hB : Below w.heap.size w w6 := ((Below.refl _ w).alloc (Nat.le_refl _) _).grown hgrow6 (by simp) (by intro k hk; simp [Value.ownBlock] at hk; omega)
  clear hown6 hown7 hgrow6 hi hz0 hz1 hz2
  go_wp2
  go_ret
  exact ⟨v', rfl, OwnE.of H7.out (Nat.le_refl _), own_ok H7.out, hB⟩
end Go.Proofs.Ytbhhbhopogkmnaa
