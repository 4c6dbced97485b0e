/- Two results of a search that are the same. -/
import Derived.Test.YtlmhccjppmhdbaaGvInts
import Derived.Test.YtlmhccjppmhdbaaOpenV
import Derived.Test.YtlmhccjppmhdbaaBoxes
namespace Go.Proofs.Ytlmhccjppmhdbaa
open Go.RowKit Go.BigFrame Go.Deep
set_option linter.unusedVariables false
set_option linter.unusedSimpArgs false

theorem row_pre {w : World} {a : Option Addr} {n c c' k : Nat} {zs : List Int} (h : Row w (.slice a n c) zs) (hk : k ≤ zs.length) : Row w (.slice a k c') (zs.take k) := by
  obtain ⟨a', cap, he, hz⟩ := h
  injection he with e1 e2 e3
  subst e1
  have hl : (zs.take k).length = k := by rw [List.length_take]; omega
  refine ⟨a, c', by rw [hl], ?_⟩
  rcases hz with hz | ⟨b, off, rfl, hb, hc⟩
  · left; rw [hz]; simp
  · refine .inr ⟨b, off, rfl, hb, fun i hi => ?_⟩
    rw [hl] at hi
    rw [hc i (by omega)]
    simp [List.getD, List.getElem?_take, hi]
set_option maxHeartbeats 2000000 in
theorem gvSettled (L : Int) (x y z : List Int) (a b c p q r : Value) (w : World) (ha : Row w a x) (hb : Row w b y) (hc : Row w c z) (hp : Row w p x) (hq : Row w q y) (hr : Row w r z) (hl : x.length ≤ 281474976710656) (hl2 : y.length ≤ 281474976710656) (hl3 : z.length ≤ 281474976710656) :
    Calls Try.prog 31 #[.agg #[a, b, c, .int .i64 L], .agg #[p, q, r, .int .i64 L]] w fun e w' => e = .returned (.bool true) ∧ Below w.heap.size w w' := by
  have hB : ∀ (A B : Obj), Below w.heap.size w ((w.alloc A).alloc B) := fun A B => ((Below.refl _ _).alloc (Nat.le_refl _) _).alloc (by simp) _
  have h1 := fun w' (h : Below w.heap.size w w') => gvInts x a p w' (ha.keep h) (hp.keep h) hl
  have h2 := fun w' (h : Below w.heap.size w w') => gvInts y b q w' (hb.keep h) (hq.keep h) hl2
  have h3 := fun w' (h : Below w.heap.size w w') => gvInts z c r w' (hc.keep h) (hr.keep h) hl3
  have H1 := Lib.hid h1
  have H2 := Lib.hid h2
  have H3 := Lib.hid h3
  have b0 : Box ((w.alloc (.cells #[a, b, c, .int .i64 L] 28)).alloc (.cells #[p, q, r, .int .i64 L] 28)) w.heap.size 28 #[a, b, c, .int .i64 L] := (Box.new w _ _).alloc _
  have b1 : Box ((w.alloc (.cells #[a, b, c, .int .i64 L] 28)).alloc (.cells #[p, q, r, .int .i64 L] 28)) (w.heap.size + 1) 28 #[p, q, r, .int .i64 L] := by
    have := Box.new (w.alloc (.cells #[a, b, c, .int .i64 L] 28)) 28 #[p, q, r, .int .i64 L]
    simpa using this
  have K0 := Lib.hid (And.intro (hB (.cells #[a, b, c, .int .i64 L] 28) (.cells #[p, q, r, .int .i64 L] 28)) (And.intro b0 b1))
  obtain ⟨aa, ac, rfl, hz0⟩ := ha
  obtain ⟨ba, bc, rfl, hz1⟩ := hb
  obtain ⟨da, dc, rfl, hz2⟩ := hc
  obtain ⟨pa, pc, rfl, hz3⟩ := hp
  obtain ⟨qa, qc, rfl, hz4⟩ := hq
  obtain ⟨ra, rc, rfl, hz5⟩ := hr
  clear hz0 hz1 hz2 hz3 hz4 hz5 h1 h2 h3 hB b0 b1
  go_enter Try.func31, Try.ntmps31
  go_wp2_with fail
  generalize ((w.alloc (.cells #[.slice aa x.length ac, .slice ba y.length bc, .slice da z.length dc, .int .i64 L] 28)).alloc (.cells #[.slice pa x.length pc, .slice qa y.length qc, .slice ra z.length rc, .int .i64 L] 28)) = v0 at K0 ⊢
  refine (H1.out _ K0.out.1).mono ?_
  rintro e v1 ⟨rfl, hb1⟩
  have K1 := Lib.hid (And.intro (bel_trans K0.out.1 hb1) (And.intro (K0.out.2.1.keep hb1) (K0.out.2.2.keep hb1)))
  have x1 : v1.cell? ⟨w.heap.size, 1, none⟩ = some (.slice ba y.length bc) := by simpa using K1.out.2.1.cell 1
  have y1 : v1.cell? ⟨w.heap.size + 1, 1, none⟩ = some (.slice qa y.length qc) := by simpa using K1.out.2.2.cell 1
  clear hb1
  go_wp2_with fail
  refine (H2.out _ K1.out.1).mono ?_
  rintro e v2 ⟨rfl, hb2⟩
  have K2 := Lib.hid (And.intro (bel_trans K1.out.1 hb2) (And.intro (K1.out.2.1.keep hb2) (K1.out.2.2.keep hb2)))
  have x2 : v2.cell? ⟨w.heap.size, 2, none⟩ = some (.slice da z.length dc) := by simpa using K2.out.2.1.cell 2
  have y2 : v2.cell? ⟨w.heap.size + 1, 2, none⟩ = some (.slice ra z.length rc) := by simpa using K2.out.2.2.cell 2
  clear hb2 x1 y1
  go_wp2_with fail
  refine (H3.out _ K2.out.1).mono ?_
  rintro e v3 ⟨rfl, hb3⟩
  have K3 := Lib.hid (And.intro (bel_trans K2.out.1 hb3) (And.intro (K2.out.2.1.keep hb3) (K2.out.2.2.keep hb3)))
  have x3 : v3.cell? ⟨w.heap.size, 3, none⟩ = some (.int .i64 L) := by simpa using K3.out.2.1.cell 3
  have y3 : v3.cell? ⟨w.heap.size + 1, 3, none⟩ = some (.int .i64 L) := by simpa using K3.out.2.2.cell 3
  clear hb3 x2 y2
  go_wp2
  go_ret
  exact ⟨rfl, K3.out.1⟩

end Go.Proofs.Ytlmhccjppmhdbaa
