/- The kinds and measures that the model draws. A drawn graph, a measure and a source, in the model. -/
import Derived.Test.YtjcfefpcilhelaaImpl
import Derived.Test.YtjcfefpcilhelaaDraw0
import Derived.Test.YtjcfefpcilhelaaWrong
namespace Go.Proofs.Ytjcfefpcilhelaa
open Go.RowKit Go.BigFrame
set_option linter.unusedVariables false
set_option linter.unusedSimpArgs false

theorem l1Kind (W w : World) (g q : Nat) (h : Rd W w g q) (hq : q ≤ 1000000) :
    Calls Try.prog 96 #[.pointer (some ⟨g, 0, none⟩)] w fun e w' => ∃ x : Int, e = .returned (.int .i64 x) ∧ Rd W w' g (q + 1) ∧ w.grownBy w' (some g) := by
  have HD := Lib.hid h
  clear h
  go_enter Try.func96, Try.ntmps96
  go_wp2_with fail
  refine (num_built [1, 2, 3, 5, 4] W w g q HD.out hq _ (by decide) (by decide)).mono ?_
  rintro e w' ⟨x, hx, rfl, hR, hG⟩
  have HR := Lib.hid (And.intro hR hG)
  clear hx hR hG
  go_wp2
  go_ret
  exact ⟨x, rfl, HR.out.1, HR.out.2⟩
theorem l1Wrong (m : Int) (W w : World) (g q : Nat) (h : Rd W w g q) (hq : q ≤ 900000) :
    Calls Try.prog 95 #[.pointer (some ⟨g, 0, none⟩), .int .i64 m] w fun e w' => ∃ x : Int, e = .returned (.int .i64 x) ∧ Rd W w' g (q + 2) ∧ w.grownBy w' (some g) := by
  have HD := Lib.hid h
  clear h
  go_enter Try.func95, Try.ntmps95
  go_wp2_with fail
  refine (pick 20 W w g q HD.out (by omega) (by omega)).mono ?_
  rintro e w' ⟨x, rfl, hx0, hx1, hR, hG⟩
  have HR := Lib.hid (And.intro hR hG)
  clear hR hG hx1
  by_cases h0 : x = 0
  · subst h0
    go_wp2_with fail
    refine (num_built [0, 6, -1] W w' g (q + 1) HR.out.1 (by omega) _ (by decide) (by decide)).mono ?_
    rintro e w2 ⟨y, hy, rfl, hR2, hG2⟩
    have HR2 := Lib.hid (And.intro hR2 hG2)
    clear hy hR2 hG2
    go_wp2
    go_ret
    exact ⟨y, rfl, HR2.out.1, grown_trans' HR.out.2 HR2.out.2⟩
  · have h1 : (x == 0) = false := by simpa using h0
    clear h0
    go_wp2
    go_ret
    exact ⟨m, rfl, HR.out.1.more (by omega), HR.out.2⟩
end Go.Proofs.Ytjcfefpcilhelaa
namespace Go.Proofs.Ytjcfefpcilhelaa
open Go.RowKit Go.BigFrame Go.Deep
set_option linter.unusedVariables false
set_option linter.unusedSimpArgs false
set_option linter.unnecessarySimpa false

theorem Bytes.keepB {w w' : World} {a : Option Addr} {n : Nat} (h : Bytes w a n) (hb : Below w.heap.size w w') : Bytes w' a n := by
  rcases h with h | ⟨b, off, rfl, hlt, hc⟩
  · exact .inl h
  · exact .inr ⟨b, off, rfl, Nat.lt_of_lt_of_le hlt hb.size, fun i hi => by
      obtain ⟨x, h0, h1, hx⟩ := hc i hi
      exact ⟨x, h0, h1, (hb.cell (p := ⟨b, off + i, none⟩) hlt).trans hx⟩⟩
theorem InR.grownG {w w' : World} {lo hi g : Nat} {s : Value} {n sz : Nat} {cs : Nat → Value} (r : InR true w lo hi s n sz cs) (h : w.grownBy w' (some g)) (hg : g < lo) : InR true w' lo hi s n sz cs := r.chg (g_chgG h) (.inl (by omega))
/-- A graph, a number and a number are drawn. -/
def DrawnC3 (w : World) (e : Ending) (w' : World) : Prop :=
  ∃ (n : Int) (es : List Ed) (v : Value) (m a : Int), e = .returned (.tuple #[.agg #[.int .i64 n, v], .int .i64 m, .int .i64 a]) ∧ es.length ≤ 41 ∧ InR true w' w.heap.size w'.heap.size v es.length 3 (cellE es) ∧ okS v ∧ Below w.heap.size w w'
theorem results_ctt {fn : Func} {p t u : Tmp} {ty : TypeId} (h : fn.results = #[.cell p ty, .tmp t, .tmp u]) (tmps : Array Value) (P : Program) (w : World) :
    (results fn tmps).run P w = ((asAddr (tmps.getD p undef)).run P w).andThen fun a w₁ => ((loadVar ty a).run P w₁).andThen fun v w₂ => .ok (.tuple #[v, tmps.getD t undef, tmps.getD u undef]) w₂ := by
  simp only [results, h]
  simp
theorem drawnC3_of {w w0 w8 w9 : World} {g q : Nat} {n m a : Int} {es : List Ed} {v : Value} (hb : Below w.heap.size w w0) (hR : Rd w0 w9 g q) (hB : Box w9 w.heap.size 25 #[.int .i64 0, .slice none 0 0])
    (hrow : InR true w9 w8.heap.size w9.heap.size v es.length 3 (cellE es)) (hok : okS v) (hl : es.length ≤ 41) (hs : w.heap.size < w8.heap.size) :
    DrawnC3 w (.returned (.tuple #[.agg #[.int .i64 n, v], .int .i64 m, .int .i64 a])) ((w9.setCell ⟨w.heap.size, 0, none⟩ (.int .i64 n)).setCell ⟨w.heap.size, 1, none⟩ v) := by
  refine ⟨n, es, v, m, a, rfl, hl, ?_, hok, ((bel_trans hb hR.bel).setCell (by simp) _).setCell (by simp) _⟩
  have h1 := ((hrow.set8 (k := 0) (u := .int .i64 n) hs).set8 (k := 1) (u := v) hs)
  exact h1.wider (by omega) (by simp) (Nat.le_refl _)
set_option maxRecDepth 20000 in
set_option maxHeartbeats 4000000 in
theorem l3Case (a : Option Addr) (n cap : Nat) (w : World) (hb : Bytes w a n) (hcap : n ≤ cap) (hn : n ≤ 281474976710656) :
    Calls Try.prog 54 #[.slice a n cap] w (DrawnC3 w) := by
  have hbx := Box.new w 25 #[.int .i64 0, .slice none 0 0]
  have hbl : Below w.heap.size w (w.alloc (.cells #[.int .i64 0, .slice none 0 0] 25)) := (Below.refl _ _).alloc (Nat.le_refl _) _
  have HC := Lib.hid hb
  clear hb
  go_enter Try.func54, Try.ntmps54
  go_wp2_with fail
  generalize (w.alloc (.cells #[.int .i64 0, .slice none 0 0] 25)) = w0 at hbx hbl ⊢
  refine (l15Open a n cap w0 (HC.out.keepB hbl) hcap hn).mono ?_
  rintro e w1 ⟨g, rfl, hR⟩
  have hs0 : w.heap.size < w0.heap.size := hbx.lt
  have hg0 := hR.new
  have hs01 := hR.bel.size
  have K1 := Lib.hid (And.intro hR (hbx.keep hR.bel))
  clear hbx hR
  go_wp2_with fail
  refine (l2Draw w0 w1 g 0 K1.out.1 (by omega)).mono ?_
  rintro e w2 ⟨n0, es, v, rfl, hgv, hrow, hok, hR, hG⟩
  obtain ⟨va, vc, rfl, hz9⟩ := id hrow
  have h12 := (gVal_iff.1 hgv).1.2.1
  have h40 := (gVal_iff.1 hgv).1.2.2
  have hb2 : Below w2.heap.size w2 (w2.alloc (.cells #[.int .i64 n0, .slice va es.length vc] 25)) := (Below.refl _ _).alloc (Nat.le_refl _) _
  have hs1 := hG.size
  have hs23 := hb2.size
  have hlt1 := K1.out.1.lt
  have K2 := Lib.hid (And.intro (hR.keep hb2) (And.intro ((K1.out.2.grownG hG (by omega)).keep hb2) (And.intro (InR.keep hrow hb2) (And.intro hok (Box.new w2 25 #[.int .i64 n0, .slice va es.length vc])))))
  clear hz9 hgv hrow hok hR hG hb2
  go_wp2_with fail
  generalize (w2.alloc (.cells #[.int .i64 n0, .slice va es.length vc] 25)) = w3 at K2 hs23 ⊢
  refine (l1Kind w0 w3 g _ K2.out.1 (by omega)).mono ?_
  rintro e w4 ⟨m0, rfl, hR, hG⟩
  have hs4 := hG.size
  have K4 := Lib.hid (And.intro hR (And.intro (K2.out.2.1.grownG hG (by omega)) (And.intro (InR.grownG K2.out.2.2.1 hG (by omega)) (K2.out.2.2.2.2.grownG hG (by omega)))))
  clear hR hG
  go_wp2_with fail
  refine (l1Wrong m0 w0 w4 g _ K4.out.1 (by omega)).mono ?_
  rintro e w5 ⟨m, rfl, hR, hG⟩
  have hs5 := hG.size
  have K5 := Lib.hid (And.intro hR (And.intro (K4.out.2.1.grownG hG (by omega)) (And.intro (InR.grownG K4.out.2.2.1 hG (by omega)) (K4.out.2.2.2.grownG hG (by omega)))))
  clear hR hG
  have x0 : w5.cell? ⟨w2.heap.size, 0, none⟩ = some (.int .i64 n0) := by simpa using K5.out.2.2.2.cell 0
  go_wp2_with fail
  refine (pick n0 w0 w5 g _ K5.out.1 (by omega) (by omega)).mono ?_
  rintro e w6 ⟨src, rfl, hx0, hx1, hR, hG⟩
  have hs6 := hG.size
  have K6 := Lib.hid (And.intro hR (And.intro (K5.out.2.1.grownG hG (by omega)) (And.intro (InR.grownG K5.out.2.2.1 hG (by omega)) (K5.out.2.2.2.grownG hG (by omega)))))
  clear hR hG hx0 hx1 x0
  go_wp2_with fail
  refine (pick 20 w0 w6 g _ K6.out.1 (by omega) (by omega)).mono ?_
  rintro e w7 ⟨c, rfl, hx0, hx1, hR, hG⟩
  have hs7 := hG.size
  have K7 := Lib.hid (And.intro (hR.more (show _ ≤ 60 by omega)) (And.intro (K6.out.2.1.grownG hG (by omega)) (And.intro (InR.grownG K6.out.2.2.1 hG (by omega)) (K6.out.2.2.2.grownG hG (by omega)))))
  clear hR hG hx0 hx1
  by_cases hc : c = 0
  · subst hc
    go_wp2_with fail
    refine (num_built [-1, 12] w0 w7 g _ K7.out.1 (by omega) _ (by decide) (by decide)).mono ?_
    rintro e w8 ⟨src2, hx, rfl, hR, hG⟩
    have hs8 := hG.size
    have K8 := Lib.hid (And.intro hR (And.intro (K7.out.2.1.grownG hG (by omega)) (And.intro (InR.grownG K7.out.2.2.1 hG (by omega)) (K7.out.2.2.2.grownG hG (by omega)))))
    clear hR hG hx
    have x0 : w8.cell? ⟨w2.heap.size, 0, none⟩ = some (.int .i64 n0) := by simpa using K8.out.2.2.2.cell 0
    have x1 : w8.cell? ⟨w2.heap.size, 1, none⟩ = some (.slice va es.length vc) := by simpa using K8.out.2.2.2.cell 1
    go_wp2_with fail
    refine (l2Wrong w0 w8 g _ n0 es (.slice va es.length vc) K8.out.1 (by omega) K8.out.2.2.1.edges K2.out.2.2.2.1 (by omega)).mono ?_
    rintro e w9 ⟨n1, es1, v1, rfl, hl1, hrow1, hok1, hR, hG⟩
    obtain ⟨va1, vc1, rfl, hz9⟩ := id hrow1
    have K9 := Lib.hid (And.intro hR (And.intro (K8.out.2.1.grownG hG (by omega)) (And.intro hrow1 hok1)))
    have hs9 := hG.size
    have r0 : w9.cell? ⟨w.heap.size, 0, none⟩ = some (.int .i64 0) := by simpa using K9.out.2.1.cell 0
    have r1 : w9.cell? ⟨w.heap.size, 1, none⟩ = some (.slice none 0 0) := by simpa using K9.out.2.1.cell 1
    have r2 := K9.out.2.1.frozen 0
    have r3 := K9.out.2.1.frozen 1
    clear hz9 hrow1 hok1 hR hG x0 x1
    go_wp2
    try simp only [Exit.inBlock, Exit.then]
    refine bodyPost_ret (v := .tuple #[.agg #[.int .i64 n1, .slice va1 es1.length vc1], .int .i64 m, .int .i64 src2]) ?_ rfl ?_
    · rw [results_ctt rfl]
      go_simp
    exact drawnC3_of hbl K9.out.1 K9.out.2.1 K9.out.2.2.1 K9.out.2.2.2 (by omega) (by omega)
  · have dc : (c == 0) = false := by simpa using hc
    have x0 : w7.cell? ⟨w2.heap.size, 0, none⟩ = some (.int .i64 n0) := by simpa using K7.out.2.2.2.cell 0
    have x1 : w7.cell? ⟨w2.heap.size, 1, none⟩ = some (.slice va es.length vc) := by simpa using K7.out.2.2.2.cell 1
    go_wp2_with fail
    refine (l2Wrong w0 w7 g _ n0 es (.slice va es.length vc) K7.out.1 (by omega) K7.out.2.2.1.edges K2.out.2.2.2.1 (by omega)).mono ?_
    rintro e w9 ⟨n1, es1, v1, rfl, hl1, hrow1, hok1, hR, hG⟩
    obtain ⟨va1, vc1, rfl, hz9⟩ := id hrow1
    have K9 := Lib.hid (And.intro hR (And.intro (K7.out.2.1.grownG hG (by omega)) (And.intro hrow1 hok1)))
    have hs9 := hG.size
    have r0 : w9.cell? ⟨w.heap.size, 0, none⟩ = some (.int .i64 0) := by simpa using K9.out.2.1.cell 0
    have r1 : w9.cell? ⟨w.heap.size, 1, none⟩ = some (.slice none 0 0) := by simpa using K9.out.2.1.cell 1
    have r2 := K9.out.2.1.frozen 0
    have r3 := K9.out.2.1.frozen 1
    clear hz9 hrow1 hok1 hR hG x0 x1
    go_wp2
    try simp only [Exit.inBlock, Exit.then]
    refine bodyPost_ret (v := .tuple #[.agg #[.int .i64 n1, .slice va1 es1.length vc1], .int .i64 m, .int .i64 src]) ?_ rfl ?_
    · rw [results_ctt rfl]
      go_simp
    exact drawnC3_of hbl K9.out.1 K9.out.2.1 K9.out.2.2.1 K9.out.2.2.2 (by omega) (by omega)
end Go.Proofs.Ytjcfefpcilhelaa
