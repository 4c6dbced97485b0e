/- The draw of two graphs. -/
import Derived.Test.YtbhhbhopogkmnaaCase9
import Derived.Test.YtbhhbhopogkmnaaChgM
namespace Go.Proofs.Ytbhhbhopogkmnaa
open Go.RowKit Go.BigFrame Go.Deep
set_option linter.unusedVariables false
set_option linter.unusedSimpArgs false
set_option linter.unnecessarySimpa false

theorem l15OpenD (W : World) (a : Option Addr) (n cap : Nat) (w : World) (hW : Below W.heap.size W w) (hb : Bytes W a n) (hcap : n ≤ cap) (hn : n ≤ 281474976710656) :
    Calls Try.prog 38 #[.slice a n cap] w fun e w' => ∃ g, e = .returned (.pointer (some ⟨g, 0, none⟩)) ∧ w.heap.size ≤ g ∧ Below w.heap.size w w' ∧ Rd W w' g 0 := by
  have hs := hW.size
  have hb2 : Bytes w a n := hb.keepB hW
  by_cases h2 : 2000 < n
  · obtain ⟨b, off, rfl, hlt, hc⟩ := hb.resolve_left (by omega)
    have HC := Lib.hid hc
    clear hc hb hb2
    go_enter Try.func38, Try.ntmps38
    go_wp2
    go_ret
    exact ⟨_, rfl, Nat.le_refl _, (Below.refl _ _).alloc (Nat.le_refl _) _, hs, bel_trans hW ((Below.refl _ _).alloc (Nat.le_refl _) _), ⟨_, 2000, cap, 0, by omega, by omega, .inr ⟨b, off, rfl, hlt, fun i hi => HC.out i (by omega)⟩, by go_simp, by go_simp⟩, by go_simp, by simp⟩
  · have HC := Lib.hid hb
    clear hb hb2
    go_enter Try.func38, Try.ntmps38
    go_wp2
    go_ret
    exact ⟨_, rfl, Nat.le_refl _, (Below.refl _ _).alloc (Nat.le_refl _) _, hs, bel_trans hW ((Below.refl _ _).alloc (Nat.le_refl _) _), ⟨_, n, cap, 0, by omega, by omega, HC.out, by go_simp, by go_simp⟩, by go_simp, by simp⟩
theorem Rd.setD {W w : World} {g q b k : Nat} (h : Rd W w g q) (hb : b ≠ g) (hw : W.heap.size ≤ b) (v : Value) : Rd W (w.setCell ⟨b, k, none⟩ v) g q := by
  obtain ⟨a, n, cap, p, h1, h2, h3, h4, h5⟩ := h.cells
  have hk : (w.setCell ⟨b, k, none⟩ v).heap[g]? = w.heap[g]? := Below.heap_setCell w _ _ g (by simp only; omega)
  exact ⟨h.new, h.bel.setCell hw _, ⟨a, n, cap, p, h1, h2, h3, by rw [World.cell?_of_block (a := ⟨g, 0, none⟩) hk]; exact h4, by rw [World.cell?_of_block (a := ⟨g, 1, none⟩) hk]; exact h5⟩,
    by rw [World.frozen?_of_block (a := ⟨g, 1, none⟩) hk]; exact h.free, by simpa using h.lt⟩
theorem results_ccD {fn : Func} {p r : Tmp} {ty ty2 : TypeId} (h : fn.results = #[.cell p ty, .cell r ty2]) (tmps : Array Value) (P : Program) (w : World) :
    (results fn tmps).run P w = ((asAddr (tmps.getD p undef)).run P w).andThen fun a w₁ => ((loadVar ty a).run P w₁).andThen fun v w₂ => ((asAddr (tmps.getD r undef)).run P w₂).andThen fun b w₃ => ((loadVar ty2 b).run P w₃).andThen fun u w₄ => .ok (.tuple #[v, u]) w₄ := by
  simp only [results, h]
  simp
/-- Two graphs are drawn. -/
def DrawnD9 (w : World) (e : Ending) (w' : World) : Prop :=
  ∃ (n : Int) (es : List Ed) (v : Value) (m : Int) (fs : List Ed) (u : Value), e = .returned (.tuple #[.agg #[.int .i64 n, v], .agg #[.int .i64 m, u]]) ∧ (es.length ≤ 41 ∧ fs.length ≤ 41) ∧ (InR true w' w.heap.size w'.heap.size v es.length 3 (cellE es) ∧ okS v) ∧ (InR true w' w.heap.size w'.heap.size u fs.length 3 (cellE fs) ∧ okS u) ∧ Below w.heap.size w w'
theorem drawnD9_of {w w9 : World} {lo hi lo2 hi2 : Nat} {n m : Int} {es fs : List Ed} {v u x0 x1 y0 y1 : Value} (hb : Below w.heap.size w w9) (hrow : InR true w9 lo hi v es.length 3 (cellE es)) (hlo : w.heap.size + 2 ≤ lo) (hhi : hi ≤ w9.heap.size) (hok : okS v) (hl : es.length ≤ 41) (hrow2 : InR true w9 lo2 hi2 u fs.length 3 (cellE fs)) (hlo2 : w.heap.size + 2 ≤ lo2) (hhi2 : hi2 ≤ w9.heap.size) (hok2 : okS u) (hl2 : fs.length ≤ 41) :
    DrawnD9 w (.returned (.tuple #[.agg #[.int .i64 n, v], .agg #[.int .i64 m, u]])) ((((w9.setCell ⟨w.heap.size, 0, none⟩ x0).setCell ⟨w.heap.size, 1, none⟩ x1).setCell ⟨w.heap.size + 1, 0, none⟩ y0).setCell ⟨w.heap.size + 1, 1, none⟩ y1) := by
  have hc : Chg w.heap.size (w.heap.size + 2) w9 ((((w9.setCell ⟨w.heap.size, 0, none⟩ x0).setCell ⟨w.heap.size, 1, none⟩ x1).setCell ⟨w.heap.size + 1, 0, none⟩ y0).setCell ⟨w.heap.size + 1, 1, none⟩ y1) := ((((Chg.refl _ _ _).setCell (by simp) (by simp) _).setCell (by simp) (by simp) _).setCell (by simp) (by simp) _).setCell (by simp) (by simp) _
  exact ⟨n, es, v, m, fs, u, rfl, ⟨hl, hl2⟩, ⟨(hrow.chg hc (.inl (by omega))).wider (by omega) (Nat.le_trans hhi hc.size) (Nat.le_refl _), hok⟩, ⟨(hrow2.chg hc (.inl (by omega))).wider (by omega) (Nat.le_trans hhi2 hc.size) (Nat.le_refl _), hok2⟩, bel_chg hb hc (Nat.le_refl _)⟩
theorem DrawnD9.drew' {w W : World} {e : Ending} (h : DrawnD9 w e W) : DrawnD9 w e W.drew := by
  obtain ⟨n, es, v, m, fs, u, rfl, hl, ⟨r1, k1⟩, ⟨r2, k2⟩, hb⟩ := h
  have hd := (Below.refl W.heap.size W).drew
  exact ⟨n, es, v, m, fs, u, rfl, hl, ⟨(InR.keep r1 hd).wider (Nat.le_refl _) hd.size (Nat.le_refl _), k1⟩, ⟨(InR.keep r2 hd).wider (Nat.le_refl _) hd.size (Nat.le_refl _), k2⟩, bel_trans hb hd⟩

set_option maxRecDepth 20000 in
set_option maxHeartbeats 4000000 in
theorem dDrawDiffGraphs (a : Option Addr) (n cap : Nat) (w : World) (hb : Bytes w a n) (hcap : n ≤ cap) (hn : n ≤ 281474976710656) :
    Calls Try.prog 27 #[.slice a n cap] w (DrawnD9 w) := by
  have hbl : Below w.heap.size w ((w.alloc (.cells #[.int .i64 0, .slice none 0 0] 34)).alloc (.cells #[.int .i64 0, .slice none 0 0] 34)) := ((Below.refl _ _).alloc (Nat.le_refl _) _).alloc (by simp) _
  have hx2 : Box ((w.alloc (.cells #[.int .i64 0, .slice none 0 0] 34)).alloc (.cells #[.int .i64 0, .slice none 0 0] 34)) w.heap.size 34 #[.int .i64 0, .slice none 0 0] := (Box.new w _ _).alloc _
  have hx3 : Box ((w.alloc (.cells #[.int .i64 0, .slice none 0 0] 34)).alloc (.cells #[.int .i64 0, .slice none 0 0] 34)) (w.heap.size + 1) 34 #[.int .i64 0, .slice none 0 0] := by
    have := Box.new (w.alloc (.cells #[.int .i64 0, .slice none 0 0] 34)) 34 #[.int .i64 0, .slice none 0 0]
    simpa using this
  have hsz : ((w.alloc (.cells #[.int .i64 0, .slice none 0 0] 34)).alloc (.cells #[.int .i64 0, .slice none 0 0] 34)).heap.size = w.heap.size + 2 := by simp
  have HC := Lib.hid hb
  clear hb
  go_enter Try.func27, Try.ntmps27
  go_wp2_with fail
  generalize ((w.alloc (.cells #[.int .i64 0, .slice none 0 0] 34)).alloc (.cells #[.int .i64 0, .slice none 0 0] 34)) = w0 at hbl hx2 hx3 hsz ⊢
  refine (l9Case a n cap w0 (HC.out.keepB hbl) hcap hn).mono ?_
  rintro e w1 ⟨n1, es, v1, cs, t, rfl, ⟨hl1, hl2⟩, ⟨hrow1, hok1⟩, ⟨hrow2, hok2⟩, hb1⟩
  obtain ⟨va, vc, rfl, hz9⟩ := id hrow1
  obtain ⟨ta, tc, rfl, hz8⟩ := id hrow2
  have hs1 := hb1.size
  have hb2 : Below w1.heap.size w1 (w1.alloc (.cells #[.int .i64 n1, .slice va es.length vc] 34)) := (Below.refl _ _).alloc (Nat.le_refl _) _
  have K2 := Lib.hid (And.intro ((hx2.keep hb1).keep hb2) (And.intro ((hx3.keep hb1).keep hb2) (And.intro (Box.new w1 34 #[.int .i64 n1, .slice va es.length vc]) (And.intro (InR.keep hrow1 hb2) (And.intro (@InR.keep _ _ _ _ _ _ _ _ _ hrow2 hb2) (And.intro hok1 (bel_trans (bel_trans hbl hb1) hb2)))))))
  have hs2 := hb2.size
  clear hz9 hz8 hrow1 hok1 hrow2 hok2 hx2 hx3 hb1 hb2
  go_wp2_with fail
  generalize (w1.alloc (.cells #[.int .i64 n1, .slice va es.length vc] 34)) = w2 at K2 hs2 ⊢
  have x0 : w2.cell? ⟨w1.heap.size, 0, none⟩ = some (.int .i64 n1) := by simpa using K2.out.2.2.1.cell 0
  have x1 : w2.cell? ⟨w1.heap.size, 1, none⟩ = some (.slice va es.length vc) := by simpa using K2.out.2.2.1.cell 1
  go_wp2_with fail
  have hrl := apR_len n1 es cs
  have hap := sApplyChanges n1 es cs _ _ w2 K2.out.2.2.2.1.edges K2.out.2.2.2.2.1.changes K2.out.2.2.2.2.2.1 (by omega) (by omega)
  generalize apN n1 es cs = N3 at hap
  generalize apB n1 es cs = B at hap
  generalize apR n1 es cs = R3 at hap hrl
  have HAP := Lib.hid hap
  clear hap
  refine HAP.out.mono ?_
  rintro e w3 ⟨v3, rfl, hown3, hok3, hb3⟩
  obtain ⟨a3, c3, rfl, hz9⟩ := id hown3
  have hs3 := hb3.size
  have hb4 : Below w3.heap.size w3 (w3.alloc (.cells #[.int .i64 N3, .slice a3 R3.length c3] 34)) := (Below.refl _ _).alloc (Nat.le_refl _) _
  have hs4 := hb4.size
  have K4 := Lib.hid (And.intro ((K2.out.1.keep hb3).keep hb4) (And.intro ((K2.out.2.1.keep hb3).keep hb4) (And.intro ((K2.out.2.2.1.keep hb3).keep hb4) (And.intro (InR.keep (InR.keep K2.out.2.2.2.1 hb3) hb4) (And.intro (Box.new w3 34 #[.int .i64 N3, .slice a3 R3.length c3]) (And.intro (@InR.keep _ _ _ _ _ _ _ _ _ hown3 hb4) (And.intro hok3 (bel_trans (bel_trans K2.out.2.2.2.2.2.2 hb3) hb4))))))))
  clear hz9 hown3 hok3 hb3 hb4 x0 x1
  go_wp2_with fail
  generalize (w3.alloc (.cells #[.int .i64 N3, .slice a3 R3.length c3] 34)) = w4 at K4 hs4 ⊢
  have hlt3 := K4.out.2.2.2.2.1.lt
  have hlt1 := K2.out.2.2.1.lt
  refine (l15OpenD w a n cap w4 K4.out.2.2.2.2.2.2.2 HC.out hcap hn).mono ?_
  rintro e w5 ⟨g, rfl, hg5, hb5, hR5⟩
  have hs5 := hb5.size
  have K5 := Lib.hid (And.intro (K4.out.1.keep hb5) (And.intro (K4.out.2.1.keep hb5) (And.intro (K4.out.2.2.1.keep hb5) (And.intro (InR.keep K4.out.2.2.2.1 hb5) (And.intro (K4.out.2.2.2.2.1.keep hb5) (And.intro (InR.keep K4.out.2.2.2.2.2.1 hb5) hR5))))))
  clear hb5 hR5

  cases B
  · have hold : ∀ w' : World, w5.grownBy w' (some g) → ((w'.cell? ⟨w1.heap.size, 0, none⟩ = some (.int .i64 n1) ∧ w'.cell? ⟨w1.heap.size, 1, none⟩ = some (.slice va es.length vc)) ∧ (w'.cell? ⟨w.heap.size, 0, none⟩ = some (.int .i64 0) ∧ w'.cell? ⟨w.heap.size, 1, none⟩ = some (.slice none 0 0) ∧ w'.cell? ⟨w.heap.size + 1, 0, none⟩ = some (.int .i64 0) ∧ w'.cell? ⟨w.heap.size + 1, 1, none⟩ = some (.slice none 0 0)) ∧ (w'.frozen? ⟨w.heap.size, 0, none⟩ = false ∧ w'.frozen? ⟨w.heap.size, 1, none⟩ = false ∧ w'.frozen? ⟨w.heap.size + 1, 0, none⟩ = false ∧ w'.frozen? ⟨w.heap.size + 1, 1, none⟩ = false)) ∧ InR true w' w0.heap.size w1.heap.size (.slice va es.length vc) es.length 3 (cellE es) := fun w' h => by
      have b2 := (K5.out.1.grownG h (by omega))
      have b3 := (K5.out.2.1.grownG h (by omega))
      have b4 := (K5.out.2.2.1.grownG h (by omega))
      refine ⟨⟨⟨by simpa using b4.cell 0, by simpa using b4.cell 1⟩, ⟨by simpa using b2.cell 0, by simpa using b2.cell 1, by simpa using b3.cell 0, by simpa using b3.cell 1⟩, b2.frozen 0, b2.frozen 1, b3.frozen 0, b3.frozen 1⟩, K5.out.2.2.2.1.chg (g_chgG h) (.inr (by omega))⟩
    have HOLD := Lib.hid hold
    clear hold
    have hb4 : ∀ w' : World, w5.grownBy w' (some g) → Box w' w1.heap.size 34 #[.int .i64 n1, .slice va es.length vc] := fun w' h => (K5.out.2.2.1.grownG h (by omega))
    have HB4 := Lib.hid hb4
    have hkc : ∀ w' : World, Box w' w1.heap.size 34 #[.int .i64 n1, .slice va es.length vc] → (w'.cell? ⟨w1.heap.size, 0, none⟩ = some (.int .i64 n1) ∧ w'.cell? ⟨w1.heap.size, 1, none⟩ = some (.slice va es.length vc)) := fun w' b => ⟨by simpa using b.cell 0, by simpa using b.cell 1⟩
    have HKC := Lib.hid hkc
    clear hkc hb4
    have hdz9 : w5.heap.size ≤ w5.drew.heap.size := ((Below.refl w5.heap.size w5).drew).size
    go_upto_region 5 with fail
    go_region_held3 (fun w' : World => w'.cell? ⟨w1.heap.size, 0, none⟩ = some (.int .i64 n1) ∧ w'.cell? ⟨w1.heap.size, 1, none⟩ = some (.slice va es.length vc)) (first | with_reducible exact HKC.out _ (HB4.out _ (g_drew (grown_refl _ _))) | with_reducible exact HKC.out _ (HB4.out _ (grown_trans' (g_drew (grown_refl _ _)) hG9)) | with_reducible exact HKC.out _ ((((HB4.out _ (grown_trans' (g_drew (grown_refl _ _)) hG9))).setOther (B' := w.heap.size) (by omega) 0 _).setOther (B' := w.heap.size) (by omega) 1 _) | with_reducible exact HKC.out _ (((((((HB4.out _ (grown_trans' (g_drew (grown_refl _ _)) hG9))).setOther (B' := w.heap.size) (by omega) 0 _).setOther (B' := w.heap.size) (by omega) 1 _)).setOther (B' := w.heap.size + 1) (by omega) 0 _).setOther (B' := w.heap.size + 1) (by omega) 1 _)) (first | (go_at_call 52; (with_reducible refine (l2Draw w _ g 0 (Rd.drew' K5.out.2.2.2.2.2.2) (by omega)).mono ?_); rintro e w9 ⟨n9, es9, v9, rfl, hgv9, hrow9, hok9, hR9, hG9⟩; obtain ⟨a9, c9, rfl, hz9⟩ := id hrow9; obtain ⟨⟨p0, p1, q0, q1⟩, fp0, fp1, fq0, fq1⟩ := (HOLD.out _ (grown_trans' (g_drew (grown_refl _ _)) hG9)).1.2))
    all_goals
      have hsz9 := (grown_trans' (g_drew (grown_refl _ _)) hG9).size
      have h40 := (gVal_iff.1 hgv9).1.2.2
      have hr9 := (HOLD.out _ (grown_trans' (g_drew (grown_refl _ _)) hG9)).2
      go_wp2
      try simp only [Exit.inBlock, Exit.then]
      refine bodyPost_ret (v := .tuple #[.agg #[.int .i64 n1, .slice va es.length vc], .agg #[.int .i64 n9, .slice a9 es9.length c9]]) ?_ rfl ?_
      · rw [results_ccD rfl]
        go_simp
      exact drawnD9_of hR9.bel hr9 (by omega) (by omega) K2.out.2.2.2.2.2.1 hl1 hrow9 (by omega) (Nat.le_refl _) hok9 (by omega)
  · go_wp2_with fail
    refine (pick 6 w w5 g 0 K5.out.2.2.2.2.2.2 (by omega) (by omega)).mono ?_
    rintro e w6 ⟨x6, rfl, hx6, hy6, hR6, hG6⟩
    have hs6 := hG6.size
    have K6 := Lib.hid (And.intro (K5.out.1.grownG hG6 (by omega)) (And.intro (K5.out.2.1.grownG hG6 (by omega)) (And.intro (K5.out.2.2.1.grownG hG6 (by omega)) (And.intro (K5.out.2.2.2.1.chg (g_chgG hG6) (.inr (by omega))) (And.intro (K5.out.2.2.2.2.1.grownG hG6 (by omega)) (And.intro (K5.out.2.2.2.2.2.1.chg (g_chgG hG6) (.inr (by omega))) hR6))))))
    clear hR6 hG6
    by_cases h6 : x6 = 0
    · have d6 : (x6 == 0) = true := by simpa using h6
      subst h6
      have hold : ∀ w' : World, w6.grownBy w' (some g) → ((w'.cell? ⟨w1.heap.size, 0, none⟩ = some (.int .i64 n1) ∧ w'.cell? ⟨w1.heap.size, 1, none⟩ = some (.slice va es.length vc)) ∧ (w'.cell? ⟨w.heap.size, 0, none⟩ = some (.int .i64 0) ∧ w'.cell? ⟨w.heap.size, 1, none⟩ = some (.slice none 0 0) ∧ w'.cell? ⟨w.heap.size + 1, 0, none⟩ = some (.int .i64 0) ∧ w'.cell? ⟨w.heap.size + 1, 1, none⟩ = some (.slice none 0 0)) ∧ (w'.frozen? ⟨w.heap.size, 0, none⟩ = false ∧ w'.frozen? ⟨w.heap.size, 1, none⟩ = false ∧ w'.frozen? ⟨w.heap.size + 1, 0, none⟩ = false ∧ w'.frozen? ⟨w.heap.size + 1, 1, none⟩ = false)) ∧ InR true w' w0.heap.size w1.heap.size (.slice va es.length vc) es.length 3 (cellE es) := fun w' h => by
        have b2 := (K6.out.1.grownG h (by omega))
        have b3 := (K6.out.2.1.grownG h (by omega))
        have b4 := (K6.out.2.2.1.grownG h (by omega))
        refine ⟨⟨⟨by simpa using b4.cell 0, by simpa using b4.cell 1⟩, ⟨by simpa using b2.cell 0, by simpa using b2.cell 1, by simpa using b3.cell 0, by simpa using b3.cell 1⟩, b2.frozen 0, b2.frozen 1, b3.frozen 0, b3.frozen 1⟩, K6.out.2.2.2.1.chg (g_chgG h) (.inr (by omega))⟩
      have HOLD := Lib.hid hold
      clear hold
      have hb4 : ∀ w' : World, w6.grownBy w' (some g) → Box w' w1.heap.size 34 #[.int .i64 n1, .slice va es.length vc] := fun w' h => (K6.out.2.2.1.grownG h (by omega))
      have HB4 := Lib.hid hb4
      have hkc : ∀ w' : World, Box w' w1.heap.size 34 #[.int .i64 n1, .slice va es.length vc] → (w'.cell? ⟨w1.heap.size, 0, none⟩ = some (.int .i64 n1) ∧ w'.cell? ⟨w1.heap.size, 1, none⟩ = some (.slice va es.length vc)) := fun w' b => ⟨by simpa using b.cell 0, by simpa using b.cell 1⟩
      have HKC := Lib.hid hkc
      clear hkc hb4
      have hdz9 : w6.heap.size ≤ w6.drew.heap.size := ((Below.refl w6.heap.size w6).drew).size
      go_upto_region 5 with fail
      go_region_held3 (fun w' : World => w'.cell? ⟨w1.heap.size, 0, none⟩ = some (.int .i64 n1) ∧ w'.cell? ⟨w1.heap.size, 1, none⟩ = some (.slice va es.length vc)) (first | with_reducible exact HKC.out _ (HB4.out _ (g_drew (grown_refl _ _))) | with_reducible exact HKC.out _ (HB4.out _ (grown_trans' (g_drew (grown_refl _ _)) hG9)) | with_reducible exact HKC.out _ ((((HB4.out _ (grown_trans' (g_drew (grown_refl _ _)) hG9))).setOther (B' := w.heap.size) (by omega) 0 _).setOther (B' := w.heap.size) (by omega) 1 _) | with_reducible exact HKC.out _ (((((((HB4.out _ (grown_trans' (g_drew (grown_refl _ _)) hG9))).setOther (B' := w.heap.size) (by omega) 0 _).setOther (B' := w.heap.size) (by omega) 1 _)).setOther (B' := w.heap.size + 1) (by omega) 0 _).setOther (B' := w.heap.size + 1) (by omega) 1 _)) (first | (go_at_call 52; (with_reducible refine (l2Draw w _ g 1 (Rd.drew' K6.out.2.2.2.2.2.2) (by omega)).mono ?_); rintro e w9 ⟨n9, es9, v9, rfl, hgv9, hrow9, hok9, hR9, hG9⟩; obtain ⟨a9, c9, rfl, hz9⟩ := id hrow9; obtain ⟨⟨p0, p1, q0, q1⟩, fp0, fp1, fq0, fq1⟩ := (HOLD.out _ (grown_trans' (g_drew (grown_refl _ _)) hG9)).1.2))
      all_goals
        have hsz9 := (grown_trans' (g_drew (grown_refl _ _)) hG9).size
        have h40 := (gVal_iff.1 hgv9).1.2.2
        have hr9 := (HOLD.out _ (grown_trans' (g_drew (grown_refl _ _)) hG9)).2
        go_wp2
        try simp only [Exit.inBlock, Exit.then]
        refine bodyPost_ret (v := .tuple #[.agg #[.int .i64 n1, .slice va es.length vc], .agg #[.int .i64 n9, .slice a9 es9.length c9]]) ?_ rfl ?_
        · rw [results_ccD rfl]
          go_simp
        exact drawnD9_of hR9.bel hr9 (by omega) (by omega) K2.out.2.2.2.2.2.1 hl1 hrow9 (by omega) (Nat.le_refl _) hok9 (by omega)
    · have d6 : (x6 == 0) = false := by simpa using h6
      have p0 : w6.cell? ⟨w.heap.size, 0, none⟩ = some (.int .i64 0) := by simpa using K6.out.1.cell 0
      have p1 : w6.cell? ⟨w.heap.size, 1, none⟩ = some (.slice none 0 0) := by simpa using K6.out.1.cell 1
      have fp0 := K6.out.1.frozen 0
      have fp1 := K6.out.1.frozen 1
      have q0 : w6.cell? ⟨w.heap.size + 1, 0, none⟩ = some (.int .i64 0) := by simpa using K6.out.2.1.cell 0
      have q1 : w6.cell? ⟨w.heap.size + 1, 1, none⟩ = some (.slice none 0 0) := by simpa using K6.out.2.1.cell 1
      have fq0 := K6.out.2.1.frozen 0
      have fq1 := K6.out.2.1.frozen 1
      have x0 : w6.cell? ⟨w1.heap.size, 0, none⟩ = some (.int .i64 n1) := by simpa using K6.out.2.2.1.cell 0
      have x1 : w6.cell? ⟨w1.heap.size, 1, none⟩ = some (.slice va es.length vc) := by simpa using K6.out.2.2.1.cell 1
      have y0 : w6.cell? ⟨w3.heap.size, 0, none⟩ = some (.int .i64 N3) := by simpa using K6.out.2.2.2.2.1.cell 0
      have y1 : w6.cell? ⟨w3.heap.size, 1, none⟩ = some (.slice a3 R3.length c3) := by simpa using K6.out.2.2.2.2.1.cell 1
      go_upto_region 6 with fail
      go_region
      all_goals
        go_wp2
        try simp only [Exit.inBlock, Exit.then]
        refine bodyPost_ret (v := .tuple #[.agg #[.int .i64 n1, .slice va es.length vc], .agg #[.int .i64 N3, .slice a3 R3.length c3]]) ?_ rfl ?_
        · rw [results_ccD rfl]
          go_simp
        refine DrawnD9.drew' ?_; exact drawnD9_of (bel_trans K6.out.2.2.2.2.2.2.bel (by repeat' (first | with_reducible exact Below.refl _ _ | with_reducible apply b_alloc | with_reducible apply b_drew | with_reducible apply b_set | (refine @bel_trans _ ?_ _ ?_ ?_; rotate_right; with_reducible assumption)))) (InR.keep K6.out.2.2.2.1 (by repeat' (first | with_reducible exact Below.refl _ _ | with_reducible apply b_alloc | with_reducible apply b_drew | with_reducible apply b_set | (refine @bel_trans _ ?_ _ ?_ ?_; rotate_right; with_reducible assumption)))) (by omega) (Nat.le_trans (show w1.heap.size ≤ w6.heap.size by omega) (Below.size (B := w6.heap.size) (w := w6) (by repeat' (first | with_reducible exact Below.refl _ _ | with_reducible apply b_alloc | with_reducible apply b_drew | with_reducible apply b_set | (refine @bel_trans _ ?_ _ ?_ ?_; rotate_right; with_reducible assumption))))) K2.out.2.2.2.2.2.1 hl1 (InR.keep K6.out.2.2.2.2.2.1 (by repeat' (first | with_reducible exact Below.refl _ _ | with_reducible apply b_alloc | with_reducible apply b_drew | with_reducible apply b_set | (refine @bel_trans _ ?_ _ ?_ ?_; rotate_right; with_reducible assumption)))) (by omega) (Nat.le_trans (show w3.heap.size ≤ w6.heap.size by omega) (Below.size (B := w6.heap.size) (w := w6) (by repeat' (first | with_reducible exact Below.refl _ _ | with_reducible apply b_alloc | with_reducible apply b_drew | with_reducible apply b_set | (refine @bel_trans _ ?_ _ ?_ ?_; rotate_right; with_reducible assumption))))) K4.out.2.2.2.2.2.2.1 (by omega)
end Go.Proofs.Ytbhhbhopogkmnaa
