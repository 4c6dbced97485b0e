/- The draw of one graph, a list that holds a number, and the next nodes along turned edges. -/
import Derived.Test.YtfciilpcjahfoaaWrong
import Derived.Test.YtfciilpcjahfoaaNext
import Derived.Test.YtfciilpcjahfoaaRevS
import Derived.Test.YtfciilpcjahfoaaEdgeM
namespace Go.Proofs.Ytfciilpcjahfoaa
open Go.RowKit Go.BigFrame Go.Deep
set_option linter.unusedVariables false
set_option linter.unusedSimpArgs false
set_option linter.unnecessarySimpa false
def DrawnG0 (w : World) (e : Ending) (w' : World) : Prop :=
  ∃ (n : Int) (es : List Ed) (v : Value), e = .returned (.agg #[.int .i64 n, v]) ∧ es.length ≤ 43 ∧ InR true w' w.heap.size w'.heap.size v es.length 3 (cellE es) ∧ okS v ∧ Below w.heap.size w w'
theorem Bytes.keepB2 {w w' : World} {a : Option Addr} {n : Nat} (h : Bytes w a n) (hb : Below w.heap.size w w') : Bytes w' a n := by
  rcases h with h | ⟨b, off, h1, h2, h3⟩
  · exact .inl h
  · refine .inr ⟨b, off, h1, Nat.lt_of_lt_of_le h2 hb.size, fun i hi => ?_⟩
    obtain ⟨x, hx0, hx1, hx⟩ := h3 i hi
    exact ⟨x, hx0, hx1, (hb.cell (p := ⟨b, off + i, none⟩) h2).trans hx⟩
theorem drawnG0_out {w w1 : World} {lo : Nat} {n : Int} {es : List Ed} {v : Value} (hb : Below w.heap.size w w1) (hlt : w.heap.size < lo) (hl : es.length ≤ 43) (hrow : InR true w1 lo w1.heap.size v es.length 3 (cellE es)) (hok : okS v) :
    DrawnG0 w (.returned (.agg #[.int .i64 n, v])) ((w1.setCell ⟨w.heap.size, 0, none⟩ (.int .i64 n)).setCell ⟨w.heap.size, 1, none⟩ v) := by
  refine ⟨n, es, v, rfl, hl, ?_, hok, (hb.setCell (by simp) _).setCell (by simp) _⟩
  have h1 := ((hrow.set8 (k := 0) (u := .int .i64 n) hlt).set8 (k := 1) (u := v) hlt)
  exact h1.wider (by omega) (by simp) (Nat.le_refl _)
set_option maxHeartbeats 2000000 in
theorem dDrawGraphValid (a : Option Addr) (n cap : Nat) (w : World) (hb : Bytes w a n) (hcap : n ≤ cap) (hn : n ≤ 281474976710656) :
    Calls Try.prog 61 #[.slice a n cap] w (DrawnG0 w) := by
  have hbx := Box.new w 25 #[.int .i64 0, .slice none 0 0]
  have hbl : Below w.heap.size w (w.alloc (.cells #[.int .i64 0, .slice none 0 0] 25)) := (Below.refl _ _).alloc (Nat.le_refl _) _
  have HC := Lib.hid hb
  clear hb
  go_enter Try.func61, Try.ntmps61
  go_wp2_with fail
  generalize (w.alloc (.cells #[.int .i64 0, .slice none 0 0] 25)) = w0 at hbx hbl ⊢
  refine (l15Open a n cap w0 (HC.out.keepB2 hbl) hcap hn).mono ?_
  rintro e w1 ⟨g, rfl, hR⟩
  have hs0 : w.heap.size < w0.heap.size := hbx.lt
  have hg0 := hR.new
  have hs1 := hR.bel.size
  have K1 := Lib.hid (And.intro hR (hbx.keep hR.bel))
  clear hbx hR
  go_wp2_with fail
  refine (l2Draw w0 w1 g 0 K1.out.1 (by omega)).mono ?_
  rintro e w2 ⟨n2, es2, v2, rfl, hgv2, hrow2, hok2, hR2, hG2⟩
  have hl2 := (gVal_iff.1 hgv2).1.2.2
  have hs2 := hG2.size
  have K2 := Lib.hid (And.intro hR2 (And.intro (K1.out.2.grownG hG2 (by omega)) (And.intro hrow2 hok2)))
  clear hR2 hG2 hrow2 hok2 hgv2
  go_wp2_with fail
  refine (l2Wrong w0 w2 g _ n2 es2 v2 K2.out.1 (by omega) K2.out.2.2.1.edges K2.out.2.2.2 (by omega)).mono ?_
  rintro e w3 ⟨n3, es3, v3, rfl, hl3, hrow3, hok3, hR3, hG3⟩
  have hs3 := hG3.size
  have K3 := Lib.hid (And.intro hR3 (And.intro (K2.out.2.1.grownG hG3 (by omega)) (And.intro hrow3 hok3)))
  clear hR3 hG3 hrow3 hok3
  go_wp2_with fail
  refine (l2Wrong w0 w3 g _ n3 es3 v3 K3.out.1 (by omega) K3.out.2.2.1.edges K3.out.2.2.2 (by omega)).mono ?_
  rintro e w4 ⟨n4, es4, v4, rfl, hl4, hrow4, hok4, hR4, hG4⟩
  have hs4 := hG4.size
  have K4 := Lib.hid (And.intro hR4 (And.intro (K3.out.2.1.grownG hG4 (by omega)) (And.intro hrow4 hok4)))
  clear hR4 hG4 hrow4 hok4
  go_wp2_with fail
  refine (l2Wrong w0 w4 g _ n4 es4 v4 K4.out.1 (by omega) K4.out.2.2.1.edges K4.out.2.2.2 (by omega)).mono ?_
  rintro e w5 ⟨n5, es5, v5, rfl, hl5, hrow5, hok5, hR5, hG5⟩
  have hs5 := hG5.size
  obtain ⟨va, vc, rfl, hz9⟩ := id hrow5
  have K5 := Lib.hid (And.intro hR5 (And.intro (K4.out.2.1.grownG hG5 (by omega)) (And.intro hrow5 hok5)))
  clear hR5 hG5 hrow5 hok5 hz9
  have r0 : w5.cell? ⟨w.heap.size, 0, none⟩ = some (.int .i64 0) := by simpa using K5.out.2.1.cell 0
  have r1 : w5.cell? ⟨w.heap.size, 1, none⟩ = some (.slice none 0 0) := by simpa using K5.out.2.1.cell 1
  have r2 := K5.out.2.1.frozen 0
  have r3 := K5.out.2.1.frozen 1
  have HR := Lib.hid (drawnG0_out (n := n5) (bel_trans hbl K5.out.1.bel) (by omega) (by omega) K5.out.2.2.1 K5.out.2.2.2)
  go_wp2
  try simp only [Exit.inBlock, Exit.then]
  refine bodyPost_ret (v := .agg #[.int .i64 n5, .slice va es5.length vc]) ?_ rfl HR.out
  rw [results_cell1 rfl]
  go_simp
set_option maxHeartbeats 1000000 in
theorem dDrawReverseGraph (a : Option Addr) (n cap : Nat) (w : World) (hb : Bytes w a n) (hcap : n ≤ cap) (hn : n ≤ 281474976710656) :
    Calls Try.prog 21 #[.slice a n cap] w (DrawnG0 w) := by
  have hbx := Box.new w 25 #[.int .i64 0, .slice none 0 0]
  have hbl : Below w.heap.size w (w.alloc (.cells #[.int .i64 0, .slice none 0 0] 25)) := (Below.refl _ _).alloc (Nat.le_refl _) _
  have HC := Lib.hid hb
  clear hb
  go_enter Try.func21, Try.ntmps21
  go_wp2_with fail
  generalize (w.alloc (.cells #[.int .i64 0, .slice none 0 0] 25)) = w0 at hbx hbl ⊢
  refine (dDrawGraphValid a n cap w0 (HC.out.keepB2 hbl) hcap hn).mono ?_
  rintro e w1 ⟨n1, es, v, rfl, hl, hrow, hok, hb1⟩
  obtain ⟨va, vc, rfl, hz⟩ := id hrow
  have hB := hbx.keep hb1
  have r0 : w1.cell? ⟨w.heap.size, 0, none⟩ = some (.int .i64 0) := by simpa using hB.cell 0
  have r1 : w1.cell? ⟨w.heap.size, 1, none⟩ = some (.slice none 0 0) := by simpa using hB.cell 1
  have r2 := hB.frozen 0
  have r3 := hB.frozen 1
  have HR := Lib.hid (drawnG0_out (n := n1) (bel_trans hbl hb1) hbx.lt hl hrow hok)
  clear hz hrow hok hb1 hB hbx hbl
  go_wp2
  try simp only [Exit.inBlock, Exit.then]
  refine bodyPost_ret (v := .agg #[.int .i64 n1, .slice va es.length vc]) ?_ rfl HR.out
  rw [results_cell1 rfl]
  go_simp
theorem gvIn2 (zs : List Int) (x : Int) (s : Value) (w : World) (hs : Row w s zs) (hx : x ∈ zs) (hl : zs.length ≤ 4194304) :
    Calls Try.prog 25 #[s, .int .i64 x] w fun e w' => e = .returned (.bool true) ∧ Below w.heap.size w w' := by
  obtain ⟨a, cap, rfl, hz0⟩ := hs
  have hz := Lib.hid hz0
  have HX := Lib.hid hx
  clear hz0 hx
  go_enter Try.func25, Try.ntmps25
  go_wp2
  go_loopw [5] (fun c wr => ∃ k : Nat, k ≤ zs.length ∧ c = .int .i64 k ∧ (∀ j, j < k → zs.getD j 0 ≠ x) ∧ Below w.heap.size w wr) (fun c _ => zs.length - (intOf c).toNat)
  case atStart => exact ⟨0, Nat.zero_le _, rfl, fun j h => by omega, Below.refl _ _⟩
  case round =>
    obtain ⟨k, hk, rfl, hno, hbel⟩ := hrel
    have HNO := Lib.hid hno
    clear hno
    by_cases hlt : k < zs.length
    · have hlt' : (k : Int) < zs.length := by omega
      rcases hz.out with h0 | ⟨b, off, rfl, hb, hc⟩
      · rw [h0] at hlt; simp at hlt
      obtain ⟨y, hy⟩ : ∃ y, y = zs.getD k 0 := ⟨_, rfl⟩
      have hck : wr.cell? ⟨b, off + k, none⟩ = some (.int .i64 y) := by rw [hbel.cell (p := ⟨b, off + k, none⟩) hb, hy]; exact hc k hlt
      have HY := Lib.hid hy
      clear hc hy
      by_cases hyx : y = x
      · have d1 : (y == x) = true := by simpa using hyx
        clear hyx
        go_wp2
        go_ret
        exact ⟨rfl, hbel⟩
      · have d1 : (y == x) = false := by simpa using hyx
        have HN2 := Lib.hid (show ∀ j, j < k + 1 → zs.getD j 0 ≠ x from fun j hj => by
          by_cases hjk : j = k
          · subst hjk; rw [← HY.out]; exact hyx
          · exact HNO.out j (by omega))
        clear hyx
        go_wp2
        go_roundw
        case rel => first | exact ⟨k + 1, by omega, by go_num, HN2.out, hbel⟩ | ((repeat apply Exists.intro); exact ⟨⟨k + 1, by omega, by go_num, HN2.out, hbel⟩, rfl⟩)
        case measure => simp [intOf]; omega
    · exfalso
      obtain ⟨j, hj, he⟩ := List.getElem_of_mem HX.out
      exact HNO.out j (by omega) (by simp [List.getD, hj, he])
theorem mem_nxt {es : List Ed} {x t : Int} : t ∈ nxt es x ↔ ∃ d ∈ es, d.1 = x ∧ d.2.1 = t := by
  unfold nxt
  simp
theorem rvL_len {n : Int} {es : List Ed} (hg : gVal n es = true) : (rvL es).length = es.length := by
  have h1 := rvL_val hg
  have h2 := rvL_val h1.1
  have h3 : rvL (rvL es) = es := by
    refine sorted_ext _ _ (gVal_iff.1 h2.1).2.2 (gVal_iff.1 hg).2.2 fun d => ?_
    rw [h2.2.1]
    constructor
    · intro h
      obtain ⟨a, ha, rfl⟩ := List.mem_map.1 h
      obtain ⟨b, hb, rfl⟩ := List.mem_map.1 ((h1.2.1 a).1 ha)
      exact hb
    · intro h
      exact List.mem_map.2 ⟨swE d, (h1.2.1 _).2 (List.mem_map.2 ⟨d, h, rfl⟩), rfl⟩
  have h4 := h2.2.2
  rw [h3] at h4
  omega
end Go.Proofs.Ytfciilpcjahfoaa
