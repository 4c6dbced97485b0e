/- What the model draws for the laws of measures. -/
import Derived.Test.YtmiomafgfeofnaaDraw
namespace Go.Proofs.Ytmiomafgfeofnaa
open Go.RowKit Go.BigFrame
set_option linter.unusedVariables false

/-- Three numbers are drawn. -/
def Three (w : World) (e : Ending) (w' : World) : Prop := ∃ m x y : Int, e = .returned (.tuple #[.int .i64 m, .int .i64 x, .int .i64 y]) ∧ Below w.heap.size w w'
/-- Two numbers are drawn. -/
def Two (w : World) (e : Ending) (w' : World) : Prop := ∃ m x : Int, e = .returned (.tuple #[.int .i64 m, .int .i64 x]) ∧ Below w.heap.size w w'

theorem Bytes.below {w w' : World} {a : Option Addr} {n : Nat} (h : Bytes w a n) (hb : Below w.heap.size w w') : Bytes w' a n := by
  rcases h with h | ⟨b, off, rfl, hlt, hc⟩
  · exact .inl h
  · exact .inr ⟨b, off, rfl, Nat.lt_of_lt_of_le hlt hb.size, fun i hi => by
      obtain ⟨x, h0, h1, hx⟩ := hc i hi
      exact ⟨x, h0, h1, by rw [hb.cell (p := ⟨b, off + i, none⟩) hlt]; exact hx⟩⟩

theorem l1Pair (a : Option Addr) (n cap : Nat) (w : World) (hb : Bytes w a n) (hcap : n ≤ cap) (hn : n ≤ 281474976710656) :
    Calls Try.prog 39 #[.slice a n cap] w (Three w) := by
  have HC := Lib.hid hb
  clear hb
  go_enter Try.func39, Try.ntmps39
  go_wp2_with fail
  refine (l15Open a n cap w HC.out hcap hn).mono ?_
  rintro e w1 ⟨g, rfl, hR⟩
  have H1 := Lib.hid hR
  clear hR
  go_wp2_with fail
  refine (l1Kind w w1 g 0 H1.out (by omega)).mono ?_
  rintro e w2 ⟨m, rfl, hR, hG⟩
  have H2 := Lib.hid hR
  clear hR hG
  go_wp2_with fail
  refine (l1Wrong m w w2 g 1 H2.out (by omega)).mono ?_
  rintro e w3 ⟨k, rfl, hR, hG⟩
  have H3 := Lib.hid hR
  clear hR hG
  go_wp2_with fail
  refine (l1Value m w w3 g 3 H3.out (by omega)).mono ?_
  rintro e w4 ⟨x, rfl, hR, hG⟩
  have H4 := Lib.hid hR
  clear hR hG
  go_wp2_with fail
  refine (l1Value m w w4 g 4 H4.out (by omega)).mono ?_
  rintro e w5 ⟨y, rfl, hR, hG⟩
  have H5 := Lib.hid hR
  clear hR hG
  go_wp2
  go_ret3
  exact ⟨k, x, y, rfl, H5.out.bel⟩
theorem dDrawExtend (a : Option Addr) (n cap : Nat) (w : World) (hb : Bytes w a n) (hcap : n ≤ cap) (hn : n ≤ 281474976710656) :
    Calls Try.prog 15 #[.slice a n cap] w (Three w) := by
  have HC := Lib.hid hb
  clear hb
  go_enter Try.func15, Try.ntmps15
  go_wp2_with fail
  refine (l1Pair a n cap w HC.out hcap hn).mono ?_
  rintro e w1 ⟨k, x, y, rfl, hb⟩
  go_wp2
  go_ret3
  exact ⟨k, x, y, rfl, hb⟩
theorem dDrawBetterOf (a : Option Addr) (n cap : Nat) (w : World) (hb : Bytes w a n) (hcap : n ≤ cap) (hn : n ≤ 281474976710656) :
    Calls Try.prog 21 #[.slice a n cap] w (Three w) := by
  have HC := Lib.hid hb
  clear hb
  go_enter Try.func21, Try.ntmps21
  go_wp2_with fail
  refine (l1Pair a n cap w HC.out hcap hn).mono ?_
  rintro e w1 ⟨k, x, y, rfl, hb⟩
  go_wp2
  go_ret3
  exact ⟨k, x, y, rfl, hb⟩
theorem dDrawIsBetter (a : Option Addr) (n cap : Nat) (w : World) (hb : Bytes w a n) (hcap : n ≤ cap) (hn : n ≤ 281474976710656) :
    Calls Try.prog 28 #[.slice a n cap] w (Three w) := by
  have HC := Lib.hid hb
  clear hb
  go_enter Try.func28, Try.ntmps28
  go_wp2_with fail
  refine (l1Pair a n cap w HC.out hcap hn).mono ?_
  rintro e w1 ⟨k, x, y, rfl, hb⟩
  go_wp2
  go_ret3
  exact ⟨k, x, y, rfl, hb⟩
theorem dDrawValueValid (a : Option Addr) (n cap : Nat) (w : World) (hb : Bytes w a n) (hcap : n ≤ cap) (hn : n ≤ 281474976710656) :
    Calls Try.prog 30 #[.slice a n cap] w (Two w) := by
  have HC := Lib.hid hb
  clear hb
  go_enter Try.func30, Try.ntmps30
  go_wp2_with fail
  refine (l15Open a n cap w HC.out hcap hn).mono ?_
  rintro e w1 ⟨g, rfl, hR⟩
  have H1 := Lib.hid hR
  clear hR
  go_wp2_with fail
  refine (l1Kind w w1 g 0 H1.out (by omega)).mono ?_
  rintro e w2 ⟨m, rfl, hR, hG⟩
  have H2 := Lib.hid hR
  clear hR hG
  go_wp2_with fail
  refine (l1Wrong m w w2 g 1 H2.out (by omega)).mono ?_
  rintro e w3 ⟨k, rfl, hR, hG⟩
  have H3 := Lib.hid hR
  clear hR hG
  go_wp2_with fail
  refine (l1Value m w w3 g 3 H3.out (by omega)).mono ?_
  rintro e w4 ⟨x, rfl, hR, hG⟩
  have H4 := Lib.hid hR
  clear hR hG
  go_wp2
  go_ret2
  exact ⟨k, x, rfl, H4.out.bel⟩
theorem dDrawEdgeMeasure (a : Option Addr) (n cap : Nat) (w : World) (hb : Bytes w a n) (hcap : n ≤ cap) (hn : n ≤ 281474976710656) :
    Calls Try.prog 35 #[.slice a n cap] w (Two w) := by
  have HC := Lib.hid hb
  clear hb
  go_enter Try.func35, Try.ntmps35
  go_wp2_with fail
  refine (l15Open a n cap w HC.out hcap hn).mono ?_
  rintro e w1 ⟨g, rfl, hR⟩
  have H1 := Lib.hid hR
  clear hR
  go_wp2_with fail
  refine (l1Kind w w1 g 0 H1.out (by omega)).mono ?_
  rintro e w2 ⟨m, rfl, hR, hG⟩
  have H2 := Lib.hid hR
  clear hR hG
  go_wp2_with fail
  refine (l1Wrong m w w2 g 1 H2.out (by omega)).mono ?_
  rintro e w3 ⟨k, rfl, hR, hG⟩
  have H3 := Lib.hid hR
  clear hR hG
  go_wp2_with fail
  refine (num_built [1, 7, 50, 999, 0, 1000] w w3 g 3 H3.out (by omega) _ (by decide) (by decide)).mono ?_
  rintro e w4 ⟨x, hx, rfl, hR, hG⟩
  have H4 := Lib.hid hR
  clear hR hG hx
  go_wp2
  go_ret2
  exact ⟨k, x, rfl, H4.out.bel⟩
end Go.Proofs.Ytmiomafgfeofnaa
