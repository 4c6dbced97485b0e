/- What the exported functions of measures answer. -/
import Derived.Test.YtdilimdicanbjaaFor
namespace Go.Proofs.Ytdilimdicanbjaa
open Go.RowKit Go.BigFrame
set_option linter.unusedVariables false
set_option linter.unusedSimpArgs false

theorem Row.below {w w' : World} {s : Value} {zs : List Int} (h : Row w s zs) (hb : Below w.heap.size w w') : Row w' s zs := by
  obtain ⟨a, cap, rfl, h⟩ := h
  refine ⟨a, cap, rfl, ?_⟩
  rcases h with h | ⟨b, off, rfl, hlt, hc⟩
  · exact .inl h
  · exact .inr ⟨b, off, rfl, Nat.lt_of_lt_of_le hlt hb.size, fun i hi => by rw [hb.cell (p := ⟨b, off + i, none⟩) hlt]; exact hc i hi⟩
theorem row_nil (w : World) : Row w (.slice none 0 0) [] := ⟨none, 0, rfl, .inl rfl⟩
theorem ret_int {k : IntKind} {a b : Int} (h : a = b) : Ending.returned (.int k a) = .returned (.int k b) := by rw [h]
theorem eweight (x : Int) (w : World) : Calls Try.prog 149 #[.agg #[], .int .i64 x] w fun e w' => e = .returned (.int .i64 x) ∧ Below w.heap.size w w' := by
  go_enter Try.func149, Try.ntmps149
  go_wp2
  all_goals
    go_ret
    exact ⟨ret_int (by omega), (Below.refl _ _).alloc (Nat.le_refl _) _⟩
theorem eone (x : Int) (w : World) : Calls Try.prog 156 #[.agg #[], .int .i64 x] w fun e w' => e = .returned (.int .i64 1) ∧ Below w.heap.size w w' := by
  go_enter Try.func156, Try.ntmps156
  go_wp2
  all_goals
    go_ret
    exact ⟨ret_int (by omega), (Below.refl _ _).alloc (Nat.le_refl _) _⟩
theorem jsum (a b : Int) (ha : 0 ≤ a) (ha2 : a ≤ 100000) (hb : 0 ≤ b) (hb2 : b ≤ 100000) (w : World) : Calls Try.prog 150 #[.agg #[], .int .i64 a, .int .i64 b] w fun e w' => e = .returned (.int .i64 (min (a + b) 100000)) ∧ Below w.heap.size w w' := by
  go_enter Try.func150, Try.ntmps150
  go_wp2
  all_goals
    go_ret
    exact ⟨ret_int (by omega), (Below.refl _ _).alloc (Nat.le_refl _) _⟩
theorem jless (a b : Int) (w : World) : Calls Try.prog 154 #[.agg #[], .int .i64 a, .int .i64 b] w fun e w' => e = .returned (.int .i64 (min a b)) ∧ Below w.heap.size w w' := by
  go_enter Try.func154, Try.ntmps154
  go_wp2
  all_goals
    go_ret
    exact ⟨ret_int (by omega), (Below.refl _ _).alloc (Nat.le_refl _) _⟩
theorem jmore (a b : Int) (w : World) : Calls Try.prog 155 #[.agg #[], .int .i64 a, .int .i64 b] w fun e w' => e = .returned (.int .i64 (max a b)) ∧ Below w.heap.size w w' := by
  go_enter Try.func155, Try.ntmps155
  go_wp2
  all_goals
    go_ret
    exact ⟨ret_int (by omega), (Below.refl _ _).alloc (Nat.le_refl _) _⟩

/-! kind 1 -/
theorem opsY1 (zs : List Int) (s : Value) (w : World) (hr : Row w s zs) (hl : zs.length ≤ 281474976710656) (ha : zs.all (mIn 1) = true) :
    Calls Try.prog 77 #[.int .i64 1, s] w fun e w' => e = .returned (.tuple #[.iface 131 (.agg #[]), .bool true]) ∧ Below w.heap.size w w' := by
  have h := opsFor1 zs s w hr hl
  rw [ha] at h
  exact h

/-! kind 2 -/
theorem opsY2 (zs : List Int) (s : Value) (w : World) (hr : Row w s zs) (hl : zs.length ≤ 281474976710656) (ha : zs.all (mIn 2) = true) :
    Calls Try.prog 77 #[.int .i64 2, s] w fun e w' => e = .returned (.tuple #[.iface 136 (.agg #[.int .i64 100000]), .bool true]) ∧ Below w.heap.size w w' := by
  have h := opsFor2 zs s w hr hl
  rw [ha] at h
  exact h

/-! kind 3 -/
theorem opsY3 (zs : List Int) (s : Value) (w : World) (hr : Row w s zs) (hl : zs.length ≤ 281474976710656) (ha : zs.all (mIn 3) = true) :
    Calls Try.prog 77 #[.int .i64 3, s] w fun e w' => e = .returned (.tuple #[.iface 139 (.agg #[]), .bool true]) ∧ Below w.heap.size w w' := by
  have h := opsFor3 zs s w hr hl
  rw [ha] at h
  exact h

/-! kind 4 -/
theorem opsY4 (zs : List Int) (s : Value) (w : World) (hr : Row w s zs) (hl : zs.length ≤ 281474976710656) (ha : zs.all (mIn 4) = true) :
    Calls Try.prog 77 #[.int .i64 4, s] w fun e w' => e = .returned (.tuple #[.iface 142 (.agg #[.int .i64 1]), .bool true]) ∧ Below w.heap.size w w' := by
  have h := opsFor4 zs s w hr hl
  rw [ha] at h
  exact h

/-! kind 5 -/
theorem opsY5 (zs : List Int) (s : Value) (w : World) (hr : Row w s zs) (hl : zs.length ≤ 281474976710656) (ha : zs.all (mIn 5) = true) :
    Calls Try.prog 77 #[.int .i64 5, s] w fun e w' => e = .returned (.tuple #[.iface 144 (.agg #[]), .bool true]) ∧ Below w.heap.size w w' := by
  have h := opsFor5 zs s w hr hl
  rw [ha] at h
  exact h

theorem opsN {m : Int} (hm : mKind m = true) (zs : List Int) (s : Value) (w : World) (hr : Row w s zs) (hl : zs.length ≤ 281474976710656) (ha : zs.all (mIn m) = false) :
    Calls Try.prog 77 #[.int .i64 m, s] w fun e w' => e = .returned (.tuple #[.nilIface, .bool false]) ∧ Below w.heap.size w w' := by
  have h := opsFor_any hm zs s w hr hl
  rw [ha] at h
  exact h
theorem opsN2 {m a b : Int} (h : bTwo m a b = false) (s : Value) (w : World) (hr : Row w s [a, b]) :
    Calls Try.prog 77 #[.int .i64 m, s] w fun e w' => e = .returned (.tuple #[.nilIface, .bool false]) ∧ Below w.heap.size w w' := by
  cases hm : mKind m
  · exact opsFor_no m hm s w
  · exact opsN hm [a, b] s w hr (by simp) (bTwo_not hm h)
/-- Two numbers that the caller has laid into an array of its own. -/
theorem row_two (w : World) (a b : Int) (t : TypeId) : Row (w.alloc (.cells #[.int .i64 a, .int .i64 b] t)) (.slice (some ⟨w.heap.size, 0, none⟩) 2 2) [a, b] :=
  ⟨_, 2, rfl, .inr ⟨_, _, rfl, by simp, by
    intro i hi
    have : i = 0 ∨ i = 1 := by simp at hi; omega
    rcases this with rfl | rfl <;> go_simp⟩⟩
theorem row_one (w : World) (a : Int) (t : TypeId) : Row (w.alloc (.cells #[.int .i64 a] t)) (.slice (some ⟨w.heap.size, 0, none⟩) 1 1) [a] :=
  ⟨_, 1, rfl, .inr ⟨_, _, rfl, by simp, by
    intro i hi
    have : i = 0 := by simp at hi; omega
    rcases this with rfl
    go_simp⟩⟩

end Go.Proofs.Ytdilimdicanbjaa
