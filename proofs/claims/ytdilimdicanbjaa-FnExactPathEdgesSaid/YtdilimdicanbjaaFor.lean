/- 'operationsFor' answers with the operations of a kind if all numbers are measures of it. -/
import Derived.Test.YtdilimdicanbjaaIs
import Derived.Lib.Hide
namespace Go.Proofs.Ytdilimdicanbjaa
open Go.RowKit Go.BigFrame
set_option linter.unusedVariables false
set_option linter.unusedSimpArgs false

/-- What comes back. -/
def opsR (m : Int) (b : Bool) : Value := if b = true then opsV m else .nilIface
set_option maxHeartbeats 800000 in
theorem opsFor1 (zs : List Int) (s : Value) (w : World) (hr : Row w s zs) (hl : zs.length ≤ 281474976710656) :
    Calls Try.prog 77 #[.int .i64 1, s] w fun e w' => e = .returned (.tuple #[opsR 1 (zs.all (mIn 1)), .bool (zs.all (mIn 1))]) ∧ Below w.heap.size w w' := by
  obtain ⟨a, cap, rfl, hz0⟩ := hr
  have hz := Lib.hid hz0
  clear hz0
  go_enter Try.func77, Try.ntmps77
  go_wp2
  go_loopw [27] (fun c wr => ∃ k : Nat, k ≤ zs.length ∧ c = .int .i64 k ∧ (zs.take k).all (mIn 1) = true ∧ Below w.heap.size w wr ∧ wr.cell? ⟨w.heap.size, 1, none⟩ = some (.iface 131 (.agg #[])) ∧ w.heap.size < wr.heap.size) (fun c _ => zs.length - (intOf c).toNat)
  case atStart => exact ⟨0, Nat.zero_le _, rfl, rfl, (Below.refl _ _).alloc (Nat.le_refl _) _, by go_simp, by simp⟩
  case round =>
    obtain ⟨k, hk, rfl, hall, hbel, hcell, hsz⟩ := hrel
    by_cases hlt : k < zs.length
    · have hlt' : (k : Int) < zs.length := by omega
      rcases hz.out with h0 | ⟨b, off, rfl, hb, hc⟩
      · rw [h0] at hlt; simp at hlt
      obtain ⟨x, hx⟩ : ∃ x, x = zs.getD k 0 := ⟨_, rfl⟩
      have hck : wr.cell? ⟨b, off + k, none⟩ = some (.int .i64 x) := by rw [hbel.cell (p := ⟨b, off + k, none⟩) hb, hx]; exact hc k hlt
      have hsn := all_snoc (mIn 1) zs k hlt
      have HA := Lib.hid hall
      have HS := Lib.hid hsn
      have HX := Lib.hid hx
      clear hc hall hsn hx
      cases hin : mIn 1 x
      · have hcon := is1 x wr
        rw [hin] at hcon
        have HC := Lib.hid hcon
        have HI := Lib.hid hin
        clear hin hcon
        go_wp2_with (go_at_call 94; refine (HC.out).mono ?_; rintro e w1 ⟨rfl, hb1⟩)
        have hf := all_false (mIn 1) zs k hlt (by rw [← HX.out]; exact HI.out)
        rw [hf]
        go_ret2
        exact ⟨rfl, bel_trans hbel hb1⟩
      · have hcon := is1 x wr
        rw [hin] at hcon
        have HC := Lib.hid hcon
        have HI := Lib.hid hin
        clear hin hcon
        go_wp2_with (go_at_call 94; refine (HC.out).mono ?_; rintro e w1 ⟨rfl, hb1⟩)
        go_roundw
        case rel => first | exact ⟨k + 1, by omega, by go_num, by rw [HS.out, HA.out, ← HX.out, HI.out]; rfl, bel_trans hbel hb1, by rw [hb1.cell (p := ⟨w.heap.size, 1, none⟩) hsz]; exact hcell, Nat.lt_of_lt_of_le hsz hb1.size⟩ | ((repeat apply Exists.intro); exact ⟨⟨k + 1, by omega, by go_num, by rw [HS.out, HA.out, ← HX.out, HI.out]; rfl, bel_trans hbel hb1, by rw [hb1.cell (p := ⟨w.heap.size, 1, none⟩) hsz]; exact hcell, Nat.lt_of_lt_of_le hsz hb1.size⟩, rfl⟩)
        case measure => simp [intOf]; omega
    · have hke : k = zs.length := by omega
      have hkk : ¬ ((k : Int) < zs.length) := by omega
      have hall' : zs.all (mIn 1) = true := by rw [hke, List.take_length] at hall; exact hall
      have HA := Lib.hid hall'
      have HK := Lib.hid hke
      clear hall hall' hke
      go_wp2
      rw [HA.out]
      go_ret2
      exact ⟨rfl, hbel⟩

set_option maxHeartbeats 800000 in
theorem opsFor2 (zs : List Int) (s : Value) (w : World) (hr : Row w s zs) (hl : zs.length ≤ 281474976710656) :
    Calls Try.prog 77 #[.int .i64 2, s] w fun e w' => e = .returned (.tuple #[opsR 2 (zs.all (mIn 2)), .bool (zs.all (mIn 2))]) ∧ Below w.heap.size w w' := by
  obtain ⟨a, cap, rfl, hz0⟩ := hr
  have hz := Lib.hid hz0
  clear hz0
  go_enter Try.func77, Try.ntmps77
  go_wp2
  go_loopw [27] (fun c wr => ∃ k : Nat, k ≤ zs.length ∧ c = .int .i64 k ∧ (zs.take k).all (mIn 2) = true ∧ Below w.heap.size w wr ∧ wr.cell? ⟨w.heap.size, 2, none⟩ = some (.iface 136 (.agg #[.int .i64 100000])) ∧ w.heap.size < wr.heap.size) (fun c _ => zs.length - (intOf c).toNat)
  case atStart => exact ⟨0, Nat.zero_le _, rfl, rfl, (Below.refl _ _).alloc (Nat.le_refl _) _, by go_simp, by simp⟩
  case round =>
    obtain ⟨k, hk, rfl, hall, hbel, hcell, hsz⟩ := hrel
    by_cases hlt : k < zs.length
    · have hlt' : (k : Int) < zs.length := by omega
      rcases hz.out with h0 | ⟨b, off, rfl, hb, hc⟩
      · rw [h0] at hlt; simp at hlt
      obtain ⟨x, hx⟩ : ∃ x, x = zs.getD k 0 := ⟨_, rfl⟩
      have hck : wr.cell? ⟨b, off + k, none⟩ = some (.int .i64 x) := by rw [hbel.cell (p := ⟨b, off + k, none⟩) hb, hx]; exact hc k hlt
      have hsn := all_snoc (mIn 2) zs k hlt
      have HA := Lib.hid hall
      have HS := Lib.hid hsn
      have HX := Lib.hid hx
      clear hc hall hsn hx
      cases hin : mIn 2 x
      · have hcon := is2 x wr
        rw [hin] at hcon
        have HC := Lib.hid hcon
        have HI := Lib.hid hin
        clear hin hcon
        go_wp2_with (go_at_call 94; refine (HC.out).mono ?_; rintro e w1 ⟨rfl, hb1⟩)
        have hf := all_false (mIn 2) zs k hlt (by rw [← HX.out]; exact HI.out)
        rw [hf]
        go_ret2
        exact ⟨rfl, bel_trans hbel hb1⟩
      · have hcon := is2 x wr
        rw [hin] at hcon
        have HC := Lib.hid hcon
        have HI := Lib.hid hin
        clear hin hcon
        go_wp2_with (go_at_call 94; refine (HC.out).mono ?_; rintro e w1 ⟨rfl, hb1⟩)
        go_roundw
        case rel => first | exact ⟨k + 1, by omega, by go_num, by rw [HS.out, HA.out, ← HX.out, HI.out]; rfl, bel_trans hbel hb1, by rw [hb1.cell (p := ⟨w.heap.size, 2, none⟩) hsz]; exact hcell, Nat.lt_of_lt_of_le hsz hb1.size⟩ | ((repeat apply Exists.intro); exact ⟨⟨k + 1, by omega, by go_num, by rw [HS.out, HA.out, ← HX.out, HI.out]; rfl, bel_trans hbel hb1, by rw [hb1.cell (p := ⟨w.heap.size, 2, none⟩) hsz]; exact hcell, Nat.lt_of_lt_of_le hsz hb1.size⟩, rfl⟩)
        case measure => simp [intOf]; omega
    · have hke : k = zs.length := by omega
      have hkk : ¬ ((k : Int) < zs.length) := by omega
      have hall' : zs.all (mIn 2) = true := by rw [hke, List.take_length] at hall; exact hall
      have HA := Lib.hid hall'
      have HK := Lib.hid hke
      clear hall hall' hke
      go_wp2
      rw [HA.out]
      go_ret2
      exact ⟨rfl, hbel⟩

set_option maxHeartbeats 800000 in
theorem opsFor3 (zs : List Int) (s : Value) (w : World) (hr : Row w s zs) (hl : zs.length ≤ 281474976710656) :
    Calls Try.prog 77 #[.int .i64 3, s] w fun e w' => e = .returned (.tuple #[opsR 3 (zs.all (mIn 3)), .bool (zs.all (mIn 3))]) ∧ Below w.heap.size w w' := by
  obtain ⟨a, cap, rfl, hz0⟩ := hr
  have hz := Lib.hid hz0
  clear hz0
  go_enter Try.func77, Try.ntmps77
  go_wp2
  go_loopw [27] (fun c wr => ∃ k : Nat, k ≤ zs.length ∧ c = .int .i64 k ∧ (zs.take k).all (mIn 3) = true ∧ Below w.heap.size w wr ∧ wr.cell? ⟨w.heap.size, 3, none⟩ = some (.iface 139 (.agg #[])) ∧ w.heap.size < wr.heap.size) (fun c _ => zs.length - (intOf c).toNat)
  case atStart => exact ⟨0, Nat.zero_le _, rfl, rfl, (Below.refl _ _).alloc (Nat.le_refl _) _, by go_simp, by simp⟩
  case round =>
    obtain ⟨k, hk, rfl, hall, hbel, hcell, hsz⟩ := hrel
    by_cases hlt : k < zs.length
    · have hlt' : (k : Int) < zs.length := by omega
      rcases hz.out with h0 | ⟨b, off, rfl, hb, hc⟩
      · rw [h0] at hlt; simp at hlt
      obtain ⟨x, hx⟩ : ∃ x, x = zs.getD k 0 := ⟨_, rfl⟩
      have hck : wr.cell? ⟨b, off + k, none⟩ = some (.int .i64 x) := by rw [hbel.cell (p := ⟨b, off + k, none⟩) hb, hx]; exact hc k hlt
      have hsn := all_snoc (mIn 3) zs k hlt
      have HA := Lib.hid hall
      have HS := Lib.hid hsn
      have HX := Lib.hid hx
      clear hc hall hsn hx
      cases hin : mIn 3 x
      · have hcon := is3 x wr
        rw [hin] at hcon
        have HC := Lib.hid hcon
        have HI := Lib.hid hin
        clear hin hcon
        go_wp2_with (go_at_call 94; refine (HC.out).mono ?_; rintro e w1 ⟨rfl, hb1⟩)
        have hf := all_false (mIn 3) zs k hlt (by rw [← HX.out]; exact HI.out)
        rw [hf]
        go_ret2
        exact ⟨rfl, bel_trans hbel hb1⟩
      · have hcon := is3 x wr
        rw [hin] at hcon
        have HC := Lib.hid hcon
        have HI := Lib.hid hin
        clear hin hcon
        go_wp2_with (go_at_call 94; refine (HC.out).mono ?_; rintro e w1 ⟨rfl, hb1⟩)
        go_roundw
        case rel => first | exact ⟨k + 1, by omega, by go_num, by rw [HS.out, HA.out, ← HX.out, HI.out]; rfl, bel_trans hbel hb1, by rw [hb1.cell (p := ⟨w.heap.size, 3, none⟩) hsz]; exact hcell, Nat.lt_of_lt_of_le hsz hb1.size⟩ | ((repeat apply Exists.intro); exact ⟨⟨k + 1, by omega, by go_num, by rw [HS.out, HA.out, ← HX.out, HI.out]; rfl, bel_trans hbel hb1, by rw [hb1.cell (p := ⟨w.heap.size, 3, none⟩) hsz]; exact hcell, Nat.lt_of_lt_of_le hsz hb1.size⟩, rfl⟩)
        case measure => simp [intOf]; omega
    · have hke : k = zs.length := by omega
      have hkk : ¬ ((k : Int) < zs.length) := by omega
      have hall' : zs.all (mIn 3) = true := by rw [hke, List.take_length] at hall; exact hall
      have HA := Lib.hid hall'
      have HK := Lib.hid hke
      clear hall hall' hke
      go_wp2
      rw [HA.out]
      go_ret2
      exact ⟨rfl, hbel⟩

set_option maxHeartbeats 800000 in
theorem opsFor4 (zs : List Int) (s : Value) (w : World) (hr : Row w s zs) (hl : zs.length ≤ 281474976710656) :
    Calls Try.prog 77 #[.int .i64 4, s] w fun e w' => e = .returned (.tuple #[opsR 4 (zs.all (mIn 4)), .bool (zs.all (mIn 4))]) ∧ Below w.heap.size w w' := by
  obtain ⟨a, cap, rfl, hz0⟩ := hr
  have hz := Lib.hid hz0
  clear hz0
  go_enter Try.func77, Try.ntmps77
  go_wp2
  go_loopw [27] (fun c wr => ∃ k : Nat, k ≤ zs.length ∧ c = .int .i64 k ∧ (zs.take k).all (mIn 4) = true ∧ Below w.heap.size w wr ∧ wr.cell? ⟨w.heap.size, 4, none⟩ = some (.iface 142 (.agg #[.int .i64 1])) ∧ w.heap.size < wr.heap.size) (fun c _ => zs.length - (intOf c).toNat)
  case atStart => exact ⟨0, Nat.zero_le _, rfl, rfl, (Below.refl _ _).alloc (Nat.le_refl _) _, by go_simp, by simp⟩
  case round =>
    obtain ⟨k, hk, rfl, hall, hbel, hcell, hsz⟩ := hrel
    by_cases hlt : k < zs.length
    · have hlt' : (k : Int) < zs.length := by omega
      rcases hz.out with h0 | ⟨b, off, rfl, hb, hc⟩
      · rw [h0] at hlt; simp at hlt
      obtain ⟨x, hx⟩ : ∃ x, x = zs.getD k 0 := ⟨_, rfl⟩
      have hck : wr.cell? ⟨b, off + k, none⟩ = some (.int .i64 x) := by rw [hbel.cell (p := ⟨b, off + k, none⟩) hb, hx]; exact hc k hlt
      have hsn := all_snoc (mIn 4) zs k hlt
      have HA := Lib.hid hall
      have HS := Lib.hid hsn
      have HX := Lib.hid hx
      clear hc hall hsn hx
      cases hin : mIn 4 x
      · have hcon := is4 x wr
        rw [hin] at hcon
        have HC := Lib.hid hcon
        have HI := Lib.hid hin
        clear hin hcon
        go_wp2_with (go_at_call 94; refine (HC.out).mono ?_; rintro e w1 ⟨rfl, hb1⟩)
        have hf := all_false (mIn 4) zs k hlt (by rw [← HX.out]; exact HI.out)
        rw [hf]
        go_ret2
        exact ⟨rfl, bel_trans hbel hb1⟩
      · have hcon := is4 x wr
        rw [hin] at hcon
        have HC := Lib.hid hcon
        have HI := Lib.hid hin
        clear hin hcon
        go_wp2_with (go_at_call 94; refine (HC.out).mono ?_; rintro e w1 ⟨rfl, hb1⟩)
        go_roundw
        case rel => first | exact ⟨k + 1, by omega, by go_num, by rw [HS.out, HA.out, ← HX.out, HI.out]; rfl, bel_trans hbel hb1, by rw [hb1.cell (p := ⟨w.heap.size, 4, none⟩) hsz]; exact hcell, Nat.lt_of_lt_of_le hsz hb1.size⟩ | ((repeat apply Exists.intro); exact ⟨⟨k + 1, by omega, by go_num, by rw [HS.out, HA.out, ← HX.out, HI.out]; rfl, bel_trans hbel hb1, by rw [hb1.cell (p := ⟨w.heap.size, 4, none⟩) hsz]; exact hcell, Nat.lt_of_lt_of_le hsz hb1.size⟩, rfl⟩)
        case measure => simp [intOf]; omega
    · have hke : k = zs.length := by omega
      have hkk : ¬ ((k : Int) < zs.length) := by omega
      have hall' : zs.all (mIn 4) = true := by rw [hke, List.take_length] at hall; exact hall
      have HA := Lib.hid hall'
      have HK := Lib.hid hke
      clear hall hall' hke
      go_wp2
      rw [HA.out]
      go_ret2
      exact ⟨rfl, hbel⟩

set_option maxHeartbeats 800000 in
theorem opsFor5 (zs : List Int) (s : Value) (w : World) (hr : Row w s zs) (hl : zs.length ≤ 281474976710656) :
    Calls Try.prog 77 #[.int .i64 5, s] w fun e w' => e = .returned (.tuple #[opsR 5 (zs.all (mIn 5)), .bool (zs.all (mIn 5))]) ∧ Below w.heap.size w w' := by
  obtain ⟨a, cap, rfl, hz0⟩ := hr
  have hz := Lib.hid hz0
  clear hz0
  go_enter Try.func77, Try.ntmps77
  go_wp2
  go_loopw [27] (fun c wr => ∃ k : Nat, k ≤ zs.length ∧ c = .int .i64 k ∧ (zs.take k).all (mIn 5) = true ∧ Below w.heap.size w wr ∧ wr.cell? ⟨w.heap.size, 5, none⟩ = some (.iface 144 (.agg #[])) ∧ w.heap.size < wr.heap.size) (fun c _ => zs.length - (intOf c).toNat)
  case atStart => exact ⟨0, Nat.zero_le _, rfl, rfl, (Below.refl _ _).alloc (Nat.le_refl _) _, by go_simp, by simp⟩
  case round =>
    obtain ⟨k, hk, rfl, hall, hbel, hcell, hsz⟩ := hrel
    by_cases hlt : k < zs.length
    · have hlt' : (k : Int) < zs.length := by omega
      rcases hz.out with h0 | ⟨b, off, rfl, hb, hc⟩
      · rw [h0] at hlt; simp at hlt
      obtain ⟨x, hx⟩ : ∃ x, x = zs.getD k 0 := ⟨_, rfl⟩
      have hck : wr.cell? ⟨b, off + k, none⟩ = some (.int .i64 x) := by rw [hbel.cell (p := ⟨b, off + k, none⟩) hb, hx]; exact hc k hlt
      have hsn := all_snoc (mIn 5) zs k hlt
      have HA := Lib.hid hall
      have HS := Lib.hid hsn
      have HX := Lib.hid hx
      clear hc hall hsn hx
      cases hin : mIn 5 x
      · have hcon := is5 x wr
        rw [hin] at hcon
        have HC := Lib.hid hcon
        have HI := Lib.hid hin
        clear hin hcon
        go_wp2_with (go_at_call 94; refine (HC.out).mono ?_; rintro e w1 ⟨rfl, hb1⟩)
        have hf := all_false (mIn 5) zs k hlt (by rw [← HX.out]; exact HI.out)
        rw [hf]
        go_ret2
        exact ⟨rfl, bel_trans hbel hb1⟩
      · have hcon := is5 x wr
        rw [hin] at hcon
        have HC := Lib.hid hcon
        have HI := Lib.hid hin
        clear hin hcon
        go_wp2_with (go_at_call 94; refine (HC.out).mono ?_; rintro e w1 ⟨rfl, hb1⟩)
        go_roundw
        case rel => first | exact ⟨k + 1, by omega, by go_num, by rw [HS.out, HA.out, ← HX.out, HI.out]; rfl, bel_trans hbel hb1, by rw [hb1.cell (p := ⟨w.heap.size, 5, none⟩) hsz]; exact hcell, Nat.lt_of_lt_of_le hsz hb1.size⟩ | ((repeat apply Exists.intro); exact ⟨⟨k + 1, by omega, by go_num, by rw [HS.out, HA.out, ← HX.out, HI.out]; rfl, bel_trans hbel hb1, by rw [hb1.cell (p := ⟨w.heap.size, 5, none⟩) hsz]; exact hcell, Nat.lt_of_lt_of_le hsz hb1.size⟩, rfl⟩)
        case measure => simp [intOf]; omega
    · have hke : k = zs.length := by omega
      have hkk : ¬ ((k : Int) < zs.length) := by omega
      have hall' : zs.all (mIn 5) = true := by rw [hke, List.take_length] at hall; exact hall
      have HA := Lib.hid hall'
      have HK := Lib.hid hke
      clear hall hall' hke
      go_wp2
      rw [HA.out]
      go_ret2
      exact ⟨rfl, hbel⟩

theorem opsFor_no (m : Int) (hm : mKind m = false) (s : Value) (w : World) :
    Calls Try.prog 77 #[.int .i64 m, s] w fun e w' => e = .returned (.tuple #[.nilIface, .bool false]) ∧ Below w.heap.size w w' := by
  rcases mKind_not hm with h | h
  · have h1 : ¬ (1 ≤ m) := by omega
    clear hm
    go_enter Try.func77, Try.ntmps77
    go_wp2
    go_ret2
    exact ⟨rfl, Below.refl _ _⟩
  · have h1 : 1 ≤ m := by omega
    have h2 : ¬ (m ≤ 5) := by omega
    clear hm
    go_enter Try.func77, Try.ntmps77
    go_wp2
    go_ret2
    exact ⟨rfl, Below.refl _ _⟩
theorem opsFor_any {m : Int} (hm : mKind m = true) (zs : List Int) (s : Value) (w : World) (hr : Row w s zs) (hl : zs.length ≤ 281474976710656) :
    Calls Try.prog 77 #[.int .i64 m, s] w fun e w' => e = .returned (.tuple #[opsR m (zs.all (mIn m)), .bool (zs.all (mIn m))]) ∧ Below w.heap.size w w' := by
  rcases mKind_cases hm with rfl | rfl | rfl | rfl | rfl
  · exact opsFor1 zs s w hr hl
  · exact opsFor2 zs s w hr hl
  · exact opsFor3 zs s w hr hl
  · exact opsFor4 zs s w hr hl
  · exact opsFor5 zs s w hr hl

end Go.Proofs.Ytdilimdicanbjaa
