/- Measures of paths: the program's and the model's functions. The measure of a path: the program's and the model's functions, whole. -/
import Derived.Test.YtlmhccjppmhdbaaMath2
import Derived.Test.YtlmhccjppmhdbaaImpl2
import Derived.Test.YtlmhccjppmhdbaaSpec2
namespace Go.Proofs.Ytlmhccjppmhdbaa
open Go.RowKit Go.BigFrame
set_option linter.unusedVariables false
set_option linter.unusedSimpArgs false

theorem mPath_snoc (m v : Int) (zs : List Int) (k : Nat) (h : k < zs.length) : mPath m v (zs.take (k + 1)) = mJoin m (mPath m v (zs.take k)) (mEdge m (zs.getD k 0)) := by
  unfold mPath; rw [List.take_succ_eq_append_getElem h, List.foldl_append, getD_of h]; rfl
theorem mPath_in {m : Int} (hm : mKind m = true) : ∀ (zs : List Int) (v : Int), mIn m v = true → zs.all mWeight = true → mIn m (mPath m v zs) = true := by
  intro zs
  induction zs with
  | nil => intro v hv _; exact hv
  | cons x zs ih =>
    intro v hv ha
    simp only [List.all_cons, Bool.and_eq_true] at ha
    exact ih _ (mJoin_in hm hv (mEdge_in hm ha.1)) ha.2

theorem iWeights (zs : List Int) (s : Value) (w : World) (hr : Row w s zs) (hl : zs.length ≤ 1048576) :
    Calls Try.prog 75 #[s] w fun e w' => e = .returned (.bool (zs.all mWeight)) ∧ w = w' := by
  obtain ⟨a, cap, rfl, hz0⟩ := hr
  have hz := Lib.hid hz0
  clear hz0
  go_enter Try.func75, Try.ntmps75
  go_wp2
  go_loop [7] (fun c => ∃ k : Nat, k ≤ zs.length ∧ c = .int .i64 k ∧ (zs.take k).all mWeight = true) (fun c => zs.length - (intOf c).toNat)
  case atStart => exact ⟨0, Nat.zero_le _, rfl, rfl⟩
  case round =>
    obtain ⟨k, hk, rfl, hall⟩ := hrel
    by_cases hlt : k < zs.length
    · have hlt' : (k : Int) < zs.length := by omega
      rcases hz.out with h0 | ⟨b, off, rfl, hb, hc⟩
      · rw [h0] at hlt; simp at hlt
      obtain ⟨x, hx⟩ : ∃ x, x = zs.getD k 0 := ⟨_, rfl⟩
      have hck : w.cell? ⟨b, off + k, none⟩ = some (.int .i64 x) := by rw [hx]; exact hc k hlt
      have hsn := all_snoc mWeight zs k hlt
      have HA := Lib.hid hall
      have HS := Lib.hid hsn
      have HX := Lib.hid hx
      clear hc hall hsn hx
      cases hin : mWeight x
      · have HI := Lib.hid hin
        clear hin
        go_wp2_with (go_at_call 109; refine (wv_is HI.out _).mono ?_; rintro e w1 ⟨rfl, rfl⟩)
        have hf := all_false mWeight zs k hlt (by rw [← HX.out]; exact HI.out)
        rw [hf]
        go_ret
        exact ⟨rfl, rfl⟩
      · have HI := Lib.hid hin
        clear hin
        go_wp2_with (go_at_call 109; refine (wv_is HI.out _).mono ?_; rintro e w1 ⟨rfl, rfl⟩)
        go_round
        case rel => first | exact ⟨k + 1, by omega, by go_num, by rw [HS.out, HA.out, ← HX.out, HI.out]; rfl⟩ | ((repeat apply Exists.intro); exact ⟨⟨k + 1, by omega, by go_num, by rw [HS.out, HA.out, ← HX.out, HI.out]; rfl⟩, rfl⟩)
        case measure => simp [intOf]; omega
    · have hke : k = zs.length := by omega
      have hkk : ¬ ((k : Int) < zs.length) := by omega
      have hall' : zs.all mWeight = true := by rw [hke, List.take_length] at hall; exact hall
      have HA := Lib.hid hall'
      have HK := Lib.hid hke
      clear hall hall' hke
      go_wp2
      rw [HA.out]
      go_ret
      exact ⟨rfl, rfl⟩
theorem iWeightsIs {zs : List Int} {b : Bool} (h : Hid (zs.all mWeight = b)) {s : Value} {w : World} (hr : Row w s zs) (hl : zs.length ≤ 1048576) :
    Calls Try.prog 75 #[s] w fun e w' => e = .returned (.bool b) ∧ w = w' := by
  have := iWeights zs s w hr hl
  rw [h.out] at this
  exact this

set_option maxHeartbeats 800000 in
theorem iOfEdges1 (zs : List Int) (s : Value) (w : World) (hr : Row w s zs) (hl : zs.length ≤ 50) (hall : zs.all mWeight = true) :
    Calls Try.prog 76 #[.iface 138 (.agg #[]), s] w fun e w' => e = .returned (.int .i64 (mPath 1 0 zs)) ∧ Below w.heap.size w w' := by
  obtain ⟨a, cap, rfl, hz0⟩ := hr
  have hz := Lib.hid hz0
  have HA := Lib.hid hall
  have h1 := me1
  clear hz0 hall
  go_enter Try.func76, Try.ntmps76
  go_wp2_with (first | (go_at_call 158; refine (less_empty _).mono ?_; rintro e w0 ⟨rfl, hb0⟩))
  have h2 := mo1
  have h3 := mj1
  have h4 := aj1
  clear h1
  go_loopw [5, 12] (fun v c wr => ∃ k : Nat, k ≤ zs.length ∧ c = .int .i64 k ∧ v = .int .i64 (mPath 1 0 (zs.take k)) ∧ Below w.heap.size w wr) (fun _ c _ => zs.length - (intOf c).toNat)
  case atStart => exact ⟨0, Nat.zero_le _, rfl, rfl, hb0⟩
  case round =>
    obtain ⟨k, hk, rfl, rfl, hbel⟩ := hrel
    by_cases hlt : k < zs.length
    · have hlt' : (k : Int) < zs.length := by omega
      rcases hz.out with h0 | ⟨b, off, rfl, hb, hc⟩
      · rw [h0] at hlt; simp at hlt
      obtain ⟨x, hx⟩ : ∃ x, x = zs.getD k 0 := ⟨_, rfl⟩
      have hck : wr.cell? ⟨b, off + k, none⟩ = some (.int .i64 x) := by rw [hbel.cell (p := ⟨b, off + k, none⟩) hb, hx]; exact hc k hlt
      have hpn := mPath_snoc 1 0 zs k hlt
      have hall1 : (zs.take k).all mWeight = true := by rw [List.all_eq_true]; intro y hy; exact List.all_eq_true.1 HA.out y (List.mem_of_mem_take hy)
      have hwx : mWeight x = true := by rw [hx, getD_of hlt]; exact List.all_eq_true.1 HA.out _ (List.getElem_mem hlt)
      have hv := mIn_low (m := 1) rfl (mPath_in (m := 1) rfl (zs.take k) 0 (by decide) hall1)
      have hw := mIn_low (m := 1) rfl (mEdge_in (m := 1) rfl hwx)
      rw [← hx] at hpn
      obtain ⟨y, hy⟩ : ∃ y, y = mPath 1 0 (zs.take k) := ⟨_, rfl⟩
      have hje : mEdge 1 x = x := rfl
      rw [hje] at hpn hw
      rw [← hy] at hpn hv ⊢
      have HX := Lib.hid hx
      have HY := Lib.hid hy
      have HP := Lib.hid hpn
      clear hc hx hpn hall1 hy hje hwx
      go_wp2_with fail
      refine wp_region_below (by kernel_rfl) (by kernel_rfl) ?_
      repeat (go_big_quiet_step ((intro hw1; first | with_reducible rfl | (go_at_call 160; exact quietB (eweight _ _) hw1) | (go_at_call 161; exact quietB (ij1 _ _ hv hw _) hw1))))
      refine wpQuiet_nil ?_
      intro w1 hw1
      go_wp2
      go_roundw
      case rel => first | exact ⟨k + 1, by omega, by go_num, by rw [HP.out], bel_trans hbel hw1⟩ | ((repeat apply Exists.intro); exact ⟨⟨k + 1, by omega, by go_num, by rw [HP.out], bel_trans hbel hw1⟩, rfl⟩)
      case measure => simp [intOf]; omega
    · have hke : k = zs.length := by omega
      have hkk : ¬ ((k : Int) < zs.length) := by omega
      have hp : mPath 1 0 (zs.take k) = mPath 1 0 zs := by rw [hke, List.take_length]
      have HP := Lib.hid hp
      have HK := Lib.hid hke
      clear hke hp
      go_wp2
      go_ret
      exact ⟨ret_int HP.out, hbel⟩

set_option maxHeartbeats 800000 in
theorem iOfEdges2 (zs : List Int) (s : Value) (w : World) (hr : Row w s zs) (hl : zs.length ≤ 50) (hall : zs.all mWeight = true) :
    Calls Try.prog 76 #[.iface 143 (.agg #[.int .i64 100000]), s] w fun e w' => e = .returned (.int .i64 (mPath 2 100000 zs)) ∧ Below w.heap.size w w' := by
  obtain ⟨a, cap, rfl, hz0⟩ := hr
  have hz := Lib.hid hz0
  have HA := Lib.hid hall
  have h1 := me2
  clear hz0 hall
  go_enter Try.func76, Try.ntmps76
  go_wp2_with (first | (go_at_call 163; refine (more_empty _ _).mono ?_; rintro e w0 ⟨rfl, hb0⟩))
  have h2 := mo2
  have h3 := mj2
  have h4 := aj2
  clear h1
  go_loopw [5, 12] (fun v c wr => ∃ k : Nat, k ≤ zs.length ∧ c = .int .i64 k ∧ v = .int .i64 (mPath 2 100000 (zs.take k)) ∧ Below w.heap.size w wr) (fun _ c _ => zs.length - (intOf c).toNat)
  case atStart => exact ⟨0, Nat.zero_le _, rfl, rfl, hb0⟩
  case round =>
    obtain ⟨k, hk, rfl, rfl, hbel⟩ := hrel
    by_cases hlt : k < zs.length
    · have hlt' : (k : Int) < zs.length := by omega
      rcases hz.out with h0 | ⟨b, off, rfl, hb, hc⟩
      · rw [h0] at hlt; simp at hlt
      obtain ⟨x, hx⟩ : ∃ x, x = zs.getD k 0 := ⟨_, rfl⟩
      have hck : wr.cell? ⟨b, off + k, none⟩ = some (.int .i64 x) := by rw [hbel.cell (p := ⟨b, off + k, none⟩) hb, hx]; exact hc k hlt
      have hpn := mPath_snoc 2 100000 zs k hlt
      have hall1 : (zs.take k).all mWeight = true := by rw [List.all_eq_true]; intro y hy; exact List.all_eq_true.1 HA.out y (List.mem_of_mem_take hy)
      have hwx : mWeight x = true := by rw [hx, getD_of hlt]; exact List.all_eq_true.1 HA.out _ (List.getElem_mem hlt)
      have hv := mIn_low (m := 2) rfl (mPath_in (m := 2) rfl (zs.take k) 100000 (by decide) hall1)
      have hw := mIn_low (m := 2) rfl (mEdge_in (m := 2) rfl hwx)
      rw [← hx] at hpn
      obtain ⟨y, hy⟩ : ∃ y, y = mPath 2 100000 (zs.take k) := ⟨_, rfl⟩
      have hje : mEdge 2 x = x := rfl
      rw [hje] at hpn hw
      rw [← hy] at hpn hv ⊢
      have HX := Lib.hid hx
      have HY := Lib.hid hy
      have HP := Lib.hid hpn
      clear hc hx hpn hall1 hy hje hwx
      go_wp2_with fail
      refine wp_region_below (by kernel_rfl) (by kernel_rfl) ?_
      repeat (go_big_quiet_step ((intro hw1; first | with_reducible rfl | (go_at_call 160; exact quietB (eweight _ _) hw1) | (go_at_call 165; exact quietB (ij2 _ _ hv hw _) hw1))))
      refine wpQuiet_nil ?_
      intro w1 hw1
      go_wp2
      go_roundw
      case rel => first | exact ⟨k + 1, by omega, by go_num, by rw [HP.out], bel_trans hbel hw1⟩ | ((repeat apply Exists.intro); exact ⟨⟨k + 1, by omega, by go_num, by rw [HP.out], bel_trans hbel hw1⟩, rfl⟩)
      case measure => simp [intOf]; omega
    · have hke : k = zs.length := by omega
      have hkk : ¬ ((k : Int) < zs.length) := by omega
      have hp : mPath 2 100000 (zs.take k) = mPath 2 100000 zs := by rw [hke, List.take_length]
      have HP := Lib.hid hp
      have HK := Lib.hid hke
      clear hke hp
      go_wp2
      go_ret
      exact ⟨ret_int HP.out, hbel⟩

set_option maxHeartbeats 800000 in
theorem iOfEdges3 (zs : List Int) (s : Value) (w : World) (hr : Row w s zs) (hl : zs.length ≤ 50) (hall : zs.all mWeight = true) :
    Calls Try.prog 76 #[.iface 146 (.agg #[]), s] w fun e w' => e = .returned (.int .i64 (mPath 3 0 zs)) ∧ Below w.heap.size w w' := by
  obtain ⟨a, cap, rfl, hz0⟩ := hr
  have hz := Lib.hid hz0
  have HA := Lib.hid hall
  have h1 := me3
  clear hz0 hall
  go_enter Try.func76, Try.ntmps76
  go_wp2_with (first | (go_at_call 158; refine (less_empty _).mono ?_; rintro e w0 ⟨rfl, hb0⟩))
  have h2 := mo3
  have h3 := mj3
  have h4 := aj3
  clear h1
  go_loopw [5, 12] (fun v c wr => ∃ k : Nat, k ≤ zs.length ∧ c = .int .i64 k ∧ v = .int .i64 (mPath 3 0 (zs.take k)) ∧ Below w.heap.size w wr) (fun _ c _ => zs.length - (intOf c).toNat)
  case atStart => exact ⟨0, Nat.zero_le _, rfl, rfl, hb0⟩
  case round =>
    obtain ⟨k, hk, rfl, rfl, hbel⟩ := hrel
    by_cases hlt : k < zs.length
    · have hlt' : (k : Int) < zs.length := by omega
      rcases hz.out with h0 | ⟨b, off, rfl, hb, hc⟩
      · rw [h0] at hlt; simp at hlt
      obtain ⟨x, hx⟩ : ∃ x, x = zs.getD k 0 := ⟨_, rfl⟩
      have hck : wr.cell? ⟨b, off + k, none⟩ = some (.int .i64 x) := by rw [hbel.cell (p := ⟨b, off + k, none⟩) hb, hx]; exact hc k hlt
      have hpn := mPath_snoc 3 0 zs k hlt
      have hall1 : (zs.take k).all mWeight = true := by rw [List.all_eq_true]; intro y hy; exact List.all_eq_true.1 HA.out y (List.mem_of_mem_take hy)
      have hwx : mWeight x = true := by rw [hx, getD_of hlt]; exact List.all_eq_true.1 HA.out _ (List.getElem_mem hlt)
      have hv := mIn_low (m := 3) rfl (mPath_in (m := 3) rfl (zs.take k) 0 (by decide) hall1)
      have hw := mIn_low (m := 3) rfl (mEdge_in (m := 3) rfl hwx)
      rw [← hx] at hpn
      obtain ⟨y, hy⟩ : ∃ y, y = mPath 3 0 (zs.take k) := ⟨_, rfl⟩
      have hje : mEdge 3 x = x := rfl
      rw [hje] at hpn hw
      rw [← hy] at hpn hv ⊢
      have HX := Lib.hid hx
      have HY := Lib.hid hy
      have HP := Lib.hid hpn
      clear hc hx hpn hall1 hy hje hwx
      go_wp2_with fail
      refine wp_region_below (by kernel_rfl) (by kernel_rfl) ?_
      repeat (go_big_quiet_step ((intro hw1; first | with_reducible rfl | (go_at_call 160; exact quietB (eweight _ _) hw1) | (go_at_call 166; exact quietB (ij3 _ _ hv hw _) hw1))))
      refine wpQuiet_nil ?_
      intro w1 hw1
      go_wp2
      go_roundw
      case rel => first | exact ⟨k + 1, by omega, by go_num, by rw [HP.out], bel_trans hbel hw1⟩ | ((repeat apply Exists.intro); exact ⟨⟨k + 1, by omega, by go_num, by rw [HP.out], bel_trans hbel hw1⟩, rfl⟩)
      case measure => simp [intOf]; omega
    · have hke : k = zs.length := by omega
      have hkk : ¬ ((k : Int) < zs.length) := by omega
      have hp : mPath 3 0 (zs.take k) = mPath 3 0 zs := by rw [hke, List.take_length]
      have HP := Lib.hid hp
      have HK := Lib.hid hke
      clear hke hp
      go_wp2
      go_ret
      exact ⟨ret_int HP.out, hbel⟩

set_option maxHeartbeats 800000 in
theorem iOfEdges4 (zs : List Int) (s : Value) (w : World) (hr : Row w s zs) (hl : zs.length ≤ 50) (hall : zs.all mWeight = true) :
    Calls Try.prog 76 #[.iface 149 (.agg #[.int .i64 1]), s] w fun e w' => e = .returned (.int .i64 (mPath 4 1 zs)) ∧ Below w.heap.size w w' := by
  obtain ⟨a, cap, rfl, hz0⟩ := hr
  have hz := Lib.hid hz0
  have HA := Lib.hid hall
  have h1 := me4
  clear hz0 hall
  go_enter Try.func76, Try.ntmps76
  go_wp2_with (first | (go_at_call 163; refine (more_empty _ _).mono ?_; rintro e w0 ⟨rfl, hb0⟩))
  have h2 := mo4
  have h3 := mj4
  have h4 := aj4
  clear h1
  go_loopw [5, 12] (fun v c wr => ∃ k : Nat, k ≤ zs.length ∧ c = .int .i64 k ∧ v = .int .i64 (mPath 4 1 (zs.take k)) ∧ Below w.heap.size w wr) (fun _ c _ => zs.length - (intOf c).toNat)
  case atStart => exact ⟨0, Nat.zero_le _, rfl, rfl, hb0⟩
  case round =>
    obtain ⟨k, hk, rfl, rfl, hbel⟩ := hrel
    by_cases hlt : k < zs.length
    · have hlt' : (k : Int) < zs.length := by omega
      rcases hz.out with h0 | ⟨b, off, rfl, hb, hc⟩
      · rw [h0] at hlt; simp at hlt
      obtain ⟨x, hx⟩ : ∃ x, x = zs.getD k 0 := ⟨_, rfl⟩
      have hck : wr.cell? ⟨b, off + k, none⟩ = some (.int .i64 x) := by rw [hbel.cell (p := ⟨b, off + k, none⟩) hb, hx]; exact hc k hlt
      have hpn := mPath_snoc 4 1 zs k hlt
      have hall1 : (zs.take k).all mWeight = true := by rw [List.all_eq_true]; intro y hy; exact List.all_eq_true.1 HA.out y (List.mem_of_mem_take hy)
      have hwx : mWeight x = true := by rw [hx, getD_of hlt]; exact List.all_eq_true.1 HA.out _ (List.getElem_mem hlt)
      have hv := mIn_low (m := 4) rfl (mPath_in (m := 4) rfl (zs.take k) 1 (by decide) hall1)
      have hw := mIn_low (m := 4) rfl (mEdge_in (m := 4) rfl hwx)
      rw [← hx] at hpn
      obtain ⟨y, hy⟩ : ∃ y, y = mPath 4 1 (zs.take k) := ⟨_, rfl⟩
      have hje : mEdge 4 x = 1 := rfl
      rw [hje] at hpn hw
      rw [← hy] at hpn hv ⊢
      have HX := Lib.hid hx
      have HY := Lib.hid hy
      have HP := Lib.hid hpn
      clear hc hx hpn hall1 hy hje hwx
      go_wp2_with fail
      refine wp_region_below (by kernel_rfl) (by kernel_rfl) ?_
      repeat (go_big_quiet_step ((intro hw1; first | with_reducible rfl | (go_at_call 167; exact quietB (eone _ _) hw1) | (go_at_call 165; exact quietB (ij4 _ _ hv hw _) hw1))))
      refine wpQuiet_nil ?_
      intro w1 hw1
      go_wp2
      go_roundw
      case rel => first | exact ⟨k + 1, by omega, by go_num, by rw [HP.out], bel_trans hbel hw1⟩ | ((repeat apply Exists.intro); exact ⟨⟨k + 1, by omega, by go_num, by rw [HP.out], bel_trans hbel hw1⟩, rfl⟩)
      case measure => simp [intOf]; omega
    · have hke : k = zs.length := by omega
      have hkk : ¬ ((k : Int) < zs.length) := by omega
      have hp : mPath 4 1 (zs.take k) = mPath 4 1 zs := by rw [hke, List.take_length]
      have HP := Lib.hid hp
      have HK := Lib.hid hke
      clear hke hp
      go_wp2
      go_ret
      exact ⟨ret_int HP.out, hbel⟩

set_option maxHeartbeats 800000 in
theorem iOfEdges5 (zs : List Int) (s : Value) (w : World) (hr : Row w s zs) (hl : zs.length ≤ 50) (hall : zs.all mWeight = true) :
    Calls Try.prog 76 #[.iface 151 (.agg #[]), s] w fun e w' => e = .returned (.int .i64 (mPath 5 0 zs)) ∧ Below w.heap.size w w' := by
  obtain ⟨a, cap, rfl, hz0⟩ := hr
  have hz := Lib.hid hz0
  have HA := Lib.hid hall
  have h1 := me5
  clear hz0 hall
  go_enter Try.func76, Try.ntmps76
  go_wp2_with (first | (go_at_call 158; refine (less_empty _).mono ?_; rintro e w0 ⟨rfl, hb0⟩))
  have h2 := mo5
  have h3 := mj5
  have h4 := aj5
  clear h1
  go_loopw [5, 12] (fun v c wr => ∃ k : Nat, k ≤ zs.length ∧ c = .int .i64 k ∧ v = .int .i64 (mPath 5 0 (zs.take k)) ∧ Below w.heap.size w wr) (fun _ c _ => zs.length - (intOf c).toNat)
  case atStart => exact ⟨0, Nat.zero_le _, rfl, rfl, hb0⟩
  case round =>
    obtain ⟨k, hk, rfl, rfl, hbel⟩ := hrel
    by_cases hlt : k < zs.length
    · have hlt' : (k : Int) < zs.length := by omega
      rcases hz.out with h0 | ⟨b, off, rfl, hb, hc⟩
      · rw [h0] at hlt; simp at hlt
      obtain ⟨x, hx⟩ : ∃ x, x = zs.getD k 0 := ⟨_, rfl⟩
      have hck : wr.cell? ⟨b, off + k, none⟩ = some (.int .i64 x) := by rw [hbel.cell (p := ⟨b, off + k, none⟩) hb, hx]; exact hc k hlt
      have hpn := mPath_snoc 5 0 zs k hlt
      have hall1 : (zs.take k).all mWeight = true := by rw [List.all_eq_true]; intro y hy; exact List.all_eq_true.1 HA.out y (List.mem_of_mem_take hy)
      have hwx : mWeight x = true := by rw [hx, getD_of hlt]; exact List.all_eq_true.1 HA.out _ (List.getElem_mem hlt)
      have hv := mIn_low (m := 5) rfl (mPath_in (m := 5) rfl (zs.take k) 0 (by decide) hall1)
      have hw := mIn_low (m := 5) rfl (mEdge_in (m := 5) rfl hwx)
      rw [← hx] at hpn
      obtain ⟨y, hy⟩ : ∃ y, y = mPath 5 0 (zs.take k) := ⟨_, rfl⟩
      have hje : mEdge 5 x = 1 := rfl
      rw [hje] at hpn hw
      rw [← hy] at hpn hv ⊢
      have HX := Lib.hid hx
      have HY := Lib.hid hy
      have HP := Lib.hid hpn
      clear hc hx hpn hall1 hy hje hwx
      go_wp2_with fail
      refine wp_region_below (by kernel_rfl) (by kernel_rfl) ?_
      repeat (go_big_quiet_step ((intro hw1; first | with_reducible rfl | (go_at_call 167; exact quietB (eone _ _) hw1) | (go_at_call 161; exact quietB (ij5 _ _ hv hw _) hw1))))
      refine wpQuiet_nil ?_
      intro w1 hw1
      go_wp2
      go_roundw
      case rel => first | exact ⟨k + 1, by omega, by go_num, by rw [HP.out], bel_trans hbel hw1⟩ | ((repeat apply Exists.intro); exact ⟨⟨k + 1, by omega, by go_num, by rw [HP.out], bel_trans hbel hw1⟩, rfl⟩)
      case measure => simp [intOf]; omega
    · have hke : k = zs.length := by omega
      have hkk : ¬ ((k : Int) < zs.length) := by omega
      have hp : mPath 5 0 (zs.take k) = mPath 5 0 zs := by rw [hke, List.take_length]
      have HP := Lib.hid hp
      have HK := Lib.hid hke
      clear hke hp
      go_wp2
      go_ret
      exact ⟨ret_int HP.out, hbel⟩
end Go.Proofs.Ytlmhccjppmhdbaa
namespace Go.Proofs.Ytlmhccjppmhdbaa
open Go.RowKit Go.BigFrame
set_option linter.unusedVariables false
set_option linter.unusedSimpArgs false

theorem iPathLong1 (zs : List Int) (s : Value) (w : World) (hr : Row w s zs) (hl : 50 < zs.length) :
    Calls Try.prog 41 #[.int .i64 1, s] w fun e w' => e = .returned (.tuple #[.int .i64 0, .bool false]) ∧ Below w.heap.size w w' := by
  obtain ⟨a, cap, rfl, hz0⟩ := hr
  clear hz0
  go_enter Try.func41, Try.ntmps41
  go_wp2_with (first | (go_at_call 68; refine (opsY1 [] _ _ (row_nil _) (by simp) rfl).mono ?_; rintro e w1 ⟨rfl, hb1⟩))
  go_ret2
  exact ⟨rfl, hb1⟩
theorem iPathBad1 (zs : List Int) (s : Value) (w : World) (hr : Row w s zs) (hl : zs.length ≤ 50) (HA : Hid (zs.all mWeight = false)) :
    Calls Try.prog 41 #[.int .i64 1, s] w fun e w' => e = .returned (.tuple #[.int .i64 0, .bool false]) ∧ Below w.heap.size w w' := by
  obtain ⟨a, cap, hs, hz0⟩ := id hr
  subst hs
  clear hz0
  have HR := Lib.hid hr
  clear hr
  go_enter Try.func41, Try.ntmps41
  go_wp2_with (first | (go_at_call 68; refine (opsY1 [] _ _ (row_nil _) (by simp) rfl).mono ?_; rintro e w1 ⟨rfl, hb1⟩) | (go_at_call 75; refine (iWeightsIs HA (Row.below HR.out hb1) (by omega)).mono ?_; rintro e w2 ⟨rfl, rfl⟩))
  go_ret2
  exact ⟨rfl, hb1⟩
theorem iPathGood1 (zs : List Int) (s : Value) (w : World) (hr : Row w s zs) (hl : zs.length ≤ 50) (HA : Hid (zs.all mWeight = true)) :
    Calls Try.prog 41 #[.int .i64 1, s] w fun e w' => e = .returned (.tuple #[.int .i64 (mPath 1 0 zs), .bool true]) ∧ Below w.heap.size w w' := by
  obtain ⟨a, cap, hs, hz0⟩ := id hr
  subst hs
  clear hz0
  have HR := Lib.hid hr
  clear hr
  go_enter Try.func41, Try.ntmps41
  go_wp2_with (first | (go_at_call 68; refine (opsY1 [] _ _ (row_nil _) (by simp) rfl).mono ?_; rintro e w1 ⟨rfl, hb1⟩) | (go_at_call 75; refine (iWeightsIs HA (Row.below HR.out hb1) (by omega)).mono ?_; rintro e w2 ⟨rfl, rfl⟩) | (go_at_call 76; refine (iOfEdges1 zs _ _ (Row.below HR.out hb1) hl HA.out).mono ?_; rintro e w3 ⟨rfl, hb3⟩))
  go_ret2
  exact ⟨rfl, bel_trans hb1 hb3⟩

theorem iPathLong2 (zs : List Int) (s : Value) (w : World) (hr : Row w s zs) (hl : 50 < zs.length) :
    Calls Try.prog 41 #[.int .i64 2, s] w fun e w' => e = .returned (.tuple #[.int .i64 0, .bool false]) ∧ Below w.heap.size w w' := by
  obtain ⟨a, cap, rfl, hz0⟩ := hr
  clear hz0
  go_enter Try.func41, Try.ntmps41
  go_wp2_with (first | (go_at_call 68; refine (opsY2 [] _ _ (row_nil _) (by simp) rfl).mono ?_; rintro e w1 ⟨rfl, hb1⟩))
  go_ret2
  exact ⟨rfl, hb1⟩
theorem iPathBad2 (zs : List Int) (s : Value) (w : World) (hr : Row w s zs) (hl : zs.length ≤ 50) (HA : Hid (zs.all mWeight = false)) :
    Calls Try.prog 41 #[.int .i64 2, s] w fun e w' => e = .returned (.tuple #[.int .i64 0, .bool false]) ∧ Below w.heap.size w w' := by
  obtain ⟨a, cap, hs, hz0⟩ := id hr
  subst hs
  clear hz0
  have HR := Lib.hid hr
  clear hr
  go_enter Try.func41, Try.ntmps41
  go_wp2_with (first | (go_at_call 68; refine (opsY2 [] _ _ (row_nil _) (by simp) rfl).mono ?_; rintro e w1 ⟨rfl, hb1⟩) | (go_at_call 75; refine (iWeightsIs HA (Row.below HR.out hb1) (by omega)).mono ?_; rintro e w2 ⟨rfl, rfl⟩))
  go_ret2
  exact ⟨rfl, hb1⟩
theorem iPathGood2 (zs : List Int) (s : Value) (w : World) (hr : Row w s zs) (hl : zs.length ≤ 50) (HA : Hid (zs.all mWeight = true)) :
    Calls Try.prog 41 #[.int .i64 2, s] w fun e w' => e = .returned (.tuple #[.int .i64 (mPath 2 100000 zs), .bool true]) ∧ Below w.heap.size w w' := by
  obtain ⟨a, cap, hs, hz0⟩ := id hr
  subst hs
  clear hz0
  have HR := Lib.hid hr
  clear hr
  go_enter Try.func41, Try.ntmps41
  go_wp2_with (first | (go_at_call 68; refine (opsY2 [] _ _ (row_nil _) (by simp) rfl).mono ?_; rintro e w1 ⟨rfl, hb1⟩) | (go_at_call 75; refine (iWeightsIs HA (Row.below HR.out hb1) (by omega)).mono ?_; rintro e w2 ⟨rfl, rfl⟩) | (go_at_call 76; refine (iOfEdges2 zs _ _ (Row.below HR.out hb1) hl HA.out).mono ?_; rintro e w3 ⟨rfl, hb3⟩))
  go_ret2
  exact ⟨rfl, bel_trans hb1 hb3⟩

theorem iPathLong3 (zs : List Int) (s : Value) (w : World) (hr : Row w s zs) (hl : 50 < zs.length) :
    Calls Try.prog 41 #[.int .i64 3, s] w fun e w' => e = .returned (.tuple #[.int .i64 0, .bool false]) ∧ Below w.heap.size w w' := by
  obtain ⟨a, cap, rfl, hz0⟩ := hr
  clear hz0
  go_enter Try.func41, Try.ntmps41
  go_wp2_with (first | (go_at_call 68; refine (opsY3 [] _ _ (row_nil _) (by simp) rfl).mono ?_; rintro e w1 ⟨rfl, hb1⟩))
  go_ret2
  exact ⟨rfl, hb1⟩
theorem iPathBad3 (zs : List Int) (s : Value) (w : World) (hr : Row w s zs) (hl : zs.length ≤ 50) (HA : Hid (zs.all mWeight = false)) :
    Calls Try.prog 41 #[.int .i64 3, s] w fun e w' => e = .returned (.tuple #[.int .i64 0, .bool false]) ∧ Below w.heap.size w w' := by
  obtain ⟨a, cap, hs, hz0⟩ := id hr
  subst hs
  clear hz0
  have HR := Lib.hid hr
  clear hr
  go_enter Try.func41, Try.ntmps41
  go_wp2_with (first | (go_at_call 68; refine (opsY3 [] _ _ (row_nil _) (by simp) rfl).mono ?_; rintro e w1 ⟨rfl, hb1⟩) | (go_at_call 75; refine (iWeightsIs HA (Row.below HR.out hb1) (by omega)).mono ?_; rintro e w2 ⟨rfl, rfl⟩))
  go_ret2
  exact ⟨rfl, hb1⟩
theorem iPathGood3 (zs : List Int) (s : Value) (w : World) (hr : Row w s zs) (hl : zs.length ≤ 50) (HA : Hid (zs.all mWeight = true)) :
    Calls Try.prog 41 #[.int .i64 3, s] w fun e w' => e = .returned (.tuple #[.int .i64 (mPath 3 0 zs), .bool true]) ∧ Below w.heap.size w w' := by
  obtain ⟨a, cap, hs, hz0⟩ := id hr
  subst hs
  clear hz0
  have HR := Lib.hid hr
  clear hr
  go_enter Try.func41, Try.ntmps41
  go_wp2_with (first | (go_at_call 68; refine (opsY3 [] _ _ (row_nil _) (by simp) rfl).mono ?_; rintro e w1 ⟨rfl, hb1⟩) | (go_at_call 75; refine (iWeightsIs HA (Row.below HR.out hb1) (by omega)).mono ?_; rintro e w2 ⟨rfl, rfl⟩) | (go_at_call 76; refine (iOfEdges3 zs _ _ (Row.below HR.out hb1) hl HA.out).mono ?_; rintro e w3 ⟨rfl, hb3⟩))
  go_ret2
  exact ⟨rfl, bel_trans hb1 hb3⟩

theorem iPathLong4 (zs : List Int) (s : Value) (w : World) (hr : Row w s zs) (hl : 50 < zs.length) :
    Calls Try.prog 41 #[.int .i64 4, s] w fun e w' => e = .returned (.tuple #[.int .i64 0, .bool false]) ∧ Below w.heap.size w w' := by
  obtain ⟨a, cap, rfl, hz0⟩ := hr
  clear hz0
  go_enter Try.func41, Try.ntmps41
  go_wp2_with (first | (go_at_call 68; refine (opsY4 [] _ _ (row_nil _) (by simp) rfl).mono ?_; rintro e w1 ⟨rfl, hb1⟩))
  go_ret2
  exact ⟨rfl, hb1⟩
theorem iPathBad4 (zs : List Int) (s : Value) (w : World) (hr : Row w s zs) (hl : zs.length ≤ 50) (HA : Hid (zs.all mWeight = false)) :
    Calls Try.prog 41 #[.int .i64 4, s] w fun e w' => e = .returned (.tuple #[.int .i64 0, .bool false]) ∧ Below w.heap.size w w' := by
  obtain ⟨a, cap, hs, hz0⟩ := id hr
  subst hs
  clear hz0
  have HR := Lib.hid hr
  clear hr
  go_enter Try.func41, Try.ntmps41
  go_wp2_with (first | (go_at_call 68; refine (opsY4 [] _ _ (row_nil _) (by simp) rfl).mono ?_; rintro e w1 ⟨rfl, hb1⟩) | (go_at_call 75; refine (iWeightsIs HA (Row.below HR.out hb1) (by omega)).mono ?_; rintro e w2 ⟨rfl, rfl⟩))
  go_ret2
  exact ⟨rfl, hb1⟩
theorem iPathGood4 (zs : List Int) (s : Value) (w : World) (hr : Row w s zs) (hl : zs.length ≤ 50) (HA : Hid (zs.all mWeight = true)) :
    Calls Try.prog 41 #[.int .i64 4, s] w fun e w' => e = .returned (.tuple #[.int .i64 (mPath 4 1 zs), .bool true]) ∧ Below w.heap.size w w' := by
  obtain ⟨a, cap, hs, hz0⟩ := id hr
  subst hs
  clear hz0
  have HR := Lib.hid hr
  clear hr
  go_enter Try.func41, Try.ntmps41
  go_wp2_with (first | (go_at_call 68; refine (opsY4 [] _ _ (row_nil _) (by simp) rfl).mono ?_; rintro e w1 ⟨rfl, hb1⟩) | (go_at_call 75; refine (iWeightsIs HA (Row.below HR.out hb1) (by omega)).mono ?_; rintro e w2 ⟨rfl, rfl⟩) | (go_at_call 76; refine (iOfEdges4 zs _ _ (Row.below HR.out hb1) hl HA.out).mono ?_; rintro e w3 ⟨rfl, hb3⟩))
  go_ret2
  exact ⟨rfl, bel_trans hb1 hb3⟩

theorem iPathLong5 (zs : List Int) (s : Value) (w : World) (hr : Row w s zs) (hl : 50 < zs.length) :
    Calls Try.prog 41 #[.int .i64 5, s] w fun e w' => e = .returned (.tuple #[.int .i64 0, .bool false]) ∧ Below w.heap.size w w' := by
  obtain ⟨a, cap, rfl, hz0⟩ := hr
  clear hz0
  go_enter Try.func41, Try.ntmps41
  go_wp2_with (first | (go_at_call 68; refine (opsY5 [] _ _ (row_nil _) (by simp) rfl).mono ?_; rintro e w1 ⟨rfl, hb1⟩))
  go_ret2
  exact ⟨rfl, hb1⟩
theorem iPathBad5 (zs : List Int) (s : Value) (w : World) (hr : Row w s zs) (hl : zs.length ≤ 50) (HA : Hid (zs.all mWeight = false)) :
    Calls Try.prog 41 #[.int .i64 5, s] w fun e w' => e = .returned (.tuple #[.int .i64 0, .bool false]) ∧ Below w.heap.size w w' := by
  obtain ⟨a, cap, hs, hz0⟩ := id hr
  subst hs
  clear hz0
  have HR := Lib.hid hr
  clear hr
  go_enter Try.func41, Try.ntmps41
  go_wp2_with (first | (go_at_call 68; refine (opsY5 [] _ _ (row_nil _) (by simp) rfl).mono ?_; rintro e w1 ⟨rfl, hb1⟩) | (go_at_call 75; refine (iWeightsIs HA (Row.below HR.out hb1) (by omega)).mono ?_; rintro e w2 ⟨rfl, rfl⟩))
  go_ret2
  exact ⟨rfl, hb1⟩
theorem iPathGood5 (zs : List Int) (s : Value) (w : World) (hr : Row w s zs) (hl : zs.length ≤ 50) (HA : Hid (zs.all mWeight = true)) :
    Calls Try.prog 41 #[.int .i64 5, s] w fun e w' => e = .returned (.tuple #[.int .i64 (mPath 5 0 zs), .bool true]) ∧ Below w.heap.size w w' := by
  obtain ⟨a, cap, hs, hz0⟩ := id hr
  subst hs
  clear hz0
  have HR := Lib.hid hr
  clear hr
  go_enter Try.func41, Try.ntmps41
  go_wp2_with (first | (go_at_call 68; refine (opsY5 [] _ _ (row_nil _) (by simp) rfl).mono ?_; rintro e w1 ⟨rfl, hb1⟩) | (go_at_call 75; refine (iWeightsIs HA (Row.below HR.out hb1) (by omega)).mono ?_; rintro e w2 ⟨rfl, rfl⟩) | (go_at_call 76; refine (iOfEdges5 zs _ _ (Row.below HR.out hb1) hl HA.out).mono ?_; rintro e w3 ⟨rfl, hb3⟩))
  go_ret2
  exact ⟨rfl, bel_trans hb1 hb3⟩

theorem iPathMeasure (m : Int) (zs : List Int) (s : Value) (w : World) (hr : Row w s zs) (hl : zs.length ≤ 1048576) :
    Calls Try.prog 41 #[.int .i64 m, s] w fun e w' => e = .returned (.tuple #[.int .i64 (rPath m zs), .bool (bPath m zs)]) ∧ Below w.heap.size w w' := by
  have hno : bPath m zs = false → rPath m zs = 0 := fun h => by unfold rPath; rw [h]; rfl
  cases hm : mKind m
  · have hb : bPath m zs = false := by simp [bPath, hm]
    rw [hno hb, hb]
    obtain ⟨a, cap, hs, hz0⟩ := id hr
    subst hs
    have HM := Lib.hid hm
    clear hz0 hm hno hb hr
    go_enter Try.func41, Try.ntmps41
    go_wp2_with (first | (go_at_call 68; refine (opsFor_no m HM.out _ _).mono ?_; rintro e w1 ⟨rfl, hb1⟩))
    go_ret2
    exact ⟨rfl, hb1⟩
  · by_cases h50 : zs.length ≤ 50
    · cases ha : zs.all mWeight
      · have hb : bPath m zs = false := by simp [bPath, ha]
        rw [hno hb, hb]
        rcases mKind_cases hm with rfl | rfl | rfl | rfl | rfl
        · exact iPathBad1 zs s w hr h50 ha
        · exact iPathBad2 zs s w hr h50 ha
        · exact iPathBad3 zs s w hr h50 ha
        · exact iPathBad4 zs s w hr h50 ha
        · exact iPathBad5 zs s w hr h50 ha
      · have hb : bPath m zs = true := by simp [bPath, ha, hm, h50]
        have hr0 : rPath m zs = mPath m (mOne m) zs := by unfold rPath; rw [hb]; rfl
        rw [hr0, hb]
        rcases mKind_cases hm with rfl | rfl | rfl | rfl | rfl
        · exact iPathGood1 zs s w hr h50 ha
        · exact iPathGood2 zs s w hr h50 ha
        · exact iPathGood3 zs s w hr h50 ha
        · exact iPathGood4 zs s w hr h50 ha
        · exact iPathGood5 zs s w hr h50 ha
    · have hb : bPath m zs = false := by simp [bPath, h50]
      rw [hno hb, hb]
      rcases mKind_cases hm with rfl | rfl | rfl | rfl | rfl
      · exact iPathLong1 zs s w hr (by omega)
      · exact iPathLong2 zs s w hr (by omega)
      · exact iPathLong3 zs s w hr (by omega)
      · exact iPathLong4 zs s w hr (by omega)
      · exact iPathLong5 zs s w hr (by omega)

end Go.Proofs.Ytlmhccjppmhdbaa
