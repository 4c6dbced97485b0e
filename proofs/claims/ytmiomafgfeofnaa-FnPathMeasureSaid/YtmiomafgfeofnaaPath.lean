/- Measures of paths: the program's and the model's functions. -/
import Derived.Test.YtmiomafgfeofnaaImpl2
import Derived.Test.YtmiomafgfeofnaaSpec2
namespace Go.Proofs.Ytmiomafgfeofnaa
open Go.RowKit Go.BigFrame
set_option linter.unusedVariables false

theorem mPath_snoc (m v : Int) (zs : List Int) (k : Nat) (h : k < zs.length) : mPath m v (zs.take (k + 1)) = mJoin m (mPath m v (zs.take k)) (mEdge m (zs.getD k 0)) := by
  unfold mPath; rw [List.take_succ_eq_append_getElem h, List.foldl_append, getD_of h]; rfl
theorem mEdge_in {m x : Int} (hm : mKind m = true) (h : mWeight x = true) : mIn m (mEdge m x) = true := by
  simp [mWeight] at h
  rcases mKind_cases hm with rfl | rfl | rfl | rfl | rfl <;> simp [mIn, mBet, mNone, mOne, mEdge] <;> omega
theorem mJoin_in {m a b : Int} (hm : mKind m = true) (ha : mIn m a = true) (hb : mIn m b = true) : mIn m (mJoin m a b) = true := by
  rcases mKind_cases hm with rfl | rfl | rfl | rfl | rfl <;> simp [mIn, mBet, mNone, mOne, mJoin] at * <;> omega
theorem mOne_in {m : Int} (hm : mKind m = true) : mIn m (mOne m) = true := by
  rcases mKind_cases hm with rfl | rfl | rfl | rfl | rfl <;> decide
theorem mPath_in {m : Int} (hm : mKind m = true) : ∀ (zs : List Int) (v : Int), mIn m v = true → zs.all mWeight = true → mIn m (mPath m v zs) = true := by
  intro zs
  induction zs with
  | nil => intro v hv _; exact hv
  | cons x zs ih =>
    intro v hv ha
    simp only [List.all_cons, Bool.and_eq_true] at ha
    exact ih _ (mJoin_in hm hv (mEdge_in hm ha.1)) ha.2
theorem bTwo_mk {m a b : Int} (hm : mKind m = true) (ha : mIn m a = true) (hb : mIn m b = true) : bTwo m a b = true := by simp [bTwo, mIs, hm, ha, hb]

theorem iWeights (zs : List Int) (s : Value) (w : World) (hr : Row w s zs) (hl : zs.length ≤ 1048576) :
    Calls Try.prog 49 #[s] w fun e w' => e = .returned (.bool (zs.all mWeight)) ∧ w = w' := by
  obtain ⟨a, cap, rfl, hz0⟩ := hr
  have hz := Lib.hid hz0
  clear hz0
  go_enter Try.func49, Try.ntmps49
  go_wp2
  go_loop [7] (fun c => ∃ k : Nat, k ≤ zs.length ∧ c = .int .i64 k ∧ (zs.take k).all mWeight = true) (fun c => zs.length - (intOf c).toNat)
  case atStart => exact ⟨0, Nat.zero_le _, rfl, rfl⟩
  case round =>
    obtain ⟨k, hk, rfl, hall⟩ := hrel
    by_cases hlt : k < zs.length
    · have hlt' : (k : Int) < zs.length := by omega
      rcases hz.out with h0 | ⟨b, off, rfl, hb, hc⟩
      · rw [h0] at hlt; simp at hlt
      obtain ⟨x, hx⟩ : ∃ x, x = zs.getD k 0 := ⟨_, rfl⟩
      have hck : w.cell? ⟨b, off + k, none⟩ = some (.int .i64 x) := by rw [hx]; exact hc k hlt
      have hsn := all_snoc mWeight zs k hlt
      have HA := Lib.hid hall
      have HS := Lib.hid hsn
      have HX := Lib.hid hx
      clear hc hall hsn hx
      cases hin : mWeight x
      · have HI := Lib.hid hin
        clear hin
        go_wp2_with (go_at_call 58; refine (wv_is HI.out _).mono ?_; rintro e w1 ⟨rfl, rfl⟩)
        have hf := all_false mWeight zs k hlt (by rw [← HX.out]; exact HI.out)
        rw [hf]
        go_ret
        exact ⟨rfl, rfl⟩
      · have HI := Lib.hid hin
        clear hin
        go_wp2_with (go_at_call 58; refine (wv_is HI.out _).mono ?_; rintro e w1 ⟨rfl, rfl⟩)
        go_round
        case rel => first | exact ⟨k + 1, by omega, by go_num, by rw [HS.out, HA.out, ← HX.out, HI.out]; rfl⟩ | ((repeat apply Exists.intro); exact ⟨⟨k + 1, by omega, by go_num, by rw [HS.out, HA.out, ← HX.out, HI.out]; rfl⟩, rfl⟩)
        case measure => simp [intOf]; omega
    · have hke : k = zs.length := by omega
      have hkk : ¬ ((k : Int) < zs.length) := by omega
      have hall' : zs.all mWeight = true := by rw [hke, List.take_length] at hall; exact hall
      have HA := Lib.hid hall'
      have HK := Lib.hid hke
      clear hall hall' hke
      go_wp2
      rw [HA.out]
      go_ret
      exact ⟨rfl, rfl⟩
theorem iWeightsIs {zs : List Int} {b : Bool} (h : Hid (zs.all mWeight = b)) {s : Value} {w : World} (hr : Row w s zs) (hl : zs.length ≤ 1048576) :
    Calls Try.prog 49 #[s] w fun e w' => e = .returned (.bool b) ∧ w = w' := by
  have := iWeights zs s w hr hl
  rw [h.out] at this
  exact this

set_option maxHeartbeats 400000 in
theorem sPathMeasure_yes {m : Int} (hm : mKind m = true) (zs : List Int) (s : Value) (w : World) (hr : Row w s zs) (hl : zs.length ≤ 50) :
    Calls Try.prog 27 #[.int .i64 m, s] w fun e w' => e = .returned (.tuple #[.int .i64 (rPath m zs), .bool (bPath m zs)]) ∧ w = w' := by
  obtain ⟨a, cap, rfl, hz0⟩ := hr
  have hz := Lib.hid hz0
  clear hz0
  have HM := Lib.hid hm
  have hb0 : bPath m zs = zs.all mWeight := by simp [bPath, hm, hl]
  have HB := Lib.hid hb0
  clear hb0 hm
  go_enter Try.func27, Try.ntmps27
  go_wp2_with (first | (go_at_call 38; refine (sKindIs HM _).mono ?_; rintro e w1 ⟨rfl, rfl⟩) | (go_at_call 51; refine (sOne HM.out _).mono ?_; rintro e w1 ⟨rfl, rfl⟩))
  go_loop [6, 7] (fun v c => ∃ k : Nat, k ≤ zs.length ∧ c = .int .i64 k ∧ v = .int .i64 (mPath m (mOne m) (zs.take k)) ∧ (zs.take k).all mWeight = true) (fun _ c => zs.length - (intOf c).toNat)
  case atStart => exact ⟨0, Nat.zero_le _, rfl, rfl, rfl⟩
  case round =>
    obtain ⟨k, hk, rfl, rfl, hall⟩ := hrel
    by_cases hlt : k < zs.length
    · have hlt' : (k : Int) < zs.length := by omega
      rcases hz.out with h0 | ⟨b, off, rfl, hb, hc⟩
      · rw [h0] at hlt; simp at hlt
      obtain ⟨x, hx⟩ : ∃ x, x = zs.getD k 0 := ⟨_, rfl⟩
      have hck : w.cell? ⟨b, off + k, none⟩ = some (.int .i64 x) := by rw [hx]; exact hc k hlt
      have hsn := all_snoc mWeight zs k hlt
      have hpn := mPath_snoc m (mOne m) zs k hlt
      have hin0 := mPath_in HM.out (zs.take k) (mOne m) (mOne_in HM.out) hall
      rw [← hx] at hpn
      have HA := Lib.hid hall
      have HS := Lib.hid hsn
      have HX := Lib.hid hx
      have HP := Lib.hid hpn
      have H0 := Lib.hid hin0
      clear hc hall hsn hx hpn hin0
      cases hin : mWeight x
      · have HI := Lib.hid hin
        clear hin
        go_wp2_with (go_at_call 52; refine (sWeightIs HI _).mono ?_; rintro e w1 ⟨rfl, rfl⟩)
        have hf := all_false mWeight zs k hlt (by rw [← HX.out]; exact HI.out)
        have hf2 : bPath m zs = false := by rw [HB.out, hf]
        have hf3 : rPath m zs = 0 := by unfold rPath; rw [hf2]; rfl
        rw [hf2, hf3]
        go_ret2
        exact ⟨rfl, rfl⟩
      · have HI := Lib.hid hin
        have HT := Lib.hid (bTwo_mk HM.out H0.out (mEdge_in HM.out hin))
        clear hin
        go_wp2_with (first | (go_at_call 52; refine (sWeightIs HI _).mono ?_; rintro e w1 ⟨rfl, rfl⟩) | (go_at_call 53; refine (sEdge HM.out _ _).mono ?_; rintro e w1 ⟨rfl, rfl⟩) | (go_at_call 41; refine (sJoin HT.out _).mono ?_; rintro e w1 ⟨rfl, rfl⟩))
        go_round
        case rel => first | exact ⟨k + 1, by omega, by go_num, by rw [HP.out], by rw [HS.out, HA.out, ← HX.out, HI.out]; rfl⟩ | ((repeat apply Exists.intro); exact ⟨⟨k + 1, by omega, by go_num, by rw [HP.out], by rw [HS.out, HA.out, ← HX.out, HI.out]; rfl⟩, rfl⟩)
        case measure => simp [intOf]; omega
    · have hke : k = zs.length := by omega
      have hkk : ¬ ((k : Int) < zs.length) := by omega
      have hall' : bPath m zs = true := by rw [HB.out, ← hall, hke, List.take_length]
      have hr0 : rPath m zs = mPath m (mOne m) (zs.take k) := by unfold rPath; rw [hall', hke, List.take_length]; rfl
      have HA := Lib.hid hall'
      have HR := Lib.hid hr0
      have HK := Lib.hid hke
      clear hall hall' hke hr0
      go_wp2
      rw [HA.out, HR.out]
      go_ret2
      exact ⟨rfl, rfl⟩

set_option maxHeartbeats 800000 in
theorem iOfEdges1 (zs : List Int) (s : Value) (w : World) (hr : Row w s zs) (hl : zs.length ≤ 50) (hall : zs.all mWeight = true) :
    Calls Try.prog 50 #[.iface 61 (.agg #[]), s] w fun e w' => e = .returned (.int .i64 (mPath 1 0 zs)) ∧ Below w.heap.size w w' := by
  obtain ⟨a, cap, rfl, hz0⟩ := hr
  have hz := Lib.hid hz0
  have HA := Lib.hid hall
  have h1 := me1
  clear hz0 hall
  go_enter Try.func50, Try.ntmps50
  go_wp2_with (first | (go_at_call 78; refine (less_empty _).mono ?_; rintro e w0 ⟨rfl, hb0⟩))
  have h2 := mo1
  have h3 := mj1
  have h4 := aj1
  clear h1
  go_loopw [5, 12] (fun v c wr => ∃ k : Nat, k ≤ zs.length ∧ c = .int .i64 k ∧ v = .int .i64 (mPath 1 0 (zs.take k)) ∧ Below w.heap.size w wr) (fun _ c _ => zs.length - (intOf c).toNat)
  case atStart => exact ⟨0, Nat.zero_le _, rfl, rfl, hb0⟩
  case round =>
    obtain ⟨k, hk, rfl, rfl, hbel⟩ := hrel
    by_cases hlt : k < zs.length
    · have hlt' : (k : Int) < zs.length := by omega
      rcases hz.out with h0 | ⟨b, off, rfl, hb, hc⟩
      · rw [h0] at hlt; simp at hlt
      obtain ⟨x, hx⟩ : ∃ x, x = zs.getD k 0 := ⟨_, rfl⟩
      have hck : wr.cell? ⟨b, off + k, none⟩ = some (.int .i64 x) := by rw [hbel.cell (p := ⟨b, off + k, none⟩) hb, hx]; exact hc k hlt
      have hpn := mPath_snoc 1 0 zs k hlt
      have hall1 : (zs.take k).all mWeight = true := by rw [List.all_eq_true]; intro y hy; exact List.all_eq_true.1 HA.out y (List.mem_of_mem_take hy)
      have hwx : mWeight x = true := by rw [hx, getD_of hlt]; exact List.all_eq_true.1 HA.out _ (List.getElem_mem hlt)
      have hv := mIn_low (m := 1) rfl (mPath_in (m := 1) rfl (zs.take k) 0 (by decide) hall1)
      have hw := mIn_low (m := 1) rfl (mEdge_in (m := 1) rfl hwx)
      rw [← hx] at hpn
      obtain ⟨y, hy⟩ : ∃ y, y = mPath 1 0 (zs.take k) := ⟨_, rfl⟩
      have hje : mEdge 1 x = x := rfl
      rw [hje] at hpn hw
      rw [← hy] at hpn hv ⊢
      have HX := Lib.hid hx
      have HY := Lib.hid hy
      have HP := Lib.hid hpn
      clear hc hx hpn hall1 hy hje hwx
      go_wp2_with fail
      refine wp_region_below (by kernel_rfl) (by kernel_rfl) ?_
      repeat (go_big_quiet_step ((intro hw1; first | with_reducible rfl | (go_at_call 80; exact quietB (eweight _ _) hw1) | (go_at_call 81; exact quietB (ij1 _ _ hv hw _) hw1))))
      refine wpQuiet_nil ?_
      intro w1 hw1
      go_wp2
      go_roundw
      case rel => first | exact ⟨k + 1, by omega, by go_num, by rw [HP.out], bel_trans hbel hw1⟩ | ((repeat apply Exists.intro); exact ⟨⟨k + 1, by omega, by go_num, by rw [HP.out], bel_trans hbel hw1⟩, rfl⟩)
      case measure => simp [intOf]; omega
    · have hke : k = zs.length := by omega
      have hkk : ¬ ((k : Int) < zs.length) := by omega
      have hp : mPath 1 0 (zs.take k) = mPath 1 0 zs := by rw [hke, List.take_length]
      have HP := Lib.hid hp
      have HK := Lib.hid hke
      clear hke hp
      go_wp2
      go_ret
      exact ⟨ret_int HP.out, hbel⟩

set_option maxHeartbeats 800000 in
theorem iOfEdges2 (zs : List Int) (s : Value) (w : World) (hr : Row w s zs) (hl : zs.length ≤ 50) (hall : zs.all mWeight = true) :
    Calls Try.prog 50 #[.iface 66 (.agg #[.int .i64 100000]), s] w fun e w' => e = .returned (.int .i64 (mPath 2 100000 zs)) ∧ Below w.heap.size w w' := by
  obtain ⟨a, cap, rfl, hz0⟩ := hr
  have hz := Lib.hid hz0
  have HA := Lib.hid hall
  have h1 := me2
  clear hz0 hall
  go_enter Try.func50, Try.ntmps50
  go_wp2_with (first | (go_at_call 83; refine (more_empty _ _).mono ?_; rintro e w0 ⟨rfl, hb0⟩))
  have h2 := mo2
  have h3 := mj2
  have h4 := aj2
  clear h1
  go_loopw [5, 12] (fun v c wr => ∃ k : Nat, k ≤ zs.length ∧ c = .int .i64 k ∧ v = .int .i64 (mPath 2 100000 (zs.take k)) ∧ Below w.heap.size w wr) (fun _ c _ => zs.length - (intOf c).toNat)
  case atStart => exact ⟨0, Nat.zero_le _, rfl, rfl, hb0⟩
  case round =>
    obtain ⟨k, hk, rfl, rfl, hbel⟩ := hrel
    by_cases hlt : k < zs.length
    · have hlt' : (k : Int) < zs.length := by omega
      rcases hz.out with h0 | ⟨b, off, rfl, hb, hc⟩
      · rw [h0] at hlt; simp at hlt
      obtain ⟨x, hx⟩ : ∃ x, x = zs.getD k 0 := ⟨_, rfl⟩
      have hck : wr.cell? ⟨b, off + k, none⟩ = some (.int .i64 x) := by rw [hbel.cell (p := ⟨b, off + k, none⟩) hb, hx]; exact hc k hlt
      have hpn := mPath_snoc 2 100000 zs k hlt
      have hall1 : (zs.take k).all mWeight = true := by rw [List.all_eq_true]; intro y hy; exact List.all_eq_true.1 HA.out y (List.mem_of_mem_take hy)
      have hwx : mWeight x = true := by rw [hx, getD_of hlt]; exact List.all_eq_true.1 HA.out _ (List.getElem_mem hlt)
      have hv := mIn_low (m := 2) rfl (mPath_in (m := 2) rfl (zs.take k) 100000 (by decide) hall1)
      have hw := mIn_low (m := 2) rfl (mEdge_in (m := 2) rfl hwx)
      rw [← hx] at hpn
      obtain ⟨y, hy⟩ : ∃ y, y = mPath 2 100000 (zs.take k) := ⟨_, rfl⟩
      have hje : mEdge 2 x = x := rfl
      rw [hje] at hpn hw
      rw [← hy] at hpn hv ⊢
      have HX := Lib.hid hx
      have HY := Lib.hid hy
      have HP := Lib.hid hpn
      clear hc hx hpn hall1 hy hje hwx
      go_wp2_with fail
      refine wp_region_below (by kernel_rfl) (by kernel_rfl) ?_
      repeat (go_big_quiet_step ((intro hw1; first | with_reducible rfl | (go_at_call 80; exact quietB (eweight _ _) hw1) | (go_at_call 85; exact quietB (ij2 _ _ hv hw _) hw1))))
      refine wpQuiet_nil ?_
      intro w1 hw1
      go_wp2
      go_roundw
      case rel => first | exact ⟨k + 1, by omega, by go_num, by rw [HP.out], bel_trans hbel hw1⟩ | ((repeat apply Exists.intro); exact ⟨⟨k + 1, by omega, by go_num, by rw [HP.out], bel_trans hbel hw1⟩, rfl⟩)
      case measure => simp [intOf]; omega
    · have hke : k = zs.length := by omega
      have hkk : ¬ ((k : Int) < zs.length) := by omega
      have hp : mPath 2 100000 (zs.take k) = mPath 2 100000 zs := by rw [hke, List.take_length]
      have HP := Lib.hid hp
      have HK := Lib.hid hke
      clear hke hp
      go_wp2
      go_ret
      exact ⟨ret_int HP.out, hbel⟩

set_option maxHeartbeats 800000 in
theorem iOfEdges3 (zs : List Int) (s : Value) (w : World) (hr : Row w s zs) (hl : zs.length ≤ 50) (hall : zs.all mWeight = true) :
    Calls Try.prog 50 #[.iface 69 (.agg #[]), s] w fun e w' => e = .returned (.int .i64 (mPath 3 0 zs)) ∧ Below w.heap.size w w' := by
  obtain ⟨a, cap, rfl, hz0⟩ := hr
  have hz := Lib.hid hz0
  have HA := Lib.hid hall
  have h1 := me3
  clear hz0 hall
  go_enter Try.func50, Try.ntmps50
  go_wp2_with (first | (go_at_call 78; refine (less_empty _).mono ?_; rintro e w0 ⟨rfl, hb0⟩))
  have h2 := mo3
  have h3 := mj3
  have h4 := aj3
  clear h1
  go_loopw [5, 12] (fun v c wr => ∃ k : Nat, k ≤ zs.length ∧ c = .int .i64 k ∧ v = .int .i64 (mPath 3 0 (zs.take k)) ∧ Below w.heap.size w wr) (fun _ c _ => zs.length - (intOf c).toNat)
  case atStart => exact ⟨0, Nat.zero_le _, rfl, rfl, hb0⟩
  case round =>
    obtain ⟨k, hk, rfl, rfl, hbel⟩ := hrel
    by_cases hlt : k < zs.length
    · have hlt' : (k : Int) < zs.length := by omega
      rcases hz.out with h0 | ⟨b, off, rfl, hb, hc⟩
      · rw [h0] at hlt; simp at hlt
      obtain ⟨x, hx⟩ : ∃ x, x = zs.getD k 0 := ⟨_, rfl⟩
      have hck : wr.cell? ⟨b, off + k, none⟩ = some (.int .i64 x) := by rw [hbel.cell (p := ⟨b, off + k, none⟩) hb, hx]; exact hc k hlt
      have hpn := mPath_snoc 3 0 zs k hlt
      have hall1 : (zs.take k).all mWeight = true := by rw [List.all_eq_true]; intro y hy; exact List.all_eq_true.1 HA.out y (List.mem_of_mem_take hy)
      have hwx : mWeight x = true := by rw [hx, getD_of hlt]; exact List.all_eq_true.1 HA.out _ (List.getElem_mem hlt)
      have hv := mIn_low (m := 3) rfl (mPath_in (m := 3) rfl (zs.take k) 0 (by decide) hall1)
      have hw := mIn_low (m := 3) rfl (mEdge_in (m := 3) rfl hwx)
      rw [← hx] at hpn
      obtain ⟨y, hy⟩ : ∃ y, y = mPath 3 0 (zs.take k) := ⟨_, rfl⟩
      have hje : mEdge 3 x = x := rfl
      rw [hje] at hpn hw
      rw [← hy] at hpn hv ⊢
      have HX := Lib.hid hx
      have HY := Lib.hid hy
      have HP := Lib.hid hpn
      clear hc hx hpn hall1 hy hje hwx
      go_wp2_with fail
      refine wp_region_below (by kernel_rfl) (by kernel_rfl) ?_
      repeat (go_big_quiet_step ((intro hw1; first | with_reducible rfl | (go_at_call 80; exact quietB (eweight _ _) hw1) | (go_at_call 86; exact quietB (ij3 _ _ hv hw _) hw1))))
      refine wpQuiet_nil ?_
      intro w1 hw1
      go_wp2
      go_roundw
      case rel => first | exact ⟨k + 1, by omega, by go_num, by rw [HP.out], bel_trans hbel hw1⟩ | ((repeat apply Exists.intro); exact ⟨⟨k + 1, by omega, by go_num, by rw [HP.out], bel_trans hbel hw1⟩, rfl⟩)
      case measure => simp [intOf]; omega
    · have hke : k = zs.length := by omega
      have hkk : ¬ ((k : Int) < zs.length) := by omega
      have hp : mPath 3 0 (zs.take k) = mPath 3 0 zs := by rw [hke, List.take_length]
      have HP := Lib.hid hp
      have HK := Lib.hid hke
      clear hke hp
      go_wp2
      go_ret
      exact ⟨ret_int HP.out, hbel⟩

set_option maxHeartbeats 800000 in
theorem iOfEdges4 (zs : List Int) (s : Value) (w : World) (hr : Row w s zs) (hl : zs.length ≤ 50) (hall : zs.all mWeight = true) :
    Calls Try.prog 50 #[.iface 72 (.agg #[.int .i64 1]), s] w fun e w' => e = .returned (.int .i64 (mPath 4 1 zs)) ∧ Below w.heap.size w w' := by
  obtain ⟨a, cap, rfl, hz0⟩ := hr
  have hz := Lib.hid hz0
  have HA := Lib.hid hall
  have h1 := me4
  clear hz0 hall
  go_enter Try.func50, Try.ntmps50
  go_wp2_with (first | (go_at_call 83; refine (more_empty _ _).mono ?_; rintro e w0 ⟨rfl, hb0⟩))
  have h2 := mo4
  have h3 := mj4
  have h4 := aj4
  clear h1
  go_loopw [5, 12] (fun v c wr => ∃ k : Nat, k ≤ zs.length ∧ c = .int .i64 k ∧ v = .int .i64 (mPath 4 1 (zs.take k)) ∧ Below w.heap.size w wr) (fun _ c _ => zs.length - (intOf c).toNat)
  case atStart => exact ⟨0, Nat.zero_le _, rfl, rfl, hb0⟩
  case round =>
    obtain ⟨k, hk, rfl, rfl, hbel⟩ := hrel
    by_cases hlt : k < zs.length
    · have hlt' : (k : Int) < zs.length := by omega
      rcases hz.out with h0 | ⟨b, off, rfl, hb, hc⟩
      · rw [h0] at hlt; simp at hlt
      obtain ⟨x, hx⟩ : ∃ x, x = zs.getD k 0 := ⟨_, rfl⟩
      have hck : wr.cell? ⟨b, off + k, none⟩ = some (.int .i64 x) := by rw [hbel.cell (p := ⟨b, off + k, none⟩) hb, hx]; exact hc k hlt
      have hpn := mPath_snoc 4 1 zs k hlt
      have hall1 : (zs.take k).all mWeight = true := by rw [List.all_eq_true]; intro y hy; exact List.all_eq_true.1 HA.out y (List.mem_of_mem_take hy)
      have hwx : mWeight x = true := by rw [hx, getD_of hlt]; exact List.all_eq_true.1 HA.out _ (List.getElem_mem hlt)
      have hv := mIn_low (m := 4) rfl (mPath_in (m := 4) rfl (zs.take k) 1 (by decide) hall1)
      have hw := mIn_low (m := 4) rfl (mEdge_in (m := 4) rfl hwx)
      rw [← hx] at hpn
      obtain ⟨y, hy⟩ : ∃ y, y = mPath 4 1 (zs.take k) := ⟨_, rfl⟩
      have hje : mEdge 4 x = 1 := rfl
      rw [hje] at hpn hw
      rw [← hy] at hpn hv ⊢
      have HX := Lib.hid hx
      have HY := Lib.hid hy
      have HP := Lib.hid hpn
      clear hc hx hpn hall1 hy hje hwx
      go_wp2_with fail
      refine wp_region_below (by kernel_rfl) (by kernel_rfl) ?_
      repeat (go_big_quiet_step ((intro hw1; first | with_reducible rfl | (go_at_call 87; exact quietB (eone _ _) hw1) | (go_at_call 85; exact quietB (ij4 _ _ hv hw _) hw1))))
      refine wpQuiet_nil ?_
      intro w1 hw1
      go_wp2
      go_roundw
      case rel => first | exact ⟨k + 1, by omega, by go_num, by rw [HP.out], bel_trans hbel hw1⟩ | ((repeat apply Exists.intro); exact ⟨⟨k + 1, by omega, by go_num, by rw [HP.out], bel_trans hbel hw1⟩, rfl⟩)
      case measure => simp [intOf]; omega
    · have hke : k = zs.length := by omega
      have hkk : ¬ ((k : Int) < zs.length) := by omega
      have hp : mPath 4 1 (zs.take k) = mPath 4 1 zs := by rw [hke, List.take_length]
      have HP := Lib.hid hp
      have HK := Lib.hid hke
      clear hke hp
      go_wp2
      go_ret
      exact ⟨ret_int HP.out, hbel⟩

set_option maxHeartbeats 800000 in
theorem iOfEdges5 (zs : List Int) (s : Value) (w : World) (hr : Row w s zs) (hl : zs.length ≤ 50) (hall : zs.all mWeight = true) :
    Calls Try.prog 50 #[.iface 74 (.agg #[]), s] w fun e w' => e = .returned (.int .i64 (mPath 5 0 zs)) ∧ Below w.heap.size w w' := by
  obtain ⟨a, cap, rfl, hz0⟩ := hr
  have hz := Lib.hid hz0
  have HA := Lib.hid hall
  have h1 := me5
  clear hz0 hall
  go_enter Try.func50, Try.ntmps50
  go_wp2_with (first | (go_at_call 78; refine (less_empty _).mono ?_; rintro e w0 ⟨rfl, hb0⟩))
  have h2 := mo5
  have h3 := mj5
  have h4 := aj5
  clear h1
  go_loopw [5, 12] (fun v c wr => ∃ k : Nat, k ≤ zs.length ∧ c = .int .i64 k ∧ v = .int .i64 (mPath 5 0 (zs.take k)) ∧ Below w.heap.size w wr) (fun _ c _ => zs.length - (intOf c).toNat)
  case atStart => exact ⟨0, Nat.zero_le _, rfl, rfl, hb0⟩
  case round =>
    obtain ⟨k, hk, rfl, rfl, hbel⟩ := hrel
    by_cases hlt : k < zs.length
    · have hlt' : (k : Int) < zs.length := by omega
      rcases hz.out with h0 | ⟨b, off, rfl, hb, hc⟩
      · rw [h0] at hlt; simp at hlt
      obtain ⟨x, hx⟩ : ∃ x, x = zs.getD k 0 := ⟨_, rfl⟩
      have hck : wr.cell? ⟨b, off + k, none⟩ = some (.int .i64 x) := by rw [hbel.cell (p := ⟨b, off + k, none⟩) hb, hx]; exact hc k hlt
      have hpn := mPath_snoc 5 0 zs k hlt
      have hall1 : (zs.take k).all mWeight = true := by rw [List.all_eq_true]; intro y hy; exact List.all_eq_true.1 HA.out y (List.mem_of_mem_take hy)
      have hwx : mWeight x = true := by rw [hx, getD_of hlt]; exact List.all_eq_true.1 HA.out _ (List.getElem_mem hlt)
      have hv := mIn_low (m := 5) rfl (mPath_in (m := 5) rfl (zs.take k) 0 (by decide) hall1)
      have hw := mIn_low (m := 5) rfl (mEdge_in (m := 5) rfl hwx)
      rw [← hx] at hpn
      obtain ⟨y, hy⟩ : ∃ y, y = mPath 5 0 (zs.take k) := ⟨_, rfl⟩
      have hje : mEdge 5 x = 1 := rfl
      rw [hje] at hpn hw
      rw [← hy] at hpn hv ⊢
      have HX := Lib.hid hx
      have HY := Lib.hid hy
      have HP := Lib.hid hpn
      clear hc hx hpn hall1 hy hje hwx
      go_wp2_with fail
      refine wp_region_below (by kernel_rfl) (by kernel_rfl) ?_
      repeat (go_big_quiet_step ((intro hw1; first | with_reducible rfl | (go_at_call 87; exact quietB (eone _ _) hw1) | (go_at_call 81; exact quietB (ij5 _ _ hv hw _) hw1))))
      refine wpQuiet_nil ?_
      intro w1 hw1
      go_wp2
      go_roundw
      case rel => first | exact ⟨k + 1, by omega, by go_num, by rw [HP.out], bel_trans hbel hw1⟩ | ((repeat apply Exists.intro); exact ⟨⟨k + 1, by omega, by go_num, by rw [HP.out], bel_trans hbel hw1⟩, rfl⟩)
      case measure => simp [intOf]; omega
    · have hke : k = zs.length := by omega
      have hkk : ¬ ((k : Int) < zs.length) := by omega
      have hp : mPath 5 0 (zs.take k) = mPath 5 0 zs := by rw [hke, List.take_length]
      have HP := Lib.hid hp
      have HK := Lib.hid hke
      clear hke hp
      go_wp2
      go_ret
      exact ⟨ret_int HP.out, hbel⟩
end Go.Proofs.Ytmiomafgfeofnaa
