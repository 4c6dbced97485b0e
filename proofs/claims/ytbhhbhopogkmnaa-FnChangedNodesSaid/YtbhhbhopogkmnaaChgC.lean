/- slices.Concat of lists of changes. -/
import Derived.Test.YtbhhbhopogkmnaaChgE
import Derived.Test.YtbhhbhopogkmnaaPutM
namespace Go.Proofs.Ytbhhbhopogkmnaa
open Go.RowKit Go.BigFrame Go.Deep
set_option linter.unusedVariables false
set_option linter.unusedSimpArgs false

def cellsCh (cs : List Ch) : List Value := (List.range (cs.length * 4)).map (cellCh cs)
theorem cellsCh_len (cs : List Ch) : (cellsCh cs).length = cs.length * 4 := by simp [cellsCh]
theorem cellsCh_get (cs : List Ch) (j : Nat) (u : Value) (h : (cellsCh cs)[j]? = some u) : j < cs.length * 4 ∧ u = cellCh cs j := by
  unfold cellsCh at h
  rw [List.getElem?_map] at h
  simp only [Option.map_eq_some_iff] at h
  obtain ⟨i, hi, rfl⟩ := h
  obtain ⟨h1, h2⟩ := List.getElem?_eq_some_iff.1 hi
  simp at h1 h2
  subst h2
  exact ⟨h1, rfl⟩
theorem cellCh_app1 (cs ds : List Ch) {j : Nat} (h : j < cs.length * 4) : cellCh (cs ++ ds) j = cellCh cs j := by
  have h4 : j / 4 < cs.length := by omega
  have e : (cs ++ ds).getD (j / 4) chZ = cs.getD (j / 4) chZ := by simp [List.getD, List.getElem?_append_left h4]
  unfold cellCh; rw [e]
theorem cellCh_app2 (cs ds : List Ch) (j : Nat) : cellCh (cs ++ ds) (cs.length * 4 + j) = cellCh ds j := by
  have h1 : (cs.length * 4 + j) % 4 = j % 4 := by omega
  have h2 : (cs.length * 4 + j) / 4 = cs.length + j / 4 := by omega
  have e : (cs ++ ds).getD (cs.length + j / 4) chZ = ds.getD (j / 4) chZ := by simp [List.getD, List.getElem?_append_right (show cs.length ≤ cs.length + j / 4 by omega)]
  unfold cellCh; rw [h1, h2, e]
theorem cellsCh_app (cs ds : List Ch) : cellsCh (cs ++ ds) = cellsCh cs ++ cellsCh ds := by
  apply List.ext_getElem
  · simp [cellsCh_len]; omega
  · intro i h1 h2
    rw [cellsCh_len] at h1
    by_cases hi : i < cs.length * 4
    · rw [List.getElem_append_left (by rw [cellsCh_len]; exact hi)]
      simp only [cellsCh, List.getElem_map, List.getElem_range]
      exact cellCh_app1 cs ds hi
    · rw [List.getElem_append_right (by rw [cellsCh_len]; omega)]
      simp only [cellsCh, List.getElem_map, List.getElem_range, List.length_map, List.length_range]
      have := cellCh_app2 cs ds (i - cs.length * 4)
      rw [show cs.length * 4 + (i - cs.length * 4) = i by omega] at this
      exact this
theorem cellsCh_one (cs : List Ch) : ∀ u ∈ cellsCh cs, u.oneCell' = true := by
  intro u hu
  unfold cellsCh at hu
  rw [List.mem_map] at hu
  obtain ⟨j, _, rfl⟩ := hu
  unfold cellCh
  split <;> rfl
theorem cellsCh_nil : cellsCh [] = [] := rfl
theorem cellsCh_at (cs : List Ch) {j : Nat} (hj : j < cs.length * 4) : (cellsCh cs)[j]? = some (cellCh cs j) := by simp [cellsCh, hj]
theorem cellsCh_one1 (u : Bool) (x y z : Int) : cellsCh [(u, x, y, z)] = [.bool u, .int .i64 x, .int .i64 y, .int .i64 z] := by
  simp [cellsCh, List.range_succ, cellCh, List.getD]
/-- A slice of changes of the call's own. -/
def OwnCh (w w' : World) (v : Value) (cs : List Ch) : Prop := InR true w' w.heap.size w'.heap.size v cs.length 4 (cellCh cs)
theorem OwnCh.of {w w' : World} {base : Nat} {v : Value} {cs : List Ch} (h : w'.ownsRow base 51 4 v cs.length (cellsCh cs)) (hb : w.heap.size ≤ base) : OwnCh w w' v cs := by
  obtain ⟨a, cap, rfl, hz⟩ := InR.of_own h
  refine ⟨a, cap, rfl, ?_⟩
  rcases hz with h0 | ⟨b, off, rfl, k1, k2, k3, hc⟩
  · exact .inl h0
  · refine .inr ⟨b, off, rfl, by omega, k2, k3, fun i hi => ⟨?_, (hc i hi).2⟩⟩
    rw [(hc i hi).1]
    have := cellsCh_at cs hi
    simp [List.getD, this]

theorem growCh (n : Nat) (w : World) (hn : n ≤ 4194304) :
    Calls Try.prog 98 #[.slice none 0 0, .int .i64 (n : Int)] w fun e w' => ∃ v, e = .returned v ∧ w'.ownsRow w.heap.size 51 4 v 0 [] ∧ Below w.heap.size w w' := by
  by_cases h0 : n = 0
  · subst h0
    go_enter Try.func98, Try.ntmps98
    go_wp2
    go_ret
    exact ⟨_, rfl, ⟨rfl, .inl ⟨rfl, rfl⟩⟩, Below.refl _ _⟩
  · have hp : (0 : Int) < n := by omega
    obtain ⟨i0, hi, hz0, hz1, hz2⟩ := info_parts info_change
    have hr := fun w : World => Go.Lib.run_append_nil_zeros (P := Try.prog) w 35 3 35 51 i0 (.agg #[.bool false, .int .i64 0, .int .i64 0, .int .i64 0]) .i64 .i64 Try.underlying35 Try.underlying3 hi hz0 n (by omega) (by rw [hz1]; omega) (by omega) (by rw [hz2]; omega)
    have HR := Lib.hid hr
    clear hr hi hz0 hz1 hz2
    go_enter Try.func98, Try.ntmps98
    go_wp2_with (at_builtin; refine Go.Lib.wpList_append_run _ rfl (.tmp 20) (.tmp 21) 35 3 rfl _ _ rfl rfl _ _ (HR.out _) ?_)
    go_ret
    refine ⟨_, rfl, ⟨rfl, .inr ⟨w.heap.size, _, _, rfl, Nat.le_refl _, blk_alloc_new _ _, Nat.zero_le _, grownCap_le_maxLen _ _ _ _ (by unfold maxLen; omega), ?_, by simp⟩⟩, ((Below.refl _ _).alloc (Nat.le_refl _) _).drew⟩
    have := grownCap_ge w n 0 51
    simp only [Array.size_append, size_zeroCells]
    simp only [List.size_toArray, List.length_cons, List.length_nil]
    omega

/-- How many edges there are in the first k lists. -/
def catCh (ess : List (List Ch)) (k : Nat) : List Ch := (ess.take k).flatten
def lensCh (ess : List (List Ch)) (k : Nat) : Nat := (catCh ess k).length
theorem lensCh_succ (ess : List (List Ch)) {k : Nat} (h : k < ess.length) : catCh ess (k + 1) = catCh ess k ++ ess.getD k [] := by
  unfold catCh
  rw [List.take_succ_eq_append_getElem h, List.flatten_append]
  simp [List.getD, h]
theorem lensCh_le (ess : List (List Ch)) (k : Nat) : lensCh ess k ≤ ess.flatten.length := by
  unfold lensCh catCh
  conv => rhs; rw [← List.take_append_drop k ess, List.flatten_append, List.length_append]
  omega

set_option maxRecDepth 20000 in
set_option maxHeartbeats 2000000 in
theorem concatCh (ess : List (List Ch)) (ss : Nat → Value) (B cap : Nat) (w : World) (hB : B < w.heap.size) (hN : ess.length ≤ 3) (hT : ess.flatten.length ≤ 1048576)
    (hss : ∀ k, k < ess.length → w.cell? ⟨B, k, none⟩ = some (ss k) ∧ RowCh w (ss k) (ess.getD k []) ∧ okS (ss k)) :
    Calls Try.prog 76 #[.slice (some ⟨B, 0, none⟩) ess.length cap] w fun e w' => ∃ v, e = .returned v ∧ OwnCh w w' v ess.flatten ∧ okS v ∧ Below w.heap.size w w' := by
  have HS := Lib.hid hss
  clear hss
  obtain ⟨i0, hi, hz0, hz1, hz2⟩ := info_parts info_change
  have HI : Hid (Try.prog.info? 51 = some i0 ∧ i0.zero = some (.agg #[.bool false, .int .i64 0, .int .i64 0, .int .i64 0]) ∧ i0.size = 4 ∧ i0.bytes = 32) := Lib.hid ⟨hi, hz0, hz1, hz2⟩
  clear hi hz0 hz1 hz2
  go_enter Try.func76, Try.ntmps76
  go_wp2
  go_loopw [11, 3] (fun c d wr => ∃ k : Nat, k ≤ ess.length ∧ c = .int .i64 k ∧ d = .int .i64 (lensCh ess k : Nat) ∧ Below w.heap.size w wr) (fun c _ _ => ess.length - (intOf c).toNat)
  case atStart => exact ⟨0, Nat.zero_le _, rfl, rfl, Below.refl _ _⟩
  case round =>
    obtain ⟨k, hk, rfl, rfl, hbel⟩ := hrel
    have hle := lensCh_le ess k
    by_cases hlt : k < ess.length
    · have hlt' : (k : Int) < ess.length := by omega
      obtain ⟨h1, h2, h3⟩ := HS.out k hlt
      obtain ⟨a, c0, hs0, hz⟩ := h2
      rw [hs0] at h1
      have c1 := (hbel.cell (p := ⟨B, k, none⟩) hB).trans h1
      have hl2 : lensCh ess (k + 1) = lensCh ess k + (ess.getD k []).length := by unfold lensCh; rw [lensCh_succ ess hlt, List.length_append]
      have hle2 := lensCh_le ess (k + 1)
      obtain ⟨L, hL⟩ : ∃ L, L = (ess.getD k []).length := ⟨_, rfl⟩
      rw [← hL] at c1 hl2
      have HL := Lib.hid hl2
      have hneg : decide ((lensCh ess k : Int) + L < 0) = false := decide_eq_false (by omega)
      have hsum : lensCh ess k + L ≤ 1048576 := by omega
      clear h1 h3 hz hs0 hl2 hL hle2
      go_wp2
      go_roundw
      case rel => exact ⟨k + 1, by omega, by go_num, by rw [HL.out]; go_num, hbel⟩
      case measure => simp [intOf]; omega
    · have hke : k = ess.length := by omega
      have hkk : ¬ ((k : Int) < ess.length) := by omega
      have hB2 : B < wr.heap.size := Nat.lt_of_lt_of_le hB hbel.size
      have HK := Lib.hid hke
      clear hke
      go_wp2_with (go_at_call 98; refine (growCh (lensCh ess k) _ (by omega)).mono ?_; rintro e w1 ⟨v1, rfl, hown, hb1⟩)
      have hown1 : w1.ownsRow w.heap.size 51 4 v1 0 [] := by
        obtain ⟨h1, h2⟩ := hown
        refine ⟨h1, ?_⟩
        rcases h2 with h2 | ⟨g, cp, cur, e1, e2, e3⟩
        · exact .inl h2
        · exact .inr ⟨g, cp, cur, e1, Nat.le_trans hbel.size e2, e3⟩
      have HO := Lib.hid hown1
      have hbel1 := bel_trans hbel hb1
      clear hown hown1 hb1
      go_loopw [27, 6] (fun c v ws => ∃ m : Nat, m ≤ ess.length ∧ c = .int .i64 m ∧ ws.ownsRow w.heap.size 51 4 v (catCh ess m).length (cellsCh (catCh ess m)) ∧ Below w.heap.size w ws) (fun c _ _ => ess.length - (intOf c).toNat)
      case atStart => exact ⟨0, Nat.zero_le _, rfl, HO.out, hbel1⟩
      case round =>
        obtain ⟨m, hm, rfl, hown, hbelm⟩ := hrel
        have HM := Lib.hid hown
        clear hown
        by_cases hlt : m < ess.length
        · have hlt' : (m : Int) < ess.length := by omega
          obtain ⟨h1, h2, h3⟩ := HS.out m hlt
          obtain ⟨a, c0, hs0, hz⟩ := h2
          rw [hs0] at h1 h3
          have c1 := (hbelm.cell (p := ⟨B, m, none⟩) hB).trans h1
          have hle1 := lensCh_le ess (m + 1)
          have hTk := Lib.hid (lensCh_succ ess hlt)
          have hl2 : (catCh ess (m + 1)).length = (catCh ess m).length + (ess.getD m []).length := by rw [hTk.out, List.length_append]
          unfold lensCh at hle1
          obtain ⟨es, hes⟩ : ∃ es, es = ess.getD m [] := ⟨_, rfl⟩
          rw [← hes] at c1 hz hl2 h3 hTk
          have HL := Lib.hid hl2
          have hbound : (catCh ess m).length + es.length ≤ 1048576 := by omega
          have hws := hbelm.size
          obtain ⟨hi, hz0, hz1, hz2⟩ := HI.out
          cases a with
          | none =>
            have hc0 := (h3 _ _ _ rfl).2.1 rfl
            subst hc0
            have he0 : es = [] := by
              rcases hz with h | ⟨_, _, h, _⟩
              · exact List.length_eq_zero_iff.1 h
              · cases h
            rw [he0] at c1 hTk
            simp only [List.length_nil] at c1
            clear h1 h3 hz hs0 hl2 hle1 hes
            go_wp2_with (at_builtin; (refine wpList_append_own_none rfl (.tmp 31) (.tmp 32) 35 rfl w.heap.size 51 i0 4 Try.underlying35 hi _ _ _ rfl HM.out rfl ?_))
            go_roundw
            case rel => first | exact ⟨m + 1, by omega, by go_num, by rw [hTk.out, List.append_nil]; exact HM.out, hbelm⟩ | ((repeat apply Exists.intro); exact ⟨⟨m + 1, by omega, by go_num, by rw [hTk.out, List.append_nil]; exact HM.out, hbelm⟩, rfl⟩)
            case measure => simp [intOf]; omega
          | some ad =>
            have hnews : ∀ j u, (cellsCh es)[j]? = some u → wr.cell? (ad.add j) = some u := by
              intro j u hu
              obtain ⟨hj, rfl⟩ := cellsCh_get es j u hu
              rcases hz with h | ⟨b, off, h, _, hb, _, hc⟩
              · rw [List.length_eq_zero_iff.1 h] at hj; simp at hj
              · injection h with h
                subst h
                rw [Go.WideShapes.add_plain, hbelm.cell (p := ⟨b, off + j, none⟩) hb]
                exact (hc j (by omega)).1
            have HNW := Lib.hid hnews
            clear h1 h3 hz hs0 hl2 hle1 hes hnews
            go_wp2_with (at_builtin; refine wpList_append_own _ rfl (.tmp 31) (.tmp 32) 35 rfl w.heap.size 51 i0 (.agg #[.bool false, .int .i64 0, .int .i64 0, .int .i64 0]) 4 32 Try.underlying35 hi hz0 hz1 hz2 rfl (by decide) _ _ _ rfl HM.out ad es.length c0 (cellsCh es) rfl (cellsCh_len es) HNW.out (cellsCh_one es) ?c3 ?c4 hws ?_)
            case c3 => unfold maxLen; omega
            case c4 => omega
            intro v' w6 hown6 hgrow6 _
            have hown6' : w6.ownsRow w.heap.size 51 4 v' (catCh ess (m + 1)).length (cellsCh (catCh ess (m + 1))) := by rw [HL.out, hTk.out, cellsCh_app]; exact hown6
            have H7 := Lib.hid hown6'
            have H8 : Hid (Below w.heap.size w w6) := Lib.hid (hbelm.grown hgrow6 hws (fun q hq => (HM.out.lt q hq).1))
            clear hown6 hown6' hgrow6 hi hz0 hz1 hz2
            go_wp2
            go_roundw
            case rel => first | exact ⟨m + 1, by omega, by go_num, H7.out, H8.out⟩ | ((repeat apply Exists.intro); exact ⟨⟨m + 1, by omega, by go_num, H7.out, H8.out⟩, rfl⟩)
            case measure => simp [intOf]; omega
        · have hme : m = ess.length := by omega
          have hmm : ¬ ((m : Int) < ess.length) := by omega
          have ht : catCh ess m = ess.flatten := by unfold catCh; rw [hme, List.take_length]
          rw [ht] at HM
          have HK2 := Lib.hid hme
          clear hme ht
          go_wp2
          go_ret
          refine ⟨_, rfl, OwnCh.of HM.out (Nat.le_refl _), ?_, hbelm⟩
          intro a n c e
          rcases HM.out.2 with ⟨e2, _⟩ | ⟨g, cp, cur, e2, _, _, hcp, _⟩
          · have e3 := e2.symm.trans e
            injection e3 with e4 e5 e6
            subst e4 e5 e6
            exact ⟨Nat.le_refl _, (fun _ => rfl), fun x h => by cases h⟩
          · have e3 := e2.symm.trans e
            injection e3 with e4 e5 e6
            subst e4 e5 e6
            exact ⟨hcp, (fun h => by cases h), fun x h => by injection h with h; rw [← h]⟩
end Go.Proofs.Ytbhhbhopogkmnaa
