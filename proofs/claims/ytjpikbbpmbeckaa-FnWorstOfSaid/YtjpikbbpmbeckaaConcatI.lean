/- slices.Concat of slices of integers. -/
import Derived.Test.YtjpikbbpmbeckaaGrid
import Derived.Test.YtjpikbbpmbeckaaRowAt
import Derived.Test.YtjpikbbpmbeckaaVStartT
import Derived.Lib.AppendZeros
import Derived.Laws.AppendOwnNone
import Derived.Laws.ResultCell
import Derived.Deep.RegionHeld3
namespace Go.Proofs.Ytjpikbbpmbeckaa
open Go.RowKit Go.BigFrame Go.Deep
set_option linter.unusedVariables false
set_option linter.unusedSimpArgs false

/-- A grid whose rows are slices within their room. -/
def GridO (w : World) (s : Value) (zss : List (List Int)) : Prop :=
  ∃ a cap, s = .slice a zss.length cap ∧ (zss = [] ∨ ∃ (b off : Nat) (T : Nat → Value), a = some ⟨b, off, none⟩ ∧ b < w.heap.size ∧ ∀ i, i < zss.length → w.cell? ⟨b, off + i, none⟩ = some (T i) ∧ Row w (T i) (zss.getD i []) ∧ okS (T i))
theorem GridO.keep {w w' : World} {s : Value} {zss : List (List Int)} (h : GridO w s zss) (hb : Below w.heap.size w w') : GridO w' s zss := by
  obtain ⟨a, cap, rfl, h⟩ := h
  refine ⟨a, cap, rfl, ?_⟩
  rcases h with h | ⟨b, off, T, rfl, hlt, hc⟩
  · exact .inl h
  · exact .inr ⟨b, off, T, rfl, Nat.lt_of_lt_of_le hlt hb.size, fun i hi => ⟨by rw [hb.cell (p := ⟨b, off + i, none⟩) hlt]; exact (hc i hi).1, (hc i hi).2.1.keep hb, (hc i hi).2.2⟩⟩
theorem GridO.grid {w : World} {s : Value} {zss : List (List Int)} (h : GridO w s zss) : Grid w s zss := by
  obtain ⟨a, cap, rfl, h⟩ := h
  refine ⟨a, cap, rfl, ?_⟩
  rcases h with h | ⟨b, off, T, rfl, hlt, hc⟩
  · exact .inl h
  · exact .inr ⟨b, off, T, rfl, hlt, fun i hi => ⟨(hc i hi).1, (hc i hi).2.1⟩⟩
theorem OwnG.gridO {w : World} {lo hi : Nat} {s : Value} {zss : List (List Int)} (h : OwnG w lo hi s zss) : GridO w s zss := by
  rcases h with ⟨rfl, rfl⟩ | ⟨g, cap, T, B, rfl, hc, h⟩
  · exact ⟨_, _, rfl, .inl rfl⟩
  · exact ⟨_, _, rfl, .inr ⟨g, 0, T, rfl, by have := h.place; omega, fun i hi => ⟨by rw [Nat.zero_add]; exact (h.cell i hi).1, (h.row i hi).ints, h.ok i hi⟩⟩⟩

theorem own_keepI {w w' : World} {base : Nat} {t : TypeId} {sz : Nat} {v : Value} {n : Nat} {xs : List Value} (h : w.ownsRow base t sz v n xs) (hb : Below w.heap.size w w') : w'.ownsRow base t sz v n xs :=
  h.kept (row := none) ⟨hb.os, hb.tape, hb.output, hb.size, fun i hi _ => hb.block i hi⟩ (Classical.em _)
def cellsI (zs : List Int) : List Value := zs.map (Value.int .i64)
theorem cellsI_len (zs : List Int) : (cellsI zs).length = zs.length * 1 := by simp [cellsI]
theorem cellsI_get (zs : List Int) (j : Nat) (u : Value) (h : (cellsI zs)[j]? = some u) : j < zs.length ∧ u = cellI zs j := by
  unfold cellsI at h
  rw [List.getElem?_map] at h
  by_cases hj : j < zs.length
  · simp [hj] at h; exact ⟨hj, by rw [← h]; simp [cellI, List.getD, hj]⟩
  · simp [hj] at h
theorem cellsI_app (zs ys : List Int) : cellsI (zs ++ ys) = cellsI zs ++ cellsI ys := by simp [cellsI]
theorem cellsI_one (zs : List Int) : ∀ u ∈ cellsI zs, u.oneCell' = true := by
  intro u hu
  unfold cellsI at hu
  rw [List.mem_map] at hu
  obtain ⟨j, _, rfl⟩ := hu
  rfl
theorem OwnV.ofOwn {w w' : World} {base : Nat} {v : Value} {zs : List Int} (h : w'.ownsRow base 3 1 v zs.length (cellsI zs)) (hb : w.heap.size ≤ base) : OwnV w w' v zs := by
  have h1 := (InR.of_own h).wider (l := w.heap.size) (h := w'.heap.size) hb (Nat.le_refl _) (Nat.le_refl _)
  refine h1.congr (fun i hi => ?_)
  have hi2 : i < zs.length := by omega
  simp [cellsI, cellI, List.getD, hi2]
theorem info_partsI {e : TypeId} {z : Value} {size bytes : Nat} (h : (Try.prog.info? e).map (fun i => (i.zero, i.size, i.bytes)) = some (some z, size, bytes)) : ∃ i, Try.prog.info? e = some i ∧ i.zero = some z ∧ i.size = size ∧ i.bytes = bytes := by
  obtain ⟨i, hi, hzz⟩ := Option.map_eq_some_iff.1 h
  simp only [Prod.mk.injEq] at hzz
  exact ⟨i, hi, hzz.1, hzz.2.1, hzz.2.2⟩

theorem growI (n : Nat) (w : World) (hn : n ≤ 4194304) :
    Calls Try.prog 139 #[.slice none 0 0, .int .i64 (n : Int)] w fun e w' => ∃ v, e = .returned v ∧ w'.ownsRow w.heap.size 3 1 v 0 [] ∧ Below w.heap.size w w' := by
  by_cases h0 : n = 0
  · subst h0
    go_enter Try.func139, Try.ntmps139
    go_wp2
    go_ret
    exact ⟨_, rfl, ⟨rfl, .inl ⟨rfl, rfl⟩⟩, Below.refl _ _⟩
  · have hp : (0 : Int) < n := by omega
    obtain ⟨i0, hi, hz0, hz1, hz2⟩ := info_partsI info_int2
    have hr := fun w : World => Go.Lib.run_append_nil_zeros (P := Try.prog) w 23 3 23 3 i0 (.int .i64 0) .i64 .i64 Try.underlying23 Try.underlying3 hi hz0 n (by omega) (by rw [hz1]; omega) (by omega) (by rw [hz2]; omega)
    have HR := Lib.hid hr
    clear hr hi hz0 hz1 hz2
    go_enter Try.func139, Try.ntmps139
    go_wp2_with (at_builtin; refine Go.Lib.wpList_append_run _ rfl (.tmp 20) (.tmp 21) 23 3 rfl _ _ rfl rfl _ _ (HR.out _) ?_)
    go_ret
    refine ⟨_, rfl, ⟨rfl, .inr ⟨w.heap.size, _, _, rfl, Nat.le_refl _, blk_alloc_new _ _, Nat.zero_le _, grownCap_le_maxLen _ _ _ _ (by unfold maxLen; omega), ?_, by simp⟩⟩, ((Below.refl _ _).alloc (Nat.le_refl _) _).drew⟩
    have := grownCap_ge w n 0 3
    simp only [Array.size_append, size_zeroCells]
    simp only [List.size_toArray, List.length_cons, List.length_nil]
    omega

/-- How many edges there are in the first k lists. -/
def catI (ess : List (List Int)) (k : Nat) : List Int := (ess.take k).flatten
def lensI (ess : List (List Int)) (k : Nat) : Nat := (catI ess k).length
theorem lensI_succ (ess : List (List Int)) {k : Nat} (h : k < ess.length) : catI ess (k + 1) = catI ess k ++ ess.getD k [] := by
  unfold catI
  rw [List.take_succ_eq_append_getElem h, List.flatten_append]
  simp [List.getD, h]
theorem lensI_le (ess : List (List Int)) (k : Nat) : lensI ess k ≤ ess.flatten.length := by
  unfold lensI catI
  conv => rhs; rw [← List.take_append_drop k ess, List.flatten_append, List.length_append]
  omega

set_option maxRecDepth 20000 in
set_option maxHeartbeats 2000000 in
theorem concatI (ess : List (List Int)) (ss : Nat → Value) (B off0 cap : Nat) (w : World) (hB : B < w.heap.size) (hN : ess.length ≤ 1048576) (hT : ess.flatten.length ≤ 1048576)
    (hss : ∀ k, k < ess.length → w.cell? ⟨B, off0 + k, none⟩ = some (ss k) ∧ Row w (ss k) (ess.getD k []) ∧ okS (ss k)) :
    Calls Try.prog 113 #[.slice (some ⟨B, off0, none⟩) ess.length cap] w fun e w' => ∃ v, e = .returned v ∧ OwnV w w' v ess.flatten ∧ okS v ∧ Below w.heap.size w w' := by
  have HS := Lib.hid hss
  clear hss
  obtain ⟨i0, hi, hz0, hz1, hz2⟩ := info_partsI info_int2
  have HI : Hid (Try.prog.info? 3 = some i0 ∧ i0.zero = some (.int .i64 0) ∧ i0.size = 1 ∧ i0.bytes = 8) := Lib.hid ⟨hi, hz0, hz1, hz2⟩
  clear hi hz0 hz1 hz2
  go_enter Try.func113, Try.ntmps113
  go_wp2
  go_loopw [11, 3] (fun c d wr => ∃ k : Nat, k ≤ ess.length ∧ c = .int .i64 k ∧ d = .int .i64 (lensI ess k : Nat) ∧ Below w.heap.size w wr) (fun c _ _ => ess.length - (intOf c).toNat)
  case atStart => exact ⟨0, Nat.zero_le _, rfl, rfl, Below.refl _ _⟩
  case round =>
    obtain ⟨k, hk, rfl, rfl, hbel⟩ := hrel
    have hle := lensI_le ess k
    by_cases hlt : k < ess.length
    · have hlt' : (k : Int) < ess.length := by omega
      obtain ⟨h1, h2, h3⟩ := HS.out k hlt
      obtain ⟨a, c0, hs0, hz⟩ := h2
      rw [hs0] at h1
      have c1 := (hbel.cell (p := ⟨B, off0 + k, none⟩) hB).trans h1
      have hl2 : lensI ess (k + 1) = lensI ess k + (ess.getD k []).length := by unfold lensI; rw [lensI_succ ess hlt, List.length_append]
      have hle2 := lensI_le ess (k + 1)
      obtain ⟨L, hL⟩ : ∃ L, L = (ess.getD k []).length := ⟨_, rfl⟩
      rw [← hL] at c1 hl2
      have HL := Lib.hid hl2
      have hneg : decide ((lensI ess k : Int) + L < 0) = false := decide_eq_false (by omega)
      have hsum : lensI ess k + L ≤ 1048576 := by omega
      clear h1 h3 hz hs0 hl2 hL hle2
      go_wp2
      go_roundw
      case rel => exact ⟨k + 1, by omega, by go_num, by rw [HL.out]; go_num, hbel⟩
      case measure => simp [intOf]; omega
    · have hke : k = ess.length := by omega
      have hkk : ¬ ((k : Int) < ess.length) := by omega
      have hB2 : B < wr.heap.size := Nat.lt_of_lt_of_le hB hbel.size
      have HK := Lib.hid hke
      clear hke
      go_wp2_with (go_at_call 139; refine (growI (lensI ess k) _ (by omega)).mono ?_; rintro e w1 ⟨v1, rfl, hown, hb1⟩)
      have hown1 : w1.ownsRow w.heap.size 3 1 v1 0 [] := by
        obtain ⟨h1, h2⟩ := hown
        refine ⟨h1, ?_⟩
        rcases h2 with h2 | ⟨g, cp, cur, e1, e2, e3⟩
        · exact .inl h2
        · exact .inr ⟨g, cp, cur, e1, Nat.le_trans hbel.size e2, e3⟩
      have HO := Lib.hid hown1
      have hbel1 := bel_trans hbel hb1
      clear hown hown1 hb1
      go_loopw [27, 6] (fun c v ws => ∃ m : Nat, m ≤ ess.length ∧ c = .int .i64 m ∧ ws.ownsRow w.heap.size 3 1 v (catI ess m).length (cellsI (catI ess m)) ∧ Below w.heap.size w ws) (fun c _ _ => ess.length - (intOf c).toNat)
      case atStart => exact ⟨0, Nat.zero_le _, rfl, HO.out, hbel1⟩
      case round =>
        obtain ⟨m, hm, rfl, hown, hbelm⟩ := hrel
        have HM := Lib.hid hown
        clear hown
        by_cases hlt : m < ess.length
        · have hlt' : (m : Int) < ess.length := by omega
          obtain ⟨h1, h2, h3⟩ := HS.out m hlt
          obtain ⟨a, c0, hs0, hz⟩ := h2
          rw [hs0] at h1 h3
          have c1 := (hbelm.cell (p := ⟨B, off0 + m, none⟩) hB).trans h1
          have hle1 := lensI_le ess (m + 1)
          have hTk := Lib.hid (lensI_succ ess hlt)
          have hl2 : (catI ess (m + 1)).length = (catI ess m).length + (ess.getD m []).length := by rw [hTk.out, List.length_append]
          unfold lensI at hle1
          obtain ⟨es, hes⟩ : ∃ es, es = ess.getD m [] := ⟨_, rfl⟩
          rw [← hes] at c1 hz hl2 h3 hTk
          have HL := Lib.hid hl2
          have hbound : (catI ess m).length + es.length ≤ 1048576 := by omega
          have hws := hbelm.size
          obtain ⟨hi, hz0, hz1, hz2⟩ := HI.out
          cases a with
          | none =>
            have hc0 := (h3 _ _ _ rfl).2.1 rfl
            subst hc0
            have he0 : es = [] := by
              rcases hz with h | ⟨_, _, h, _⟩
              · exact h
              · cases h
            rw [he0] at c1 hTk
            simp only [List.length_nil] at c1
            clear h1 h3 hz hs0 hl2 hle1 hes
            go_wp2_with (at_builtin; (refine wpList_append_own_none rfl (.tmp 31) (.tmp 32) 23 rfl w.heap.size 3 i0 1 Try.underlying23 hi _ _ _ rfl HM.out rfl ?_))
            go_roundw
            case rel => first | exact ⟨m + 1, by omega, by go_num, by rw [hTk.out, List.append_nil]; exact HM.out, hbelm⟩ | ((repeat apply Exists.intro); exact ⟨⟨m + 1, by omega, by go_num, by rw [hTk.out, List.append_nil]; exact HM.out, hbelm⟩, rfl⟩)
            case measure => simp [intOf]; omega
          | some ad =>
            have hnews : ∀ j u, (cellsI es)[j]? = some u → wr.cell? (ad.add j) = some u := by
              intro j u hu
              obtain ⟨hj, rfl⟩ := cellsI_get es j u hu
              rcases hz with h | ⟨b, off, h, hb, hc⟩
              · rw [h] at hj; simp at hj
              · injection h with h
                subst h
                rw [Go.WideShapes.add_plain, hbelm.cell (p := ⟨b, off + j, none⟩) hb]
                have hcj := hc j hj
                simpa [cellI] using hcj
            have HNW := Lib.hid hnews
            clear h1 h3 hz hs0 hl2 hle1 hes hnews
            go_wp2_with (at_builtin; refine wpList_append_own _ rfl (.tmp 31) (.tmp 32) 23 rfl w.heap.size 3 i0 (.int .i64 0) 1 8 Try.underlying23 hi hz0 hz1 hz2 rfl (by decide) _ _ _ rfl HM.out ad es.length c0 (cellsI es) rfl (cellsI_len es) HNW.out (cellsI_one es) ?c3 ?c4 hws ?_)
            case c3 => unfold maxLen; omega
            case c4 => omega
            intro v' w6 hown6 hgrow6 _
            have hown6' : w6.ownsRow w.heap.size 3 1 v' (catI ess (m + 1)).length (cellsI (catI ess (m + 1))) := by rw [HL.out, hTk.out, cellsI_app]; exact hown6
            have H7 := Lib.hid hown6'
            have H8 : Hid (Below w.heap.size w w6) := Lib.hid (hbelm.grown hgrow6 hws (fun q hq => (HM.out.lt q hq).1))
            clear hown6 hown6' hgrow6 hi hz0 hz1 hz2
            go_wp2
            go_roundw
            case rel => first | exact ⟨m + 1, by omega, by go_num, H7.out, H8.out⟩ | ((repeat apply Exists.intro); exact ⟨⟨m + 1, by omega, by go_num, H7.out, H8.out⟩, rfl⟩)
            case measure => simp [intOf]; omega
        · have hme : m = ess.length := by omega
          have hmm : ¬ ((m : Int) < ess.length) := by omega
          have ht : catI ess m = ess.flatten := by unfold catI; rw [hme, List.take_length]
          rw [ht] at HM
          have HK2 := Lib.hid hme
          clear hme ht
          go_wp2
          go_ret
          refine ⟨_, rfl, OwnV.ofOwn HM.out (Nat.le_refl _), ?_, hbelm⟩
          intro a n c e
          rcases HM.out.2 with ⟨e2, _⟩ | ⟨g, cp, cur, e2, _, _, hcp, _⟩
          · have e3 := e2.symm.trans e
            injection e3 with e4 e5 e6
            subst e4 e5 e6
            exact ⟨Nat.le_refl _, (fun _ => rfl), fun x h => by cases h⟩
          · have e3 := e2.symm.trans e
            injection e3 with e4 e5 e6
            subst e4 e5 e6
            exact ⟨hcp, (fun h => by cases h), fun x h => by injection h with h; rw [← h]⟩
end Go.Proofs.Ytjpikbbpmbeckaa
