/- slices.Concat of slices of edges. PutEdge of the program. PutEdge of the program: the way on. PutEdge of the program: what it answers. -/
import Derived.Test.YtbhhbhopogkmnaaRowAt
import Derived.Test.YtbhhbhopogkmnaaFind3
import Derived.Lib.AppendZeros
import Derived.Laws.AppendOwnNone
import Derived.Laws.ResultCell
import Derived.Deep.RegionHeld3
namespace Go.Proofs.Ytbhhbhopogkmnaa
open Go.RowKit Go.BigFrame Go.Deep
set_option linter.unusedVariables false
set_option linter.unusedSimpArgs false

theorem own_keep3 {w w' : World} {base : Nat} {t : TypeId} {sz : Nat} {v : Value} {n : Nat} {xs : List Value} (h : w.ownsRow base t sz v n xs) (hb : Below w.heap.size w w') : w'.ownsRow base t sz v n xs :=
  h.kept (row := none) ⟨hb.os, hb.tape, hb.output, hb.size, fun i hi _ => hb.block i hi⟩ (Classical.em _)
/-- The cells of a row of edges, as a list. -/
def cellsE (es : List Ed) : List Value := (List.range (es.length * 3)).map (cellE es)
theorem cellsE_len (es : List Ed) : (cellsE es).length = es.length * 3 := by simp [cellsE]
theorem cellsE_get (es : List Ed) (j : Nat) (u : Value) (h : (cellsE es)[j]? = some u) : j < es.length * 3 ∧ u = cellE es j := by
  unfold cellsE at h
  rw [List.getElem?_map] at h
  by_cases hj : j < es.length * 3
  · simp [hj] at h; exact ⟨hj, h.symm⟩
  · simp [hj] at h
theorem cellE_app1 (es fs : List Ed) {j : Nat} (h : j < es.length * 3) : cellE (es ++ fs) j = cellE es j := by
  have : j / 3 < es.length := by omega
  simp only [cellE, List.getD, List.getElem?_append_left this]
theorem cellE_app2 (es fs : List Ed) (j : Nat) : cellE (es ++ fs) (es.length * 3 + j) = cellE fs j := by
  have h1 : (es.length * 3 + j) / 3 = es.length + j / 3 := by omega
  have h2 : (es.length * 3 + j) % 3 = j % 3 := by omega
  have h3 : es.length ≤ es.length + j / 3 := by omega
  simp only [cellE, List.getD, h1, h2, List.getElem?_append_right h3, Nat.add_sub_cancel_left]
theorem cellsE_app (es fs : List Ed) : cellsE (es ++ fs) = cellsE es ++ cellsE fs := by
  unfold cellsE
  rw [List.length_append, Nat.add_mul, List.range_add, List.map_append, List.map_map]
  congr 1
  · apply List.map_congr_left
    intro j hj
    exact cellE_app1 es fs (by simpa using hj)
  · apply List.map_congr_left
    intro j hj
    exact cellE_app2 es fs j
theorem cellsE_one (es : List Ed) : ∀ u ∈ cellsE es, u.oneCell' = true := by
  intro u hu
  unfold cellsE at hu
  rw [List.mem_map] at hu
  obtain ⟨j, _, rfl⟩ := hu
  rfl
/-- A list of edges, in a slice of the call's own. -/
def OwnE (w w' : World) (v : Value) (es : List Ed) : Prop := InR true w' w.heap.size w'.heap.size v es.length 3 (cellE es)
theorem OwnE.of {w w' : World} {base : Nat} {v : Value} {es : List Ed} (h : w'.ownsRow base 49 3 v es.length (cellsE es)) (hb : w.heap.size ≤ base) : OwnE w w' v es := by
  have h1 := (InR.of_own h).wider (l := w.heap.size) (h := w'.heap.size) hb (Nat.le_refl _) (Nat.le_refl _)
  obtain ⟨a, cap, rfl, hz⟩ := h1
  refine ⟨a, cap, rfl, ?_⟩
  rcases hz with h0 | ⟨b, off, rfl, k1, k2, k3, hc⟩
  · exact .inl h0
  · refine .inr ⟨b, off, rfl, k1, k2, k3, fun i hi => ⟨?_, (hc i hi).2⟩⟩
    rw [(hc i hi).1]
    simp [cellsE, List.getD, hi]

theorem growE (n : Nat) (w : World) (hn : n ≤ 4194304) :
    Calls Try.prog 148 #[.slice none 0 0, .int .i64 (n : Int)] w fun e w' => ∃ v, e = .returned v ∧ w'.ownsRow w.heap.size 49 3 v 0 [] ∧ Below w.heap.size w w' := by
  by_cases h0 : n = 0
  · subst h0
    go_enter Try.func148, Try.ntmps148
    go_wp2
    go_ret
    exact ⟨_, rfl, ⟨rfl, .inl ⟨rfl, rfl⟩⟩, Below.refl _ _⟩
  · have hp : (0 : Int) < n := by omega
    obtain ⟨i0, hi, hz0, hz1, hz2⟩ := info_parts info_edge
    have hr := fun w : World => Go.Lib.run_append_nil_zeros (P := Try.prog) w 32 3 32 49 i0 (.agg #[.int .i64 0, .int .i64 0, .int .i64 0]) .i64 .i64 Try.underlying32 Try.underlying3 hi hz0 n (by omega) (by rw [hz1]; omega) (by omega) (by rw [hz2]; omega)
    have HR := Lib.hid hr
    clear hr hi hz0 hz1 hz2
    go_enter Try.func148, Try.ntmps148
    go_wp2_with (at_builtin; refine Go.Lib.wpList_append_run _ rfl (.tmp 20) (.tmp 21) 32 3 rfl _ _ rfl rfl _ _ (HR.out _) ?_)
    go_ret
    refine ⟨_, rfl, ⟨rfl, .inr ⟨w.heap.size, _, _, rfl, Nat.le_refl _, blk_alloc_new _ _, Nat.zero_le _, grownCap_le_maxLen _ _ _ _ (by unfold maxLen; omega), ?_, by simp⟩⟩, ((Below.refl _ _).alloc (Nat.le_refl _) _).drew⟩
    have := grownCap_ge w n 0 49
    simp only [Array.size_append, size_zeroCells]
    simp only [List.size_toArray, List.length_cons, List.length_nil]
    omega

/-- How many edges there are in the first k lists. -/
def catE (ess : List (List Ed)) (k : Nat) : List Ed := (ess.take k).flatten
def lens (ess : List (List Ed)) (k : Nat) : Nat := (catE ess k).length
theorem lens_succ (ess : List (List Ed)) {k : Nat} (h : k < ess.length) : catE ess (k + 1) = catE ess k ++ ess.getD k [] := by
  unfold catE
  rw [List.take_succ_eq_append_getElem h, List.flatten_append]
  simp [List.getD, h]
theorem lens_le (ess : List (List Ed)) (k : Nat) : lens ess k ≤ ess.flatten.length := by
  unfold lens catE
  conv => rhs; rw [← List.take_append_drop k ess, List.flatten_append, List.length_append]
  omega

set_option maxRecDepth 20000 in
set_option maxHeartbeats 2000000 in
theorem concat (ess : List (List Ed)) (ss : Nat → Value) (B cap : Nat) (w : World) (hB : B < w.heap.size) (hN : ess.length ≤ 3) (hT : ess.flatten.length ≤ 1048576)
    (hss : ∀ k, k < ess.length → w.cell? ⟨B, k, none⟩ = some (ss k) ∧ RowE w (ss k) (ess.getD k []) ∧ okS (ss k)) :
    Calls Try.prog 147 #[.slice (some ⟨B, 0, none⟩) ess.length cap] w fun e w' => ∃ v, e = .returned v ∧ OwnE w w' v ess.flatten ∧ okS v ∧ Below w.heap.size w w' := by
  have HS := Lib.hid hss
  clear hss
  obtain ⟨i0, hi, hz0, hz1, hz2⟩ := info_parts info_edge
  have HI : Hid (Try.prog.info? 49 = some i0 ∧ i0.zero = some (.agg #[.int .i64 0, .int .i64 0, .int .i64 0]) ∧ i0.size = 3 ∧ i0.bytes = 24) := Lib.hid ⟨hi, hz0, hz1, hz2⟩
  clear hi hz0 hz1 hz2
  go_enter Try.func147, Try.ntmps147
  go_wp2
  go_loopw [11, 3] (fun c d wr => ∃ k : Nat, k ≤ ess.length ∧ c = .int .i64 k ∧ d = .int .i64 (lens ess k : Nat) ∧ Below w.heap.size w wr) (fun c _ _ => ess.length - (intOf c).toNat)
  case atStart => exact ⟨0, Nat.zero_le _, rfl, rfl, Below.refl _ _⟩
  case round =>
    obtain ⟨k, hk, rfl, rfl, hbel⟩ := hrel
    have hle := lens_le ess k
    by_cases hlt : k < ess.length
    · have hlt' : (k : Int) < ess.length := by omega
      obtain ⟨h1, h2, h3⟩ := HS.out k hlt
      obtain ⟨a, c0, hs0, hz⟩ := h2
      rw [hs0] at h1
      have c1 := (hbel.cell (p := ⟨B, k, none⟩) hB).trans h1
      have hl2 : lens ess (k + 1) = lens ess k + (ess.getD k []).length := by unfold lens; rw [lens_succ ess hlt, List.length_append]
      have hle2 := lens_le ess (k + 1)
      obtain ⟨L, hL⟩ : ∃ L, L = (ess.getD k []).length := ⟨_, rfl⟩
      rw [← hL] at c1 hl2
      have HL := Lib.hid hl2
      have hneg : decide ((lens ess k : Int) + L < 0) = false := decide_eq_false (by omega)
      have hsum : lens ess k + L ≤ 1048576 := by omega
      clear h1 h3 hz hs0 hl2 hL hle2
      go_wp2
      go_roundw
      case rel => exact ⟨k + 1, by omega, by go_num, by rw [HL.out]; go_num, hbel⟩
      case measure => simp [intOf]; omega
    · have hke : k = ess.length := by omega
      have hkk : ¬ ((k : Int) < ess.length) := by omega
      have hB2 : B < wr.heap.size := Nat.lt_of_lt_of_le hB hbel.size
      have HK := Lib.hid hke
      clear hke
      go_wp2_with (go_at_call 148; refine (growE (lens ess k) _ (by omega)).mono ?_; rintro e w1 ⟨v1, rfl, hown, hb1⟩)
      have hown1 : w1.ownsRow w.heap.size 49 3 v1 0 [] := by
        obtain ⟨h1, h2⟩ := hown
        refine ⟨h1, ?_⟩
        rcases h2 with h2 | ⟨g, cp, cur, e1, e2, e3⟩
        · exact .inl h2
        · exact .inr ⟨g, cp, cur, e1, Nat.le_trans hbel.size e2, e3⟩
      have HO := Lib.hid hown1
      have hbel1 := bel_trans hbel hb1
      clear hown hown1 hb1
      go_loopw [27, 6] (fun c v ws => ∃ m : Nat, m ≤ ess.length ∧ c = .int .i64 m ∧ ws.ownsRow w.heap.size 49 3 v (catE ess m).length (cellsE (catE ess m)) ∧ Below w.heap.size w ws) (fun c _ _ => ess.length - (intOf c).toNat)
      case atStart => exact ⟨0, Nat.zero_le _, rfl, HO.out, hbel1⟩
      case round =>
        obtain ⟨m, hm, rfl, hown, hbelm⟩ := hrel
        have HM := Lib.hid hown
        clear hown
        by_cases hlt : m < ess.length
        · have hlt' : (m : Int) < ess.length := by omega
          obtain ⟨h1, h2, h3⟩ := HS.out m hlt
          obtain ⟨a, c0, hs0, hz⟩ := h2
          rw [hs0] at h1 h3
          have c1 := (hbelm.cell (p := ⟨B, m, none⟩) hB).trans h1
          have hle1 := lens_le ess (m + 1)
          have hTk := Lib.hid (lens_succ ess hlt)
          have hl2 : (catE ess (m + 1)).length = (catE ess m).length + (ess.getD m []).length := by rw [hTk.out, List.length_append]
          unfold lens at hle1
          obtain ⟨es, hes⟩ : ∃ es, es = ess.getD m [] := ⟨_, rfl⟩
          rw [← hes] at c1 hz hl2 h3 hTk
          have HL := Lib.hid hl2
          have hbound : (catE ess m).length + es.length ≤ 1048576 := by omega
          have hws := hbelm.size
          obtain ⟨hi, hz0, hz1, hz2⟩ := HI.out
          cases a with
          | none =>
            have hc0 := (h3 _ _ _ rfl).2.1 rfl
            subst hc0
            have he0 : es = [] := by
              rcases hz with h | ⟨_, _, h, _⟩
              · exact h
              · cases h
            rw [he0] at c1 hTk
            simp only [List.length_nil] at c1
            clear h1 h3 hz hs0 hl2 hle1 hes
            go_wp2_with (at_builtin; (refine wpList_append_own_none rfl (.tmp 31) (.tmp 32) 32 rfl w.heap.size 49 i0 3 Try.underlying32 hi _ _ _ rfl HM.out rfl ?_))
            go_roundw
            case rel => first | exact ⟨m + 1, by omega, by go_num, by rw [hTk.out, List.append_nil]; exact HM.out, hbelm⟩ | ((repeat apply Exists.intro); exact ⟨⟨m + 1, by omega, by go_num, by rw [hTk.out, List.append_nil]; exact HM.out, hbelm⟩, rfl⟩)
            case measure => simp [intOf]; omega
          | some ad =>
            have hnews : ∀ j u, (cellsE es)[j]? = some u → wr.cell? (ad.add j) = some u := by
              intro j u hu
              obtain ⟨hj, rfl⟩ := cellsE_get es j u hu
              rcases hz with h | ⟨b, off, h, hb, hc⟩
              · rw [h] at hj; simp at hj
              · injection h with h
                subst h
                rw [Go.WideShapes.add_plain, hbelm.cell (p := ⟨b, off + j, none⟩) hb]
                obtain ⟨d0, d1, d2⟩ := hc (j / 3) (by omega)
                have hj3 : j % 3 = 0 ∨ j % 3 = 1 ∨ j % 3 = 2 := by omega
                rcases hj3 with h | h | h
                · have e : j = j / 3 * 3 := by omega
                  rw [e, cellE0]; exact d0
                · have e : j = j / 3 * 3 + 1 := by omega
                  rw [e, cellE1, ← Nat.add_assoc]; exact d1
                · have e : j = j / 3 * 3 + 2 := by omega
                  rw [e, cellE2, ← Nat.add_assoc]; exact d2
            have HNW := Lib.hid hnews
            clear h1 h3 hz hs0 hl2 hle1 hes hnews
            go_wp2_with (at_builtin; refine wpList_append_own _ rfl (.tmp 31) (.tmp 32) 32 rfl w.heap.size 49 i0 (.agg #[.int .i64 0, .int .i64 0, .int .i64 0]) 3 24 Try.underlying32 hi hz0 hz1 hz2 rfl (by decide) _ _ _ rfl HM.out ad es.length c0 (cellsE es) rfl (cellsE_len es) HNW.out (cellsE_one es) ?c3 ?c4 hws ?_)
            case c3 => unfold maxLen; omega
            case c4 => omega
            intro v' w6 hown6 hgrow6 _
            have hown6' : w6.ownsRow w.heap.size 49 3 v' (catE ess (m + 1)).length (cellsE (catE ess (m + 1))) := by rw [HL.out, hTk.out, cellsE_app]; exact hown6
            have H7 := Lib.hid hown6'
            have H8 : Hid (Below w.heap.size w w6) := Lib.hid (hbelm.grown hgrow6 hws (fun q hq => (HM.out.lt q hq).1))
            clear hown6 hown6' hgrow6 hi hz0 hz1 hz2
            go_wp2
            go_roundw
            case rel => first | exact ⟨m + 1, by omega, by go_num, H7.out, H8.out⟩ | ((repeat apply Exists.intro); exact ⟨⟨m + 1, by omega, by go_num, H7.out, H8.out⟩, rfl⟩)
            case measure => simp [intOf]; omega
        · have hme : m = ess.length := by omega
          have hmm : ¬ ((m : Int) < ess.length) := by omega
          have ht : catE ess m = ess.flatten := by unfold catE; rw [hme, List.take_length]
          rw [ht] at HM
          have HK2 := Lib.hid hme
          clear hme ht
          go_wp2
          go_ret
          refine ⟨_, rfl, OwnE.of HM.out (Nat.le_refl _), ?_, hbelm⟩
          intro a n c e
          rcases HM.out.2 with ⟨e2, _⟩ | ⟨g, cp, cur, e2, _, _, hcp, _⟩
          · have e3 := e2.symm.trans e
            injection e3 with e4 e5 e6
            subst e4 e5 e6
            exact ⟨Nat.le_refl _, (fun _ => rfl), fun x h => by cases h⟩
          · have e3 := e2.symm.trans e
            injection e3 with e4 e5 e6
            subst e4 e5 e6
            exact ⟨hcp, (fun h => by cases h), fun x h => by injection h with h; rw [← h]⟩
end Go.Proofs.Ytbhhbhopogkmnaa
namespace Go.Proofs.Ytbhhbhopogkmnaa
open Go.RowKit Go.BigFrame Go.Deep
set_option linter.unusedVariables false
set_option linter.unusedSimpArgs false

/-- How many edges an edge replaces. -/
def fdN (es : List Ed) (a b : Int) : Nat := if fdE es a b = true then 1 else 0
/-- The edges with an edge in its place. -/
def pL (es : List Ed) (e : Ed) : List Ed := es.take (lbE es e.1 e.2.1) ++ e :: es.drop (lbE es e.1 e.2.1 + fdN es e.1 e.2.1)
def putB (n : Int) (es : List Ed) (e : Ed) : Bool := (gVal n es && eFits n e.1 e.2.1 e.2.2) && decide ((pL es e).length ≤ 40)
def putN (n : Int) (es : List Ed) (e : Ed) : Int := if putB n es e = true then n else 0
def putL (n : Int) (es : List Ed) (e : Ed) : List Ed := if putB n es e = true then pL es e else []

theorem ownE_nil (w w' : World) : OwnE w w' (.slice none 0 0) [] := ⟨none, 0, rfl, .inl rfl⟩
theorem okS_nil : okS (.slice none 0 0) := by
  intro a n c e
  injection e with e1 e2 e3
  subst e1 e2 e3
  exact ⟨Nat.le_refl _, (fun _ => rfl), fun x h => by cases h⟩
theorem okS_some {b off n c : Nat} (h : n ≤ c) : okS (.slice (some ⟨b, off, none⟩) n c) := by
  intro a n c e
  injection e with e1 e2 e3
  subst e1 e2 e3
  exact ⟨h, (fun h => by cases h), fun x h => by injection h with h; rw [← h]⟩
theorem rowE_take {w : World} {b off cap : Nat} {es : List Ed} (hc : ∀ i, i < es.length → w.cell? ⟨b, off + i * 3, none⟩ = some (.int .i64 (es.getD i (0, 0, 0)).1) ∧ w.cell? ⟨b, off + i * 3 + 1, none⟩ = some (.int .i64 (es.getD i (0, 0, 0)).2.1) ∧ w.cell? ⟨b, off + i * 3 + 2, none⟩ = some (.int .i64 (es.getD i (0, 0, 0)).2.2))
    (hb : b < w.heap.size) {p : Nat} (hp : p ≤ es.length) : RowE w (.slice (some ⟨b, off, none⟩) p cap) (es.take p) := by
  have hl : (es.take p).length = p := by rw [List.length_take]; omega
  refine ⟨_, cap, by rw [hl], .inr ⟨b, off, rfl, hb, fun i hi => ?_⟩⟩
  rw [hl] at hi
  have e : (es.take p).getD i (0, 0, 0) = es.getD i (0, 0, 0) := by simp [List.getD, hi]
  rw [e]
  exact hc i (by omega)
theorem rowE_drop {w : World} {b off cap : Nat} {es : List Ed} (hc : ∀ i, i < es.length → w.cell? ⟨b, off + i * 3, none⟩ = some (.int .i64 (es.getD i (0, 0, 0)).1) ∧ w.cell? ⟨b, off + i * 3 + 1, none⟩ = some (.int .i64 (es.getD i (0, 0, 0)).2.1) ∧ w.cell? ⟨b, off + i * 3 + 2, none⟩ = some (.int .i64 (es.getD i (0, 0, 0)).2.2))
    (hb : b < w.heap.size) (q : Nat) : RowE w (.slice (some ⟨b, off + q * 3, none⟩) (es.length - q) cap) (es.drop q) := by
  have hl : (es.drop q).length = es.length - q := by rw [List.length_drop]
  refine ⟨_, cap, by rw [hl], .inr ⟨b, off + q * 3, rfl, hb, fun i hi => ?_⟩⟩
  rw [hl] at hi
  have e : (es.drop q).getD i (0, 0, 0) = es.getD (q + i) (0, 0, 0) := by simp [List.getD, List.getElem?_drop]
  rw [e]
  have h := hc (q + i) (by omega)
  have e2 : off + (q + i) * 3 = off + q * 3 + i * 3 := by omega
  rw [e2] at h
  exact h

/-- What a slice from a place on is. -/
def dropV (b off len cap q : Nat) : Value := .slice (if cap = q then some ⟨b, off, none⟩ else some ⟨b, off + q * 3, none⟩) (len - q) (cap - q)
theorem rowE_dropV {w : World} {b off cap : Nat} {es : List Ed} (hc : ∀ i, i < es.length → w.cell? ⟨b, off + i * 3, none⟩ = some (.int .i64 (es.getD i (0, 0, 0)).1) ∧ w.cell? ⟨b, off + i * 3 + 1, none⟩ = some (.int .i64 (es.getD i (0, 0, 0)).2.1) ∧ w.cell? ⟨b, off + i * 3 + 2, none⟩ = some (.int .i64 (es.getD i (0, 0, 0)).2.2))
    (hb : b < w.heap.size) (q : Nat) (hcap : es.length ≤ cap) : RowE w (dropV b off es.length cap q) (es.drop q) := by
  unfold dropV
  by_cases h : cap = q
  · rw [if_pos h]
    have e : es.drop q = [] := List.drop_eq_nil_of_le (by omega)
    rw [e]
    have : es.length - q = 0 := by omega
    rw [this]
    exact ⟨_, _, rfl, .inl rfl⟩
  · rw [if_neg h]
    exact rowE_drop hc hb q
theorem okS_dropV {b off len cap q : Nat} (h : len ≤ cap) : okS (dropV b off len cap q) := by
  unfold dropV
  split <;> exact okS_some (by omega)

set_option maxRecDepth 100000 in
theorem concat3 (es1 es3 : List Ed) (x y z : Int) (s1 s3 : Value) (w : World) (h1 : RowE w s1 es1) (h3 : RowE w s3 es3) (o1 : okS s1) (o3 : okS s3) (hT : (es1 ++ (x, y, z) :: es3).length ≤ 1048576) (T1 T2 : TypeId) :
    Calls Try.prog 147 #[.slice (some ⟨w.heap.size + 1, 0, none⟩) 3 3] ((w.alloc (.cells #[.int .i64 x, .int .i64 y, .int .i64 z] T1)).alloc (.cells #[s1, .slice (some ⟨w.heap.size, 0, none⟩) 1 1, s3] T2)).drew
      fun e w' => ∃ v, e = .returned v ∧ OwnE w w' v (es1 ++ (x, y, z) :: es3) ∧ okS v ∧ Below w.heap.size w w' := by
  obtain ⟨W, hW⟩ : ∃ W, W = ((w.alloc (.cells #[.int .i64 x, .int .i64 y, .int .i64 z] T1)).alloc (.cells #[s1, .slice (some ⟨w.heap.size, 0, none⟩) 1 1, s3] T2)).drew := ⟨_, rfl⟩
  have hb : Below w.heap.size w W := by rw [hW]; exact (((Below.refl _ _).alloc (Nat.le_refl _) _).alloc (by simp) _).drew
  have hsz : W.heap.size = w.heap.size + 2 := by rw [hW]; simp
  have c0 : W.cell? ⟨w.heap.size + 1, 0, none⟩ = some s1 := by rw [hW]; go_simp
  have c1 : W.cell? ⟨w.heap.size + 1, 1, none⟩ = some (.slice (some ⟨w.heap.size, 0, none⟩) 1 1) := by rw [hW]; go_simp
  have c2 : W.cell? ⟨w.heap.size + 1, 2, none⟩ = some s3 := by rw [hW]; go_simp
  have d0 : W.cell? ⟨w.heap.size, 0, none⟩ = some (.int .i64 x) := by rw [hW]; go_simp
  have d1 : W.cell? ⟨w.heap.size, 1, none⟩ = some (.int .i64 y) := by rw [hW]; go_simp
  have d2 : W.cell? ⟨w.heap.size, 2, none⟩ = some (.int .i64 z) := by rw [hW]; go_simp
  rw [← hW]
  have hfl : [es1, [(x, y, z)], es3].flatten = es1 ++ (x, y, z) :: es3 := by simp
  have hc := concat [es1, [(x, y, z)], es3] (fun k => if k = 0 then s1 else if k = 1 then .slice (some ⟨w.heap.size, 0, none⟩) 1 1 else s3) (w.heap.size + 1) 3 W (by omega) (by simp) (by rw [hfl]; exact hT) (by
    intro k hk
    match k, hk with
    | 0, _ => exact ⟨c0, h1.keep hb, o1⟩
    | 1, _ => exact ⟨c1, ⟨some ⟨w.heap.size, 0, none⟩, 1, rfl, .inr ⟨w.heap.size, 0, rfl, by omega, fun i hi => by
        have : i = 0 := by simp at hi; omega
        subst this
        exact ⟨d0, d1, d2⟩⟩⟩, by
        intro a n c e
        injection e with e1 e2 e3
        subst e1 e2 e3
        exact ⟨Nat.le_refl _, (fun h => by cases h), fun x h => by injection h with h; rw [← h]⟩⟩
    | 2, _ => exact ⟨c2, h3.keep hb, o3⟩)
  rw [hfl] at hc
  refine hc.mono ?_
  rintro e w1 ⟨v, rfl, hown, hok, hb1⟩
  exact ⟨v, rfl, hown.wider (by omega) (Nat.le_refl _) (Nat.le_refl _), hok, bel_trans hb hb1⟩

end Go.Proofs.Ytbhhbhopogkmnaa
namespace Go.Proofs.Ytbhhbhopogkmnaa
open Go.RowKit Go.BigFrame Go.Deep
set_option linter.unusedVariables false
set_option linter.unusedSimpArgs false

set_option maxRecDepth 100000 in
set_option maxHeartbeats 1000000 in
theorem putCa (n : Int) (es : List Ed) (x y z : Int) (b off p q cap : Nat) (w : World)
    (HV : Hid (∀ (w : World), RowE w (.slice (some ⟨b, off, none⟩) es.length cap) es → Calls Try.prog 45 #[.agg #[.int .i64 n, .slice (some ⟨b, off, none⟩) es.length cap]] w fun e w' => e = .returned (.bool true) ∧ Below w.heap.size w w'))
    (HF : Hid (∀ (w : World), Calls Try.prog 67 #[.agg #[.int .i64 n, .slice (some ⟨b, off, none⟩) es.length cap], .agg #[.int .i64 x, .int .i64 y, .int .i64 z]] w fun e w' => e = .returned (.bool true) ∧ Below w.heap.size w w'))
    (HE : Hid (∀ (w : World), RowE w (.slice (some ⟨b, off, none⟩) es.length cap) es → Calls Try.prog 109 #[.agg #[.int .i64 n, .slice (some ⟨b, off, none⟩) es.length cap], .int .i64 x, .int .i64 y] w fun e w' => e = .returned (.tuple #[.int .i64 (p : Int), .bool true]) ∧ Below w.heap.size w w'))
    (R : Hid (InR false w 0 w.heap.size (.slice (some ⟨b, off, none⟩) es.length cap) es.length 3 (cellE es))) (T1 : Hid (RowE w (.slice (some ⟨b, off, none⟩) p cap) (es.take p))) (T3 : Hid (RowE w (.slice (some ⟨b, off + q * 3, none⟩) (es.length - q) (cap - q)) (es.drop q)))
    (o1 : okS (.slice (some ⟨b, off, none⟩) p cap)) (o3 : okS (.slice (some ⟨b, off + q * 3, none⟩) (es.length - q) (cap - q))) (hT : (es.take p ++ (x, y, z) :: es.drop q).length ≤ 1048576)
    (hp1 : (p : Int) ≤ cap) (hq1 : (q : Int) ≤ es.length) (hq3 : (es.length : Int) ≤ cap) (hpq : (p : Int) + 1 = q) (hle : es.length ≤ 1048576) (hcq : ¬ cap = q) :
    Calls Try.prog 146 #[.agg #[.int .i64 n, .slice (some ⟨b, off, none⟩) es.length cap], .agg #[.int .i64 x, .int .i64 y, .int .i64 z]] w fun e w' => ∃ v, e = .returned (.tuple #[.agg #[.int .i64 (if (es.take p ++ (x, y, z) :: es.drop q).length ≤ 40 then n else 0), v], .bool (decide ((es.take p ++ (x, y, z) :: es.drop q).length ≤ 40))]) ∧ OwnE w w' v (if (es.take p ++ (x, y, z) :: es.drop q).length ≤ 40 then es.take p ++ (x, y, z) :: es.drop q else []) ∧ okS v ∧ Below w.heap.size w w' := by
  obtain ⟨L, hL⟩ : ∃ L, L = es.take p ++ (x, y, z) :: es.drop q := ⟨_, rfl⟩
  rw [← hL]
  have HL := Lib.hid hL
  clear hL
  obtain ⟨w0, hw0⟩ : ∃ w0, w0 = w := ⟨_, rfl⟩
  subst hw0
  have H0 := Below.refl w0.heap.size w0
  have R_0 := R
  clear R
  go_enter Try.func146, Try.ntmps146
  go_wp2_with fail
  have hb1 : Below w0.heap.size w0 (((w0.alloc (.cells #[.int .i64 n, .slice (some ⟨b, off, none⟩) es.length cap] 34)).alloc (.cells #[.int .i64 x, .int .i64 y, .int .i64 z] 49)).alloc (.cells #[.int .i64 0, .slice none 0 0] 34)) := (((Below.refl _ _).alloc (by simp <;> omega) _).alloc (by simp <;> omega) _).alloc (by simp <;> omega) _
  have H1 := bel_trans H0 hb1
  have SZ1 := Lib.hid hb1.size
  have R_1 := Lib.hid (R_0.out.keep hb1)
  have qg0_1 : (((w0.alloc (.cells #[.int .i64 n, .slice (some ⟨b, off, none⟩) es.length cap] 34)).alloc (.cells #[.int .i64 x, .int .i64 y, .int .i64 z] 49)).alloc (.cells #[.int .i64 0, .slice none 0 0] 34)).cell? ⟨w0.heap.size, 0, none⟩ = some (.int .i64 n) := by go_simp
  have qg1_1 : (((w0.alloc (.cells #[.int .i64 n, .slice (some ⟨b, off, none⟩) es.length cap] 34)).alloc (.cells #[.int .i64 x, .int .i64 y, .int .i64 z] 49)).alloc (.cells #[.int .i64 0, .slice none 0 0] 34)).cell? ⟨w0.heap.size, 1, none⟩ = some (.slice (some ⟨b, off, none⟩) es.length cap) := by go_simp
  have zg_1 : w0.heap.size < (((w0.alloc (.cells #[.int .i64 n, .slice (some ⟨b, off, none⟩) es.length cap] 34)).alloc (.cells #[.int .i64 x, .int .i64 y, .int .i64 z] 49)).alloc (.cells #[.int .i64 0, .slice none 0 0] 34)).heap.size := by simp <;> omega
  have qe0_1 : (((w0.alloc (.cells #[.int .i64 n, .slice (some ⟨b, off, none⟩) es.length cap] 34)).alloc (.cells #[.int .i64 x, .int .i64 y, .int .i64 z] 49)).alloc (.cells #[.int .i64 0, .slice none 0 0] 34)).cell? ⟨w0.heap.size + 1, 0, none⟩ = some (.int .i64 x) := by go_simp
  have qe1_1 : (((w0.alloc (.cells #[.int .i64 n, .slice (some ⟨b, off, none⟩) es.length cap] 34)).alloc (.cells #[.int .i64 x, .int .i64 y, .int .i64 z] 49)).alloc (.cells #[.int .i64 0, .slice none 0 0] 34)).cell? ⟨w0.heap.size + 1, 1, none⟩ = some (.int .i64 y) := by go_simp
  have qe2_1 : (((w0.alloc (.cells #[.int .i64 n, .slice (some ⟨b, off, none⟩) es.length cap] 34)).alloc (.cells #[.int .i64 x, .int .i64 y, .int .i64 z] 49)).alloc (.cells #[.int .i64 0, .slice none 0 0] 34)).cell? ⟨w0.heap.size + 1, 2, none⟩ = some (.int .i64 z) := by go_simp
  have ze_1 : w0.heap.size + 1 < (((w0.alloc (.cells #[.int .i64 n, .slice (some ⟨b, off, none⟩) es.length cap] 34)).alloc (.cells #[.int .i64 x, .int .i64 y, .int .i64 z] 49)).alloc (.cells #[.int .i64 0, .slice none 0 0] 34)).heap.size := by simp <;> omega
  have frr0_1 : (((w0.alloc (.cells #[.int .i64 n, .slice (some ⟨b, off, none⟩) es.length cap] 34)).alloc (.cells #[.int .i64 x, .int .i64 y, .int .i64 z] 49)).alloc (.cells #[.int .i64 0, .slice none 0 0] 34)).frozen? ⟨w0.heap.size + 1 + 1, 0, none⟩ = false := by go_simp
  have frr1_1 : (((w0.alloc (.cells #[.int .i64 n, .slice (some ⟨b, off, none⟩) es.length cap] 34)).alloc (.cells #[.int .i64 x, .int .i64 y, .int .i64 z] 49)).alloc (.cells #[.int .i64 0, .slice none 0 0] 34)).frozen? ⟨w0.heap.size + 1 + 1, 1, none⟩ = false := by go_simp
  have qr0_1 : (((w0.alloc (.cells #[.int .i64 n, .slice (some ⟨b, off, none⟩) es.length cap] 34)).alloc (.cells #[.int .i64 x, .int .i64 y, .int .i64 z] 49)).alloc (.cells #[.int .i64 0, .slice none 0 0] 34)).cell? ⟨w0.heap.size + 1 + 1, 0, none⟩ = some (.int .i64 0) := by go_simp
  have qr1_1 : (((w0.alloc (.cells #[.int .i64 n, .slice (some ⟨b, off, none⟩) es.length cap] 34)).alloc (.cells #[.int .i64 x, .int .i64 y, .int .i64 z] 49)).alloc (.cells #[.int .i64 0, .slice none 0 0] 34)).cell? ⟨w0.heap.size + 1 + 1, 1, none⟩ = some (.slice none 0 0) := by go_simp
  have zr_1 : w0.heap.size + 1 + 1 < (((w0.alloc (.cells #[.int .i64 n, .slice (some ⟨b, off, none⟩) es.length cap] 34)).alloc (.cells #[.int .i64 x, .int .i64 y, .int .i64 z] 49)).alloc (.cells #[.int .i64 0, .slice none 0 0] 34)).heap.size := by simp <;> omega
  generalize (((w0.alloc (.cells #[.int .i64 n, .slice (some ⟨b, off, none⟩) es.length cap] 34)).alloc (.cells #[.int .i64 x, .int .i64 y, .int .i64 z] 49)).alloc (.cells #[.int .i64 0, .slice none 0 0] 34)) = w1 at hb1 H1 SZ1 R_1 frr0_1 frr1_1 qe0_1 qe1_1 qe2_1 qg0_1 qg1_1 qr0_1 qr1_1 ze_1 zg_1 zr_1 ⊢
  have ZBg := Lib.hid zg_1
  have ZBe := Lib.hid ze_1
  have ZBr := Lib.hid zr_1
  clear R_0
  refine (HV.out _ R_1.out.edges).mono ?_
  rintro e w2 ⟨rfl, hb2⟩
  have H2 := bel_trans H1 hb2
  have SZ2 := Lib.hid hb2.size
  have qg0_2 := (hb2.cell (p := ⟨w0.heap.size, 0, none⟩) zg_1).trans qg0_1
  have qg1_2 := (hb2.cell (p := ⟨w0.heap.size, 1, none⟩) zg_1).trans qg1_1
  have zg_2 := Nat.lt_of_lt_of_le zg_1 hb2.size
  have qe0_2 := (hb2.cell (p := ⟨w0.heap.size + 1, 0, none⟩) ze_1).trans qe0_1
  have qe1_2 := (hb2.cell (p := ⟨w0.heap.size + 1, 1, none⟩) ze_1).trans qe1_1
  have qe2_2 := (hb2.cell (p := ⟨w0.heap.size + 1, 2, none⟩) ze_1).trans qe2_1
  have ze_2 := Nat.lt_of_lt_of_le ze_1 hb2.size
  have qr0_2 := (hb2.cell (p := ⟨w0.heap.size + 1 + 1, 0, none⟩) zr_1).trans qr0_1
  have frr0_2 := (hb2.frozen (p := ⟨w0.heap.size + 1 + 1, 0, none⟩) zr_1).trans frr0_1
  have qr1_2 := (hb2.cell (p := ⟨w0.heap.size + 1 + 1, 1, none⟩) zr_1).trans qr1_1
  have frr1_2 := (hb2.frozen (p := ⟨w0.heap.size + 1 + 1, 1, none⟩) zr_1).trans frr1_1
  have zr_2 := Nat.lt_of_lt_of_le zr_1 hb2.size
  have R_2 := Lib.hid (R_1.out.keep hb2)
  clear R_1 qg0_1 qg1_1 zg_1 qe0_1 qe1_1 qe2_1 ze_1 frr0_1 frr1_1 qr0_1 qr1_1 zr_1
  go_wp2_with fail
  refine (HF.out _).mono ?_
  rintro e w3 ⟨rfl, hb3⟩
  have H3 := bel_trans H2 hb3
  have SZ3 := Lib.hid hb3.size
  have qg0_3 := (hb3.cell (p := ⟨w0.heap.size, 0, none⟩) zg_2).trans qg0_2
  have qg1_3 := (hb3.cell (p := ⟨w0.heap.size, 1, none⟩) zg_2).trans qg1_2
  have zg_3 := Nat.lt_of_lt_of_le zg_2 hb3.size
  have qe0_3 := (hb3.cell (p := ⟨w0.heap.size + 1, 0, none⟩) ze_2).trans qe0_2
  have qe1_3 := (hb3.cell (p := ⟨w0.heap.size + 1, 1, none⟩) ze_2).trans qe1_2
  have qe2_3 := (hb3.cell (p := ⟨w0.heap.size + 1, 2, none⟩) ze_2).trans qe2_2
  have ze_3 := Nat.lt_of_lt_of_le ze_2 hb3.size
  have qr0_3 := (hb3.cell (p := ⟨w0.heap.size + 1 + 1, 0, none⟩) zr_2).trans qr0_2
  have frr0_3 := (hb3.frozen (p := ⟨w0.heap.size + 1 + 1, 0, none⟩) zr_2).trans frr0_2
  have qr1_3 := (hb3.cell (p := ⟨w0.heap.size + 1 + 1, 1, none⟩) zr_2).trans qr1_2
  have frr1_3 := (hb3.frozen (p := ⟨w0.heap.size + 1 + 1, 1, none⟩) zr_2).trans frr1_2
  have zr_3 := Nat.lt_of_lt_of_le zr_2 hb3.size
  have R_3 := Lib.hid (R_2.out.keep hb3)
  clear qg0_2 qg1_2 zg_2 qe0_2 qe1_2 qe2_2 ze_2 qr0_2 frr0_2 qr1_2 frr1_2 zr_2 R_2
  go_wp2_with fail
  refine (HE.out _ R_3.out.edges).mono ?_
  rintro e w4 ⟨rfl, hb4⟩
  have H4 := bel_trans H3 hb4
  have SZ4 := Lib.hid hb4.size
  have qg0_4 := (hb4.cell (p := ⟨w0.heap.size, 0, none⟩) zg_3).trans qg0_3
  have qg1_4 := (hb4.cell (p := ⟨w0.heap.size, 1, none⟩) zg_3).trans qg1_3
  have zg_4 := Nat.lt_of_lt_of_le zg_3 hb4.size
  have qe0_4 := (hb4.cell (p := ⟨w0.heap.size + 1, 0, none⟩) ze_3).trans qe0_3
  have qe1_4 := (hb4.cell (p := ⟨w0.heap.size + 1, 1, none⟩) ze_3).trans qe1_3
  have qe2_4 := (hb4.cell (p := ⟨w0.heap.size + 1, 2, none⟩) ze_3).trans qe2_3
  have ze_4 := Nat.lt_of_lt_of_le ze_3 hb4.size
  have qr0_4 := (hb4.cell (p := ⟨w0.heap.size + 1 + 1, 0, none⟩) zr_3).trans qr0_3
  have frr0_4 := (hb4.frozen (p := ⟨w0.heap.size + 1 + 1, 0, none⟩) zr_3).trans frr0_3
  have qr1_4 := (hb4.cell (p := ⟨w0.heap.size + 1 + 1, 1, none⟩) zr_3).trans qr1_3
  have frr1_4 := (hb4.frozen (p := ⟨w0.heap.size + 1 + 1, 1, none⟩) zr_3).trans frr1_3
  have zr_4 := Nat.lt_of_lt_of_le zr_3 hb4.size
  have R_4 := Lib.hid (R_3.out.keep hb4)
  clear qg0_3 qg1_3 zg_3 qe0_3 qe1_3 qe2_3 ze_3 qr0_3 frr0_3 qr1_3 frr1_3 zr_3 R_3
  go_wp2
  have hold : ∀ w' : World, Below w4.heap.size w4 w' → (w'.cell? ⟨w0.heap.size, 1, none⟩ = some (.slice (some ⟨b, off, none⟩) es.length cap) ∧ w'.cell? ⟨w0.heap.size + 1, 0, none⟩ = some (.int .i64 x) ∧ w'.cell? ⟨w0.heap.size + 1, 1, none⟩ = some (.int .i64 y) ∧ w'.cell? ⟨w0.heap.size + 1, 2, none⟩ = some (.int .i64 z)) := fun w' h => ⟨(h.cell (p := ⟨w0.heap.size, 1, none⟩) zg_4).trans qg1_4, (h.cell (p := ⟨w0.heap.size + 1, 0, none⟩) ze_4).trans qe0_4, (h.cell (p := ⟨w0.heap.size + 1, 1, none⟩) ze_4).trans qe1_4, (h.cell (p := ⟨w0.heap.size + 1, 2, none⟩) ze_4).trans qe2_4⟩
  have HOLD := Lib.hid hold
  clear hold
  have t1 := Lib.hid (T1.out.keep H4)
  have t3 := Lib.hid (T3.out.keep H4)
  go_region_held3 (fun w' : World => w'.cell? ⟨w0.heap.size, 1, none⟩ = some (.slice (some ⟨b, off, none⟩) es.length cap) ∧ w'.cell? ⟨w0.heap.size + 1, 0, none⟩ = some (.int .i64 x) ∧ w'.cell? ⟨w0.heap.size + 1, 1, none⟩ = some (.int .i64 y) ∧ w'.cell? ⟨w0.heap.size + 1, 2, none⟩ = some (.int .i64 z)) (first | exact HOLD.out _ ((Below.refl _ _).drew) | exact HOLD.out _ (((Below.refl _ _).alloc (Nat.le_refl _) _).drew) | exact HOLD.out _ ((((Below.refl _ _).alloc (Nat.le_refl _) _).alloc (by simp) _).drew) | exact HOLD.out _ hb5) (first | (go_at_call 147; refine (concat3 (es.take p) (es.drop q) x y z (.slice (some ⟨b, off, none⟩) p cap) (.slice (some ⟨b, off + q * 3, none⟩) (es.length - q) (cap - q)) w4 t1.out t3.out o1 o3 hT _ _).mono ?_; rintro e w5 ⟨v, rfl, hown, hokv, hb5⟩))
  rw [← HL.out] at hown
  obtain ⟨va, vc, rfl, hvz⟩ := id hown
  clear hvz HOLD t1 t3
  have H5 := bel_trans H4 hb5
  have SZ5 := Lib.hid hb5.size
  have qg0_5 := (hb5.cell (p := ⟨w0.heap.size, 0, none⟩) zg_4).trans qg0_4
  have qg1_5 := (hb5.cell (p := ⟨w0.heap.size, 1, none⟩) zg_4).trans qg1_4
  have zg_5 := Nat.lt_of_lt_of_le zg_4 hb5.size
  have qe0_5 := (hb5.cell (p := ⟨w0.heap.size + 1, 0, none⟩) ze_4).trans qe0_4
  have qe1_5 := (hb5.cell (p := ⟨w0.heap.size + 1, 1, none⟩) ze_4).trans qe1_4
  have qe2_5 := (hb5.cell (p := ⟨w0.heap.size + 1, 2, none⟩) ze_4).trans qe2_4
  have ze_5 := Nat.lt_of_lt_of_le ze_4 hb5.size
  have qr0_5 := (hb5.cell (p := ⟨w0.heap.size + 1 + 1, 0, none⟩) zr_4).trans qr0_4
  have frr0_5 := (hb5.frozen (p := ⟨w0.heap.size + 1 + 1, 0, none⟩) zr_4).trans frr0_4
  have qr1_5 := (hb5.cell (p := ⟨w0.heap.size + 1 + 1, 1, none⟩) zr_4).trans qr1_4
  have frr1_5 := (hb5.frozen (p := ⟨w0.heap.size + 1 + 1, 1, none⟩) zr_4).trans frr1_4
  have zr_5 := Nat.lt_of_lt_of_le zr_4 hb5.size
  have R_5 := Lib.hid (R_4.out.keep hb5)
  have V_5 := Lib.hid hown
  clear hown
  clear qg0_4 qg1_4 zg_4 qe0_4 qe1_4 qe2_4 ze_4 qr0_4 frr0_4 qr1_4 frr1_4 zr_4 R_4
  by_cases h40 : L.length ≤ 40
  rotate_left
  · have h40i : (40 : Int) < L.length := by omega
    have H40 := Lib.hid h40
    clear h40
    go_wp2
    try simp only [Exit.inBlock, Exit.then]
    refine bodyPost_ret (v := .tuple #[.agg #[.int .i64 0, .slice none 0 0], .bool false]) ?_ rfl ?_
    · rw [results_cell_tmp rfl]
      go_simp
    have hch : Chg (w0.heap.size + 2) (w0.heap.size + 3) w5 ((w5.setCell ⟨w0.heap.size + 1 + 1, 0, none⟩ (.int .i64 0)).setCell ⟨w0.heap.size + 1 + 1, 1, none⟩ (.slice none 0 0)) := ((Chg.refl _ _ _).setCell (by simp only; omega) (by simp only; omega) _).setCell (by simp only; omega) (by simp only; omega) _
    refine ⟨.slice none 0 0, by first | rfl | rw [if_neg H40.out, decide_eq_false H40.out], by first | exact ownE_nil _ _ | (rw [if_neg H40.out]; exact ownE_nil _ _), okS_nil, bel_chg H5 hch (by omega)⟩
  have h40i : ¬ ((40 : Int) < L.length) := by omega
  have H40 := Lib.hid h40
  clear h40
  go_wp2
  try simp only [Exit.inBlock, Exit.then]
  refine bodyPost_ret (v := .tuple #[.agg #[.int .i64 n, .slice va L.length vc], .bool true]) ?_ rfl ?_
  · rw [results_cell_tmp rfl]
    go_simp
  have hch : Chg (w0.heap.size + 2) (w0.heap.size + 3) w5 ((w5.setCell ⟨w0.heap.size + 1 + 1, 0, none⟩ (.int .i64 n)).setCell ⟨w0.heap.size + 1 + 1, 1, none⟩ (.slice va L.length vc)) := ((Chg.refl _ _ _).setCell (by simp only; omega) (by simp only; omega) _).setCell (by simp only; omega) (by simp only; omega) _
  refine ⟨.slice va L.length vc, by first | rfl | rw [if_pos H40.out, decide_eq_true H40.out], by first | exact ((V_5.out.chg hch (.inl (by have := ZBr.out; have := SZ4.out; have := SZ3.out; have := SZ2.out; omega))).wider (by have := SZ4.out; have := SZ3.out; have := SZ2.out; have := SZ1.out; omega) (by simp) (Nat.le_refl _)) | (rw [if_pos H40.out]; exact ((V_5.out.chg hch (.inl (by have := ZBr.out; have := SZ4.out; have := SZ3.out; have := SZ2.out; omega))).wider (by have := SZ4.out; have := SZ3.out; have := SZ2.out; have := SZ1.out; omega) (by simp) (Nat.le_refl _))), hokv, bel_chg H5 hch (by omega)⟩

set_option maxRecDepth 100000 in
set_option maxHeartbeats 1000000 in
theorem putCb (n : Int) (es : List Ed) (x y z : Int) (b off p q : Nat) (w : World)
    (HV : Hid (∀ (w : World), RowE w (.slice (some ⟨b, off, none⟩) es.length q) es → Calls Try.prog 45 #[.agg #[.int .i64 n, .slice (some ⟨b, off, none⟩) es.length q]] w fun e w' => e = .returned (.bool true) ∧ Below w.heap.size w w'))
    (HF : Hid (∀ (w : World), Calls Try.prog 67 #[.agg #[.int .i64 n, .slice (some ⟨b, off, none⟩) es.length q], .agg #[.int .i64 x, .int .i64 y, .int .i64 z]] w fun e w' => e = .returned (.bool true) ∧ Below w.heap.size w w'))
    (HE : Hid (∀ (w : World), RowE w (.slice (some ⟨b, off, none⟩) es.length q) es → Calls Try.prog 109 #[.agg #[.int .i64 n, .slice (some ⟨b, off, none⟩) es.length q], .int .i64 x, .int .i64 y] w fun e w' => e = .returned (.tuple #[.int .i64 (p : Int), .bool true]) ∧ Below w.heap.size w w'))
    (R : Hid (InR false w 0 w.heap.size (.slice (some ⟨b, off, none⟩) es.length q) es.length 3 (cellE es))) (T1 : Hid (RowE w (.slice (some ⟨b, off, none⟩) p q) (es.take p))) (T3 : Hid (RowE w (.slice (some ⟨b, off, none⟩) (es.length - q) 0) (es.drop q)))
    (o1 : okS (.slice (some ⟨b, off, none⟩) p q)) (o3 : okS (.slice (some ⟨b, off, none⟩) (es.length - q) 0)) (hT : (es.take p ++ (x, y, z) :: es.drop q).length ≤ 1048576)
    (hp1 : (p : Int) ≤ q) (hq1 : (q : Int) ≤ es.length) (hq3 : (es.length : Int) ≤ q) (hpq : (p : Int) + 1 = q) (hle : es.length ≤ 1048576) :
    Calls Try.prog 146 #[.agg #[.int .i64 n, .slice (some ⟨b, off, none⟩) es.length q], .agg #[.int .i64 x, .int .i64 y, .int .i64 z]] w fun e w' => ∃ v, e = .returned (.tuple #[.agg #[.int .i64 (if (es.take p ++ (x, y, z) :: es.drop q).length ≤ 40 then n else 0), v], .bool (decide ((es.take p ++ (x, y, z) :: es.drop q).length ≤ 40))]) ∧ OwnE w w' v (if (es.take p ++ (x, y, z) :: es.drop q).length ≤ 40 then es.take p ++ (x, y, z) :: es.drop q else []) ∧ okS v ∧ Below w.heap.size w w' := by
  obtain ⟨L, hL⟩ : ∃ L, L = es.take p ++ (x, y, z) :: es.drop q := ⟨_, rfl⟩
  rw [← hL]
  have HL := Lib.hid hL
  clear hL
  obtain ⟨w0, hw0⟩ : ∃ w0, w0 = w := ⟨_, rfl⟩
  subst hw0
  have H0 := Below.refl w0.heap.size w0
  have R_0 := R
  clear R
  go_enter Try.func146, Try.ntmps146
  go_wp2_with fail
  have hb1 : Below w0.heap.size w0 (((w0.alloc (.cells #[.int .i64 n, .slice (some ⟨b, off, none⟩) es.length q] 34)).alloc (.cells #[.int .i64 x, .int .i64 y, .int .i64 z] 49)).alloc (.cells #[.int .i64 0, .slice none 0 0] 34)) := (((Below.refl _ _).alloc (by simp <;> omega) _).alloc (by simp <;> omega) _).alloc (by simp <;> omega) _
  have H1 := bel_trans H0 hb1
  have SZ1 := Lib.hid hb1.size
  have R_1 := Lib.hid (R_0.out.keep hb1)
  have qg0_1 : (((w0.alloc (.cells #[.int .i64 n, .slice (some ⟨b, off, none⟩) es.length q] 34)).alloc (.cells #[.int .i64 x, .int .i64 y, .int .i64 z] 49)).alloc (.cells #[.int .i64 0, .slice none 0 0] 34)).cell? ⟨w0.heap.size, 0, none⟩ = some (.int .i64 n) := by go_simp
  have qg1_1 : (((w0.alloc (.cells #[.int .i64 n, .slice (some ⟨b, off, none⟩) es.length q] 34)).alloc (.cells #[.int .i64 x, .int .i64 y, .int .i64 z] 49)).alloc (.cells #[.int .i64 0, .slice none 0 0] 34)).cell? ⟨w0.heap.size, 1, none⟩ = some (.slice (some ⟨b, off, none⟩) es.length q) := by go_simp
  have zg_1 : w0.heap.size < (((w0.alloc (.cells #[.int .i64 n, .slice (some ⟨b, off, none⟩) es.length q] 34)).alloc (.cells #[.int .i64 x, .int .i64 y, .int .i64 z] 49)).alloc (.cells #[.int .i64 0, .slice none 0 0] 34)).heap.size := by simp <;> omega
  have qe0_1 : (((w0.alloc (.cells #[.int .i64 n, .slice (some ⟨b, off, none⟩) es.length q] 34)).alloc (.cells #[.int .i64 x, .int .i64 y, .int .i64 z] 49)).alloc (.cells #[.int .i64 0, .slice none 0 0] 34)).cell? ⟨w0.heap.size + 1, 0, none⟩ = some (.int .i64 x) := by go_simp
  have qe1_1 : (((w0.alloc (.cells #[.int .i64 n, .slice (some ⟨b, off, none⟩) es.length q] 34)).alloc (.cells #[.int .i64 x, .int .i64 y, .int .i64 z] 49)).alloc (.cells #[.int .i64 0, .slice none 0 0] 34)).cell? ⟨w0.heap.size + 1, 1, none⟩ = some (.int .i64 y) := by go_simp
  have qe2_1 : (((w0.alloc (.cells #[.int .i64 n, .slice (some ⟨b, off, none⟩) es.length q] 34)).alloc (.cells #[.int .i64 x, .int .i64 y, .int .i64 z] 49)).alloc (.cells #[.int .i64 0, .slice none 0 0] 34)).cell? ⟨w0.heap.size + 1, 2, none⟩ = some (.int .i64 z) := by go_simp
  have ze_1 : w0.heap.size + 1 < (((w0.alloc (.cells #[.int .i64 n, .slice (some ⟨b, off, none⟩) es.length q] 34)).alloc (.cells #[.int .i64 x, .int .i64 y, .int .i64 z] 49)).alloc (.cells #[.int .i64 0, .slice none 0 0] 34)).heap.size := by simp <;> omega
  have frr0_1 : (((w0.alloc (.cells #[.int .i64 n, .slice (some ⟨b, off, none⟩) es.length q] 34)).alloc (.cells #[.int .i64 x, .int .i64 y, .int .i64 z] 49)).alloc (.cells #[.int .i64 0, .slice none 0 0] 34)).frozen? ⟨w0.heap.size + 1 + 1, 0, none⟩ = false := by go_simp
  have frr1_1 : (((w0.alloc (.cells #[.int .i64 n, .slice (some ⟨b, off, none⟩) es.length q] 34)).alloc (.cells #[.int .i64 x, .int .i64 y, .int .i64 z] 49)).alloc (.cells #[.int .i64 0, .slice none 0 0] 34)).frozen? ⟨w0.heap.size + 1 + 1, 1, none⟩ = false := by go_simp
  have qr0_1 : (((w0.alloc (.cells #[.int .i64 n, .slice (some ⟨b, off, none⟩) es.length q] 34)).alloc (.cells #[.int .i64 x, .int .i64 y, .int .i64 z] 49)).alloc (.cells #[.int .i64 0, .slice none 0 0] 34)).cell? ⟨w0.heap.size + 1 + 1, 0, none⟩ = some (.int .i64 0) := by go_simp
  have qr1_1 : (((w0.alloc (.cells #[.int .i64 n, .slice (some ⟨b, off, none⟩) es.length q] 34)).alloc (.cells #[.int .i64 x, .int .i64 y, .int .i64 z] 49)).alloc (.cells #[.int .i64 0, .slice none 0 0] 34)).cell? ⟨w0.heap.size + 1 + 1, 1, none⟩ = some (.slice none 0 0) := by go_simp
  have zr_1 : w0.heap.size + 1 + 1 < (((w0.alloc (.cells #[.int .i64 n, .slice (some ⟨b, off, none⟩) es.length q] 34)).alloc (.cells #[.int .i64 x, .int .i64 y, .int .i64 z] 49)).alloc (.cells #[.int .i64 0, .slice none 0 0] 34)).heap.size := by simp <;> omega
  generalize (((w0.alloc (.cells #[.int .i64 n, .slice (some ⟨b, off, none⟩) es.length q] 34)).alloc (.cells #[.int .i64 x, .int .i64 y, .int .i64 z] 49)).alloc (.cells #[.int .i64 0, .slice none 0 0] 34)) = w1 at hb1 H1 SZ1 R_1 frr0_1 frr1_1 qe0_1 qe1_1 qe2_1 qg0_1 qg1_1 qr0_1 qr1_1 ze_1 zg_1 zr_1 ⊢
  have ZBg := Lib.hid zg_1
  have ZBe := Lib.hid ze_1
  have ZBr := Lib.hid zr_1
  clear R_0
  refine (HV.out _ R_1.out.edges).mono ?_
  rintro e w2 ⟨rfl, hb2⟩
  have H2 := bel_trans H1 hb2
  have SZ2 := Lib.hid hb2.size
  have qg0_2 := (hb2.cell (p := ⟨w0.heap.size, 0, none⟩) zg_1).trans qg0_1
  have qg1_2 := (hb2.cell (p := ⟨w0.heap.size, 1, none⟩) zg_1).trans qg1_1
  have zg_2 := Nat.lt_of_lt_of_le zg_1 hb2.size
  have qe0_2 := (hb2.cell (p := ⟨w0.heap.size + 1, 0, none⟩) ze_1).trans qe0_1
  have qe1_2 := (hb2.cell (p := ⟨w0.heap.size + 1, 1, none⟩) ze_1).trans qe1_1
  have qe2_2 := (hb2.cell (p := ⟨w0.heap.size + 1, 2, none⟩) ze_1).trans qe2_1
  have ze_2 := Nat.lt_of_lt_of_le ze_1 hb2.size
  have qr0_2 := (hb2.cell (p := ⟨w0.heap.size + 1 + 1, 0, none⟩) zr_1).trans qr0_1
  have frr0_2 := (hb2.frozen (p := ⟨w0.heap.size + 1 + 1, 0, none⟩) zr_1).trans frr0_1
  have qr1_2 := (hb2.cell (p := ⟨w0.heap.size + 1 + 1, 1, none⟩) zr_1).trans qr1_1
  have frr1_2 := (hb2.frozen (p := ⟨w0.heap.size + 1 + 1, 1, none⟩) zr_1).trans frr1_1
  have zr_2 := Nat.lt_of_lt_of_le zr_1 hb2.size
  have R_2 := Lib.hid (R_1.out.keep hb2)
  clear R_1 qg0_1 qg1_1 zg_1 qe0_1 qe1_1 qe2_1 ze_1 frr0_1 frr1_1 qr0_1 qr1_1 zr_1
  go_wp2_with fail
  refine (HF.out _).mono ?_
  rintro e w3 ⟨rfl, hb3⟩
  have H3 := bel_trans H2 hb3
  have SZ3 := Lib.hid hb3.size
  have qg0_3 := (hb3.cell (p := ⟨w0.heap.size, 0, none⟩) zg_2).trans qg0_2
  have qg1_3 := (hb3.cell (p := ⟨w0.heap.size, 1, none⟩) zg_2).trans qg1_2
  have zg_3 := Nat.lt_of_lt_of_le zg_2 hb3.size
  have qe0_3 := (hb3.cell (p := ⟨w0.heap.size + 1, 0, none⟩) ze_2).trans qe0_2
  have qe1_3 := (hb3.cell (p := ⟨w0.heap.size + 1, 1, none⟩) ze_2).trans qe1_2
  have qe2_3 := (hb3.cell (p := ⟨w0.heap.size + 1, 2, none⟩) ze_2).trans qe2_2
  have ze_3 := Nat.lt_of_lt_of_le ze_2 hb3.size
  have qr0_3 := (hb3.cell (p := ⟨w0.heap.size + 1 + 1, 0, none⟩) zr_2).trans qr0_2
  have frr0_3 := (hb3.frozen (p := ⟨w0.heap.size + 1 + 1, 0, none⟩) zr_2).trans frr0_2
  have qr1_3 := (hb3.cell (p := ⟨w0.heap.size + 1 + 1, 1, none⟩) zr_2).trans qr1_2
  have frr1_3 := (hb3.frozen (p := ⟨w0.heap.size + 1 + 1, 1, none⟩) zr_2).trans frr1_2
  have zr_3 := Nat.lt_of_lt_of_le zr_2 hb3.size
  have R_3 := Lib.hid (R_2.out.keep hb3)
  clear qg0_2 qg1_2 zg_2 qe0_2 qe1_2 qe2_2 ze_2 qr0_2 frr0_2 qr1_2 frr1_2 zr_2 R_2
  go_wp2_with fail
  refine (HE.out _ R_3.out.edges).mono ?_
  rintro e w4 ⟨rfl, hb4⟩
  have H4 := bel_trans H3 hb4
  have SZ4 := Lib.hid hb4.size
  have qg0_4 := (hb4.cell (p := ⟨w0.heap.size, 0, none⟩) zg_3).trans qg0_3
  have qg1_4 := (hb4.cell (p := ⟨w0.heap.size, 1, none⟩) zg_3).trans qg1_3
  have zg_4 := Nat.lt_of_lt_of_le zg_3 hb4.size
  have qe0_4 := (hb4.cell (p := ⟨w0.heap.size + 1, 0, none⟩) ze_3).trans qe0_3
  have qe1_4 := (hb4.cell (p := ⟨w0.heap.size + 1, 1, none⟩) ze_3).trans qe1_3
  have qe2_4 := (hb4.cell (p := ⟨w0.heap.size + 1, 2, none⟩) ze_3).trans qe2_3
  have ze_4 := Nat.lt_of_lt_of_le ze_3 hb4.size
  have qr0_4 := (hb4.cell (p := ⟨w0.heap.size + 1 + 1, 0, none⟩) zr_3).trans qr0_3
  have frr0_4 := (hb4.frozen (p := ⟨w0.heap.size + 1 + 1, 0, none⟩) zr_3).trans frr0_3
  have qr1_4 := (hb4.cell (p := ⟨w0.heap.size + 1 + 1, 1, none⟩) zr_3).trans qr1_3
  have frr1_4 := (hb4.frozen (p := ⟨w0.heap.size + 1 + 1, 1, none⟩) zr_3).trans frr1_3
  have zr_4 := Nat.lt_of_lt_of_le zr_3 hb4.size
  have R_4 := Lib.hid (R_3.out.keep hb4)
  clear qg0_3 qg1_3 zg_3 qe0_3 qe1_3 qe2_3 ze_3 qr0_3 frr0_3 qr1_3 frr1_3 zr_3 R_3
  go_wp2
  have hold : ∀ w' : World, Below w4.heap.size w4 w' → (w'.cell? ⟨w0.heap.size, 1, none⟩ = some (.slice (some ⟨b, off, none⟩) es.length q) ∧ w'.cell? ⟨w0.heap.size + 1, 0, none⟩ = some (.int .i64 x) ∧ w'.cell? ⟨w0.heap.size + 1, 1, none⟩ = some (.int .i64 y) ∧ w'.cell? ⟨w0.heap.size + 1, 2, none⟩ = some (.int .i64 z)) := fun w' h => ⟨(h.cell (p := ⟨w0.heap.size, 1, none⟩) zg_4).trans qg1_4, (h.cell (p := ⟨w0.heap.size + 1, 0, none⟩) ze_4).trans qe0_4, (h.cell (p := ⟨w0.heap.size + 1, 1, none⟩) ze_4).trans qe1_4, (h.cell (p := ⟨w0.heap.size + 1, 2, none⟩) ze_4).trans qe2_4⟩
  have HOLD := Lib.hid hold
  clear hold
  have t1 := Lib.hid (T1.out.keep H4)
  have t3 := Lib.hid (T3.out.keep H4)
  go_region_held3 (fun w' : World => w'.cell? ⟨w0.heap.size, 1, none⟩ = some (.slice (some ⟨b, off, none⟩) es.length q) ∧ w'.cell? ⟨w0.heap.size + 1, 0, none⟩ = some (.int .i64 x) ∧ w'.cell? ⟨w0.heap.size + 1, 1, none⟩ = some (.int .i64 y) ∧ w'.cell? ⟨w0.heap.size + 1, 2, none⟩ = some (.int .i64 z)) (first | exact HOLD.out _ ((Below.refl _ _).drew) | exact HOLD.out _ (((Below.refl _ _).alloc (Nat.le_refl _) _).drew) | exact HOLD.out _ ((((Below.refl _ _).alloc (Nat.le_refl _) _).alloc (by simp) _).drew) | exact HOLD.out _ hb5) (first | (go_at_call 147; refine (concat3 (es.take p) (es.drop q) x y z (.slice (some ⟨b, off, none⟩) p q) (.slice (some ⟨b, off, none⟩) (es.length - q) 0) w4 t1.out t3.out o1 o3 hT _ _).mono ?_; rintro e w5 ⟨v, rfl, hown, hokv, hb5⟩))
  rw [← HL.out] at hown
  obtain ⟨va, vc, rfl, hvz⟩ := id hown
  clear hvz HOLD t1 t3
  have H5 := bel_trans H4 hb5
  have SZ5 := Lib.hid hb5.size
  have qg0_5 := (hb5.cell (p := ⟨w0.heap.size, 0, none⟩) zg_4).trans qg0_4
  have qg1_5 := (hb5.cell (p := ⟨w0.heap.size, 1, none⟩) zg_4).trans qg1_4
  have zg_5 := Nat.lt_of_lt_of_le zg_4 hb5.size
  have qe0_5 := (hb5.cell (p := ⟨w0.heap.size + 1, 0, none⟩) ze_4).trans qe0_4
  have qe1_5 := (hb5.cell (p := ⟨w0.heap.size + 1, 1, none⟩) ze_4).trans qe1_4
  have qe2_5 := (hb5.cell (p := ⟨w0.heap.size + 1, 2, none⟩) ze_4).trans qe2_4
  have ze_5 := Nat.lt_of_lt_of_le ze_4 hb5.size
  have qr0_5 := (hb5.cell (p := ⟨w0.heap.size + 1 + 1, 0, none⟩) zr_4).trans qr0_4
  have frr0_5 := (hb5.frozen (p := ⟨w0.heap.size + 1 + 1, 0, none⟩) zr_4).trans frr0_4
  have qr1_5 := (hb5.cell (p := ⟨w0.heap.size + 1 + 1, 1, none⟩) zr_4).trans qr1_4
  have frr1_5 := (hb5.frozen (p := ⟨w0.heap.size + 1 + 1, 1, none⟩) zr_4).trans frr1_4
  have zr_5 := Nat.lt_of_lt_of_le zr_4 hb5.size
  have R_5 := Lib.hid (R_4.out.keep hb5)
  have V_5 := Lib.hid hown
  clear hown
  clear qg0_4 qg1_4 zg_4 qe0_4 qe1_4 qe2_4 ze_4 qr0_4 frr0_4 qr1_4 frr1_4 zr_4 R_4
  by_cases h40 : L.length ≤ 40
  rotate_left
  · have h40i : (40 : Int) < L.length := by omega
    have H40 := Lib.hid h40
    clear h40
    go_wp2
    try simp only [Exit.inBlock, Exit.then]
    refine bodyPost_ret (v := .tuple #[.agg #[.int .i64 0, .slice none 0 0], .bool false]) ?_ rfl ?_
    · rw [results_cell_tmp rfl]
      go_simp
    have hch : Chg (w0.heap.size + 2) (w0.heap.size + 3) w5 ((w5.setCell ⟨w0.heap.size + 1 + 1, 0, none⟩ (.int .i64 0)).setCell ⟨w0.heap.size + 1 + 1, 1, none⟩ (.slice none 0 0)) := ((Chg.refl _ _ _).setCell (by simp only; omega) (by simp only; omega) _).setCell (by simp only; omega) (by simp only; omega) _
    refine ⟨.slice none 0 0, by first | rfl | rw [if_neg H40.out, decide_eq_false H40.out], by first | exact ownE_nil _ _ | (rw [if_neg H40.out]; exact ownE_nil _ _), okS_nil, bel_chg H5 hch (by omega)⟩
  have h40i : ¬ ((40 : Int) < L.length) := by omega
  have H40 := Lib.hid h40
  clear h40
  go_wp2
  try simp only [Exit.inBlock, Exit.then]
  refine bodyPost_ret (v := .tuple #[.agg #[.int .i64 n, .slice va L.length vc], .bool true]) ?_ rfl ?_
  · rw [results_cell_tmp rfl]
    go_simp
  have hch : Chg (w0.heap.size + 2) (w0.heap.size + 3) w5 ((w5.setCell ⟨w0.heap.size + 1 + 1, 0, none⟩ (.int .i64 n)).setCell ⟨w0.heap.size + 1 + 1, 1, none⟩ (.slice va L.length vc)) := ((Chg.refl _ _ _).setCell (by simp only; omega) (by simp only; omega) _).setCell (by simp only; omega) (by simp only; omega) _
  refine ⟨.slice va L.length vc, by first | rfl | rw [if_pos H40.out, decide_eq_true H40.out], by first | exact ((V_5.out.chg hch (.inl (by have := ZBr.out; have := SZ4.out; have := SZ3.out; have := SZ2.out; omega))).wider (by have := SZ4.out; have := SZ3.out; have := SZ2.out; have := SZ1.out; omega) (by simp) (Nat.le_refl _)) | (rw [if_pos H40.out]; exact ((V_5.out.chg hch (.inl (by have := ZBr.out; have := SZ4.out; have := SZ3.out; have := SZ2.out; omega))).wider (by have := SZ4.out; have := SZ3.out; have := SZ2.out; have := SZ1.out; omega) (by simp) (Nat.le_refl _))), hokv, bel_chg H5 hch (by omega)⟩

set_option maxRecDepth 100000 in
set_option maxHeartbeats 1000000 in
theorem putCc (n : Int) (es : List Ed) (x y z : Int) (b off p cap : Nat) (w : World)
    (HV : Hid (∀ (w : World), RowE w (.slice (some ⟨b, off, none⟩) es.length cap) es → Calls Try.prog 45 #[.agg #[.int .i64 n, .slice (some ⟨b, off, none⟩) es.length cap]] w fun e w' => e = .returned (.bool true) ∧ Below w.heap.size w w'))
    (HF : Hid (∀ (w : World), Calls Try.prog 67 #[.agg #[.int .i64 n, .slice (some ⟨b, off, none⟩) es.length cap], .agg #[.int .i64 x, .int .i64 y, .int .i64 z]] w fun e w' => e = .returned (.bool true) ∧ Below w.heap.size w w'))
    (HE : Hid (∀ (w : World), RowE w (.slice (some ⟨b, off, none⟩) es.length cap) es → Calls Try.prog 109 #[.agg #[.int .i64 n, .slice (some ⟨b, off, none⟩) es.length cap], .int .i64 x, .int .i64 y] w fun e w' => e = .returned (.tuple #[.int .i64 (p : Int), .bool false]) ∧ Below w.heap.size w w'))
    (R : Hid (InR false w 0 w.heap.size (.slice (some ⟨b, off, none⟩) es.length cap) es.length 3 (cellE es))) (T1 : Hid (RowE w (.slice (some ⟨b, off, none⟩) p cap) (es.take p))) (T3 : Hid (RowE w (.slice (some ⟨b, off + p * 3, none⟩) (es.length - p) (cap - p)) (es.drop p)))
    (o1 : okS (.slice (some ⟨b, off, none⟩) p cap)) (o3 : okS (.slice (some ⟨b, off + p * 3, none⟩) (es.length - p) (cap - p))) (hT : (es.take p ++ (x, y, z) :: es.drop p).length ≤ 1048576)
    (hp1 : (p : Int) ≤ cap) (hq1 : (p : Int) ≤ es.length) (hq3 : (es.length : Int) ≤ cap) (hle : es.length ≤ 1048576) (hcq : ¬ cap = p) :
    Calls Try.prog 146 #[.agg #[.int .i64 n, .slice (some ⟨b, off, none⟩) es.length cap], .agg #[.int .i64 x, .int .i64 y, .int .i64 z]] w fun e w' => ∃ v, e = .returned (.tuple #[.agg #[.int .i64 (if (es.take p ++ (x, y, z) :: es.drop p).length ≤ 40 then n else 0), v], .bool (decide ((es.take p ++ (x, y, z) :: es.drop p).length ≤ 40))]) ∧ OwnE w w' v (if (es.take p ++ (x, y, z) :: es.drop p).length ≤ 40 then es.take p ++ (x, y, z) :: es.drop p else []) ∧ okS v ∧ Below w.heap.size w w' := by
  obtain ⟨L, hL⟩ : ∃ L, L = es.take p ++ (x, y, z) :: es.drop p := ⟨_, rfl⟩
  rw [← hL]
  have HL := Lib.hid hL
  clear hL
  obtain ⟨w0, hw0⟩ : ∃ w0, w0 = w := ⟨_, rfl⟩
  subst hw0
  have H0 := Below.refl w0.heap.size w0
  have R_0 := R
  clear R
  go_enter Try.func146, Try.ntmps146
  go_wp2_with fail
  have hb1 : Below w0.heap.size w0 (((w0.alloc (.cells #[.int .i64 n, .slice (some ⟨b, off, none⟩) es.length cap] 34)).alloc (.cells #[.int .i64 x, .int .i64 y, .int .i64 z] 49)).alloc (.cells #[.int .i64 0, .slice none 0 0] 34)) := (((Below.refl _ _).alloc (by simp <;> omega) _).alloc (by simp <;> omega) _).alloc (by simp <;> omega) _
  have H1 := bel_trans H0 hb1
  have SZ1 := Lib.hid hb1.size
  have R_1 := Lib.hid (R_0.out.keep hb1)
  have qg0_1 : (((w0.alloc (.cells #[.int .i64 n, .slice (some ⟨b, off, none⟩) es.length cap] 34)).alloc (.cells #[.int .i64 x, .int .i64 y, .int .i64 z] 49)).alloc (.cells #[.int .i64 0, .slice none 0 0] 34)).cell? ⟨w0.heap.size, 0, none⟩ = some (.int .i64 n) := by go_simp
  have qg1_1 : (((w0.alloc (.cells #[.int .i64 n, .slice (some ⟨b, off, none⟩) es.length cap] 34)).alloc (.cells #[.int .i64 x, .int .i64 y, .int .i64 z] 49)).alloc (.cells #[.int .i64 0, .slice none 0 0] 34)).cell? ⟨w0.heap.size, 1, none⟩ = some (.slice (some ⟨b, off, none⟩) es.length cap) := by go_simp
  have zg_1 : w0.heap.size < (((w0.alloc (.cells #[.int .i64 n, .slice (some ⟨b, off, none⟩) es.length cap] 34)).alloc (.cells #[.int .i64 x, .int .i64 y, .int .i64 z] 49)).alloc (.cells #[.int .i64 0, .slice none 0 0] 34)).heap.size := by simp <;> omega
  have qe0_1 : (((w0.alloc (.cells #[.int .i64 n, .slice (some ⟨b, off, none⟩) es.length cap] 34)).alloc (.cells #[.int .i64 x, .int .i64 y, .int .i64 z] 49)).alloc (.cells #[.int .i64 0, .slice none 0 0] 34)).cell? ⟨w0.heap.size + 1, 0, none⟩ = some (.int .i64 x) := by go_simp
  have qe1_1 : (((w0.alloc (.cells #[.int .i64 n, .slice (some ⟨b, off, none⟩) es.length cap] 34)).alloc (.cells #[.int .i64 x, .int .i64 y, .int .i64 z] 49)).alloc (.cells #[.int .i64 0, .slice none 0 0] 34)).cell? ⟨w0.heap.size + 1, 1, none⟩ = some (.int .i64 y) := by go_simp
  have qe2_1 : (((w0.alloc (.cells #[.int .i64 n, .slice (some ⟨b, off, none⟩) es.length cap] 34)).alloc (.cells #[.int .i64 x, .int .i64 y, .int .i64 z] 49)).alloc (.cells #[.int .i64 0, .slice none 0 0] 34)).cell? ⟨w0.heap.size + 1, 2, none⟩ = some (.int .i64 z) := by go_simp
  have ze_1 : w0.heap.size + 1 < (((w0.alloc (.cells #[.int .i64 n, .slice (some ⟨b, off, none⟩) es.length cap] 34)).alloc (.cells #[.int .i64 x, .int .i64 y, .int .i64 z] 49)).alloc (.cells #[.int .i64 0, .slice none 0 0] 34)).heap.size := by simp <;> omega
  have frr0_1 : (((w0.alloc (.cells #[.int .i64 n, .slice (some ⟨b, off, none⟩) es.length cap] 34)).alloc (.cells #[.int .i64 x, .int .i64 y, .int .i64 z] 49)).alloc (.cells #[.int .i64 0, .slice none 0 0] 34)).frozen? ⟨w0.heap.size + 1 + 1, 0, none⟩ = false := by go_simp
  have frr1_1 : (((w0.alloc (.cells #[.int .i64 n, .slice (some ⟨b, off, none⟩) es.length cap] 34)).alloc (.cells #[.int .i64 x, .int .i64 y, .int .i64 z] 49)).alloc (.cells #[.int .i64 0, .slice none 0 0] 34)).frozen? ⟨w0.heap.size + 1 + 1, 1, none⟩ = false := by go_simp
  have qr0_1 : (((w0.alloc (.cells #[.int .i64 n, .slice (some ⟨b, off, none⟩) es.length cap] 34)).alloc (.cells #[.int .i64 x, .int .i64 y, .int .i64 z] 49)).alloc (.cells #[.int .i64 0, .slice none 0 0] 34)).cell? ⟨w0.heap.size + 1 + 1, 0, none⟩ = some (.int .i64 0) := by go_simp
  have qr1_1 : (((w0.alloc (.cells #[.int .i64 n, .slice (some ⟨b, off, none⟩) es.length cap] 34)).alloc (.cells #[.int .i64 x, .int .i64 y, .int .i64 z] 49)).alloc (.cells #[.int .i64 0, .slice none 0 0] 34)).cell? ⟨w0.heap.size + 1 + 1, 1, none⟩ = some (.slice none 0 0) := by go_simp
  have zr_1 : w0.heap.size + 1 + 1 < (((w0.alloc (.cells #[.int .i64 n, .slice (some ⟨b, off, none⟩) es.length cap] 34)).alloc (.cells #[.int .i64 x, .int .i64 y, .int .i64 z] 49)).alloc (.cells #[.int .i64 0, .slice none 0 0] 34)).heap.size := by simp <;> omega
  generalize (((w0.alloc (.cells #[.int .i64 n, .slice (some ⟨b, off, none⟩) es.length cap] 34)).alloc (.cells #[.int .i64 x, .int .i64 y, .int .i64 z] 49)).alloc (.cells #[.int .i64 0, .slice none 0 0] 34)) = w1 at hb1 H1 SZ1 R_1 frr0_1 frr1_1 qe0_1 qe1_1 qe2_1 qg0_1 qg1_1 qr0_1 qr1_1 ze_1 zg_1 zr_1 ⊢
  have ZBg := Lib.hid zg_1
  have ZBe := Lib.hid ze_1
  have ZBr := Lib.hid zr_1
  clear R_0
  refine (HV.out _ R_1.out.edges).mono ?_
  rintro e w2 ⟨rfl, hb2⟩
  have H2 := bel_trans H1 hb2
  have SZ2 := Lib.hid hb2.size
  have qg0_2 := (hb2.cell (p := ⟨w0.heap.size, 0, none⟩) zg_1).trans qg0_1
  have qg1_2 := (hb2.cell (p := ⟨w0.heap.size, 1, none⟩) zg_1).trans qg1_1
  have zg_2 := Nat.lt_of_lt_of_le zg_1 hb2.size
  have qe0_2 := (hb2.cell (p := ⟨w0.heap.size + 1, 0, none⟩) ze_1).trans qe0_1
  have qe1_2 := (hb2.cell (p := ⟨w0.heap.size + 1, 1, none⟩) ze_1).trans qe1_1
  have qe2_2 := (hb2.cell (p := ⟨w0.heap.size + 1, 2, none⟩) ze_1).trans qe2_1
  have ze_2 := Nat.lt_of_lt_of_le ze_1 hb2.size
  have qr0_2 := (hb2.cell (p := ⟨w0.heap.size + 1 + 1, 0, none⟩) zr_1).trans qr0_1
  have frr0_2 := (hb2.frozen (p := ⟨w0.heap.size + 1 + 1, 0, none⟩) zr_1).trans frr0_1
  have qr1_2 := (hb2.cell (p := ⟨w0.heap.size + 1 + 1, 1, none⟩) zr_1).trans qr1_1
  have frr1_2 := (hb2.frozen (p := ⟨w0.heap.size + 1 + 1, 1, none⟩) zr_1).trans frr1_1
  have zr_2 := Nat.lt_of_lt_of_le zr_1 hb2.size
  have R_2 := Lib.hid (R_1.out.keep hb2)
  clear R_1 qg0_1 qg1_1 zg_1 qe0_1 qe1_1 qe2_1 ze_1 frr0_1 frr1_1 qr0_1 qr1_1 zr_1
  go_wp2_with fail
  refine (HF.out _).mono ?_
  rintro e w3 ⟨rfl, hb3⟩
  have H3 := bel_trans H2 hb3
  have SZ3 := Lib.hid hb3.size
  have qg0_3 := (hb3.cell (p := ⟨w0.heap.size, 0, none⟩) zg_2).trans qg0_2
  have qg1_3 := (hb3.cell (p := ⟨w0.heap.size, 1, none⟩) zg_2).trans qg1_2
  have zg_3 := Nat.lt_of_lt_of_le zg_2 hb3.size
  have qe0_3 := (hb3.cell (p := ⟨w0.heap.size + 1, 0, none⟩) ze_2).trans qe0_2
  have qe1_3 := (hb3.cell (p := ⟨w0.heap.size + 1, 1, none⟩) ze_2).trans qe1_2
  have qe2_3 := (hb3.cell (p := ⟨w0.heap.size + 1, 2, none⟩) ze_2).trans qe2_2
  have ze_3 := Nat.lt_of_lt_of_le ze_2 hb3.size
  have qr0_3 := (hb3.cell (p := ⟨w0.heap.size + 1 + 1, 0, none⟩) zr_2).trans qr0_2
  have frr0_3 := (hb3.frozen (p := ⟨w0.heap.size + 1 + 1, 0, none⟩) zr_2).trans frr0_2
  have qr1_3 := (hb3.cell (p := ⟨w0.heap.size + 1 + 1, 1, none⟩) zr_2).trans qr1_2
  have frr1_3 := (hb3.frozen (p := ⟨w0.heap.size + 1 + 1, 1, none⟩) zr_2).trans frr1_2
  have zr_3 := Nat.lt_of_lt_of_le zr_2 hb3.size
  have R_3 := Lib.hid (R_2.out.keep hb3)
  clear qg0_2 qg1_2 zg_2 qe0_2 qe1_2 qe2_2 ze_2 qr0_2 frr0_2 qr1_2 frr1_2 zr_2 R_2
  go_wp2_with fail
  refine (HE.out _ R_3.out.edges).mono ?_
  rintro e w4 ⟨rfl, hb4⟩
  have H4 := bel_trans H3 hb4
  have SZ4 := Lib.hid hb4.size
  have qg0_4 := (hb4.cell (p := ⟨w0.heap.size, 0, none⟩) zg_3).trans qg0_3
  have qg1_4 := (hb4.cell (p := ⟨w0.heap.size, 1, none⟩) zg_3).trans qg1_3
  have zg_4 := Nat.lt_of_lt_of_le zg_3 hb4.size
  have qe0_4 := (hb4.cell (p := ⟨w0.heap.size + 1, 0, none⟩) ze_3).trans qe0_3
  have qe1_4 := (hb4.cell (p := ⟨w0.heap.size + 1, 1, none⟩) ze_3).trans qe1_3
  have qe2_4 := (hb4.cell (p := ⟨w0.heap.size + 1, 2, none⟩) ze_3).trans qe2_3
  have ze_4 := Nat.lt_of_lt_of_le ze_3 hb4.size
  have qr0_4 := (hb4.cell (p := ⟨w0.heap.size + 1 + 1, 0, none⟩) zr_3).trans qr0_3
  have frr0_4 := (hb4.frozen (p := ⟨w0.heap.size + 1 + 1, 0, none⟩) zr_3).trans frr0_3
  have qr1_4 := (hb4.cell (p := ⟨w0.heap.size + 1 + 1, 1, none⟩) zr_3).trans qr1_3
  have frr1_4 := (hb4.frozen (p := ⟨w0.heap.size + 1 + 1, 1, none⟩) zr_3).trans frr1_3
  have zr_4 := Nat.lt_of_lt_of_le zr_3 hb4.size
  have R_4 := Lib.hid (R_3.out.keep hb4)
  clear qg0_3 qg1_3 zg_3 qe0_3 qe1_3 qe2_3 ze_3 qr0_3 frr0_3 qr1_3 frr1_3 zr_3 R_3
  go_wp2
  have hold : ∀ w' : World, Below w4.heap.size w4 w' → (w'.cell? ⟨w0.heap.size, 1, none⟩ = some (.slice (some ⟨b, off, none⟩) es.length cap) ∧ w'.cell? ⟨w0.heap.size + 1, 0, none⟩ = some (.int .i64 x) ∧ w'.cell? ⟨w0.heap.size + 1, 1, none⟩ = some (.int .i64 y) ∧ w'.cell? ⟨w0.heap.size + 1, 2, none⟩ = some (.int .i64 z)) := fun w' h => ⟨(h.cell (p := ⟨w0.heap.size, 1, none⟩) zg_4).trans qg1_4, (h.cell (p := ⟨w0.heap.size + 1, 0, none⟩) ze_4).trans qe0_4, (h.cell (p := ⟨w0.heap.size + 1, 1, none⟩) ze_4).trans qe1_4, (h.cell (p := ⟨w0.heap.size + 1, 2, none⟩) ze_4).trans qe2_4⟩
  have HOLD := Lib.hid hold
  clear hold
  have t1 := Lib.hid (T1.out.keep H4)
  have t3 := Lib.hid (T3.out.keep H4)
  go_region_held3 (fun w' : World => w'.cell? ⟨w0.heap.size, 1, none⟩ = some (.slice (some ⟨b, off, none⟩) es.length cap) ∧ w'.cell? ⟨w0.heap.size + 1, 0, none⟩ = some (.int .i64 x) ∧ w'.cell? ⟨w0.heap.size + 1, 1, none⟩ = some (.int .i64 y) ∧ w'.cell? ⟨w0.heap.size + 1, 2, none⟩ = some (.int .i64 z)) (first | exact HOLD.out _ ((Below.refl _ _).drew) | exact HOLD.out _ (((Below.refl _ _).alloc (Nat.le_refl _) _).drew) | exact HOLD.out _ ((((Below.refl _ _).alloc (Nat.le_refl _) _).alloc (by simp) _).drew) | exact HOLD.out _ hb5) (first | (go_at_call 147; refine (concat3 (es.take p) (es.drop p) x y z (.slice (some ⟨b, off, none⟩) p cap) (.slice (some ⟨b, off + p * 3, none⟩) (es.length - p) (cap - p)) w4 t1.out t3.out o1 o3 hT _ _).mono ?_; rintro e w5 ⟨v, rfl, hown, hokv, hb5⟩))
  rw [← HL.out] at hown
  obtain ⟨va, vc, rfl, hvz⟩ := id hown
  clear hvz HOLD t1 t3
  have H5 := bel_trans H4 hb5
  have SZ5 := Lib.hid hb5.size
  have qg0_5 := (hb5.cell (p := ⟨w0.heap.size, 0, none⟩) zg_4).trans qg0_4
  have qg1_5 := (hb5.cell (p := ⟨w0.heap.size, 1, none⟩) zg_4).trans qg1_4
  have zg_5 := Nat.lt_of_lt_of_le zg_4 hb5.size
  have qe0_5 := (hb5.cell (p := ⟨w0.heap.size + 1, 0, none⟩) ze_4).trans qe0_4
  have qe1_5 := (hb5.cell (p := ⟨w0.heap.size + 1, 1, none⟩) ze_4).trans qe1_4
  have qe2_5 := (hb5.cell (p := ⟨w0.heap.size + 1, 2, none⟩) ze_4).trans qe2_4
  have ze_5 := Nat.lt_of_lt_of_le ze_4 hb5.size
  have qr0_5 := (hb5.cell (p := ⟨w0.heap.size + 1 + 1, 0, none⟩) zr_4).trans qr0_4
  have frr0_5 := (hb5.frozen (p := ⟨w0.heap.size + 1 + 1, 0, none⟩) zr_4).trans frr0_4
  have qr1_5 := (hb5.cell (p := ⟨w0.heap.size + 1 + 1, 1, none⟩) zr_4).trans qr1_4
  have frr1_5 := (hb5.frozen (p := ⟨w0.heap.size + 1 + 1, 1, none⟩) zr_4).trans frr1_4
  have zr_5 := Nat.lt_of_lt_of_le zr_4 hb5.size
  have R_5 := Lib.hid (R_4.out.keep hb5)
  have V_5 := Lib.hid hown
  clear hown
  clear qg0_4 qg1_4 zg_4 qe0_4 qe1_4 qe2_4 ze_4 qr0_4 frr0_4 qr1_4 frr1_4 zr_4 R_4
  by_cases h40 : L.length ≤ 40
  rotate_left
  · have h40i : (40 : Int) < L.length := by omega
    have H40 := Lib.hid h40
    clear h40
    go_wp2
    try simp only [Exit.inBlock, Exit.then]
    refine bodyPost_ret (v := .tuple #[.agg #[.int .i64 0, .slice none 0 0], .bool false]) ?_ rfl ?_
    · rw [results_cell_tmp rfl]
      go_simp
    have hch : Chg (w0.heap.size + 2) (w0.heap.size + 3) w5 ((w5.setCell ⟨w0.heap.size + 1 + 1, 0, none⟩ (.int .i64 0)).setCell ⟨w0.heap.size + 1 + 1, 1, none⟩ (.slice none 0 0)) := ((Chg.refl _ _ _).setCell (by simp only; omega) (by simp only; omega) _).setCell (by simp only; omega) (by simp only; omega) _
    refine ⟨.slice none 0 0, by first | rfl | rw [if_neg H40.out, decide_eq_false H40.out], by first | exact ownE_nil _ _ | (rw [if_neg H40.out]; exact ownE_nil _ _), okS_nil, bel_chg H5 hch (by omega)⟩
  have h40i : ¬ ((40 : Int) < L.length) := by omega
  have H40 := Lib.hid h40
  clear h40
  go_wp2
  try simp only [Exit.inBlock, Exit.then]
  refine bodyPost_ret (v := .tuple #[.agg #[.int .i64 n, .slice va L.length vc], .bool true]) ?_ rfl ?_
  · rw [results_cell_tmp rfl]
    go_simp
  have hch : Chg (w0.heap.size + 2) (w0.heap.size + 3) w5 ((w5.setCell ⟨w0.heap.size + 1 + 1, 0, none⟩ (.int .i64 n)).setCell ⟨w0.heap.size + 1 + 1, 1, none⟩ (.slice va L.length vc)) := ((Chg.refl _ _ _).setCell (by simp only; omega) (by simp only; omega) _).setCell (by simp only; omega) (by simp only; omega) _
  refine ⟨.slice va L.length vc, by first | rfl | rw [if_pos H40.out, decide_eq_true H40.out], by first | exact ((V_5.out.chg hch (.inl (by have := ZBr.out; have := SZ4.out; have := SZ3.out; have := SZ2.out; omega))).wider (by have := SZ4.out; have := SZ3.out; have := SZ2.out; have := SZ1.out; omega) (by simp) (Nat.le_refl _)) | (rw [if_pos H40.out]; exact ((V_5.out.chg hch (.inl (by have := ZBr.out; have := SZ4.out; have := SZ3.out; have := SZ2.out; omega))).wider (by have := SZ4.out; have := SZ3.out; have := SZ2.out; have := SZ1.out; omega) (by simp) (Nat.le_refl _))), hokv, bel_chg H5 hch (by omega)⟩

set_option maxRecDepth 100000 in
set_option maxHeartbeats 1000000 in
theorem putCd (n : Int) (es : List Ed) (x y z : Int) (b off p : Nat) (w : World)
    (HV : Hid (∀ (w : World), RowE w (.slice (some ⟨b, off, none⟩) es.length p) es → Calls Try.prog 45 #[.agg #[.int .i64 n, .slice (some ⟨b, off, none⟩) es.length p]] w fun e w' => e = .returned (.bool true) ∧ Below w.heap.size w w'))
    (HF : Hid (∀ (w : World), Calls Try.prog 67 #[.agg #[.int .i64 n, .slice (some ⟨b, off, none⟩) es.length p], .agg #[.int .i64 x, .int .i64 y, .int .i64 z]] w fun e w' => e = .returned (.bool true) ∧ Below w.heap.size w w'))
    (HE : Hid (∀ (w : World), RowE w (.slice (some ⟨b, off, none⟩) es.length p) es → Calls Try.prog 109 #[.agg #[.int .i64 n, .slice (some ⟨b, off, none⟩) es.length p], .int .i64 x, .int .i64 y] w fun e w' => e = .returned (.tuple #[.int .i64 (p : Int), .bool false]) ∧ Below w.heap.size w w'))
    (R : Hid (InR false w 0 w.heap.size (.slice (some ⟨b, off, none⟩) es.length p) es.length 3 (cellE es))) (T1 : Hid (RowE w (.slice (some ⟨b, off, none⟩) p p) (es.take p))) (T3 : Hid (RowE w (.slice (some ⟨b, off, none⟩) (es.length - p) 0) (es.drop p)))
    (o1 : okS (.slice (some ⟨b, off, none⟩) p p)) (o3 : okS (.slice (some ⟨b, off, none⟩) (es.length - p) 0)) (hT : (es.take p ++ (x, y, z) :: es.drop p).length ≤ 1048576)
     (hq1 : (p : Int) ≤ es.length) (hq3 : (es.length : Int) ≤ p) (hle : es.length ≤ 1048576) :
    Calls Try.prog 146 #[.agg #[.int .i64 n, .slice (some ⟨b, off, none⟩) es.length p], .agg #[.int .i64 x, .int .i64 y, .int .i64 z]] w fun e w' => ∃ v, e = .returned (.tuple #[.agg #[.int .i64 (if (es.take p ++ (x, y, z) :: es.drop p).length ≤ 40 then n else 0), v], .bool (decide ((es.take p ++ (x, y, z) :: es.drop p).length ≤ 40))]) ∧ OwnE w w' v (if (es.take p ++ (x, y, z) :: es.drop p).length ≤ 40 then es.take p ++ (x, y, z) :: es.drop p else []) ∧ okS v ∧ Below w.heap.size w w' := by
  obtain ⟨L, hL⟩ : ∃ L, L = es.take p ++ (x, y, z) :: es.drop p := ⟨_, rfl⟩
  rw [← hL]
  have HL := Lib.hid hL
  clear hL
  obtain ⟨w0, hw0⟩ : ∃ w0, w0 = w := ⟨_, rfl⟩
  subst hw0
  have H0 := Below.refl w0.heap.size w0
  have R_0 := R
  clear R
  go_enter Try.func146, Try.ntmps146
  go_wp2_with fail
  have hb1 : Below w0.heap.size w0 (((w0.alloc (.cells #[.int .i64 n, .slice (some ⟨b, off, none⟩) es.length p] 34)).alloc (.cells #[.int .i64 x, .int .i64 y, .int .i64 z] 49)).alloc (.cells #[.int .i64 0, .slice none 0 0] 34)) := (((Below.refl _ _).alloc (by simp <;> omega) _).alloc (by simp <;> omega) _).alloc (by simp <;> omega) _
  have H1 := bel_trans H0 hb1
  have SZ1 := Lib.hid hb1.size
  have R_1 := Lib.hid (R_0.out.keep hb1)
  have qg0_1 : (((w0.alloc (.cells #[.int .i64 n, .slice (some ⟨b, off, none⟩) es.length p] 34)).alloc (.cells #[.int .i64 x, .int .i64 y, .int .i64 z] 49)).alloc (.cells #[.int .i64 0, .slice none 0 0] 34)).cell? ⟨w0.heap.size, 0, none⟩ = some (.int .i64 n) := by go_simp
  have qg1_1 : (((w0.alloc (.cells #[.int .i64 n, .slice (some ⟨b, off, none⟩) es.length p] 34)).alloc (.cells #[.int .i64 x, .int .i64 y, .int .i64 z] 49)).alloc (.cells #[.int .i64 0, .slice none 0 0] 34)).cell? ⟨w0.heap.size, 1, none⟩ = some (.slice (some ⟨b, off, none⟩) es.length p) := by go_simp
  have zg_1 : w0.heap.size < (((w0.alloc (.cells #[.int .i64 n, .slice (some ⟨b, off, none⟩) es.length p] 34)).alloc (.cells #[.int .i64 x, .int .i64 y, .int .i64 z] 49)).alloc (.cells #[.int .i64 0, .slice none 0 0] 34)).heap.size := by simp <;> omega
  have qe0_1 : (((w0.alloc (.cells #[.int .i64 n, .slice (some ⟨b, off, none⟩) es.length p] 34)).alloc (.cells #[.int .i64 x, .int .i64 y, .int .i64 z] 49)).alloc (.cells #[.int .i64 0, .slice none 0 0] 34)).cell? ⟨w0.heap.size + 1, 0, none⟩ = some (.int .i64 x) := by go_simp
  have qe1_1 : (((w0.alloc (.cells #[.int .i64 n, .slice (some ⟨b, off, none⟩) es.length p] 34)).alloc (.cells #[.int .i64 x, .int .i64 y, .int .i64 z] 49)).alloc (.cells #[.int .i64 0, .slice none 0 0] 34)).cell? ⟨w0.heap.size + 1, 1, none⟩ = some (.int .i64 y) := by go_simp
  have qe2_1 : (((w0.alloc (.cells #[.int .i64 n, .slice (some ⟨b, off, none⟩) es.length p] 34)).alloc (.cells #[.int .i64 x, .int .i64 y, .int .i64 z] 49)).alloc (.cells #[.int .i64 0, .slice none 0 0] 34)).cell? ⟨w0.heap.size + 1, 2, none⟩ = some (.int .i64 z) := by go_simp
  have ze_1 : w0.heap.size + 1 < (((w0.alloc (.cells #[.int .i64 n, .slice (some ⟨b, off, none⟩) es.length p] 34)).alloc (.cells #[.int .i64 x, .int .i64 y, .int .i64 z] 49)).alloc (.cells #[.int .i64 0, .slice none 0 0] 34)).heap.size := by simp <;> omega
  have frr0_1 : (((w0.alloc (.cells #[.int .i64 n, .slice (some ⟨b, off, none⟩) es.length p] 34)).alloc (.cells #[.int .i64 x, .int .i64 y, .int .i64 z] 49)).alloc (.cells #[.int .i64 0, .slice none 0 0] 34)).frozen? ⟨w0.heap.size + 1 + 1, 0, none⟩ = false := by go_simp
  have frr1_1 : (((w0.alloc (.cells #[.int .i64 n, .slice (some ⟨b, off, none⟩) es.length p] 34)).alloc (.cells #[.int .i64 x, .int .i64 y, .int .i64 z] 49)).alloc (.cells #[.int .i64 0, .slice none 0 0] 34)).frozen? ⟨w0.heap.size + 1 + 1, 1, none⟩ = false := by go_simp
  have qr0_1 : (((w0.alloc (.cells #[.int .i64 n, .slice (some ⟨b, off, none⟩) es.length p] 34)).alloc (.cells #[.int .i64 x, .int .i64 y, .int .i64 z] 49)).alloc (.cells #[.int .i64 0, .slice none 0 0] 34)).cell? ⟨w0.heap.size + 1 + 1, 0, none⟩ = some (.int .i64 0) := by go_simp
  have qr1_1 : (((w0.alloc (.cells #[.int .i64 n, .slice (some ⟨b, off, none⟩) es.length p] 34)).alloc (.cells #[.int .i64 x, .int .i64 y, .int .i64 z] 49)).alloc (.cells #[.int .i64 0, .slice none 0 0] 34)).cell? ⟨w0.heap.size + 1 + 1, 1, none⟩ = some (.slice none 0 0) := by go_simp
  have zr_1 : w0.heap.size + 1 + 1 < (((w0.alloc (.cells #[.int .i64 n, .slice (some ⟨b, off, none⟩) es.length p] 34)).alloc (.cells #[.int .i64 x, .int .i64 y, .int .i64 z] 49)).alloc (.cells #[.int .i64 0, .slice none 0 0] 34)).heap.size := by simp <;> omega
  generalize (((w0.alloc (.cells #[.int .i64 n, .slice (some ⟨b, off, none⟩) es.length p] 34)).alloc (.cells #[.int .i64 x, .int .i64 y, .int .i64 z] 49)).alloc (.cells #[.int .i64 0, .slice none 0 0] 34)) = w1 at hb1 H1 SZ1 R_1 frr0_1 frr1_1 qe0_1 qe1_1 qe2_1 qg0_1 qg1_1 qr0_1 qr1_1 ze_1 zg_1 zr_1 ⊢
  have ZBg := Lib.hid zg_1
  have ZBe := Lib.hid ze_1
  have ZBr := Lib.hid zr_1
  clear R_0
  refine (HV.out _ R_1.out.edges).mono ?_
  rintro e w2 ⟨rfl, hb2⟩
  have H2 := bel_trans H1 hb2
  have SZ2 := Lib.hid hb2.size
  have qg0_2 := (hb2.cell (p := ⟨w0.heap.size, 0, none⟩) zg_1).trans qg0_1
  have qg1_2 := (hb2.cell (p := ⟨w0.heap.size, 1, none⟩) zg_1).trans qg1_1
  have zg_2 := Nat.lt_of_lt_of_le zg_1 hb2.size
  have qe0_2 := (hb2.cell (p := ⟨w0.heap.size + 1, 0, none⟩) ze_1).trans qe0_1
  have qe1_2 := (hb2.cell (p := ⟨w0.heap.size + 1, 1, none⟩) ze_1).trans qe1_1
  have qe2_2 := (hb2.cell (p := ⟨w0.heap.size + 1, 2, none⟩) ze_1).trans qe2_1
  have ze_2 := Nat.lt_of_lt_of_le ze_1 hb2.size
  have qr0_2 := (hb2.cell (p := ⟨w0.heap.size + 1 + 1, 0, none⟩) zr_1).trans qr0_1
  have frr0_2 := (hb2.frozen (p := ⟨w0.heap.size + 1 + 1, 0, none⟩) zr_1).trans frr0_1
  have qr1_2 := (hb2.cell (p := ⟨w0.heap.size + 1 + 1, 1, none⟩) zr_1).trans qr1_1
  have frr1_2 := (hb2.frozen (p := ⟨w0.heap.size + 1 + 1, 1, none⟩) zr_1).trans frr1_1
  have zr_2 := Nat.lt_of_lt_of_le zr_1 hb2.size
  have R_2 := Lib.hid (R_1.out.keep hb2)
  clear R_1 qg0_1 qg1_1 zg_1 qe0_1 qe1_1 qe2_1 ze_1 frr0_1 frr1_1 qr0_1 qr1_1 zr_1
  go_wp2_with fail
  refine (HF.out _).mono ?_
  rintro e w3 ⟨rfl, hb3⟩
  have H3 := bel_trans H2 hb3
  have SZ3 := Lib.hid hb3.size
  have qg0_3 := (hb3.cell (p := ⟨w0.heap.size, 0, none⟩) zg_2).trans qg0_2
  have qg1_3 := (hb3.cell (p := ⟨w0.heap.size, 1, none⟩) zg_2).trans qg1_2
  have zg_3 := Nat.lt_of_lt_of_le zg_2 hb3.size
  have qe0_3 := (hb3.cell (p := ⟨w0.heap.size + 1, 0, none⟩) ze_2).trans qe0_2
  have qe1_3 := (hb3.cell (p := ⟨w0.heap.size + 1, 1, none⟩) ze_2).trans qe1_2
  have qe2_3 := (hb3.cell (p := ⟨w0.heap.size + 1, 2, none⟩) ze_2).trans qe2_2
  have ze_3 := Nat.lt_of_lt_of_le ze_2 hb3.size
  have qr0_3 := (hb3.cell (p := ⟨w0.heap.size + 1 + 1, 0, none⟩) zr_2).trans qr0_2
  have frr0_3 := (hb3.frozen (p := ⟨w0.heap.size + 1 + 1, 0, none⟩) zr_2).trans frr0_2
  have qr1_3 := (hb3.cell (p := ⟨w0.heap.size + 1 + 1, 1, none⟩) zr_2).trans qr1_2
  have frr1_3 := (hb3.frozen (p := ⟨w0.heap.size + 1 + 1, 1, none⟩) zr_2).trans frr1_2
  have zr_3 := Nat.lt_of_lt_of_le zr_2 hb3.size
  have R_3 := Lib.hid (R_2.out.keep hb3)
  clear qg0_2 qg1_2 zg_2 qe0_2 qe1_2 qe2_2 ze_2 qr0_2 frr0_2 qr1_2 frr1_2 zr_2 R_2
  go_wp2_with fail
  refine (HE.out _ R_3.out.edges).mono ?_
  rintro e w4 ⟨rfl, hb4⟩
  have H4 := bel_trans H3 hb4
  have SZ4 := Lib.hid hb4.size
  have qg0_4 := (hb4.cell (p := ⟨w0.heap.size, 0, none⟩) zg_3).trans qg0_3
  have qg1_4 := (hb4.cell (p := ⟨w0.heap.size, 1, none⟩) zg_3).trans qg1_3
  have zg_4 := Nat.lt_of_lt_of_le zg_3 hb4.size
  have qe0_4 := (hb4.cell (p := ⟨w0.heap.size + 1, 0, none⟩) ze_3).trans qe0_3
  have qe1_4 := (hb4.cell (p := ⟨w0.heap.size + 1, 1, none⟩) ze_3).trans qe1_3
  have qe2_4 := (hb4.cell (p := ⟨w0.heap.size + 1, 2, none⟩) ze_3).trans qe2_3
  have ze_4 := Nat.lt_of_lt_of_le ze_3 hb4.size
  have qr0_4 := (hb4.cell (p := ⟨w0.heap.size + 1 + 1, 0, none⟩) zr_3).trans qr0_3
  have frr0_4 := (hb4.frozen (p := ⟨w0.heap.size + 1 + 1, 0, none⟩) zr_3).trans frr0_3
  have qr1_4 := (hb4.cell (p := ⟨w0.heap.size + 1 + 1, 1, none⟩) zr_3).trans qr1_3
  have frr1_4 := (hb4.frozen (p := ⟨w0.heap.size + 1 + 1, 1, none⟩) zr_3).trans frr1_3
  have zr_4 := Nat.lt_of_lt_of_le zr_3 hb4.size
  have R_4 := Lib.hid (R_3.out.keep hb4)
  clear qg0_3 qg1_3 zg_3 qe0_3 qe1_3 qe2_3 ze_3 qr0_3 frr0_3 qr1_3 frr1_3 zr_3 R_3
  go_wp2
  have hold : ∀ w' : World, Below w4.heap.size w4 w' → (w'.cell? ⟨w0.heap.size, 1, none⟩ = some (.slice (some ⟨b, off, none⟩) es.length p) ∧ w'.cell? ⟨w0.heap.size + 1, 0, none⟩ = some (.int .i64 x) ∧ w'.cell? ⟨w0.heap.size + 1, 1, none⟩ = some (.int .i64 y) ∧ w'.cell? ⟨w0.heap.size + 1, 2, none⟩ = some (.int .i64 z)) := fun w' h => ⟨(h.cell (p := ⟨w0.heap.size, 1, none⟩) zg_4).trans qg1_4, (h.cell (p := ⟨w0.heap.size + 1, 0, none⟩) ze_4).trans qe0_4, (h.cell (p := ⟨w0.heap.size + 1, 1, none⟩) ze_4).trans qe1_4, (h.cell (p := ⟨w0.heap.size + 1, 2, none⟩) ze_4).trans qe2_4⟩
  have HOLD := Lib.hid hold
  clear hold
  have t1 := Lib.hid (T1.out.keep H4)
  have t3 := Lib.hid (T3.out.keep H4)
  go_region_held3 (fun w' : World => w'.cell? ⟨w0.heap.size, 1, none⟩ = some (.slice (some ⟨b, off, none⟩) es.length p) ∧ w'.cell? ⟨w0.heap.size + 1, 0, none⟩ = some (.int .i64 x) ∧ w'.cell? ⟨w0.heap.size + 1, 1, none⟩ = some (.int .i64 y) ∧ w'.cell? ⟨w0.heap.size + 1, 2, none⟩ = some (.int .i64 z)) (first | exact HOLD.out _ ((Below.refl _ _).drew) | exact HOLD.out _ (((Below.refl _ _).alloc (Nat.le_refl _) _).drew) | exact HOLD.out _ ((((Below.refl _ _).alloc (Nat.le_refl _) _).alloc (by simp) _).drew) | exact HOLD.out _ hb5) (first | (go_at_call 147; refine (concat3 (es.take p) (es.drop p) x y z (.slice (some ⟨b, off, none⟩) p p) (.slice (some ⟨b, off, none⟩) (es.length - p) 0) w4 t1.out t3.out o1 o3 hT _ _).mono ?_; rintro e w5 ⟨v, rfl, hown, hokv, hb5⟩))
  rw [← HL.out] at hown
  obtain ⟨va, vc, rfl, hvz⟩ := id hown
  clear hvz HOLD t1 t3
  have H5 := bel_trans H4 hb5
  have SZ5 := Lib.hid hb5.size
  have qg0_5 := (hb5.cell (p := ⟨w0.heap.size, 0, none⟩) zg_4).trans qg0_4
  have qg1_5 := (hb5.cell (p := ⟨w0.heap.size, 1, none⟩) zg_4).trans qg1_4
  have zg_5 := Nat.lt_of_lt_of_le zg_4 hb5.size
  have qe0_5 := (hb5.cell (p := ⟨w0.heap.size + 1, 0, none⟩) ze_4).trans qe0_4
  have qe1_5 := (hb5.cell (p := ⟨w0.heap.size + 1, 1, none⟩) ze_4).trans qe1_4
  have qe2_5 := (hb5.cell (p := ⟨w0.heap.size + 1, 2, none⟩) ze_4).trans qe2_4
  have ze_5 := Nat.lt_of_lt_of_le ze_4 hb5.size
  have qr0_5 := (hb5.cell (p := ⟨w0.heap.size + 1 + 1, 0, none⟩) zr_4).trans qr0_4
  have frr0_5 := (hb5.frozen (p := ⟨w0.heap.size + 1 + 1, 0, none⟩) zr_4).trans frr0_4
  have qr1_5 := (hb5.cell (p := ⟨w0.heap.size + 1 + 1, 1, none⟩) zr_4).trans qr1_4
  have frr1_5 := (hb5.frozen (p := ⟨w0.heap.size + 1 + 1, 1, none⟩) zr_4).trans frr1_4
  have zr_5 := Nat.lt_of_lt_of_le zr_4 hb5.size
  have R_5 := Lib.hid (R_4.out.keep hb5)
  have V_5 := Lib.hid hown
  clear hown
  clear qg0_4 qg1_4 zg_4 qe0_4 qe1_4 qe2_4 ze_4 qr0_4 frr0_4 qr1_4 frr1_4 zr_4 R_4
  by_cases h40 : L.length ≤ 40
  rotate_left
  · have h40i : (40 : Int) < L.length := by omega
    have H40 := Lib.hid h40
    clear h40
    go_wp2
    try simp only [Exit.inBlock, Exit.then]
    refine bodyPost_ret (v := .tuple #[.agg #[.int .i64 0, .slice none 0 0], .bool false]) ?_ rfl ?_
    · rw [results_cell_tmp rfl]
      go_simp
    have hch : Chg (w0.heap.size + 2) (w0.heap.size + 3) w5 ((w5.setCell ⟨w0.heap.size + 1 + 1, 0, none⟩ (.int .i64 0)).setCell ⟨w0.heap.size + 1 + 1, 1, none⟩ (.slice none 0 0)) := ((Chg.refl _ _ _).setCell (by simp only; omega) (by simp only; omega) _).setCell (by simp only; omega) (by simp only; omega) _
    refine ⟨.slice none 0 0, by first | rfl | rw [if_neg H40.out, decide_eq_false H40.out], by first | exact ownE_nil _ _ | (rw [if_neg H40.out]; exact ownE_nil _ _), okS_nil, bel_chg H5 hch (by omega)⟩
  have h40i : ¬ ((40 : Int) < L.length) := by omega
  have H40 := Lib.hid h40
  clear h40
  go_wp2
  try simp only [Exit.inBlock, Exit.then]
  refine bodyPost_ret (v := .tuple #[.agg #[.int .i64 n, .slice va L.length vc], .bool true]) ?_ rfl ?_
  · rw [results_cell_tmp rfl]
    go_simp
  have hch : Chg (w0.heap.size + 2) (w0.heap.size + 3) w5 ((w5.setCell ⟨w0.heap.size + 1 + 1, 0, none⟩ (.int .i64 n)).setCell ⟨w0.heap.size + 1 + 1, 1, none⟩ (.slice va L.length vc)) := ((Chg.refl _ _ _).setCell (by simp only; omega) (by simp only; omega) _).setCell (by simp only; omega) (by simp only; omega) _
  refine ⟨.slice va L.length vc, by first | rfl | rw [if_pos H40.out, decide_eq_true H40.out], by first | exact ((V_5.out.chg hch (.inl (by have := ZBr.out; have := SZ4.out; have := SZ3.out; have := SZ2.out; omega))).wider (by have := SZ4.out; have := SZ3.out; have := SZ2.out; have := SZ1.out; omega) (by simp) (Nat.le_refl _)) | (rw [if_pos H40.out]; exact ((V_5.out.chg hch (.inl (by have := ZBr.out; have := SZ4.out; have := SZ3.out; have := SZ2.out; omega))).wider (by have := SZ4.out; have := SZ3.out; have := SZ2.out; have := SZ1.out; omega) (by simp) (Nat.le_refl _))), hokv, bel_chg H5 hch (by omega)⟩

set_option maxRecDepth 100000 in
set_option maxHeartbeats 1000000 in
theorem putCe (n : Int) (x y z : Int) (w : World)
    (HV : Hid (∀ (w : World), RowE w (.slice none 0 0) [] → Calls Try.prog 45 #[.agg #[.int .i64 n, .slice none 0 0]] w fun e w' => e = .returned (.bool true) ∧ Below w.heap.size w w'))
    (HF : Hid (∀ (w : World), Calls Try.prog 67 #[.agg #[.int .i64 n, .slice none 0 0], .agg #[.int .i64 x, .int .i64 y, .int .i64 z]] w fun e w' => e = .returned (.bool true) ∧ Below w.heap.size w w'))
    (HE : Hid (∀ (w : World), RowE w (.slice none 0 0) [] → Calls Try.prog 109 #[.agg #[.int .i64 n, .slice none 0 0], .int .i64 x, .int .i64 y] w fun e w' => e = .returned (.tuple #[.int .i64 0, .bool false]) ∧ Below w.heap.size w w')) :
    Calls Try.prog 146 #[.agg #[.int .i64 n, .slice none 0 0], .agg #[.int .i64 x, .int .i64 y, .int .i64 z]] w fun e w' => ∃ v, e = .returned (.tuple #[.agg #[.int .i64 n, v], .bool true]) ∧ OwnE w w' v [(x, y, z)] ∧ okS v ∧ Below w.heap.size w w' := by
  have hr : ∀ w, RowE w (.slice none 0 0) [] := fun w => ⟨none, 0, rfl, .inl rfl⟩
  have R := Lib.hid hr
  have o1 : okS (.slice none 0 0) := okS_nil
  have hT : (([] : List Ed) ++ (x, y, z) :: []).length ≤ 1048576 := by simp
  clear hr
  obtain ⟨w0, hw0⟩ : ∃ w0, w0 = w := ⟨_, rfl⟩
  subst hw0
  have H0 := Below.refl w0.heap.size w0
  go_enter Try.func146, Try.ntmps146
  go_wp2_with fail
  have hb1 : Below w0.heap.size w0 (((w0.alloc (.cells #[.int .i64 n, .slice none 0 0] 34)).alloc (.cells #[.int .i64 x, .int .i64 y, .int .i64 z] 49)).alloc (.cells #[.int .i64 0, .slice none 0 0] 34)) := (((Below.refl _ _).alloc (by simp <;> omega) _).alloc (by simp <;> omega) _).alloc (by simp <;> omega) _
  have H1 := bel_trans H0 hb1
  have SZ1 := Lib.hid hb1.size
  have qg0_1 : (((w0.alloc (.cells #[.int .i64 n, .slice none 0 0] 34)).alloc (.cells #[.int .i64 x, .int .i64 y, .int .i64 z] 49)).alloc (.cells #[.int .i64 0, .slice none 0 0] 34)).cell? ⟨w0.heap.size, 0, none⟩ = some (.int .i64 n) := by go_simp
  have qg1_1 : (((w0.alloc (.cells #[.int .i64 n, .slice none 0 0] 34)).alloc (.cells #[.int .i64 x, .int .i64 y, .int .i64 z] 49)).alloc (.cells #[.int .i64 0, .slice none 0 0] 34)).cell? ⟨w0.heap.size, 1, none⟩ = some (.slice none 0 0) := by go_simp
  have zg_1 : w0.heap.size < (((w0.alloc (.cells #[.int .i64 n, .slice none 0 0] 34)).alloc (.cells #[.int .i64 x, .int .i64 y, .int .i64 z] 49)).alloc (.cells #[.int .i64 0, .slice none 0 0] 34)).heap.size := by simp <;> omega
  have qe0_1 : (((w0.alloc (.cells #[.int .i64 n, .slice none 0 0] 34)).alloc (.cells #[.int .i64 x, .int .i64 y, .int .i64 z] 49)).alloc (.cells #[.int .i64 0, .slice none 0 0] 34)).cell? ⟨w0.heap.size + 1, 0, none⟩ = some (.int .i64 x) := by go_simp
  have qe1_1 : (((w0.alloc (.cells #[.int .i64 n, .slice none 0 0] 34)).alloc (.cells #[.int .i64 x, .int .i64 y, .int .i64 z] 49)).alloc (.cells #[.int .i64 0, .slice none 0 0] 34)).cell? ⟨w0.heap.size + 1, 1, none⟩ = some (.int .i64 y) := by go_simp
  have qe2_1 : (((w0.alloc (.cells #[.int .i64 n, .slice none 0 0] 34)).alloc (.cells #[.int .i64 x, .int .i64 y, .int .i64 z] 49)).alloc (.cells #[.int .i64 0, .slice none 0 0] 34)).cell? ⟨w0.heap.size + 1, 2, none⟩ = some (.int .i64 z) := by go_simp
  have ze_1 : w0.heap.size + 1 < (((w0.alloc (.cells #[.int .i64 n, .slice none 0 0] 34)).alloc (.cells #[.int .i64 x, .int .i64 y, .int .i64 z] 49)).alloc (.cells #[.int .i64 0, .slice none 0 0] 34)).heap.size := by simp <;> omega
  have frr0_1 : (((w0.alloc (.cells #[.int .i64 n, .slice none 0 0] 34)).alloc (.cells #[.int .i64 x, .int .i64 y, .int .i64 z] 49)).alloc (.cells #[.int .i64 0, .slice none 0 0] 34)).frozen? ⟨w0.heap.size + 1 + 1, 0, none⟩ = false := by go_simp
  have frr1_1 : (((w0.alloc (.cells #[.int .i64 n, .slice none 0 0] 34)).alloc (.cells #[.int .i64 x, .int .i64 y, .int .i64 z] 49)).alloc (.cells #[.int .i64 0, .slice none 0 0] 34)).frozen? ⟨w0.heap.size + 1 + 1, 1, none⟩ = false := by go_simp
  have qr0_1 : (((w0.alloc (.cells #[.int .i64 n, .slice none 0 0] 34)).alloc (.cells #[.int .i64 x, .int .i64 y, .int .i64 z] 49)).alloc (.cells #[.int .i64 0, .slice none 0 0] 34)).cell? ⟨w0.heap.size + 1 + 1, 0, none⟩ = some (.int .i64 0) := by go_simp
  have qr1_1 : (((w0.alloc (.cells #[.int .i64 n, .slice none 0 0] 34)).alloc (.cells #[.int .i64 x, .int .i64 y, .int .i64 z] 49)).alloc (.cells #[.int .i64 0, .slice none 0 0] 34)).cell? ⟨w0.heap.size + 1 + 1, 1, none⟩ = some (.slice none 0 0) := by go_simp
  have zr_1 : w0.heap.size + 1 + 1 < (((w0.alloc (.cells #[.int .i64 n, .slice none 0 0] 34)).alloc (.cells #[.int .i64 x, .int .i64 y, .int .i64 z] 49)).alloc (.cells #[.int .i64 0, .slice none 0 0] 34)).heap.size := by simp <;> omega
  generalize (((w0.alloc (.cells #[.int .i64 n, .slice none 0 0] 34)).alloc (.cells #[.int .i64 x, .int .i64 y, .int .i64 z] 49)).alloc (.cells #[.int .i64 0, .slice none 0 0] 34)) = w1 at hb1 H1 SZ1 frr0_1 frr1_1 qe0_1 qe1_1 qe2_1 qg0_1 qg1_1 qr0_1 qr1_1 ze_1 zg_1 zr_1 ⊢
  have ZBg := Lib.hid zg_1
  have ZBe := Lib.hid ze_1
  have ZBr := Lib.hid zr_1
  refine (HV.out _ (R.out _)).mono ?_
  rintro e w2 ⟨rfl, hb2⟩
  have H2 := bel_trans H1 hb2
  have SZ2 := Lib.hid hb2.size
  have qg0_2 := (hb2.cell (p := ⟨w0.heap.size, 0, none⟩) zg_1).trans qg0_1
  have qg1_2 := (hb2.cell (p := ⟨w0.heap.size, 1, none⟩) zg_1).trans qg1_1
  have zg_2 := Nat.lt_of_lt_of_le zg_1 hb2.size
  have qe0_2 := (hb2.cell (p := ⟨w0.heap.size + 1, 0, none⟩) ze_1).trans qe0_1
  have qe1_2 := (hb2.cell (p := ⟨w0.heap.size + 1, 1, none⟩) ze_1).trans qe1_1
  have qe2_2 := (hb2.cell (p := ⟨w0.heap.size + 1, 2, none⟩) ze_1).trans qe2_1
  have ze_2 := Nat.lt_of_lt_of_le ze_1 hb2.size
  have qr0_2 := (hb2.cell (p := ⟨w0.heap.size + 1 + 1, 0, none⟩) zr_1).trans qr0_1
  have frr0_2 := (hb2.frozen (p := ⟨w0.heap.size + 1 + 1, 0, none⟩) zr_1).trans frr0_1
  have qr1_2 := (hb2.cell (p := ⟨w0.heap.size + 1 + 1, 1, none⟩) zr_1).trans qr1_1
  have frr1_2 := (hb2.frozen (p := ⟨w0.heap.size + 1 + 1, 1, none⟩) zr_1).trans frr1_1
  have zr_2 := Nat.lt_of_lt_of_le zr_1 hb2.size
  clear qg0_1 qg1_1 zg_1 qe0_1 qe1_1 qe2_1 ze_1 frr0_1 frr1_1 qr0_1 qr1_1 zr_1
  go_wp2_with fail
  refine (HF.out _).mono ?_
  rintro e w3 ⟨rfl, hb3⟩
  have H3 := bel_trans H2 hb3
  have SZ3 := Lib.hid hb3.size
  have qg0_3 := (hb3.cell (p := ⟨w0.heap.size, 0, none⟩) zg_2).trans qg0_2
  have qg1_3 := (hb3.cell (p := ⟨w0.heap.size, 1, none⟩) zg_2).trans qg1_2
  have zg_3 := Nat.lt_of_lt_of_le zg_2 hb3.size
  have qe0_3 := (hb3.cell (p := ⟨w0.heap.size + 1, 0, none⟩) ze_2).trans qe0_2
  have qe1_3 := (hb3.cell (p := ⟨w0.heap.size + 1, 1, none⟩) ze_2).trans qe1_2
  have qe2_3 := (hb3.cell (p := ⟨w0.heap.size + 1, 2, none⟩) ze_2).trans qe2_2
  have ze_3 := Nat.lt_of_lt_of_le ze_2 hb3.size
  have qr0_3 := (hb3.cell (p := ⟨w0.heap.size + 1 + 1, 0, none⟩) zr_2).trans qr0_2
  have frr0_3 := (hb3.frozen (p := ⟨w0.heap.size + 1 + 1, 0, none⟩) zr_2).trans frr0_2
  have qr1_3 := (hb3.cell (p := ⟨w0.heap.size + 1 + 1, 1, none⟩) zr_2).trans qr1_2
  have frr1_3 := (hb3.frozen (p := ⟨w0.heap.size + 1 + 1, 1, none⟩) zr_2).trans frr1_2
  have zr_3 := Nat.lt_of_lt_of_le zr_2 hb3.size
  clear qg0_2 qg1_2 zg_2 qe0_2 qe1_2 qe2_2 ze_2 qr0_2 frr0_2 qr1_2 frr1_2 zr_2
  go_wp2_with fail
  refine (HE.out _ (R.out _)).mono ?_
  rintro e w4 ⟨rfl, hb4⟩
  have H4 := bel_trans H3 hb4
  have SZ4 := Lib.hid hb4.size
  have qg0_4 := (hb4.cell (p := ⟨w0.heap.size, 0, none⟩) zg_3).trans qg0_3
  have qg1_4 := (hb4.cell (p := ⟨w0.heap.size, 1, none⟩) zg_3).trans qg1_3
  have zg_4 := Nat.lt_of_lt_of_le zg_3 hb4.size
  have qe0_4 := (hb4.cell (p := ⟨w0.heap.size + 1, 0, none⟩) ze_3).trans qe0_3
  have qe1_4 := (hb4.cell (p := ⟨w0.heap.size + 1, 1, none⟩) ze_3).trans qe1_3
  have qe2_4 := (hb4.cell (p := ⟨w0.heap.size + 1, 2, none⟩) ze_3).trans qe2_3
  have ze_4 := Nat.lt_of_lt_of_le ze_3 hb4.size
  have qr0_4 := (hb4.cell (p := ⟨w0.heap.size + 1 + 1, 0, none⟩) zr_3).trans qr0_3
  have frr0_4 := (hb4.frozen (p := ⟨w0.heap.size + 1 + 1, 0, none⟩) zr_3).trans frr0_3
  have qr1_4 := (hb4.cell (p := ⟨w0.heap.size + 1 + 1, 1, none⟩) zr_3).trans qr1_3
  have frr1_4 := (hb4.frozen (p := ⟨w0.heap.size + 1 + 1, 1, none⟩) zr_3).trans frr1_3
  have zr_4 := Nat.lt_of_lt_of_le zr_3 hb4.size
  clear qg0_3 qg1_3 zg_3 qe0_3 qe1_3 qe2_3 ze_3 qr0_3 frr0_3 qr1_3 frr1_3 zr_3
  go_wp2
  have hold : ∀ w' : World, Below w4.heap.size w4 w' → (w'.cell? ⟨w0.heap.size, 1, none⟩ = some (.slice none 0 0) ∧ w'.cell? ⟨w0.heap.size + 1, 0, none⟩ = some (.int .i64 x) ∧ w'.cell? ⟨w0.heap.size + 1, 1, none⟩ = some (.int .i64 y) ∧ w'.cell? ⟨w0.heap.size + 1, 2, none⟩ = some (.int .i64 z)) := fun w' h => ⟨(h.cell (p := ⟨w0.heap.size, 1, none⟩) zg_4).trans qg1_4, (h.cell (p := ⟨w0.heap.size + 1, 0, none⟩) ze_4).trans qe0_4, (h.cell (p := ⟨w0.heap.size + 1, 1, none⟩) ze_4).trans qe1_4, (h.cell (p := ⟨w0.heap.size + 1, 2, none⟩) ze_4).trans qe2_4⟩
  have HOLD := Lib.hid hold
  clear hold
  go_region_held3 (fun w' : World => w'.cell? ⟨w0.heap.size, 1, none⟩ = some (.slice none 0 0) ∧ w'.cell? ⟨w0.heap.size + 1, 0, none⟩ = some (.int .i64 x) ∧ w'.cell? ⟨w0.heap.size + 1, 1, none⟩ = some (.int .i64 y) ∧ w'.cell? ⟨w0.heap.size + 1, 2, none⟩ = some (.int .i64 z)) (first | exact HOLD.out _ ((Below.refl _ _).drew) | exact HOLD.out _ (((Below.refl _ _).alloc (Nat.le_refl _) _).drew) | exact HOLD.out _ ((((Below.refl _ _).alloc (Nat.le_refl _) _).alloc (by simp) _).drew) | exact HOLD.out _ hb5) (first | (go_at_call 147; refine (concat3 [] [] x y z (.slice none 0 0) (.slice none 0 0) w4 (R.out _) (R.out _) o1 o1 hT _ _).mono ?_; rintro e w5 ⟨v, rfl, hown, hokv, hb5⟩))
  rw [List.nil_append] at hown
  obtain ⟨va, vc, rfl, hvz⟩ := id hown
  clear hvz HOLD
  have H5 := bel_trans H4 hb5
  have SZ5 := Lib.hid hb5.size
  have qg0_5 := (hb5.cell (p := ⟨w0.heap.size, 0, none⟩) zg_4).trans qg0_4
  have qg1_5 := (hb5.cell (p := ⟨w0.heap.size, 1, none⟩) zg_4).trans qg1_4
  have zg_5 := Nat.lt_of_lt_of_le zg_4 hb5.size
  have qe0_5 := (hb5.cell (p := ⟨w0.heap.size + 1, 0, none⟩) ze_4).trans qe0_4
  have qe1_5 := (hb5.cell (p := ⟨w0.heap.size + 1, 1, none⟩) ze_4).trans qe1_4
  have qe2_5 := (hb5.cell (p := ⟨w0.heap.size + 1, 2, none⟩) ze_4).trans qe2_4
  have ze_5 := Nat.lt_of_lt_of_le ze_4 hb5.size
  have qr0_5 := (hb5.cell (p := ⟨w0.heap.size + 1 + 1, 0, none⟩) zr_4).trans qr0_4
  have frr0_5 := (hb5.frozen (p := ⟨w0.heap.size + 1 + 1, 0, none⟩) zr_4).trans frr0_4
  have qr1_5 := (hb5.cell (p := ⟨w0.heap.size + 1 + 1, 1, none⟩) zr_4).trans qr1_4
  have frr1_5 := (hb5.frozen (p := ⟨w0.heap.size + 1 + 1, 1, none⟩) zr_4).trans frr1_4
  have zr_5 := Nat.lt_of_lt_of_le zr_4 hb5.size
  have V_5 := Lib.hid hown
  clear hown
  clear qg0_4 qg1_4 zg_4 qe0_4 qe1_4 qe2_4 ze_4 qr0_4 frr0_4 qr1_4 frr1_4 zr_4
  try simp only [List.length_cons, List.length_nil, Nat.zero_add] at *
  go_wp2
  try simp only [Exit.inBlock, Exit.then]
  refine bodyPost_ret (v := .tuple #[.agg #[.int .i64 n, .slice va 1 vc], .bool true]) ?_ rfl ?_
  · rw [results_cell_tmp rfl]
    go_simp
  have hch : Chg (w0.heap.size + 2) (w0.heap.size + 3) w5 ((w5.setCell ⟨w0.heap.size + 1 + 1, 0, none⟩ (.int .i64 n)).setCell ⟨w0.heap.size + 1 + 1, 1, none⟩ (.slice va 1 vc)) := ((Chg.refl _ _ _).setCell (by simp only; omega) (by simp only; omega) _).setCell (by simp only; omega) (by simp only; omega) _
  exact ⟨.slice va 1 vc, rfl, ((V_5.out.chg hch (.inl (by have := ZBr.out; have := SZ4.out; have := SZ3.out; have := SZ2.out; omega))).wider (by have := SZ4.out; have := SZ3.out; have := SZ2.out; have := SZ1.out; omega) (by simp) (Nat.le_refl _)), hokv, bel_chg H5 hch (by omega)⟩
end Go.Proofs.Ytbhhbhopogkmnaa
namespace Go.Proofs.Ytbhhbhopogkmnaa
open Go.RowKit Go.BigFrame Go.Deep
set_option linter.unusedVariables false
set_option linter.unusedSimpArgs false

set_option maxRecDepth 100000 in
set_option maxHeartbeats 2000000 in
theorem putEdge (n : Int) (es : List Ed) (x y z : Int) (s : Value) (w : World) (hs : RowE w s es) (hok : okS s) (hl : es.length ≤ 1048576) :
    Calls Try.prog 146 #[.agg #[.int .i64 n, s], .agg #[.int .i64 x, .int .i64 y, .int .i64 z]] w fun e w' => ∃ v, e = .returned (.tuple #[.agg #[.int .i64 (putN n es (x, y, z)), v], .bool (putB n es (x, y, z))]) ∧ OwnE w w' v (putL n es (x, y, z)) ∧ okS v ∧ Below w.heap.size w w' := by
  have hl2 : es.length ≤ 281474976710656 := by omega
  obtain ⟨ad, cap, hs0, hz0⟩ := id hs
  subst hs0
  have hgv := fun w h => graphValid n es (.slice ad es.length cap) w h hl2
  have hef := fun w => edgeFits n x y z (.slice ad es.length cap) w
  have R := Lib.hid (InR.of_edges hs)
  clear hs
  cases hg : gVal n es
  · have e0 : putB n es (x, y, z) = false := by unfold putB; rw [hg]; rfl
    have e1 : putN n es (x, y, z) = 0 := by unfold putN; rw [e0]; rfl
    have e2 : putL n es (x, y, z) = [] := by unfold putL; rw [e0]; rfl
    rw [e0, e1, e2]
    rw [hg] at hgv
    have HV := Lib.hid hgv
    clear hgv hz0 e0 e1 e2 hef hok
    obtain ⟨w0, hw0⟩ : ∃ w0, w0 = w := ⟨_, rfl⟩
    subst hw0
    have H0 := Below.refl w0.heap.size w0
    have R_0 := R
    clear R
    go_enter Try.func146, Try.ntmps146
    go_wp2_with fail
    have hb1 : Below w0.heap.size w0 (((w0.alloc (.cells #[.int .i64 n, .slice ad es.length cap] 34)).alloc (.cells #[.int .i64 x, .int .i64 y, .int .i64 z] 49)).alloc (.cells #[.int .i64 0, .slice none 0 0] 34)) := (((Below.refl _ _).alloc (by simp <;> omega) _).alloc (by simp <;> omega) _).alloc (by simp <;> omega) _
    have H1 := bel_trans H0 hb1
    have SZ1 := Lib.hid hb1.size
    have R_1 := Lib.hid (R_0.out.keep hb1)
    have qg0_1 : (((w0.alloc (.cells #[.int .i64 n, .slice ad es.length cap] 34)).alloc (.cells #[.int .i64 x, .int .i64 y, .int .i64 z] 49)).alloc (.cells #[.int .i64 0, .slice none 0 0] 34)).cell? ⟨w0.heap.size, 0, none⟩ = some (.int .i64 n) := by go_simp
    have qg1_1 : (((w0.alloc (.cells #[.int .i64 n, .slice ad es.length cap] 34)).alloc (.cells #[.int .i64 x, .int .i64 y, .int .i64 z] 49)).alloc (.cells #[.int .i64 0, .slice none 0 0] 34)).cell? ⟨w0.heap.size, 1, none⟩ = some (.slice ad es.length cap) := by go_simp
    have zg_1 : w0.heap.size < (((w0.alloc (.cells #[.int .i64 n, .slice ad es.length cap] 34)).alloc (.cells #[.int .i64 x, .int .i64 y, .int .i64 z] 49)).alloc (.cells #[.int .i64 0, .slice none 0 0] 34)).heap.size := by simp <;> omega
    have qe0_1 : (((w0.alloc (.cells #[.int .i64 n, .slice ad es.length cap] 34)).alloc (.cells #[.int .i64 x, .int .i64 y, .int .i64 z] 49)).alloc (.cells #[.int .i64 0, .slice none 0 0] 34)).cell? ⟨w0.heap.size + 1, 0, none⟩ = some (.int .i64 x) := by go_simp
    have qe1_1 : (((w0.alloc (.cells #[.int .i64 n, .slice ad es.length cap] 34)).alloc (.cells #[.int .i64 x, .int .i64 y, .int .i64 z] 49)).alloc (.cells #[.int .i64 0, .slice none 0 0] 34)).cell? ⟨w0.heap.size + 1, 1, none⟩ = some (.int .i64 y) := by go_simp
    have qe2_1 : (((w0.alloc (.cells #[.int .i64 n, .slice ad es.length cap] 34)).alloc (.cells #[.int .i64 x, .int .i64 y, .int .i64 z] 49)).alloc (.cells #[.int .i64 0, .slice none 0 0] 34)).cell? ⟨w0.heap.size + 1, 2, none⟩ = some (.int .i64 z) := by go_simp
    have ze_1 : w0.heap.size + 1 < (((w0.alloc (.cells #[.int .i64 n, .slice ad es.length cap] 34)).alloc (.cells #[.int .i64 x, .int .i64 y, .int .i64 z] 49)).alloc (.cells #[.int .i64 0, .slice none 0 0] 34)).heap.size := by simp <;> omega
    have frr0_1 : (((w0.alloc (.cells #[.int .i64 n, .slice ad es.length cap] 34)).alloc (.cells #[.int .i64 x, .int .i64 y, .int .i64 z] 49)).alloc (.cells #[.int .i64 0, .slice none 0 0] 34)).frozen? ⟨w0.heap.size + 1 + 1, 0, none⟩ = false := by go_simp
    have frr1_1 : (((w0.alloc (.cells #[.int .i64 n, .slice ad es.length cap] 34)).alloc (.cells #[.int .i64 x, .int .i64 y, .int .i64 z] 49)).alloc (.cells #[.int .i64 0, .slice none 0 0] 34)).frozen? ⟨w0.heap.size + 1 + 1, 1, none⟩ = false := by go_simp
    have qr0_1 : (((w0.alloc (.cells #[.int .i64 n, .slice ad es.length cap] 34)).alloc (.cells #[.int .i64 x, .int .i64 y, .int .i64 z] 49)).alloc (.cells #[.int .i64 0, .slice none 0 0] 34)).cell? ⟨w0.heap.size + 1 + 1, 0, none⟩ = some (.int .i64 0) := by go_simp
    have qr1_1 : (((w0.alloc (.cells #[.int .i64 n, .slice ad es.length cap] 34)).alloc (.cells #[.int .i64 x, .int .i64 y, .int .i64 z] 49)).alloc (.cells #[.int .i64 0, .slice none 0 0] 34)).cell? ⟨w0.heap.size + 1 + 1, 1, none⟩ = some (.slice none 0 0) := by go_simp
    have zr_1 : w0.heap.size + 1 + 1 < (((w0.alloc (.cells #[.int .i64 n, .slice ad es.length cap] 34)).alloc (.cells #[.int .i64 x, .int .i64 y, .int .i64 z] 49)).alloc (.cells #[.int .i64 0, .slice none 0 0] 34)).heap.size := by simp <;> omega
    generalize (((w0.alloc (.cells #[.int .i64 n, .slice ad es.length cap] 34)).alloc (.cells #[.int .i64 x, .int .i64 y, .int .i64 z] 49)).alloc (.cells #[.int .i64 0, .slice none 0 0] 34)) = w1 at hb1 H1 SZ1 R_1 frr0_1 frr1_1 qe0_1 qe1_1 qe2_1 qg0_1 qg1_1 qr0_1 qr1_1 ze_1 zg_1 zr_1 ⊢
    have ZBg := Lib.hid zg_1
    have ZBe := Lib.hid ze_1
    have ZBr := Lib.hid zr_1
    clear R_0
    refine (HV.out _ R_1.out.edges).mono ?_
    rintro e w2 ⟨rfl, hb2⟩
    have H2 := bel_trans H1 hb2
    have SZ2 := Lib.hid hb2.size
    have qg0_2 := (hb2.cell (p := ⟨w0.heap.size, 0, none⟩) zg_1).trans qg0_1
    have qg1_2 := (hb2.cell (p := ⟨w0.heap.size, 1, none⟩) zg_1).trans qg1_1
    have zg_2 := Nat.lt_of_lt_of_le zg_1 hb2.size
    have qe0_2 := (hb2.cell (p := ⟨w0.heap.size + 1, 0, none⟩) ze_1).trans qe0_1
    have qe1_2 := (hb2.cell (p := ⟨w0.heap.size + 1, 1, none⟩) ze_1).trans qe1_1
    have qe2_2 := (hb2.cell (p := ⟨w0.heap.size + 1, 2, none⟩) ze_1).trans qe2_1
    have ze_2 := Nat.lt_of_lt_of_le ze_1 hb2.size
    have qr0_2 := (hb2.cell (p := ⟨w0.heap.size + 1 + 1, 0, none⟩) zr_1).trans qr0_1
    have frr0_2 := (hb2.frozen (p := ⟨w0.heap.size + 1 + 1, 0, none⟩) zr_1).trans frr0_1
    have qr1_2 := (hb2.cell (p := ⟨w0.heap.size + 1 + 1, 1, none⟩) zr_1).trans qr1_1
    have frr1_2 := (hb2.frozen (p := ⟨w0.heap.size + 1 + 1, 1, none⟩) zr_1).trans frr1_1
    have zr_2 := Nat.lt_of_lt_of_le zr_1 hb2.size
    have R_2 := Lib.hid (R_1.out.keep hb2)
    clear R_1 qg0_1 qg1_1 zg_1 qe0_1 qe1_1 qe2_1 ze_1 frr0_1 frr1_1 qr0_1 qr1_1 zr_1
    go_wp2
    try simp only [Exit.inBlock, Exit.then]
    refine bodyPost_ret (v := .tuple #[.agg #[.int .i64 0, .slice none 0 0], .bool false]) ?_ rfl ?_
    · rw [results_cell_tmp rfl]
      go_simp
    exact ⟨_, rfl, ownE_nil _ _, okS_nil, (H2.setCell (by have := ZBr.out; simp only; omega) _).setCell (by have := ZBr.out; simp only; omega) _⟩
  rw [hg] at hgv
  have HV := Lib.hid hgv
  clear hgv
  cases hf : eFits n x y z
  · have e0 : putB n es (x, y, z) = false := by unfold putB; rw [hf]; simp
    have e1 : putN n es (x, y, z) = 0 := by unfold putN; rw [e0]; rfl
    have e2 : putL n es (x, y, z) = [] := by unfold putL; rw [e0]; rfl
    rw [e0, e1, e2]
    rw [hf] at hef
    have HF := Lib.hid hef
    clear hef hz0 e0 e1 e2 hok
    obtain ⟨w0, hw0⟩ : ∃ w0, w0 = w := ⟨_, rfl⟩
    subst hw0
    have H0 := Below.refl w0.heap.size w0
    have R_0 := R
    clear R
    go_enter Try.func146, Try.ntmps146
    go_wp2_with fail
    have hb1 : Below w0.heap.size w0 (((w0.alloc (.cells #[.int .i64 n, .slice ad es.length cap] 34)).alloc (.cells #[.int .i64 x, .int .i64 y, .int .i64 z] 49)).alloc (.cells #[.int .i64 0, .slice none 0 0] 34)) := (((Below.refl _ _).alloc (by simp <;> omega) _).alloc (by simp <;> omega) _).alloc (by simp <;> omega) _
    have H1 := bel_trans H0 hb1
    have SZ1 := Lib.hid hb1.size
    have R_1 := Lib.hid (R_0.out.keep hb1)
    have qg0_1 : (((w0.alloc (.cells #[.int .i64 n, .slice ad es.length cap] 34)).alloc (.cells #[.int .i64 x, .int .i64 y, .int .i64 z] 49)).alloc (.cells #[.int .i64 0, .slice none 0 0] 34)).cell? ⟨w0.heap.size, 0, none⟩ = some (.int .i64 n) := by go_simp
    have qg1_1 : (((w0.alloc (.cells #[.int .i64 n, .slice ad es.length cap] 34)).alloc (.cells #[.int .i64 x, .int .i64 y, .int .i64 z] 49)).alloc (.cells #[.int .i64 0, .slice none 0 0] 34)).cell? ⟨w0.heap.size, 1, none⟩ = some (.slice ad es.length cap) := by go_simp
    have zg_1 : w0.heap.size < (((w0.alloc (.cells #[.int .i64 n, .slice ad es.length cap] 34)).alloc (.cells #[.int .i64 x, .int .i64 y, .int .i64 z] 49)).alloc (.cells #[.int .i64 0, .slice none 0 0] 34)).heap.size := by simp <;> omega
    have qe0_1 : (((w0.alloc (.cells #[.int .i64 n, .slice ad es.length cap] 34)).alloc (.cells #[.int .i64 x, .int .i64 y, .int .i64 z] 49)).alloc (.cells #[.int .i64 0, .slice none 0 0] 34)).cell? ⟨w0.heap.size + 1, 0, none⟩ = some (.int .i64 x) := by go_simp
    have qe1_1 : (((w0.alloc (.cells #[.int .i64 n, .slice ad es.length cap] 34)).alloc (.cells #[.int .i64 x, .int .i64 y, .int .i64 z] 49)).alloc (.cells #[.int .i64 0, .slice none 0 0] 34)).cell? ⟨w0.heap.size + 1, 1, none⟩ = some (.int .i64 y) := by go_simp
    have qe2_1 : (((w0.alloc (.cells #[.int .i64 n, .slice ad es.length cap] 34)).alloc (.cells #[.int .i64 x, .int .i64 y, .int .i64 z] 49)).alloc (.cells #[.int .i64 0, .slice none 0 0] 34)).cell? ⟨w0.heap.size + 1, 2, none⟩ = some (.int .i64 z) := by go_simp
    have ze_1 : w0.heap.size + 1 < (((w0.alloc (.cells #[.int .i64 n, .slice ad es.length cap] 34)).alloc (.cells #[.int .i64 x, .int .i64 y, .int .i64 z] 49)).alloc (.cells #[.int .i64 0, .slice none 0 0] 34)).heap.size := by simp <;> omega
    have frr0_1 : (((w0.alloc (.cells #[.int .i64 n, .slice ad es.length cap] 34)).alloc (.cells #[.int .i64 x, .int .i64 y, .int .i64 z] 49)).alloc (.cells #[.int .i64 0, .slice none 0 0] 34)).frozen? ⟨w0.heap.size + 1 + 1, 0, none⟩ = false := by go_simp
    have frr1_1 : (((w0.alloc (.cells #[.int .i64 n, .slice ad es.length cap] 34)).alloc (.cells #[.int .i64 x, .int .i64 y, .int .i64 z] 49)).alloc (.cells #[.int .i64 0, .slice none 0 0] 34)).frozen? ⟨w0.heap.size + 1 + 1, 1, none⟩ = false := by go_simp
    have qr0_1 : (((w0.alloc (.cells #[.int .i64 n, .slice ad es.length cap] 34)).alloc (.cells #[.int .i64 x, .int .i64 y, .int .i64 z] 49)).alloc (.cells #[.int .i64 0, .slice none 0 0] 34)).cell? ⟨w0.heap.size + 1 + 1, 0, none⟩ = some (.int .i64 0) := by go_simp
    have qr1_1 : (((w0.alloc (.cells #[.int .i64 n, .slice ad es.length cap] 34)).alloc (.cells #[.int .i64 x, .int .i64 y, .int .i64 z] 49)).alloc (.cells #[.int .i64 0, .slice none 0 0] 34)).cell? ⟨w0.heap.size + 1 + 1, 1, none⟩ = some (.slice none 0 0) := by go_simp
    have zr_1 : w0.heap.size + 1 + 1 < (((w0.alloc (.cells #[.int .i64 n, .slice ad es.length cap] 34)).alloc (.cells #[.int .i64 x, .int .i64 y, .int .i64 z] 49)).alloc (.cells #[.int .i64 0, .slice none 0 0] 34)).heap.size := by simp <;> omega
    generalize (((w0.alloc (.cells #[.int .i64 n, .slice ad es.length cap] 34)).alloc (.cells #[.int .i64 x, .int .i64 y, .int .i64 z] 49)).alloc (.cells #[.int .i64 0, .slice none 0 0] 34)) = w1 at hb1 H1 SZ1 R_1 frr0_1 frr1_1 qe0_1 qe1_1 qe2_1 qg0_1 qg1_1 qr0_1 qr1_1 ze_1 zg_1 zr_1 ⊢
    have ZBg := Lib.hid zg_1
    have ZBe := Lib.hid ze_1
    have ZBr := Lib.hid zr_1
    clear R_0
    refine (HV.out _ R_1.out.edges).mono ?_
    rintro e w2 ⟨rfl, hb2⟩
    have H2 := bel_trans H1 hb2
    have SZ2 := Lib.hid hb2.size
    have qg0_2 := (hb2.cell (p := ⟨w0.heap.size, 0, none⟩) zg_1).trans qg0_1
    have qg1_2 := (hb2.cell (p := ⟨w0.heap.size, 1, none⟩) zg_1).trans qg1_1
    have zg_2 := Nat.lt_of_lt_of_le zg_1 hb2.size
    have qe0_2 := (hb2.cell (p := ⟨w0.heap.size + 1, 0, none⟩) ze_1).trans qe0_1
    have qe1_2 := (hb2.cell (p := ⟨w0.heap.size + 1, 1, none⟩) ze_1).trans qe1_1
    have qe2_2 := (hb2.cell (p := ⟨w0.heap.size + 1, 2, none⟩) ze_1).trans qe2_1
    have ze_2 := Nat.lt_of_lt_of_le ze_1 hb2.size
    have qr0_2 := (hb2.cell (p := ⟨w0.heap.size + 1 + 1, 0, none⟩) zr_1).trans qr0_1
    have frr0_2 := (hb2.frozen (p := ⟨w0.heap.size + 1 + 1, 0, none⟩) zr_1).trans frr0_1
    have qr1_2 := (hb2.cell (p := ⟨w0.heap.size + 1 + 1, 1, none⟩) zr_1).trans qr1_1
    have frr1_2 := (hb2.frozen (p := ⟨w0.heap.size + 1 + 1, 1, none⟩) zr_1).trans frr1_1
    have zr_2 := Nat.lt_of_lt_of_le zr_1 hb2.size
    have R_2 := Lib.hid (R_1.out.keep hb2)
    clear R_1 qg0_1 qg1_1 zg_1 qe0_1 qe1_1 qe2_1 ze_1 frr0_1 frr1_1 qr0_1 qr1_1 zr_1
    go_wp2_with fail
    refine (HF.out _).mono ?_
    rintro e w3 ⟨rfl, hb3⟩
    have H3 := bel_trans H2 hb3
    have SZ3 := Lib.hid hb3.size
    have qg0_3 := (hb3.cell (p := ⟨w0.heap.size, 0, none⟩) zg_2).trans qg0_2
    have qg1_3 := (hb3.cell (p := ⟨w0.heap.size, 1, none⟩) zg_2).trans qg1_2
    have zg_3 := Nat.lt_of_lt_of_le zg_2 hb3.size
    have qe0_3 := (hb3.cell (p := ⟨w0.heap.size + 1, 0, none⟩) ze_2).trans qe0_2
    have qe1_3 := (hb3.cell (p := ⟨w0.heap.size + 1, 1, none⟩) ze_2).trans qe1_2
    have qe2_3 := (hb3.cell (p := ⟨w0.heap.size + 1, 2, none⟩) ze_2).trans qe2_2
    have ze_3 := Nat.lt_of_lt_of_le ze_2 hb3.size
    have qr0_3 := (hb3.cell (p := ⟨w0.heap.size + 1 + 1, 0, none⟩) zr_2).trans qr0_2
    have frr0_3 := (hb3.frozen (p := ⟨w0.heap.size + 1 + 1, 0, none⟩) zr_2).trans frr0_2
    have qr1_3 := (hb3.cell (p := ⟨w0.heap.size + 1 + 1, 1, none⟩) zr_2).trans qr1_2
    have frr1_3 := (hb3.frozen (p := ⟨w0.heap.size + 1 + 1, 1, none⟩) zr_2).trans frr1_2
    have zr_3 := Nat.lt_of_lt_of_le zr_2 hb3.size
    have R_3 := Lib.hid (R_2.out.keep hb3)
    clear qg0_2 qg1_2 zg_2 qe0_2 qe1_2 qe2_2 ze_2 qr0_2 frr0_2 qr1_2 frr1_2 zr_2 R_2
    go_wp2
    try simp only [Exit.inBlock, Exit.then]
    refine bodyPost_ret (v := .tuple #[.agg #[.int .i64 0, .slice none 0 0], .bool false]) ?_ rfl ?_
    · rw [results_cell_tmp rfl]
      go_simp
    exact ⟨_, rfl, ownE_nil _ _, okS_nil, (H3.setCell (by have := ZBr.out; simp only; omega) _).setCell (by have := ZBr.out; simp only; omega) _⟩
  rw [hf] at hef
  have HF := Lib.hid hef
  have hfe := fun w h => findEdge n es x y (.slice ad es.length cap) w h hl (gVal_mono hg x y)
  have hlb := lbE_le es x y
  have hlt : fdE es x y = true → lbE es x y < es.length := by intro h; unfold fdE at h; simp at h; exact h.1
  have h40 := (gVal_parts hg).2.2.1
  have hB0 : putB n es (x, y, z) = decide ((pL es (x, y, z)).length ≤ 40) := by unfold putB; rw [hg, hf]; rfl
  have hN0 : putN n es (x, y, z) = if (pL es (x, y, z)).length ≤ 40 then n else 0 := by unfold putN; rw [hB0]; by_cases h : (pL es (x, y, z)).length ≤ 40 <;> simp [h]
  have hL0 : putL n es (x, y, z) = if (pL es (x, y, z)).length ≤ 40 then pL es (x, y, z) else [] := by unfold putL; rw [hB0]; by_cases h : (pL es (x, y, z)).length ≤ 40 <;> simp [h]
  rw [hB0, hN0, hL0]
  have hr : RowE w (.slice ad es.length cap) es := R.out.edges
  cases ad with
  | none =>
    have hc0 := (hok _ _ _ rfl).2.1 rfl
    have he0 : es = [] := by
      rcases hz0 with h | ⟨_, _, h, _⟩
      · exact h
      · cases h
    subst hc0 he0
    have hp0 : pL [] (x, y, z) = [(x, y, z)] := by simp [pL, lbE, fdN]
    rw [hp0]
    exact putCe n x y z w HV HF (Lib.hid hfe)
  | some a =>
    obtain ⟨b, off, spot⟩ := a
    have hspot := (hok _ _ _ rfl).2.2 _ rfl
    simp only at hspot
    subst hspot
    have hcap := (hok _ _ _ rfl).1
    have t1 : ∀ c p, p ≤ es.length → RowE w (.slice (some ⟨b, off, none⟩) p c) (es.take p) := by
      intro c p hp
      rcases hz0 with h | ⟨b', off', h, hb, hc⟩
      · subst h
        simp at hp
        subst hp
        exact ⟨_, c, rfl, .inl rfl⟩
      · injection h with h
        injection h with h1 h2 _
        subst h1 h2
        exact rowE_take hc hb hp
    have t3 : ∀ q, q ≤ es.length → RowE w (dropV b off es.length cap q) (es.drop q) := by
      intro q hq
      rcases hz0 with h | ⟨b', off', h, hb, hc⟩
      · subst h
        simp at hq
        subst hq
        unfold dropV
        exact ⟨_, _, rfl, .inl rfl⟩
      · injection h with h
        injection h with h1 h2 _
        subst h1 h2
        exact rowE_dropV hc hb q hcap
    have ok1 : ∀ p, p ≤ es.length → okS (.slice (some ⟨b, off, none⟩) p cap) := fun p hp => okS_some (by omega)
    have hT : ∀ p q, p ≤ es.length → (es.take p ++ (x, y, z) :: es.drop q).length ≤ 1048576 := by intro p q hp; simp; omega
    cases hfd : fdE es x y
    · have e0 : pL es (x, y, z) = es.take (lbE es x y) ++ (x, y, z) :: es.drop (lbE es x y) := by simp [pL, fdN, hfd]
      rw [e0]
      rw [hfd] at hfe
      generalize lbE es x y = p at hfe hlb hlt ⊢
      have HE := Lib.hid hfe
      have u3 := t3 p hlb
      unfold dropV at u3
      by_cases hcq : cap = p
      · subst hcq
        rw [if_pos rfl, Nat.sub_self] at u3
        exact putCd n es x y z b off cap w HV HF HE R (Lib.hid (t1 cap cap hlb)) (Lib.hid u3) (ok1 cap hlb) (okS_some (by omega)) (hT _ _ hlb) (by omega) (by omega) (by omega)
      · rw [if_neg hcq] at u3
        exact putCc n es x y z b off p cap w HV HF HE R (Lib.hid (t1 cap p hlb)) (Lib.hid u3) (ok1 p hlb) (okS_some (by omega)) (hT _ _ hlb) (by omega) (by omega) (by omega) (by omega) hcq
    · have e0 : pL es (x, y, z) = es.take (lbE es x y) ++ (x, y, z) :: es.drop (lbE es x y + 1) := by simp [pL, fdN, hfd]
      have hlt' := hlt hfd
      rw [e0]
      rw [hfd] at hfe
      generalize lbE es x y = p at hfe hlb hlt hlt' ⊢
      have HE := Lib.hid hfe
      have u3 := t3 (p + 1) hlt'
      unfold dropV at u3
      obtain ⟨q, hq⟩ : ∃ q, q = p + 1 := ⟨_, rfl⟩
      rw [← hq] at u3 ⊢
      by_cases hcq : cap = q
      · subst hcq
        rw [if_pos rfl, Nat.sub_self] at u3
        exact putCb n es x y z b off p cap w HV HF HE R (Lib.hid (t1 cap p hlb)) (Lib.hid u3) (ok1 p hlb) (okS_some (by omega)) (hT _ _ hlb) (by omega) (by omega) (by omega) (by omega) (by omega)
      · rw [if_neg hcq] at u3
        exact putCa n es x y z b off p q cap w HV HF HE R (Lib.hid (t1 cap p hlb)) (Lib.hid u3) (ok1 p hlb) (okS_some (by omega)) (hT _ _ hlb) (by omega) (by omega) (by omega) (by omega) (by omega) hcq
end Go.Proofs.Ytbhhbhopogkmnaa
