/- slices.Concat of slices of edges. PutEdge of the program. PutEdge of the program: the way on. PutEdge of the program: what it answers. -/
import Derived.Test.YtbinpaaihdcnlaaRowAt
import Derived.Test.YtbinpaaihdcnlaaFind3
import Derived.Lib.AppendZeros
import Derived.Laws.AppendOwnNone
import Derived.Laws.ResultCell
import Derived.Deep.RegionHeld3
namespace Go.Proofs.Ytbinpaaihdcnlaa
open Go.RowKit Go.BigFrame Go.Deep
set_option linter.unusedVariables false
set_option linter.unusedSimpArgs false

theorem own_keep3 {w w' : World} {base : Nat} {t : TypeId} {sz : Nat} {v : Value} {n : Nat} {xs : List Value} (h : w.ownsRow base t sz v n xs) (hb : Below w.heap.size w w') : w'.ownsRow base t sz v n xs :=
  h.kept (row := none) ⟨hb.os, hb.tape, hb.output, hb.size, fun i hi _ => hb.block i hi⟩ (Classical.em _)
/-- The cells of a row of edges, as a list. -/
def cellsE (es : List Ed) : List Value := (List.range (es.length * 3)).map (cellE es)
theorem cellsE_len (es : List Ed) : (cellsE es).length = es.length * 3 := by simp [cellsE]
theorem cellsE_get (es : List Ed) (j : Nat) (u : Value) (h : (cellsE es)[j]? = some u) : j < es.length * 3 ∧ u = cellE es j := by
  unfold cellsE at h
  rw [List.getElem?_map] at h
  by_cases hj : j < es.length * 3
  · simp [hj] at h; exact ⟨hj, h.symm⟩
  · simp [hj] at h
theorem cellE_app1 (es fs : List Ed) {j : Nat} (h : j < es.length * 3) : cellE (es ++ fs) j = cellE es j := by
  have : j / 3 < es.length := by omega
  simp only [cellE, List.getD, List.getElem?_append_left this]
theorem cellE_app2 (es fs : List Ed) (j : Nat) : cellE (es ++ fs) (es.length * 3 + j) = cellE fs j := by
  have h1 : (es.length * 3 + j) / 3 = es.length + j / 3 := by omega
  have h2 : (es.length * 3 + j) % 3 = j % 3 := by omega
  have h3 : es.length ≤ es.length + j / 3 := by omega
  simp only [cellE, List.getD, h1, h2, List.getElem?_append_right h3, Nat.add_sub_cancel_left]
theorem cellsE_app (es fs : List Ed) : cellsE (es ++ fs) = cellsE es ++ cellsE fs := by
  unfold cellsE
  rw [List.length_append, Nat.add_mul, List.range_add, List.map_append, List.map_map]
  congr 1
  · apply List.map_congr_left
    intro j hj
    exact cellE_app1 es fs (by simpa using hj)
  · apply List.map_congr_left
    intro j hj
    exact cellE_app2 es fs j
theorem cellsE_one (es : List Ed) : ∀ u ∈ cellsE es, u.oneCell' = true := by
  intro u hu
  unfold cellsE at hu
  rw [List.mem_map] at hu
  obtain ⟨j, _, rfl⟩ := hu
  rfl
/-- A list of edges, in a slice of the call's own. -/
def OwnE (w w' : World) (v : Value) (es : List Ed) : Prop := InR true w' w.heap.size w'.heap.size v es.length 3 (cellE es)
theorem OwnE.of {w w' : World} {base : Nat} {v : Value} {es : List Ed} (h : w'.ownsRow base 71 3 v es.length (cellsE es)) (hb : w.heap.size ≤ base) : OwnE w w' v es := by
  have h1 := (InR.of_own h).wider (l := w.heap.size) (h := w'.heap.size) hb (Nat.le_refl _) (Nat.le_refl _)
  obtain ⟨a, cap, rfl, hz⟩ := h1
  refine ⟨a, cap, rfl, ?_⟩
  rcases hz with h0 | ⟨b, off, rfl, k1, k2, k3, hc⟩
  · exact .inl h0
  · refine .inr ⟨b, off, rfl, k1, k2, k3, fun i hi => ⟨?_, (hc i hi).2⟩⟩
    rw [(hc i hi).1]
    simp [cellsE, List.getD, hi]

theorem growE (n : Nat) (w : World) (hn : n ≤ 4194304) :
    Calls Try.prog 122 #[.slice none 0 0, .int .i64 (n : Int)] w fun e w' => ∃ v, e = .returned v ∧ w'.ownsRow w.heap.size 71 3 v 0 [] ∧ Below w.heap.size w w' := by
  by_cases h0 : n = 0
  · subst h0
    go_enter Try.func122, Try.ntmps122
    go_wp2
    go_ret
    exact ⟨_, rfl, ⟨rfl, .inl ⟨rfl, rfl⟩⟩, Below.refl _ _⟩
  · have hp : (0 : Int) < n := by omega
    obtain ⟨i0, hi, hz0, hz1, hz2⟩ := info_parts info_edge
    have hr := fun w : World => Go.Lib.run_append_nil_zeros (P := Try.prog) w 23 3 23 71 i0 (.agg #[.int .i64 0, .int .i64 0, .int .i64 0]) .i64 .i64 Try.underlying23 Try.underlying3 hi hz0 n (by omega) (by rw [hz1]; omega) (by omega) (by rw [hz2]; omega)
    have HR := Lib.hid hr
    clear hr hi hz0 hz1 hz2
    go_enter Try.func122, Try.ntmps122
    go_wp2_with (at_builtin; refine Go.Lib.wpList_append_run _ rfl (.tmp 20) (.tmp 21) 23 3 rfl _ _ rfl rfl _ _ (HR.out _) ?_)
    go_ret
    refine ⟨_, rfl, ⟨rfl, .inr ⟨w.heap.size, _, _, rfl, Nat.le_refl _, blk_alloc_new _ _, Nat.zero_le _, grownCap_le_maxLen _ _ _ _ (by unfold maxLen; omega), ?_, by simp⟩⟩, ((Below.refl _ _).alloc (Nat.le_refl _) _).drew⟩
    have := grownCap_ge w n 0 71
    simp only [Array.size_append, size_zeroCells]
    simp only [List.size_toArray, List.length_cons, List.length_nil]
    omega

/-- How many edges there are in the first k lists. -/
def catE (ess : List (List Ed)) (k : Nat) : List Ed := (ess.take k).flatten
def lens (ess : List (List Ed)) (k : Nat) : Nat := (catE ess k).length
theorem lens_succ (ess : List (List Ed)) {k : Nat} (h : k < ess.length) : catE ess (k + 1) = catE ess k ++ ess.getD k [] := by
  unfold catE
  rw [List.take_succ_eq_append_getElem h, List.flatten_append]
  simp [List.getD, h]
theorem lens_le (ess : List (List Ed)) (k : Nat) : lens ess k ≤ ess.flatten.length := by
  unfold lens catE
  conv => rhs; rw [← List.take_append_drop k ess, List.flatten_append, List.length_append]
  omega

set_option maxRecDepth 20000 in
set_option maxHeartbeats 2000000 in
theorem concat (ess : List (List Ed)) (ss : Nat → Value) (B cap : Nat) (w : World) (hB : B < w.heap.size) (hN : ess.length ≤ 3) (hT : ess.flatten.length ≤ 1048576)
    (hss : ∀ k, k < ess.length → w.cell? ⟨B, k, none⟩ = some (ss k) ∧ RowE w (ss k) (ess.getD k []) ∧ okS (ss k)) :
    Calls Try.prog 92 #[.slice (some ⟨B, 0, none⟩) ess.length cap] w fun e w' => ∃ v, e = .returned v ∧ OwnE w w' v ess.flatten ∧ okS v ∧ Below w.heap.size w w' := by
  have HS := Lib.hid hss
  clear hss
  obtain ⟨i0, hi, hz0, hz1, hz2⟩ := info_parts info_edge
  have HI : Hid (Try.prog.info? 71 = some i0 ∧ i0.zero = some (.agg #[.int .i64 0, .int .i64 0, .int .i64 0]) ∧ i0.size = 3 ∧ i0.bytes = 24) := Lib.hid ⟨hi, hz0, hz1, hz2⟩
  clear hi hz0 hz1 hz2
  go_enter Try.func92, Try.ntmps92
  go_wp2
  go_loopw [11, 3] (fun c d wr => ∃ k : Nat, k ≤ ess.length ∧ c = .int .i64 k ∧ d = .int .i64 (lens ess k : Nat) ∧ Below w.heap.size w wr) (fun c _ _ => ess.length - (intOf c).toNat)
  case atStart => exact ⟨0, Nat.zero_le _, rfl, rfl, Below.refl _ _⟩
  case round =>
    obtain ⟨k, hk, rfl, rfl, hbel⟩ := hrel
    have hle := lens_le ess k
    by_cases hlt : k < ess.length
    · have hlt' : (k : Int) < ess.length := by omega
      obtain ⟨h1, h2, h3⟩ := HS.out k hlt
      obtain ⟨a, c0, hs0, hz⟩ := h2
      rw [hs0] at h1
      have c1 := (hbel.cell (p := ⟨B, k, none⟩) hB).trans h1
      have hl2 : lens ess (k + 1) = lens ess k + (ess.getD k []).length := by unfold lens; rw [lens_succ ess hlt, List.length_append]
      have hle2 := lens_le ess (k + 1)
      obtain ⟨L, hL⟩ : ∃ L, L = (ess.getD k []).length := ⟨_, rfl⟩
      rw [← hL] at c1 hl2
      have HL := Lib.hid hl2
      have hneg : decide ((lens ess k : Int) + L < 0) = false := decide_eq_false (by omega)
      have hsum : lens ess k + L ≤ 1048576 := by omega
      clear h1 h3 hz hs0 hl2 hL hle2
      go_wp2
      go_roundw
      case rel => exact ⟨k + 1, by omega, by go_num, by rw [HL.out]; go_num, hbel⟩
      case measure => simp [intOf]; omega
    · have hke : k = ess.length := by omega
      have hkk : ¬ ((k : Int) < ess.length) := by omega
      have hB2 : B < wr.heap.size := Nat.lt_of_lt_of_le hB hbel.size
      have HK := Lib.hid hke
      clear hke
      go_wp2_with (go_at_call 122; refine (growE (lens ess k) _ (by omega)).mono ?_; rintro e w1 ⟨v1, rfl, hown, hb1⟩)
      have hown1 : w1.ownsRow w.heap.size 71 3 v1 0 [] := by
        obtain ⟨h1, h2⟩ := hown
        refine ⟨h1, ?_⟩
        rcases h2 with h2 | ⟨g, cp, cur, e1, e2, e3⟩
        · exact .inl h2
        · exact .inr ⟨g, cp, cur, e1, Nat.le_trans hbel.size e2, e3⟩
      have HO := Lib.hid hown1
      have hbel1 := bel_trans hbel hb1
      clear hown hown1 hb1
      go_loopw [27, 6] (fun c v ws => ∃ m : Nat, m ≤ ess.length ∧ c = .int .i64 m ∧ ws.ownsRow w.heap.size 71 3 v (catE ess m).length (cellsE (catE ess m)) ∧ Below w.heap.size w ws) (fun c _ _ => ess.length - (intOf c).toNat)
      case atStart => exact ⟨0, Nat.zero_le _, rfl, HO.out, hbel1⟩
      case round =>
        obtain ⟨m, hm, rfl, hown, hbelm⟩ := hrel
        have HM := Lib.hid hown
        clear hown
        by_cases hlt : m < ess.length
        · have hlt' : (m : Int) < ess.length := by omega
          obtain ⟨h1, h2, h3⟩ := HS.out m hlt
          obtain ⟨a, c0, hs0, hz⟩ := h2
          rw [hs0] at h1 h3
          have c1 := (hbelm.cell (p := ⟨B, m, none⟩) hB).trans h1
          have hle1 := lens_le ess (m + 1)
          have hTk := Lib.hid (lens_succ ess hlt)
          have hl2 : (catE ess (m + 1)).length = (catE ess m).length + (ess.getD m []).length := by rw [hTk.out, List.length_append]
          unfold lens at hle1
          obtain ⟨es, hes⟩ : ∃ es, es = ess.getD m [] := ⟨_, rfl⟩
          rw [← hes] at c1 hz hl2 h3 hTk
          have HL := Lib.hid hl2
          have hbound : (catE ess m).length + es.length ≤ 1048576 := by omega
          have hws := hbelm.size
          obtain ⟨hi, hz0, hz1, hz2⟩ := HI.out
          cases a with
          | none =>
            have hc0 := (h3 _ _ _ rfl).2.1 rfl
            subst hc0
            have he0 : es = [] := by
              rcases hz with h | ⟨_, _, h, _⟩
              · exact h
              · cases h
            rw [he0] at c1 hTk
            simp only [List.length_nil] at c1
            clear h1 h3 hz hs0 hl2 hle1 hes
            go_wp2_with (at_builtin; (refine wpList_append_own_none rfl (.tmp 31) (.tmp 32) 23 rfl w.heap.size 71 i0 3 Try.underlying23 hi _ _ _ rfl HM.out rfl ?_))
            go_roundw
            case rel => first | exact ⟨m + 1, by omega, by go_num, by rw [hTk.out, List.append_nil]; exact HM.out, hbelm⟩ | ((repeat apply Exists.intro); exact ⟨⟨m + 1, by omega, by go_num, by rw [hTk.out, List.append_nil]; exact HM.out, hbelm⟩, rfl⟩)
            case measure => simp [intOf]; omega
          | some ad =>
            have hnews : ∀ j u, (cellsE es)[j]? = some u → wr.cell? (ad.add j) = some u := by
              intro j u hu
              obtain ⟨hj, rfl⟩ := cellsE_get es j u hu
              rcases hz with h | ⟨b, off, h, hb, hc⟩
              · rw [h] at hj; simp at hj
              · injection h with h
                subst h
                rw [Go.WideShapes.add_plain, hbelm.cell (p := ⟨b, off + j, none⟩) hb]
                obtain ⟨d0, d1, d2⟩ := hc (j / 3) (by omega)
                have hj3 : j % 3 = 0 ∨ j % 3 = 1 ∨ j % 3 = 2 := by omega
                rcases hj3 with h | h | h
                · have e : j = j / 3 * 3 := by omega
                  rw [e, cellE0]; exact d0
                · have e : j = j / 3 * 3 + 1 := by omega
                  rw [e, cellE1, ← Nat.add_assoc]; exact d1
                · have e : j = j / 3 * 3 + 2 := by omega
                  rw [e, cellE2, ← Nat.add_assoc]; exact d2
            have HNW := Lib.hid hnews
            clear h1 h3 hz hs0 hl2 hle1 hes hnews
            go_wp2_with (at_builtin; refine wpList_append_own _ rfl (.tmp 31) (.tmp 32) 23 rfl w.heap.size 71 i0 (.agg #[.int .i64 0, .int .i64 0, .int .i64 0]) 3 24 Try.underlying23 hi hz0 hz1 hz2 rfl (by decide) _ _ _ rfl HM.out ad es.length c0 (cellsE es) rfl (cellsE_len es) HNW.out (cellsE_one es) ?c3 ?c4 hws ?_)
            case c3 => unfold maxLen; omega
            case c4 => omega
            intro v' w6 hown6 hgrow6 _
            have hown6' : w6.ownsRow w.heap.size 71 3 v' (catE ess (m + 1)).length (cellsE (catE ess (m + 1))) := by rw [HL.out, hTk.out, cellsE_app]; exact hown6
            have H7 := Lib.hid hown6'
            have H8 : Hid (Below w.heap.size w w6) := Lib.hid (hbelm.grown hgrow6 hws (fun q hq => (HM.out.lt q hq).1))
            clear hown6 hown6' hgrow6 hi hz0 hz1 hz2
            go_wp2
            go_roundw
            case rel => first | exact ⟨m + 1, by omega, by go_num, H7.out, H8.out⟩ | ((repeat apply Exists.intro); exact ⟨⟨m + 1, by omega, by go_num, H7.out, H8.out⟩, rfl⟩)
            case measure => simp [intOf]; omega
        · have hme : m = ess.length := by omega
          have hmm : ¬ ((m : Int) < ess.length) := by omega
          have ht : catE ess m = ess.flatten := by unfold catE; rw [hme, List.take_length]
          rw [ht] at HM
          have HK2 := Lib.hid hme
          clear hme ht
          go_wp2
          go_ret
          refine ⟨_, rfl, OwnE.of HM.out (Nat.le_refl _), ?_, hbelm⟩
          intro a n c e
          rcases HM.out.2 with ⟨e2, _⟩ | ⟨g, cp, cur, e2, _, _, hcp, _⟩
          · have e3 := e2.symm.trans e
            injection e3 with e4 e5 e6
            subst e4 e5 e6
            exact ⟨Nat.le_refl _, (fun _ => rfl), fun x h => by cases h⟩
          · have e3 := e2.symm.trans e
            injection e3 with e4 e5 e6
            subst e4 e5 e6
            exact ⟨hcp, (fun h => by cases h), fun x h => by injection h with h; rw [← h]⟩
end Go.Proofs.Ytbinpaaihdcnlaa
namespace Go.Proofs.Ytbinpaaihdcnlaa
open Go.RowKit Go.BigFrame Go.Deep
set_option linter.unusedVariables false
set_option linter.unusedSimpArgs false

/-- How many edges an edge replaces. -/
def fdN (es : List Ed) (a b : Int) : Nat := if fdE es a b = true then 1 else 0
/-- The edges with an edge in its place. -/
def pL (es : List Ed) (e : Ed) : List Ed := es.take (lbE es e.1 e.2.1) ++ e :: es.drop (lbE es e.1 e.2.1 + fdN es e.1 e.2.1)
def putB (n : Int) (es : List Ed) (e : Ed) : Bool := (gVal n es && eFits n e.1 e.2.1 e.2.2) && decide ((pL es e).length ≤ 40)
def putN (n : Int) (es : List Ed) (e : Ed) : Int := if putB n es e = true then n else 0
def putL (n : Int) (es : List Ed) (e : Ed) : List Ed := if putB n es e = true then pL es e else []

theorem ownE_nil (w w' : World) : OwnE w w' (.slice none 0 0) [] := ⟨none, 0, rfl, .inl rfl⟩
theorem okS_nil : okS (.slice none 0 0) := by
  intro a n c e
  injection e with e1 e2 e3
  subst e1 e2 e3
  exact ⟨Nat.le_refl _, (fun _ => rfl), fun x h => by cases h⟩
theorem okS_some {b off n c : Nat} (h : n ≤ c) : okS (.slice (some ⟨b, off, none⟩) n c) := by
  intro a n c e
  injection e with e1 e2 e3
  subst e1 e2 e3
  exact ⟨h, (fun h => by cases h), fun x h => by injection h with h; rw [← h]⟩
theorem rowE_take {w : World} {b off cap : Nat} {es : List Ed} (hc : ∀ i, i < es.length → w.cell? ⟨b, off + i * 3, none⟩ = some (.int .i64 (es.getD i (0, 0, 0)).1) ∧ w.cell? ⟨b, off + i * 3 + 1, none⟩ = some (.int .i64 (es.getD i (0, 0, 0)).2.1) ∧ w.cell? ⟨b, off + i * 3 + 2, none⟩ = some (.int .i64 (es.getD i (0, 0, 0)).2.2))
    (hb : b < w.heap.size) {p : Nat} (hp : p ≤ es.length) : RowE w (.slice (some ⟨b, off, none⟩) p cap) (es.take p) := by
  have hl : (es.take p).length = p := by rw [List.length_take]; omega
  refine ⟨_, cap, by rw [hl], .inr ⟨b, off, rfl, hb, fun i hi => ?_⟩⟩
  rw [hl] at hi
  have e : (es.take p).getD i (0, 0, 0) = es.getD i (0, 0, 0) := by simp [List.getD, hi]
  rw [e]
  exact hc i (by omega)
theorem rowE_drop {w : World} {b off cap : Nat} {es : List Ed} (hc : ∀ i, i < es.length → w.cell? ⟨b, off + i * 3, none⟩ = some (.int .i64 (es.getD i (0, 0, 0)).1) ∧ w.cell? ⟨b, off + i * 3 + 1, none⟩ = some (.int .i64 (es.getD i (0, 0, 0)).2.1) ∧ w.cell? ⟨b, off + i * 3 + 2, none⟩ = some (.int .i64 (es.getD i (0, 0, 0)).2.2))
    (hb : b < w.heap.size) (q : Nat) : RowE w (.slice (some ⟨b, off + q * 3, none⟩) (es.length - q) cap) (es.drop q) := by
  have hl : (es.drop q).length = es.length - q := by rw [List.length_drop]
  refine ⟨_, cap, by rw [hl], .inr ⟨b, off + q * 3, rfl, hb, fun i hi => ?_⟩⟩
  rw [hl] at hi
  have e : (es.drop q).getD i (0, 0, 0) = es.getD (q + i) (0, 0, 0) := by simp [List.getD, List.getElem?_drop]
  rw [e]
  have h := hc (q + i) (by omega)
  have e2 : off + (q + i) * 3 = off + q * 3 + i * 3 := by omega
  rw [e2] at h
  exact h

/-- What a slice from a place on is. -/
def dropV (b off len cap q : Nat) : Value := .slice (if cap = q then some ⟨b, off, none⟩ else some ⟨b, off + q * 3, none⟩) (len - q) (cap - q)
theorem rowE_dropV {w : World} {b off cap : Nat} {es : List Ed} (hc : ∀ i, i < es.length → w.cell? ⟨b, off + i * 3, none⟩ = some (.int .i64 (es.getD i (0, 0, 0)).1) ∧ w.cell? ⟨b, off + i * 3 + 1, none⟩ = some (.int .i64 (es.getD i (0, 0, 0)).2.1) ∧ w.cell? ⟨b, off + i * 3 + 2, none⟩ = some (.int .i64 (es.getD i (0, 0, 0)).2.2))
    (hb : b < w.heap.size) (q : Nat) (hcap : es.length ≤ cap) : RowE w (dropV b off es.length cap q) (es.drop q) := by
  unfold dropV
  by_cases h : cap = q
  · rw [if_pos h]
    have e : es.drop q = [] := List.drop_eq_nil_of_le (by omega)
    rw [e]
    have : es.length - q = 0 := by omega
    rw [this]
    exact ⟨_, _, rfl, .inl rfl⟩
  · rw [if_neg h]
    exact rowE_drop hc hb q
theorem okS_dropV {b off len cap q : Nat} (h : len ≤ cap) : okS (dropV b off len cap q) := by
  unfold dropV
  split <;> exact okS_some (by omega)

set_option maxRecDepth 100000 in
theorem concat3 (es1 es3 : List Ed) (x y z : Int) (s1 s3 : Value) (w : World) (h1 : RowE w s1 es1) (h3 : RowE w s3 es3) (o1 : okS s1) (o3 : okS s3) (hT : (es1 ++ (x, y, z) :: es3).length ≤ 1048576) (T1 T2 : TypeId) :
    Calls Try.prog 92 #[.slice (some ⟨w.heap.size + 1, 0, none⟩) 3 3] ((w.alloc (.cells #[.int .i64 x, .int .i64 y, .int .i64 z] T1)).alloc (.cells #[s1, .slice (some ⟨w.heap.size, 0, none⟩) 1 1, s3] T2)).drew
      fun e w' => ∃ v, e = .returned v ∧ OwnE w w' v (es1 ++ (x, y, z) :: es3) ∧ okS v ∧ Below w.heap.size w w' := by
  obtain ⟨W, hW⟩ : ∃ W, W = ((w.alloc (.cells #[.int .i64 x, .int .i64 y, .int .i64 z] T1)).alloc (.cells #[s1, .slice (some ⟨w.heap.size, 0, none⟩) 1 1, s3] T2)).drew := ⟨_, rfl⟩
  have hb : Below w.heap.size w W := by rw [hW]; exact (((Below.refl _ _).alloc (Nat.le_refl _) _).alloc (by simp) _).drew
  have hsz : W.heap.size = w.heap.size + 2 := by rw [hW]; simp
  have c0 : W.cell? ⟨w.heap.size + 1, 0, none⟩ = some s1 := by rw [hW]; go_simp
  have c1 : W.cell? ⟨w.heap.size + 1, 1, none⟩ = some (.slice (some ⟨w.heap.size, 0, none⟩) 1 1) := by rw [hW]; go_simp
  have c2 : W.cell? ⟨w.heap.size + 1, 2, none⟩ = some s3 := by rw [hW]; go_simp
  have d0 : W.cell? ⟨w.heap.size, 0, none⟩ = some (.int .i64 x) := by rw [hW]; go_simp
  have d1 : W.cell? ⟨w.heap.size, 1, none⟩ = some (.int .i64 y) := by rw [hW]; go_simp
  have d2 : W.cell? ⟨w.heap.size, 2, none⟩ = some (.int .i64 z) := by rw [hW]; go_simp
  rw [← hW]
  have hfl : [es1, [(x, y, z)], es3].flatten = es1 ++ (x, y, z) :: es3 := by simp
  have hc := concat [es1, [(x, y, z)], es3] (fun k => if k = 0 then s1 else if k = 1 then .slice (some ⟨w.heap.size, 0, none⟩) 1 1 else s3) (w.heap.size + 1) 3 W (by omega) (by simp) (by rw [hfl]; exact hT) (by
    intro k hk
    match k, hk with
    | 0, _ => exact ⟨c0, h1.keep hb, o1⟩
    | 1, _ => exact ⟨c1, ⟨some ⟨w.heap.size, 0, none⟩, 1, rfl, .inr ⟨w.heap.size, 0, rfl, by omega, fun i hi => by
        have : i = 0 := by simp at hi; omega
        subst this
        exact ⟨d0, d1, d2⟩⟩⟩, by
        intro a n c e
        injection e with e1 e2 e3
        subst e1 e2 e3
        exact ⟨Nat.le_refl _, (fun h => by cases h), fun x h => by injection h with h; rw [← h]⟩⟩
    | 2, _ => exact ⟨c2, h3.keep hb, o3⟩)
  rw [hfl] at hc
  refine hc.mono ?_
  rintro e w1 ⟨v, rfl, hown, hok, hb1⟩
  exact ⟨v, rfl, hown.wider (by omega) (Nat.le_refl _) (Nat.le_refl _), hok, bel_trans hb hb1⟩

end Go.Proofs.Ytbinpaaihdcnlaa
namespace Go.Proofs.Ytbinpaaihdcnlaa
open Go.RowKit Go.BigFrame Go.Deep
set_option linter.unusedVariables false
set_option linter.unusedSimpArgs false

end Go.Proofs.Ytbinpaaihdcnlaa
namespace Go.Proofs.Ytbinpaaihdcnlaa
open Go.RowKit Go.BigFrame Go.Deep
set_option linter.unusedVariables false
set_option linter.unusedSimpArgs false

end Go.Proofs.Ytbinpaaihdcnlaa
