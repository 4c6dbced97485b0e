/- NextNodes, in the program and in the model. -/
import Derived.Test.YtjcfefpcilhelaaGraph3
import Derived.Test.YtjcfefpcilhelaaRowAt
namespace Go.Proofs.Ytjcfefpcilhelaa
open Go.RowKit Go.BigFrame Go.Deep
set_option linter.unusedVariables false
set_option linter.unusedSimpArgs false

/-- The nodes to which edges lead from a node. -/
def nxt (es : List Ed) (x : Int) : List Int := (es.filter (fun e => decide (e.1 = x))).map (·.2.1)
def nxtV (n : Int) (es : List Ed) (x : Int) : List Int := if gVal n es = true then nxt es x else []
theorem nxt_take (es : List Ed) (x : Int) {k : Nat} (hk : k < es.length) : nxt (es.take (k + 1)) x = nxt (es.take k) x ++ (if (es.getD k (0, 0, 0)).1 = x then [(es.getD k (0, 0, 0)).2.1] else []) := by
  have : es.take (k + 1) = es.take k ++ [es.getD k (0, 0, 0)] := by rw [List.take_succ_eq_append_getElem hk]; simp [List.getD, hk]
  rw [this]
  generalize es.getD k (0, 0, 0) = e
  unfold nxt
  rw [List.filter_append, List.map_append]
  congr 1
  by_cases h : e.1 = x <;> simp [List.filter_cons, h]
theorem nxt_len (es : List Ed) (x : Int) : (nxt es x).length ≤ es.length := by
  unfold nxt; rw [List.length_map]; exact List.length_filter_le _ _
theorem info_int2 : (Try.prog.info? 3).map (fun i => (i.zero, i.size, i.bytes)) = some (some (.int .i64 0), 1, 8) := by kernel_rfl
/-- A list of integers, in a slice of the call's own. -/
def OwnI (w w' : World) (v : Value) (zs : List Int) : Prop := InR true w' w.heap.size w'.heap.size v zs.length 1 (fun i => .int .i64 (zs.getD i 0))
theorem own_keep {w w' : World} {base : Nat} {t : TypeId} {sz : Nat} {v : Value} {n : Nat} {xs : List Value} (h : w.ownsRow base t sz v n xs) (hb : Below w.heap.size w w') : w'.ownsRow base t sz v n xs :=
  h.kept (row := none) ⟨hb.os, hb.tape, hb.output, hb.size, fun i hi _ => hb.block i hi⟩ (Classical.em _)
theorem OwnI.of {w w' : World} {base : Nat} {v : Value} {zs : List Int} (h : w'.ownsRow base 3 1 v zs.length (zs.map (Value.int .i64))) (hb : w.heap.size ≤ base) : OwnI w w' v zs := by
  have h1 := (InR.of_own h).wider (l := w.heap.size) (h := w'.heap.size) hb (Nat.le_refl _) (Nat.le_refl _)
  obtain ⟨a, cap, rfl, hz⟩ := h1
  refine ⟨a, cap, rfl, ?_⟩
  rcases hz with h0 | ⟨b, off, rfl, k1, k2, k3, hc⟩
  · exact .inl h0
  · refine .inr ⟨b, off, rfl, k1, k2, k3, fun i hi => ⟨?_, (hc i hi).2⟩⟩
    rw [(hc i hi).1]
    have hi2 : i < zs.length := by omega
    simp [List.getD, hi2]

set_option maxHeartbeats 1000000 in
theorem nextNodes (n : Int) (es : List Ed) (x : Int) (s : Value) (w : World) (hs : RowE w s es) (hl : es.length ≤ 1048576) :
    Calls Try.prog 38 #[.agg #[.int .i64 n, s], .int .i64 x] w fun e w' => ∃ v, e = .returned v ∧ OwnI w w' v (nxtV n es x) ∧ Below w.heap.size w w' := by
  have hl2 : es.length ≤ 281474976710656 := by omega
  have hB : ∀ A, Below w.heap.size w (w.alloc A) := fun A => (Below.refl _ _).alloc (Nat.le_refl _) _
  have hgv := fun A => graphValid n es s (w.alloc A) (hs.keep (hB A)) hl2
  obtain ⟨ad, cap, hs0, hz0⟩ := id hs
  subst hs0
  cases hg : gVal n es
  · have e0 : nxtV n es x = [] := by unfold nxtV; rw [hg]; rfl
    rw [e0]
    rw [hg] at hgv
    have HV := Lib.hid hgv
    have HB := Lib.hid hB
    clear hgv hz0 e0 hB
    go_enter Try.func38, Try.ntmps38
    go_wp2_with (go_at_call 76; refine (HV.out _).mono ?_; rintro e w1 ⟨rfl, hb1⟩)
    go_ret
    exact ⟨_, rfl, ⟨none, 0, rfl, .inl rfl⟩, bel_trans (HB.out _) hb1⟩
  have e0 : nxtV n es x = nxt es x := by unfold nxtV; rw [if_pos hg]
  rw [e0]
  rw [hg] at hgv
  have HV := Lib.hid hgv
  have HB := Lib.hid hB
  have hz := Lib.hid hz0
  obtain ⟨i0, hi, hz0', hz1, hz2⟩ := info_parts info_int2
  have HI : Hid (Try.prog.info? 3 = some i0 ∧ i0.zero = some (.int .i64 0) ∧ i0.size = 1 ∧ i0.bytes = 8) := Lib.hid ⟨hi, hz0', hz1, hz2⟩
  clear hgv hz0 e0 hB hi hz0' hz1 hz2 hs
  go_enter Try.func38, Try.ntmps38
  go_wp2_with (go_at_call 76; refine (HV.out _).mono ?_; rintro e w1 ⟨rfl, hb1⟩; have x0 := hb1.cell (p := ⟨w.heap.size, 0, none⟩) (by simp); have x1 := hb1.cell (p := ⟨w.heap.size, 1, none⟩) (by simp))
  have hB1 := bel_trans (HB.out _) hb1
  have hs1 : w.heap.size < w1.heap.size := Nat.lt_of_lt_of_le (by simp) hb1.size
  clear x0 x1 hb1
  go_loopw [14, 5] (fun c v wr => ∃ k : Nat, k ≤ es.length ∧ c = .int .i64 k ∧ wr.ownsRow w.heap.size 3 1 v (nxt (es.take k) x).length ((nxt (es.take k) x).map (Value.int .i64)) ∧ Below w.heap.size w wr) (fun c _ _ => es.length - (intOf c).toNat)
  case atStart => exact ⟨0, Nat.zero_le _, rfl, ⟨by simp [nxt], .inl ⟨rfl, by simp [nxt]⟩⟩, hB1⟩
  case round =>
    obtain ⟨k, hk, rfl, hown, hbel⟩ := hrel
    have HO := Lib.hid hown
    clear hown
    by_cases hlt : k < es.length
    · have hlt' : (k : Int) < es.length := by omega
      rcases hz.out with h0 | ⟨b, off, rfl, hb, hc⟩
      · rw [h0] at hlt; simp at hlt
      obtain ⟨p, q, r, hp⟩ : ∃ p q r, (p, q, r) = es.getD k (0, 0, 0) := ⟨_, _, _, rfl⟩
      have h1 := hc k hlt
      rw [← hp] at h1
      simp only at h1
      have c0 := (hbel.cell (p := ⟨b, off + k * 3, none⟩) hb).trans h1.1
      have c1 := (hbel.cell (p := ⟨b, off + k * 3 + 1, none⟩) hb).trans h1.2.1
      have c2 := (hbel.cell (p := ⟨b, off + k * 3 + 2, none⟩) hb).trans h1.2.2
      have ht := nxt_take es x hlt
      rw [← hp] at ht
      simp only at ht
      clear hc h1 hp
      by_cases hpx : p = x
      · rw [if_pos hpx] at ht
        have HT := Lib.hid ht
        have d1 : (p == x) = true := by simpa using hpx
        have hln : (nxt (es.take k) x).length ≤ k := Nat.le_trans (nxt_len _ _) (by simp; omega)
        clear ht hpx
        obtain ⟨hi, hz0, hz1, hz2⟩ := HI.out
        go_wp2_with (at_builtin; refine wpList_append_own _ rfl (.tmp 22) (.tmp 25) 28 rfl w.heap.size 3 i0 (.int .i64 0) 1 8 Try.underlying28 hi hz0 hz1 hz2 rfl (by decide) _ _ _ rfl ((HO.out.alloc _).alloc _) ⟨wr.heap.size + 1, 0, none⟩ 1 1 [.int .i64 q] rfl rfl ?c1 ?c2 ?c3 ?c4 ?c5 ?_)
        case c1 => exact fun j u hj => by simpa using cell_one_new (wr.alloc (Obj.cells #[.int .i64 p, .int .i64 q, .int .i64 r] 36)) (.int .i64 q) 3 j u hj
        case c2 => simp [Value.oneCell']
        case c3 => unfold maxLen; omega
        case c4 => omega
        case c5 => have := hbel.size; simp; omega
        intro v' w6 hown6 hgrow6 _
        have hown6' : w6.ownsRow w.heap.size 3 1 v' (nxt (es.take (k + 1)) x).length ((nxt (es.take (k + 1)) x).map (Value.int .i64)) := by rw [HT.out]; simpa using hown6
        have H7 := Lib.hid hown6'
        have H8 : Hid (Below w.heap.size w w6) := Lib.hid (((hbel.alloc hbel.size _).alloc (by have := hbel.size; simp; omega) _).grown hgrow6 (by have := hbel.size; simp; omega) (fun q hq => (HO.out.lt q hq).1))
        clear hown6 hown6' hgrow6 hi hz0 hz1 hz2
        go_wp2
        go_roundw
        case rel => first | exact ⟨k + 1, by omega, by go_num, H7.out, H8.out⟩ | ((repeat apply Exists.intro); exact ⟨⟨k + 1, by omega, by go_num, H7.out, H8.out⟩, rfl⟩)
        case measure => simp [intOf]; omega
      · rw [if_neg hpx, List.append_nil] at ht
        have HT := Lib.hid ht
        have d1 : (p == x) = false := by simpa using hpx
        clear ht hpx
        go_wp2
        go_roundw
        case rel => first | exact ⟨k + 1, by omega, by go_num, by rw [HT.out]; exact HO.out.alloc _, hbel.alloc hbel.size _⟩ | ((repeat apply Exists.intro); exact ⟨⟨k + 1, by omega, by go_num, by rw [HT.out]; exact HO.out.alloc _, hbel.alloc hbel.size _⟩, rfl⟩)
        case measure => simp [intOf]; omega
    · have hke : k = es.length := by omega
      have hkk : ¬ ((k : Int) < es.length) := by omega
      have ht : es.take k = es := by rw [hke, List.take_length]
      rw [ht] at HO
      have HK := Lib.hid hke
      clear hke ht
      go_wp2
      go_ret
      exact ⟨_, rfl, OwnI.of HO.out (by omega), hbel⟩

theorem own_empty (w : World) (t : TypeId) (B : Nat) (hB : B ≤ w.heap.size) : (w.alloc (Obj.cells #[] t)).ownsRow B t 1 (.slice (some ⟨w.heap.size, 0, none⟩) 0 0) 0 [] :=
  ⟨rfl, .inr ⟨w.heap.size, 0, #[], rfl, hB, blk_alloc_new _ _, Nat.le_refl _, by unfold maxLen; omega, rfl, rfl⟩⟩

end Go.Proofs.Ytjcfefpcilhelaa
