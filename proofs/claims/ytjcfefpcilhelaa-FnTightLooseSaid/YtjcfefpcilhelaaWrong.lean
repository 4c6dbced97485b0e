/- A graph is copied, in the model. A graph, sometimes one that is not valid, in the model. -/
import Derived.Test.YtjcfefpcilhelaaDrawG1
import Derived.Deep.Onto
import Derived.Deep.AppendLies
namespace Go.Proofs.Ytjcfefpcilhelaa
open Go.RowKit Go.BigFrame Go.Deep
set_option linter.unusedVariables false
set_option linter.unusedSimpArgs false
set_option linter.unnecessarySimpa false

/-- append of nothing to a slice of the call's own, as one step of a region that draws. -/
theorem step_append_own_none {P : Program} {ops : Array Oper} {o : Oper} {a : Act} {w : World} {K : Act → World → Prop} {Q : Exit → Act → World → Prop} {E : Prop}
    (hg : o.guard = none) (s x : Operand) (t : TypeId) (ho : o.op = .call { callee := .builtin .append, args := #[s, x], argTypes := #[t, t] })
    (base : Nat) (e : TypeId) (i : TypeInfo) (size : Nat) (ht : P.underlying t = some (.slice e)) (hi : P.info? e = some i)
    (v : Value) (n : Nat) (xs : List Value) (hs : a.eval s = v) (hown : w.ownsRow base e size v n xs) (hx : a.eval x = .slice none 0 0) (h : K (a.put o.dst v) w) :
    if Region.wanted o (yielded ops a.tmps) = true then Oper.wp P o a w K Q else E := by
  have hw : Region.wanted o (yielded ops a.tmps) = true := by simp [Region.wanted, hg]
  rw [if_pos hw]
  have hrun := run_append_owned_none (P := P) (w := w) base t o.type e i size ht hi v n xs hown
  unfold Oper.wp
  simp [execOp, ho, resolve, invoke, builtin, hs, hx, hrun, Result.andThen]
  exact h
theorem news_of {w : World} {ad : Addr} {n c : Nat} {es : List Ed} (h : RowE w (.slice (some ad) n c) es) : ∀ j u, (cellsE es)[j]? = some u → w.cell? (ad.add j) = some u := by
  intro j u hu
  obtain ⟨hj, rfl⟩ := cellsE_get es j u hu
  obtain ⟨_, _, e, hz⟩ := h
  injection e with e1 e2 e3
  rcases hz with h0 | ⟨b, off, rfl, hb, hc⟩
  · rw [h0] at hj; simp at hj
  · injection e1 with e1
    subst e1
    obtain ⟨c0, c1, c2⟩ := hc (j / 3) (by omega)
    have h3 : j % 3 = 0 ∨ j % 3 = 1 ∨ j % 3 = 2 := by omega
    rcases h3 with h | h | h
    · have ej : j = j / 3 * 3 := by omega
      have : ((⟨b, off, none⟩ : Addr).add j) = ⟨b, off + j / 3 * 3, none⟩ := by rw [Addr.add_lit]; congr 1; omega
      rw [this, c0, ← cellE0]; congr 1; congr 1; omega
    · have : ((⟨b, off, none⟩ : Addr).add j) = ⟨b, off + j / 3 * 3 + 1, none⟩ := by rw [Addr.add_lit]; congr 1; omega
      rw [this, c1, ← cellE1]; congr 1; congr 1; omega
    · have : ((⟨b, off, none⟩ : Addr).add j) = ⟨b, off + j / 3 * 3 + 2, none⟩ := by rw [Addr.add_lit]; congr 1; omega
      rw [this, c2, ← cellE2]; congr 1; congr 1; omega
set_option maxRecDepth 20000 in
set_option maxHeartbeats 4000000 in
theorem l2Copy (n : Int) (es : List Ed) (s : Value) (w : World) (hs : RowE w s es) (hok : okS s) (hl : es.length ≤ 1048576) :
    Calls Try.prog 87 #[.agg #[.int .i64 n, s]] w fun e w' => ∃ v, e = .returned (.agg #[.int .i64 n, v]) ∧ w'.ownsRow (w.heap.size + 1) 36 3 v es.length (cellsE es) ∧ Below w.heap.size w w' := by
  obtain ⟨ad, cap, rfl, hz0⟩ := id hs
  obtain ⟨i0, hi, hz0', hz1, hz2⟩ := info_parts info_edge
  have HI : Hid (Try.prog.info? 36 = some i0 ∧ i0.zero = some (.agg #[.int .i64 0, .int .i64 0, .int .i64 0]) ∧ i0.size = 3 ∧ i0.bytes = 24) := Lib.hid ⟨hi, hz0', hz1, hz2⟩
  have hb2 : Below w.heap.size w ((w.alloc (.cells #[.int .i64 n, .slice ad es.length cap] 25)).alloc (.cells #[.int .i64 0, .slice none 0 0] 25)) := ((Below.refl _ _).alloc (Nat.le_refl _) _).alloc (by simp) _
  have hx0 : Box ((w.alloc (.cells #[.int .i64 n, .slice ad es.length cap] 25)).alloc (.cells #[.int .i64 0, .slice none 0 0] 25)) w.heap.size 25 #[.int .i64 n, .slice ad es.length cap] := (Box.new w _ _).alloc _
  have hx1 : Box ((w.alloc (.cells #[.int .i64 n, .slice ad es.length cap] 25)).alloc (.cells #[.int .i64 0, .slice none 0 0] 25)) (w.heap.size + 1) 25 #[.int .i64 0, .slice none 0 0] := by
    have := Box.new (w.alloc (.cells #[.int .i64 n, .slice ad es.length cap] 25)) 25 #[.int .i64 0, .slice none 0 0]
    simpa using this
  have K0 := Lib.hid (And.intro hb2.drew (And.intro hx0.drew hx1.drew))
  have HS := Lib.hid hs
  obtain ⟨ho1, ho2, ho3⟩ := hok _ _ _ rfl
  clear hz0 hi hz0' hz1 hz2 hb2 hx0 hx1
  cases ad with
  | none =>
    have hes : es = [] := by
      obtain ⟨_, _, e, hz⟩ := hs
      injection e with e1 e2 e3
      subst e1
      rcases hz with h | ⟨b, off, h, _⟩
      · exact h
      · cases h
    have hcap : cap = 0 := ho2 rfl
    subst hes hcap
    clear hs ho1 ho2 ho3
    go_enter Try.func87, Try.ntmps87
    go_wp2_with fail
    generalize ((w.alloc (.cells #[.int .i64 n, .slice none ([] : List Ed).length 0] 25)).alloc (.cells #[.int .i64 0, .slice none 0 0] 25)) = W1 at K0 ⊢

    refine wp_region_inv (fun L a w' => ∃ (b0 b1 b2 b3 b4 b5 b6 b7 : Bool) (y : Nat) (va : Option Addr) (vc : Nat), L = #[b0, b1, b2, b3, b4, b5, b6, b7] ∧ a = { tmps := #[Value.agg #[.int .i64 n, Value.slice none ([] : List Ed).length 0], Value.pointer (some ⟨w.heap.size, 0, none⟩), Value.pointer (some ⟨w.heap.size + 1, 0, none⟩), sel b0 (Value.pointer (some ⟨w.heap.size, 0, none⟩)) undef, sel b1 (Value.int .i64 n) undef, sel b2 (Value.slice (some ⟨y, 0, none⟩) 0 0) undef, sel b3 (Value.pointer (some ⟨w.heap.size, 1, none⟩)) undef, sel b4 (Value.slice none ([] : List Ed).length 0) undef, sel b5 (Value.slice va ([] : List Ed).length vc) undef, sel b6 (Value.agg #[.int .i64 n, .slice va ([] : List Ed).length vc]) undef], defers := [] } ∧ Hid ((Below w.heap.size w w') ∧ (Box w' w.heap.size 25 #[.int .i64 n, Value.slice none ([] : List Ed).length 0]) ∧ (b7 = false → Box w' (w.heap.size + 1) 25 #[.int .i64 0, .slice none 0 0]) ∧ (b2 = true → b5 = false → w'.ownsRow (w.heap.size + 2) 36 3 (.slice (some ⟨y, 0, none⟩) 0 0) 0 []) ∧ (b5 = true → w'.ownsRow (w.heap.size + 2) 36 3 (.slice va ([] : List Ed).length vc) ([] : List Ed).length (cellsE [])) ∧ (b7 = true → Box w' (w.heap.size + 1) 25 #[.int .i64 n, .slice va ([] : List Ed).length vc]) ∧ (b1 = true → (b0) = true) ∧ (b4 = true → (b3) = true) ∧ (b5 = true → (b2 && b4) = true) ∧ (b6 = true → (b1 && b5) = true) ∧ (b7 = true → (b0 && b1 && b2 && b3 && b4 && b5 && b6) = true))) (by kernel_rfl) (by kernel_rfl) ?_ ?_ ?_
    · exact ⟨false, false, false, false, false, false, false, false, 0, none, 0, rfl, rfl, Lib.hid ⟨K0.out.1, K0.out.2.1, (fun _ => K0.out.2.2), (fun h => absurd h (by decide)), (fun h => absurd h (by decide)), (fun h => absurd h (by decide)), (fun h => absurd h (by decide)), (fun h => absurd h (by decide)), (fun h => absurd h (by decide)), (fun h => absurd h (by decide)), (fun h => absurd h (by decide))⟩⟩
    · rintro L a w' hL ⟨b0, b1, b2, b3, b4, b5, b6, b7, y, va, vc, rfl, rfl, HF⟩ k9 o9 ho hl hd
      have hk9 : k9 = 0 ∨ k9 = 1 ∨ k9 = 2 ∨ k9 = 3 ∨ k9 = 4 ∨ k9 = 5 ∨ k9 = 6 ∨ k9 = 7 := by have := (Array.getElem?_eq_some_iff.1 ho).1; simp at this; omega
      rcases hk9 with rfl | rfl | rfl | rfl | rfl | rfl | rfl | rfl
      · obtain rfl := Option.some.inj ho
        have hc0 : b0 = false := hl
        subst hc0
        have hc1 : b1 = false := by cases hx9 : b1 with | false => rfl | true => (have hy9 := HF.out.2.2.2.2.2.2.1 hx9; simp at hy9)
        subst hc1
        have hc6 : b6 = false := by cases hx9 : b6 with | false => rfl | true => (have hy9 := HF.out.2.2.2.2.2.2.2.2.2.1 hx9; simp at hy9)
        subst hc6
        have hc7 : b7 = false := by cases hx9 : b7 with | false => rfl | true => (have hy9 := HF.out.2.2.2.2.2.2.2.2.2.2 hx9; simp at hy9)
        subst hc7
        clear hl hd ho hL
        simp only [sel_t, sel_f]
        refine wpOp_step rfl ?_
        intro K' hK'
        go_simp
        exact hK' _ _ ⟨true, false, b2, b3, b4, b5, false, false, y, va, vc, rfl, rfl, Lib.hid ⟨HF.out.1, HF.out.2.1, HF.out.2.2.1, HF.out.2.2.2.1, HF.out.2.2.2.2.1, HF.out.2.2.2.2.2.1, (fun h => absurd h (by decide)), HF.out.2.2.2.2.2.2.2.1, HF.out.2.2.2.2.2.2.2.2.1, (fun h => absurd h (by decide)), (fun h => absurd h (by decide))⟩⟩
      · obtain rfl := Option.some.inj ho
        have hc1 : b1 = false := hl
        have hc0 : b0 = true := by first | (refine hd ⟨0, .data⟩ ?_ rfl; simp; done) | (refine hd ⟨0, .chain⟩ ?_ rfl; simp; done) | (refine hd ⟨0, .phase⟩ ?_ rfl; simp; done)
        subst hc1 hc0
        have hc6 : b6 = false := by cases hx9 : b6 with | false => rfl | true => (have hy9 := HF.out.2.2.2.2.2.2.2.2.2.1 hx9; simp at hy9)
        subst hc6
        have hc7 : b7 = false := by cases hx9 : b7 with | false => rfl | true => (have hy9 := HF.out.2.2.2.2.2.2.2.2.2.2 hx9; simp at hy9)
        subst hc7
        clear hl hd ho hL
        simp only [sel_t, sel_f]
        have x0 : w'.cell? ⟨w.heap.size, 0, none⟩ = some (.int .i64 n) := by simpa using HF.out.2.1.cell 0
        refine wpOp_step rfl ?_
        intro K' hK'
        go_simp
        exact hK' _ _ ⟨true, true, b2, b3, b4, b5, false, false, y, va, vc, rfl, rfl, Lib.hid ⟨HF.out.1, HF.out.2.1, HF.out.2.2.1, HF.out.2.2.2.1, HF.out.2.2.2.2.1, HF.out.2.2.2.2.2.1, (fun _ => rfl), HF.out.2.2.2.2.2.2.2.1, HF.out.2.2.2.2.2.2.2.2.1, (fun h => absurd h (by decide)), (fun h => absurd h (by decide))⟩⟩
      · obtain rfl := Option.some.inj ho
        have hc2 : b2 = false := hl
        subst hc2
        have hc5 : b5 = false := by cases hx9 : b5 with | false => rfl | true => (have hy9 := HF.out.2.2.2.2.2.2.2.2.1 hx9; simp at hy9)
        subst hc5
        have hc6 : b6 = false := by cases hx9 : b6 with | false => rfl | true => (have hy9 := HF.out.2.2.2.2.2.2.2.2.2.1 hx9; simp at hy9)
        subst hc6
        have hc7 : b7 = false := by cases hx9 : b7 with | false => rfl | true => (have hy9 := HF.out.2.2.2.2.2.2.2.2.2.2 hx9; simp at hy9)
        subst hc7
        clear hl hd ho hL
        simp only [sel_t, sel_f]
        have hsz : w.heap.size + 2 ≤ w'.heap.size := (HF.out.2.2.1 rfl).lt
        refine wpOp_step rfl ?_
        intro K' hK'
        go_simp
        exact hK' _ _ ⟨b0, b1, true, b3, b4, false, false, false, w'.heap.size, va, vc, rfl, rfl, Lib.hid ⟨(bel_trans HF.out.1 ((Below.refl _ _).alloc (Nat.le_refl _) _)), (HF.out.2.1.alloc _), (fun h => (HF.out.2.2.1 h).alloc _), (fun _ _ => own_empty3 w' 36 3 (w.heap.size + 2) hsz), (fun h => absurd h (by decide)), (fun h => absurd h (by decide)), HF.out.2.2.2.2.2.2.1, HF.out.2.2.2.2.2.2.2.1, (fun h => absurd h (by decide)), (fun h => absurd h (by decide)), (fun h => absurd h (by decide))⟩⟩
      · obtain rfl := Option.some.inj ho
        have hc3 : b3 = false := hl
        subst hc3
        have hc4 : b4 = false := by cases hx9 : b4 with | false => rfl | true => (have hy9 := HF.out.2.2.2.2.2.2.2.1 hx9; simp at hy9)
        subst hc4
        have hc5 : b5 = false := by cases hx9 : b5 with | false => rfl | true => (have hy9 := HF.out.2.2.2.2.2.2.2.2.1 hx9; simp at hy9)
        subst hc5
        have hc6 : b6 = false := by cases hx9 : b6 with | false => rfl | true => (have hy9 := HF.out.2.2.2.2.2.2.2.2.2.1 hx9; simp at hy9)
        subst hc6
        have hc7 : b7 = false := by cases hx9 : b7 with | false => rfl | true => (have hy9 := HF.out.2.2.2.2.2.2.2.2.2.2 hx9; simp at hy9)
        subst hc7
        clear hl hd ho hL
        simp only [sel_t, sel_f]
        refine wpOp_step rfl ?_
        intro K' hK'
        go_simp
        exact hK' _ _ ⟨b0, b1, b2, true, false, false, false, false, y, va, vc, rfl, rfl, Lib.hid ⟨HF.out.1, HF.out.2.1, HF.out.2.2.1, HF.out.2.2.2.1, HF.out.2.2.2.2.1, HF.out.2.2.2.2.2.1, HF.out.2.2.2.2.2.2.1, (fun h => absurd h (by decide)), (fun h => absurd h (by decide)), (fun h => absurd h (by decide)), (fun h => absurd h (by decide))⟩⟩
      · obtain rfl := Option.some.inj ho
        have hc4 : b4 = false := hl
        have hc3 : b3 = true := by first | (refine hd ⟨3, .data⟩ ?_ rfl; simp; done) | (refine hd ⟨3, .chain⟩ ?_ rfl; simp; done) | (refine hd ⟨3, .phase⟩ ?_ rfl; simp; done)
        subst hc4 hc3
        have hc5 : b5 = false := by cases hx9 : b5 with | false => rfl | true => (have hy9 := HF.out.2.2.2.2.2.2.2.2.1 hx9; simp at hy9)
        subst hc5
        have hc6 : b6 = false := by cases hx9 : b6 with | false => rfl | true => (have hy9 := HF.out.2.2.2.2.2.2.2.2.2.1 hx9; simp at hy9)
        subst hc6
        have hc7 : b7 = false := by cases hx9 : b7 with | false => rfl | true => (have hy9 := HF.out.2.2.2.2.2.2.2.2.2.2 hx9; simp at hy9)
        subst hc7
        clear hl hd ho hL
        simp only [sel_t, sel_f]
        have x0 : w'.cell? ⟨w.heap.size, 1, none⟩ = some (Value.slice none ([] : List Ed).length 0) := by simpa using HF.out.2.1.cell 1
        refine wpOp_step rfl ?_
        intro K' hK'
        go_simp
        exact hK' _ _ ⟨b0, b1, b2, true, true, false, false, false, y, va, vc, rfl, rfl, Lib.hid ⟨HF.out.1, HF.out.2.1, HF.out.2.2.1, HF.out.2.2.2.1, HF.out.2.2.2.2.1, HF.out.2.2.2.2.2.1, HF.out.2.2.2.2.2.2.1, (fun _ => rfl), (fun h => absurd h (by decide)), (fun h => absurd h (by decide)), (fun h => absurd h (by decide))⟩⟩
      · obtain rfl := Option.some.inj ho
        have hc5 : b5 = false := hl
        have hc2 : b2 = true := by first | (refine hd ⟨2, .data⟩ ?_ rfl; simp; done) | (refine hd ⟨2, .chain⟩ ?_ rfl; simp; done) | (refine hd ⟨2, .phase⟩ ?_ rfl; simp; done)
        have hc4 : b4 = true := by first | (refine hd ⟨4, .data⟩ ?_ rfl; simp; done) | (refine hd ⟨4, .chain⟩ ?_ rfl; simp; done) | (refine hd ⟨4, .phase⟩ ?_ rfl; simp; done)
        subst hc5 hc2 hc4
        have hc6 : b6 = false := by cases hx9 : b6 with | false => rfl | true => (have hy9 := HF.out.2.2.2.2.2.2.2.2.2.1 hx9; simp at hy9)
        subst hc6
        have hc7 : b7 = false := by cases hx9 : b7 with | false => rfl | true => (have hy9 := HF.out.2.2.2.2.2.2.2.2.2.2 hx9; simp at hy9)
        subst hc7
        clear hl hd ho hL
        simp only [sel_t, sel_f]
        have ho0 := HF.out.2.2.2.1 rfl rfl
        obtain ⟨hi, hz0, hz1, hz2⟩ := HI.out
        refine wpOp_step rfl ?_
        intro K' hK'
        refine step_append_own_none rfl (.tmp 5) (.tmp 7) 23 rfl (w.heap.size + 2) 36 i0 3 Try.underlying23 hi _ _ _ rfl ho0 rfl ?_
        exact hK' _ _ ⟨b0, b1, true, b3, true, true, false, false, y, (some ⟨y, 0, none⟩), 0, rfl, rfl, Lib.hid ⟨HF.out.1, HF.out.2.1, HF.out.2.2.1, (fun _ h => absurd h (by decide)), (fun _ => ho0), (fun h => absurd h (by decide)), HF.out.2.2.2.2.2.2.1, HF.out.2.2.2.2.2.2.2.1, (fun _ => rfl), (fun h => absurd h (by decide)), (fun h => absurd h (by decide))⟩⟩
      · obtain rfl := Option.some.inj ho
        have hc6 : b6 = false := hl
        have hc1 : b1 = true := by first | (refine hd ⟨1, .data⟩ ?_ rfl; simp; done) | (refine hd ⟨1, .chain⟩ ?_ rfl; simp; done) | (refine hd ⟨1, .phase⟩ ?_ rfl; simp; done)
        have hc5 : b5 = true := by first | (refine hd ⟨5, .data⟩ ?_ rfl; simp; done) | (refine hd ⟨5, .chain⟩ ?_ rfl; simp; done) | (refine hd ⟨5, .phase⟩ ?_ rfl; simp; done)
        subst hc6 hc1 hc5
        have hc7 : b7 = false := by cases hx9 : b7 with | false => rfl | true => (have hy9 := HF.out.2.2.2.2.2.2.2.2.2.2 hx9; simp at hy9)
        subst hc7
        clear hl hd ho hL
        simp only [sel_t, sel_f]
        refine wpOp_step rfl ?_
        intro K' hK'
        go_simp
        exact hK' _ _ ⟨b0, true, b2, b3, b4, true, true, false, y, va, vc, rfl, rfl, Lib.hid ⟨HF.out.1, HF.out.2.1, HF.out.2.2.1, HF.out.2.2.2.1, HF.out.2.2.2.2.1, HF.out.2.2.2.2.2.1, HF.out.2.2.2.2.2.2.1, HF.out.2.2.2.2.2.2.2.1, HF.out.2.2.2.2.2.2.2.2.1, (fun _ => rfl), (fun h => absurd h (by decide))⟩⟩
      · obtain rfl := Option.some.inj ho
        have hc7 : b7 = false := hl
        have hc0 : b0 = true := by first | (refine hd ⟨0, .data⟩ ?_ rfl; simp; done) | (refine hd ⟨0, .chain⟩ ?_ rfl; simp; done) | (refine hd ⟨0, .phase⟩ ?_ rfl; simp; done)
        have hc1 : b1 = true := by first | (refine hd ⟨1, .data⟩ ?_ rfl; simp; done) | (refine hd ⟨1, .chain⟩ ?_ rfl; simp; done) | (refine hd ⟨1, .phase⟩ ?_ rfl; simp; done)
        have hc2 : b2 = true := by first | (refine hd ⟨2, .data⟩ ?_ rfl; simp; done) | (refine hd ⟨2, .chain⟩ ?_ rfl; simp; done) | (refine hd ⟨2, .phase⟩ ?_ rfl; simp; done)
        have hc3 : b3 = true := by first | (refine hd ⟨3, .data⟩ ?_ rfl; simp; done) | (refine hd ⟨3, .chain⟩ ?_ rfl; simp; done) | (refine hd ⟨3, .phase⟩ ?_ rfl; simp; done)
        have hc4 : b4 = true := by first | (refine hd ⟨4, .data⟩ ?_ rfl; simp; done) | (refine hd ⟨4, .chain⟩ ?_ rfl; simp; done) | (refine hd ⟨4, .phase⟩ ?_ rfl; simp; done)
        have hc5 : b5 = true := by first | (refine hd ⟨5, .data⟩ ?_ rfl; simp; done) | (refine hd ⟨5, .chain⟩ ?_ rfl; simp; done) | (refine hd ⟨5, .phase⟩ ?_ rfl; simp; done)
        have hc6 : b6 = true := by first | (refine hd ⟨6, .data⟩ ?_ rfl; simp; done) | (refine hd ⟨6, .chain⟩ ?_ rfl; simp; done) | (refine hd ⟨6, .phase⟩ ?_ rfl; simp; done)
        subst hc7 hc0 hc1 hc2 hc3 hc4 hc5 hc6
        clear hl hd ho hL
        simp only [sel_t, sel_f]
        have hB := HF.out.2.2.1 rfl
        have c0 : w'.cell? ⟨w.heap.size + 1, 0, none⟩ = some (.int .i64 0) := by simpa using hB.cell 0
        have c1 : w'.cell? ⟨w.heap.size + 1, 1, none⟩ = some (.slice none 0 0) := by simpa using hB.cell 1
        have f0 := hB.frozen 0
        have f1 := hB.frozen 1
        refine wpOp_step rfl ?_
        intro K' hK'
        go_simp
        exact hK' _ _ ⟨true, true, true, true, true, true, true, true, y, va, vc, rfl, rfl, Lib.hid ⟨(((HF.out.1).setCell (by simp) _).setCell (by simp) _), ((HF.out.2.1.setOther (by omega) _ _).setOther (by omega) _ _), (fun h => absurd h (by decide)), (fun _ h => absurd h (by decide)), (fun _ => (hB.set 0 _).own (hB.own (HF.out.2.2.2.2.1 rfl) (by decide)) (by decide)), (fun _ => by simpa using (hB.set 0 (.int .i64 n)).set 1 (.slice va ([] : List Ed).length vc)), (fun h => by have := HF.out.2.2.2.2.2.2.1 h; simpa using this), (fun h => by have := HF.out.2.2.2.2.2.2.2.1 h; simpa using this), (fun h => by have := HF.out.2.2.2.2.2.2.2.2.1 h; simpa using this), (fun h => by have := HF.out.2.2.2.2.2.2.2.2.2.1 h; simpa using this), (fun _ => rfl)⟩⟩
    · rintro L a w' hL ⟨b0, b1, b2, b3, b4, b5, b6, b7, y, va, vc, rfl, rfl, HF⟩ hall
      have hc0 : b0 = true := hall 0 (by decide)
      have hc1 : b1 = true := hall 1 (by decide)
      have hc2 : b2 = true := hall 2 (by decide)
      have hc3 : b3 = true := hall 3 (by decide)
      have hc4 : b4 = true := hall 4 (by decide)
      have hc5 : b5 = true := hall 5 (by decide)
      have hc6 : b6 = true := hall 6 (by decide)
      have hc7 : b7 = true := hall 7 (by decide)
      subst hc0 hc1 hc2 hc3 hc4 hc5 hc6 hc7
      simp only [sel_t]
      have hB := HF.out.2.2.2.2.2.1 rfl
      have HE := Lib.hid (And.intro ((HF.out.2.2.2.2.1 rfl).mono (base' := w.heap.size + 1) (by omega)) HF.out.1)
      clear HF
      have c0 : w'.cell? ⟨w.heap.size + 1, 0, none⟩ = some (.int .i64 n) := by simpa using hB.cell 0
      have c1 : w'.cell? ⟨w.heap.size + 1, 1, none⟩ = some (.slice va ([] : List Ed).length vc) := by simpa using hB.cell 1
      go_wp2_with fail
      try simp only [Exit.inBlock, Exit.then]
      refine bodyPost_ret (v := .agg #[.int .i64 n, .slice va ([] : List Ed).length vc]) ?_ rfl ?_
      · rw [results_cell1 rfl]
        go_simp
      exact ⟨_, rfl, HE.out.1, HE.out.2⟩
  | some ad =>
    have hnews : ∀ w' , Below w.heap.size w w' → ∀ j u, (cellsE es)[j]? = some u → w'.cell? (ad.add j) = some u := fun w' h => news_of (HS.out.keep h)
    have HC := Lib.hid hnews
    clear hs ho1 ho2 ho3 hnews
    go_enter Try.func87, Try.ntmps87
    go_wp2_with fail
    generalize ((w.alloc (.cells #[.int .i64 n, .slice (some ad) es.length cap] 25)).alloc (.cells #[.int .i64 0, .slice none 0 0] 25)) = W1 at K0 ⊢
    refine wp_region_inv (fun L a w' => ∃ (b0 b1 b2 b3 b4 b5 b6 b7 : Bool) (y : Nat) (va : Option Addr) (vc : Nat), L = #[b0, b1, b2, b3, b4, b5, b6, b7] ∧ a = { tmps := #[Value.agg #[.int .i64 n, Value.slice (some ad) es.length cap], Value.pointer (some ⟨w.heap.size, 0, none⟩), Value.pointer (some ⟨w.heap.size + 1, 0, none⟩), sel b0 (Value.pointer (some ⟨w.heap.size, 0, none⟩)) undef, sel b1 (Value.int .i64 n) undef, sel b2 (Value.slice (some ⟨y, 0, none⟩) 0 0) undef, sel b3 (Value.pointer (some ⟨w.heap.size, 1, none⟩)) undef, sel b4 (Value.slice (some ad) es.length cap) undef, sel b5 (Value.slice va es.length vc) undef, sel b6 (Value.agg #[.int .i64 n, .slice va es.length vc]) undef], defers := [] } ∧ Hid ((Below w.heap.size w w') ∧ (Box w' w.heap.size 25 #[.int .i64 n, Value.slice (some ad) es.length cap]) ∧ (b7 = false → Box w' (w.heap.size + 1) 25 #[.int .i64 0, .slice none 0 0]) ∧ (b2 = true → b5 = false → w'.ownsRow (w.heap.size + 2) 36 3 (.slice (some ⟨y, 0, none⟩) 0 0) 0 []) ∧ (b5 = true → w'.ownsRow (w.heap.size + 2) 36 3 (.slice va es.length vc) es.length (cellsE es)) ∧ (b7 = true → Box w' (w.heap.size + 1) 25 #[.int .i64 n, .slice va es.length vc]) ∧ (b1 = true → (b0) = true) ∧ (b4 = true → (b3) = true) ∧ (b5 = true → (b2 && b4) = true) ∧ (b6 = true → (b1 && b5) = true) ∧ (b7 = true → (b0 && b1 && b2 && b3 && b4 && b5 && b6) = true))) (by kernel_rfl) (by kernel_rfl) ?_ ?_ ?_
    · exact ⟨false, false, false, false, false, false, false, false, 0, none, 0, rfl, rfl, Lib.hid ⟨K0.out.1, K0.out.2.1, (fun _ => K0.out.2.2), (fun h => absurd h (by decide)), (fun h => absurd h (by decide)), (fun h => absurd h (by decide)), (fun h => absurd h (by decide)), (fun h => absurd h (by decide)), (fun h => absurd h (by decide)), (fun h => absurd h (by decide)), (fun h => absurd h (by decide))⟩⟩
    · rintro L a w' hL ⟨b0, b1, b2, b3, b4, b5, b6, b7, y, va, vc, rfl, rfl, HF⟩ k9 o9 ho hl hd
      have hk9 : k9 = 0 ∨ k9 = 1 ∨ k9 = 2 ∨ k9 = 3 ∨ k9 = 4 ∨ k9 = 5 ∨ k9 = 6 ∨ k9 = 7 := by have := (Array.getElem?_eq_some_iff.1 ho).1; simp at this; omega
      rcases hk9 with rfl | rfl | rfl | rfl | rfl | rfl | rfl | rfl
      · obtain rfl := Option.some.inj ho
        have hc0 : b0 = false := hl
        subst hc0
        have hc1 : b1 = false := by cases hx9 : b1 with | false => rfl | true => (have hy9 := HF.out.2.2.2.2.2.2.1 hx9; simp at hy9)
        subst hc1
        have hc6 : b6 = false := by cases hx9 : b6 with | false => rfl | true => (have hy9 := HF.out.2.2.2.2.2.2.2.2.2.1 hx9; simp at hy9)
        subst hc6
        have hc7 : b7 = false := by cases hx9 : b7 with | false => rfl | true => (have hy9 := HF.out.2.2.2.2.2.2.2.2.2.2 hx9; simp at hy9)
        subst hc7
        clear hl hd ho hL
        simp only [sel_t, sel_f]
        refine wpOp_step rfl ?_
        intro K' hK'
        go_simp
        exact hK' _ _ ⟨true, false, b2, b3, b4, b5, false, false, y, va, vc, rfl, rfl, Lib.hid ⟨HF.out.1, HF.out.2.1, HF.out.2.2.1, HF.out.2.2.2.1, HF.out.2.2.2.2.1, HF.out.2.2.2.2.2.1, (fun h => absurd h (by decide)), HF.out.2.2.2.2.2.2.2.1, HF.out.2.2.2.2.2.2.2.2.1, (fun h => absurd h (by decide)), (fun h => absurd h (by decide))⟩⟩
      · obtain rfl := Option.some.inj ho
        have hc1 : b1 = false := hl
        have hc0 : b0 = true := by first | (refine hd ⟨0, .data⟩ ?_ rfl; simp; done) | (refine hd ⟨0, .chain⟩ ?_ rfl; simp; done) | (refine hd ⟨0, .phase⟩ ?_ rfl; simp; done)
        subst hc1 hc0
        have hc6 : b6 = false := by cases hx9 : b6 with | false => rfl | true => (have hy9 := HF.out.2.2.2.2.2.2.2.2.2.1 hx9; simp at hy9)
        subst hc6
        have hc7 : b7 = false := by cases hx9 : b7 with | false => rfl | true => (have hy9 := HF.out.2.2.2.2.2.2.2.2.2.2 hx9; simp at hy9)
        subst hc7
        clear hl hd ho hL
        simp only [sel_t, sel_f]
        have x0 : w'.cell? ⟨w.heap.size, 0, none⟩ = some (.int .i64 n) := by simpa using HF.out.2.1.cell 0
        refine wpOp_step rfl ?_
        intro K' hK'
        go_simp
        exact hK' _ _ ⟨true, true, b2, b3, b4, b5, false, false, y, va, vc, rfl, rfl, Lib.hid ⟨HF.out.1, HF.out.2.1, HF.out.2.2.1, HF.out.2.2.2.1, HF.out.2.2.2.2.1, HF.out.2.2.2.2.2.1, (fun _ => rfl), HF.out.2.2.2.2.2.2.2.1, HF.out.2.2.2.2.2.2.2.2.1, (fun h => absurd h (by decide)), (fun h => absurd h (by decide))⟩⟩
      · obtain rfl := Option.some.inj ho
        have hc2 : b2 = false := hl
        subst hc2
        have hc5 : b5 = false := by cases hx9 : b5 with | false => rfl | true => (have hy9 := HF.out.2.2.2.2.2.2.2.2.1 hx9; simp at hy9)
        subst hc5
        have hc6 : b6 = false := by cases hx9 : b6 with | false => rfl | true => (have hy9 := HF.out.2.2.2.2.2.2.2.2.2.1 hx9; simp at hy9)
        subst hc6
        have hc7 : b7 = false := by cases hx9 : b7 with | false => rfl | true => (have hy9 := HF.out.2.2.2.2.2.2.2.2.2.2 hx9; simp at hy9)
        subst hc7
        clear hl hd ho hL
        simp only [sel_t, sel_f]
        have hsz : w.heap.size + 2 ≤ w'.heap.size := (HF.out.2.2.1 rfl).lt
        refine wpOp_step rfl ?_
        intro K' hK'
        go_simp
        exact hK' _ _ ⟨b0, b1, true, b3, b4, false, false, false, w'.heap.size, va, vc, rfl, rfl, Lib.hid ⟨(bel_trans HF.out.1 ((Below.refl _ _).alloc (Nat.le_refl _) _)), (HF.out.2.1.alloc _), (fun h => (HF.out.2.2.1 h).alloc _), (fun _ _ => own_empty3 w' 36 3 (w.heap.size + 2) hsz), (fun h => absurd h (by decide)), (fun h => absurd h (by decide)), HF.out.2.2.2.2.2.2.1, HF.out.2.2.2.2.2.2.2.1, (fun h => absurd h (by decide)), (fun h => absurd h (by decide)), (fun h => absurd h (by decide))⟩⟩
      · obtain rfl := Option.some.inj ho
        have hc3 : b3 = false := hl
        subst hc3
        have hc4 : b4 = false := by cases hx9 : b4 with | false => rfl | true => (have hy9 := HF.out.2.2.2.2.2.2.2.1 hx9; simp at hy9)
        subst hc4
        have hc5 : b5 = false := by cases hx9 : b5 with | false => rfl | true => (have hy9 := HF.out.2.2.2.2.2.2.2.2.1 hx9; simp at hy9)
        subst hc5
        have hc6 : b6 = false := by cases hx9 : b6 with | false => rfl | true => (have hy9 := HF.out.2.2.2.2.2.2.2.2.2.1 hx9; simp at hy9)
        subst hc6
        have hc7 : b7 = false := by cases hx9 : b7 with | false => rfl | true => (have hy9 := HF.out.2.2.2.2.2.2.2.2.2.2 hx9; simp at hy9)
        subst hc7
        clear hl hd ho hL
        simp only [sel_t, sel_f]
        refine wpOp_step rfl ?_
        intro K' hK'
        go_simp
        exact hK' _ _ ⟨b0, b1, b2, true, false, false, false, false, y, va, vc, rfl, rfl, Lib.hid ⟨HF.out.1, HF.out.2.1, HF.out.2.2.1, HF.out.2.2.2.1, HF.out.2.2.2.2.1, HF.out.2.2.2.2.2.1, HF.out.2.2.2.2.2.2.1, (fun h => absurd h (by decide)), (fun h => absurd h (by decide)), (fun h => absurd h (by decide)), (fun h => absurd h (by decide))⟩⟩
      · obtain rfl := Option.some.inj ho
        have hc4 : b4 = false := hl
        have hc3 : b3 = true := by first | (refine hd ⟨3, .data⟩ ?_ rfl; simp; done) | (refine hd ⟨3, .chain⟩ ?_ rfl; simp; done) | (refine hd ⟨3, .phase⟩ ?_ rfl; simp; done)
        subst hc4 hc3
        have hc5 : b5 = false := by cases hx9 : b5 with | false => rfl | true => (have hy9 := HF.out.2.2.2.2.2.2.2.2.1 hx9; simp at hy9)
        subst hc5
        have hc6 : b6 = false := by cases hx9 : b6 with | false => rfl | true => (have hy9 := HF.out.2.2.2.2.2.2.2.2.2.1 hx9; simp at hy9)
        subst hc6
        have hc7 : b7 = false := by cases hx9 : b7 with | false => rfl | true => (have hy9 := HF.out.2.2.2.2.2.2.2.2.2.2 hx9; simp at hy9)
        subst hc7
        clear hl hd ho hL
        simp only [sel_t, sel_f]
        have x0 : w'.cell? ⟨w.heap.size, 1, none⟩ = some (Value.slice (some ad) es.length cap) := by simpa using HF.out.2.1.cell 1
        refine wpOp_step rfl ?_
        intro K' hK'
        go_simp
        exact hK' _ _ ⟨b0, b1, b2, true, true, false, false, false, y, va, vc, rfl, rfl, Lib.hid ⟨HF.out.1, HF.out.2.1, HF.out.2.2.1, HF.out.2.2.2.1, HF.out.2.2.2.2.1, HF.out.2.2.2.2.2.1, HF.out.2.2.2.2.2.2.1, (fun _ => rfl), (fun h => absurd h (by decide)), (fun h => absurd h (by decide)), (fun h => absurd h (by decide))⟩⟩
      · obtain rfl := Option.some.inj ho
        have hc5 : b5 = false := hl
        have hc2 : b2 = true := by first | (refine hd ⟨2, .data⟩ ?_ rfl; simp; done) | (refine hd ⟨2, .chain⟩ ?_ rfl; simp; done) | (refine hd ⟨2, .phase⟩ ?_ rfl; simp; done)
        have hc4 : b4 = true := by first | (refine hd ⟨4, .data⟩ ?_ rfl; simp; done) | (refine hd ⟨4, .chain⟩ ?_ rfl; simp; done) | (refine hd ⟨4, .phase⟩ ?_ rfl; simp; done)
        subst hc5 hc2 hc4
        have hc6 : b6 = false := by cases hx9 : b6 with | false => rfl | true => (have hy9 := HF.out.2.2.2.2.2.2.2.2.2.1 hx9; simp at hy9)
        subst hc6
        have hc7 : b7 = false := by cases hx9 : b7 with | false => rfl | true => (have hy9 := HF.out.2.2.2.2.2.2.2.2.2.2 hx9; simp at hy9)
        subst hc7
        clear hl hd ho hL
        simp only [sel_t, sel_f]
        have hsz : w.heap.size + 2 ≤ w'.heap.size := (HF.out.2.2.1 rfl).lt
        have hlt0 : w.heap.size < w'.heap.size := by omega
        obtain ⟨hi, hz0, hz1, hz2⟩ := HI.out
        have ho0 := HF.out.2.2.2.1 rfl rfl
        have hnews := HC.out w' HF.out.1
        refine wpOp_step rfl ?_
        intro K' hK'
        refine step_append_own rfl (.tmp 5) (.tmp 7) 23 rfl (w.heap.size + 2) 36 i0 (.agg #[.int .i64 0, .int .i64 0, .int .i64 0]) 3 24 Try.underlying23 hi hz0 hz1 hz2 rfl (by decide) _ _ _ rfl ho0 ad es.length cap (cellsE es) rfl (cellsE_len es) hnews (cellsE_one es) (by unfold maxLen; omega) (by omega) hsz ?_
        intro v' w6 hown6 hgrow6
        obtain ⟨va6, vc6, rfl⟩ := own_slice hown6
        have hb06 := (HF.out.1).grown hgrow6 (by omega) (fun q hq => Nat.le_trans (by omega) (ho0.lt q hq).1)
        have hown7 : w6.ownsRow (w.heap.size + 2) 36 3 (.slice va6 es.length vc6) es.length (cellsE es) := by simpa using hown6
        rw [Nat.zero_add]
        exact hK' _ _ ⟨b0, b1, true, b3, true, true, false, false, y, va6, vc6, rfl, rfl, Lib.hid ⟨hb06, (Box.grown HF.out.2.1 hgrow6 ho0 (by decide)), (fun h => Box.grown (HF.out.2.2.1 h) hgrow6 ho0 (by decide)), (fun _ h => absurd h (by decide)), (fun _ => hown7), (fun h => absurd h (by decide)), HF.out.2.2.2.2.2.2.1, HF.out.2.2.2.2.2.2.2.1, (fun _ => rfl), (fun h => absurd h (by decide)), (fun h => absurd h (by decide))⟩⟩
      · obtain rfl := Option.some.inj ho
        have hc6 : b6 = false := hl
        have hc1 : b1 = true := by first | (refine hd ⟨1, .data⟩ ?_ rfl; simp; done) | (refine hd ⟨1, .chain⟩ ?_ rfl; simp; done) | (refine hd ⟨1, .phase⟩ ?_ rfl; simp; done)
        have hc5 : b5 = true := by first | (refine hd ⟨5, .data⟩ ?_ rfl; simp; done) | (refine hd ⟨5, .chain⟩ ?_ rfl; simp; done) | (refine hd ⟨5, .phase⟩ ?_ rfl; simp; done)
        subst hc6 hc1 hc5
        have hc7 : b7 = false := by cases hx9 : b7 with | false => rfl | true => (have hy9 := HF.out.2.2.2.2.2.2.2.2.2.2 hx9; simp at hy9)
        subst hc7
        clear hl hd ho hL
        simp only [sel_t, sel_f]
        refine wpOp_step rfl ?_
        intro K' hK'
        go_simp
        exact hK' _ _ ⟨b0, true, b2, b3, b4, true, true, false, y, va, vc, rfl, rfl, Lib.hid ⟨HF.out.1, HF.out.2.1, HF.out.2.2.1, HF.out.2.2.2.1, HF.out.2.2.2.2.1, HF.out.2.2.2.2.2.1, HF.out.2.2.2.2.2.2.1, HF.out.2.2.2.2.2.2.2.1, HF.out.2.2.2.2.2.2.2.2.1, (fun _ => rfl), (fun h => absurd h (by decide))⟩⟩
      · obtain rfl := Option.some.inj ho
        have hc7 : b7 = false := hl
        have hc0 : b0 = true := by first | (refine hd ⟨0, .data⟩ ?_ rfl; simp; done) | (refine hd ⟨0, .chain⟩ ?_ rfl; simp; done) | (refine hd ⟨0, .phase⟩ ?_ rfl; simp; done)
        have hc1 : b1 = true := by first | (refine hd ⟨1, .data⟩ ?_ rfl; simp; done) | (refine hd ⟨1, .chain⟩ ?_ rfl; simp; done) | (refine hd ⟨1, .phase⟩ ?_ rfl; simp; done)
        have hc2 : b2 = true := by first | (refine hd ⟨2, .data⟩ ?_ rfl; simp; done) | (refine hd ⟨2, .chain⟩ ?_ rfl; simp; done) | (refine hd ⟨2, .phase⟩ ?_ rfl; simp; done)
        have hc3 : b3 = true := by first | (refine hd ⟨3, .data⟩ ?_ rfl; simp; done) | (refine hd ⟨3, .chain⟩ ?_ rfl; simp; done) | (refine hd ⟨3, .phase⟩ ?_ rfl; simp; done)
        have hc4 : b4 = true := by first | (refine hd ⟨4, .data⟩ ?_ rfl; simp; done) | (refine hd ⟨4, .chain⟩ ?_ rfl; simp; done) | (refine hd ⟨4, .phase⟩ ?_ rfl; simp; done)
        have hc5 : b5 = true := by first | (refine hd ⟨5, .data⟩ ?_ rfl; simp; done) | (refine hd ⟨5, .chain⟩ ?_ rfl; simp; done) | (refine hd ⟨5, .phase⟩ ?_ rfl; simp; done)
        have hc6 : b6 = true := by first | (refine hd ⟨6, .data⟩ ?_ rfl; simp; done) | (refine hd ⟨6, .chain⟩ ?_ rfl; simp; done) | (refine hd ⟨6, .phase⟩ ?_ rfl; simp; done)
        subst hc7 hc0 hc1 hc2 hc3 hc4 hc5 hc6
        clear hl hd ho hL
        simp only [sel_t, sel_f]
        have hB := HF.out.2.2.1 rfl
        have c0 : w'.cell? ⟨w.heap.size + 1, 0, none⟩ = some (.int .i64 0) := by simpa using hB.cell 0
        have c1 : w'.cell? ⟨w.heap.size + 1, 1, none⟩ = some (.slice none 0 0) := by simpa using hB.cell 1
        have f0 := hB.frozen 0
        have f1 := hB.frozen 1
        refine wpOp_step rfl ?_
        intro K' hK'
        go_simp
        exact hK' _ _ ⟨true, true, true, true, true, true, true, true, y, va, vc, rfl, rfl, Lib.hid ⟨(((HF.out.1).setCell (by simp) _).setCell (by simp) _), ((HF.out.2.1.setOther (by omega) _ _).setOther (by omega) _ _), (fun h => absurd h (by decide)), (fun _ h => absurd h (by decide)), (fun _ => (hB.set 0 _).own (hB.own (HF.out.2.2.2.2.1 rfl) (by decide)) (by decide)), (fun _ => by simpa using (hB.set 0 (.int .i64 n)).set 1 (.slice va es.length vc)), (fun h => by have := HF.out.2.2.2.2.2.2.1 h; simpa using this), (fun h => by have := HF.out.2.2.2.2.2.2.2.1 h; simpa using this), (fun h => by have := HF.out.2.2.2.2.2.2.2.2.1 h; simpa using this), (fun h => by have := HF.out.2.2.2.2.2.2.2.2.2.1 h; simpa using this), (fun _ => rfl)⟩⟩
    · rintro L a w' hL ⟨b0, b1, b2, b3, b4, b5, b6, b7, y, va, vc, rfl, rfl, HF⟩ hall
      have hc0 : b0 = true := hall 0 (by decide)
      have hc1 : b1 = true := hall 1 (by decide)
      have hc2 : b2 = true := hall 2 (by decide)
      have hc3 : b3 = true := hall 3 (by decide)
      have hc4 : b4 = true := hall 4 (by decide)
      have hc5 : b5 = true := hall 5 (by decide)
      have hc6 : b6 = true := hall 6 (by decide)
      have hc7 : b7 = true := hall 7 (by decide)
      subst hc0 hc1 hc2 hc3 hc4 hc5 hc6 hc7
      simp only [sel_t]
      have hB := HF.out.2.2.2.2.2.1 rfl
      have HE := Lib.hid (And.intro ((HF.out.2.2.2.2.1 rfl).mono (base' := w.heap.size + 1) (by omega)) HF.out.1)
      clear HF
      have c0 : w'.cell? ⟨w.heap.size + 1, 0, none⟩ = some (.int .i64 n) := by simpa using hB.cell 0
      have c1 : w'.cell? ⟨w.heap.size + 1, 1, none⟩ = some (.slice va es.length vc) := by simpa using hB.cell 1
      go_wp2_with fail
      try simp only [Exit.inBlock, Exit.then]
      refine bodyPost_ret (v := .agg #[.int .i64 n, .slice va es.length vc]) ?_ rfl ?_
      · rw [results_cell1 rfl]
        go_simp
      exact ⟨_, rfl, HE.out.1, HE.out.2⟩
end Go.Proofs.Ytjcfefpcilhelaa
namespace Go.Proofs.Ytjcfefpcilhelaa
open Go.RowKit Go.BigFrame Go.Deep
set_option linter.unusedVariables false
set_option linter.unusedSimpArgs false
set_option linter.unnecessarySimpa false

/-- A graph is drawn: its edges in memory of their own. -/
def DrawnW (W w : World) (g q l : Nat) (e : Ending) (w' : World) : Prop :=
  ∃ (n : Int) (es : List Ed) (v : Value), e = .returned (.agg #[.int .i64 n, v]) ∧ es.length ≤ l ∧ InR true w' w.heap.size w'.heap.size v es.length 3 (cellE es) ∧ okS v ∧ Rd W w' g q ∧ w.grownBy w' (some g)
theorem own_ne' {w : World} {base g : Nat} {t : TypeId} {sz : Nat} {v : Value} {n : Nat} {xs : List Value} (h : w.ownsRow base t sz v n xs) (hg : g < base) : v.ownBlock = none ∨ v.ownBlock ≠ some g := by
  refine .inr fun e => ?_
  have := (h.lt g e).1
  omega
theorem Box.grownN {w w' : World} {B : Nat} {r : Option Nat} {t : TypeId} {cs : Array Value} (h : Box w B t cs) (hg : w.grownBy w' r) (hne : r ≠ some B) : Box w' B t cs := (hg.block B h.lt (by intro e; exact hne e.symm)).trans h

theorem Rd.grownR {W w w' : World} {g q : Nat} {row : Option Nat} (h : Rd W w g q) (hg : w.grownBy w' row) (hr : ∀ k, row = some k → g < k) : Rd W w' g q := by
  obtain ⟨a, n, cap, p, h1, h2, h3, h4, h5⟩ := h.cells
  have hb : w'.heap[g]? = w.heap[g]? := hg.block g h.lt (fun e => by have := hr g e.symm; omega)
  exact ⟨h.new, h.bel.grown hg (Nat.le_of_lt (Nat.lt_of_le_of_lt h.new h.lt)) (fun k hk => by have := hr k hk; have := h.new; omega),
    ⟨a, n, cap, p, h1, h2, h3, by rw [World.cell?_of_block (a := ⟨g, 0, none⟩) hb]; exact h4, by rw [World.cell?_of_block (a := ⟨g, 1, none⟩) hb]; exact h5⟩,
    by rw [World.frozen?_of_block (a := ⟨g, 1, none⟩) hb]; exact h.free, Nat.lt_of_lt_of_le h.lt hg.size⟩
theorem grownR {a w w' : World} {g : Nat} {row : Option Nat} (h : a.grownBy w (some g)) (hg : w.grownBy w' row) (hr : ∀ k, row = some k → a.heap.size ≤ k) : a.grownBy w' (some g) :=
  ⟨hg.os.trans h.os, hg.tape.trans h.tape, hg.output.trans h.output, Nat.le_trans h.size hg.size, fun i hi hne => (hg.block i (Nat.lt_of_lt_of_le hi h.size) (fun e => by have := hr i e.symm; omega)).trans (h.block i hi hne)⟩
theorem cellsE_at (es : List Ed) {j : Nat} (hj : j < es.length * 3) : (cellsE es)[j]? = some (cellE es j) := by
  unfold cellsE
  simp [hj]
/-- The edge at a place gets another end. -/
def setTo (es : List Ed) (k : Nat) (x : Int) : List Ed := es.set k ((es.getD k (0, 0, 0)).1, x, (es.getD k (0, 0, 0)).2.2)
/-- The edge at a place gets another weight. -/
def setWt (es : List Ed) (k : Nat) (x : Int) : List Ed := es.set k ((es.getD k (0, 0, 0)).1, (es.getD k (0, 0, 0)).2.1, x)
theorem getD_set' (es : List Ed) (k : Nat) (e : Ed) (hk : k < es.length) (i : Nat) : (es.set k e).getD i (0, 0, 0) = if i = k then e else es.getD i (0, 0, 0) := by
  simp only [List.getD, List.getElem?_set]
  by_cases h : k = i
  · subst h; simp [hk]
  · simp [h, Ne.symm h]
theorem setTo_cells (es : List Ed) (k : Nat) (hk : k < es.length) (x : Int) : (cellsE es).set (k * 3 + 1) (.int .i64 x) = cellsE (setTo es k x) := by
  apply List.ext_getElem?
  intro j
  rw [List.getElem?_set]
  by_cases hj : j < es.length * 3
  · have hj2 : j < (setTo es k x).length * 3 := by simpa [setTo] using hj
    rw [cellsE_at _ hj2, cellsE_at _ hj, cellsE_len]
    unfold cellE setTo
    rw [getD_set' es k _ hk]
    by_cases h : k * 3 + 1 = j
    · subst h
      have h1 : (k * 3 + 1) % 3 = 1 := by omega
      have h2 : (k * 3 + 1) / 3 = k := by omega
      simp [h1, h2, hj]
    · rw [if_neg h]
      by_cases h2 : j / 3 = k
      · have h3 : j % 3 = 0 ∨ j % 3 = 2 := by omega
        rcases h3 with h3 | h3 <;> simp [h2, h3]
      · simp [h2]
  · have h1 : (cellsE es)[j]? = none := by simp [cellsE_len]; omega
    have h2 : (cellsE (setTo es k x))[j]? = none := by simp [cellsE_len, setTo]; omega
    rw [h1, h2]
    split
    · rw [if_neg (by rw [cellsE_len]; omega)]
    · rfl
theorem setWt_cells (es : List Ed) (k : Nat) (hk : k < es.length) (x : Int) : (cellsE es).set (k * 3 + 2) (.int .i64 x) = cellsE (setWt es k x) := by
  apply List.ext_getElem?
  intro j
  rw [List.getElem?_set]
  by_cases hj : j < es.length * 3
  · have hj2 : j < (setWt es k x).length * 3 := by simpa [setWt] using hj
    rw [cellsE_at _ hj2, cellsE_at _ hj, cellsE_len]
    unfold cellE setWt
    rw [getD_set' es k _ hk]
    by_cases h : k * 3 + 2 = j
    · subst h
      have h1 : (k * 3 + 2) % 3 = 2 := by omega
      have h2 : (k * 3 + 2) / 3 = k := by omega
      simp [h1, h2, hj]
    · rw [if_neg h]
      by_cases h2 : j / 3 = k
      · have h3 : j % 3 = 0 ∨ j % 3 = 1 := by omega
        rcases h3 with h3 | h3 <;> simp [h2, h3]
      · simp [h2]
  · have h1 : (cellsE es)[j]? = none := by simp [cellsE_len]; omega
    have h2 : (cellsE (setWt es k x))[j]? = none := by simp [cellsE_len, setWt]; omega
    rw [h1, h2]
    split
    · rw [if_neg (by rw [cellsE_len]; omega)]
    · rfl
theorem drawnW_of {W w w1 : World} {g q q' B base : Nat} {n : Int} {es : List Ed} {v : Value} {m : Nat} (hR : Rd W w1 g q') (hG : w.grownBy w1 (some g)) (hB : Box w1 B 25 #[.int .i64 0, .slice none 0 0])
    (ho : w1.ownsRow base 36 3 v es.length (cellsE es)) (hq : q' ≤ q) (hm : es.length ≤ m) (hb : w.heap.size ≤ base) (hBw : w.heap.size ≤ B) (hg : g < w.heap.size) :
    DrawnW W w g q m (.returned (.agg #[.int .i64 n, v])) ((w1.setCell ⟨B, 0, none⟩ (.int .i64 n)).setCell ⟨B, 1, none⟩ v) := by
  have hlt := hR.lt
  have hW := hR.new
  have ho2 := Box.own (hB.set 0 (.int .i64 n)) (o := 1) (v' := v) (Box.own hB (o := 0) (v' := .int .i64 n) ho (by decide)) (by decide)
  exact ⟨n, es, v, rfl, hm, OwnE.of ho2 hb, own_ok ho, ((hR.set' (by omega) (by omega) _).set' (by omega) (by omega) _).more hq, g_set (g_set hG hBw) hBw⟩

set_option maxRecDepth 20000 in
set_option maxHeartbeats 4000000 in
theorem l2Wrong (W w : World) (g q : Nat) (n : Int) (es : List Ed) (s : Value) (h : Rd W w g q) (hq : q ≤ 900000) (hs : RowE w s es) (hok : okS s) (hl : es.length ≤ 1000) :
    Calls Try.prog 97 #[.pointer (some ⟨g, 0, none⟩), .agg #[.int .i64 n, s]] w (DrawnW W w g (q + 4) (es.length + 1)) := by
  obtain ⟨ad, cap, rfl, hz0⟩ := id hs
  clear hz0
  have hglt := h.lt
  have hb2 : Below w.heap.size w ((w.alloc (.cells #[.int .i64 n, .slice ad es.length cap] 25)).alloc (.cells #[.int .i64 0, .slice none 0 0] 25)) := ((Below.refl _ _).alloc (Nat.le_refl _) _).alloc (by simp) _
  have hx0 : Box ((w.alloc (.cells #[.int .i64 n, .slice ad es.length cap] 25)).alloc (.cells #[.int .i64 0, .slice none 0 0] 25)) w.heap.size 25 #[.int .i64 n, .slice ad es.length cap] := (Box.new w _ _).alloc _
  have hx1 : Box ((w.alloc (.cells #[.int .i64 n, .slice ad es.length cap] 25)).alloc (.cells #[.int .i64 0, .slice none 0 0] 25)) (w.heap.size + 1) 25 #[.int .i64 0, .slice none 0 0] := by
    have := Box.new (w.alloc (.cells #[.int .i64 n, .slice ad es.length cap] 25)) 25 #[.int .i64 0, .slice none 0 0]
    simpa using this
  have K0 := Lib.hid (And.intro hb2 (And.intro hx0 hx1))
  have HS := Lib.hid (And.intro hs hok)
  have HD := Lib.hid h
  clear hb2 hx0 hx1 hs hok h
  go_enter Try.func97, Try.ntmps97
  go_wp2_with fail
  generalize ((w.alloc (.cells #[.int .i64 n, .slice ad es.length cap] 25)).alloc (.cells #[.int .i64 0, .slice none 0 0] 25)) = w0 at K0 ⊢
  refine (l2Copy n es (.slice ad es.length cap) w0 (HS.out.1.keep K0.out.1) HS.out.2 (by omega)).mono ?_
  rintro e w1 ⟨v, rfl, hown, hb1⟩
  obtain ⟨va, vc, rfl⟩ := own_slice hown
  have hs0 : w.heap.size + 2 ≤ w0.heap.size := K0.out.2.2.lt
  have hs1 := hb1.size
  have hbox : Box (w1.alloc (.cells #[.int .i64 n, .slice va es.length vc] 25)) w1.heap.size 25 #[.int .i64 n, .slice va es.length vc] := Box.new w1 _ _
  have hB1 := (K0.out.2.2.keep hb1).alloc (.cells #[.int .i64 n, .slice va es.length vc] 25)
  have hown2 := hown.alloc (.cells #[.int .i64 n, .slice va es.length vc] 25)
  have hbel := (bel_trans K0.out.1 hb1).alloc (by omega) (.cells #[.int .i64 n, .slice va es.length vc] 25)
  have hRd := HD.out.keep hbel
  have hG := grown_below (g := g) hbel
  have hsz2 : (w1.alloc (.cells #[.int .i64 n, .slice va es.length vc] 25)).heap.size = w1.heap.size + 1 := by simp
  have HL := Lib.hid (fun k hk => (hown.lt k hk).2)
  clear hown hb1 hbel
  go_wp2_with fail
  generalize (w1.alloc (.cells #[.int .i64 n, .slice va es.length vc] 25)) = w2 at hbox hB1 hown2 hRd hG hsz2 ⊢
  have K2 := Lib.hid (And.intro hRd (And.intro hG (And.intro hbox (And.intro hB1 hown2))))
  clear hRd hG hbox hB1 hown2
  refine (pick 16 W w2 g q K2.out.1 (by omega) (by omega)).mono ?_
  rintro e w3 ⟨x, rfl, hx0, hx1, hRd, hG⟩
  have K3 := Lib.hid (And.intro hRd (And.intro (grown_trans' K2.out.2.1 hG) (And.intro (K2.out.2.2.1.grownG hG (by omega)) (And.intro (K2.out.2.2.2.1.grownG hG (by omega)) (K2.out.2.2.2.2.kept hG (own_ne' K2.out.2.2.2.2 (by omega)))))))
  have hs3 := hG.size
  clear hRd hG
  have c0 : w3.cell? ⟨w1.heap.size, 0, none⟩ = some (.int .i64 n) := by simpa using K3.out.2.2.1.cell 0
  have c1 : w3.cell? ⟨w1.heap.size, 1, none⟩ = some (.slice va es.length vc) := by simpa using K3.out.2.2.1.cell 1
  have r0 : w3.cell? ⟨w.heap.size + 1, 0, none⟩ = some (.int .i64 0) := by simpa using K3.out.2.2.2.1.cell 0
  have r1 : w3.cell? ⟨w.heap.size + 1, 1, none⟩ = some (.slice none 0 0) := by simpa using K3.out.2.2.2.1.cell 1
  have r2 := K3.out.2.2.2.1.frozen 0
  have r3 := K3.out.2.2.2.1.frozen 1
  by_cases hpos : 0 < x
  · have dx : decide (0 < x) = true := decide_eq_true hpos
    go_wp2
    try simp only [Exit.inBlock, Exit.then]
    refine bodyPost_ret (v := .agg #[.int .i64 n, .slice va es.length vc]) ?_ rfl ?_
    · rw [results_cell1 rfl]
      go_simp
    exact drawnW_of (q := q + 4) (q' := q + 1) K3.out.1 K3.out.2.1 K3.out.2.2.2.1 K3.out.2.2.2.2 (by omega) (by omega) (by omega) (by omega) hglt
  have dx : decide (0 < x) = false := decide_eq_false hpos
  by_cases hnil : es = []
  · subst hnil
    go_wp2
    try simp only [Exit.inBlock, Exit.then]
    refine bodyPost_ret (v := .agg #[.int .i64 n, .slice va 0 vc]) ?_ rfl ?_
    · rw [results_cell1 rfl]
      go_simp
    exact drawnW_of (es := ([] : List Ed)) (q := q + 4) (q' := q + 1) (m := ([] : List Ed).length + 1) K3.out.1 K3.out.2.1 K3.out.2.2.2.1 K3.out.2.2.2.2 (by omega) (by simp) (by omega) (by omega) hglt
  have dn : ((es.length : Int) == 0) = false := by simpa using hnil
  have hpl : 0 < es.length := by cases es with | nil => exact absurd rfl hnil | cons a b => simp
  have hpl' : (0 : Int) < es.length := by omega
  clear r0 r1 r2 r3 c0
  go_wp2_with fail
  refine (pick es.length W w3 g _ K3.out.1 (by omega) (by omega)).mono ?_
  rintro e w4 ⟨k0, rfl, hk0, hk1, hRd, hG⟩
  obtain ⟨k, rfl⟩ := Int.eq_ofNat_of_zero_le hk0
  have hk : k < es.length := by omega
  have K4 := Lib.hid (And.intro hRd (And.intro (grown_trans' K3.out.2.1 hG) (And.intro (K3.out.2.2.1.grownG hG (by omega)) (And.intro (K3.out.2.2.2.1.grownG hG (by omega)) (K3.out.2.2.2.2.kept hG (own_ne' K3.out.2.2.2.2 (by omega)))))))
  have hs4 := hG.size
  clear hRd hG hk0 hk1 c1
  go_wp2_with fail
  refine (pick 5 W w4 g _ K4.out.1 (by omega) (by omega)).mono ?_
  rintro e w5 ⟨y, rfl, hy0, hy1, hRd, hG⟩
  have K5 := Lib.hid (And.intro hRd (And.intro (grown_trans' K4.out.2.1 hG) (And.intro (K4.out.2.2.1.grownG hG (by omega)) (And.intro (K4.out.2.2.2.1.grownG hG (by omega)) (K4.out.2.2.2.2.kept hG (own_ne' K4.out.2.2.2.2 (by omega)))))))
  have hs5 := hG.size
  clear hRd hG
  have c1 : w5.cell? ⟨w1.heap.size, 1, none⟩ = some (.slice va es.length vc) := by simpa using K5.out.2.2.1.cell 1
  obtain ⟨B, cp, hva, hBge, hBlt⟩ := K5.out.2.2.2.2.form hpl
  injection hva with e1 e2 e3
  subst e1 e3
  have hBw1 : B < w1.heap.size := HL.out B rfl
  have hk' : (k : Int) < es.length := by omega
  by_cases e0 : y = 0
  · subst e0
    go_upto_region 7 with fail
    refine wp_region_inv (fun L a w' => ∃ (b0 b1 b2 b3 b4 b5 b6 b7 b8 : Bool) (yy : Nat) (xx : Int), L = #[b0, b1, b2, b3, b4, b5, b6, b7, b8] ∧ a = { tmps := #[Value.pointer (some ⟨g, 0, none⟩), Value.agg #[.int .i64 n, .slice ad es.length cap], undef, Value.pointer (some ⟨w.heap.size, 0, none⟩), Value.pointer (some ⟨w.heap.size + 1, 0, none⟩), Value.pointer (some ⟨w1.heap.size, 0, none⟩), Value.int .i64 (k : Int), Value.agg #[.int .i64 n, .slice ad es.length cap], Value.agg #[.int .i64 n, .slice (some ⟨B, 0, none⟩) es.length vc], Value.pointer (some ⟨g, 0, none⟩), Value.int .i64 x, Value.bool false, Value.bool false, Value.pointer (some ⟨w1.heap.size, 1, none⟩), Value.slice (some ⟨B, 0, none⟩) es.length vc, Value.int .i64 (es.length : Int), Value.bool false, Value.bool false, undef, Value.pointer (some ⟨g, 0, none⟩), Value.pointer (some ⟨w1.heap.size, 1, none⟩), Value.slice (some ⟨B, 0, none⟩) es.length vc, Value.int .i64 (es.length : Int), Value.int .i64 (k : Int), Value.pointer (some ⟨g, 0, none⟩), Value.int .i64 0, Value.bool true, Value.bool true, sel b0 (Value.pointer (some ⟨w1.heap.size, 1, none⟩)) undef, sel b1 (Value.slice (some ⟨B, 0, none⟩) es.length vc) undef, sel b2 (Value.int .i64 (k : Int)) undef, sel b3 (Value.pointer (some ⟨g, 0, none⟩)) undef, sel b4 (Value.slice (some ⟨yy, 0, none⟩) 3 3) undef, sel b5 (Value.int .i64 xx) undef, sel b6 (Value.pointer (some ⟨B, k * 3, none⟩)) undef, sel b7 (Value.pointer (some ⟨B, k * 3 + 1, none⟩)) undef, undef, undef, undef, undef, undef, undef, undef, undef, undef, undef, undef, undef, undef, undef, undef, undef, undef, undef, undef, undef, undef, undef, undef, undef, undef, undef, undef, undef, undef], defers := [] } ∧ Hid ((Rd W w' g (q + 1 + 1 + 1 + b5.toNat)) ∧ (w.grownBy w' (some g)) ∧ (Box w' w1.heap.size 25 #[.int .i64 n, .slice (some ⟨B, 0, none⟩) es.length vc]) ∧ (Box w' (w.heap.size + 1) 25 #[.int .i64 0, .slice none 0 0]) ∧ (b8 = false → w'.ownsRow (w0.heap.size + 1) 36 3 (.slice (some ⟨B, 0, none⟩) es.length vc) es.length (cellsE es)) ∧ (b4 = true → b5 = false → RowN w' g (.slice (some ⟨yy, 0, none⟩) 3 3) [12, -1, 0]) ∧ (b8 = true → w'.ownsRow (w0.heap.size + 1) 36 3 (.slice (some ⟨B, 0, none⟩) es.length vc) es.length (cellsE (setTo es k xx))) ∧ (w5.heap.size ≤ w'.heap.size) ∧ (b1 = true → (b0) = true) ∧ (b5 = true → (b3 && b4) = true) ∧ (b6 = true → (b1 && b2) = true) ∧ (b7 = true → (b6) = true) ∧ (b8 = true → (b0 && b1 && b2 && b3 && b4 && b5 && b6 && b7) = true))) (by kernel_rfl) (by kernel_rfl) ?_ ?_ ?_
    · exact ⟨false, false, false, false, false, false, false, false, false, 0, 0, rfl, rfl, Lib.hid ⟨K5.out.1.drew', (g_drew K5.out.2.1), K5.out.2.2.1.drew, K5.out.2.2.2.1.drew, (fun _ => own_drew K5.out.2.2.2.2), (fun h => absurd h (by decide)), (fun h => absurd h (by decide)), (Nat.le_refl _), (fun h => absurd h (by decide)), (fun h => absurd h (by decide)), (fun h => absurd h (by decide)), (fun h => absurd h (by decide)), (fun h => absurd h (by decide))⟩⟩
    · rintro L a w' hL ⟨b0, b1, b2, b3, b4, b5, b6, b7, b8, yy, xx, rfl, rfl, HF⟩ k9 o9 ho hl hd
      have hk9 : k9 = 0 ∨ k9 = 1 ∨ k9 = 2 ∨ k9 = 3 ∨ k9 = 4 ∨ k9 = 5 ∨ k9 = 6 ∨ k9 = 7 ∨ k9 = 8 := by have := (Array.getElem?_eq_some_iff.1 ho).1; simp at this; omega
      rcases hk9 with rfl | rfl | rfl | rfl | rfl | rfl | rfl | rfl | rfl
      · obtain rfl := Option.some.inj ho
        have hc0 : b0 = false := hl
        subst hc0
        have hc1 : b1 = false := by cases hx9 : b1 with | false => rfl | true => (have hy9 := HF.out.2.2.2.2.2.2.2.2.1 hx9; simp at hy9)
        subst hc1
        have hc6 : b6 = false := by cases hx9 : b6 with | false => rfl | true => (have hy9 := HF.out.2.2.2.2.2.2.2.2.2.2.1 hx9; simp at hy9)
        subst hc6
        have hc7 : b7 = false := by cases hx9 : b7 with | false => rfl | true => (have hy9 := HF.out.2.2.2.2.2.2.2.2.2.2.2.1 hx9; simp at hy9)
        subst hc7
        have hc8 : b8 = false := by cases hx9 : b8 with | false => rfl | true => (have hy9 := HF.out.2.2.2.2.2.2.2.2.2.2.2.2 hx9; simp at hy9)
        subst hc8
        clear hl hd ho hL
        simp only [sel_t, sel_f]
        refine wpOp_step rfl ?_
        intro K' hK'
        go_simp
        exact hK' _ _ ⟨true, false, b2, b3, b4, b5, false, false, false, yy, xx, rfl, rfl, Lib.hid ⟨HF.out.1, HF.out.2.1, HF.out.2.2.1, HF.out.2.2.2.1, HF.out.2.2.2.2.1, HF.out.2.2.2.2.2.1, HF.out.2.2.2.2.2.2.1, HF.out.2.2.2.2.2.2.2.1, (fun h => absurd h (by decide)), HF.out.2.2.2.2.2.2.2.2.2.1, (fun h => absurd h (by decide)), (fun h => absurd h (by decide)), (fun h => absurd h (by decide))⟩⟩
      · obtain rfl := Option.some.inj ho
        have hc1 : b1 = false := hl
        have hc0 : b0 = true := by first | (refine hd ⟨0, .data⟩ ?_ rfl; simp; done) | (refine hd ⟨0, .chain⟩ ?_ rfl; simp; done) | (refine hd ⟨0, .phase⟩ ?_ rfl; simp; done)
        subst hc1 hc0
        have hc6 : b6 = false := by cases hx9 : b6 with | false => rfl | true => (have hy9 := HF.out.2.2.2.2.2.2.2.2.2.2.1 hx9; simp at hy9)
        subst hc6
        have hc7 : b7 = false := by cases hx9 : b7 with | false => rfl | true => (have hy9 := HF.out.2.2.2.2.2.2.2.2.2.2.2.1 hx9; simp at hy9)
        subst hc7
        have hc8 : b8 = false := by cases hx9 : b8 with | false => rfl | true => (have hy9 := HF.out.2.2.2.2.2.2.2.2.2.2.2.2 hx9; simp at hy9)
        subst hc8
        clear hl hd ho hL
        simp only [sel_t, sel_f]
        have x0 : w'.cell? ⟨w1.heap.size, 1, none⟩ = some (.slice (some ⟨B, 0, none⟩) es.length vc) := by simpa using HF.out.2.2.1.cell 1
        refine wpOp_step rfl ?_
        intro K' hK'
        go_simp
        exact hK' _ _ ⟨true, true, b2, b3, b4, b5, false, false, false, yy, xx, rfl, rfl, Lib.hid ⟨HF.out.1, HF.out.2.1, HF.out.2.2.1, HF.out.2.2.2.1, HF.out.2.2.2.2.1, HF.out.2.2.2.2.2.1, HF.out.2.2.2.2.2.2.1, HF.out.2.2.2.2.2.2.2.1, (fun _ => rfl), HF.out.2.2.2.2.2.2.2.2.2.1, (fun h => absurd h (by decide)), (fun h => absurd h (by decide)), (fun h => absurd h (by decide))⟩⟩
      · obtain rfl := Option.some.inj ho
        have hc2 : b2 = false := hl
        subst hc2
        have hc6 : b6 = false := by cases hx9 : b6 with | false => rfl | true => (have hy9 := HF.out.2.2.2.2.2.2.2.2.2.2.1 hx9; simp at hy9)
        subst hc6
        have hc7 : b7 = false := by cases hx9 : b7 with | false => rfl | true => (have hy9 := HF.out.2.2.2.2.2.2.2.2.2.2.2.1 hx9; simp at hy9)
        subst hc7
        have hc8 : b8 = false := by cases hx9 : b8 with | false => rfl | true => (have hy9 := HF.out.2.2.2.2.2.2.2.2.2.2.2.2 hx9; simp at hy9)
        subst hc8
        clear hl hd ho hL
        simp only [sel_t, sel_f]
        refine wpOp_step rfl ?_
        intro K' hK'
        go_simp
        exact hK' _ _ ⟨b0, b1, true, b3, b4, b5, false, false, false, yy, xx, rfl, rfl, Lib.hid ⟨HF.out.1, HF.out.2.1, HF.out.2.2.1, HF.out.2.2.2.1, HF.out.2.2.2.2.1, HF.out.2.2.2.2.2.1, HF.out.2.2.2.2.2.2.1, HF.out.2.2.2.2.2.2.2.1, HF.out.2.2.2.2.2.2.2.2.1, HF.out.2.2.2.2.2.2.2.2.2.1, (fun h => absurd h (by decide)), (fun h => absurd h (by decide)), (fun h => absurd h (by decide))⟩⟩
      · obtain rfl := Option.some.inj ho
        have hc3 : b3 = false := hl
        subst hc3
        have hc5 : b5 = false := by cases hx9 : b5 with | false => rfl | true => (have hy9 := HF.out.2.2.2.2.2.2.2.2.2.1 hx9; simp at hy9)
        subst hc5
        have hc8 : b8 = false := by cases hx9 : b8 with | false => rfl | true => (have hy9 := HF.out.2.2.2.2.2.2.2.2.2.2.2.2 hx9; simp at hy9)
        subst hc8
        clear hl hd ho hL
        simp only [sel_t, sel_f]
        refine wpOp_step rfl ?_
        intro K' hK'
        go_simp
        exact hK' _ _ ⟨b0, b1, b2, true, b4, false, b6, b7, false, yy, xx, rfl, rfl, Lib.hid ⟨HF.out.1, HF.out.2.1, HF.out.2.2.1, HF.out.2.2.2.1, HF.out.2.2.2.2.1, HF.out.2.2.2.2.2.1, HF.out.2.2.2.2.2.2.1, HF.out.2.2.2.2.2.2.2.1, HF.out.2.2.2.2.2.2.2.2.1, (fun h => absurd h (by decide)), HF.out.2.2.2.2.2.2.2.2.2.2.1, HF.out.2.2.2.2.2.2.2.2.2.2.2.1, (fun h => absurd h (by decide))⟩⟩
      · obtain rfl := Option.some.inj ho
        have hc4 : b4 = false := hl
        subst hc4
        have hc5 : b5 = false := by cases hx9 : b5 with | false => rfl | true => (have hy9 := HF.out.2.2.2.2.2.2.2.2.2.1 hx9; simp at hy9)
        subst hc5
        have hc8 : b8 = false := by cases hx9 : b8 with | false => rfl | true => (have hy9 := HF.out.2.2.2.2.2.2.2.2.2.2.2.2 hx9; simp at hy9)
        subst hc8
        clear hl hd ho hL
        simp only [sel_t, sel_f]
        refine wpOp_step rfl ?_
        intro K' hK'
        go_simp
        exact hK' _ _ ⟨b0, b1, b2, b3, true, false, b6, b7, false, w'.heap.size, xx, rfl, rfl, Lib.hid ⟨(HF.out.1.alloc' _), (g_alloc HF.out.2.1 _), (HF.out.2.2.1.alloc _), (HF.out.2.2.2.1.alloc _), (fun h => (HF.out.2.2.2.2.1 h).alloc _), (fun _ _ => rowN_at [12, -1, 0] w' g _ _ rfl HF.out.1.lt), (fun h => absurd h (by decide)), (Nat.le_trans HF.out.2.2.2.2.2.2.2.1 (by simp)), HF.out.2.2.2.2.2.2.2.2.1, (fun h => absurd h (by decide)), HF.out.2.2.2.2.2.2.2.2.2.2.1, HF.out.2.2.2.2.2.2.2.2.2.2.2.1, (fun h => absurd h (by decide))⟩⟩
      · obtain rfl := Option.some.inj ho
        have hc5 : b5 = false := hl
        have hc4 : b4 = true := by first | (refine hd ⟨4, .data⟩ ?_ rfl; simp; done) | (refine hd ⟨4, .chain⟩ ?_ rfl; simp; done) | (refine hd ⟨4, .phase⟩ ?_ rfl; simp; done)
        have hc3 : b3 = true := by first | (refine hd ⟨3, .data⟩ ?_ rfl; simp; done) | (refine hd ⟨3, .chain⟩ ?_ rfl; simp; done) | (refine hd ⟨3, .phase⟩ ?_ rfl; simp; done)
        subst hc5 hc4 hc3
        have hc8 : b8 = false := by cases hx9 : b8 with | false => rfl | true => (have hy9 := HF.out.2.2.2.2.2.2.2.2.2.2.2.2 hx9; simp at hy9)
        subst hc8
        clear hl hd ho hL
        simp only [sel_t, sel_f]
        have hcall := num [12, -1, 0] (.slice (some ⟨yy, 0, none⟩) 3 3) W w' g _ HF.out.1 (by simp only [Bool.toNat_false]; omega) (HF.out.2.2.2.2.2.1 rfl rfl) (by decide) (by decide)
        have HC9 := Lib.hid hcall
        clear hcall
        refine wpOp_step rfl ?_
        intro K' hK'
        go_simp
        refine HC9.out.mono ?_
        rintro e9 w9 ⟨x9, hx9, rfl, hR9, hG9⟩
        exact hK' _ _ ⟨b0, b1, b2, true, true, true, b6, b7, false, yy, x9, rfl, rfl, Lib.hid ⟨(hR9.more (by simp only [Bool.toNat_false, Bool.toNat_true]; omega)), (grown_trans' HF.out.2.1 hG9), (HF.out.2.2.1.grownG hG9 (by omega)), (HF.out.2.2.2.1.grownG hG9 (by omega)), (fun h => (HF.out.2.2.2.2.1 h).kept hG9 (own_ne' (HF.out.2.2.2.2.1 h) (by omega))), (fun _ h => absurd h (by decide)), (fun h => absurd h (by decide)), (Nat.le_trans HF.out.2.2.2.2.2.2.2.1 hG9.size), HF.out.2.2.2.2.2.2.2.2.1, (fun _ => rfl), HF.out.2.2.2.2.2.2.2.2.2.2.1, HF.out.2.2.2.2.2.2.2.2.2.2.2.1, (fun h => absurd h (by decide))⟩⟩
      · obtain rfl := Option.some.inj ho
        have hc6 : b6 = false := hl
        have hc2 : b2 = true := by first | (refine hd ⟨2, .data⟩ ?_ rfl; simp; done) | (refine hd ⟨2, .chain⟩ ?_ rfl; simp; done) | (refine hd ⟨2, .phase⟩ ?_ rfl; simp; done)
        have hc1 : b1 = true := by first | (refine hd ⟨1, .data⟩ ?_ rfl; simp; done) | (refine hd ⟨1, .chain⟩ ?_ rfl; simp; done) | (refine hd ⟨1, .phase⟩ ?_ rfl; simp; done)
        subst hc6 hc2 hc1
        have hc7 : b7 = false := by cases hx9 : b7 with | false => rfl | true => (have hy9 := HF.out.2.2.2.2.2.2.2.2.2.2.2.1 hx9; simp at hy9)
        subst hc7
        have hc8 : b8 = false := by cases hx9 : b8 with | false => rfl | true => (have hy9 := HF.out.2.2.2.2.2.2.2.2.2.2.2.2 hx9; simp at hy9)
        subst hc8
        clear hl hd ho hL
        simp only [sel_t, sel_f]
        refine wpOp_step rfl ?_
        intro K' hK'
        go_simp
        exact hK' _ _ ⟨b0, true, true, b3, b4, b5, true, false, false, yy, xx, rfl, rfl, Lib.hid ⟨HF.out.1, HF.out.2.1, HF.out.2.2.1, HF.out.2.2.2.1, HF.out.2.2.2.2.1, HF.out.2.2.2.2.2.1, HF.out.2.2.2.2.2.2.1, HF.out.2.2.2.2.2.2.2.1, HF.out.2.2.2.2.2.2.2.2.1, HF.out.2.2.2.2.2.2.2.2.2.1, (fun _ => rfl), (fun h => absurd h (by decide)), (fun h => absurd h (by decide))⟩⟩
      · obtain rfl := Option.some.inj ho
        have hc7 : b7 = false := hl
        have hc6 : b6 = true := by first | (refine hd ⟨6, .data⟩ ?_ rfl; simp; done) | (refine hd ⟨6, .chain⟩ ?_ rfl; simp; done) | (refine hd ⟨6, .phase⟩ ?_ rfl; simp; done)
        subst hc7 hc6
        have hc8 : b8 = false := by cases hx9 : b8 with | false => rfl | true => (have hy9 := HF.out.2.2.2.2.2.2.2.2.2.2.2.2 hx9; simp at hy9)
        subst hc8
        clear hl hd ho hL
        simp only [sel_t, sel_f]
        refine wpOp_step rfl ?_
        intro K' hK'
        go_simp
        exact hK' _ _ ⟨b0, b1, b2, b3, b4, b5, true, true, false, yy, xx, rfl, rfl, Lib.hid ⟨HF.out.1, HF.out.2.1, HF.out.2.2.1, HF.out.2.2.2.1, HF.out.2.2.2.2.1, HF.out.2.2.2.2.2.1, HF.out.2.2.2.2.2.2.1, HF.out.2.2.2.2.2.2.2.1, HF.out.2.2.2.2.2.2.2.2.1, HF.out.2.2.2.2.2.2.2.2.2.1, HF.out.2.2.2.2.2.2.2.2.2.2.1, (fun _ => rfl), (fun h => absurd h (by decide))⟩⟩
      · obtain rfl := Option.some.inj ho
        have hc8 : b8 = false := hl
        have hc7 : b7 = true := by first | (refine hd ⟨7, .data⟩ ?_ rfl; simp; done) | (refine hd ⟨7, .chain⟩ ?_ rfl; simp; done) | (refine hd ⟨7, .phase⟩ ?_ rfl; simp; done)
        have hc6 : b6 = true := by first | (refine hd ⟨6, .data⟩ ?_ rfl; simp; done) | (refine hd ⟨6, .chain⟩ ?_ rfl; simp; done) | (refine hd ⟨6, .phase⟩ ?_ rfl; simp; done) | exact HF.out.2.2.2.2.2.2.2.2.2.2.2.1 hc7 | (have hy9 := HF.out.2.2.2.2.2.2.2.2.2.2.2.1 hc7; simp at hy9; simp [hy9]; done)
        have hc5 : b5 = true := by first | (refine hd ⟨5, .data⟩ ?_ rfl; simp; done) | (refine hd ⟨5, .chain⟩ ?_ rfl; simp; done) | (refine hd ⟨5, .phase⟩ ?_ rfl; simp; done)
        have hc4 : b4 = true := by first | (refine hd ⟨4, .data⟩ ?_ rfl; simp; done) | (refine hd ⟨4, .chain⟩ ?_ rfl; simp; done) | (refine hd ⟨4, .phase⟩ ?_ rfl; simp; done) | exact HF.out.2.2.2.2.2.2.2.2.2.1 hc5 | (have hy9 := HF.out.2.2.2.2.2.2.2.2.2.1 hc5; simp at hy9; simp [hy9]; done)
        have hc3 : b3 = true := by first | (refine hd ⟨3, .data⟩ ?_ rfl; simp; done) | (refine hd ⟨3, .chain⟩ ?_ rfl; simp; done) | (refine hd ⟨3, .phase⟩ ?_ rfl; simp; done) | exact HF.out.2.2.2.2.2.2.2.2.2.1 hc5 | (have hy9 := HF.out.2.2.2.2.2.2.2.2.2.1 hc5; simp at hy9; simp [hy9]; done)
        have hc2 : b2 = true := by first | (refine hd ⟨2, .data⟩ ?_ rfl; simp; done) | (refine hd ⟨2, .chain⟩ ?_ rfl; simp; done) | (refine hd ⟨2, .phase⟩ ?_ rfl; simp; done) | exact HF.out.2.2.2.2.2.2.2.2.2.2.1 hc6 | (have hy9 := HF.out.2.2.2.2.2.2.2.2.2.2.1 hc6; simp at hy9; simp [hy9]; done)
        have hc1 : b1 = true := by first | (refine hd ⟨1, .data⟩ ?_ rfl; simp; done) | (refine hd ⟨1, .chain⟩ ?_ rfl; simp; done) | (refine hd ⟨1, .phase⟩ ?_ rfl; simp; done) | exact HF.out.2.2.2.2.2.2.2.2.2.2.1 hc6 | (have hy9 := HF.out.2.2.2.2.2.2.2.2.2.2.1 hc6; simp at hy9; simp [hy9]; done)
        have hc0 : b0 = true := by first | (refine hd ⟨0, .data⟩ ?_ rfl; simp; done) | (refine hd ⟨0, .chain⟩ ?_ rfl; simp; done) | (refine hd ⟨0, .phase⟩ ?_ rfl; simp; done) | exact HF.out.2.2.2.2.2.2.2.2.1 hc1 | (have hy9 := HF.out.2.2.2.2.2.2.2.2.1 hc1; simp at hy9; simp [hy9]; done)
        subst hc8 hc7 hc6 hc5 hc4 hc3 hc2 hc1 hc0
        clear hl hd ho hL
        simp only [sel_t, sel_f]
        have ho9 := HF.out.2.2.2.2.1 rfl
        have hc9 : w'.cell? ⟨B, k * 3 + 1, none⟩ = (cellsE es)[k * 3 + 1]? := ho9.cellAt (k * 3 + 1) (by omega)
        have hc8 : (cellsE es)[k * 3 + 1]? = some (cellE es (k * 3 + 1)) := cellsE_at es (by omega)
        rw [hc8] at hc9
        have hf9 := ho9.frozenAt (k * 3 + 1)
        obtain ⟨ho8, hg8⟩ := ho9.stored (k * 3 + 1) (.int .i64 xx)
        rw [setTo_cells es k hk xx] at ho8
        have hsz9 := HF.out.2.2.2.2.2.2.2.1
        have hRl := HF.out.1.lt
        have hWn := HF.out.1.new
        have HO8 := Lib.hid ho8
        have HG8 := Lib.hid hg8
        clear ho8 hg8 hc8
        refine wpOp_step rfl ?_
        intro K' hK'
        go_simp
        exact hK' _ _ ⟨true, true, true, true, true, true, true, true, true, yy, xx, rfl, rfl, Lib.hid ⟨(HF.out.1.set' (by omega) (by omega) _), (g_set HF.out.2.1 (by omega)), (HF.out.2.2.1.grownN HG8.out (by intro h; injection h with h; omega)), (HF.out.2.2.2.1.grownN HG8.out (by intro h; injection h with h; omega)), (fun h => absurd h (by decide)), (fun _ h => absurd h (by decide)), (fun _ => HO8.out), (Nat.le_trans HF.out.2.2.2.2.2.2.2.1 (by simp)), (fun h => by have := HF.out.2.2.2.2.2.2.2.2.1 h; simpa using this), (fun h => by have := HF.out.2.2.2.2.2.2.2.2.2.1 h; simpa using this), (fun h => by have := HF.out.2.2.2.2.2.2.2.2.2.2.1 h; simpa using this), (fun h => by have := HF.out.2.2.2.2.2.2.2.2.2.2.2.1 h; simpa using this), (fun _ => rfl)⟩⟩
    · rintro L a w' hL ⟨b0, b1, b2, b3, b4, b5, b6, b7, b8, yy, xx, rfl, rfl, HF⟩ hall
      have hc0 : b0 = true := hall 0 (by decide)
      have hc1 : b1 = true := hall 1 (by decide)
      have hc2 : b2 = true := hall 2 (by decide)
      have hc3 : b3 = true := hall 3 (by decide)
      have hc4 : b4 = true := hall 4 (by decide)
      have hc5 : b5 = true := hall 5 (by decide)
      have hc6 : b6 = true := hall 6 (by decide)
      have hc7 : b7 = true := hall 7 (by decide)
      have hc8 : b8 = true := hall 8 (by decide)
      subst hc0 hc1 hc2 hc3 hc4 hc5 hc6 hc7 hc8
      simp only [sel_t]
      have HE := Lib.hid (And.intro (HF.out.1.more (show _ ≤ q + 4 by simp only [Bool.toNat_true]; omega)) (And.intro HF.out.2.1 (And.intro HF.out.2.2.1 (And.intro HF.out.2.2.2.1 (HF.out.2.2.2.2.2.2.1 rfl)))))
      clear HF
      have c0 : w'.cell? ⟨w1.heap.size, 0, none⟩ = some (.int .i64 n) := by simpa using HE.out.2.2.1.cell 0
      have c1 : w'.cell? ⟨w1.heap.size, 1, none⟩ = some (.slice (some ⟨B, 0, none⟩) es.length vc) := by simpa using HE.out.2.2.1.cell 1
      have r0 : w'.cell? ⟨w.heap.size + 1, 0, none⟩ = some (.int .i64 0) := by simpa using HE.out.2.2.2.1.cell 0
      have r1 : w'.cell? ⟨w.heap.size + 1, 1, none⟩ = some (.slice none 0 0) := by simpa using HE.out.2.2.2.1.cell 1
      have r2 := HE.out.2.2.2.1.frozen 0
      have r3 := HE.out.2.2.2.1.frozen 1
      go_wp2
      try simp only [Exit.inBlock, Exit.then]
      refine bodyPost_ret (v := .agg #[.int .i64 n, (.slice (some ⟨B, 0, none⟩) es.length vc)]) ?_ rfl ?_
      · rw [results_cell1 rfl]
        go_simp
      exact drawnW_of (es := setTo es k xx) (q := q + 4) (q' := q + 4) HE.out.1 HE.out.2.1 HE.out.2.2.2.1 (by simpa [setTo] using HE.out.2.2.2.2) (by omega) (by simp [setTo]) (by omega) (by omega) hglt
  have d0 : (y == 0) = false := by simpa using e0
  by_cases e1 : y = 1
  · subst e1
    go_upto_region 9 with fail
    refine wp_region_inv (fun L a w' => ∃ (b0 b1 b2 b3 b4 b5 b6 b7 b8 : Bool) (yy : Nat) (xx : Int), L = #[b0, b1, b2, b3, b4, b5, b6, b7, b8] ∧ a = { tmps := #[Value.pointer (some ⟨g, 0, none⟩), Value.agg #[.int .i64 n, .slice ad es.length cap], undef, Value.pointer (some ⟨w.heap.size, 0, none⟩), Value.pointer (some ⟨w.heap.size + 1, 0, none⟩), Value.pointer (some ⟨w1.heap.size, 0, none⟩), Value.int .i64 (k : Int), Value.agg #[.int .i64 n, .slice ad es.length cap], Value.agg #[.int .i64 n, .slice (some ⟨B, 0, none⟩) es.length vc], Value.pointer (some ⟨g, 0, none⟩), Value.int .i64 x, Value.bool false, Value.bool false, Value.pointer (some ⟨w1.heap.size, 1, none⟩), Value.slice (some ⟨B, 0, none⟩) es.length vc, Value.int .i64 (es.length : Int), Value.bool false, Value.bool false, undef, Value.pointer (some ⟨g, 0, none⟩), Value.pointer (some ⟨w1.heap.size, 1, none⟩), Value.slice (some ⟨B, 0, none⟩) es.length vc, Value.int .i64 (es.length : Int), Value.int .i64 (k : Int), Value.pointer (some ⟨g, 0, none⟩), Value.int .i64 1, Value.bool false, Value.bool false, undef, undef, undef, undef, undef, undef, undef, undef, Value.bool true, Value.bool true, sel b0 (Value.pointer (some ⟨w1.heap.size, 1, none⟩)) undef, sel b1 (Value.slice (some ⟨B, 0, none⟩) es.length vc) undef, sel b2 (Value.int .i64 (k : Int)) undef, sel b3 (Value.pointer (some ⟨g, 0, none⟩)) undef, sel b4 (Value.slice (some ⟨yy, 0, none⟩) 2 2) undef, sel b5 (Value.int .i64 xx) undef, sel b6 (Value.pointer (some ⟨B, k * 3, none⟩)) undef, sel b7 (Value.pointer (some ⟨B, k * 3 + 2, none⟩)) undef, undef, undef, undef, undef, undef, undef, undef, undef, undef, undef, undef, undef, undef, undef, undef, undef, undef, undef, undef], defers := [] } ∧ Hid ((Rd W w' g (q + 1 + 1 + 1 + b5.toNat)) ∧ (w.grownBy w' (some g)) ∧ (Box w' w1.heap.size 25 #[.int .i64 n, .slice (some ⟨B, 0, none⟩) es.length vc]) ∧ (Box w' (w.heap.size + 1) 25 #[.int .i64 0, .slice none 0 0]) ∧ (b8 = false → w'.ownsRow (w0.heap.size + 1) 36 3 (.slice (some ⟨B, 0, none⟩) es.length vc) es.length (cellsE es)) ∧ (b4 = true → b5 = false → RowN w' g (.slice (some ⟨yy, 0, none⟩) 2 2) [0, 1000]) ∧ (b8 = true → w'.ownsRow (w0.heap.size + 1) 36 3 (.slice (some ⟨B, 0, none⟩) es.length vc) es.length (cellsE (setWt es k xx))) ∧ (w5.heap.size ≤ w'.heap.size) ∧ (b1 = true → (b0) = true) ∧ (b5 = true → (b3 && b4) = true) ∧ (b6 = true → (b1 && b2) = true) ∧ (b7 = true → (b6) = true) ∧ (b8 = true → (b0 && b1 && b2 && b3 && b4 && b5 && b6 && b7) = true))) (by kernel_rfl) (by kernel_rfl) ?_ ?_ ?_
    · exact ⟨false, false, false, false, false, false, false, false, false, 0, 0, rfl, rfl, Lib.hid ⟨K5.out.1.drew', (g_drew K5.out.2.1), K5.out.2.2.1.drew, K5.out.2.2.2.1.drew, (fun _ => own_drew K5.out.2.2.2.2), (fun h => absurd h (by decide)), (fun h => absurd h (by decide)), (Nat.le_refl _), (fun h => absurd h (by decide)), (fun h => absurd h (by decide)), (fun h => absurd h (by decide)), (fun h => absurd h (by decide)), (fun h => absurd h (by decide))⟩⟩
    · rintro L a w' hL ⟨b0, b1, b2, b3, b4, b5, b6, b7, b8, yy, xx, rfl, rfl, HF⟩ k9 o9 ho hl hd
      have hk9 : k9 = 0 ∨ k9 = 1 ∨ k9 = 2 ∨ k9 = 3 ∨ k9 = 4 ∨ k9 = 5 ∨ k9 = 6 ∨ k9 = 7 ∨ k9 = 8 := by have := (Array.getElem?_eq_some_iff.1 ho).1; simp at this; omega
      rcases hk9 with rfl | rfl | rfl | rfl | rfl | rfl | rfl | rfl | rfl
      · obtain rfl := Option.some.inj ho
        have hc0 : b0 = false := hl
        subst hc0
        have hc1 : b1 = false := by cases hx9 : b1 with | false => rfl | true => (have hy9 := HF.out.2.2.2.2.2.2.2.2.1 hx9; simp at hy9)
        subst hc1
        have hc6 : b6 = false := by cases hx9 : b6 with | false => rfl | true => (have hy9 := HF.out.2.2.2.2.2.2.2.2.2.2.1 hx9; simp at hy9)
        subst hc6
        have hc7 : b7 = false := by cases hx9 : b7 with | false => rfl | true => (have hy9 := HF.out.2.2.2.2.2.2.2.2.2.2.2.1 hx9; simp at hy9)
        subst hc7
        have hc8 : b8 = false := by cases hx9 : b8 with | false => rfl | true => (have hy9 := HF.out.2.2.2.2.2.2.2.2.2.2.2.2 hx9; simp at hy9)
        subst hc8
        clear hl hd ho hL
        simp only [sel_t, sel_f]
        refine wpOp_step rfl ?_
        intro K' hK'
        go_simp
        exact hK' _ _ ⟨true, false, b2, b3, b4, b5, false, false, false, yy, xx, rfl, rfl, Lib.hid ⟨HF.out.1, HF.out.2.1, HF.out.2.2.1, HF.out.2.2.2.1, HF.out.2.2.2.2.1, HF.out.2.2.2.2.2.1, HF.out.2.2.2.2.2.2.1, HF.out.2.2.2.2.2.2.2.1, (fun h => absurd h (by decide)), HF.out.2.2.2.2.2.2.2.2.2.1, (fun h => absurd h (by decide)), (fun h => absurd h (by decide)), (fun h => absurd h (by decide))⟩⟩
      · obtain rfl := Option.some.inj ho
        have hc1 : b1 = false := hl
        have hc0 : b0 = true := by first | (refine hd ⟨0, .data⟩ ?_ rfl; simp; done) | (refine hd ⟨0, .chain⟩ ?_ rfl; simp; done) | (refine hd ⟨0, .phase⟩ ?_ rfl; simp; done)
        subst hc1 hc0
        have hc6 : b6 = false := by cases hx9 : b6 with | false => rfl | true => (have hy9 := HF.out.2.2.2.2.2.2.2.2.2.2.1 hx9; simp at hy9)
        subst hc6
        have hc7 : b7 = false := by cases hx9 : b7 with | false => rfl | true => (have hy9 := HF.out.2.2.2.2.2.2.2.2.2.2.2.1 hx9; simp at hy9)
        subst hc7
        have hc8 : b8 = false := by cases hx9 : b8 with | false => rfl | true => (have hy9 := HF.out.2.2.2.2.2.2.2.2.2.2.2.2 hx9; simp at hy9)
        subst hc8
        clear hl hd ho hL
        simp only [sel_t, sel_f]
        have x0 : w'.cell? ⟨w1.heap.size, 1, none⟩ = some (.slice (some ⟨B, 0, none⟩) es.length vc) := by simpa using HF.out.2.2.1.cell 1
        refine wpOp_step rfl ?_
        intro K' hK'
        go_simp
        exact hK' _ _ ⟨true, true, b2, b3, b4, b5, false, false, false, yy, xx, rfl, rfl, Lib.hid ⟨HF.out.1, HF.out.2.1, HF.out.2.2.1, HF.out.2.2.2.1, HF.out.2.2.2.2.1, HF.out.2.2.2.2.2.1, HF.out.2.2.2.2.2.2.1, HF.out.2.2.2.2.2.2.2.1, (fun _ => rfl), HF.out.2.2.2.2.2.2.2.2.2.1, (fun h => absurd h (by decide)), (fun h => absurd h (by decide)), (fun h => absurd h (by decide))⟩⟩
      · obtain rfl := Option.some.inj ho
        have hc2 : b2 = false := hl
        subst hc2
        have hc6 : b6 = false := by cases hx9 : b6 with | false => rfl | true => (have hy9 := HF.out.2.2.2.2.2.2.2.2.2.2.1 hx9; simp at hy9)
        subst hc6
        have hc7 : b7 = false := by cases hx9 : b7 with | false => rfl | true => (have hy9 := HF.out.2.2.2.2.2.2.2.2.2.2.2.1 hx9; simp at hy9)
        subst hc7
        have hc8 : b8 = false := by cases hx9 : b8 with | false => rfl | true => (have hy9 := HF.out.2.2.2.2.2.2.2.2.2.2.2.2 hx9; simp at hy9)
        subst hc8
        clear hl hd ho hL
        simp only [sel_t, sel_f]
        refine wpOp_step rfl ?_
        intro K' hK'
        go_simp
        exact hK' _ _ ⟨b0, b1, true, b3, b4, b5, false, false, false, yy, xx, rfl, rfl, Lib.hid ⟨HF.out.1, HF.out.2.1, HF.out.2.2.1, HF.out.2.2.2.1, HF.out.2.2.2.2.1, HF.out.2.2.2.2.2.1, HF.out.2.2.2.2.2.2.1, HF.out.2.2.2.2.2.2.2.1, HF.out.2.2.2.2.2.2.2.2.1, HF.out.2.2.2.2.2.2.2.2.2.1, (fun h => absurd h (by decide)), (fun h => absurd h (by decide)), (fun h => absurd h (by decide))⟩⟩
      · obtain rfl := Option.some.inj ho
        have hc3 : b3 = false := hl
        subst hc3
        have hc5 : b5 = false := by cases hx9 : b5 with | false => rfl | true => (have hy9 := HF.out.2.2.2.2.2.2.2.2.2.1 hx9; simp at hy9)
        subst hc5
        have hc8 : b8 = false := by cases hx9 : b8 with | false => rfl | true => (have hy9 := HF.out.2.2.2.2.2.2.2.2.2.2.2.2 hx9; simp at hy9)
        subst hc8
        clear hl hd ho hL
        simp only [sel_t, sel_f]
        refine wpOp_step rfl ?_
        intro K' hK'
        go_simp
        exact hK' _ _ ⟨b0, b1, b2, true, b4, false, b6, b7, false, yy, xx, rfl, rfl, Lib.hid ⟨HF.out.1, HF.out.2.1, HF.out.2.2.1, HF.out.2.2.2.1, HF.out.2.2.2.2.1, HF.out.2.2.2.2.2.1, HF.out.2.2.2.2.2.2.1, HF.out.2.2.2.2.2.2.2.1, HF.out.2.2.2.2.2.2.2.2.1, (fun h => absurd h (by decide)), HF.out.2.2.2.2.2.2.2.2.2.2.1, HF.out.2.2.2.2.2.2.2.2.2.2.2.1, (fun h => absurd h (by decide))⟩⟩
      · obtain rfl := Option.some.inj ho
        have hc4 : b4 = false := hl
        subst hc4
        have hc5 : b5 = false := by cases hx9 : b5 with | false => rfl | true => (have hy9 := HF.out.2.2.2.2.2.2.2.2.2.1 hx9; simp at hy9)
        subst hc5
        have hc8 : b8 = false := by cases hx9 : b8 with | false => rfl | true => (have hy9 := HF.out.2.2.2.2.2.2.2.2.2.2.2.2 hx9; simp at hy9)
        subst hc8
        clear hl hd ho hL
        simp only [sel_t, sel_f]
        refine wpOp_step rfl ?_
        intro K' hK'
        go_simp
        exact hK' _ _ ⟨b0, b1, b2, b3, true, false, b6, b7, false, w'.heap.size, xx, rfl, rfl, Lib.hid ⟨(HF.out.1.alloc' _), (g_alloc HF.out.2.1 _), (HF.out.2.2.1.alloc _), (HF.out.2.2.2.1.alloc _), (fun h => (HF.out.2.2.2.2.1 h).alloc _), (fun _ _ => rowN_at [0, 1000] w' g _ _ rfl HF.out.1.lt), (fun h => absurd h (by decide)), (Nat.le_trans HF.out.2.2.2.2.2.2.2.1 (by simp)), HF.out.2.2.2.2.2.2.2.2.1, (fun h => absurd h (by decide)), HF.out.2.2.2.2.2.2.2.2.2.2.1, HF.out.2.2.2.2.2.2.2.2.2.2.2.1, (fun h => absurd h (by decide))⟩⟩
      · obtain rfl := Option.some.inj ho
        have hc5 : b5 = false := hl
        have hc4 : b4 = true := by first | (refine hd ⟨4, .data⟩ ?_ rfl; simp; done) | (refine hd ⟨4, .chain⟩ ?_ rfl; simp; done) | (refine hd ⟨4, .phase⟩ ?_ rfl; simp; done)
        have hc3 : b3 = true := by first | (refine hd ⟨3, .data⟩ ?_ rfl; simp; done) | (refine hd ⟨3, .chain⟩ ?_ rfl; simp; done) | (refine hd ⟨3, .phase⟩ ?_ rfl; simp; done)
        subst hc5 hc4 hc3
        have hc8 : b8 = false := by cases hx9 : b8 with | false => rfl | true => (have hy9 := HF.out.2.2.2.2.2.2.2.2.2.2.2.2 hx9; simp at hy9)
        subst hc8
        clear hl hd ho hL
        simp only [sel_t, sel_f]
        have hcall := num [0, 1000] (.slice (some ⟨yy, 0, none⟩) 2 2) W w' g _ HF.out.1 (by simp only [Bool.toNat_false]; omega) (HF.out.2.2.2.2.2.1 rfl rfl) (by decide) (by decide)
        have HC9 := Lib.hid hcall
        clear hcall
        refine wpOp_step rfl ?_
        intro K' hK'
        go_simp
        refine HC9.out.mono ?_
        rintro e9 w9 ⟨x9, hx9, rfl, hR9, hG9⟩
        exact hK' _ _ ⟨b0, b1, b2, true, true, true, b6, b7, false, yy, x9, rfl, rfl, Lib.hid ⟨(hR9.more (by simp only [Bool.toNat_false, Bool.toNat_true]; omega)), (grown_trans' HF.out.2.1 hG9), (HF.out.2.2.1.grownG hG9 (by omega)), (HF.out.2.2.2.1.grownG hG9 (by omega)), (fun h => (HF.out.2.2.2.2.1 h).kept hG9 (own_ne' (HF.out.2.2.2.2.1 h) (by omega))), (fun _ h => absurd h (by decide)), (fun h => absurd h (by decide)), (Nat.le_trans HF.out.2.2.2.2.2.2.2.1 hG9.size), HF.out.2.2.2.2.2.2.2.2.1, (fun _ => rfl), HF.out.2.2.2.2.2.2.2.2.2.2.1, HF.out.2.2.2.2.2.2.2.2.2.2.2.1, (fun h => absurd h (by decide))⟩⟩
      · obtain rfl := Option.some.inj ho
        have hc6 : b6 = false := hl
        have hc2 : b2 = true := by first | (refine hd ⟨2, .data⟩ ?_ rfl; simp; done) | (refine hd ⟨2, .chain⟩ ?_ rfl; simp; done) | (refine hd ⟨2, .phase⟩ ?_ rfl; simp; done)
        have hc1 : b1 = true := by first | (refine hd ⟨1, .data⟩ ?_ rfl; simp; done) | (refine hd ⟨1, .chain⟩ ?_ rfl; simp; done) | (refine hd ⟨1, .phase⟩ ?_ rfl; simp; done)
        subst hc6 hc2 hc1
        have hc7 : b7 = false := by cases hx9 : b7 with | false => rfl | true => (have hy9 := HF.out.2.2.2.2.2.2.2.2.2.2.2.1 hx9; simp at hy9)
        subst hc7
        have hc8 : b8 = false := by cases hx9 : b8 with | false => rfl | true => (have hy9 := HF.out.2.2.2.2.2.2.2.2.2.2.2.2 hx9; simp at hy9)
        subst hc8
        clear hl hd ho hL
        simp only [sel_t, sel_f]
        refine wpOp_step rfl ?_
        intro K' hK'
        go_simp
        exact hK' _ _ ⟨b0, true, true, b3, b4, b5, true, false, false, yy, xx, rfl, rfl, Lib.hid ⟨HF.out.1, HF.out.2.1, HF.out.2.2.1, HF.out.2.2.2.1, HF.out.2.2.2.2.1, HF.out.2.2.2.2.2.1, HF.out.2.2.2.2.2.2.1, HF.out.2.2.2.2.2.2.2.1, HF.out.2.2.2.2.2.2.2.2.1, HF.out.2.2.2.2.2.2.2.2.2.1, (fun _ => rfl), (fun h => absurd h (by decide)), (fun h => absurd h (by decide))⟩⟩
      · obtain rfl := Option.some.inj ho
        have hc7 : b7 = false := hl
        have hc6 : b6 = true := by first | (refine hd ⟨6, .data⟩ ?_ rfl; simp; done) | (refine hd ⟨6, .chain⟩ ?_ rfl; simp; done) | (refine hd ⟨6, .phase⟩ ?_ rfl; simp; done)
        subst hc7 hc6
        have hc8 : b8 = false := by cases hx9 : b8 with | false => rfl | true => (have hy9 := HF.out.2.2.2.2.2.2.2.2.2.2.2.2 hx9; simp at hy9)
        subst hc8
        clear hl hd ho hL
        simp only [sel_t, sel_f]
        refine wpOp_step rfl ?_
        intro K' hK'
        go_simp
        exact hK' _ _ ⟨b0, b1, b2, b3, b4, b5, true, true, false, yy, xx, rfl, rfl, Lib.hid ⟨HF.out.1, HF.out.2.1, HF.out.2.2.1, HF.out.2.2.2.1, HF.out.2.2.2.2.1, HF.out.2.2.2.2.2.1, HF.out.2.2.2.2.2.2.1, HF.out.2.2.2.2.2.2.2.1, HF.out.2.2.2.2.2.2.2.2.1, HF.out.2.2.2.2.2.2.2.2.2.1, HF.out.2.2.2.2.2.2.2.2.2.2.1, (fun _ => rfl), (fun h => absurd h (by decide))⟩⟩
      · obtain rfl := Option.some.inj ho
        have hc8 : b8 = false := hl
        have hc7 : b7 = true := by first | (refine hd ⟨7, .data⟩ ?_ rfl; simp; done) | (refine hd ⟨7, .chain⟩ ?_ rfl; simp; done) | (refine hd ⟨7, .phase⟩ ?_ rfl; simp; done)
        have hc6 : b6 = true := by first | (refine hd ⟨6, .data⟩ ?_ rfl; simp; done) | (refine hd ⟨6, .chain⟩ ?_ rfl; simp; done) | (refine hd ⟨6, .phase⟩ ?_ rfl; simp; done) | exact HF.out.2.2.2.2.2.2.2.2.2.2.2.1 hc7 | (have hy9 := HF.out.2.2.2.2.2.2.2.2.2.2.2.1 hc7; simp at hy9; simp [hy9]; done)
        have hc5 : b5 = true := by first | (refine hd ⟨5, .data⟩ ?_ rfl; simp; done) | (refine hd ⟨5, .chain⟩ ?_ rfl; simp; done) | (refine hd ⟨5, .phase⟩ ?_ rfl; simp; done)
        have hc4 : b4 = true := by first | (refine hd ⟨4, .data⟩ ?_ rfl; simp; done) | (refine hd ⟨4, .chain⟩ ?_ rfl; simp; done) | (refine hd ⟨4, .phase⟩ ?_ rfl; simp; done) | exact HF.out.2.2.2.2.2.2.2.2.2.1 hc5 | (have hy9 := HF.out.2.2.2.2.2.2.2.2.2.1 hc5; simp at hy9; simp [hy9]; done)
        have hc3 : b3 = true := by first | (refine hd ⟨3, .data⟩ ?_ rfl; simp; done) | (refine hd ⟨3, .chain⟩ ?_ rfl; simp; done) | (refine hd ⟨3, .phase⟩ ?_ rfl; simp; done) | exact HF.out.2.2.2.2.2.2.2.2.2.1 hc5 | (have hy9 := HF.out.2.2.2.2.2.2.2.2.2.1 hc5; simp at hy9; simp [hy9]; done)
        have hc2 : b2 = true := by first | (refine hd ⟨2, .data⟩ ?_ rfl; simp; done) | (refine hd ⟨2, .chain⟩ ?_ rfl; simp; done) | (refine hd ⟨2, .phase⟩ ?_ rfl; simp; done) | exact HF.out.2.2.2.2.2.2.2.2.2.2.1 hc6 | (have hy9 := HF.out.2.2.2.2.2.2.2.2.2.2.1 hc6; simp at hy9; simp [hy9]; done)
        have hc1 : b1 = true := by first | (refine hd ⟨1, .data⟩ ?_ rfl; simp; done) | (refine hd ⟨1, .chain⟩ ?_ rfl; simp; done) | (refine hd ⟨1, .phase⟩ ?_ rfl; simp; done) | exact HF.out.2.2.2.2.2.2.2.2.2.2.1 hc6 | (have hy9 := HF.out.2.2.2.2.2.2.2.2.2.2.1 hc6; simp at hy9; simp [hy9]; done)
        have hc0 : b0 = true := by first | (refine hd ⟨0, .data⟩ ?_ rfl; simp; done) | (refine hd ⟨0, .chain⟩ ?_ rfl; simp; done) | (refine hd ⟨0, .phase⟩ ?_ rfl; simp; done) | exact HF.out.2.2.2.2.2.2.2.2.1 hc1 | (have hy9 := HF.out.2.2.2.2.2.2.2.2.1 hc1; simp at hy9; simp [hy9]; done)
        subst hc8 hc7 hc6 hc5 hc4 hc3 hc2 hc1 hc0
        clear hl hd ho hL
        simp only [sel_t, sel_f]
        have ho9 := HF.out.2.2.2.2.1 rfl
        have hc9 : w'.cell? ⟨B, k * 3 + 2, none⟩ = (cellsE es)[k * 3 + 2]? := ho9.cellAt (k * 3 + 2) (by omega)
        have hc8 : (cellsE es)[k * 3 + 2]? = some (cellE es (k * 3 + 2)) := cellsE_at es (by omega)
        rw [hc8] at hc9
        have hf9 := ho9.frozenAt (k * 3 + 2)
        obtain ⟨ho8, hg8⟩ := ho9.stored (k * 3 + 2) (.int .i64 xx)
        rw [setWt_cells es k hk xx] at ho8
        have hsz9 := HF.out.2.2.2.2.2.2.2.1
        have hRl := HF.out.1.lt
        have hWn := HF.out.1.new
        have HO8 := Lib.hid ho8
        have HG8 := Lib.hid hg8
        clear ho8 hg8 hc8
        refine wpOp_step rfl ?_
        intro K' hK'
        go_simp
        exact hK' _ _ ⟨true, true, true, true, true, true, true, true, true, yy, xx, rfl, rfl, Lib.hid ⟨(HF.out.1.set' (by omega) (by omega) _), (g_set HF.out.2.1 (by omega)), (HF.out.2.2.1.grownN HG8.out (by intro h; injection h with h; omega)), (HF.out.2.2.2.1.grownN HG8.out (by intro h; injection h with h; omega)), (fun h => absurd h (by decide)), (fun _ h => absurd h (by decide)), (fun _ => HO8.out), (Nat.le_trans HF.out.2.2.2.2.2.2.2.1 (by simp)), (fun h => by have := HF.out.2.2.2.2.2.2.2.2.1 h; simpa using this), (fun h => by have := HF.out.2.2.2.2.2.2.2.2.2.1 h; simpa using this), (fun h => by have := HF.out.2.2.2.2.2.2.2.2.2.2.1 h; simpa using this), (fun h => by have := HF.out.2.2.2.2.2.2.2.2.2.2.2.1 h; simpa using this), (fun _ => rfl)⟩⟩
    · rintro L a w' hL ⟨b0, b1, b2, b3, b4, b5, b6, b7, b8, yy, xx, rfl, rfl, HF⟩ hall
      have hc0 : b0 = true := hall 0 (by decide)
      have hc1 : b1 = true := hall 1 (by decide)
      have hc2 : b2 = true := hall 2 (by decide)
      have hc3 : b3 = true := hall 3 (by decide)
      have hc4 : b4 = true := hall 4 (by decide)
      have hc5 : b5 = true := hall 5 (by decide)
      have hc6 : b6 = true := hall 6 (by decide)
      have hc7 : b7 = true := hall 7 (by decide)
      have hc8 : b8 = true := hall 8 (by decide)
      subst hc0 hc1 hc2 hc3 hc4 hc5 hc6 hc7 hc8
      simp only [sel_t]
      have HE := Lib.hid (And.intro (HF.out.1.more (show _ ≤ q + 4 by simp only [Bool.toNat_true]; omega)) (And.intro HF.out.2.1 (And.intro HF.out.2.2.1 (And.intro HF.out.2.2.2.1 (HF.out.2.2.2.2.2.2.1 rfl)))))
      clear HF
      have c0 : w'.cell? ⟨w1.heap.size, 0, none⟩ = some (.int .i64 n) := by simpa using HE.out.2.2.1.cell 0
      have c1 : w'.cell? ⟨w1.heap.size, 1, none⟩ = some (.slice (some ⟨B, 0, none⟩) es.length vc) := by simpa using HE.out.2.2.1.cell 1
      have r0 : w'.cell? ⟨w.heap.size + 1, 0, none⟩ = some (.int .i64 0) := by simpa using HE.out.2.2.2.1.cell 0
      have r1 : w'.cell? ⟨w.heap.size + 1, 1, none⟩ = some (.slice none 0 0) := by simpa using HE.out.2.2.2.1.cell 1
      have r2 := HE.out.2.2.2.1.frozen 0
      have r3 := HE.out.2.2.2.1.frozen 1
      go_wp2
      try simp only [Exit.inBlock, Exit.then]
      refine bodyPost_ret (v := .agg #[.int .i64 n, (.slice (some ⟨B, 0, none⟩) es.length vc)]) ?_ rfl ?_
      · rw [results_cell1 rfl]
        go_simp
      exact drawnW_of (es := setWt es k xx) (q := q + 4) (q' := q + 4) HE.out.1 HE.out.2.1 HE.out.2.2.2.1 (by simpa [setWt] using HE.out.2.2.2.2) (by omega) (by simp [setWt]) (by omega) (by omega) hglt
  have d1 : (y == 1) = false := by simpa using e1
  by_cases e2 : y = 2
  · subst e2
    go_wp2_with fail
    refine (num_built [0, 13, 1] W w5 g _ K5.out.1 (by omega) _ (by decide) (by decide)).mono ?_
    rintro e w' ⟨z, hz, rfl, hRd, hG⟩
    have K6 := Lib.hid (And.intro hRd (And.intro (grown_trans' K5.out.2.1 hG) (And.intro (K5.out.2.2.1.grownG hG (by omega)) (And.intro (K5.out.2.2.2.1.grownG hG (by omega)) (K5.out.2.2.2.2.kept hG (own_ne' K5.out.2.2.2.2 (by omega)))))))
    clear hRd hG hz c1
    have c0 : w'.cell? ⟨w1.heap.size, 0, none⟩ = some (.int .i64 n) := by simpa using K6.out.2.2.1.cell 0
    have c1 : w'.cell? ⟨w1.heap.size, 1, none⟩ = some (.slice (some ⟨B, 0, none⟩) es.length vc) := by simpa using K6.out.2.2.1.cell 1
    have c2 := K6.out.2.2.1.frozen 0
    have r0 : w'.cell? ⟨w.heap.size + 1, 0, none⟩ = some (.int .i64 0) := by simpa using K6.out.2.2.2.1.cell 0
    have r1 : w'.cell? ⟨w.heap.size + 1, 1, none⟩ = some (.slice none 0 0) := by simpa using K6.out.2.2.2.1.cell 1
    have r2 := K6.out.2.2.2.1.frozen 0
    have r3 := K6.out.2.2.2.1.frozen 1
    have hne9 : w.heap.size + 1 ≠ w1.heap.size := by omega
    go_wp2
    try simp only [Exit.inBlock, Exit.then]
    refine bodyPost_ret (v := .agg #[.int .i64 z, .slice (some ⟨B, 0, none⟩) es.length vc]) ?_ rfl ?_
    · rw [results_cell1 rfl]
      go_simp
    have hRl := K6.out.1.lt
    have hWn := K6.out.1.new
    exact drawnW_of (q := q + 4) (q' := q + 4) (K6.out.1.set' (b := w1.heap.size) (k := 0) (by omega) (by omega) (.int .i64 z)) (g_set K6.out.2.1 (by omega)) (K6.out.2.2.2.1.setOther hne9 _ _) (Box.own K6.out.2.2.1 K6.out.2.2.2.2 (by decide)) (by omega) (by omega) (by omega) (by omega) hglt
  have d2 : (y == 2) = false := by simpa using e2
  by_cases e3 : y = 3
  · subst e3
    obtain ⟨i0, hi, hz0', hz1, hz2⟩ := info_parts info_edge
    have HI : Hid (Try.prog.info? 36 = some i0 ∧ i0.zero = some (.agg #[.int .i64 0, .int .i64 0, .int .i64 0]) ∧ i0.size = 3 ∧ i0.bytes = 24) := Lib.hid ⟨hi, hz0', hz1, hz2⟩
    clear hi hz0' hz1 hz2
    obtain ⟨ea, eb, ec, hed⟩ : ∃ a b c, (a, b, c) = es.getD k (0, 0, 0) := ⟨_, _, _, rfl⟩
    have HED := Lib.hid hed
    clear hed
    go_upto_region 13 with fail
    refine wp_region_inv (fun L a w' => ∃ (b0 b1 b2 b3 b4 b5 b6 b7 b8 b9 b10 : Bool) (yy : Nat) (va8 : Option Addr) (vc8 : Nat), L = #[b0, b1, b2, b3, b4, b5, b6, b7, b8, b9, b10] ∧ a = { tmps := #[Value.pointer (some ⟨g, 0, none⟩), Value.agg #[.int .i64 n, .slice ad es.length cap], undef, Value.pointer (some ⟨w.heap.size, 0, none⟩), Value.pointer (some ⟨w.heap.size + 1, 0, none⟩), Value.pointer (some ⟨w1.heap.size, 0, none⟩), Value.int .i64 (k : Int), Value.agg #[.int .i64 n, .slice ad es.length cap], Value.agg #[.int .i64 n, .slice (some ⟨B, 0, none⟩) es.length vc], Value.pointer (some ⟨g, 0, none⟩), Value.int .i64 x, Value.bool false, Value.bool false, Value.pointer (some ⟨w1.heap.size, 1, none⟩), Value.slice (some ⟨B, 0, none⟩) es.length vc, Value.int .i64 (es.length : Int), Value.bool false, Value.bool false, undef, Value.pointer (some ⟨g, 0, none⟩), Value.pointer (some ⟨w1.heap.size, 1, none⟩), Value.slice (some ⟨B, 0, none⟩) es.length vc, Value.int .i64 (es.length : Int), Value.int .i64 (k : Int), Value.pointer (some ⟨g, 0, none⟩), Value.int .i64 3, Value.bool false, Value.bool false, undef, undef, undef, undef, undef, undef, undef, undef, Value.bool false, Value.bool false, undef, undef, undef, undef, undef, undef, undef, undef, Value.bool false, Value.bool false, undef, undef, undef, undef, Value.bool true, Value.bool true, sel b0 (Value.pointer (some ⟨w1.heap.size, 1, none⟩)) undef, sel b1 (Value.slice (some ⟨B, 0, none⟩) es.length vc) undef, sel b2 (Value.pointer (some ⟨w1.heap.size, 1, none⟩)) undef, sel b3 (Value.slice (some ⟨B, 0, none⟩) es.length vc) undef, sel b4 (Value.int .i64 (k : Int)) undef, sel b5 (Value.pointer (some ⟨B, k * 3, none⟩)) undef, sel b6 (Value.agg #[.int .i64 ea, .int .i64 eb, .int .i64 ec]) undef, sel b7 (Value.slice (some ⟨yy, 0, none⟩) 1 1) undef, sel b8 (Value.slice va8 (es.length + 1) vc8) undef, sel b9 (Value.pointer (some ⟨w1.heap.size, 1, none⟩)) undef, undef], defers := [] } ∧ Hid ((Rd W w' g (q + 1 + 1 + 1)) ∧ (w.grownBy w' (some g)) ∧ (b10 = false → Box w' w1.heap.size 25 #[.int .i64 n, .slice (some ⟨B, 0, none⟩) es.length vc]) ∧ (Box w' (w.heap.size + 1) 25 #[.int .i64 0, .slice none 0 0]) ∧ (b8 = false → w'.ownsRow (w0.heap.size + 1) 36 3 (.slice (some ⟨B, 0, none⟩) es.length vc) es.length (cellsE es)) ∧ (b7 = true → b8 = false → ∀ j u, [Value.int .i64 ea, .int .i64 eb, .int .i64 ec][j]? = some u → w'.cell? ((⟨yy, 0, none⟩ : Addr).add j) = some u) ∧ (b8 = true → w'.ownsRow (w0.heap.size + 1) 36 3 (.slice va8 (es.length + 1) vc8) (es.length + 1) (cellsE es ++ [.int .i64 ea, .int .i64 eb, .int .i64 ec])) ∧ (w5.heap.size ≤ w'.heap.size) ∧ (b10 = true → Box w' w1.heap.size 25 #[.int .i64 n, .slice va8 (es.length + 1) vc8]) ∧ (b1 = true → (b0) = true) ∧ (b3 = true → (b2) = true) ∧ (b5 = true → (b3 && b4) = true) ∧ (b6 = true → (b5) = true) ∧ (b7 = true → (b6) = true) ∧ (b8 = true → (b1 && b7) = true) ∧ (b10 = true → (b8 && b9) = true))) (by kernel_rfl) (by kernel_rfl) ?_ ?_ ?_
    · exact ⟨false, false, false, false, false, false, false, false, false, false, false, 0, none, 0, rfl, rfl, Lib.hid ⟨K5.out.1.drew', (g_drew K5.out.2.1), (fun _ => K5.out.2.2.1.drew), K5.out.2.2.2.1.drew, (fun _ => own_drew K5.out.2.2.2.2), (fun h => absurd h (by decide)), (fun h => absurd h (by decide)), (Nat.le_refl _), (fun h => absurd h (by decide)), (fun h => absurd h (by decide)), (fun h => absurd h (by decide)), (fun h => absurd h (by decide)), (fun h => absurd h (by decide)), (fun h => absurd h (by decide)), (fun h => absurd h (by decide)), (fun h => absurd h (by decide))⟩⟩
    · rintro L a w' hL ⟨b0, b1, b2, b3, b4, b5, b6, b7, b8, b9, b10, yy, va8, vc8, rfl, rfl, HF⟩ k9 o9 ho hl hd
      have hk9 : k9 = 0 ∨ k9 = 1 ∨ k9 = 2 ∨ k9 = 3 ∨ k9 = 4 ∨ k9 = 5 ∨ k9 = 6 ∨ k9 = 7 ∨ k9 = 8 ∨ k9 = 9 ∨ k9 = 10 := by have := (Array.getElem?_eq_some_iff.1 ho).1; simp at this; omega
      rcases hk9 with rfl | rfl | rfl | rfl | rfl | rfl | rfl | rfl | rfl | rfl | rfl
      · obtain rfl := Option.some.inj ho
        have hc0 : b0 = false := hl
        subst hc0
        have hc1 : b1 = false := by cases hx9 : b1 with | false => rfl | true => (have hy9 := HF.out.2.2.2.2.2.2.2.2.2.1 hx9; simp at hy9)
        subst hc1
        have hc8 : b8 = false := by cases hx9 : b8 with | false => rfl | true => (have hy9 := HF.out.2.2.2.2.2.2.2.2.2.2.2.2.2.2.1 hx9; simp at hy9)
        subst hc8
        have hc10 : b10 = false := by cases hx9 : b10 with | false => rfl | true => (have hy9 := HF.out.2.2.2.2.2.2.2.2.2.2.2.2.2.2.2 hx9; simp at hy9)
        subst hc10
        clear hl hd ho hL
        simp only [sel_t, sel_f]
        refine wpOp_step rfl ?_
        intro K' hK'
        go_simp
        exact hK' _ _ ⟨true, false, b2, b3, b4, b5, b6, b7, false, b9, false, yy, va8, vc8, rfl, rfl, Lib.hid ⟨HF.out.1, HF.out.2.1, HF.out.2.2.1, HF.out.2.2.2.1, HF.out.2.2.2.2.1, HF.out.2.2.2.2.2.1, HF.out.2.2.2.2.2.2.1, HF.out.2.2.2.2.2.2.2.1, HF.out.2.2.2.2.2.2.2.2.1, (fun h => absurd h (by decide)), HF.out.2.2.2.2.2.2.2.2.2.2.1, HF.out.2.2.2.2.2.2.2.2.2.2.2.1, HF.out.2.2.2.2.2.2.2.2.2.2.2.2.1, HF.out.2.2.2.2.2.2.2.2.2.2.2.2.2.1, (fun h => absurd h (by decide)), (fun h => absurd h (by decide))⟩⟩
      · obtain rfl := Option.some.inj ho
        have hc1 : b1 = false := hl
        have hc0 : b0 = true := by first | (refine hd ⟨0, .data⟩ ?_ rfl; simp; done) | (refine hd ⟨0, .chain⟩ ?_ rfl; simp; done) | (refine hd ⟨0, .phase⟩ ?_ rfl; simp; done)
        subst hc1 hc0
        have hc8 : b8 = false := by cases hx9 : b8 with | false => rfl | true => (have hy9 := HF.out.2.2.2.2.2.2.2.2.2.2.2.2.2.2.1 hx9; simp at hy9)
        subst hc8
        have hc10 : b10 = false := by cases hx9 : b10 with | false => rfl | true => (have hy9 := HF.out.2.2.2.2.2.2.2.2.2.2.2.2.2.2.2 hx9; simp at hy9)
        subst hc10
        clear hl hd ho hL
        simp only [sel_t, sel_f]
        have x0 : w'.cell? ⟨w1.heap.size, 1, none⟩ = some (.slice (some ⟨B, 0, none⟩) es.length vc) := by simpa using (HF.out.2.2.1 rfl).cell 1
        refine wpOp_step rfl ?_
        intro K' hK'
        go_simp
        exact hK' _ _ ⟨true, true, b2, b3, b4, b5, b6, b7, false, b9, false, yy, va8, vc8, rfl, rfl, Lib.hid ⟨HF.out.1, HF.out.2.1, HF.out.2.2.1, HF.out.2.2.2.1, HF.out.2.2.2.2.1, HF.out.2.2.2.2.2.1, HF.out.2.2.2.2.2.2.1, HF.out.2.2.2.2.2.2.2.1, HF.out.2.2.2.2.2.2.2.2.1, (fun _ => rfl), HF.out.2.2.2.2.2.2.2.2.2.2.1, HF.out.2.2.2.2.2.2.2.2.2.2.2.1, HF.out.2.2.2.2.2.2.2.2.2.2.2.2.1, HF.out.2.2.2.2.2.2.2.2.2.2.2.2.2.1, (fun h => absurd h (by decide)), (fun h => absurd h (by decide))⟩⟩
      · obtain rfl := Option.some.inj ho
        have hc2 : b2 = false := hl
        subst hc2
        have hc3 : b3 = false := by cases hx9 : b3 with | false => rfl | true => (have hy9 := HF.out.2.2.2.2.2.2.2.2.2.2.1 hx9; simp at hy9)
        subst hc3
        have hc5 : b5 = false := by cases hx9 : b5 with | false => rfl | true => (have hy9 := HF.out.2.2.2.2.2.2.2.2.2.2.2.1 hx9; simp at hy9)
        subst hc5
        have hc6 : b6 = false := by cases hx9 : b6 with | false => rfl | true => (have hy9 := HF.out.2.2.2.2.2.2.2.2.2.2.2.2.1 hx9; simp at hy9)
        subst hc6
        have hc7 : b7 = false := by cases hx9 : b7 with | false => rfl | true => (have hy9 := HF.out.2.2.2.2.2.2.2.2.2.2.2.2.2.1 hx9; simp at hy9)
        subst hc7
        have hc8 : b8 = false := by cases hx9 : b8 with | false => rfl | true => (have hy9 := HF.out.2.2.2.2.2.2.2.2.2.2.2.2.2.2.1 hx9; simp at hy9)
        subst hc8
        have hc10 : b10 = false := by cases hx9 : b10 with | false => rfl | true => (have hy9 := HF.out.2.2.2.2.2.2.2.2.2.2.2.2.2.2.2 hx9; simp at hy9)
        subst hc10
        clear hl hd ho hL
        simp only [sel_t, sel_f]
        refine wpOp_step rfl ?_
        intro K' hK'
        go_simp
        exact hK' _ _ ⟨b0, b1, true, false, b4, false, false, false, false, b9, false, yy, va8, vc8, rfl, rfl, Lib.hid ⟨HF.out.1, HF.out.2.1, HF.out.2.2.1, HF.out.2.2.2.1, HF.out.2.2.2.2.1, HF.out.2.2.2.2.2.1, HF.out.2.2.2.2.2.2.1, HF.out.2.2.2.2.2.2.2.1, HF.out.2.2.2.2.2.2.2.2.1, HF.out.2.2.2.2.2.2.2.2.2.1, (fun h => absurd h (by decide)), (fun h => absurd h (by decide)), (fun h => absurd h (by decide)), (fun h => absurd h (by decide)), (fun h => absurd h (by decide)), (fun h => absurd h (by decide))⟩⟩
      · obtain rfl := Option.some.inj ho
        have hc3 : b3 = false := hl
        have hc2 : b2 = true := by first | (refine hd ⟨2, .data⟩ ?_ rfl; simp; done) | (refine hd ⟨2, .chain⟩ ?_ rfl; simp; done) | (refine hd ⟨2, .phase⟩ ?_ rfl; simp; done)
        subst hc3 hc2
        have hc5 : b5 = false := by cases hx9 : b5 with | false => rfl | true => (have hy9 := HF.out.2.2.2.2.2.2.2.2.2.2.2.1 hx9; simp at hy9)
        subst hc5
        have hc6 : b6 = false := by cases hx9 : b6 with | false => rfl | true => (have hy9 := HF.out.2.2.2.2.2.2.2.2.2.2.2.2.1 hx9; simp at hy9)
        subst hc6
        have hc7 : b7 = false := by cases hx9 : b7 with | false => rfl | true => (have hy9 := HF.out.2.2.2.2.2.2.2.2.2.2.2.2.2.1 hx9; simp at hy9)
        subst hc7
        have hc8 : b8 = false := by cases hx9 : b8 with | false => rfl | true => (have hy9 := HF.out.2.2.2.2.2.2.2.2.2.2.2.2.2.2.1 hx9; simp at hy9)
        subst hc8
        have hc10 : b10 = false := by cases hx9 : b10 with | false => rfl | true => (have hy9 := HF.out.2.2.2.2.2.2.2.2.2.2.2.2.2.2.2 hx9; simp at hy9)
        subst hc10
        clear hl hd ho hL
        simp only [sel_t, sel_f]
        have x0 : w'.cell? ⟨w1.heap.size, 1, none⟩ = some (.slice (some ⟨B, 0, none⟩) es.length vc) := by simpa using (HF.out.2.2.1 rfl).cell 1
        refine wpOp_step rfl ?_
        intro K' hK'
        go_simp
        exact hK' _ _ ⟨b0, b1, true, true, b4, false, false, false, false, b9, false, yy, va8, vc8, rfl, rfl, Lib.hid ⟨HF.out.1, HF.out.2.1, HF.out.2.2.1, HF.out.2.2.2.1, HF.out.2.2.2.2.1, HF.out.2.2.2.2.2.1, HF.out.2.2.2.2.2.2.1, HF.out.2.2.2.2.2.2.2.1, HF.out.2.2.2.2.2.2.2.2.1, HF.out.2.2.2.2.2.2.2.2.2.1, (fun _ => rfl), (fun h => absurd h (by decide)), (fun h => absurd h (by decide)), (fun h => absurd h (by decide)), (fun h => absurd h (by decide)), (fun h => absurd h (by decide))⟩⟩
      · obtain rfl := Option.some.inj ho
        have hc4 : b4 = false := hl
        subst hc4
        have hc5 : b5 = false := by cases hx9 : b5 with | false => rfl | true => (have hy9 := HF.out.2.2.2.2.2.2.2.2.2.2.2.1 hx9; simp at hy9)
        subst hc5
        have hc6 : b6 = false := by cases hx9 : b6 with | false => rfl | true => (have hy9 := HF.out.2.2.2.2.2.2.2.2.2.2.2.2.1 hx9; simp at hy9)
        subst hc6
        have hc7 : b7 = false := by cases hx9 : b7 with | false => rfl | true => (have hy9 := HF.out.2.2.2.2.2.2.2.2.2.2.2.2.2.1 hx9; simp at hy9)
        subst hc7
        have hc8 : b8 = false := by cases hx9 : b8 with | false => rfl | true => (have hy9 := HF.out.2.2.2.2.2.2.2.2.2.2.2.2.2.2.1 hx9; simp at hy9)
        subst hc8
        have hc10 : b10 = false := by cases hx9 : b10 with | false => rfl | true => (have hy9 := HF.out.2.2.2.2.2.2.2.2.2.2.2.2.2.2.2 hx9; simp at hy9)
        subst hc10
        clear hl hd ho hL
        simp only [sel_t, sel_f]
        refine wpOp_step rfl ?_
        intro K' hK'
        go_simp
        exact hK' _ _ ⟨b0, b1, b2, b3, true, false, false, false, false, b9, false, yy, va8, vc8, rfl, rfl, Lib.hid ⟨HF.out.1, HF.out.2.1, HF.out.2.2.1, HF.out.2.2.2.1, HF.out.2.2.2.2.1, HF.out.2.2.2.2.2.1, HF.out.2.2.2.2.2.2.1, HF.out.2.2.2.2.2.2.2.1, HF.out.2.2.2.2.2.2.2.2.1, HF.out.2.2.2.2.2.2.2.2.2.1, HF.out.2.2.2.2.2.2.2.2.2.2.1, (fun h => absurd h (by decide)), (fun h => absurd h (by decide)), (fun h => absurd h (by decide)), (fun h => absurd h (by decide)), (fun h => absurd h (by decide))⟩⟩
      · obtain rfl := Option.some.inj ho
        have hc5 : b5 = false := hl
        have hc4 : b4 = true := by first | (refine hd ⟨4, .data⟩ ?_ rfl; simp; done) | (refine hd ⟨4, .chain⟩ ?_ rfl; simp; done) | (refine hd ⟨4, .phase⟩ ?_ rfl; simp; done)
        have hc3 : b3 = true := by first | (refine hd ⟨3, .data⟩ ?_ rfl; simp; done) | (refine hd ⟨3, .chain⟩ ?_ rfl; simp; done) | (refine hd ⟨3, .phase⟩ ?_ rfl; simp; done)
        subst hc5 hc4 hc3
        have hc6 : b6 = false := by cases hx9 : b6 with | false => rfl | true => (have hy9 := HF.out.2.2.2.2.2.2.2.2.2.2.2.2.1 hx9; simp at hy9)
        subst hc6
        have hc7 : b7 = false := by cases hx9 : b7 with | false => rfl | true => (have hy9 := HF.out.2.2.2.2.2.2.2.2.2.2.2.2.2.1 hx9; simp at hy9)
        subst hc7
        have hc8 : b8 = false := by cases hx9 : b8 with | false => rfl | true => (have hy9 := HF.out.2.2.2.2.2.2.2.2.2.2.2.2.2.2.1 hx9; simp at hy9)
        subst hc8
        have hc10 : b10 = false := by cases hx9 : b10 with | false => rfl | true => (have hy9 := HF.out.2.2.2.2.2.2.2.2.2.2.2.2.2.2.2 hx9; simp at hy9)
        subst hc10
        clear hl hd ho hL
        simp only [sel_t, sel_f]
        refine wpOp_step rfl ?_
        intro K' hK'
        go_simp
        exact hK' _ _ ⟨b0, b1, b2, true, true, true, false, false, false, b9, false, yy, va8, vc8, rfl, rfl, Lib.hid ⟨HF.out.1, HF.out.2.1, HF.out.2.2.1, HF.out.2.2.2.1, HF.out.2.2.2.2.1, HF.out.2.2.2.2.2.1, HF.out.2.2.2.2.2.2.1, HF.out.2.2.2.2.2.2.2.1, HF.out.2.2.2.2.2.2.2.2.1, HF.out.2.2.2.2.2.2.2.2.2.1, HF.out.2.2.2.2.2.2.2.2.2.2.1, (fun _ => rfl), (fun h => absurd h (by decide)), (fun h => absurd h (by decide)), (fun h => absurd h (by decide)), (fun h => absurd h (by decide))⟩⟩
      · obtain rfl := Option.some.inj ho
        have hc6 : b6 = false := hl
        have hc5 : b5 = true := by first | (refine hd ⟨5, .data⟩ ?_ rfl; simp; done) | (refine hd ⟨5, .chain⟩ ?_ rfl; simp; done) | (refine hd ⟨5, .phase⟩ ?_ rfl; simp; done)
        subst hc6 hc5
        have hc7 : b7 = false := by cases hx9 : b7 with | false => rfl | true => (have hy9 := HF.out.2.2.2.2.2.2.2.2.2.2.2.2.2.1 hx9; simp at hy9)
        subst hc7
        have hc8 : b8 = false := by cases hx9 : b8 with | false => rfl | true => (have hy9 := HF.out.2.2.2.2.2.2.2.2.2.2.2.2.2.2.1 hx9; simp at hy9)
        subst hc8
        have hc10 : b10 = false := by cases hx9 : b10 with | false => rfl | true => (have hy9 := HF.out.2.2.2.2.2.2.2.2.2.2.2.2.2.2.2 hx9; simp at hy9)
        subst hc10
        clear hl hd ho hL
        simp only [sel_t, sel_f]
        have ho9 := HF.out.2.2.2.2.1 rfl
        have x0 : w'.cell? ⟨B, k * 3, none⟩ = some (.int .i64 ea) := by rw [ho9.cellAt (k * 3) (by omega), cellsE_at es (by omega), cellE0, ← HED.out]
        have x1 : w'.cell? ⟨B, k * 3 + 1, none⟩ = some (.int .i64 eb) := by rw [ho9.cellAt (k * 3 + 1) (by omega), cellsE_at es (by omega), cellE1, ← HED.out]
        have x2 : w'.cell? ⟨B, k * 3 + 2, none⟩ = some (.int .i64 ec) := by rw [ho9.cellAt (k * 3 + 2) (by omega), cellsE_at es (by omega), cellE2, ← HED.out]
        clear ho9
        refine wpOp_step rfl ?_
        intro K' hK'
        go_simp
        exact hK' _ _ ⟨b0, b1, b2, b3, b4, true, true, false, false, b9, false, yy, va8, vc8, rfl, rfl, Lib.hid ⟨HF.out.1, HF.out.2.1, HF.out.2.2.1, HF.out.2.2.2.1, HF.out.2.2.2.2.1, HF.out.2.2.2.2.2.1, HF.out.2.2.2.2.2.2.1, HF.out.2.2.2.2.2.2.2.1, HF.out.2.2.2.2.2.2.2.2.1, HF.out.2.2.2.2.2.2.2.2.2.1, HF.out.2.2.2.2.2.2.2.2.2.2.1, HF.out.2.2.2.2.2.2.2.2.2.2.2.1, (fun _ => rfl), (fun h => absurd h (by decide)), (fun h => absurd h (by decide)), (fun h => absurd h (by decide))⟩⟩
      · obtain rfl := Option.some.inj ho
        have hc7 : b7 = false := hl
        have hc6 : b6 = true := by first | (refine hd ⟨6, .data⟩ ?_ rfl; simp; done) | (refine hd ⟨6, .chain⟩ ?_ rfl; simp; done) | (refine hd ⟨6, .phase⟩ ?_ rfl; simp; done)
        subst hc7 hc6
        have hc8 : b8 = false := by cases hx9 : b8 with | false => rfl | true => (have hy9 := HF.out.2.2.2.2.2.2.2.2.2.2.2.2.2.2.1 hx9; simp at hy9)
        subst hc8
        have hc10 : b10 = false := by cases hx9 : b10 with | false => rfl | true => (have hy9 := HF.out.2.2.2.2.2.2.2.2.2.2.2.2.2.2.2 hx9; simp at hy9)
        subst hc10
        clear hl hd ho hL
        simp only [sel_t, sel_f]
        refine wpOp_step rfl ?_
        intro K' hK'
        go_simp
        exact hK' _ _ ⟨b0, b1, b2, b3, b4, b5, true, true, false, b9, false, w'.heap.size, va8, vc8, rfl, rfl, Lib.hid ⟨(HF.out.1.alloc' _), (g_alloc HF.out.2.1 _), (fun h => (HF.out.2.2.1 h).alloc _), (HF.out.2.2.2.1.alloc _), (fun h => (HF.out.2.2.2.2.1 h).alloc _), (fun _ _ => cells_new3 _ _ _ _ _), (fun h => absurd h (by decide)), (Nat.le_trans HF.out.2.2.2.2.2.2.2.1 (by simp)), (fun h => absurd h (by decide)), HF.out.2.2.2.2.2.2.2.2.2.1, HF.out.2.2.2.2.2.2.2.2.2.2.1, HF.out.2.2.2.2.2.2.2.2.2.2.2.1, HF.out.2.2.2.2.2.2.2.2.2.2.2.2.1, (fun _ => rfl), (fun h => absurd h (by decide)), (fun h => absurd h (by decide))⟩⟩
      · obtain rfl := Option.some.inj ho
        have hc8 : b8 = false := hl
        have hc7 : b7 = true := by first | (refine hd ⟨7, .data⟩ ?_ rfl; simp; done) | (refine hd ⟨7, .chain⟩ ?_ rfl; simp; done) | (refine hd ⟨7, .phase⟩ ?_ rfl; simp; done)
        have hc1 : b1 = true := by first | (refine hd ⟨1, .data⟩ ?_ rfl; simp; done) | (refine hd ⟨1, .chain⟩ ?_ rfl; simp; done) | (refine hd ⟨1, .phase⟩ ?_ rfl; simp; done)
        subst hc8 hc7 hc1
        have hc10 : b10 = false := by cases hx9 : b10 with | false => rfl | true => (have hy9 := HF.out.2.2.2.2.2.2.2.2.2.2.2.2.2.2.2 hx9; simp at hy9)
        subst hc10
        clear hl hd ho hL
        simp only [sel_t, sel_f]
        obtain ⟨hi, hz0, hz1, hz2⟩ := HI.out
        have ho9 := HF.out.2.2.2.2.1 rfl
        have hsz9 := HF.out.2.2.2.2.2.2.2.1
        have hlt9 := hBlt
        refine wpOp_step rfl ?_
        intro K' hK'
        refine step_append_own rfl (.tmp 55) (.tmp 61) 23 rfl (w0.heap.size + 1) 36 i0 (.agg #[.int .i64 0, .int .i64 0, .int .i64 0]) 3 24 Try.underlying23 hi hz0 hz1 hz2 rfl (by decide) _ _ _ rfl ho9 ⟨yy, 0, none⟩ 1 1 [.int .i64 ea, .int .i64 eb, .int .i64 ec] rfl rfl (HF.out.2.2.2.2.2.1 rfl rfl) (by simp [Value.oneCell']) (by unfold maxLen; omega) (by omega) (by omega) ?_
        intro v6 w6 hown6 hgrow6
        obtain ⟨va6, vc6, rfl⟩ := own_slice hown6
        exact hK' _ _ ⟨b0, true, b2, b3, b4, b5, b6, true, true, b9, false, yy, va6, vc6, rfl, rfl, Lib.hid ⟨(HF.out.1.grownR hgrow6 (fun q hq => by have := (ho9.lt q hq).1; omega)), (grownR HF.out.2.1 hgrow6 (fun q hq => by have := (ho9.lt q hq).1; omega)), (fun h => Box.grown (HF.out.2.2.1 h) hgrow6 ho9 (by decide)), (Box.grown HF.out.2.2.2.1 hgrow6 ho9 (by decide)), (fun h => absurd h (by decide)), (fun _ h => absurd h (by decide)), (fun _ => hown6), (Nat.le_trans HF.out.2.2.2.2.2.2.2.1 hgrow6.size), (fun h => absurd h (by decide)), HF.out.2.2.2.2.2.2.2.2.2.1, HF.out.2.2.2.2.2.2.2.2.2.2.1, HF.out.2.2.2.2.2.2.2.2.2.2.2.1, HF.out.2.2.2.2.2.2.2.2.2.2.2.2.1, HF.out.2.2.2.2.2.2.2.2.2.2.2.2.2.1, (fun _ => rfl), (fun h => absurd h (by decide))⟩⟩
      · obtain rfl := Option.some.inj ho
        have hc9 : b9 = false := hl
        subst hc9
        have hc10 : b10 = false := by cases hx9 : b10 with | false => rfl | true => (have hy9 := HF.out.2.2.2.2.2.2.2.2.2.2.2.2.2.2.2 hx9; simp at hy9)
        subst hc10
        clear hl hd ho hL
        simp only [sel_t, sel_f]
        refine wpOp_step rfl ?_
        intro K' hK'
        go_simp
        exact hK' _ _ ⟨b0, b1, b2, b3, b4, b5, b6, b7, b8, true, false, yy, va8, vc8, rfl, rfl, Lib.hid ⟨HF.out.1, HF.out.2.1, HF.out.2.2.1, HF.out.2.2.2.1, HF.out.2.2.2.2.1, HF.out.2.2.2.2.2.1, HF.out.2.2.2.2.2.2.1, HF.out.2.2.2.2.2.2.2.1, HF.out.2.2.2.2.2.2.2.2.1, HF.out.2.2.2.2.2.2.2.2.2.1, HF.out.2.2.2.2.2.2.2.2.2.2.1, HF.out.2.2.2.2.2.2.2.2.2.2.2.1, HF.out.2.2.2.2.2.2.2.2.2.2.2.2.1, HF.out.2.2.2.2.2.2.2.2.2.2.2.2.2.1, HF.out.2.2.2.2.2.2.2.2.2.2.2.2.2.2.1, (fun h => absurd h (by decide))⟩⟩
      · obtain rfl := Option.some.inj ho
        have hc10 : b10 = false := hl
        have hc9 : b9 = true := by first | (refine hd ⟨9, .data⟩ ?_ rfl; simp; done) | (refine hd ⟨9, .chain⟩ ?_ rfl; simp; done) | (refine hd ⟨9, .phase⟩ ?_ rfl; simp; done)
        have hc8 : b8 = true := by first | (refine hd ⟨8, .data⟩ ?_ rfl; simp; done) | (refine hd ⟨8, .chain⟩ ?_ rfl; simp; done) | (refine hd ⟨8, .phase⟩ ?_ rfl; simp; done)
        subst hc10 hc9 hc8
        clear hl hd ho hL
        simp only [sel_t, sel_f]
        have hB9 := HF.out.2.2.1 rfl
        have c9 : w'.cell? ⟨w1.heap.size, 1, none⟩ = some (.slice (some ⟨B, 0, none⟩) es.length vc) := by simpa using hB9.cell 1
        have f9 := hB9.frozen 1
        have hRl := HF.out.1.lt
        have hWn := HF.out.1.new
        have hne9 : w.heap.size + 1 ≠ w1.heap.size := by omega
        refine wpOp_step rfl ?_
        intro K' hK'
        go_simp
        exact hK' _ _ ⟨b0, b1, b2, b3, b4, b5, b6, b7, true, true, true, yy, va8, vc8, rfl, rfl, Lib.hid ⟨(HF.out.1.set' (by omega) (by omega) _), (g_set HF.out.2.1 (by omega)), (fun h => absurd h (by decide)), (HF.out.2.2.2.1.setOther hne9 _ _), (fun h => absurd h (by decide)), (fun _ h => absurd h (by decide)), (fun _ => Box.own hB9 (HF.out.2.2.2.2.2.2.1 rfl) (by decide)), (Nat.le_trans HF.out.2.2.2.2.2.2.2.1 (by simp)), (fun _ => by simpa using hB9.set 1 (.slice va8 (es.length + 1) vc8)), HF.out.2.2.2.2.2.2.2.2.2.1, HF.out.2.2.2.2.2.2.2.2.2.2.1, HF.out.2.2.2.2.2.2.2.2.2.2.2.1, HF.out.2.2.2.2.2.2.2.2.2.2.2.2.1, HF.out.2.2.2.2.2.2.2.2.2.2.2.2.2.1, HF.out.2.2.2.2.2.2.2.2.2.2.2.2.2.2.1, (fun _ => rfl)⟩⟩
    · rintro L a w' hL ⟨b0, b1, b2, b3, b4, b5, b6, b7, b8, b9, b10, yy, va8, vc8, rfl, rfl, HF⟩ hall
      have hc0 : b0 = true := hall 0 (by decide)
      have hc1 : b1 = true := hall 1 (by decide)
      have hc2 : b2 = true := hall 2 (by decide)
      have hc3 : b3 = true := hall 3 (by decide)
      have hc4 : b4 = true := hall 4 (by decide)
      have hc5 : b5 = true := hall 5 (by decide)
      have hc6 : b6 = true := hall 6 (by decide)
      have hc7 : b7 = true := hall 7 (by decide)
      have hc8 : b8 = true := hall 8 (by decide)
      have hc9 : b9 = true := hall 9 (by decide)
      have hc10 : b10 = true := hall 10 (by decide)
      subst hc0 hc1 hc2 hc3 hc4 hc5 hc6 hc7 hc8 hc9 hc10
      simp only [sel_t]
      have HE := Lib.hid (And.intro (HF.out.1.more (show _ ≤ q + 4 by omega)) (And.intro HF.out.2.1 (And.intro (HF.out.2.2.2.2.2.2.2.2.1 rfl) (And.intro HF.out.2.2.2.1 (HF.out.2.2.2.2.2.2.1 rfl)))))
      clear HF
      have c0 : w'.cell? ⟨w1.heap.size, 0, none⟩ = some (.int .i64 n) := by simpa using HE.out.2.2.1.cell 0
      have c1 : w'.cell? ⟨w1.heap.size, 1, none⟩ = some (.slice (va8) (es.length + 1) vc8) := by simpa using HE.out.2.2.1.cell 1
      have r0 : w'.cell? ⟨w.heap.size + 1, 0, none⟩ = some (.int .i64 0) := by simpa using HE.out.2.2.2.1.cell 0
      have r1 : w'.cell? ⟨w.heap.size + 1, 1, none⟩ = some (.slice none 0 0) := by simpa using HE.out.2.2.2.1.cell 1
      have r2 := HE.out.2.2.2.1.frozen 0
      have r3 := HE.out.2.2.2.1.frozen 1
      go_wp2
      try simp only [Exit.inBlock, Exit.then]
      refine bodyPost_ret (v := .agg #[.int .i64 n, (.slice (va8) (es.length + 1) vc8)]) ?_ rfl ?_
      · rw [results_cell1 rfl]
        go_simp
      exact drawnW_of (es := es ++ [(ea, eb, ec)]) (v := .slice va8 (es.length + 1) vc8) (q := q + 4) (q' := q + 4) HE.out.1 HE.out.2.1 HE.out.2.2.2.1 (by rw [cellsE_app, cellsE_one1]; simpa using HE.out.2.2.2.2) (by omega) (by simp) (by omega) (by omega) hglt
  have d3 : (y == 3) = false := by simpa using e3
  have c0 : w5.cell? ⟨w1.heap.size, 0, none⟩ = some (.int .i64 n) := by simpa using K5.out.2.2.1.cell 0
  have r0 : w5.cell? ⟨w.heap.size + 1, 0, none⟩ = some (.int .i64 0) := by simpa using K5.out.2.2.2.1.cell 0
  have r1 : w5.cell? ⟨w.heap.size + 1, 1, none⟩ = some (.slice none 0 0) := by simpa using K5.out.2.2.2.1.cell 1
  have r2 := K5.out.2.2.2.1.frozen 0
  have r3 := K5.out.2.2.2.1.frozen 1
  go_wp2
  try simp only [Exit.inBlock, Exit.then]
  refine bodyPost_ret (v := .agg #[.int .i64 n, .slice (some ⟨B, 0, none⟩) es.length vc]) ?_ rfl ?_
  · rw [results_cell1 rfl]
    go_simp
  exact drawnW_of (q := q + 4) (q' := q + 1 + 1 + 1) K5.out.1 K5.out.2.1 K5.out.2.2.2.1 K5.out.2.2.2.2 (by omega) (by omega) (by omega) (by omega) hglt
end Go.Proofs.Ytjcfefpcilhelaa
