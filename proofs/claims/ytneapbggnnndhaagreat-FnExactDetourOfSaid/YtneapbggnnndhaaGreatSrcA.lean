/- The search for simple paths: the edges from a node; rows that it owns; what it holds in memory. -/
import Derived.Test.YtneapbggnnndhaaGreatPthA
import Derived.Test.YtneapbggnnndhaaGreatPutM
import Derived.Test.YtneapbggnnndhaaGreatDerA
import Derived.Test.YtneapbggnnndhaaGreatRelaxJ
import Derived.Deep.AppendLies
namespace Go.Proofs.YtneapbggnnndhaaGreat
open Go.RowKit Go.BigFrame Go.Deep Go.ChangeShapes Go.WideShapes Go.Joins
set_option linter.unusedVariables false
set_option linter.unusedSimpArgs false

theorem rowE_mid {w : World} {b off c c' n : Nat} {es : List Ed} (h : RowE w (.slice (some ⟨b, off, none⟩) n c) es) {q p : Nat} (hq : q + p ≤ es.length) : RowE w (.slice (some ⟨b, off + q * 3, none⟩) p c') ((es.drop q).take p) := by
  have hl : ((es.drop q).take p).length = p := by rw [List.length_take, List.length_drop]; omega
  refine ⟨_, c', by rw [hl], ?_⟩
  obtain ⟨a, cap, he, hz⟩ := h
  injection he with e1 e2 e3
  rcases hz with hz | ⟨b', off', k0, hb, hc⟩
  · left
    rw [hz]
    simp
  · rw [k0] at e1
    injection e1 with e1
    injection e1 with e1 e4 e5
    subst e1 e4
    refine .inr ⟨b, off + q * 3, rfl, hb, fun i hi => ?_⟩
    rw [hl] at hi
    have e : ((es.drop q).take p).getD i (0, 0, 0) = es.getD (q + i) (0, 0, 0) := by simp [List.getD, List.getElem?_take, List.getElem?_drop, hi]
    rw [e]
    have h := hc (q + i) (by omega)
    have e2 : off + (q + i) * 3 = off + q * 3 + i * 3 := by omega
    rw [e2] at h
    exact h

set_option maxRecDepth 20000 in
set_option maxHeartbeats 2000000 in
theorem edgesFrom (n x : Int) (es : List Ed) (s : Value) (w : World) (hs : RowE w s es) (hok : okS s) (hl : es.length ≤ 1048576) (hg : gVal n es = true) (hx0 : 0 ≤ x) (hx1 : x ≤ 1000) :
    Calls Tryz.prog 77 #[.agg #[.int .i64 n, s], .int .i64 x] w fun e w' => ∃ v, e = .returned v ∧ (∀ W0, RowE W0 s es → RowE W0 v (eFr es x)) ∧ Below w.heap.size w w' := by
  obtain ⟨ad, cap, rfl, hz⟩ := id hs
  obtain ⟨hcap, hnil, hspot⟩ := hok _ _ _ rfl
  have hB : Below w.heap.size w (w.alloc (.cells #[.int .i64 n, .slice ad es.length cap] 35)) := (Below.refl _ _).alloc (Nat.le_refl _) _
  have HX := Lib.hid (Box.new w 35 #[.int .i64 n, .slice ad es.length cap])
  have HBB := Lib.hid hB
  have hf1 := fun w' h => findEdge n es x 0 (.slice ad es.length cap) w' (hs.keep h) hl (gVal_mono hg x 0)
  have hf2 := fun w' h => findEdge n es (x + 1) 0 (.slice ad es.length cap) w' (hs.keep h) hl (gVal_mono hg (x + 1) 0)
  have hwrap : IntKind.i64.wrap (x + 1) = x + 1 := by simp [IntKind.wrap, IntKind.bits, IntKind.signed]; omega
  by_cases h0 : es = []
  · subst h0
    rw [show lbE [] x 0 = 0 from rfl] at hf1
    rw [show lbE [] (x + 1) 0 = 0 from rfl] at hf2
    rw [show eFr [] x = [] by simp [eFr]]
    rw [show ([] : List Ed).length = 0 from rfl] at *
    have H1 := Lib.hid hf1
    have H2 := Lib.hid hf2
    clear hf1 hf2 hB hs hz
    cases ad with
    | none =>
      have hc0 := hnil rfl
      subst hc0
      go_enter Tryz.func77, Tryz.ntmps77
      go_wp2_with fail
      generalize (w.alloc (.cells #[.int .i64 n, .slice none 0 0] 35)) = w1 at HX HBB ⊢
      refine (H1.out _ HBB.out).mono ?_
      rintro e w2 ⟨rfl, hb2⟩
      have B2 := Lib.hid (bel_trans HBB.out hb2)
      have X2 := Lib.hid (HX.out.keep hb2)
      clear hb2
      have x0 : w2.cell? ⟨w.heap.size, 0, none⟩ = some (.int .i64 n) := by simpa using X2.out.cell 0
      have x1 : w2.cell? ⟨w.heap.size, 1, none⟩ = some (.slice none 0 0) := by simpa using X2.out.cell 1
      go_wp2_with fail
      refine (H2.out _ B2.out).mono ?_
      rintro e w3 ⟨rfl, hb3⟩
      have B3 := Lib.hid (bel_trans B2.out hb3)
      have X3 := Lib.hid (X2.out.keep hb3)
      clear hb3 x0 x1
      have x1 : w3.cell? ⟨w.heap.size, 1, none⟩ = some (.slice none 0 0) := by simpa using X3.out.cell 1
      go_wp2
      go_ret
      exact ⟨_, rfl, fun _ _ => ⟨_, _, rfl, .inl rfl⟩, B3.out⟩
    | some a =>
      have hsp := hspot a rfl
      obtain ⟨b, off, spot⟩ := a
      simp only at hsp
      subst hsp
      by_cases hc : cap = 0
      · subst hc
        go_enter Tryz.func77, Tryz.ntmps77
        go_wp2_with fail
        generalize (w.alloc (.cells #[.int .i64 n, .slice (some ⟨b, off, none⟩) 0 0] 35)) = w1 at HX HBB ⊢
        refine (H1.out _ HBB.out).mono ?_
        rintro e w2 ⟨rfl, hb2⟩
        have B2 := Lib.hid (bel_trans HBB.out hb2)
        have X2 := Lib.hid (HX.out.keep hb2)
        clear hb2
        have x0 : w2.cell? ⟨w.heap.size, 0, none⟩ = some (.int .i64 n) := by simpa using X2.out.cell 0
        have x1 : w2.cell? ⟨w.heap.size, 1, none⟩ = some (.slice (some ⟨b, off, none⟩) 0 0) := by simpa using X2.out.cell 1
        go_wp2_with fail
        refine (H2.out _ B2.out).mono ?_
        rintro e w3 ⟨rfl, hb3⟩
        have B3 := Lib.hid (bel_trans B2.out hb3)
        have X3 := Lib.hid (X2.out.keep hb3)
        clear hb3 x0 x1
        have x1 : w3.cell? ⟨w.heap.size, 1, none⟩ = some (.slice (some ⟨b, off, none⟩) 0 0) := by simpa using X3.out.cell 1
        go_wp2
        go_ret
        exact ⟨_, rfl, fun _ _ => ⟨_, _, rfl, .inl rfl⟩, B3.out⟩
      · have hc1 : (0 : Int) ≤ cap := by omega
        go_enter Tryz.func77, Tryz.ntmps77
        go_wp2_with fail
        generalize (w.alloc (.cells #[.int .i64 n, .slice (some ⟨b, off, none⟩) 0 cap] 35)) = w1 at HX HBB ⊢
        refine (H1.out _ HBB.out).mono ?_
        rintro e w2 ⟨rfl, hb2⟩
        have B2 := Lib.hid (bel_trans HBB.out hb2)
        have X2 := Lib.hid (HX.out.keep hb2)
        clear hb2
        have x0 : w2.cell? ⟨w.heap.size, 0, none⟩ = some (.int .i64 n) := by simpa using X2.out.cell 0
        have x1 : w2.cell? ⟨w.heap.size, 1, none⟩ = some (.slice (some ⟨b, off, none⟩) 0 cap) := by simpa using X2.out.cell 1
        go_wp2_with fail
        refine (H2.out _ B2.out).mono ?_
        rintro e w3 ⟨rfl, hb3⟩
        have B3 := Lib.hid (bel_trans B2.out hb3)
        have X3 := Lib.hid (X2.out.keep hb3)
        clear hb3 x0 x1
        have x1 : w3.cell? ⟨w.heap.size, 1, none⟩ = some (.slice (some ⟨b, off, none⟩) 0 cap) := by simpa using X3.out.cell 1
        go_wp2
        go_ret
        exact ⟨_, rfl, fun _ _ => ⟨_, _, rfl, .inl rfl⟩, B3.out⟩
  · rcases hz with hz | ⟨b, off, rfl, hb, hc⟩
    · exact absurd hz h0
    have hm := lbE_mono hg x
    have hle := lbE_le es (x + 1) 0
    have hrow : Hid (∀ W0 c', RowE W0 (.slice (some ⟨b, off, none⟩) es.length cap) es → RowE W0 (.slice (some ⟨b, off + lbE es x 0 * 3, none⟩) (lbE es (x + 1) 0 - lbE es x 0) c') (eFr es x)) := Lib.hid (fun W0 c' hr => rowE_mid hr (by omega))
    have hemp : Hid (lbE es (x + 1) 0 - lbE es x 0 = 0 → eFr es x = []) := Lib.hid (fun h => by unfold eFr; rw [h]; rfl)
    generalize hE : eFr es x = E at hrow hemp ⊢
    generalize hQ : lbE es x 0 = q at hf1 hm hrow hemp
    generalize hP : lbE es (x + 1) 0 = p at hf2 hm hle hrow hemp
    obtain ⟨L, hL⟩ : ∃ L, L = es.length := ⟨_, rfl⟩
    rw [← hL] at hf1 hf2 hle hcap HX HBB hrow ⊢
    have H1 := Lib.hid hf1
    have H2 := Lib.hid hf2
    clear hf1 hf2 hE hQ hP hs hB hc hL
    have hq1 : (0 : Int) ≤ q := by omega
    have hqp : (q : Int) ≤ p := by omega
    have hpc : (p : Int) ≤ cap := by omega
    have hqc : (q : Int) ≤ cap := by omega
    go_enter Tryz.func77, Tryz.ntmps77
    go_wp2_with fail
    generalize (w.alloc (.cells #[.int .i64 n, .slice (some ⟨b, off, none⟩) L cap] 35)) = w1 at HX HBB ⊢
    refine (H1.out _ HBB.out).mono ?_
    rintro e w2 ⟨rfl, hb2⟩
    have B2 := Lib.hid (bel_trans HBB.out hb2)
    have X2 := Lib.hid (HX.out.keep hb2)
    clear hb2
    have x0 : w2.cell? ⟨w.heap.size, 0, none⟩ = some (.int .i64 n) := by simpa using X2.out.cell 0
    have x1 : w2.cell? ⟨w.heap.size, 1, none⟩ = some (.slice (some ⟨b, off, none⟩) L cap) := by simpa using X2.out.cell 1
    go_wp2_with fail
    refine (H2.out _ B2.out).mono ?_
    rintro e w3 ⟨rfl, hb3⟩
    have B3 := Lib.hid (bel_trans B2.out hb3)
    have X3 := Lib.hid (X2.out.keep hb3)
    clear hb3 x0 x1
    have x1 : w3.cell? ⟨w.heap.size, 1, none⟩ = some (.slice (some ⟨b, off, none⟩) L cap) := by simpa using X3.out.cell 1
    by_cases hc : cap = q
    · have hd : cap - q = 0 := by omega
      have HPQ : Hid (p - q = 0) := Lib.hid (by omega)
      clear hc
      go_wp2
      go_ret
      refine ⟨_, rfl, fun W0 _ => ?_, B3.out⟩
      rw [hemp.out HPQ.out]
      show RowE _ (Value.slice (some ⟨b, off, none⟩) (p - q) 0) []
      rw [HPQ.out]
      exact ⟨_, _, rfl, .inl rfl⟩
    · have hd : ¬ cap - q = 0 := by omega
      clear hc
      go_wp2
      go_ret
      exact ⟨_, rfl, fun W0 hr => hrow.out _ _ hr, B3.out⟩

/-- A path in memory: the slice of its nodes, these, and its value. -/
structure PP where
  v : Value
  zs : List Int
  x : Int
def PP.p (q : PP) : Pt := (q.zs, q.x)
def cellsP (qs : List PP) : List Value := qs.flatMap fun q => [q.v, .int .i64 q.x]
theorem cellsP_len (qs : List PP) : (cellsP qs).length = qs.length * 2 := by
  unfold cellsP
  induction qs with
  | nil => rfl
  | cons q qs ih => simp [ih]; omega
theorem cellsP_snoc (qs : List PP) (q : PP) : cellsP (qs ++ [q]) = cellsP qs ++ [q.v, .int .i64 q.x] := by simp [cellsP]
theorem cellsP_at {qs : List PP} {i : Nat} (h : i < qs.length) : (cellsP qs)[i * 2]? = some (qs[i].v) ∧ (cellsP qs)[i * 2 + 1]? = some (.int .i64 qs[i].x) := by
  induction qs generalizing i with
  | nil => cases h
  | cons q qs ih =>
    cases i with
    | zero => exact ⟨rfl, rfl⟩
    | succ i =>
      have := ih (i := i) (by simpa using h)
      have e1 : (i + 1) * 2 = i * 2 + 1 + 1 := by omega
      rw [e1]
      simpa [cellsP] using this

/-- A row of integers of one's own that is not empty. -/
def PRow (w : World) (base : Nat) (q : PP) : Prop := w.ownsRow base 3 1 q.v q.zs.length (q.zs.map (Value.int .i64)) ∧ 0 < q.zs.length
/-- Paths of one's own. -/
structure Pths (w : World) (base : Nat) (v : Value) (qs : List PP) : Prop where
  own : w.ownsRow base 30 2 v qs.length (cellsP qs)
  row : ∀ q ∈ qs, PRow w base q
  dis : qs.Pairwise (fun a b => a.v.ownBlock ≠ b.v.ownBlock)
/-- Rows of different types lie in different blocks. -/
theorem own_types {w : World} {b1 b2 s1 s2 n1 n2 : Nat} {e1 e2 : TypeId} {u v : Value} {xs ys : List Value} (h1 : w.ownsRow b1 e1 s1 u n1 xs) (h2 : w.ownsRow b2 e2 s2 v n2 ys) (hne : e1 ≠ e2) : u.ownBlock = none ∨ u.ownBlock ≠ v.ownBlock := by
  rcases h1.2 with ⟨rfl, _⟩ | ⟨g, cap, cur, rfl, hb, hg, _⟩
  · exact .inl rfl
  · right
    intro e
    rcases h2.2 with ⟨rfl, _⟩ | ⟨g2, cap2, cur2, rfl, hb2, hg2, _⟩
    · simp [Value.ownBlock] at e
    · simp [Value.ownBlock] at e
      subst e
      rw [hg] at hg2
      simp at hg2
      exact hne hg2.2
theorem own_row {w : World} {base : Nat} {v : Value} {zs : List Int} (h : w.ownsRow base 3 1 v zs.length (zs.map (Value.int .i64))) : Row w v zs := by
  rcases h.2 with ⟨rfl, h0⟩ | ⟨g, cap, cur, rfl, hb, hg, _⟩
  · have h1 := List.length_eq_zero_iff.1 h0
    subst h1
    exact ⟨none, 0, rfl, .inl rfl⟩
  · refine ⟨_, cap, rfl, .inr ⟨g, 0, rfl, (Array.getElem?_eq_some_iff.1 hg).1, fun i hi => ?_⟩⟩
    rw [Nat.zero_add]
    exact (own_cell h (j := i) (by simp [List.getD, hi])).1
theorem own_low5 {w : World} {base base' : Nat} {e : TypeId} {size : Nat} {v : Value} {n : Nat} {xs : List Value} (h : w.ownsRow base e size v n xs) (hb : base' ≤ base) : w.ownsRow base' e size v n xs := by
  refine ⟨h.1, ?_⟩
  rcases h.2 with h3 | ⟨g, cap, cur, hv, hg, rest⟩
  · exact .inl h3
  · exact .inr ⟨g, cap, cur, hv, Nat.le_trans hb hg, rest⟩
theorem own_keep5 {w w' : World} {base : Nat} {t : TypeId} {sz : Nat} {v : Value} {n : Nat} {xs : List Value} (h : w.ownsRow base t sz v n xs) (hb : Below w.heap.size w w') : w'.ownsRow base t sz v n xs :=
  h.kept (row := none) ⟨hb.os, hb.tape, hb.output, hb.size, fun i hi _ => hb.block i hi⟩ (Classical.em _)
theorem PRow.blk {w : World} {base : Nat} {q : PP} (h : PRow w base q) : ∃ k, q.v.ownBlock = some k ∧ base ≤ k ∧ k < w.heap.size := by
  obtain ⟨g, cap, e, h1, h2, _⟩ := own_pos h.1 h.2
  exact ⟨g, by rw [e]; rfl, h1, h2⟩
theorem PRow.keep {w w' : World} {base : Nat} {q : PP} (h : PRow w base q) (hb : Below w.heap.size w w') : PRow w' base q := ⟨own_keep5 h.1 hb, h.2⟩
section
variable {w w' : World} {base : Nat} {v u : Value} {qs : List PP}
theorem Pths.keep (h : Pths w base v qs) (hb : Below w.heap.size w w') : Pths w' base v qs := ⟨own_keep5 h.own hb, fun q hq => (h.row q hq).keep hb, h.dis⟩
theorem Pths.box {B : Nat} {t : TypeId} {cs : Array Value} (h : Pths w base v qs) (hB : Box w B t cs) (h1 : 3 ≠ t) (h2 : 30 ≠ t) (o : Nat) (x : Value) : Pths (w.setCell ⟨B, o, none⟩ x) base v qs :=
  ⟨hB.own h.own h2, fun q hq => ⟨hB.own (h.row q hq).1 h1, (h.row q hq).2⟩, h.dis⟩
/-- A row of integers has grown. -/
theorem Pths.ints {base' n : Nat} {xs : List Value} (h : Pths w base v qs) (hg : w.grownBy w' u.ownBlock) (hu : w.ownsRow base' 3 1 u n xs) (hd : ∀ q ∈ qs, q.v.ownBlock ≠ u.ownBlock) : Pths w' base v qs :=
  ⟨h.own.kept hg (own_types h.own hu (by decide)), fun q hq => ⟨(h.row q hq).1.kept hg (.inr (hd q hq)), (h.row q hq).2⟩, h.dis⟩
/-- A path more. -/
theorem Pths.snoc {v' : Value} {q : PP} (h : Pths w base v qs) (hg : w.grownBy w' v.ownBlock) (ho : w'.ownsRow base 30 2 v' (qs.length + 1) (cellsP qs ++ [q.v, .int .i64 q.x])) (hq : PRow w base q) (hd : ∀ p ∈ qs, p.v.ownBlock ≠ q.v.ownBlock) : Pths w' base v' (qs ++ [q]) := by
  have hk : ∀ p, PRow w base p → PRow w' base p := fun p hp => ⟨hp.1.kept hg (own_types hp.1 h.own (by decide)), hp.2⟩
  refine ⟨by rw [List.length_append, cellsP_snoc]; exact ho, fun p hp => ?_, ?_⟩
  · rcases List.mem_append.1 hp with hp | hp
    · exact hk p (h.row p hp)
    · simp at hp
      subst hp
      exact hk _ hq
  · rw [List.pairwise_append]
    refine ⟨h.dis, by simp, fun a ha b hb => ?_⟩
    simp at hb
    subst hb
    exact hd a ha
end
/-- The types of what the search writes. -/
def AS (t : TypeId) : Prop := t = 89 ∨ t = 3 ∨ t = 30
def sC (ops : Value) (n : Int) (ed : Value) (tgt : Int) (vn vf : Value) : Array Value := #[ops, .int .i64 n, ed, .int .i64 tgt, vn, vf]
/-- What the search holds in memory: the rows of nodes and of paths found. -/
structure Srch (w : World) (base B : Nat) (ops : Value) (n : Int) (ed : Value) (tgt : Int) (nodes : List Int) (qs : List PP) (vn vf : Value) : Prop where
  box : Box w B 89 (sC ops n ed tgt vn vf)
  hB : base ≤ B
  nod : w.ownsRow base 3 1 vn nodes.length (nodes.map (Value.int .i64))
  fnd : Pths w base vf qs
  ap : ∀ q ∈ qs, q.v.ownBlock ≠ vn.ownBlock
section
variable {w w' : World} {base B : Nat} {ops ed vn vf : Value} {n tgt : Int} {nodes : List Int} {qs : List PP}
theorem Srch.keep (h : Srch w base B ops n ed tgt nodes qs vn vf) (hb : Below w.heap.size w w') : Srch w' base B ops n ed tgt nodes qs vn vf :=
  ⟨h.box.keep hb, h.hB, own_keep5 h.nod hb, h.fnd.keep hb, h.ap⟩
theorem Srch.cells (h : Srch w base B ops n ed tgt nodes qs vn vf) : (w.cell? ⟨B, 0, none⟩ = some ops ∧ w.cell? ⟨B, 1, none⟩ = some (.int .i64 n) ∧ w.cell? ⟨B, 2, none⟩ = some ed ∧ w.cell? ⟨B, 3, none⟩ = some (.int .i64 tgt) ∧ w.cell? ⟨B, 4, none⟩ = some vn ∧ w.cell? ⟨B, 5, none⟩ = some vf) ∧ B < w.heap.size :=
  ⟨⟨by simpa [sC] using h.box.cell 0, by simpa [sC] using h.box.cell 1, by simpa [sC] using h.box.cell 2, by simpa [sC] using h.box.cell 3, by simpa [sC] using h.box.cell 4, by simpa [sC] using h.box.cell 5⟩, h.box.lt⟩
/-- A node more, in whatever block. -/
theorem Srch.push (h : Srch w base B ops n ed tgt nodes qs vn vf) {g cap : Nat} {t : Int} (hg : w.grownBy w' vn.ownBlock) (ho : w'.ownsRow base 3 1 (.slice (some ⟨g, 0, none⟩) (nodes.length + 1) cap) (nodes.length + 1) (nodes.map (Value.int .i64) ++ [.int .i64 t])) (hat : vn.ownBlock = some g ∨ w.heap.size ≤ g) :
    Srch (w'.setCell ⟨B, 4, none⟩ (.slice (some ⟨g, 0, none⟩) (nodes.length + 1) cap)) base B ops n ed tgt (nodes ++ [t]) qs (.slice (some ⟨g, 0, none⟩) (nodes.length + 1) cap) vf ∧ ChaT AS base w (w'.setCell ⟨B, 4, none⟩ (.slice (some ⟨g, 0, none⟩) (nodes.length + 1) cap)) := by
  have hb1 : Box w' B 89 (sC ops n ed tgt vn vf) := Box.grown h.box hg h.nod (by decide)
  have hf1 := h.fnd.ints hg h.nod h.ap
  refine ⟨⟨by have := hb1.set 4 (.slice (some ⟨g, 0, none⟩) (nodes.length + 1) cap); simpa [sC] using this, h.hB, ?_, hf1.box hb1 (by decide) (by decide) _ _, fun q hq e => ?_⟩, ?_⟩
  · have := hb1.own (o := 4) (v' := .slice (some ⟨g, 0, none⟩) (nodes.length + 1) cap) ho (by decide)
    simpa using this
  · obtain ⟨k, hk, h1, h2⟩ := (h.fnd.row q hq).blk
    rw [hk] at e
    simp [Value.ownBlock] at e
    subst e
    rcases hat with hat | hat
    · exact h.ap q hq (hk.trans hat.symm)
    · omega
  · exact (ChaT.of_grown (A := AS) hg h.nod (.inr (.inl rfl))).trans (ChaT.set hb1 h.hB (.inl rfl) _ _)
/-- The last node is taken away. -/
theorem Srch.pop {g cap : Nat} {t : Int} (h : Srch w base B ops n ed tgt (nodes ++ [t]) qs (.slice (some ⟨g, 0, none⟩) (nodes.length + 1) cap) vf) :
    Srch (w.setCell ⟨B, 4, none⟩ (.slice (some ⟨g, 0, none⟩) nodes.length cap)) base B ops n ed tgt nodes qs (.slice (some ⟨g, 0, none⟩) nodes.length cap) vf ∧ ChaT AS base w (w.setCell ⟨B, 4, none⟩ (.slice (some ⟨g, 0, none⟩) nodes.length cap)) := by
  refine ⟨⟨by have := h.box.set 4 (.slice (some ⟨g, 0, none⟩) nodes.length cap); simpa [sC] using this, h.hB, ?_, h.fnd.box h.box (by decide) (by decide) _ _, fun q hq => by have := h.ap q hq; simpa [Value.ownBlock] using this⟩, ChaT.set h.box h.hB (.inl rfl) _ _⟩
  have hn := h.nod
  rw [List.length_append] at hn
  have := own_cut (k := nodes.length) hn (Nat.le_succ _)
  have h2 := h.box.own (o := 4) (v' := .slice (some ⟨g, 0, none⟩) nodes.length cap) this (by decide)
  simpa using h2
/-- A path more is found. -/
theorem Srch.found (h : Srch w base B ops n ed tgt nodes qs vn vf) {v' : Value} {q : PP} (hg : w.grownBy w' vf.ownBlock) (ho : w'.ownsRow base 30 2 v' (qs.length + 1) (cellsP qs ++ [q.v, .int .i64 q.x])) (hq : PRow w base q) (hd : ∀ p ∈ qs, p.v.ownBlock ≠ q.v.ownBlock) (hdn : q.v.ownBlock ≠ vn.ownBlock) :
    Srch (w'.setCell ⟨B, 5, none⟩ v') base B ops n ed tgt nodes (qs ++ [q]) vn v' ∧ ChaT AS base w (w'.setCell ⟨B, 5, none⟩ v') := by
  have hb1 : Box w' B 89 (sC ops n ed tgt vn vf) := Box.grown h.box hg h.fnd.own (by decide)
  have hn1 := h.nod.kept hg (own_types h.nod h.fnd.own (by decide))
  have hf1 := h.fnd.snoc hg ho hq hd
  refine ⟨⟨by have := hb1.set 5 v'; simpa [sC] using this, h.hB, hb1.own hn1 (by decide), hf1.box hb1 (by decide) (by decide) _ _, fun p hp => ?_⟩, ?_⟩
  · rcases List.mem_append.1 hp with hp | hp
    · exact h.ap p hp
    · simp at hp
      subst hp
      exact hdn
  · exact (ChaT.of_grown (A := AS) hg h.fnd.own (.inr (.inr rfl))).trans (ChaT.set hb1 h.hB (.inl rfl) _ _)
end

set_option maxRecDepth 20000 in
set_option maxHeartbeats 1000000 in
/-- A copy of a row of numbers that is not empty, in a new block. -/
theorem cloneO (zs : List Int) (s : Value) (w : World) (hr : Row w s zs) (h0 : 0 < zs.length) (hl : zs.length ≤ 1048576) :
    Calls Tryz.prog 76 #[s] w fun e w' => ∃ v, e = .returned v ∧ w'.ownsRow w.heap.size 3 1 v zs.length (zs.map (Value.int .i64)) ∧ Below w.heap.size w w' := by
  obtain ⟨a, cap, rfl, hz⟩ := hr
  rcases hz with hz | ⟨b, off, rfl, hb, hc⟩
  · rw [hz] at h0; simp at h0
  have hnews := row_news (fun i hi => (Lib.cell?_alloc_some (.cells #[] 3) (hc i hi)))
  have HN := Lib.hid hnews
  obtain ⟨i0, hi, hz0, hz1, hz2⟩ := info_parts info_int2
  have HI := Lib.hid (And.intro hi (And.intro hz0 (And.intro hz1 hz2)))
  have hown0 : (w.alloc (.cells #[] 3)).ownsRow w.heap.size 3 1 (.slice (some ⟨w.heap.size, 0, none⟩) 0 0) 0 [] := World.ownsRow_made w #[] 0 (Nat.le_refl _) (by unfold maxLen; omega) rfl
  have HO := Lib.hid hown0
  have hall : ∀ u ∈ zs.map (Value.int .i64), u.oneCell' = true := by intro u hu; obtain ⟨x, _, rfl⟩ := List.mem_map.1 hu; rfl
  have HALL := Lib.hid hall
  have hq : ∀ w, (binOp .eql 25 (.slice (some ⟨b, off, none⟩) zs.length cap) (.slice none 0 0)).run Tryz.prog w = .ok (.bool false) w := fun w => Lib.run_eql_slice_nil w _ _ (some ⟨b, off, none⟩) zs.length cap 0 0 Tryz.underlying25
  clear hown0 hc hnews hi hz0 hz1 hz2 hall
  go_enter Tryz.func76, Tryz.ntmps76
  obtain ⟨hi, hz0, hz1, hz2⟩ := HI.out
  go_wp2_with (at_builtin; refine wpList_append_own _ rfl _ _ 25 rfl w.heap.size 3 i0 (.int .i64 0) 1 8 Tryz.underlying25 hi hz0 hz1 hz2 rfl (by decide) _ _ _ rfl HO.out ⟨b, off, none⟩ zs.length cap (zs.map (Value.int .i64)) rfl ?c1 HN.out HALL.out ?c3 ?c4 ?c5 ?_)
  case c1 => simp
  case c3 => unfold maxLen; omega
  case c4 => omega
  case c5 => simp
  intro v' w6 hown6 hgrow6 _
  have hown7 : w6.ownsRow w.heap.size 3 1 v' zs.length (zs.map (Value.int .i64)) := by simpa using hown6
  have H7 := Lib.hid hown7
  have hB : Below w.heap.size w w6 := ((Below.refl _ w).alloc (Nat.le_refl _) _).grown hgrow6 (by simp) (by intro k hk; simp [Value.ownBlock] at hk; omega)
  clear hown6 hown7 hgrow6 hi hz0 hz1 hz2
  go_wp2
  go_ret
  exact ⟨v', rfl, H7.out, hB⟩
end Go.Proofs.YtneapbggnnndhaaGreat
