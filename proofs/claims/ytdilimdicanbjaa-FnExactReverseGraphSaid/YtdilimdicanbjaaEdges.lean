/- Slices of edges that the laws copy and compare. -/
import Derived.Test.YtdilimdicanbjaaGraph2
import Derived.Deep.OwnRows
namespace Go.Proofs.Ytdilimdicanbjaa
open Go.RowKit Go.BigFrame Go.Deep
set_option linter.unusedVariables false
set_option linter.unusedSimpArgs false

theorem RowE.keep {w w' : World} {s : Value} {es : List Ed} (h : RowE w s es) (hb : Below w.heap.size w w') : RowE w' s es := by
  obtain ⟨a, cap, rfl, hz⟩ := h
  refine ⟨a, cap, rfl, ?_⟩
  rcases hz with h0 | ⟨b, off, rfl, hlt, hc⟩
  · exact .inl h0
  · refine .inr ⟨b, off, rfl, Nat.lt_of_lt_of_le hlt hb.size, fun i hi => ?_⟩
    obtain ⟨c0, c1, c2⟩ := hc i hi
    exact ⟨(hb.cell (p := ⟨b, _, none⟩) hlt).trans c0, (hb.cell (p := ⟨b, _, none⟩) hlt).trans c1, (hb.cell (p := ⟨b, _, none⟩) hlt).trans c2⟩

/-- make of elements of several cells, with a variable size. -/
theorem run_make_rowN {P : Program} (t e : TypeId) (z : Value) (zs : Array Value) (size bytes : Nat) (ht : P.underlying t = some (.slice e)) (hinfo : (P.info? e).map (fun i => (i.zero, i.size, i.bytes)) = some (some z, size, bytes)) (hz1 : z.cells = zs)
    (kl kc : IntKind) (n : Nat) (hbytes : bytes * n ≤ 281474976710656) (h63 : n ≤ 9223372036854775807) (w : World) :
    (Instr.makeSlice t (.int kl (n : Int)) (.int kc (n : Int))).run P w = .ok (.slice (some ⟨w.heap.size, 0, none⟩) n n) (w.alloc (.cells (madeCells zs (n * size)) e)) := by
  obtain ⟨i, hi, hzz⟩ := Option.map_eq_some_iff.1 hinfo
  simp only [Prod.mk.injEq] at hzz
  obtain ⟨hz, hs, hb⟩ := hzz
  have hb' : (i.bytes : Int) * (n : Int) ≤ 281474976710656 := by
    have h : ((i.bytes * n : Nat) : Int) ≤ 281474976710656 := by rw [hb]; omega
    rwa [Int.natCast_mul] at h
  have hr := run_make (P := P) w t e i z ht hi hz kl kc n n (by omega) (Int.le_refl _) hb' (by omega)
  simp only [Int.toNat_natCast, hs, hz1] at hr
  exact hr

/-- The cells of a row of edges. -/
def cellE (es : List Ed) (j : Nat) : Value :=
  .int .i64 (if j % 3 = 0 then (es.getD (j / 3) (0, 0, 0)).1 else if j % 3 = 1 then (es.getD (j / 3) (0, 0, 0)).2.1 else (es.getD (j / 3) (0, 0, 0)).2.2)
theorem cellE0 (es : List Ed) (i : Nat) : cellE es (i * 3) = .int .i64 (es.getD i (0, 0, 0)).1 := by
  have h1 : i * 3 % 3 = 0 := by omega
  have h2 : i * 3 / 3 = i := by omega
  simp only [cellE, h1, h2, if_pos]
theorem cellE1 (es : List Ed) (i : Nat) : cellE es (i * 3 + 1) = .int .i64 (es.getD i (0, 0, 0)).2.1 := by
  have h1 : (i * 3 + 1) % 3 = 1 := by omega
  have h2 : (i * 3 + 1) / 3 = i := by omega
  simp [cellE, h1, h2]
theorem cellE2 (es : List Ed) (i : Nat) : cellE es (i * 3 + 2) = .int .i64 (es.getD i (0, 0, 0)).2.2 := by
  have h1 : (i * 3 + 2) % 3 = 2 := by omega
  have h2 : (i * 3 + 2) / 3 = i := by omega
  simp [cellE, h1, h2]
/-- A row of edges that is being made. -/
def partE (es : List Ed) (k : Nat) : Nat → Value := fun j => if j < k * 3 then cellE es j else .int .i64 0
theorem rowE_of_rowIs {w : World} {b : Nat} {t : TypeId} {es : List Ed} (h : w.rowIs b t (es.length * 3) (cellE es)) (cap : Nat) : RowE w (.slice (some ⟨b, 0, none⟩) es.length cap) es :=
  ⟨_, cap, rfl, .inr ⟨b, 0, rfl, h.lt, fun i hi => ⟨by rw [Nat.zero_add, h.cell (by omega), cellE0], by rw [Nat.zero_add, h.cell (by omega), cellE1], by rw [Nat.zero_add, h.cell (by omega), cellE2]⟩⟩⟩
theorem info_edge : (Try.prog.info? 72).map (fun i => (i.zero, i.size, i.bytes)) = some (some (.agg #[.int .i64 0, .int .i64 0, .int .i64 0]), 3, 24) := by kernel_rfl
theorem made_part (es : List Ed) (w : World) (t : TypeId) (n : Nat) : (w.alloc (.cells (madeCells #[.int .i64 0, .int .i64 0, .int .i64 0] (n * 3)) t)).rowIs w.heap.size t (n * 3) (partE es 0) :=
  ⟨_, blk_alloc_new _ _, size_madeCells _ _, fun i hi => by
    have h3 : i % 3 = 0 ∨ i % 3 = 1 ∨ i % 3 = 2 := by omega
    rcases h3 with h | h | h <;> simp [madeCells, hi, partE, h]⟩
theorem part_step (es : List Ed) (k j : Nat) : partE es (k + 1) j = if j = k * 3 + 2 then .int .i64 (es.getD k (0, 0, 0)).2.2 else if j = k * 3 + 1 then .int .i64 (es.getD k (0, 0, 0)).2.1 else if j = k * 3 then .int .i64 (es.getD k (0, 0, 0)).1 else partE es k j := by
  unfold partE
  by_cases h2 : j = k * 3 + 2
  · subst h2; rw [if_pos rfl, if_pos (by omega), cellE2]
  · rw [if_neg h2]
    by_cases h1 : j = k * 3 + 1
    · subst h1; rw [if_pos rfl, if_pos (by omega), cellE1]
    · rw [if_neg h1]
      by_cases h0 : j = k * 3
      · subst h0; rw [if_pos rfl, if_pos (by omega), cellE0]
      · rw [if_neg h0]
        by_cases hk : j < k * 3
        · rw [if_pos hk, if_pos (by omega)]
        · rw [if_neg hk, if_neg (by omega)]

theorem results_cell1 {fn : Func} {p : Tmp} {ty : TypeId} (h : fn.results = #[.cell p ty]) (tmps : Array Value) (P : Program) (w : World) :
    (results fn tmps).run P w = ((asAddr (tmps.getD p undef)).run P w).andThen fun a w₁ => (loadVar ty a).run P w₁ := by
  simp only [results, h]
  simp

theorem toEdge (x y z : Int) (w : World) :
    Calls Try.prog 70 #[.agg #[.int .i64 x, .int .i64 y, .int .i64 z]] w fun e w' => e = .returned (.agg #[.int .i64 x, .int .i64 y, .int .i64 z]) ∧ Below w.heap.size w w' := by
  go_enter Try.func70, Try.ntmps70
  go_wp2
  try simp only [Exit.inBlock, Exit.then]
  refine bodyPost_ret (v := .agg #[.int .i64 x, .int .i64 y, .int .i64 z]) ?_ rfl ?_
  · rw [results_cell1 rfl]
    go_simp
  exact ⟨rfl, ((((Below.refl _ _).alloc (Nat.le_refl _) _).alloc (by simp) _).alloc (by simp; omega) _)⟩

/-- A slice of edges in a block that is new since a world. -/
def NewE (W w' : World) (v : Value) (es : List Ed) : Prop :=
  ∃ g cap, v = .slice (some ⟨g, 0, none⟩) es.length cap ∧ (W.heap.size ≤ g ∧ es.length ≤ cap) ∧ w'.rowIs g 72 (es.length * 3) (cellE es)
/-- A slice's length is within its room, and without an array there is no room. -/
def okS (s : Value) : Prop := ∀ a n c, s = .slice a n c → n ≤ c ∧ (a = none → c = 0) ∧ (∀ x, a = some x → x.spot = none)
theorem NewE.ok {W w' : World} {v : Value} {es : List Ed} (h : NewE W w' v es) : okS v := by
  obtain ⟨g, cap, rfl, hg, hr⟩ := h
  intro a n c e
  injection e with e1 e2 e3
  subst e1 e2 e3
  exact ⟨hg.2, (fun h => by cases h), fun x h => by injection h with h; rw [← h]⟩
theorem NewE.row {W w' : World} {v : Value} {es : List Ed} (h : NewE W w' v es) : RowE w' v es := by
  obtain ⟨g, cap, rfl, _, hr⟩ := h
  exact rowE_of_rowIs hr cap

theorem toEdgeS (es : List Ed) (s : Value) (w : World) (hr : RowE w s es) (hl : es.length ≤ 1048576) :
    Calls Try.prog 47 #[s] w fun e w' => ∃ s', e = .returned s' ∧ NewE w w' s' es ∧ Below w.heap.size w w' := by
  obtain ⟨a, cap, rfl, hz0⟩ := hr
  have hz := Lib.hid hz0
  clear hz0
  have hmk := run_make_rowN (P := Try.prog) 40 72 (.agg #[.int .i64 0, .int .i64 0, .int .i64 0]) #[.int .i64 0, .int .i64 0, .int .i64 0] 3 24 Try.underlying40 info_edge (by rfl) .i64 .i64 es.length (by omega) (by omega)
  go_enter Try.func47, Try.ntmps47
  go_wp2
  clear hmk
  go_loopw [4] (fun c wr => ∃ k : Nat, k ≤ es.length ∧ c = .int .i64 k ∧ wr.rowIs w.heap.size 72 (es.length * 3) (partE es k) ∧ Below w.heap.size w wr) (fun c _ => es.length - (intOf c).toNat)
  case atStart => exact ⟨0, Nat.zero_le _, rfl, made_part es _ _ _, (Below.refl _ _).alloc (Nat.le_refl _) _⟩
  case round =>
    obtain ⟨k, hk, rfl, hrow, hbel⟩ := hrel
    by_cases hlt : k < es.length
    · have hlt' : (k : Int) < es.length := by omega
      rcases hz.out with h0 | ⟨b, off, rfl, hb, hc⟩
      · rw [h0] at hlt; simp at hlt
      obtain ⟨x, y, z, hx⟩ : ∃ x y z, (x, y, z) = es.getD k (0, 0, 0) := ⟨_, _, _, rfl⟩
      obtain ⟨c0, c1, c2⟩ := hc k hlt
      rw [← hbel.cell (p := ⟨b, _, none⟩) hb, ← hx] at c0 c1 c2
      simp only at c0 c1 c2
      have HX := Lib.hid hx
      have HR := Lib.hid hrow
      clear hc hx hrow
      have s0 : wr.cell? ⟨w.heap.size, k * 3, none⟩ = some (partE es k (k * 3)) := HR.out.cell (by omega)
      go_wp2_with (go_at_call 70; (with_reducible refine (toEdge x y z _).mono ?_); rintro e w1 ⟨rfl, hb1⟩; have HR1 := Lib.hid (HR.out.of_block (hb1.block _ HR.out.lt)); have t0 := HR1.out.cell (i := k * 3) (by omega); have t1 := HR1.out.cell (i := k * 3 + 1) (by omega); have t2 := HR1.out.cell (i := k * 3 + 2) (by omega); have u0 := HR1.out.frozen (k * 3); have u1 := HR1.out.frozen (k * 3 + 1); have u2 := HR1.out.frozen (k * 3 + 2))
      go_roundw
      case rel => exact ⟨k + 1, by omega, by go_num, (((HR1.out.set _ _).set _ _).set _ _).congr (fun i hi => by rw [part_step, ← HX.out]), ((((bel_trans hbel hb1).setCell (Nat.le_refl _) _).setCell (Nat.le_refl _) _).setCell (Nat.le_refl _) _)⟩
      case measure => simp [intOf]; omega
    · have hke : k = es.length := by omega
      have hkk : ¬ ((k : Int) < es.length) := by omega
      have HK := Lib.hid hke
      clear hke
      go_wp2
      go_ret
      exact ⟨_, rfl, ⟨_, _, rfl, ⟨Nat.le_refl _, Nat.le_refl _⟩, hrow.congr (fun i hi => by unfold partE; rw [if_pos (by rw [HK.out]; exact hi)])⟩, hbel⟩

theorem toGraph (n : Int) (es : List Ed) (s : Value) (w : World) (hr : RowE w s es) (hl : es.length ≤ 1048576) :
    Calls Try.prog 21 #[.agg #[.int .i64 n, s]] w fun e w' => ∃ s', e = .returned (.agg #[.int .i64 n, s']) ∧ NewE w w' s' es ∧ Below w.heap.size w w' := by
  have hc := toEdgeS es s
  have HC := Lib.hid hc
  have HR := Lib.hid hr
  clear hc hr
  go_enter Try.func21, Try.ntmps21
  go_wp2_with (go_at_call 47; refine (HC.out _ (HR.out.keep ((((Below.refl _ _).alloc (Nat.le_refl _) _).alloc (by simp) _).alloc (by simp; omega) _)) hl).mono ?_; rintro e w1 ⟨_, rfl, ⟨g, cap, rfl, hg, hrow⟩, hb1⟩; have x0 := hb1.cell (p := ⟨w.heap.size + 1 + 1, 0, none⟩) (by simp); have x1 := hb1.cell (p := ⟨w.heap.size + 1 + 1, 1, none⟩) (by simp); have x2 := hb1.cell (p := ⟨w.heap.size + 1, 0, none⟩) (by simp); have x3 := hb1.cell (p := ⟨w.heap.size + 1, 1, none⟩) (by simp); have y0 := hb1.frozen (p := ⟨w.heap.size + 1 + 1, 1, none⟩) (by simp); have y1 := hb1.frozen (p := ⟨w.heap.size + 1, 0, none⟩) (by simp); have y2 := hb1.frozen (p := ⟨w.heap.size + 1, 1, none⟩) (by simp); have HG := Lib.hid hg; have HW := Lib.hid hrow; clear hg hrow)
  try simp only [Exit.inBlock, Exit.then]
  refine bodyPost_ret (v := .agg #[.int .i64 n, .slice (some ⟨g, 0, none⟩) es.length cap]) ?_ rfl ?_
  · rw [results_cell1 rfl]
    go_simp
  have hg3 : w.heap.size + 3 ≤ g := by have := HG.out.1; simp at this; omega
  refine ⟨_, rfl, ⟨g, cap, rfl, ⟨by omega, HG.out.2⟩, ((HW.out.setOther (by simp; omega) _).setOther (by simp; omega) _).setOther (by simp; omega) _⟩, ?_⟩
  exact (((bel_trans ((((Below.refl _ _).alloc (Nat.le_refl _) _).alloc (by simp) _).alloc (by simp; omega) _) hb1).setCell (by simp; omega) _).setCell (by simp) _).setCell (by simp) _

theorem eqEdge (x y z : Int) (w : World) :
    Calls Try.prog 73 #[.agg #[.int .i64 x, .int .i64 y, .int .i64 z], .agg #[.int .i64 x, .int .i64 y, .int .i64 z]] w fun e w' => e = .returned (.bool true) ∧ Below w.heap.size w w' := by
  go_enter Try.func73, Try.ntmps73
  go_wp2
  go_ret
  exact ⟨rfl, (((Below.refl _ _).alloc (Nat.le_refl _) _).alloc (by simp) _)⟩

theorem eqEdgeS (es : List Ed) (s t : Value) (w : World) (hs : RowE w s es) (ht : RowE w t es) (hl : es.length ≤ 1048576) :
    Calls Try.prog 51 #[s, t] w fun e w' => e = .returned (.bool true) ∧ Below w.heap.size w w' := by
  obtain ⟨a, cap, rfl, hz0⟩ := hs
  have hz := Lib.hid hz0
  obtain ⟨a2, cap2, rfl, hy0⟩ := ht
  have hy := Lib.hid hy0
  clear hz0 hy0
  go_enter Try.func51, Try.ntmps51
  go_wp2
  go_loopw [5] (fun c wr => ∃ k : Nat, k ≤ es.length ∧ c = .int .i64 k ∧ Below w.heap.size w wr) (fun c _ => es.length - (intOf c).toNat)
  case atStart => exact ⟨0, Nat.zero_le _, rfl, Below.refl _ _⟩
  case round =>
    obtain ⟨k, hk, rfl, hbel⟩ := hrel
    by_cases hlt : k < es.length
    · have hlt' : (k : Int) < es.length := by omega
      rcases hz.out with h0 | ⟨b, off, rfl, hb, hc⟩
      · rw [h0] at hlt; simp at hlt
      rcases hy.out with h0 | ⟨b2, off2, rfl, hb2, hc2⟩
      · rw [h0] at hlt; simp at hlt
      obtain ⟨x, y, z, hx⟩ : ∃ x y z, (x, y, z) = es.getD k (0, 0, 0) := ⟨_, _, _, rfl⟩
      have h1 := hc k hlt
      have h2 := hc2 k hlt
      rw [← hx] at h1 h2
      simp only at h1 h2
      have ff : ∀ w', Below wr.heap.size wr w' → w'.cell? ⟨b, off + k * 3, none⟩ = some (.int .i64 x) ∧ w'.cell? ⟨b, off + k * 3 + 1, none⟩ = some (.int .i64 y) ∧ w'.cell? ⟨b, off + k * 3 + 2, none⟩ = some (.int .i64 z) ∧
          w'.cell? ⟨b2, off2 + k * 3, none⟩ = some (.int .i64 x) ∧ w'.cell? ⟨b2, off2 + k * 3 + 1, none⟩ = some (.int .i64 y) ∧ w'.cell? ⟨b2, off2 + k * 3 + 2, none⟩ = some (.int .i64 z) := by
        intro w' h
        have hB := bel_trans hbel h
        exact ⟨(hB.cell (p := ⟨b, _, none⟩) hb).trans h1.1, (hB.cell (p := ⟨b, _, none⟩) hb).trans h1.2.1, (hB.cell (p := ⟨b, _, none⟩) hb).trans h1.2.2, (hB.cell (p := ⟨b2, _, none⟩) hb2).trans h2.1, (hB.cell (p := ⟨b2, _, none⟩) hb2).trans h2.2.1, (hB.cell (p := ⟨b2, _, none⟩) hb2).trans h2.2.2⟩
      have FF := Lib.hid ff
      clear hc hc2 hx h1 h2 ff
      go_wp2
      refine wp_region_below (by kernel_rfl) (by kernel_rfl) ?_
      repeat (go_big_quiet_step ((intro hw; first | with_reducible rfl | (obtain ⟨f0, f1, f2, g0, g1, g2⟩ := FF.out _ hw; simp only [f0, f1, f2, g0, g1, g2, Result.andThen]; first | exact ⟨trivial, rfl⟩ | exact ⟨rfl, rfl⟩) | (go_at_call 73; exact quietB (eqEdge _ _ _ _) hw))))
      refine wpQuiet_nil ?_
      intro w1 hw1
      go_wp2
      go_roundw
      case rel => first | exact ⟨k + 1, by omega, by go_num, bel_trans hbel hw1⟩ | ((repeat apply Exists.intro); exact ⟨⟨k + 1, by omega, by go_num, bel_trans hbel hw1⟩, rfl⟩)
      case measure => simp [intOf]; omega
    · have hke : k = es.length := by omega
      have hkk : ¬ ((k : Int) < es.length) := by omega
      have HK := Lib.hid hke
      clear hke
      go_wp2
      go_ret
      exact ⟨rfl, hbel⟩

theorem eqGraph (n : Int) (es : List Ed) (s t : Value) (w : World) (hs : RowE w s es) (ht : RowE w t es) (hl : es.length ≤ 1048576) :
    Calls Try.prog 24 #[.agg #[.int .i64 n, s], .agg #[.int .i64 n, t]] w fun e w' => e = .returned (.bool true) ∧ Below w.heap.size w w' := by
  have hB : ∀ (A B : Obj), Below w.heap.size w ((w.alloc A).alloc B) := fun A B => ((Below.refl _ _).alloc (Nat.le_refl _) _).alloc (by simp) _
  have hc := fun A B => eqEdgeS es s t ((w.alloc A).alloc B) (hs.keep (hB A B)) (ht.keep (hB A B)) hl
  have HC := Lib.hid hc
  have HB := Lib.hid hB
  clear hc hB
  go_enter Try.func24, Try.ntmps24
  go_wp2_with (go_at_call 51; refine (HC.out _ _).mono ?_; rintro e w1 ⟨rfl, hb1⟩)
  go_ret
  exact ⟨rfl, bel_trans (HB.out _ _) hb1⟩

/-- What is left of a budget. -/
def szR (l len : Nat) : Int := if len ≤ l then ((l - len : Nat) : Int) else -1
theorem szEdgeS (len cap : Nat) (a : Option Addr) (l : Nat) (w : World) (hl : l ≤ 1048576) (hn : len ≤ 9223372036854775807) :
    Calls Try.prog 44 #[.slice a len cap, .int .i64 l] w fun e w' => e = .returned (.int .i64 (szR l len)) ∧ w' = w := by
  by_cases h : len ≤ l
  · have h1 : ¬ ((l : Int) - len < 0) := by omega
    have e0 : szR l len = (l : Int) - len := by rw [szR, if_pos h]; omega
    rw [e0]
    clear e0
    go_enter Try.func44, Try.ntmps44
    go_wp2
    go_ret
    exact ⟨rfl, rfl⟩
  · have h1 : ((l : Int) - len < 0) := by omega
    have e0 : szR l len = -1 := by rw [szR, if_neg h]
    rw [e0]
    clear e0
    go_enter Try.func44, Try.ntmps44
    go_wp2
    go_ret
    exact ⟨rfl, rfl⟩
theorem szGraph (n : Int) (len cap : Nat) (a : Option Addr) (l : Nat) (w : World) (hl : l ≤ 1048576) (hn : len ≤ 9223372036854775807) :
    Calls Try.prog 19 #[.agg #[.int .i64 n, .slice a len cap], .int .i64 l] w fun e w' => e = .returned (.int .i64 (szR l len)) ∧ Below w.heap.size w w' := by
  have hc := fun w => szEdgeS len cap a l w hl hn
  have hR : -1 ≤ szR l len := by unfold szR; split <;> omega
  generalize szR l len = R at hc hR ⊢
  have HC := Lib.hid hc
  clear hc
  by_cases h : R < 0
  · have e1 : R = -1 := by omega
    subst e1
    go_enter Try.func19, Try.ntmps19
    go_wp2_with (go_at_call 44; refine (HC.out _).mono ?_; rintro e w1 ⟨rfl, rfl⟩)
    go_ret
    exact ⟨rfl, ((Below.refl _ _).alloc (Nat.le_refl _) _)⟩
  · go_enter Try.func19, Try.ntmps19
    go_wp2_with (go_at_call 44; refine (HC.out _).mono ?_; rintro e w1 ⟨rfl, rfl⟩)
    go_ret
    exact ⟨rfl, ((Below.refl _ _).alloc (Nat.le_refl _) _)⟩
end Go.Proofs.Ytdilimdicanbjaa
