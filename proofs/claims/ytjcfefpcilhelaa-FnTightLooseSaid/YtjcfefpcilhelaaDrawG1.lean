/- A drawn graph: what is wanted ahead of the walk. A region that draws its order, by what holds between its operations. A drawn graph. -/
import Derived.Test.YtjcfefpcilhelaaPutT
import Derived.Test.YtjcfefpcilhelaaBoxes
import Derived.Test.YtjcfefpcilhelaaDraw0
import Derived.Deep.CutRange
import Derived.Deep.RegionHeld3
import Derived.Test.YtjcfefpcilhelaaBase
import Derived.Orders
namespace Go.Proofs.Ytjcfefpcilhelaa
open Go.RowKit Go.BigFrame Go.Deep
set_option linter.unusedVariables false
set_option linter.unusedSimpArgs false
set_option linter.unnecessarySimpa false

theorem g_alloc {a w : World} {g : Nat} (h : a.grownBy w (some g)) (o : Obj) : a.grownBy (w.alloc o) (some g) := grown_trans' h (grown_below ((Below.refl _ _).alloc (Nat.le_refl _) _))
theorem g_drew {a w : World} {g : Nat} (h : a.grownBy w (some g)) : a.grownBy w.drew (some g) := grown_trans' h (grown_below ((Below.refl _ _).drew))
theorem g_below {a w w' : World} {g : Nat} (h : a.grownBy w (some g)) (hb : Below w.heap.size w w') : a.grownBy w' (some g) := grown_trans' h (grown_below hb)
theorem g_chg {a w w' : World} {g lo hi : Nat} (h : a.grownBy w (some g)) (c : Chg lo hi w w') (hl : a.heap.size ≤ lo) : a.grownBy w' (some g) :=
  ⟨c.os.trans h.os, c.tape.trans h.tape, c.output.trans h.output, Nat.le_trans h.size c.size, fun i hi hne => (c.block i (Nat.lt_of_lt_of_le hi h.size) (.inl (by omega))).trans (h.block i hi hne)⟩
theorem g_set {a w : World} {g b k : Nat} {v : Value} (h : a.grownBy w (some g)) (hl : a.heap.size ≤ b) : a.grownBy (w.setCell ⟨b, k, none⟩ v) (some g) :=
  ⟨h.os, h.tape, h.output, by simpa using h.size, fun i hi hne => (Below.heap_setCell w _ _ i (by simp only; omega)).trans (h.block i hi hne)⟩
theorem g_chgG {a w : World} {g : Nat} (h : a.grownBy w (some g)) : Chg g (g + 1) a w := ⟨h.os, h.tape, h.output, h.size, fun k hk hd => h.block k hk (by intro e; injection e with e; omega)⟩
theorem Rd.alloc' {W w : World} {g q : Nat} (h : Rd W w g q) (o : Obj) : Rd W (w.alloc o) g q := h.keep ((Below.refl _ _).alloc (Nat.le_refl _) _)
theorem Rd.drew' {W w : World} {g q : Nat} (h : Rd W w g q) : Rd W w.drew g q := h.keep ((Below.refl _ _).drew)
theorem Rd.set' {W w : World} {g q b k : Nat} (h : Rd W w g q) (hb : g < b) (hw : W.heap.size ≤ b) (v : Value) : Rd W (w.setCell ⟨b, k, none⟩ v) g q := by
  obtain ⟨a, n, cap, p, h1, h2, h3, h4, h5⟩ := h.cells
  have hk : (w.setCell ⟨b, k, none⟩ v).heap[g]? = w.heap[g]? := Below.heap_setCell w _ _ g (by simp only; omega)
  exact ⟨h.new, h.bel.setCell hw _, ⟨a, n, cap, p, h1, h2, h3, by rw [World.cell?_of_block (a := ⟨g, 0, none⟩) hk]; exact h4, by rw [World.cell?_of_block (a := ⟨g, 1, none⟩) hk]; exact h5⟩,
    by rw [World.frozen?_of_block (a := ⟨g, 1, none⟩) hk]; exact h.free, by simpa using h.lt⟩
theorem grown_frozen {w w' : World} {g : Nat} (h : w.grownBy w' (some g)) {b o : Nat} (hb : b < w.heap.size) (hne : b ≠ g) : w'.frozen? ⟨b, o, none⟩ = w.frozen? ⟨b, o, none⟩ :=
  World.frozen?_of_block (h.block b hb (fun e => hne (by injection e)))
theorem okS_none : okS (.slice none 0 0) := by
  intro a n c e
  injection e with e1 e2 e3
  subst e1 e2 e3
  exact ⟨Nat.le_refl _, fun _ => rfl, fun x h => by cases h⟩
theorem RowN.grown {w w' : World} {g : Nat} {s : Value} {zs : List Int} (h : RowN w g s zs) (hg : w.grownBy w' (some g)) : RowN w' g s zs := by
  obtain ⟨b, off, cap, h1, h2, h3, h4⟩ := h
  exact ⟨b, off, cap, h1, Nat.lt_of_lt_of_le h2 hg.size, h3, fun i hi => by rw [grown_cell hg h2 h3]; exact h4 i hi⟩
theorem Box.grownG {w w' : World} {g B : Nat} {t : TypeId} {cs : Array Value} (h : Box w B t cs) (hg : w.grownBy w' (some g)) (hne : B ≠ g) : Box w' B t cs := (hg.block B h.lt (by intro e; injection e with e; exact hne e)).trans h

theorem num_at (zs : List Int) (W w : World) (g q b : Nat) (hb : b = w.heap.size) (h : Rd W w g q) (hq : q ≤ 1000000) (t : TypeId) (hz : 0 < zs.length) (hz2 : zs.length ≤ 1000) :
    Calls Try.prog 73 #[.pointer (some ⟨g, 0, none⟩), .slice (some ⟨b, 0, none⟩) zs.length zs.length] (w.alloc (.cells (zs.map (Value.int .i64)).toArray t)) fun e w' =>
      ∃ x : Int, x ∈ zs ∧ e = .returned (.int .i64 x) ∧ Rd W w' g (q + 1) ∧ w.grownBy w' (some g) := by
  subst hb
  exact num_built zs W w g q h hq t hz hz2
theorem size_drew' (w : World) : w.drew.heap.size = w.heap.size := rfl
theorem rowN_at (zs : List Int) (w : World) (g : Nat) (t : TypeId) (b : Nat) (hb : b = w.heap.size) (hg : g < w.heap.size) :
    RowN (w.alloc (.cells (zs.map (Value.int .i64)).toArray t)) g (.slice (some ⟨b, 0, none⟩) zs.length zs.length) zs := by
  subst hb
  exact rowN_built zs w g t hg
/-- A valid graph in a box at B, its row from base on, away from the box. -/
def GMid (base B : Nat) (w : World) : Prop :=
  ∃ (n : Int) (es : List Ed) (va : Option Addr) (vc lo hi : Nat), Box w B 25 #[.int .i64 n, .slice va es.length vc] ∧ gVal n es = true ∧ InR true w lo hi (.slice va es.length vc) es.length 3 (cellE es) ∧ okS (.slice va es.length vc) ∧ base ≤ lo ∧ hi ≤ w.heap.size ∧ (hi ≤ B ∨ B + 1 ≤ lo)
/-- An edge in a box that is new since w. -/
def EMid (W w wx : World) (g q : Nat) (p : Value) : Prop :=
  ∃ (x y z : Int) (e : Nat), p = .pointer (some ⟨e, 0, none⟩) ∧ (wx.cell? ⟨e, 0, none⟩ = some (.int .i64 x) ∧ wx.cell? ⟨e, 1, none⟩ = some (.int .i64 y) ∧ wx.cell? ⟨e, 2, none⟩ = some (.int .i64 z)) ∧ (w.heap.size ≤ e ∧ e < wx.heap.size) ∧ Rd W wx g q ∧ w.grownBy wx (some g)
/-- What is drawn. -/
def DrawnG (W w : World) (g q : Nat) (e : Ending) (w' : World) : Prop :=
  ∃ (n : Int) (es : List Ed) (v : Value), e = .returned (.agg #[.int .i64 n, v]) ∧ gVal n es = true ∧ InR true w' w.heap.size w'.heap.size v es.length 3 (cellE es) ∧ okS v ∧ Rd W w' g q ∧ w.grownBy w' (some g)

end Go.Proofs.Ytjcfefpcilhelaa
namespace Go.Proofs.Ytjcfefpcilhelaa
set_option linter.unusedVariables false
set_option linter.unusedSimpArgs false

/-- Every operation waits for earlier ones only. -/
def fwdB (ops : Array Oper) : Bool := (List.range ops.size).all fun i => match ops[i]? with
  | some o => o.after.all fun e => !Region.binds .any e || decide (e.on < i)
  | none => true
theorem ready_nil {ops : Array Oper} {L : Array Bool} (hf : fwdB ops = true) (hs : L.size = ops.size) (h0 : Region.ready .any ops L = []) : ∀ i, i < ops.size → L.getD i true = true := by
  intro i
  induction i using Nat.strongRecOn with
  | _ i ih =>
    intro hi
    cases hc : L.getD i true with
    | true => rfl
    | false =>
      have ho : ops[i]? = some ops[i] := Array.getElem?_eq_getElem hi
      have hm : i ∈ Region.ready .any ops L := by
        refine mem_ready.2 ⟨hc, _, ho, fun e he hbd => ?_⟩
        have h1 := List.all_eq_true.1 hf i (List.mem_range.2 hi)
        simp only [ho] at h1
        have h2 := Array.all_eq_true_iff_forall_mem.1 h1 e he
        have h3 : e.on < i := by simpa [hbd] using h2
        have h4 := ih e.on h3 (by omega)
        have h5 : e.on < L.size := by omega
        simpa [h5] using h4
      rw [h0] at hm
      cases hm
section
variable {P : Program} {ops : Array Oper} {Q : Exit → Act → World → Prop}
theorem wpAny_inv (I : Array Bool → Act → World → Prop) (hf : fwdB ops = true)
    (hstep : ∀ L a w, L.size = ops.size → I L a w → ∀ i o, ops[i]? = some o → L.getD i true = false → (∀ e ∈ o.after, Region.binds .any e = true → L.getD e.on false = true) → wpOp P ops Q i (fun a' w' => I (L.setIfInBounds i true) a' w') a w)
    (hend : ∀ L a w, L.size = ops.size → I L a w → (∀ i, i < ops.size → L.getD i true = true) → Q .normal a w) :
    ∀ (fuel : Nat) (L : Array Bool) (a : Act) (w : World), L.size = ops.size → (List.range ops.size).countP (fun i => !L.getD i true) ≤ fuel → I L a w → wpAny P .any ops Q fuel L a w
  | 0, L, a, w, hs, hc, hI => by
    have hz : (List.range ops.size).countP (fun i => !L.getD i true) = 0 := by omega
    have hall : ∀ i, i < ops.size → L.getD i true = true := fun i hi => by
      have := List.countP_eq_zero.1 hz i (List.mem_range.2 hi)
      simpa using this
    refine ⟨?_, hend L a w hs hI hall⟩
    cases hr : Region.ready .any ops L with
    | nil => rfl
    | cons x xs =>
      have hx : x ∈ Region.ready .any ops L := by rw [hr]; exact List.mem_cons_self
      obtain ⟨h1, o, h2, _⟩ := mem_ready.1 hx
      have := hall x (Array.getElem?_eq_some_iff.1 h2).1
      rw [h1] at this
      cases this
  | fuel + 1, L, a, w, hs, hc, hI => by
    refine ⟨fun h => hend L a w hs hI (ready_nil hf hs h), fun i hi => ?_⟩
    obtain ⟨h1, o, h2, h3⟩ := mem_ready.1 hi
    have hlt : i < ops.size := (Array.getElem?_eq_some_iff.1 h2).1
    refine wpOp_mono (fun a' w' h' => wpAny_inv I hf hstep hend fuel _ a' w' (by simpa using hs) ?_ h') (hstep L a w hs hI i o h2 h1 h3)
    have hle : (List.range ops.size).countP (fun j => !(L.setIfInBounds i true).getD j true) + 1 ≤ (List.range ops.size).countP (fun j => !L.getD j true) := by
      have key : ∀ (l : List Nat), i ∈ l → l.countP (fun j => !(L.setIfInBounds i true).getD j true) + 1 ≤ l.countP (fun j => !L.getD j true) ∧ True := by
        intro l
        have hge : ∀ l : List Nat, l.countP (fun j => !(L.setIfInBounds i true).getD j true) ≤ l.countP (fun j => !L.getD j true) := by
          intro l
          refine List.countP_mono_left (fun j _ hj => ?_)
          by_cases e : i = j
          · subst e; rw [h1]; rfl
          · rw [getD_set_ne true e] at hj; exact hj
        induction l with
        | nil => intro h; cases h
        | cons x xs ih =>
          intro h
          refine ⟨?_, trivial⟩
          rw [List.countP_cons, List.countP_cons]
          have hx : (if (!(L.setIfInBounds i true).getD x true) = true then 1 else 0) ≤ (if (!L.getD x true) = true then 1 else 0 : Nat) := by
            by_cases e : i = x
            · subst e; rw [h1]; split <;> simp
            · rw [getD_set_ne true e]; exact Nat.le_refl _
          rcases List.mem_cons.1 h with e | e
          · have h5 := hge xs
            have hlL : i < L.size := by omega
            have h6 : (L.setIfInBounds i true).getD x true = true := by rw [← e]; simp [hlL]
            have h7 : L.getD x true = false := by rw [← e]; exact h1
            have e6 : (if (!(L.setIfInBounds i true).getD x true) = true then 1 else 0 : Nat) = 0 := by rw [h6]; rfl
            have e7 : (if (!L.getD x true) = true then 1 else 0 : Nat) = 1 := by rw [h7]; rfl
            rw [e6, e7]
            omega
          · have := (ih e).1
            omega
      exact (key _ (List.mem_range.2 hlt)).1
    omega

/-- **A region that draws its order**: what holds at first, is kept by each operation that may come up, and tells at the end what is wanted. -/
theorem wp_region_inv {id : Nat} {a : Act} {w : World} (I : Array Bool → Act → World → Prop) (hm : P.follows .mixedOrders = true) (hf : fwdB ops = true)
    (h0 : I (Array.replicate ops.size false) a { w with drawn := w.drawn + 1 })
    (hstep : ∀ L a w, L.size = ops.size → I L a w → ∀ i o, ops[i]? = some o → L.getD i true = false → (∀ e ∈ o.after, Region.binds .any e = true → L.getD e.on false = true) → wpOp P ops Q i (fun a' w' => I (L.setIfInBounds i true) a' w') a w)
    (hend : ∀ L a w, L.size = ops.size → I L a w → (∀ i, i < ops.size → L.getD i true = true) → Q .normal a w) : (Code.region id ops true).wp P Q a w :=
  wp_region_any hm (wpAny_inv I hf hstep hend ops.size _ a _ (by simp) (by
    have := List.countP_le_length (p := fun i => !(Array.replicate ops.size false).getD i true) (l := List.range ops.size)
    simpa using this) h0)
end
end Go.Proofs.Ytjcfefpcilhelaa
namespace Go.Proofs.Ytjcfefpcilhelaa
open Go.RowKit Go.BigFrame Go.Deep
set_option linter.unusedVariables false
set_option linter.unusedSimpArgs false
set_option linter.unnecessarySimpa false

theorem InR.set8 {fz : Bool} {w : World} {lo hi B k : Nat} {s u : Value} {n sz : Nat} {cs : Nat → Value} (r : InR fz w lo hi s n sz cs) (hB : B < lo) : InR fz (w.setCell ⟨B, k, none⟩ u) lo hi s n sz cs :=
  r.chg (l := B) (h := B + 1) ((Chg.refl B (B + 1) w).setCell (p := ⟨B, k, none⟩) (by simp) (by simp) u) (.inl hB)
/-- What stands in a slot: the value that has come up, or what was there. -/
def sel (b : Bool) (v u : Value) : Value := bif b then v else u
theorem sel_t (v u : Value) : sel true v u = v := rfl
theorem sel_f (v u : Value) : sel false v u = u := rfl

set_option maxRecDepth 20000 in
set_option maxHeartbeats 8000000 in
theorem l2Draw (W w : World) (g q : Nat) (h : Rd W w g q) (hq : q ≤ 900000) :
    Calls Try.prog 94 #[.pointer (some ⟨g, 0, none⟩)] w (DrawnG W w g (q + 44)) := by
  have hglt := h.lt
  have hgv0 : ∀ n ∈ [5, 4, 6, 3, 8, 1, 12], gVal n [] = true := by decide
  have HV0 := Lib.hid hgv0
  have HD := Lib.hid h
  clear h hgv0
  go_enter Try.func94, Try.ntmps94
  go_wp2_with fail
  have HW0 := Lib.hid (HD.out.alloc' (.cells #[.int .i64 0, .slice none 0 0] 25))
  have hG0 : w.grownBy (w.alloc (.cells #[.int .i64 0, .slice none 0 0] 25)) (some g) := g_alloc (grown_refl _ _) _
  have hBx0 := Box.new w 25 #[.int .i64 0, .slice none 0 0]
  have hs0 : w.heap.size + 1 = (w.alloc (.cells #[.int .i64 0, .slice none 0 0] 25)).heap.size := by simp
  generalize (w.alloc (.cells #[.int .i64 0, .slice none 0 0] 25)) = w0 at HW0 hG0 hBx0 hs0 ⊢
  refine (num_at [5, 4, 6, 3, 8, 1, 12] W w0 g q _ hs0 HW0.out (by omega) _ (by decide) (by decide)).mono ?_
  rintro e w1 ⟨n0, hn, rfl, hR1, hG1⟩
  have H1 := Lib.hid (And.intro hR1 (And.intro (grown_trans' hG0 hG1) (HV0.out n0 hn)))
  have HB1 := Lib.hid (hBx0.grownG hG1 (by omega))
  clear hR1 hG1 hn hG0 hBx0 HW0
  go_wp2_with fail
  have hRw := H1.out.1.alloc' (.cells #[.int .i64 n0, .slice none 0 0] 25)
  have hGw := g_alloc H1.out.2.1 (.cells #[.int .i64 n0, .slice none 0 0] 25)
  have hBw := Box.new w1 25 #[.int .i64 n0, .slice none 0 0]
  have hBr := HB1.out.alloc (.cells #[.int .i64 n0, .slice none 0 0] 25)
  have hs1 : w1.heap.size + 1 = (w1.alloc (.cells #[.int .i64 n0, .slice none 0 0] 25)).heap.size := by simp
  have hs2 : w.heap.size ≤ w1.heap.size := H1.out.2.1.size
  generalize (w1.alloc (.cells #[.int .i64 n0, .slice none 0 0] 25)) = w2 at hRw hGw hBw hBr hs1 ⊢
  refine (num_at [7, 5, 10, 3, 14, 0] W w2 g (q + 1) _ hs1 hRw (by omega) _ (by decide) (by decide)).mono ?_
  rintro e w3 ⟨i0, hi0, rfl, hR3, hG3⟩
  obtain ⟨I, hI, hI14⟩ : ∃ I : Nat, i0 = (I : Int) ∧ I ≤ 14 := by
    refine ⟨i0.toNat, ?_, ?_⟩ <;> simp at hi0 <;> omega
  subst hI
  have hB3 := hBw.grownG hG3 (by omega)
  have hB4 := hBr.grownG hG3 (by omega)
  have H3 := Lib.hid (And.intro (hR3.more (show q + 1 + 1 ≤ q + 44 - 3 * I by omega)) (And.intro (grown_trans' hGw hG3) hB4))
  have HM : Hid (GMid (w.heap.size + 1) w1.heap.size w3) := Lib.hid ⟨n0, [], none, 0, w.heap.size + 1, w.heap.size + 1, hB3, H1.out.2.2, ⟨none, 0, rfl, .inl rfl⟩, okS_none, Nat.le_refl _, by have := hB3.lt; have := HB1.out.lt; omega, .inl (by have := HB1.out.lt; omega)⟩
  clear hi0 hR3 hG3 hB3 hB4 hRw hGw hBw hBr hs1
  go_wp2
  go_loopw [4] (fun c wr => ∃ i : Nat, i ≤ 14 ∧ c = .int .i64 i ∧ Hid (GMid (w.heap.size + 1) w1.heap.size wr) ∧ Hid (Rd W wr g (q + 44 - 3 * i) ∧ w.grownBy wr (some g) ∧ Box wr w.heap.size 25 #[.int .i64 0, .slice none 0 0])) (fun c _ => (intOf c).toNat)
  case atStart => exact ⟨I, hI14, rfl, HM, H3⟩
  case round =>
    obtain ⟨i, hi, rfl, HV, HZ⟩ := hrel
    obtain ⟨n, es, va, vc, lo, hi', hbx, hgv, hrow, hok, hlo, hhi, hdj⟩ := HV.out
    have HX := Lib.hid hbx
    have HR := Lib.hid hrow
    have HO := Lib.hid hok
    have HGV := Lib.hid hgv
    have hn12 : n ≤ 12 := by simp only [gVal, Bool.and_eq_true, decide_eq_true_eq] at hgv; exact hgv.1.2
    have hlt3 : w1.heap.size < wr.heap.size := hbx.lt
    clear hbx hrow hok hgv HM H3
    by_cases hpos : 0 < i
    · have hpos' : (0 : Int) < i := by omega
      have hS0 : ∀ w', wr.grownBy w' (some g) → w'.cell? ⟨w1.heap.size, 0, none⟩ = some (.int .i64 n) := fun w' h => by
        have := (HX.out.grownG h (by omega)).cell 0
        simpa using this
      have HS := Lib.hid hS0
      have hRr := HZ.out.1
      clear hS0
      go_upto_region 5 with fail
      go_cut [5] from 15 to 38 (fun p wx => EMid W wr wx g (q + 44 - 3 * i + 1 + 1 + 1) p)
      · refine wp_region_inv (fun L a w' => ∃ (b0 b1 b2 b3 b4 b5 b6 b7 b8 b9 b10 b11 b12 b13 : Bool) (x3 : Int) (x7 : Int) (x10 : Int) (y : Nat) (e : Nat) (z : Value), L = #[b0, b1, b2, b3, b4, b5, b6, b7, b8, b9, b10, b11, b12, b13] ∧ a = { tmps := #[Value.pointer (some ⟨g, 0, none⟩), undef, Value.pointer (some ⟨w.heap.size, 0, none⟩), Value.pointer (some ⟨w1.heap.size, 0, none⟩), Value.int .i64 (i : Int), sel b12 (Value.pointer (some ⟨e, 0, none⟩)) u5, u6, u7, Value.pointer (some ⟨g, 0, none⟩), Value.slice (some ⟨w0.heap.size, 0, none⟩) 7 7, Value.int .i64 n0, Value.agg #[.int .i64 n0, .slice none 0 0], Value.pointer (some ⟨g, 0, none⟩), Value.slice (some ⟨w1.heap.size + 1, 0, none⟩) 6 6, Value.int .i64 (I : Int), Value.int .i64 (i : Int), Value.bool true, u17, u18, sel b0 (Value.pointer (some ⟨g, 0, none⟩)) u19, sel b1 (Value.pointer (some ⟨w1.heap.size, 0, none⟩)) u20, sel b2 (Value.int .i64 n) u21, sel b3 (Value.int .i64 x3) u22, sel b4 (Value.pointer (some ⟨g, 0, none⟩)) u23, sel b5 (Value.pointer (some ⟨w1.heap.size, 0, none⟩)) u24, sel b6 (Value.int .i64 n) u25, sel b7 (Value.int .i64 x7) u26, sel b8 (Value.pointer (some ⟨g, 0, none⟩)) u27, sel b9 (Value.slice (some ⟨y, 0, none⟩) 7 7) u28, sel b10 (Value.int .i64 x10) u29, sel b11 z u30, u31, u32, u33, u34, u35, u36, u37, u38, undef], defers := [] } ∧ Hid ((Rd W w' g (q + 44 - 3 * i + b3.toNat + b7.toNat + b10.toNat)) ∧ (wr.grownBy w' (some g)) ∧ (b9 = true → b13 = false → RowN w' g (.slice (some ⟨y, 0, none⟩) 7 7) [1, 5, 3, 2, 10, 50, 999]) ∧ (b12 = true → wr.heap.size ≤ e ∧ e < w'.heap.size ∧ (b13 = false → Box w' e 36 #[.int .i64 0, .int .i64 0, .int .i64 0]) ∧ (b13 = true → Box w' e 36 #[.int .i64 x3, .int .i64 x7, .int .i64 x10])) ∧ (b13 = true → (b3 && b7 && b9 && b10 && b12) = true) ∧ (b11 = true → (b3 && b7 && b10) = true ∧ z = .agg #[.int .i64 x3, .int .i64 x7, .int .i64 x10]))) (by kernel_rfl) (by kernel_rfl) ?_ ?_ ?_
        · exact ⟨false, false, false, false, false, false, false, false, false, false, false, false, false, false, 0, 0, 0, 0, 0, undef, rfl, rfl, Lib.hid ⟨hRr.drew', g_drew (grown_refl _ _), fun h => (by cases h), fun h => (by cases h), fun h => (by cases h), fun h => (by cases h)⟩⟩
        · rintro L a w' hL ⟨b0, b1, b2, b3, b4, b5, b6, b7, b8, b9, b10, b11, b12, b13, x3, x7, x10, y, e, z, rfl, rfl, HF⟩ k o ho hl hd
          have hk : k = 0 ∨ k = 1 ∨ k = 2 ∨ k = 3 ∨ k = 4 ∨ k = 5 ∨ k = 6 ∨ k = 7 ∨ k = 8 ∨ k = 9 ∨ k = 10 ∨ k = 11 ∨ k = 12 ∨ k = 13 := by have := (Array.getElem?_eq_some_iff.1 ho).1; simp at this; omega
          rcases hk with rfl | rfl | rfl | rfl | rfl | rfl | rfl | rfl | rfl | rfl | rfl | rfl | rfl | rfl
          · obtain rfl := Option.some.inj ho
            have hc0 : b0 = false := hl
            subst hc0
            clear hl hd ho hL
            simp only [sel_t, sel_f]
            refine wpOp_step rfl ?_
            intro K' hK'
            go_simp
            exact hK' _ _ ⟨true, b1, b2, b3, b4, b5, b6, b7, b8, b9, b10, b11, b12, b13, x3, x7, x10, y, e, z, rfl, rfl, Lib.hid ⟨HF.out.1, HF.out.2.1, HF.out.2.2.1, HF.out.2.2.2.1, HF.out.2.2.2.2.1, HF.out.2.2.2.2.2⟩⟩
          · obtain rfl := Option.some.inj ho
            have hc1 : b1 = false := hl
            subst hc1
            clear hl hd ho hL
            simp only [sel_t, sel_f]
            refine wpOp_step rfl ?_
            intro K' hK'
            go_simp
            exact hK' _ _ ⟨b0, true, b2, b3, b4, b5, b6, b7, b8, b9, b10, b11, b12, b13, x3, x7, x10, y, e, z, rfl, rfl, Lib.hid ⟨HF.out.1, HF.out.2.1, HF.out.2.2.1, HF.out.2.2.2.1, HF.out.2.2.2.2.1, HF.out.2.2.2.2.2⟩⟩
          · obtain rfl := Option.some.inj ho
            have hc2 : b2 = false := hl
            have hc1 : b1 = true := hd ⟨1, .data⟩ (by simp) rfl
            subst hc2 hc1
            clear hl hd ho hL
            simp only [sel_t, sel_f]
            refine wpOp_step rfl ?_
            intro K' hK'
            have x0 := HS.out _ HF.out.2.1
            go_simp
            exact hK' _ _ ⟨b0, true, true, b3, b4, b5, b6, b7, b8, b9, b10, b11, b12, b13, x3, x7, x10, y, e, z, rfl, rfl, Lib.hid ⟨HF.out.1, HF.out.2.1, HF.out.2.2.1, HF.out.2.2.2.1, HF.out.2.2.2.2.1, HF.out.2.2.2.2.2⟩⟩
          · obtain rfl := Option.some.inj ho
            have hc3 : b3 = false := hl
            have hc0 : b0 = true := hd ⟨0, .data⟩ (by simp) rfl
            have hc2 : b2 = true := hd ⟨2, .data⟩ (by simp) rfl
            subst hc3 hc0 hc2
            clear hl hd ho hL
            simp only [sel_t, sel_f]
            refine wpOp_step rfl ?_
            have hb13 : ¬ (b13 = true) := fun h => by have := HF.out.2.2.2.2.1 h; simp at this
            have H13 := Lib.hid hb13
            have hb11 : ¬ (b11 = true) := fun h => by have := (HF.out.2.2.2.2.2 h).1; simp at this
            have H11 := Lib.hid hb11
            intro K' hK'
            have hcall := (pick n W w' g _ HF.out.1 (by have := b7.toNat_le; have := b10.toNat_le; simp only [Bool.toNat_false, Bool.toNat_true]; omega) (by omega))
            have HC := Lib.hid hcall
            clear hcall
            clear hb13 hb11
            go_simp
            refine HC.out.mono ?_
            rintro e1 w2 ⟨x, rfl, hx, hy, hR, hG⟩
            exact hK' _ _ ⟨true, b1, true, true, b4, b5, b6, b7, b8, b9, b10, b11, b12, b13, x, x7, x10, y, e, z, rfl, rfl, Lib.hid ⟨(hR.more (by simp only [Bool.toNat_false, Bool.toNat_true]; omega)), (grown_trans' HF.out.2.1 hG), (fun h h0 => (HF.out.2.2.1 h h0).grown hG), (fun h => ⟨(HF.out.2.2.2.1 h).1, Nat.lt_of_lt_of_le (HF.out.2.2.2.1 h).2.1 hG.size, fun h2 => ((HF.out.2.2.2.1 h).2.2.1 h2).grownG hG (by have := (HF.out.2.2.2.1 h).1; have := hRr.lt; omega), fun h2 => absurd h2 H13.out⟩), fun h => absurd h H13.out, fun h => absurd h H11.out⟩⟩
          · obtain rfl := Option.some.inj ho
            have hc4 : b4 = false := hl
            subst hc4
            clear hl hd ho hL
            simp only [sel_t, sel_f]
            refine wpOp_step rfl ?_
            intro K' hK'
            go_simp
            exact hK' _ _ ⟨b0, b1, b2, b3, true, b5, b6, b7, b8, b9, b10, b11, b12, b13, x3, x7, x10, y, e, z, rfl, rfl, Lib.hid ⟨HF.out.1, HF.out.2.1, HF.out.2.2.1, HF.out.2.2.2.1, HF.out.2.2.2.2.1, HF.out.2.2.2.2.2⟩⟩
          · obtain rfl := Option.some.inj ho
            have hc5 : b5 = false := hl
            subst hc5
            clear hl hd ho hL
            simp only [sel_t, sel_f]
            refine wpOp_step rfl ?_
            intro K' hK'
            go_simp
            exact hK' _ _ ⟨b0, b1, b2, b3, b4, true, b6, b7, b8, b9, b10, b11, b12, b13, x3, x7, x10, y, e, z, rfl, rfl, Lib.hid ⟨HF.out.1, HF.out.2.1, HF.out.2.2.1, HF.out.2.2.2.1, HF.out.2.2.2.2.1, HF.out.2.2.2.2.2⟩⟩
          · obtain rfl := Option.some.inj ho
            have hc6 : b6 = false := hl
            have hc5 : b5 = true := hd ⟨5, .data⟩ (by simp) rfl
            subst hc6 hc5
            clear hl hd ho hL
            simp only [sel_t, sel_f]
            refine wpOp_step rfl ?_
            intro K' hK'
            have x0 := HS.out _ HF.out.2.1
            go_simp
            exact hK' _ _ ⟨b0, b1, b2, b3, b4, true, true, b7, b8, b9, b10, b11, b12, b13, x3, x7, x10, y, e, z, rfl, rfl, Lib.hid ⟨HF.out.1, HF.out.2.1, HF.out.2.2.1, HF.out.2.2.2.1, HF.out.2.2.2.2.1, HF.out.2.2.2.2.2⟩⟩
          · obtain rfl := Option.some.inj ho
            have hc7 : b7 = false := hl
            have hc4 : b4 = true := hd ⟨4, .data⟩ (by simp) rfl
            have hc6 : b6 = true := hd ⟨6, .data⟩ (by simp) rfl
            have hc3 : b3 = true := hd ⟨3, .chain⟩ (by simp) rfl
            subst hc7 hc4 hc6 hc3
            clear hl hd ho hL
            simp only [sel_t, sel_f]
            refine wpOp_step rfl ?_
            have hb13 : ¬ (b13 = true) := fun h => by have := HF.out.2.2.2.2.1 h; simp at this
            have H13 := Lib.hid hb13
            have hb11 : ¬ (b11 = true) := fun h => by have := (HF.out.2.2.2.2.2 h).1; simp at this
            have H11 := Lib.hid hb11
            intro K' hK'
            have hcall := (pick n W w' g _ HF.out.1 (by have := b10.toNat_le; simp only [Bool.toNat_false, Bool.toNat_true]; omega) (by omega))
            have HC := Lib.hid hcall
            clear hcall
            clear hb13 hb11
            go_simp
            refine HC.out.mono ?_
            rintro e1 w2 ⟨x, rfl, hx, hy, hR, hG⟩
            exact hK' _ _ ⟨b0, b1, b2, true, true, b5, true, true, b8, b9, b10, b11, b12, b13, x3, x, x10, y, e, z, rfl, rfl, Lib.hid ⟨(hR.more (by simp only [Bool.toNat_false, Bool.toNat_true]; omega)), (grown_trans' HF.out.2.1 hG), (fun h h0 => (HF.out.2.2.1 h h0).grown hG), (fun h => ⟨(HF.out.2.2.2.1 h).1, Nat.lt_of_lt_of_le (HF.out.2.2.2.1 h).2.1 hG.size, fun h2 => ((HF.out.2.2.2.1 h).2.2.1 h2).grownG hG (by have := (HF.out.2.2.2.1 h).1; have := hRr.lt; omega), fun h2 => absurd h2 H13.out⟩), fun h => absurd h H13.out, fun h => absurd h H11.out⟩⟩
          · obtain rfl := Option.some.inj ho
            have hc8 : b8 = false := hl
            subst hc8
            clear hl hd ho hL
            simp only [sel_t, sel_f]
            refine wpOp_step rfl ?_
            intro K' hK'
            go_simp
            exact hK' _ _ ⟨b0, b1, b2, b3, b4, b5, b6, b7, true, b9, b10, b11, b12, b13, x3, x7, x10, y, e, z, rfl, rfl, Lib.hid ⟨HF.out.1, HF.out.2.1, HF.out.2.2.1, HF.out.2.2.2.1, HF.out.2.2.2.2.1, HF.out.2.2.2.2.2⟩⟩
          · obtain rfl := Option.some.inj ho
            have hc9 : b9 = false := hl
            subst hc9
            clear hl hd ho hL
            simp only [sel_t, sel_f]
            refine wpOp_step rfl ?_
            have hb13 : ¬ (b13 = true) := fun h => by have := HF.out.2.2.2.2.1 h; simp at this
            have H13 := Lib.hid hb13
            intro K' hK'
            clear hb13
            go_simp
            exact hK' _ _ ⟨b0, b1, b2, b3, b4, b5, b6, b7, b8, true, b10, b11, b12, b13, x3, x7, x10, w'.heap.size, e, z, rfl, rfl, Lib.hid ⟨HF.out.1.alloc' _, g_alloc HF.out.2.1 _, (fun _ _ => rowN_at [1, 5, 3, 2, 10, 50, 999] w' g _ _ rfl HF.out.1.lt), (fun h => ⟨(HF.out.2.2.2.1 h).1, Nat.lt_of_lt_of_le (HF.out.2.2.2.1 h).2.1 (by simp), fun h2 => ((HF.out.2.2.2.1 h).2.2.1 h2).alloc _, fun h2 => ((HF.out.2.2.2.1 h).2.2.2 h2).alloc _⟩), fun h => absurd h H13.out, HF.out.2.2.2.2.2⟩⟩
          · obtain rfl := Option.some.inj ho
            have hc10 : b10 = false := hl
            have hc8 : b8 = true := hd ⟨8, .data⟩ (by simp) rfl
            have hc9 : b9 = true := hd ⟨9, .data⟩ (by simp) rfl
            have hc7 : b7 = true := hd ⟨7, .chain⟩ (by simp) rfl
            subst hc10 hc8 hc9 hc7
            clear hl hd ho hL
            simp only [sel_t, sel_f]
            refine wpOp_step rfl ?_
            have hb13 : ¬ (b13 = true) := fun h => by have := HF.out.2.2.2.2.1 h; simp at this
            have H13 := Lib.hid hb13
            have hb11 : ¬ (b11 = true) := fun h => by have := (HF.out.2.2.2.2.2 h).1; simp at this
            have H11 := Lib.hid hb11
            intro K' hK'
            have hcall := (num [1, 5, 3, 2, 10, 50, 999] (.slice (some ⟨y, 0, none⟩) 7 7) W w' g _ HF.out.1 (by have := b3.toNat_le; simp only [Bool.toNat_false, Bool.toNat_true]; omega) (HF.out.2.2.1 rfl (by simpa using hb13)) (by decide) (by decide))
            have HC := Lib.hid hcall
            clear hcall
            clear hb13 hb11
            go_simp
            refine HC.out.mono ?_
            rintro e1 w2 ⟨x, hx, rfl, hR, hG⟩
            exact hK' _ _ ⟨b0, b1, b2, b3, b4, b5, b6, true, true, true, true, b11, b12, b13, x3, x7, x, y, e, z, rfl, rfl, Lib.hid ⟨(hR.more (by simp only [Bool.toNat_false, Bool.toNat_true]; omega)), (grown_trans' HF.out.2.1 hG), (fun h h0 => (HF.out.2.2.1 h h0).grown hG), (fun h => ⟨(HF.out.2.2.2.1 h).1, Nat.lt_of_lt_of_le (HF.out.2.2.2.1 h).2.1 hG.size, fun h2 => ((HF.out.2.2.2.1 h).2.2.1 h2).grownG hG (by have := (HF.out.2.2.2.1 h).1; have := hRr.lt; omega), fun h2 => absurd h2 H13.out⟩), fun h => absurd h H13.out, fun h => absurd h H11.out⟩⟩
          · obtain rfl := Option.some.inj ho
            have hc11 : b11 = false := hl
            have hc3 : b3 = true := hd ⟨3, .data⟩ (by simp) rfl
            have hc7 : b7 = true := hd ⟨7, .data⟩ (by simp) rfl
            have hc10 : b10 = true := hd ⟨10, .data⟩ (by simp) rfl
            subst hc11 hc3 hc7 hc10
            clear hl hd ho hL
            simp only [sel_t, sel_f]
            refine wpOp_step rfl ?_
            intro K' hK'
            go_simp
            exact hK' _ _ ⟨b0, b1, b2, true, b4, b5, b6, true, b8, b9, true, true, b12, b13, x3, x7, x10, y, e, (.agg #[.int .i64 x3, .int .i64 x7, .int .i64 x10]), rfl, rfl, Lib.hid ⟨HF.out.1, HF.out.2.1, HF.out.2.2.1, HF.out.2.2.2.1, HF.out.2.2.2.2.1, fun _ => ⟨rfl, rfl⟩⟩⟩
          · obtain rfl := Option.some.inj ho
            have hc12 : b12 = false := hl
            subst hc12
            clear hl hd ho hL
            simp only [sel_t, sel_f]
            refine wpOp_step rfl ?_
            have hb13 : ¬ (b13 = true) := fun h => by have := HF.out.2.2.2.2.1 h; simp at this
            have H13 := Lib.hid hb13
            intro K' hK'
            clear hb13
            go_simp
            exact hK' _ _ ⟨b0, b1, b2, b3, b4, b5, b6, b7, b8, b9, b10, b11, true, b13, x3, x7, x10, y, w'.heap.size, z, rfl, rfl, Lib.hid ⟨HF.out.1.alloc' _, g_alloc HF.out.2.1 _, (fun h h0 => (HF.out.2.2.1 h h0).grown (g_alloc (grown_refl _ _) _)), (fun h => ⟨HF.out.2.1.size, by simp, fun h2 => Box.new w' _ _, fun h2 => absurd h2 H13.out⟩), fun h => absurd h H13.out, HF.out.2.2.2.2.2⟩⟩
          · obtain rfl := Option.some.inj ho
            have hc13 : b13 = false := hl
            have hc12 : b12 = true := hd ⟨12, .data⟩ (by simp) rfl
            have hc11 : b11 = true := hd ⟨11, .data⟩ (by simp) rfl
            have hc10 : b10 = true := hd ⟨10, .phase⟩ (by simp) rfl
            have hc0 : b0 = true := hd ⟨0, .phase⟩ (by simp) rfl
            have hc1 : b1 = true := hd ⟨1, .phase⟩ (by simp) rfl
            have hc2 : b2 = true := hd ⟨2, .phase⟩ (by simp) rfl
            have hc3 : b3 = true := hd ⟨3, .phase⟩ (by simp) rfl
            have hc4 : b4 = true := hd ⟨4, .phase⟩ (by simp) rfl
            have hc5 : b5 = true := hd ⟨5, .phase⟩ (by simp) rfl
            have hc6 : b6 = true := hd ⟨6, .phase⟩ (by simp) rfl
            have hc7 : b7 = true := hd ⟨7, .phase⟩ (by simp) rfl
            have hc8 : b8 = true := hd ⟨8, .phase⟩ (by simp) rfl
            have hc9 : b9 = true := hd ⟨9, .phase⟩ (by simp) rfl
            subst hc13 hc12 hc11 hc10 hc0 hc1 hc2 hc3 hc4 hc5 hc6 hc7 hc8 hc9
            clear hl hd ho hL
            simp only [sel_t, sel_f]
            refine wpOp_step rfl ?_
            intro K' hK'
            have hz := (HF.out.2.2.2.2.2 rfl).2
            subst hz
            have hB := (HF.out.2.2.2.1 rfl).2.2.1 rfl
            have c0 : w'.cell? ⟨e, 0, none⟩ = some (.int .i64 0) := by simpa using hB.cell 0
            have c1 : w'.cell? ⟨e, 1, none⟩ = some (.int .i64 0) := by simpa using hB.cell 1
            have c2 : w'.cell? ⟨e, 2, none⟩ = some (.int .i64 0) := by simpa using hB.cell 2
            have f0 := hB.frozen 0
            have f1 := hB.frozen 1
            have f2 := hB.frozen 2
            have hge := (HF.out.2.2.2.1 rfl).1
            have hlt := (HF.out.2.2.2.1 rfl).2.1
            have hgl := hRr.lt
            have hnw := hRr.bel.size
            go_simp
            exact hK' _ _ ⟨true, true, true, true, true, true, true, true, true, true, true, true, true, true, x3, x7, x10, y, e, _, rfl, rfl, Lib.hid ⟨((HF.out.1.set' (by omega) (by omega) _).set' (by omega) (by omega) _).set' (by omega) (by omega) _, (g_set (g_set (g_set HF.out.2.1 hge) hge) hge), (fun _ h => by cases h), (fun h => ⟨hge, by simpa using hlt, fun h2 => (by cases h2), fun h2 => by simpa using ((hB.set 0 _).set 1 _).set 2 _⟩), fun _ => rfl, HF.out.2.2.2.2.2⟩⟩
        · rintro L a w' hL ⟨b0, b1, b2, b3, b4, b5, b6, b7, b8, b9, b10, b11, b12, b13, x3, x7, x10, y, e, z, rfl, rfl, HF⟩ hall
          have hc0 : b0 = true := hall 0 (by decide)
          have hc1 : b1 = true := hall 1 (by decide)
          have hc2 : b2 = true := hall 2 (by decide)
          have hc3 : b3 = true := hall 3 (by decide)
          have hc4 : b4 = true := hall 4 (by decide)
          have hc5 : b5 = true := hall 5 (by decide)
          have hc6 : b6 = true := hall 6 (by decide)
          have hc7 : b7 = true := hall 7 (by decide)
          have hc8 : b8 = true := hall 8 (by decide)
          have hc9 : b9 = true := hall 9 (by decide)
          have hc10 : b10 = true := hall 10 (by decide)
          have hc11 : b11 = true := hall 11 (by decide)
          have hc12 : b12 = true := hall 12 (by decide)
          have hc13 : b13 = true := hall 13 (by decide)
          subst hc0 hc1 hc2 hc3 hc4 hc5 hc6 hc7 hc8 hc9 hc10 hc11 hc12 hc13
          simp only [sel_t]
          have hF := HF.out
          have hB := (hF.2.2.2.1 rfl).2.2.2 rfl
          have HE : Hid (EMid W wr w' g (q + 44 - 3 * i + 1 + 1 + 1) (.pointer (some ⟨e, 0, none⟩))) := Lib.hid ⟨x3, x7, x10, e, rfl, ⟨by simpa using hB.cell 0, by simpa using hB.cell 1, by simpa using hB.cell 2⟩, ⟨(hF.2.2.2.1 rfl).1, (hF.2.2.2.1 rfl).2.1⟩, hF.1.more (by simp only [Bool.toNat_true]; omega), hF.2.1⟩
          clear hF hB HF
          go_wp2_with fail
          go_meet
          case rel => exact HE.out
      · obtain ⟨x, y, z, e, rfl, ⟨c0, c1, c2⟩, ⟨hge, hlt⟩, hRc, hGc⟩ := hcut
        have hXc := HX.out.grownG hGc (by have := HD.out.lt; omega)
        have x0 : wc.cell? ⟨w1.heap.size, 0, none⟩ = some (.int .i64 n) := by simpa using hXc.cell 0
        have x1 : wc.cell? ⟨w1.heap.size, 1, none⟩ = some (.slice va es.length vc) := by simpa using hXc.cell 1
        have hrowc := HR.out.chg (g_chgG hGc) (.inl (by omega))
        have h40 := (gVal_iff.1 HGV.out).1.2.2
        have hput := sPutEdge n es x y z (.slice va es.length vc) wc hrowc.edges (by omega)
        have hlc : wr.heap.size ≤ wc.heap.size := hGc.size
        have HP := Lib.hid hput
        have HC := Lib.hid (And.intro hRc (And.intro hGc (And.intro hXc (And.intro hrowc (HZ.out.2.2.grownG hGc (by omega))))))
        clear hput hRc hGc hXc hrowc hRr
        cases hpb : putB n es (x, y, z)
        · have hp := HP.out
          rw [hpb] at hp
          have HP2 := Lib.hid hp
          clear hp HP hpb
          go_wp2_with fail
          refine HP2.out.mono ?_
          rintro e1 w5 ⟨v, rfl, hown, hokv, hb5⟩
          obtain ⟨pa, pc, rfl, hz⟩ := id hown
          have hb6 : Below w5.heap.size w5 (w5.alloc (.cells #[.int .i64 (putN n es (x, y, z)), .slice pa (putL n es (x, y, z)).length pc] 25)) := (Below.refl _ _).alloc (Nat.le_refl _) _
          have hb := bel_trans hb5 hb6
          have HE := Lib.hid (And.intro (HC.out.1.keep hb) (And.intro (g_below HC.out.2.1 hb) (And.intro (HC.out.2.2.1.keep hb) (And.intro (HC.out.2.2.2.1.keep hb) (HC.out.2.2.2.2.keep hb)))))
          have hsz := hb.size
          clear hz hown hokv hb5 hb6 hb
          go_wp2
          generalize (w5.alloc (.cells #[.int .i64 (putN n es (x, y, z)), .slice pa (putL n es (x, y, z)).length pc] 25)) = w6 at HE hsz ⊢
          go_roundw
          case rel => (rw [show ((i : Int) - 1) = ((i - 1 : Nat) : Int) by omega]; exact ⟨i - 1, by omega, rfl, Lib.hid ⟨n, es, va, vc, lo, hi', HE.out.2.2.1, HGV.out, HE.out.2.2.2.1, HO.out, hlo, by omega, hdj⟩, Lib.hid ⟨HE.out.1.more (by omega), grown_trans' HZ.out.2.1 HE.out.2.1, HE.out.2.2.2.2⟩⟩)
          case measure => simp [intOf]; omega
        · have hp := HP.out
          rw [hpb, show putN n es (x, y, z) = n by unfold putN; rw [if_pos hpb], show putL n es (x, y, z) = pL es (x, y, z) by unfold putL; rw [if_pos hpb]] at hp
          have HP2 := Lib.hid hp
          have hgp : gVal n (pL es (x, y, z)) = true := by
            rw [gVal_put HGV.out]
            unfold putB at hpb
            rw [HGV.out, Bool.true_and] at hpb
            exact hpb
          have HGP := Lib.hid hgp
          obtain ⟨L, hL⟩ : ∃ L, L = pL es (x, y, z) := ⟨_, rfl⟩
          rw [← hL] at HP2 HGP
          clear hp HP hpb hgp hL
          go_wp2_with fail
          refine HP2.out.mono ?_
          rintro e1 w5 ⟨v, rfl, hown, hokv, hb5⟩
          obtain ⟨pa, pc, rfl, hz⟩ := id hown
          have hown5 : InR true w5 wc.heap.size w5.heap.size (.slice pa L.length pc) L.length 3 (cellE L) := hown
          have hB5 := HC.out.2.2.1.keep hb5
          have hlt5 := hB5.lt
          have HE := Lib.hid (And.intro (HC.out.1.keep hb5) (And.intro (g_below HC.out.2.1 hb5) (And.intro hB5 (And.intro hown5 (And.intro (HC.out.2.2.2.2.keep hb5) hokv)))))
          have hsz := hb5.size
          have q0 : w5.cell? ⟨w1.heap.size, 0, none⟩ = some (.int .i64 n) := by simpa using hB5.cell 0
          have q1 : w5.cell? ⟨w1.heap.size, 1, none⟩ = some (.slice va es.length vc) := by simpa using hB5.cell 1
          have q2 := hB5.frozen 0
          have q3 := hB5.frozen 1
          have hW := HD.out.new
          have hW2 := HD.out.bel.size
          have hB1l := HB1.out.lt
          clear hz hown hokv hb5 hown5 hB5
          go_wp2
          go_roundw
          case rel =>
            have hR6 := ((HE.out.1.set' (b := w1.heap.size) (k := 0) (by omega) (by omega) (.int .i64 n)).set' (b := w1.heap.size) (k := 1) (by omega) (by omega) (.slice pa L.length pc)).alloc' (.cells #[.int .i64 n, .slice pa L.length pc] 25)
            have hG6 := g_alloc (g_set (b := w1.heap.size) (k := 1) (v := .slice pa L.length pc) (g_set (b := w1.heap.size) (k := 0) (v := .int .i64 n) (grown_trans' HZ.out.2.1 HE.out.2.1) (by omega)) (by omega)) (.cells #[.int .i64 n, .slice pa L.length pc] 25)
            have hX6 : Box (((w5.setCell ⟨w1.heap.size, 0, none⟩ (.int .i64 n)).setCell ⟨w1.heap.size, 1, none⟩ (.slice pa L.length pc)).alloc (.cells #[.int .i64 n, .slice pa L.length pc] 25)) w1.heap.size 25 #[.int .i64 n, .slice pa L.length pc] := by
              simpa using ((HE.out.2.2.1.set 0 (.int .i64 n)).set 1 (.slice pa L.length pc)).alloc (.cells #[.int .i64 n, .slice pa L.length pc] 25)
            have hI6 := InR.keep ((HE.out.2.2.2.1.set8 (k := 0) (u := .int .i64 n) (show w1.heap.size < wc.heap.size by omega)).set8 (k := 1) (u := .slice pa L.length pc) (show w1.heap.size < wc.heap.size by omega)) ((Below.refl _ _).alloc (Nat.le_refl _) (.cells #[.int .i64 n, .slice pa L.length pc] 25))
            have hY6 := ((HE.out.2.2.2.2.1.setOther (B' := w1.heap.size) (by omega) 0 (.int .i64 n)).setOther (B' := w1.heap.size) (by omega) 1 (.slice pa L.length pc)).alloc (.cells #[.int .i64 n, .slice pa L.length pc] 25)
            rw [show ((i : Int) - 1) = ((i - 1 : Nat) : Int) by omega]
            exact ⟨i - 1, by omega, rfl, Lib.hid ⟨n, L, pa, pc, wc.heap.size, w5.heap.size, hX6, HGP.out, hI6, HE.out.2.2.2.2.2, by omega, by simp, .inr (by omega)⟩, Lib.hid ⟨hR6.more (by omega), hG6, hY6⟩⟩
          case measure => simp [intOf]; omega
    · have hi0 : i = 0 := by omega
      subst hi0
      have x0 : wr.cell? ⟨w1.heap.size, 0, none⟩ = some (.int .i64 n) := by simpa using HX.out.cell 0
      have x1 : wr.cell? ⟨w1.heap.size, 1, none⟩ = some (.slice va es.length vc) := by simpa using HX.out.cell 1
      have y0 : wr.cell? ⟨w.heap.size, 0, none⟩ = some (.int .i64 0) := by simpa using HZ.out.2.2.cell 0
      have y1 : wr.cell? ⟨w.heap.size, 1, none⟩ = some (.slice none 0 0) := by simpa using HZ.out.2.2.cell 1
      have y2 := HZ.out.2.2.frozen 0
      have y3 := HZ.out.2.2.frozen 1
      go_wp2
      try simp only [Exit.inBlock, Exit.then]
      refine bodyPost_ret (v := .agg #[.int .i64 n, .slice va es.length vc]) ?_ rfl ?_
      · rw [results_cell1 rfl]
        go_simp
      have hwl := HZ.out.2.2.lt
      have hch : ∀ u0 u1, Chg w.heap.size (w.heap.size + 1) wr ((wr.setCell ⟨w.heap.size, 0, none⟩ u0).setCell ⟨w.heap.size, 1, none⟩ u1) := fun u0 u1 => ((Chg.refl _ _ _).setCell (by simp only; omega) (by simp only; omega) _).setCell (by simp only; omega) (by simp only; omega) _
      have hgn := HD.out.new
      have h1 := (HR.out.chg (hch (.int .i64 n) (.slice va es.length vc)) (.inl (by omega))).wider (l := w.heap.size) (h := ((wr.setCell ⟨w.heap.size, 0, none⟩ (.int .i64 n)).setCell ⟨w.heap.size, 1, none⟩ (.slice va es.length vc)).heap.size) (by omega) (by simpa using hhi) (Nat.le_refl _)
      exact ⟨n, es, _, rfl, HGV.out, h1, HO.out, ((HZ.out.1.set' (by omega) (by omega) _).set' (by omega) (by omega) _).more (by omega), g_set (g_set HZ.out.2.1 (by omega)) (by omega)⟩
end Go.Proofs.Ytjcfefpcilhelaa
