/- The model's source of drawn numbers: what is read, and that only its own block is written. A drawn graph: what is wanted ahead of the walk. A region that draws its order, by what holds between its operations. A drawn graph. A graph is copied, in the model. A graph, sometimes one that is not valid, in the model. The kinds and measures that the model draws. A drawn graph, a measure and a source, in the model. -/
import Derived.Test.YtdlnekfifogcaaaBase
import Derived.IntWalk
import Derived.Laws.BitsAllLaws
import Derived.Laws.BitsLemmas
import Derived.Laws.AppendOwn
import Derived.Test.YtdlnekfifogcaaaPutT
import Derived.Test.YtdlnekfifogcaaaBoxes
import Derived.Deep.CutRange
import Derived.Deep.RegionHeld3
import Derived.Orders
import Derived.Deep.Onto
import Derived.Deep.AppendLies
import Derived.Test.YtdlnekfifogcaaaImpl
namespace Go.Proofs.Ytdlnekfifogcaaa
open Go.RowKit Go.BigFrame
set_option linter.unusedVariables false
set_option linter.unusedSimpArgs false

/-- Bytes that came in. -/
def Bytes (w : World) (a : Option Addr) (n : Nat) : Prop :=
  n = 0 ∨ ∃ b off, a = some ⟨b, off, none⟩ ∧ b < w.heap.size ∧ ∀ i, i < n → ∃ x : Int, 0 ≤ x ∧ x ≤ 255 ∧ w.cell? ⟨b, off + i, none⟩ = some (.int .u8 x)

/-- The source lies in block g, which is new since W; it has been asked at most q times. -/
structure Rd (W w : World) (g q : Nat) : Prop where
  new : W.heap.size ≤ g
  bel : Below W.heap.size W w
  cells : ∃ (a : Option Addr) (n cap p : Nat), n ≤ 2000 ∧ p ≤ q ∧ Bytes W a n ∧ w.cell? ⟨g, 0, none⟩ = some (.slice a n cap) ∧ w.cell? ⟨g, 1, none⟩ = some (.int .i64 p)
  free : w.frozen? ⟨g, 1, none⟩ = false
  lt : g < w.heap.size

/-- What an operation of the source does to the world: only its block is written. -/
theorem grown_cell {w w' : World} {g : Nat} (h : w.grownBy w' (some g)) {b o : Nat} (hb : b < w.heap.size) (hne : b ≠ g) : w'.cell? ⟨b, o, none⟩ = w.cell? ⟨b, o, none⟩ :=
  World.cell?_of_block (h.block b hb (fun e => hne (by injection e)))
theorem grown_trans' {a b c : World} {g : Nat} (h : a.grownBy b (some g)) (k : b.grownBy c (some g)) : a.grownBy c (some g) :=
  ⟨k.os.trans h.os, k.tape.trans h.tape, k.output.trans h.output, Nat.le_trans h.size k.size, fun i hi hne => (k.block i (Nat.lt_of_lt_of_le hi h.size) hne).trans (h.block i hi hne)⟩
theorem grown_refl (w : World) (g : Nat) : w.grownBy w (some g) := ⟨rfl, rfl, rfl, Nat.le_refl _, fun _ _ _ => rfl⟩
theorem grown_below {a w : World} {g : Nat} (h : Below a.heap.size a w) : a.grownBy w (some g) := ⟨h.os, h.tape, h.output, h.size, fun i hi _ => h.block i hi⟩
theorem below_grown {W a w : World} {g : Nat} (h : Below W.heap.size W a) (hg : a.grownBy w (some g)) (hn : W.heap.size ≤ g) : Below W.heap.size W w :=
  ⟨hg.os.trans h.os, hg.tape.trans h.tape, hg.output.trans h.output, Nat.le_trans h.size hg.size, fun i hi => (hg.block i (Nat.lt_of_lt_of_le hi h.size) (fun e => by injection e with e; omega)).trans (h.block i hi)⟩
/-- The source, behind steps that left it alone. -/
theorem Rd.keep {W w w' : World} {g q : Nat} (h : Rd W w g q) (hb : Below w.heap.size w w') : Rd W w' g q := by
  obtain ⟨a, n, cap, p, h1, h2, h3, h4, h5⟩ := h.cells
  exact ⟨h.new, bel_trans h.bel hb, ⟨a, n, cap, p, h1, h2, h3, by rw [hb.cell (p := ⟨g, 0, none⟩) h.lt]; exact h4, by rw [hb.cell (p := ⟨g, 1, none⟩) h.lt]; exact h5⟩,
    by rw [hb.frozen (p := ⟨g, 1, none⟩) h.lt]; exact h.free, Nat.lt_of_lt_of_le h.lt hb.size⟩
theorem Rd.more {W w : World} {g q q' : Nat} (h : Rd W w g q) (hq : q ≤ q') : Rd W w g q' := by
  obtain ⟨a, n, cap, p, h1, h2, h3, h4, h5⟩ := h.cells
  exact ⟨h.new, h.bel, ⟨a, n, cap, p, h1, by omega, h3, h4, h5⟩, h.free, h.lt⟩

theorem xor_low (x : Int) (h0 : 0 ≤ x) (h1 : x ≤ 4611686018427387904) : 0 ≤ bits .xor .i64 x (x / 64) ∧ bits .xor .i64 x (x / 64) < 9223372036854775808 := by
  obtain ⟨a, rfl⟩ := Int.eq_ofNat_of_zero_le h0
  obtain ⟨b, hb⟩ : ∃ b : Nat, ((a : Int) / 64) = (b : Int) := ⟨a / 64, by omega⟩
  rw [hb]
  have ha : a < 2 ^ 63 := by omega
  have hb' : b < 2 ^ 63 := by omega
  have hx : a ^^^ b < 2 ^ 63 := Nat.xor_lt_two_pow ha hb'
  have e : bits .xor .i64 (a : Int) (b : Int) = ((a ^^^ b : Nat) : Int) := by
    show IntKind.i64.wrap ((BitVec.ofInt 64 (a : Int) ^^^ BitVec.ofInt 64 (b : Int)).toNat : Int) = _
    rw [BitVec.toNat_xor, BitVec.ofInt_natCast, BitVec.toNat_ofNat, BitVec.ofInt_natCast, BitVec.toNat_ofNat, Nat.mod_eq_of_lt (by omega), Nat.mod_eq_of_lt (by omega), IntKind.wrap_i64]
    omega
  rw [e]
  constructor <;> omega

theorem rd_put {W w : World} {g q n cap p : Nat} {a : Option Addr} (hnew : W.heap.size ≤ g) (hbel : Below W.heap.size W w) (hn : n ≤ 2000) (hp : p ≤ q) (hby : Bytes W a n)
    (h0 : w.cell? ⟨g, 0, none⟩ = some (.slice a n cap)) (h1 : w.cell? ⟨g, 1, none⟩ = some (.int .i64 p)) (hfr : w.frozen? ⟨g, 1, none⟩ = false) (hlt : g < w.heap.size) (k : Nat) :
    Rd W ((w.setCell ⟨g, 1, none⟩ (.int .i64 ((p : Int) + 1))).drewN k) g (q + 1) ∧ w.grownBy ((w.setCell ⟨g, 1, none⟩ (.int .i64 ((p : Int) + 1))).drewN k) (some g) := by
  refine ⟨⟨hnew, ?_, ⟨a, n, cap, p + 1, hn, by omega, hby, by go_simp, by go_simp⟩, by go_simp, by simpa [World.setCell] using hlt⟩, ?_⟩
  · have hb := hbel.setCell (p := ⟨g, 1, none⟩) hnew (.int .i64 ((p : Int) + 1))
    exact ⟨hb.os, hb.tape, hb.output, hb.size, hb.block⟩
  · have hb := Below.refl g w
    have hb2 := hb.setCell (p := ⟨g, 1, none⟩) (Nat.le_refl _) (.int .i64 ((p : Int) + 1))
    exact ⟨hb2.os, hb2.tape, hb2.output, hb2.size, fun i hi hne => Below.heap_setCell w _ _ i (fun e => hne (by rw [e]))⟩

/-- A list of numbers in a block that is not the source's. -/
def RowN (w : World) (g : Nat) (s : Value) (zs : List Int) : Prop :=
  ∃ b off cap, s = .slice (some ⟨b, off, none⟩) zs.length cap ∧ b < w.heap.size ∧ b ≠ g ∧ ∀ i, i < zs.length → w.cell? ⟨b, off + i, none⟩ = some (.int .i64 (zs.getD i 0))
theorem rowN_built (zs : List Int) (w : World) (g : Nat) (t : TypeId) (hg : g < w.heap.size) :
    RowN (w.alloc (.cells (zs.map (Value.int .i64)).toArray t)) g (.slice (some ⟨w.heap.size, 0, none⟩) zs.length zs.length) zs := by
  refine ⟨_, 0, _, rfl, by simp, by omega, fun i hi => ?_⟩
  have e : (w.alloc (.cells (zs.map (Value.int .i64)).toArray t)).heap[w.heap.size]? = some (.cells (zs.map (Value.int .i64)).toArray t) := (MapKept.heap_alloc w _).1
  unfold World.cell?
  simp only [e]
  simp [hi, List.getD]

end Go.Proofs.Ytdlnekfifogcaaa
namespace Go.Proofs.Ytdlnekfifogcaaa
open Go.RowKit Go.BigFrame Go.Deep
set_option linter.unusedVariables false
set_option linter.unusedSimpArgs false
set_option linter.unnecessarySimpa false

theorem g_alloc {a w : World} {g : Nat} (h : a.grownBy w (some g)) (o : Obj) : a.grownBy (w.alloc o) (some g) := grown_trans' h (grown_below ((Below.refl _ _).alloc (Nat.le_refl _) _))
theorem g_drew {a w : World} {g : Nat} (h : a.grownBy w (some g)) : a.grownBy w.drew (some g) := grown_trans' h (grown_below ((Below.refl _ _).drew))
theorem g_below {a w w' : World} {g : Nat} (h : a.grownBy w (some g)) (hb : Below w.heap.size w w') : a.grownBy w' (some g) := grown_trans' h (grown_below hb)
theorem g_chg {a w w' : World} {g lo hi : Nat} (h : a.grownBy w (some g)) (c : Chg lo hi w w') (hl : a.heap.size ≤ lo) : a.grownBy w' (some g) :=
  ⟨c.os.trans h.os, c.tape.trans h.tape, c.output.trans h.output, Nat.le_trans h.size c.size, fun i hi hne => (c.block i (Nat.lt_of_lt_of_le hi h.size) (.inl (by omega))).trans (h.block i hi hne)⟩
theorem g_set {a w : World} {g b k : Nat} {v : Value} (h : a.grownBy w (some g)) (hl : a.heap.size ≤ b) : a.grownBy (w.setCell ⟨b, k, none⟩ v) (some g) :=
  ⟨h.os, h.tape, h.output, by simpa using h.size, fun i hi hne => (Below.heap_setCell w _ _ i (by simp only; omega)).trans (h.block i hi hne)⟩
theorem g_chgG {a w : World} {g : Nat} (h : a.grownBy w (some g)) : Chg g (g + 1) a w := ⟨h.os, h.tape, h.output, h.size, fun k hk hd => h.block k hk (by intro e; injection e with e; omega)⟩
theorem Rd.alloc' {W w : World} {g q : Nat} (h : Rd W w g q) (o : Obj) : Rd W (w.alloc o) g q := h.keep ((Below.refl _ _).alloc (Nat.le_refl _) _)
theorem Rd.drew' {W w : World} {g q : Nat} (h : Rd W w g q) : Rd W w.drew g q := h.keep ((Below.refl _ _).drew)
theorem Rd.set' {W w : World} {g q b k : Nat} (h : Rd W w g q) (hb : g < b) (hw : W.heap.size ≤ b) (v : Value) : Rd W (w.setCell ⟨b, k, none⟩ v) g q := by
  obtain ⟨a, n, cap, p, h1, h2, h3, h4, h5⟩ := h.cells
  have hk : (w.setCell ⟨b, k, none⟩ v).heap[g]? = w.heap[g]? := Below.heap_setCell w _ _ g (by simp only; omega)
  exact ⟨h.new, h.bel.setCell hw _, ⟨a, n, cap, p, h1, h2, h3, by rw [World.cell?_of_block (a := ⟨g, 0, none⟩) hk]; exact h4, by rw [World.cell?_of_block (a := ⟨g, 1, none⟩) hk]; exact h5⟩,
    by rw [World.frozen?_of_block (a := ⟨g, 1, none⟩) hk]; exact h.free, by simpa using h.lt⟩
theorem grown_frozen {w w' : World} {g : Nat} (h : w.grownBy w' (some g)) {b o : Nat} (hb : b < w.heap.size) (hne : b ≠ g) : w'.frozen? ⟨b, o, none⟩ = w.frozen? ⟨b, o, none⟩ :=
  World.frozen?_of_block (h.block b hb (fun e => hne (by injection e)))
theorem okS_none : okS (.slice none 0 0) := by
  intro a n c e
  injection e with e1 e2 e3
  subst e1 e2 e3
  exact ⟨Nat.le_refl _, fun _ => rfl, fun x h => by cases h⟩
theorem RowN.grown {w w' : World} {g : Nat} {s : Value} {zs : List Int} (h : RowN w g s zs) (hg : w.grownBy w' (some g)) : RowN w' g s zs := by
  obtain ⟨b, off, cap, h1, h2, h3, h4⟩ := h
  exact ⟨b, off, cap, h1, Nat.lt_of_lt_of_le h2 hg.size, h3, fun i hi => by rw [grown_cell hg h2 h3]; exact h4 i hi⟩
theorem Box.grownG {w w' : World} {g B : Nat} {t : TypeId} {cs : Array Value} (h : Box w B t cs) (hg : w.grownBy w' (some g)) (hne : B ≠ g) : Box w' B t cs := (hg.block B h.lt (by intro e; injection e with e; exact hne e)).trans h

theorem size_drew' (w : World) : w.drew.heap.size = w.heap.size := rfl
theorem rowN_at (zs : List Int) (w : World) (g : Nat) (t : TypeId) (b : Nat) (hb : b = w.heap.size) (hg : g < w.heap.size) :
    RowN (w.alloc (.cells (zs.map (Value.int .i64)).toArray t)) g (.slice (some ⟨b, 0, none⟩) zs.length zs.length) zs := by
  subst hb
  exact rowN_built zs w g t hg
/-- A valid graph in a box at B, its row from base on, away from the box. -/
def GMid (base B : Nat) (w : World) : Prop :=
  ∃ (n : Int) (es : List Ed) (va : Option Addr) (vc lo hi : Nat), Box w B 31 #[.int .i64 n, .slice va es.length vc] ∧ gVal n es = true ∧ InR true w lo hi (.slice va es.length vc) es.length 3 (cellE es) ∧ okS (.slice va es.length vc) ∧ base ≤ lo ∧ hi ≤ w.heap.size ∧ (hi ≤ B ∨ B + 1 ≤ lo)
/-- An edge in a box that is new since w. -/
def EMid (W w wx : World) (g q : Nat) (p : Value) : Prop :=
  ∃ (x y z : Int) (e : Nat), p = .pointer (some ⟨e, 0, none⟩) ∧ (wx.cell? ⟨e, 0, none⟩ = some (.int .i64 x) ∧ wx.cell? ⟨e, 1, none⟩ = some (.int .i64 y) ∧ wx.cell? ⟨e, 2, none⟩ = some (.int .i64 z)) ∧ (w.heap.size ≤ e ∧ e < wx.heap.size) ∧ Rd W wx g q ∧ w.grownBy wx (some g)
/-- What is drawn. -/
def DrawnG (W w : World) (g q : Nat) (e : Ending) (w' : World) : Prop :=
  ∃ (n : Int) (es : List Ed) (v : Value), e = .returned (.agg #[.int .i64 n, v]) ∧ gVal n es = true ∧ InR true w' w.heap.size w'.heap.size v es.length 3 (cellE es) ∧ okS v ∧ Rd W w' g q ∧ w.grownBy w' (some g)

end Go.Proofs.Ytdlnekfifogcaaa
namespace Go.Proofs.Ytdlnekfifogcaaa
set_option linter.unusedVariables false
set_option linter.unusedSimpArgs false

/-- Every operation waits for earlier ones only. -/
def fwdB (ops : Array Oper) : Bool := (List.range ops.size).all fun i => match ops[i]? with
  | some o => o.after.all fun e => !Region.binds .any e || decide (e.on < i)
  | none => true
theorem ready_nil {ops : Array Oper} {L : Array Bool} (hf : fwdB ops = true) (hs : L.size = ops.size) (h0 : Region.ready .any ops L = []) : ∀ i, i < ops.size → L.getD i true = true := by
  intro i
  induction i using Nat.strongRecOn with
  | _ i ih =>
    intro hi
    cases hc : L.getD i true with
    | true => rfl
    | false =>
      have ho : ops[i]? = some ops[i] := Array.getElem?_eq_getElem hi
      have hm : i ∈ Region.ready .any ops L := by
        refine mem_ready.2 ⟨hc, _, ho, fun e he hbd => ?_⟩
        have h1 := List.all_eq_true.1 hf i (List.mem_range.2 hi)
        simp only [ho] at h1
        have h2 := Array.all_eq_true_iff_forall_mem.1 h1 e he
        have h3 : e.on < i := by simpa [hbd] using h2
        have h4 := ih e.on h3 (by omega)
        have h5 : e.on < L.size := by omega
        simpa [h5] using h4
      rw [h0] at hm
      cases hm
section
variable {P : Program} {ops : Array Oper} {Q : Exit → Act → World → Prop}
theorem wpAny_inv (I : Array Bool → Act → World → Prop) (hf : fwdB ops = true)
    (hstep : ∀ L a w, L.size = ops.size → I L a w → ∀ i o, ops[i]? = some o → L.getD i true = false → (∀ e ∈ o.after, Region.binds .any e = true → L.getD e.on false = true) → wpOp P ops Q i (fun a' w' => I (L.setIfInBounds i true) a' w') a w)
    (hend : ∀ L a w, L.size = ops.size → I L a w → (∀ i, i < ops.size → L.getD i true = true) → Q .normal a w) :
    ∀ (fuel : Nat) (L : Array Bool) (a : Act) (w : World), L.size = ops.size → (List.range ops.size).countP (fun i => !L.getD i true) ≤ fuel → I L a w → wpAny P .any ops Q fuel L a w
  | 0, L, a, w, hs, hc, hI => by
    have hz : (List.range ops.size).countP (fun i => !L.getD i true) = 0 := by omega
    have hall : ∀ i, i < ops.size → L.getD i true = true := fun i hi => by
      have := List.countP_eq_zero.1 hz i (List.mem_range.2 hi)
      simpa using this
    refine ⟨?_, hend L a w hs hI hall⟩
    cases hr : Region.ready .any ops L with
    | nil => rfl
    | cons x xs =>
      have hx : x ∈ Region.ready .any ops L := by rw [hr]; exact List.mem_cons_self
      obtain ⟨h1, o, h2, _⟩ := mem_ready.1 hx
      have := hall x (Array.getElem?_eq_some_iff.1 h2).1
      rw [h1] at this
      cases this
  | fuel + 1, L, a, w, hs, hc, hI => by
    refine ⟨fun h => hend L a w hs hI (ready_nil hf hs h), fun i hi => ?_⟩
    obtain ⟨h1, o, h2, h3⟩ := mem_ready.1 hi
    have hlt : i < ops.size := (Array.getElem?_eq_some_iff.1 h2).1
    refine wpOp_mono (fun a' w' h' => wpAny_inv I hf hstep hend fuel _ a' w' (by simpa using hs) ?_ h') (hstep L a w hs hI i o h2 h1 h3)
    have hle : (List.range ops.size).countP (fun j => !(L.setIfInBounds i true).getD j true) + 1 ≤ (List.range ops.size).countP (fun j => !L.getD j true) := by
      have key : ∀ (l : List Nat), i ∈ l → l.countP (fun j => !(L.setIfInBounds i true).getD j true) + 1 ≤ l.countP (fun j => !L.getD j true) ∧ True := by
        intro l
        have hge : ∀ l : List Nat, l.countP (fun j => !(L.setIfInBounds i true).getD j true) ≤ l.countP (fun j => !L.getD j true) := by
          intro l
          refine List.countP_mono_left (fun j _ hj => ?_)
          by_cases e : i = j
          · subst e; rw [h1]; rfl
          · rw [getD_set_ne true e] at hj; exact hj
        induction l with
        | nil => intro h; cases h
        | cons x xs ih =>
          intro h
          refine ⟨?_, trivial⟩
          rw [List.countP_cons, List.countP_cons]
          have hx : (if (!(L.setIfInBounds i true).getD x true) = true then 1 else 0) ≤ (if (!L.getD x true) = true then 1 else 0 : Nat) := by
            by_cases e : i = x
            · subst e; rw [h1]; split <;> simp
            · rw [getD_set_ne true e]; exact Nat.le_refl _
          rcases List.mem_cons.1 h with e | e
          · have h5 := hge xs
            have hlL : i < L.size := by omega
            have h6 : (L.setIfInBounds i true).getD x true = true := by rw [← e]; simp [hlL]
            have h7 : L.getD x true = false := by rw [← e]; exact h1
            have e6 : (if (!(L.setIfInBounds i true).getD x true) = true then 1 else 0 : Nat) = 0 := by rw [h6]; rfl
            have e7 : (if (!L.getD x true) = true then 1 else 0 : Nat) = 1 := by rw [h7]; rfl
            rw [e6, e7]
            omega
          · have := (ih e).1
            omega
      exact (key _ (List.mem_range.2 hlt)).1
    omega

/-- **A region that draws its order**: what holds at first, is kept by each operation that may come up, and tells at the end what is wanted. -/
theorem wp_region_inv {id : Nat} {a : Act} {w : World} (I : Array Bool → Act → World → Prop) (hm : P.follows .mixedOrders = true) (hf : fwdB ops = true)
    (h0 : I (Array.replicate ops.size false) a { w with drawn := w.drawn + 1 })
    (hstep : ∀ L a w, L.size = ops.size → I L a w → ∀ i o, ops[i]? = some o → L.getD i true = false → (∀ e ∈ o.after, Region.binds .any e = true → L.getD e.on false = true) → wpOp P ops Q i (fun a' w' => I (L.setIfInBounds i true) a' w') a w)
    (hend : ∀ L a w, L.size = ops.size → I L a w → (∀ i, i < ops.size → L.getD i true = true) → Q .normal a w) : (Code.region id ops true).wp P Q a w :=
  wp_region_any hm (wpAny_inv I hf hstep hend ops.size _ a _ (by simp) (by
    have := List.countP_le_length (p := fun i => !(Array.replicate ops.size false).getD i true) (l := List.range ops.size)
    simpa using this) h0)
end
end Go.Proofs.Ytdlnekfifogcaaa
namespace Go.Proofs.Ytdlnekfifogcaaa
open Go.RowKit Go.BigFrame Go.Deep
set_option linter.unusedVariables false
set_option linter.unusedSimpArgs false
set_option linter.unnecessarySimpa false

theorem InR.set8 {fz : Bool} {w : World} {lo hi B k : Nat} {s u : Value} {n sz : Nat} {cs : Nat → Value} (r : InR fz w lo hi s n sz cs) (hB : B < lo) : InR fz (w.setCell ⟨B, k, none⟩ u) lo hi s n sz cs :=
  r.chg (l := B) (h := B + 1) ((Chg.refl B (B + 1) w).setCell (p := ⟨B, k, none⟩) (by simp) (by simp) u) (.inl hB)
/-- What stands in a slot: the value that has come up, or what was there. -/
def sel (b : Bool) (v u : Value) : Value := bif b then v else u
theorem sel_t (v u : Value) : sel true v u = v := rfl
theorem sel_f (v u : Value) : sel false v u = u := rfl

end Go.Proofs.Ytdlnekfifogcaaa
namespace Go.Proofs.Ytdlnekfifogcaaa
open Go.RowKit Go.BigFrame Go.Deep
set_option linter.unusedVariables false
set_option linter.unusedSimpArgs false
set_option linter.unnecessarySimpa false

/-- append of nothing to a slice of the call's own, as one step of a region that draws. -/
theorem step_append_own_none {P : Program} {ops : Array Oper} {o : Oper} {a : Act} {w : World} {K : Act → World → Prop} {Q : Exit → Act → World → Prop} {E : Prop}
    (hg : o.guard = none) (s x : Operand) (t : TypeId) (ho : o.op = .call { callee := .builtin .append, args := #[s, x], argTypes := #[t, t] })
    (base : Nat) (e : TypeId) (i : TypeInfo) (size : Nat) (ht : P.underlying t = some (.slice e)) (hi : P.info? e = some i)
    (v : Value) (n : Nat) (xs : List Value) (hs : a.eval s = v) (hown : w.ownsRow base e size v n xs) (hx : a.eval x = .slice none 0 0) (h : K (a.put o.dst v) w) :
    if Region.wanted o (yielded ops a.tmps) = true then Oper.wp P o a w K Q else E := by
  have hw : Region.wanted o (yielded ops a.tmps) = true := by simp [Region.wanted, hg]
  rw [if_pos hw]
  have hrun := run_append_owned_none (P := P) (w := w) base t o.type e i size ht hi v n xs hown
  unfold Oper.wp
  simp [execOp, ho, resolve, invoke, builtin, hs, hx, hrun, Result.andThen]
  exact h
theorem news_of {w : World} {ad : Addr} {n c : Nat} {es : List Ed} (h : RowE w (.slice (some ad) n c) es) : ∀ j u, (cellsE es)[j]? = some u → w.cell? (ad.add j) = some u := by
  intro j u hu
  obtain ⟨hj, rfl⟩ := cellsE_get es j u hu
  obtain ⟨_, _, e, hz⟩ := h
  injection e with e1 e2 e3
  rcases hz with h0 | ⟨b, off, rfl, hb, hc⟩
  · rw [h0] at hj; simp at hj
  · injection e1 with e1
    subst e1
    obtain ⟨c0, c1, c2⟩ := hc (j / 3) (by omega)
    have h3 : j % 3 = 0 ∨ j % 3 = 1 ∨ j % 3 = 2 := by omega
    rcases h3 with h | h | h
    · have ej : j = j / 3 * 3 := by omega
      have : ((⟨b, off, none⟩ : Addr).add j) = ⟨b, off + j / 3 * 3, none⟩ := by rw [Addr.add_lit]; congr 1; omega
      rw [this, c0, ← cellE0]; congr 1; congr 1; omega
    · have : ((⟨b, off, none⟩ : Addr).add j) = ⟨b, off + j / 3 * 3 + 1, none⟩ := by rw [Addr.add_lit]; congr 1; omega
      rw [this, c1, ← cellE1]; congr 1; congr 1; omega
    · have : ((⟨b, off, none⟩ : Addr).add j) = ⟨b, off + j / 3 * 3 + 2, none⟩ := by rw [Addr.add_lit]; congr 1; omega
      rw [this, c2, ← cellE2]; congr 1; congr 1; omega
set_option maxRecDepth 20000 in
set_option maxHeartbeats 4000000 in
theorem l2Copy (n : Int) (es : List Ed) (s : Value) (w : World) (hs : RowE w s es) (hok : okS s) (hl : es.length ≤ 1048576) :
    Calls Try.prog 50 #[.agg #[.int .i64 n, s]] w fun e w' => ∃ v, e = .returned (.agg #[.int .i64 n, v]) ∧ w'.ownsRow (w.heap.size + 1) 69 3 v es.length (cellsE es) ∧ Below w.heap.size w w' := by
  obtain ⟨ad, cap, rfl, hz0⟩ := id hs
  obtain ⟨i0, hi, hz0', hz1, hz2⟩ := info_parts info_edge
  have HI : Hid (Try.prog.info? 69 = some i0 ∧ i0.zero = some (.agg #[.int .i64 0, .int .i64 0, .int .i64 0]) ∧ i0.size = 3 ∧ i0.bytes = 24) := Lib.hid ⟨hi, hz0', hz1, hz2⟩
  have hb2 : Below w.heap.size w ((w.alloc (.cells #[.int .i64 n, .slice ad es.length cap] 31)).alloc (.cells #[.int .i64 0, .slice none 0 0] 31)) := ((Below.refl _ _).alloc (Nat.le_refl _) _).alloc (by simp) _
  have hx0 : Box ((w.alloc (.cells #[.int .i64 n, .slice ad es.length cap] 31)).alloc (.cells #[.int .i64 0, .slice none 0 0] 31)) w.heap.size 31 #[.int .i64 n, .slice ad es.length cap] := (Box.new w _ _).alloc _
  have hx1 : Box ((w.alloc (.cells #[.int .i64 n, .slice ad es.length cap] 31)).alloc (.cells #[.int .i64 0, .slice none 0 0] 31)) (w.heap.size + 1) 31 #[.int .i64 0, .slice none 0 0] := by
    have := Box.new (w.alloc (.cells #[.int .i64 n, .slice ad es.length cap] 31)) 31 #[.int .i64 0, .slice none 0 0]
    simpa using this
  have K0 := Lib.hid (And.intro hb2.drew (And.intro hx0.drew hx1.drew))
  have HS := Lib.hid hs
  obtain ⟨ho1, ho2, ho3⟩ := hok _ _ _ rfl
  clear hz0 hi hz0' hz1 hz2 hb2 hx0 hx1
  cases ad with
  | none =>
    have hes : es = [] := by
      obtain ⟨_, _, e, hz⟩ := hs
      injection e with e1 e2 e3
      subst e1
      rcases hz with h | ⟨b, off, h, _⟩
      · exact h
      · cases h
    have hcap : cap = 0 := ho2 rfl
    subst hes hcap
    clear hs ho1 ho2 ho3
    go_enter Try.func50, Try.ntmps50
    go_wp2_with fail
    generalize ((w.alloc (.cells #[.int .i64 n, .slice none ([] : List Ed).length 0] 31)).alloc (.cells #[.int .i64 0, .slice none 0 0] 31)) = W1 at K0 ⊢

    refine wp_region_inv (fun L a w' => ∃ (b0 b1 b2 b3 b4 b5 b6 b7 : Bool) (y : Nat) (va : Option Addr) (vc : Nat), L = #[b0, b1, b2, b3, b4, b5, b6, b7] ∧ a = { tmps := #[Value.agg #[.int .i64 n, Value.slice none ([] : List Ed).length 0], Value.pointer (some ⟨w.heap.size, 0, none⟩), Value.pointer (some ⟨w.heap.size + 1, 0, none⟩), sel b0 (Value.pointer (some ⟨w.heap.size, 0, none⟩)) undef, sel b1 (Value.int .i64 n) undef, sel b2 (Value.slice (some ⟨y, 0, none⟩) 0 0) undef, sel b3 (Value.pointer (some ⟨w.heap.size, 1, none⟩)) undef, sel b4 (Value.slice none ([] : List Ed).length 0) undef, sel b5 (Value.slice va ([] : List Ed).length vc) undef, sel b6 (Value.agg #[.int .i64 n, .slice va ([] : List Ed).length vc]) undef], defers := [] } ∧ Hid ((Below w.heap.size w w') ∧ (Box w' w.heap.size 31 #[.int .i64 n, Value.slice none ([] : List Ed).length 0]) ∧ (b7 = false → Box w' (w.heap.size + 1) 31 #[.int .i64 0, .slice none 0 0]) ∧ (b2 = true → b5 = false → w'.ownsRow (w.heap.size + 2) 69 3 (.slice (some ⟨y, 0, none⟩) 0 0) 0 []) ∧ (b5 = true → w'.ownsRow (w.heap.size + 2) 69 3 (.slice va ([] : List Ed).length vc) ([] : List Ed).length (cellsE [])) ∧ (b7 = true → Box w' (w.heap.size + 1) 31 #[.int .i64 n, .slice va ([] : List Ed).length vc]) ∧ (b1 = true → (b0) = true) ∧ (b4 = true → (b3) = true) ∧ (b5 = true → (b2 && b4) = true) ∧ (b6 = true → (b1 && b5) = true) ∧ (b7 = true → (b0 && b1 && b2 && b3 && b4 && b5 && b6) = true))) (by kernel_rfl) (by kernel_rfl) ?_ ?_ ?_
    · exact ⟨false, false, false, false, false, false, false, false, 0, none, 0, rfl, rfl, Lib.hid ⟨K0.out.1, K0.out.2.1, (fun _ => K0.out.2.2), (fun h => absurd h (by decide)), (fun h => absurd h (by decide)), (fun h => absurd h (by decide)), (fun h => absurd h (by decide)), (fun h => absurd h (by decide)), (fun h => absurd h (by decide)), (fun h => absurd h (by decide)), (fun h => absurd h (by decide))⟩⟩
    · rintro L a w' hL ⟨b0, b1, b2, b3, b4, b5, b6, b7, y, va, vc, rfl, rfl, HF⟩ k9 o9 ho hl hd
      have hk9 : k9 = 0 ∨ k9 = 1 ∨ k9 = 2 ∨ k9 = 3 ∨ k9 = 4 ∨ k9 = 5 ∨ k9 = 6 ∨ k9 = 7 := by have := (Array.getElem?_eq_some_iff.1 ho).1; simp at this; omega
      rcases hk9 with rfl | rfl | rfl | rfl | rfl | rfl | rfl | rfl
      · obtain rfl := Option.some.inj ho
        have hc0 : b0 = false := hl
        subst hc0
        have hc1 : b1 = false := by cases hx9 : b1 with | false => rfl | true => (have hy9 := HF.out.2.2.2.2.2.2.1 hx9; simp at hy9)
        subst hc1
        have hc6 : b6 = false := by cases hx9 : b6 with | false => rfl | true => (have hy9 := HF.out.2.2.2.2.2.2.2.2.2.1 hx9; simp at hy9)
        subst hc6
        have hc7 : b7 = false := by cases hx9 : b7 with | false => rfl | true => (have hy9 := HF.out.2.2.2.2.2.2.2.2.2.2 hx9; simp at hy9)
        subst hc7
        clear hl hd ho hL
        simp only [sel_t, sel_f]
        refine wpOp_step rfl ?_
        intro K' hK'
        go_simp
        exact hK' _ _ ⟨true, false, b2, b3, b4, b5, false, false, y, va, vc, rfl, rfl, Lib.hid ⟨HF.out.1, HF.out.2.1, HF.out.2.2.1, HF.out.2.2.2.1, HF.out.2.2.2.2.1, HF.out.2.2.2.2.2.1, (fun h => absurd h (by decide)), HF.out.2.2.2.2.2.2.2.1, HF.out.2.2.2.2.2.2.2.2.1, (fun h => absurd h (by decide)), (fun h => absurd h (by decide))⟩⟩
      · obtain rfl := Option.some.inj ho
        have hc1 : b1 = false := hl
        have hc0 : b0 = true := by first | (refine hd ⟨0, .data⟩ ?_ rfl; simp; done) | (refine hd ⟨0, .chain⟩ ?_ rfl; simp; done) | (refine hd ⟨0, .phase⟩ ?_ rfl; simp; done)
        subst hc1 hc0
        have hc6 : b6 = false := by cases hx9 : b6 with | false => rfl | true => (have hy9 := HF.out.2.2.2.2.2.2.2.2.2.1 hx9; simp at hy9)
        subst hc6
        have hc7 : b7 = false := by cases hx9 : b7 with | false => rfl | true => (have hy9 := HF.out.2.2.2.2.2.2.2.2.2.2 hx9; simp at hy9)
        subst hc7
        clear hl hd ho hL
        simp only [sel_t, sel_f]
        have x0 : w'.cell? ⟨w.heap.size, 0, none⟩ = some (.int .i64 n) := by simpa using HF.out.2.1.cell 0
        refine wpOp_step rfl ?_
        intro K' hK'
        go_simp
        exact hK' _ _ ⟨true, true, b2, b3, b4, b5, false, false, y, va, vc, rfl, rfl, Lib.hid ⟨HF.out.1, HF.out.2.1, HF.out.2.2.1, HF.out.2.2.2.1, HF.out.2.2.2.2.1, HF.out.2.2.2.2.2.1, (fun _ => rfl), HF.out.2.2.2.2.2.2.2.1, HF.out.2.2.2.2.2.2.2.2.1, (fun h => absurd h (by decide)), (fun h => absurd h (by decide))⟩⟩
      · obtain rfl := Option.some.inj ho
        have hc2 : b2 = false := hl
        subst hc2
        have hc5 : b5 = false := by cases hx9 : b5 with | false => rfl | true => (have hy9 := HF.out.2.2.2.2.2.2.2.2.1 hx9; simp at hy9)
        subst hc5
        have hc6 : b6 = false := by cases hx9 : b6 with | false => rfl | true => (have hy9 := HF.out.2.2.2.2.2.2.2.2.2.1 hx9; simp at hy9)
        subst hc6
        have hc7 : b7 = false := by cases hx9 : b7 with | false => rfl | true => (have hy9 := HF.out.2.2.2.2.2.2.2.2.2.2 hx9; simp at hy9)
        subst hc7
        clear hl hd ho hL
        simp only [sel_t, sel_f]
        have hsz : w.heap.size + 2 ≤ w'.heap.size := (HF.out.2.2.1 rfl).lt
        refine wpOp_step rfl ?_
        intro K' hK'
        go_simp
        exact hK' _ _ ⟨b0, b1, true, b3, b4, false, false, false, w'.heap.size, va, vc, rfl, rfl, Lib.hid ⟨(bel_trans HF.out.1 ((Below.refl _ _).alloc (Nat.le_refl _) _)), (HF.out.2.1.alloc _), (fun h => (HF.out.2.2.1 h).alloc _), (fun _ _ => own_empty3 w' 69 3 (w.heap.size + 2) hsz), (fun h => absurd h (by decide)), (fun h => absurd h (by decide)), HF.out.2.2.2.2.2.2.1, HF.out.2.2.2.2.2.2.2.1, (fun h => absurd h (by decide)), (fun h => absurd h (by decide)), (fun h => absurd h (by decide))⟩⟩
      · obtain rfl := Option.some.inj ho
        have hc3 : b3 = false := hl
        subst hc3
        have hc4 : b4 = false := by cases hx9 : b4 with | false => rfl | true => (have hy9 := HF.out.2.2.2.2.2.2.2.1 hx9; simp at hy9)
        subst hc4
        have hc5 : b5 = false := by cases hx9 : b5 with | false => rfl | true => (have hy9 := HF.out.2.2.2.2.2.2.2.2.1 hx9; simp at hy9)
        subst hc5
        have hc6 : b6 = false := by cases hx9 : b6 with | false => rfl | true => (have hy9 := HF.out.2.2.2.2.2.2.2.2.2.1 hx9; simp at hy9)
        subst hc6
        have hc7 : b7 = false := by cases hx9 : b7 with | false => rfl | true => (have hy9 := HF.out.2.2.2.2.2.2.2.2.2.2 hx9; simp at hy9)
        subst hc7
        clear hl hd ho hL
        simp only [sel_t, sel_f]
        refine wpOp_step rfl ?_
        intro K' hK'
        go_simp
        exact hK' _ _ ⟨b0, b1, b2, true, false, false, false, false, y, va, vc, rfl, rfl, Lib.hid ⟨HF.out.1, HF.out.2.1, HF.out.2.2.1, HF.out.2.2.2.1, HF.out.2.2.2.2.1, HF.out.2.2.2.2.2.1, HF.out.2.2.2.2.2.2.1, (fun h => absurd h (by decide)), (fun h => absurd h (by decide)), (fun h => absurd h (by decide)), (fun h => absurd h (by decide))⟩⟩
      · obtain rfl := Option.some.inj ho
        have hc4 : b4 = false := hl
        have hc3 : b3 = true := by first | (refine hd ⟨3, .data⟩ ?_ rfl; simp; done) | (refine hd ⟨3, .chain⟩ ?_ rfl; simp; done) | (refine hd ⟨3, .phase⟩ ?_ rfl; simp; done)
        subst hc4 hc3
        have hc5 : b5 = false := by cases hx9 : b5 with | false => rfl | true => (have hy9 := HF.out.2.2.2.2.2.2.2.2.1 hx9; simp at hy9)
        subst hc5
        have hc6 : b6 = false := by cases hx9 : b6 with | false => rfl | true => (have hy9 := HF.out.2.2.2.2.2.2.2.2.2.1 hx9; simp at hy9)
        subst hc6
        have hc7 : b7 = false := by cases hx9 : b7 with | false => rfl | true => (have hy9 := HF.out.2.2.2.2.2.2.2.2.2.2 hx9; simp at hy9)
        subst hc7
        clear hl hd ho hL
        simp only [sel_t, sel_f]
        have x0 : w'.cell? ⟨w.heap.size, 1, none⟩ = some (Value.slice none ([] : List Ed).length 0) := by simpa using HF.out.2.1.cell 1
        refine wpOp_step rfl ?_
        intro K' hK'
        go_simp
        exact hK' _ _ ⟨b0, b1, b2, true, true, false, false, false, y, va, vc, rfl, rfl, Lib.hid ⟨HF.out.1, HF.out.2.1, HF.out.2.2.1, HF.out.2.2.2.1, HF.out.2.2.2.2.1, HF.out.2.2.2.2.2.1, HF.out.2.2.2.2.2.2.1, (fun _ => rfl), (fun h => absurd h (by decide)), (fun h => absurd h (by decide)), (fun h => absurd h (by decide))⟩⟩
      · obtain rfl := Option.some.inj ho
        have hc5 : b5 = false := hl
        have hc2 : b2 = true := by first | (refine hd ⟨2, .data⟩ ?_ rfl; simp; done) | (refine hd ⟨2, .chain⟩ ?_ rfl; simp; done) | (refine hd ⟨2, .phase⟩ ?_ rfl; simp; done)
        have hc4 : b4 = true := by first | (refine hd ⟨4, .data⟩ ?_ rfl; simp; done) | (refine hd ⟨4, .chain⟩ ?_ rfl; simp; done) | (refine hd ⟨4, .phase⟩ ?_ rfl; simp; done)
        subst hc5 hc2 hc4
        have hc6 : b6 = false := by cases hx9 : b6 with | false => rfl | true => (have hy9 := HF.out.2.2.2.2.2.2.2.2.2.1 hx9; simp at hy9)
        subst hc6
        have hc7 : b7 = false := by cases hx9 : b7 with | false => rfl | true => (have hy9 := HF.out.2.2.2.2.2.2.2.2.2.2 hx9; simp at hy9)
        subst hc7
        clear hl hd ho hL
        simp only [sel_t, sel_f]
        have ho0 := HF.out.2.2.2.1 rfl rfl
        obtain ⟨hi, hz0, hz1, hz2⟩ := HI.out
        refine wpOp_step rfl ?_
        intro K' hK'
        refine step_append_own_none rfl (.tmp 5) (.tmp 7) 29 rfl (w.heap.size + 2) 69 i0 3 Try.underlying29 hi _ _ _ rfl ho0 rfl ?_
        exact hK' _ _ ⟨b0, b1, true, b3, true, true, false, false, y, (some ⟨y, 0, none⟩), 0, rfl, rfl, Lib.hid ⟨HF.out.1, HF.out.2.1, HF.out.2.2.1, (fun _ h => absurd h (by decide)), (fun _ => ho0), (fun h => absurd h (by decide)), HF.out.2.2.2.2.2.2.1, HF.out.2.2.2.2.2.2.2.1, (fun _ => rfl), (fun h => absurd h (by decide)), (fun h => absurd h (by decide))⟩⟩
      · obtain rfl := Option.some.inj ho
        have hc6 : b6 = false := hl
        have hc1 : b1 = true := by first | (refine hd ⟨1, .data⟩ ?_ rfl; simp; done) | (refine hd ⟨1, .chain⟩ ?_ rfl; simp; done) | (refine hd ⟨1, .phase⟩ ?_ rfl; simp; done)
        have hc5 : b5 = true := by first | (refine hd ⟨5, .data⟩ ?_ rfl; simp; done) | (refine hd ⟨5, .chain⟩ ?_ rfl; simp; done) | (refine hd ⟨5, .phase⟩ ?_ rfl; simp; done)
        subst hc6 hc1 hc5
        have hc7 : b7 = false := by cases hx9 : b7 with | false => rfl | true => (have hy9 := HF.out.2.2.2.2.2.2.2.2.2.2 hx9; simp at hy9)
        subst hc7
        clear hl hd ho hL
        simp only [sel_t, sel_f]
        refine wpOp_step rfl ?_
        intro K' hK'
        go_simp
        exact hK' _ _ ⟨b0, true, b2, b3, b4, true, true, false, y, va, vc, rfl, rfl, Lib.hid ⟨HF.out.1, HF.out.2.1, HF.out.2.2.1, HF.out.2.2.2.1, HF.out.2.2.2.2.1, HF.out.2.2.2.2.2.1, HF.out.2.2.2.2.2.2.1, HF.out.2.2.2.2.2.2.2.1, HF.out.2.2.2.2.2.2.2.2.1, (fun _ => rfl), (fun h => absurd h (by decide))⟩⟩
      · obtain rfl := Option.some.inj ho
        have hc7 : b7 = false := hl
        have hc0 : b0 = true := by first | (refine hd ⟨0, .data⟩ ?_ rfl; simp; done) | (refine hd ⟨0, .chain⟩ ?_ rfl; simp; done) | (refine hd ⟨0, .phase⟩ ?_ rfl; simp; done)
        have hc1 : b1 = true := by first | (refine hd ⟨1, .data⟩ ?_ rfl; simp; done) | (refine hd ⟨1, .chain⟩ ?_ rfl; simp; done) | (refine hd ⟨1, .phase⟩ ?_ rfl; simp; done)
        have hc2 : b2 = true := by first | (refine hd ⟨2, .data⟩ ?_ rfl; simp; done) | (refine hd ⟨2, .chain⟩ ?_ rfl; simp; done) | (refine hd ⟨2, .phase⟩ ?_ rfl; simp; done)
        have hc3 : b3 = true := by first | (refine hd ⟨3, .data⟩ ?_ rfl; simp; done) | (refine hd ⟨3, .chain⟩ ?_ rfl; simp; done) | (refine hd ⟨3, .phase⟩ ?_ rfl; simp; done)
        have hc4 : b4 = true := by first | (refine hd ⟨4, .data⟩ ?_ rfl; simp; done) | (refine hd ⟨4, .chain⟩ ?_ rfl; simp; done) | (refine hd ⟨4, .phase⟩ ?_ rfl; simp; done)
        have hc5 : b5 = true := by first | (refine hd ⟨5, .data⟩ ?_ rfl; simp; done) | (refine hd ⟨5, .chain⟩ ?_ rfl; simp; done) | (refine hd ⟨5, .phase⟩ ?_ rfl; simp; done)
        have hc6 : b6 = true := by first | (refine hd ⟨6, .data⟩ ?_ rfl; simp; done) | (refine hd ⟨6, .chain⟩ ?_ rfl; simp; done) | (refine hd ⟨6, .phase⟩ ?_ rfl; simp; done)
        subst hc7 hc0 hc1 hc2 hc3 hc4 hc5 hc6
        clear hl hd ho hL
        simp only [sel_t, sel_f]
        have hB := HF.out.2.2.1 rfl
        have c0 : w'.cell? ⟨w.heap.size + 1, 0, none⟩ = some (.int .i64 0) := by simpa using hB.cell 0
        have c1 : w'.cell? ⟨w.heap.size + 1, 1, none⟩ = some (.slice none 0 0) := by simpa using hB.cell 1
        have f0 := hB.frozen 0
        have f1 := hB.frozen 1
        refine wpOp_step rfl ?_
        intro K' hK'
        go_simp
        exact hK' _ _ ⟨true, true, true, true, true, true, true, true, y, va, vc, rfl, rfl, Lib.hid ⟨(((HF.out.1).setCell (by simp) _).setCell (by simp) _), ((HF.out.2.1.setOther (by omega) _ _).setOther (by omega) _ _), (fun h => absurd h (by decide)), (fun _ h => absurd h (by decide)), (fun _ => (hB.set 0 _).own (hB.own (HF.out.2.2.2.2.1 rfl) (by decide)) (by decide)), (fun _ => by simpa using (hB.set 0 (.int .i64 n)).set 1 (.slice va ([] : List Ed).length vc)), (fun h => by have := HF.out.2.2.2.2.2.2.1 h; simpa using this), (fun h => by have := HF.out.2.2.2.2.2.2.2.1 h; simpa using this), (fun h => by have := HF.out.2.2.2.2.2.2.2.2.1 h; simpa using this), (fun h => by have := HF.out.2.2.2.2.2.2.2.2.2.1 h; simpa using this), (fun _ => rfl)⟩⟩
    · rintro L a w' hL ⟨b0, b1, b2, b3, b4, b5, b6, b7, y, va, vc, rfl, rfl, HF⟩ hall
      have hc0 : b0 = true := hall 0 (by decide)
      have hc1 : b1 = true := hall 1 (by decide)
      have hc2 : b2 = true := hall 2 (by decide)
      have hc3 : b3 = true := hall 3 (by decide)
      have hc4 : b4 = true := hall 4 (by decide)
      have hc5 : b5 = true := hall 5 (by decide)
      have hc6 : b6 = true := hall 6 (by decide)
      have hc7 : b7 = true := hall 7 (by decide)
      subst hc0 hc1 hc2 hc3 hc4 hc5 hc6 hc7
      simp only [sel_t]
      have hB := HF.out.2.2.2.2.2.1 rfl
      have HE := Lib.hid (And.intro ((HF.out.2.2.2.2.1 rfl).mono (base' := w.heap.size + 1) (by omega)) HF.out.1)
      clear HF
      have c0 : w'.cell? ⟨w.heap.size + 1, 0, none⟩ = some (.int .i64 n) := by simpa using hB.cell 0
      have c1 : w'.cell? ⟨w.heap.size + 1, 1, none⟩ = some (.slice va ([] : List Ed).length vc) := by simpa using hB.cell 1
      go_wp2_with fail
      try simp only [Exit.inBlock, Exit.then]
      refine bodyPost_ret (v := .agg #[.int .i64 n, .slice va ([] : List Ed).length vc]) ?_ rfl ?_
      · rw [results_cell1 rfl]
        go_simp
      exact ⟨_, rfl, HE.out.1, HE.out.2⟩
  | some ad =>
    have hnews : ∀ w' , Below w.heap.size w w' → ∀ j u, (cellsE es)[j]? = some u → w'.cell? (ad.add j) = some u := fun w' h => news_of (HS.out.keep h)
    have HC := Lib.hid hnews
    clear hs ho1 ho2 ho3 hnews
    go_enter Try.func50, Try.ntmps50
    go_wp2_with fail
    generalize ((w.alloc (.cells #[.int .i64 n, .slice (some ad) es.length cap] 31)).alloc (.cells #[.int .i64 0, .slice none 0 0] 31)) = W1 at K0 ⊢
    refine wp_region_inv (fun L a w' => ∃ (b0 b1 b2 b3 b4 b5 b6 b7 : Bool) (y : Nat) (va : Option Addr) (vc : Nat), L = #[b0, b1, b2, b3, b4, b5, b6, b7] ∧ a = { tmps := #[Value.agg #[.int .i64 n, Value.slice (some ad) es.length cap], Value.pointer (some ⟨w.heap.size, 0, none⟩), Value.pointer (some ⟨w.heap.size + 1, 0, none⟩), sel b0 (Value.pointer (some ⟨w.heap.size, 0, none⟩)) undef, sel b1 (Value.int .i64 n) undef, sel b2 (Value.slice (some ⟨y, 0, none⟩) 0 0) undef, sel b3 (Value.pointer (some ⟨w.heap.size, 1, none⟩)) undef, sel b4 (Value.slice (some ad) es.length cap) undef, sel b5 (Value.slice va es.length vc) undef, sel b6 (Value.agg #[.int .i64 n, .slice va es.length vc]) undef], defers := [] } ∧ Hid ((Below w.heap.size w w') ∧ (Box w' w.heap.size 31 #[.int .i64 n, Value.slice (some ad) es.length cap]) ∧ (b7 = false → Box w' (w.heap.size + 1) 31 #[.int .i64 0, .slice none 0 0]) ∧ (b2 = true → b5 = false → w'.ownsRow (w.heap.size + 2) 69 3 (.slice (some ⟨y, 0, none⟩) 0 0) 0 []) ∧ (b5 = true → w'.ownsRow (w.heap.size + 2) 69 3 (.slice va es.length vc) es.length (cellsE es)) ∧ (b7 = true → Box w' (w.heap.size + 1) 31 #[.int .i64 n, .slice va es.length vc]) ∧ (b1 = true → (b0) = true) ∧ (b4 = true → (b3) = true) ∧ (b5 = true → (b2 && b4) = true) ∧ (b6 = true → (b1 && b5) = true) ∧ (b7 = true → (b0 && b1 && b2 && b3 && b4 && b5 && b6) = true))) (by kernel_rfl) (by kernel_rfl) ?_ ?_ ?_
    · exact ⟨false, false, false, false, false, false, false, false, 0, none, 0, rfl, rfl, Lib.hid ⟨K0.out.1, K0.out.2.1, (fun _ => K0.out.2.2), (fun h => absurd h (by decide)), (fun h => absurd h (by decide)), (fun h => absurd h (by decide)), (fun h => absurd h (by decide)), (fun h => absurd h (by decide)), (fun h => absurd h (by decide)), (fun h => absurd h (by decide)), (fun h => absurd h (by decide))⟩⟩
    · rintro L a w' hL ⟨b0, b1, b2, b3, b4, b5, b6, b7, y, va, vc, rfl, rfl, HF⟩ k9 o9 ho hl hd
      have hk9 : k9 = 0 ∨ k9 = 1 ∨ k9 = 2 ∨ k9 = 3 ∨ k9 = 4 ∨ k9 = 5 ∨ k9 = 6 ∨ k9 = 7 := by have := (Array.getElem?_eq_some_iff.1 ho).1; simp at this; omega
      rcases hk9 with rfl | rfl | rfl | rfl | rfl | rfl | rfl | rfl
      · obtain rfl := Option.some.inj ho
        have hc0 : b0 = false := hl
        subst hc0
        have hc1 : b1 = false := by cases hx9 : b1 with | false => rfl | true => (have hy9 := HF.out.2.2.2.2.2.2.1 hx9; simp at hy9)
        subst hc1
        have hc6 : b6 = false := by cases hx9 : b6 with | false => rfl | true => (have hy9 := HF.out.2.2.2.2.2.2.2.2.2.1 hx9; simp at hy9)
        subst hc6
        have hc7 : b7 = false := by cases hx9 : b7 with | false => rfl | true => (have hy9 := HF.out.2.2.2.2.2.2.2.2.2.2 hx9; simp at hy9)
        subst hc7
        clear hl hd ho hL
        simp only [sel_t, sel_f]
        refine wpOp_step rfl ?_
        intro K' hK'
        go_simp
        exact hK' _ _ ⟨true, false, b2, b3, b4, b5, false, false, y, va, vc, rfl, rfl, Lib.hid ⟨HF.out.1, HF.out.2.1, HF.out.2.2.1, HF.out.2.2.2.1, HF.out.2.2.2.2.1, HF.out.2.2.2.2.2.1, (fun h => absurd h (by decide)), HF.out.2.2.2.2.2.2.2.1, HF.out.2.2.2.2.2.2.2.2.1, (fun h => absurd h (by decide)), (fun h => absurd h (by decide))⟩⟩
      · obtain rfl := Option.some.inj ho
        have hc1 : b1 = false := hl
        have hc0 : b0 = true := by first | (refine hd ⟨0, .data⟩ ?_ rfl; simp; done) | (refine hd ⟨0, .chain⟩ ?_ rfl; simp; done) | (refine hd ⟨0, .phase⟩ ?_ rfl; simp; done)
        subst hc1 hc0
        have hc6 : b6 = false := by cases hx9 : b6 with | false => rfl | true => (have hy9 := HF.out.2.2.2.2.2.2.2.2.2.1 hx9; simp at hy9)
        subst hc6
        have hc7 : b7 = false := by cases hx9 : b7 with | false => rfl | true => (have hy9 := HF.out.2.2.2.2.2.2.2.2.2.2 hx9; simp at hy9)
        subst hc7
        clear hl hd ho hL
        simp only [sel_t, sel_f]
        have x0 : w'.cell? ⟨w.heap.size, 0, none⟩ = some (.int .i64 n) := by simpa using HF.out.2.1.cell 0
        refine wpOp_step rfl ?_
        intro K' hK'
        go_simp
        exact hK' _ _ ⟨true, true, b2, b3, b4, b5, false, false, y, va, vc, rfl, rfl, Lib.hid ⟨HF.out.1, HF.out.2.1, HF.out.2.2.1, HF.out.2.2.2.1, HF.out.2.2.2.2.1, HF.out.2.2.2.2.2.1, (fun _ => rfl), HF.out.2.2.2.2.2.2.2.1, HF.out.2.2.2.2.2.2.2.2.1, (fun h => absurd h (by decide)), (fun h => absurd h (by decide))⟩⟩
      · obtain rfl := Option.some.inj ho
        have hc2 : b2 = false := hl
        subst hc2
        have hc5 : b5 = false := by cases hx9 : b5 with | false => rfl | true => (have hy9 := HF.out.2.2.2.2.2.2.2.2.1 hx9; simp at hy9)
        subst hc5
        have hc6 : b6 = false := by cases hx9 : b6 with | false => rfl | true => (have hy9 := HF.out.2.2.2.2.2.2.2.2.2.1 hx9; simp at hy9)
        subst hc6
        have hc7 : b7 = false := by cases hx9 : b7 with | false => rfl | true => (have hy9 := HF.out.2.2.2.2.2.2.2.2.2.2 hx9; simp at hy9)
        subst hc7
        clear hl hd ho hL
        simp only [sel_t, sel_f]
        have hsz : w.heap.size + 2 ≤ w'.heap.size := (HF.out.2.2.1 rfl).lt
        refine wpOp_step rfl ?_
        intro K' hK'
        go_simp
        exact hK' _ _ ⟨b0, b1, true, b3, b4, false, false, false, w'.heap.size, va, vc, rfl, rfl, Lib.hid ⟨(bel_trans HF.out.1 ((Below.refl _ _).alloc (Nat.le_refl _) _)), (HF.out.2.1.alloc _), (fun h => (HF.out.2.2.1 h).alloc _), (fun _ _ => own_empty3 w' 69 3 (w.heap.size + 2) hsz), (fun h => absurd h (by decide)), (fun h => absurd h (by decide)), HF.out.2.2.2.2.2.2.1, HF.out.2.2.2.2.2.2.2.1, (fun h => absurd h (by decide)), (fun h => absurd h (by decide)), (fun h => absurd h (by decide))⟩⟩
      · obtain rfl := Option.some.inj ho
        have hc3 : b3 = false := hl
        subst hc3
        have hc4 : b4 = false := by cases hx9 : b4 with | false => rfl | true => (have hy9 := HF.out.2.2.2.2.2.2.2.1 hx9; simp at hy9)
        subst hc4
        have hc5 : b5 = false := by cases hx9 : b5 with | false => rfl | true => (have hy9 := HF.out.2.2.2.2.2.2.2.2.1 hx9; simp at hy9)
        subst hc5
        have hc6 : b6 = false := by cases hx9 : b6 with | false => rfl | true => (have hy9 := HF.out.2.2.2.2.2.2.2.2.2.1 hx9; simp at hy9)
        subst hc6
        have hc7 : b7 = false := by cases hx9 : b7 with | false => rfl | true => (have hy9 := HF.out.2.2.2.2.2.2.2.2.2.2 hx9; simp at hy9)
        subst hc7
        clear hl hd ho hL
        simp only [sel_t, sel_f]
        refine wpOp_step rfl ?_
        intro K' hK'
        go_simp
        exact hK' _ _ ⟨b0, b1, b2, true, false, false, false, false, y, va, vc, rfl, rfl, Lib.hid ⟨HF.out.1, HF.out.2.1, HF.out.2.2.1, HF.out.2.2.2.1, HF.out.2.2.2.2.1, HF.out.2.2.2.2.2.1, HF.out.2.2.2.2.2.2.1, (fun h => absurd h (by decide)), (fun h => absurd h (by decide)), (fun h => absurd h (by decide)), (fun h => absurd h (by decide))⟩⟩
      · obtain rfl := Option.some.inj ho
        have hc4 : b4 = false := hl
        have hc3 : b3 = true := by first | (refine hd ⟨3, .data⟩ ?_ rfl; simp; done) | (refine hd ⟨3, .chain⟩ ?_ rfl; simp; done) | (refine hd ⟨3, .phase⟩ ?_ rfl; simp; done)
        subst hc4 hc3
        have hc5 : b5 = false := by cases hx9 : b5 with | false => rfl | true => (have hy9 := HF.out.2.2.2.2.2.2.2.2.1 hx9; simp at hy9)
        subst hc5
        have hc6 : b6 = false := by cases hx9 : b6 with | false => rfl | true => (have hy9 := HF.out.2.2.2.2.2.2.2.2.2.1 hx9; simp at hy9)
        subst hc6
        have hc7 : b7 = false := by cases hx9 : b7 with | false => rfl | true => (have hy9 := HF.out.2.2.2.2.2.2.2.2.2.2 hx9; simp at hy9)
        subst hc7
        clear hl hd ho hL
        simp only [sel_t, sel_f]
        have x0 : w'.cell? ⟨w.heap.size, 1, none⟩ = some (Value.slice (some ad) es.length cap) := by simpa using HF.out.2.1.cell 1
        refine wpOp_step rfl ?_
        intro K' hK'
        go_simp
        exact hK' _ _ ⟨b0, b1, b2, true, true, false, false, false, y, va, vc, rfl, rfl, Lib.hid ⟨HF.out.1, HF.out.2.1, HF.out.2.2.1, HF.out.2.2.2.1, HF.out.2.2.2.2.1, HF.out.2.2.2.2.2.1, HF.out.2.2.2.2.2.2.1, (fun _ => rfl), (fun h => absurd h (by decide)), (fun h => absurd h (by decide)), (fun h => absurd h (by decide))⟩⟩
      · obtain rfl := Option.some.inj ho
        have hc5 : b5 = false := hl
        have hc2 : b2 = true := by first | (refine hd ⟨2, .data⟩ ?_ rfl; simp; done) | (refine hd ⟨2, .chain⟩ ?_ rfl; simp; done) | (refine hd ⟨2, .phase⟩ ?_ rfl; simp; done)
        have hc4 : b4 = true := by first | (refine hd ⟨4, .data⟩ ?_ rfl; simp; done) | (refine hd ⟨4, .chain⟩ ?_ rfl; simp; done) | (refine hd ⟨4, .phase⟩ ?_ rfl; simp; done)
        subst hc5 hc2 hc4
        have hc6 : b6 = false := by cases hx9 : b6 with | false => rfl | true => (have hy9 := HF.out.2.2.2.2.2.2.2.2.2.1 hx9; simp at hy9)
        subst hc6
        have hc7 : b7 = false := by cases hx9 : b7 with | false => rfl | true => (have hy9 := HF.out.2.2.2.2.2.2.2.2.2.2 hx9; simp at hy9)
        subst hc7
        clear hl hd ho hL
        simp only [sel_t, sel_f]
        have hsz : w.heap.size + 2 ≤ w'.heap.size := (HF.out.2.2.1 rfl).lt
        have hlt0 : w.heap.size < w'.heap.size := by omega
        obtain ⟨hi, hz0, hz1, hz2⟩ := HI.out
        have ho0 := HF.out.2.2.2.1 rfl rfl
        have hnews := HC.out w' HF.out.1
        refine wpOp_step rfl ?_
        intro K' hK'
        refine step_append_own rfl (.tmp 5) (.tmp 7) 29 rfl (w.heap.size + 2) 69 i0 (.agg #[.int .i64 0, .int .i64 0, .int .i64 0]) 3 24 Try.underlying29 hi hz0 hz1 hz2 rfl (by decide) _ _ _ rfl ho0 ad es.length cap (cellsE es) rfl (cellsE_len es) hnews (cellsE_one es) (by unfold maxLen; omega) (by omega) hsz ?_
        intro v' w6 hown6 hgrow6
        obtain ⟨va6, vc6, rfl⟩ := own_slice hown6
        have hb06 := (HF.out.1).grown hgrow6 (by omega) (fun q hq => Nat.le_trans (by omega) (ho0.lt q hq).1)
        have hown7 : w6.ownsRow (w.heap.size + 2) 69 3 (.slice va6 es.length vc6) es.length (cellsE es) := by simpa using hown6
        rw [Nat.zero_add]
        exact hK' _ _ ⟨b0, b1, true, b3, true, true, false, false, y, va6, vc6, rfl, rfl, Lib.hid ⟨hb06, (Box.grown HF.out.2.1 hgrow6 ho0 (by decide)), (fun h => Box.grown (HF.out.2.2.1 h) hgrow6 ho0 (by decide)), (fun _ h => absurd h (by decide)), (fun _ => hown7), (fun h => absurd h (by decide)), HF.out.2.2.2.2.2.2.1, HF.out.2.2.2.2.2.2.2.1, (fun _ => rfl), (fun h => absurd h (by decide)), (fun h => absurd h (by decide))⟩⟩
      · obtain rfl := Option.some.inj ho
        have hc6 : b6 = false := hl
        have hc1 : b1 = true := by first | (refine hd ⟨1, .data⟩ ?_ rfl; simp; done) | (refine hd ⟨1, .chain⟩ ?_ rfl; simp; done) | (refine hd ⟨1, .phase⟩ ?_ rfl; simp; done)
        have hc5 : b5 = true := by first | (refine hd ⟨5, .data⟩ ?_ rfl; simp; done) | (refine hd ⟨5, .chain⟩ ?_ rfl; simp; done) | (refine hd ⟨5, .phase⟩ ?_ rfl; simp; done)
        subst hc6 hc1 hc5
        have hc7 : b7 = false := by cases hx9 : b7 with | false => rfl | true => (have hy9 := HF.out.2.2.2.2.2.2.2.2.2.2 hx9; simp at hy9)
        subst hc7
        clear hl hd ho hL
        simp only [sel_t, sel_f]
        refine wpOp_step rfl ?_
        intro K' hK'
        go_simp
        exact hK' _ _ ⟨b0, true, b2, b3, b4, true, true, false, y, va, vc, rfl, rfl, Lib.hid ⟨HF.out.1, HF.out.2.1, HF.out.2.2.1, HF.out.2.2.2.1, HF.out.2.2.2.2.1, HF.out.2.2.2.2.2.1, HF.out.2.2.2.2.2.2.1, HF.out.2.2.2.2.2.2.2.1, HF.out.2.2.2.2.2.2.2.2.1, (fun _ => rfl), (fun h => absurd h (by decide))⟩⟩
      · obtain rfl := Option.some.inj ho
        have hc7 : b7 = false := hl
        have hc0 : b0 = true := by first | (refine hd ⟨0, .data⟩ ?_ rfl; simp; done) | (refine hd ⟨0, .chain⟩ ?_ rfl; simp; done) | (refine hd ⟨0, .phase⟩ ?_ rfl; simp; done)
        have hc1 : b1 = true := by first | (refine hd ⟨1, .data⟩ ?_ rfl; simp; done) | (refine hd ⟨1, .chain⟩ ?_ rfl; simp; done) | (refine hd ⟨1, .phase⟩ ?_ rfl; simp; done)
        have hc2 : b2 = true := by first | (refine hd ⟨2, .data⟩ ?_ rfl; simp; done) | (refine hd ⟨2, .chain⟩ ?_ rfl; simp; done) | (refine hd ⟨2, .phase⟩ ?_ rfl; simp; done)
        have hc3 : b3 = true := by first | (refine hd ⟨3, .data⟩ ?_ rfl; simp; done) | (refine hd ⟨3, .chain⟩ ?_ rfl; simp; done) | (refine hd ⟨3, .phase⟩ ?_ rfl; simp; done)
        have hc4 : b4 = true := by first | (refine hd ⟨4, .data⟩ ?_ rfl; simp; done) | (refine hd ⟨4, .chain⟩ ?_ rfl; simp; done) | (refine hd ⟨4, .phase⟩ ?_ rfl; simp; done)
        have hc5 : b5 = true := by first | (refine hd ⟨5, .data⟩ ?_ rfl; simp; done) | (refine hd ⟨5, .chain⟩ ?_ rfl; simp; done) | (refine hd ⟨5, .phase⟩ ?_ rfl; simp; done)
        have hc6 : b6 = true := by first | (refine hd ⟨6, .data⟩ ?_ rfl; simp; done) | (refine hd ⟨6, .chain⟩ ?_ rfl; simp; done) | (refine hd ⟨6, .phase⟩ ?_ rfl; simp; done)
        subst hc7 hc0 hc1 hc2 hc3 hc4 hc5 hc6
        clear hl hd ho hL
        simp only [sel_t, sel_f]
        have hB := HF.out.2.2.1 rfl
        have c0 : w'.cell? ⟨w.heap.size + 1, 0, none⟩ = some (.int .i64 0) := by simpa using hB.cell 0
        have c1 : w'.cell? ⟨w.heap.size + 1, 1, none⟩ = some (.slice none 0 0) := by simpa using hB.cell 1
        have f0 := hB.frozen 0
        have f1 := hB.frozen 1
        refine wpOp_step rfl ?_
        intro K' hK'
        go_simp
        exact hK' _ _ ⟨true, true, true, true, true, true, true, true, y, va, vc, rfl, rfl, Lib.hid ⟨(((HF.out.1).setCell (by simp) _).setCell (by simp) _), ((HF.out.2.1.setOther (by omega) _ _).setOther (by omega) _ _), (fun h => absurd h (by decide)), (fun _ h => absurd h (by decide)), (fun _ => (hB.set 0 _).own (hB.own (HF.out.2.2.2.2.1 rfl) (by decide)) (by decide)), (fun _ => by simpa using (hB.set 0 (.int .i64 n)).set 1 (.slice va es.length vc)), (fun h => by have := HF.out.2.2.2.2.2.2.1 h; simpa using this), (fun h => by have := HF.out.2.2.2.2.2.2.2.1 h; simpa using this), (fun h => by have := HF.out.2.2.2.2.2.2.2.2.1 h; simpa using this), (fun h => by have := HF.out.2.2.2.2.2.2.2.2.2.1 h; simpa using this), (fun _ => rfl)⟩⟩
    · rintro L a w' hL ⟨b0, b1, b2, b3, b4, b5, b6, b7, y, va, vc, rfl, rfl, HF⟩ hall
      have hc0 : b0 = true := hall 0 (by decide)
      have hc1 : b1 = true := hall 1 (by decide)
      have hc2 : b2 = true := hall 2 (by decide)
      have hc3 : b3 = true := hall 3 (by decide)
      have hc4 : b4 = true := hall 4 (by decide)
      have hc5 : b5 = true := hall 5 (by decide)
      have hc6 : b6 = true := hall 6 (by decide)
      have hc7 : b7 = true := hall 7 (by decide)
      subst hc0 hc1 hc2 hc3 hc4 hc5 hc6 hc7
      simp only [sel_t]
      have hB := HF.out.2.2.2.2.2.1 rfl
      have HE := Lib.hid (And.intro ((HF.out.2.2.2.2.1 rfl).mono (base' := w.heap.size + 1) (by omega)) HF.out.1)
      clear HF
      have c0 : w'.cell? ⟨w.heap.size + 1, 0, none⟩ = some (.int .i64 n) := by simpa using hB.cell 0
      have c1 : w'.cell? ⟨w.heap.size + 1, 1, none⟩ = some (.slice va es.length vc) := by simpa using hB.cell 1
      go_wp2_with fail
      try simp only [Exit.inBlock, Exit.then]
      refine bodyPost_ret (v := .agg #[.int .i64 n, .slice va es.length vc]) ?_ rfl ?_
      · rw [results_cell1 rfl]
        go_simp
      exact ⟨_, rfl, HE.out.1, HE.out.2⟩
end Go.Proofs.Ytdlnekfifogcaaa
namespace Go.Proofs.Ytdlnekfifogcaaa
open Go.RowKit Go.BigFrame Go.Deep
set_option linter.unusedVariables false
set_option linter.unusedSimpArgs false
set_option linter.unnecessarySimpa false

/-- A graph is drawn: its edges in memory of their own. -/
def DrawnW (W w : World) (g q l : Nat) (e : Ending) (w' : World) : Prop :=
  ∃ (n : Int) (es : List Ed) (v : Value), e = .returned (.agg #[.int .i64 n, v]) ∧ es.length ≤ l ∧ InR true w' w.heap.size w'.heap.size v es.length 3 (cellE es) ∧ okS v ∧ Rd W w' g q ∧ w.grownBy w' (some g)
theorem own_ne' {w : World} {base g : Nat} {t : TypeId} {sz : Nat} {v : Value} {n : Nat} {xs : List Value} (h : w.ownsRow base t sz v n xs) (hg : g < base) : v.ownBlock = none ∨ v.ownBlock ≠ some g := by
  refine .inr fun e => ?_
  have := (h.lt g e).1
  omega
theorem Box.grownN {w w' : World} {B : Nat} {r : Option Nat} {t : TypeId} {cs : Array Value} (h : Box w B t cs) (hg : w.grownBy w' r) (hne : r ≠ some B) : Box w' B t cs := (hg.block B h.lt (by intro e; exact hne e.symm)).trans h

theorem Rd.grownR {W w w' : World} {g q : Nat} {row : Option Nat} (h : Rd W w g q) (hg : w.grownBy w' row) (hr : ∀ k, row = some k → g < k) : Rd W w' g q := by
  obtain ⟨a, n, cap, p, h1, h2, h3, h4, h5⟩ := h.cells
  have hb : w'.heap[g]? = w.heap[g]? := hg.block g h.lt (fun e => by have := hr g e.symm; omega)
  exact ⟨h.new, h.bel.grown hg (Nat.le_of_lt (Nat.lt_of_le_of_lt h.new h.lt)) (fun k hk => by have := hr k hk; have := h.new; omega),
    ⟨a, n, cap, p, h1, h2, h3, by rw [World.cell?_of_block (a := ⟨g, 0, none⟩) hb]; exact h4, by rw [World.cell?_of_block (a := ⟨g, 1, none⟩) hb]; exact h5⟩,
    by rw [World.frozen?_of_block (a := ⟨g, 1, none⟩) hb]; exact h.free, Nat.lt_of_lt_of_le h.lt hg.size⟩
theorem grownR {a w w' : World} {g : Nat} {row : Option Nat} (h : a.grownBy w (some g)) (hg : w.grownBy w' row) (hr : ∀ k, row = some k → a.heap.size ≤ k) : a.grownBy w' (some g) :=
  ⟨hg.os.trans h.os, hg.tape.trans h.tape, hg.output.trans h.output, Nat.le_trans h.size hg.size, fun i hi hne => (hg.block i (Nat.lt_of_lt_of_le hi h.size) (fun e => by have := hr i e.symm; omega)).trans (h.block i hi hne)⟩
theorem cellsE_at (es : List Ed) {j : Nat} (hj : j < es.length * 3) : (cellsE es)[j]? = some (cellE es j) := by
  unfold cellsE
  simp [hj]
/-- The edge at a place gets another end. -/
def setTo (es : List Ed) (k : Nat) (x : Int) : List Ed := es.set k ((es.getD k (0, 0, 0)).1, x, (es.getD k (0, 0, 0)).2.2)
/-- The edge at a place gets another weight. -/
def setWt (es : List Ed) (k : Nat) (x : Int) : List Ed := es.set k ((es.getD k (0, 0, 0)).1, (es.getD k (0, 0, 0)).2.1, x)
theorem getD_set' (es : List Ed) (k : Nat) (e : Ed) (hk : k < es.length) (i : Nat) : (es.set k e).getD i (0, 0, 0) = if i = k then e else es.getD i (0, 0, 0) := by
  simp only [List.getD, List.getElem?_set]
  by_cases h : k = i
  · subst h; simp [hk]
  · simp [h, Ne.symm h]
theorem setTo_cells (es : List Ed) (k : Nat) (hk : k < es.length) (x : Int) : (cellsE es).set (k * 3 + 1) (.int .i64 x) = cellsE (setTo es k x) := by
  apply List.ext_getElem?
  intro j
  rw [List.getElem?_set]
  by_cases hj : j < es.length * 3
  · have hj2 : j < (setTo es k x).length * 3 := by simpa [setTo] using hj
    rw [cellsE_at _ hj2, cellsE_at _ hj, cellsE_len]
    unfold cellE setTo
    rw [getD_set' es k _ hk]
    by_cases h : k * 3 + 1 = j
    · subst h
      have h1 : (k * 3 + 1) % 3 = 1 := by omega
      have h2 : (k * 3 + 1) / 3 = k := by omega
      simp [h1, h2, hj]
    · rw [if_neg h]
      by_cases h2 : j / 3 = k
      · have h3 : j % 3 = 0 ∨ j % 3 = 2 := by omega
        rcases h3 with h3 | h3 <;> simp [h2, h3]
      · simp [h2]
  · have h1 : (cellsE es)[j]? = none := by simp [cellsE_len]; omega
    have h2 : (cellsE (setTo es k x))[j]? = none := by simp [cellsE_len, setTo]; omega
    rw [h1, h2]
    split
    · rw [if_neg (by rw [cellsE_len]; omega)]
    · rfl
theorem setWt_cells (es : List Ed) (k : Nat) (hk : k < es.length) (x : Int) : (cellsE es).set (k * 3 + 2) (.int .i64 x) = cellsE (setWt es k x) := by
  apply List.ext_getElem?
  intro j
  rw [List.getElem?_set]
  by_cases hj : j < es.length * 3
  · have hj2 : j < (setWt es k x).length * 3 := by simpa [setWt] using hj
    rw [cellsE_at _ hj2, cellsE_at _ hj, cellsE_len]
    unfold cellE setWt
    rw [getD_set' es k _ hk]
    by_cases h : k * 3 + 2 = j
    · subst h
      have h1 : (k * 3 + 2) % 3 = 2 := by omega
      have h2 : (k * 3 + 2) / 3 = k := by omega
      simp [h1, h2, hj]
    · rw [if_neg h]
      by_cases h2 : j / 3 = k
      · have h3 : j % 3 = 0 ∨ j % 3 = 1 := by omega
        rcases h3 with h3 | h3 <;> simp [h2, h3]
      · simp [h2]
  · have h1 : (cellsE es)[j]? = none := by simp [cellsE_len]; omega
    have h2 : (cellsE (setWt es k x))[j]? = none := by simp [cellsE_len, setWt]; omega
    rw [h1, h2]
    split
    · rw [if_neg (by rw [cellsE_len]; omega)]
    · rfl
theorem drawnW_of {W w w1 : World} {g q q' B base : Nat} {n : Int} {es : List Ed} {v : Value} {m : Nat} (hR : Rd W w1 g q') (hG : w.grownBy w1 (some g)) (hB : Box w1 B 31 #[.int .i64 0, .slice none 0 0])
    (ho : w1.ownsRow base 69 3 v es.length (cellsE es)) (hq : q' ≤ q) (hm : es.length ≤ m) (hb : w.heap.size ≤ base) (hBw : w.heap.size ≤ B) (hg : g < w.heap.size) :
    DrawnW W w g q m (.returned (.agg #[.int .i64 n, v])) ((w1.setCell ⟨B, 0, none⟩ (.int .i64 n)).setCell ⟨B, 1, none⟩ v) := by
  have hlt := hR.lt
  have hW := hR.new
  have ho2 := Box.own (hB.set 0 (.int .i64 n)) (o := 1) (v' := v) (Box.own hB (o := 0) (v' := .int .i64 n) ho (by decide)) (by decide)
  exact ⟨n, es, v, rfl, hm, OwnE.of ho2 hb, own_ok ho, ((hR.set' (by omega) (by omega) _).set' (by omega) (by omega) _).more hq, g_set (g_set hG hBw) hBw⟩

end Go.Proofs.Ytdlnekfifogcaaa
namespace Go.Proofs.Ytdlnekfifogcaaa
open Go.RowKit Go.BigFrame
set_option linter.unusedVariables false
set_option linter.unusedSimpArgs false

end Go.Proofs.Ytdlnekfifogcaaa
namespace Go.Proofs.Ytdlnekfifogcaaa
open Go.RowKit Go.BigFrame Go.Deep
set_option linter.unusedVariables false
set_option linter.unusedSimpArgs false
set_option linter.unnecessarySimpa false

theorem Bytes.keepB {w w' : World} {a : Option Addr} {n : Nat} (h : Bytes w a n) (hb : Below w.heap.size w w') : Bytes w' a n := by
  rcases h with h | ⟨b, off, rfl, hlt, hc⟩
  · exact .inl h
  · exact .inr ⟨b, off, rfl, Nat.lt_of_lt_of_le hlt hb.size, fun i hi => by
      obtain ⟨x, h0, h1, hx⟩ := hc i hi
      exact ⟨x, h0, h1, (hb.cell (p := ⟨b, off + i, none⟩) hlt).trans hx⟩⟩
theorem InR.grownG {w w' : World} {lo hi g : Nat} {s : Value} {n sz : Nat} {cs : Nat → Value} (r : InR true w lo hi s n sz cs) (h : w.grownBy w' (some g)) (hg : g < lo) : InR true w' lo hi s n sz cs := r.chg (g_chgG h) (.inl (by omega))
/-- A graph, a number and a number are drawn. -/
def DrawnC3 (w : World) (e : Ending) (w' : World) : Prop :=
  ∃ (n : Int) (es : List Ed) (v : Value) (m a : Int), e = .returned (.tuple #[.agg #[.int .i64 n, v], .int .i64 m, .int .i64 a]) ∧ es.length ≤ 41 ∧ InR true w' w.heap.size w'.heap.size v es.length 3 (cellE es) ∧ okS v ∧ Below w.heap.size w w'
theorem results_ctt {fn : Func} {p t u : Tmp} {ty : TypeId} (h : fn.results = #[.cell p ty, .tmp t, .tmp u]) (tmps : Array Value) (P : Program) (w : World) :
    (results fn tmps).run P w = ((asAddr (tmps.getD p undef)).run P w).andThen fun a w₁ => ((loadVar ty a).run P w₁).andThen fun v w₂ => .ok (.tuple #[v, tmps.getD t undef, tmps.getD u undef]) w₂ := by
  simp only [results, h]
  simp
theorem drawnC3_of {w w0 w8 w9 : World} {g q : Nat} {n m a : Int} {es : List Ed} {v : Value} (hb : Below w.heap.size w w0) (hR : Rd w0 w9 g q) (hB : Box w9 w.heap.size 31 #[.int .i64 0, .slice none 0 0])
    (hrow : InR true w9 w8.heap.size w9.heap.size v es.length 3 (cellE es)) (hok : okS v) (hl : es.length ≤ 41) (hs : w.heap.size < w8.heap.size) :
    DrawnC3 w (.returned (.tuple #[.agg #[.int .i64 n, v], .int .i64 m, .int .i64 a])) ((w9.setCell ⟨w.heap.size, 0, none⟩ (.int .i64 n)).setCell ⟨w.heap.size, 1, none⟩ v) := by
  refine ⟨n, es, v, m, a, rfl, hl, ?_, hok, ((bel_trans hb hR.bel).setCell (by simp) _).setCell (by simp) _⟩
  have h1 := ((hrow.set8 (k := 0) (u := .int .i64 n) hs).set8 (k := 1) (u := v) hs)
  exact h1.wider (by omega) (by simp) (Nat.le_refl _)
end Go.Proofs.Ytdlnekfifogcaaa
