/- The model's source of drawn numbers: what is read, and that only its own block is written. A drawn graph: what is wanted ahead of the walk. A region that draws its order, by what holds between its operations. A drawn graph. A graph is copied, in the model. A graph, sometimes one that is not valid, in the model. The kinds and measures that the model draws. A drawn graph, a measure and a source, in the model. -/
import Derived.Test.YtlgjcofpdaljnaaBase
import Derived.IntWalk
import Derived.Laws.BitsAllLaws
import Derived.Laws.BitsLemmas
import Derived.Laws.AppendOwn
import Derived.Test.YtlgjcofpdaljnaaPutT
import Derived.Test.YtlgjcofpdaljnaaBoxes
import Derived.Deep.CutRange
import Derived.Deep.RegionHeld3
import Derived.Orders
import Derived.Deep.Onto
import Derived.Deep.AppendLies
import Derived.Test.YtlgjcofpdaljnaaImpl
namespace Go.Proofs.Ytlgjcofpdaljnaa
open Go.RowKit Go.BigFrame
set_option linter.unusedVariables false
set_option linter.unusedSimpArgs false

/-- Bytes that came in. -/
def Bytes (w : World) (a : Option Addr) (n : Nat) : Prop :=
  n = 0 ∨ ∃ b off, a = some ⟨b, off, none⟩ ∧ b < w.heap.size ∧ ∀ i, i < n → ∃ x : Int, 0 ≤ x ∧ x ≤ 255 ∧ w.cell? ⟨b, off + i, none⟩ = some (.int .u8 x)

/-- The source lies in block g, which is new since W; it has been asked at most q times. -/
structure Rd (W w : World) (g q : Nat) : Prop where
  new : W.heap.size ≤ g
  bel : Below W.heap.size W w
  cells : ∃ (a : Option Addr) (n cap p : Nat), n ≤ 2000 ∧ p ≤ q ∧ Bytes W a n ∧ w.cell? ⟨g, 0, none⟩ = some (.slice a n cap) ∧ w.cell? ⟨g, 1, none⟩ = some (.int .i64 p)
  free : w.frozen? ⟨g, 1, none⟩ = false
  lt : g < w.heap.size

/-- What an operation of the source does to the world: only its block is written. -/
theorem grown_cell {w w' : World} {g : Nat} (h : w.grownBy w' (some g)) {b o : Nat} (hb : b < w.heap.size) (hne : b ≠ g) : w'.cell? ⟨b, o, none⟩ = w.cell? ⟨b, o, none⟩ :=
  World.cell?_of_block (h.block b hb (fun e => hne (by injection e)))
theorem grown_trans' {a b c : World} {g : Nat} (h : a.grownBy b (some g)) (k : b.grownBy c (some g)) : a.grownBy c (some g) :=
  ⟨k.os.trans h.os, k.tape.trans h.tape, k.output.trans h.output, Nat.le_trans h.size k.size, fun i hi hne => (k.block i (Nat.lt_of_lt_of_le hi h.size) hne).trans (h.block i hi hne)⟩
theorem grown_refl (w : World) (g : Nat) : w.grownBy w (some g) := ⟨rfl, rfl, rfl, Nat.le_refl _, fun _ _ _ => rfl⟩
theorem grown_below {a w : World} {g : Nat} (h : Below a.heap.size a w) : a.grownBy w (some g) := ⟨h.os, h.tape, h.output, h.size, fun i hi _ => h.block i hi⟩
theorem below_grown {W a w : World} {g : Nat} (h : Below W.heap.size W a) (hg : a.grownBy w (some g)) (hn : W.heap.size ≤ g) : Below W.heap.size W w :=
  ⟨hg.os.trans h.os, hg.tape.trans h.tape, hg.output.trans h.output, Nat.le_trans h.size hg.size, fun i hi => (hg.block i (Nat.lt_of_lt_of_le hi h.size) (fun e => by injection e with e; omega)).trans (h.block i hi)⟩
/-- The source, behind steps that left it alone. -/
theorem Rd.keep {W w w' : World} {g q : Nat} (h : Rd W w g q) (hb : Below w.heap.size w w') : Rd W w' g q := by
  obtain ⟨a, n, cap, p, h1, h2, h3, h4, h5⟩ := h.cells
  exact ⟨h.new, bel_trans h.bel hb, ⟨a, n, cap, p, h1, h2, h3, by rw [hb.cell (p := ⟨g, 0, none⟩) h.lt]; exact h4, by rw [hb.cell (p := ⟨g, 1, none⟩) h.lt]; exact h5⟩,
    by rw [hb.frozen (p := ⟨g, 1, none⟩) h.lt]; exact h.free, Nat.lt_of_lt_of_le h.lt hb.size⟩
theorem Rd.more {W w : World} {g q q' : Nat} (h : Rd W w g q) (hq : q ≤ q') : Rd W w g q' := by
  obtain ⟨a, n, cap, p, h1, h2, h3, h4, h5⟩ := h.cells
  exact ⟨h.new, h.bel, ⟨a, n, cap, p, h1, by omega, h3, h4, h5⟩, h.free, h.lt⟩

theorem xor_low (x : Int) (h0 : 0 ≤ x) (h1 : x ≤ 4611686018427387904) : 0 ≤ bits .xor .i64 x (x / 64) ∧ bits .xor .i64 x (x / 64) < 9223372036854775808 := by
  obtain ⟨a, rfl⟩ := Int.eq_ofNat_of_zero_le h0
  obtain ⟨b, hb⟩ : ∃ b : Nat, ((a : Int) / 64) = (b : Int) := ⟨a / 64, by omega⟩
  rw [hb]
  have ha : a < 2 ^ 63 := by omega
  have hb' : b < 2 ^ 63 := by omega
  have hx : a ^^^ b < 2 ^ 63 := Nat.xor_lt_two_pow ha hb'
  have e : bits .xor .i64 (a : Int) (b : Int) = ((a ^^^ b : Nat) : Int) := by
    show IntKind.i64.wrap ((BitVec.ofInt 64 (a : Int) ^^^ BitVec.ofInt 64 (b : Int)).toNat : Int) = _
    rw [BitVec.toNat_xor, BitVec.ofInt_natCast, BitVec.toNat_ofNat, BitVec.ofInt_natCast, BitVec.toNat_ofNat, Nat.mod_eq_of_lt (by omega), Nat.mod_eq_of_lt (by omega), IntKind.wrap_i64]
    omega
  rw [e]
  constructor <;> omega

theorem rd_put {W w : World} {g q n cap p : Nat} {a : Option Addr} (hnew : W.heap.size ≤ g) (hbel : Below W.heap.size W w) (hn : n ≤ 2000) (hp : p ≤ q) (hby : Bytes W a n)
    (h0 : w.cell? ⟨g, 0, none⟩ = some (.slice a n cap)) (h1 : w.cell? ⟨g, 1, none⟩ = some (.int .i64 p)) (hfr : w.frozen? ⟨g, 1, none⟩ = false) (hlt : g < w.heap.size) (k : Nat) :
    Rd W ((w.setCell ⟨g, 1, none⟩ (.int .i64 ((p : Int) + 1))).drewN k) g (q + 1) ∧ w.grownBy ((w.setCell ⟨g, 1, none⟩ (.int .i64 ((p : Int) + 1))).drewN k) (some g) := by
  refine ⟨⟨hnew, ?_, ⟨a, n, cap, p + 1, hn, by omega, hby, by go_simp, by go_simp⟩, by go_simp, by simpa [World.setCell] using hlt⟩, ?_⟩
  · have hb := hbel.setCell (p := ⟨g, 1, none⟩) hnew (.int .i64 ((p : Int) + 1))
    exact ⟨hb.os, hb.tape, hb.output, hb.size, hb.block⟩
  · have hb := Below.refl g w
    have hb2 := hb.setCell (p := ⟨g, 1, none⟩) (Nat.le_refl _) (.int .i64 ((p : Int) + 1))
    exact ⟨hb2.os, hb2.tape, hb2.output, hb2.size, fun i hi hne => Below.heap_setCell w _ _ i (fun e => hne (by rw [e]))⟩

set_option maxHeartbeats 1000000 in
theorem pick (num : Int) (W w : World) (g q : Nat) (h : Rd W w g q) (hq : q ≤ 1000000) (hnum : num ≤ 1000000) :
    Calls Try.prog 80 #[.pointer (some ⟨g, 0, none⟩), .int .i64 num] w fun e w' => ∃ x : Int, e = .returned (.int .i64 x) ∧ 0 ≤ x ∧ (x < num ∨ x = 0) ∧ Rd W w' g (q + 1) ∧ w.grownBy w' (some g) := by
  obtain ⟨hnew, hbel, ⟨a, n, cap, p, hn, hp, hby, h0, h1⟩, hfr, hlt⟩ := h
  obtain ⟨hR, hG⟩ := rd_put hnew hbel hn hp hby h0 h1 hfr hlt 0
  by_cases hnum1 : num < 1
  · go_enter Try.func80, Try.ntmps80
    go_wp2
    go_ret
    exact ⟨0, rfl, by omega, .inr rfl, hR, hG⟩
  · by_cases hn0 : n = 0
    · subst hn0
      go_enter Try.func80, Try.ntmps80
      go_wp2
      go_ret
      exact ⟨0, rfl, by omega, .inr rfl, hR, hG⟩
    · have hn1 : 0 < n := by omega
      have hnb : ((n : Int) == 0) = false := by simpa using hn0
      obtain ⟨b, off, ha, hb, hbs⟩ := hby.resolve_left hn0
      subst ha
      have hbg : b ≠ g := by omega
      have HB : Hid (∀ i, i < n → ∃ x : Int, 0 ≤ x ∧ x ≤ 255 ∧ w.cell? ⟨b, off + i, none⟩ = some (.int .u8 x)) := fun i hi => by
        obtain ⟨x, hx0, hx1, hx⟩ := hbs i hi
        exact ⟨x, hx0, hx1, by rw [hbel.cell (p := ⟨b, off + i, none⟩) hb]; exact hx⟩
      have HRG := Lib.hid (rd_put hnew hbel hn hp hby h0 h1 hfr hlt)
      clear hR hG hbs hby hn0
      by_cases hpn : p < n
      · obtain ⟨x, hx0, hx1, hx⟩ := HB.out p hpn
        have hpn' : (p : Int) < n := by omega
        clear hpn
        go_enter Try.func80, Try.ntmps80
        go_wp2
        go_ret
        exact ⟨x % num, rfl, Int.emod_nonneg _ (by omega), .inl (Int.emod_lt_of_pos _ (by omega)), (HRG.out 0).1, (HRG.out 0).2⟩
      · have hpn' : ¬ ((p : Int) < n) := by omega
        obtain ⟨x, hx0, hx1, hx⟩ := HB.out (p % n) (Nat.mod_lt _ hn1)
        obtain ⟨y, hy0, hy1, hy⟩ := HB.out ((p * 7 + 3) % n) (Nat.mod_lt _ hn1)
        clear hpn
        go_enter Try.func80, Try.ntmps80
        go_wp2_with fail
        have m0 : 0 ≤ (p : Int) % n := Int.emod_nonneg _ (by omega)
        have m1 : (p : Int) % n < n := Int.emod_lt_of_pos _ (by omega)
        have m2 : 0 ≤ ((p : Int) * 7 + 3) % n := Int.emod_nonneg _ (by omega)
        have m3 : ((p : Int) * 7 + 3) % n < n := Int.emod_lt_of_pos _ (by omega)
        have m4 : 0 ≤ (p : Int) / n := Int.ediv_nonneg (by omega) (by omega)
        have m5 : (p : Int) / n ≤ p := Int.ediv_le_self _ (by omega)
        refine wp_region_quiet_lit (by kernel_rfl) (by kernel_rfl) ?_
        repeat (go_big_quiet_step (fail))
        refine wpQuiet_nil ?_
        intro _ hw'
        obtain ⟨nq, hw''⟩ := hw'
        subst hw''
        obtain ⟨t, ht⟩ : ∃ t, t = x * 131 + y * 1117 + (p : Int) * 29 + (p : Int) / n * 53 := ⟨_, rfl⟩
        have t0 : 0 ≤ t := by omega
        have t1 : t ≤ 4611686018427387904 := by omega
        rw [← ht]
        obtain ⟨x0, x1⟩ := xor_low t t0 t1
        clear ht m0 m1 m2 m3 m4 m5 hx hy hx0 hx1 hy0 hy1
        go_wp2
        go_ret
        exact ⟨_, rfl, Int.emod_nonneg _ (by omega), .inl (Int.emod_lt_of_pos _ (by omega)), (HRG.out nq).1, (HRG.out nq).2⟩

/-- A list of numbers in a block that is not the source's. -/
def RowN (w : World) (g : Nat) (s : Value) (zs : List Int) : Prop :=
  ∃ b off cap, s = .slice (some ⟨b, off, none⟩) zs.length cap ∧ b < w.heap.size ∧ b ≠ g ∧ ∀ i, i < zs.length → w.cell? ⟨b, off + i, none⟩ = some (.int .i64 (zs.getD i 0))
theorem rowN_built (zs : List Int) (w : World) (g : Nat) (t : TypeId) (hg : g < w.heap.size) :
    RowN (w.alloc (.cells (zs.map (Value.int .i64)).toArray t)) g (.slice (some ⟨w.heap.size, 0, none⟩) zs.length zs.length) zs := by
  refine ⟨_, 0, _, rfl, by simp, by omega, fun i hi => ?_⟩
  have e : (w.alloc (.cells (zs.map (Value.int .i64)).toArray t)).heap[w.heap.size]? = some (.cells (zs.map (Value.int .i64)).toArray t) := (MapKept.heap_alloc w _).1
  unfold World.cell?
  simp only [e]
  simp [hi, List.getD]

set_option maxHeartbeats 400000 in
theorem num (zs : List Int) (s : Value) (W w : World) (g q : Nat) (h : Rd W w g q) (hq : q ≤ 1000000) (hs : RowN w g s zs) (hz : 0 < zs.length) (hz2 : zs.length ≤ 1000) :
    Calls Try.prog 45 #[.pointer (some ⟨g, 0, none⟩), s] w fun e w' => ∃ x : Int, x ∈ zs ∧ e = .returned (.int .i64 x) ∧ Rd W w' g (q + 1) ∧ w.grownBy w' (some g) := by
  obtain ⟨b, off, cap, rfl, hb, hne, hc⟩ := hs
  have HC := Lib.hid hc
  have HD := Lib.hid h
  clear hc h
  go_enter Try.func45, Try.ntmps45
  go_wp2_with fail
  refine (pick (zs.length : Int) W w g q HD.out hq (by omega)).mono ?_
  rintro e w' ⟨x, rfl, hx0, hx1, hR, hG⟩
  obtain ⟨k, rfl⟩ := Int.eq_ofNat_of_zero_le hx0
  have hk : k < zs.length := by omega
  have hk' : (k : Int) < zs.length := by omega
  obtain ⟨y, hy⟩ : ∃ y, y = zs.getD k 0 := ⟨_, rfl⟩
  have hcell : w'.cell? ⟨b, off + k, none⟩ = some (.int .i64 y) := by rw [grown_cell hG hb hne, hy]; exact HC.out k hk
  have hmem : y ∈ zs := by rw [hy, getD_of hk]; exact List.getElem_mem hk
  have HR := Lib.hid (And.intro hR hG)
  have HM := Lib.hid hmem
  clear hy hmem hx1 hx0 hR hG
  go_wp2
  go_ret
  exact ⟨y, HM.out, rfl, HR.out.1, HR.out.2⟩

/-- One of some numbers that are written out. -/
theorem num_built (zs : List Int) (W w : World) (g q : Nat) (h : Rd W w g q) (hq : q ≤ 1000000) (t : TypeId) (hz : 0 < zs.length) (hz2 : zs.length ≤ 1000) :
    Calls Try.prog 45 #[.pointer (some ⟨g, 0, none⟩), .slice (some ⟨w.heap.size, 0, none⟩) zs.length zs.length] (w.alloc (.cells (zs.map (Value.int .i64)).toArray t)) fun e w' =>
      ∃ x : Int, x ∈ zs ∧ e = .returned (.int .i64 x) ∧ Rd W w' g (q + 1) ∧ w.grownBy w' (some g) := by
  have hb : Below w.heap.size w (w.alloc (.cells (zs.map (Value.int .i64)).toArray t)) := (Below.refl _ _).alloc (Nat.le_refl _) _
  exact (num zs _ W _ g q (h.keep hb) hq (rowN_built zs w g t h.lt) hz hz2).mono fun e w' ⟨x, hx, he, hR, hG⟩ => ⟨x, hx, he, hR, grown_trans' (grown_below hb) hG⟩

/-- Bytes that came in, as a value. -/
theorem l15Open (a : Option Addr) (n cap : Nat) (w : World) (hb : Bytes w a n) (hcap : n ≤ cap) (hn : n ≤ 281474976710656) :
    Calls Try.prog 44 #[.slice a n cap] w fun e w' => ∃ g, e = .returned (.pointer (some ⟨g, 0, none⟩)) ∧ Rd w w' g 0 := by
  by_cases h2 : 2000 < n
  · obtain ⟨b, off, rfl, hlt, hc⟩ := hb.resolve_left (by omega)
    have HC := Lib.hid hc
    clear hc hb
    go_enter Try.func44, Try.ntmps44
    go_wp2
    go_ret
    refine ⟨_, rfl, Nat.le_refl _, (Below.refl _ _).alloc (Nat.le_refl _) _, ⟨_, 2000, cap, 0, by omega, by omega, .inr ⟨b, off, rfl, hlt, fun i hi => HC.out i (by omega)⟩, by go_simp, by go_simp⟩, by go_simp, by simp⟩
  · have HC := Lib.hid hb
    clear hb
    go_enter Try.func44, Try.ntmps44
    go_wp2
    go_ret
    refine ⟨_, rfl, Nat.le_refl _, (Below.refl _ _).alloc (Nat.le_refl _) _, ⟨_, n, cap, 0, by omega, by omega, HC.out, by go_simp, by go_simp⟩, by go_simp, by simp⟩
end Go.Proofs.Ytlgjcofpdaljnaa
namespace Go.Proofs.Ytlgjcofpdaljnaa
open Go.RowKit Go.BigFrame Go.Deep
set_option linter.unusedVariables false
set_option linter.unusedSimpArgs false
set_option linter.unnecessarySimpa false

theorem g_alloc {a w : World} {g : Nat} (h : a.grownBy w (some g)) (o : Obj) : a.grownBy (w.alloc o) (some g) := grown_trans' h (grown_below ((Below.refl _ _).alloc (Nat.le_refl _) _))
theorem g_drew {a w : World} {g : Nat} (h : a.grownBy w (some g)) : a.grownBy w.drew (some g) := grown_trans' h (grown_below ((Below.refl _ _).drew))
theorem g_below {a w w' : World} {g : Nat} (h : a.grownBy w (some g)) (hb : Below w.heap.size w w') : a.grownBy w' (some g) := grown_trans' h (grown_below hb)
theorem g_chg {a w w' : World} {g lo hi : Nat} (h : a.grownBy w (some g)) (c : Chg lo hi w w') (hl : a.heap.size ≤ lo) : a.grownBy w' (some g) :=
  ⟨c.os.trans h.os, c.tape.trans h.tape, c.output.trans h.output, Nat.le_trans h.size c.size, fun i hi hne => (c.block i (Nat.lt_of_lt_of_le hi h.size) (.inl (by omega))).trans (h.block i hi hne)⟩
theorem g_set {a w : World} {g b k : Nat} {v : Value} (h : a.grownBy w (some g)) (hl : a.heap.size ≤ b) : a.grownBy (w.setCell ⟨b, k, none⟩ v) (some g) :=
  ⟨h.os, h.tape, h.output, by simpa using h.size, fun i hi hne => (Below.heap_setCell w _ _ i (by simp only; omega)).trans (h.block i hi hne)⟩
theorem g_chgG {a w : World} {g : Nat} (h : a.grownBy w (some g)) : Chg g (g + 1) a w := ⟨h.os, h.tape, h.output, h.size, fun k hk hd => h.block k hk (by intro e; injection e with e; omega)⟩
theorem Rd.alloc' {W w : World} {g q : Nat} (h : Rd W w g q) (o : Obj) : Rd W (w.alloc o) g q := h.keep ((Below.refl _ _).alloc (Nat.le_refl _) _)
theorem Rd.drew' {W w : World} {g q : Nat} (h : Rd W w g q) : Rd W w.drew g q := h.keep ((Below.refl _ _).drew)
theorem Rd.set' {W w : World} {g q b k : Nat} (h : Rd W w g q) (hb : g < b) (hw : W.heap.size ≤ b) (v : Value) : Rd W (w.setCell ⟨b, k, none⟩ v) g q := by
  obtain ⟨a, n, cap, p, h1, h2, h3, h4, h5⟩ := h.cells
  have hk : (w.setCell ⟨b, k, none⟩ v).heap[g]? = w.heap[g]? := Below.heap_setCell w _ _ g (by simp only; omega)
  exact ⟨h.new, h.bel.setCell hw _, ⟨a, n, cap, p, h1, h2, h3, by rw [World.cell?_of_block (a := ⟨g, 0, none⟩) hk]; exact h4, by rw [World.cell?_of_block (a := ⟨g, 1, none⟩) hk]; exact h5⟩,
    by rw [World.frozen?_of_block (a := ⟨g, 1, none⟩) hk]; exact h.free, by simpa using h.lt⟩
theorem grown_frozen {w w' : World} {g : Nat} (h : w.grownBy w' (some g)) {b o : Nat} (hb : b < w.heap.size) (hne : b ≠ g) : w'.frozen? ⟨b, o, none⟩ = w.frozen? ⟨b, o, none⟩ :=
  World.frozen?_of_block (h.block b hb (fun e => hne (by injection e)))
theorem okS_none : okS (.slice none 0 0) := by
  intro a n c e
  injection e with e1 e2 e3
  subst e1 e2 e3
  exact ⟨Nat.le_refl _, fun _ => rfl, fun x h => by cases h⟩
theorem RowN.grown {w w' : World} {g : Nat} {s : Value} {zs : List Int} (h : RowN w g s zs) (hg : w.grownBy w' (some g)) : RowN w' g s zs := by
  obtain ⟨b, off, cap, h1, h2, h3, h4⟩ := h
  exact ⟨b, off, cap, h1, Nat.lt_of_lt_of_le h2 hg.size, h3, fun i hi => by rw [grown_cell hg h2 h3]; exact h4 i hi⟩
theorem Box.grownG {w w' : World} {g B : Nat} {t : TypeId} {cs : Array Value} (h : Box w B t cs) (hg : w.grownBy w' (some g)) (hne : B ≠ g) : Box w' B t cs := (hg.block B h.lt (by intro e; injection e with e; exact hne e)).trans h

theorem num_at (zs : List Int) (W w : World) (g q b : Nat) (hb : b = w.heap.size) (h : Rd W w g q) (hq : q ≤ 1000000) (t : TypeId) (hz : 0 < zs.length) (hz2 : zs.length ≤ 1000) :
    Calls Try.prog 45 #[.pointer (some ⟨g, 0, none⟩), .slice (some ⟨b, 0, none⟩) zs.length zs.length] (w.alloc (.cells (zs.map (Value.int .i64)).toArray t)) fun e w' =>
      ∃ x : Int, x ∈ zs ∧ e = .returned (.int .i64 x) ∧ Rd W w' g (q + 1) ∧ w.grownBy w' (some g) := by
  subst hb
  exact num_built zs W w g q h hq t hz hz2
theorem size_drew' (w : World) : w.drew.heap.size = w.heap.size := rfl
theorem rowN_at (zs : List Int) (w : World) (g : Nat) (t : TypeId) (b : Nat) (hb : b = w.heap.size) (hg : g < w.heap.size) :
    RowN (w.alloc (.cells (zs.map (Value.int .i64)).toArray t)) g (.slice (some ⟨b, 0, none⟩) zs.length zs.length) zs := by
  subst hb
  exact rowN_built zs w g t hg
/-- A valid graph in a box at B, its row from base on, away from the box. -/
def GMid (base B : Nat) (w : World) : Prop :=
  ∃ (n : Int) (es : List Ed) (va : Option Addr) (vc lo hi : Nat), Box w B 25 #[.int .i64 n, .slice va es.length vc] ∧ gVal n es = true ∧ InR true w lo hi (.slice va es.length vc) es.length 3 (cellE es) ∧ okS (.slice va es.length vc) ∧ base ≤ lo ∧ hi ≤ w.heap.size ∧ (hi ≤ B ∨ B + 1 ≤ lo)
/-- An edge in a box that is new since w. -/
def EMid (W w wx : World) (g q : Nat) (p : Value) : Prop :=
  ∃ (x y z : Int) (e : Nat), p = .pointer (some ⟨e, 0, none⟩) ∧ (wx.cell? ⟨e, 0, none⟩ = some (.int .i64 x) ∧ wx.cell? ⟨e, 1, none⟩ = some (.int .i64 y) ∧ wx.cell? ⟨e, 2, none⟩ = some (.int .i64 z)) ∧ (w.heap.size ≤ e ∧ e < wx.heap.size) ∧ Rd W wx g q ∧ w.grownBy wx (some g)
/-- What is drawn. -/
def DrawnG (W w : World) (g q : Nat) (e : Ending) (w' : World) : Prop :=
  ∃ (n : Int) (es : List Ed) (v : Value), e = .returned (.agg #[.int .i64 n, v]) ∧ gVal n es = true ∧ InR true w' w.heap.size w'.heap.size v es.length 3 (cellE es) ∧ okS v ∧ Rd W w' g q ∧ w.grownBy w' (some g)

end Go.Proofs.Ytlgjcofpdaljnaa
namespace Go.Proofs.Ytlgjcofpdaljnaa
set_option linter.unusedVariables false
set_option linter.unusedSimpArgs false

/-- Every operation waits for earlier ones only. -/
def fwdB (ops : Array Oper) : Bool := (List.range ops.size).all fun i => match ops[i]? with
  | some o => o.after.all fun e => !Region.binds .any e || decide (e.on < i)
  | none => true
theorem ready_nil {ops : Array Oper} {L : Array Bool} (hf : fwdB ops = true) (hs : L.size = ops.size) (h0 : Region.ready .any ops L = []) : ∀ i, i < ops.size → L.getD i true = true := by
  intro i
  induction i using Nat.strongRecOn with
  | _ i ih =>
    intro hi
    cases hc : L.getD i true with
    | true => rfl
    | false =>
      have ho : ops[i]? = some ops[i] := Array.getElem?_eq_getElem hi
      have hm : i ∈ Region.ready .any ops L := by
        refine mem_ready.2 ⟨hc, _, ho, fun e he hbd => ?_⟩
        have h1 := List.all_eq_true.1 hf i (List.mem_range.2 hi)
        simp only [ho] at h1
        have h2 := Array.all_eq_true_iff_forall_mem.1 h1 e he
        have h3 : e.on < i := by simpa [hbd] using h2
        have h4 := ih e.on h3 (by omega)
        have h5 : e.on < L.size := by omega
        simpa [h5] using h4
      rw [h0] at hm
      cases hm
section
variable {P : Program} {ops : Array Oper} {Q : Exit → Act → World → Prop}
theorem wpAny_inv (I : Array Bool → Act → World → Prop) (hf : fwdB ops = true)
    (hstep : ∀ L a w, L.size = ops.size → I L a w → ∀ i o, ops[i]? = some o → L.getD i true = false → (∀ e ∈ o.after, Region.binds .any e = true → L.getD e.on false = true) → wpOp P ops Q i (fun a' w' => I (L.setIfInBounds i true) a' w') a w)
    (hend : ∀ L a w, L.size = ops.size → I L a w → (∀ i, i < ops.size → L.getD i true = true) → Q .normal a w) :
    ∀ (fuel : Nat) (L : Array Bool) (a : Act) (w : World), L.size = ops.size → (List.range ops.size).countP (fun i => !L.getD i true) ≤ fuel → I L a w → wpAny P .any ops Q fuel L a w
  | 0, L, a, w, hs, hc, hI => by
    have hz : (List.range ops.size).countP (fun i => !L.getD i true) = 0 := by omega
    have hall : ∀ i, i < ops.size → L.getD i true = true := fun i hi => by
      have := List.countP_eq_zero.1 hz i (List.mem_range.2 hi)
      simpa using this
    refine ⟨?_, hend L a w hs hI hall⟩
    cases hr : Region.ready .any ops L with
    | nil => rfl
    | cons x xs =>
      have hx : x ∈ Region.ready .any ops L := by rw [hr]; exact List.mem_cons_self
      obtain ⟨h1, o, h2, _⟩ := mem_ready.1 hx
      have := hall x (Array.getElem?_eq_some_iff.1 h2).1
      rw [h1] at this
      cases this
  | fuel + 1, L, a, w, hs, hc, hI => by
    refine ⟨fun h => hend L a w hs hI (ready_nil hf hs h), fun i hi => ?_⟩
    obtain ⟨h1, o, h2, h3⟩ := mem_ready.1 hi
    have hlt : i < ops.size := (Array.getElem?_eq_some_iff.1 h2).1
    refine wpOp_mono (fun a' w' h' => wpAny_inv I hf hstep hend fuel _ a' w' (by simpa using hs) ?_ h') (hstep L a w hs hI i o h2 h1 h3)
    have hle : (List.range ops.size).countP (fun j => !(L.setIfInBounds i true).getD j true) + 1 ≤ (List.range ops.size).countP (fun j => !L.getD j true) := by
      have key : ∀ (l : List Nat), i ∈ l → l.countP (fun j => !(L.setIfInBounds i true).getD j true) + 1 ≤ l.countP (fun j => !L.getD j true) ∧ True := by
        intro l
        have hge : ∀ l : List Nat, l.countP (fun j => !(L.setIfInBounds i true).getD j true) ≤ l.countP (fun j => !L.getD j true) := by
          intro l
          refine List.countP_mono_left (fun j _ hj => ?_)
          by_cases e : i = j
          · subst e; rw [h1]; rfl
          · rw [getD_set_ne true e] at hj; exact hj
        induction l with
        | nil => intro h; cases h
        | cons x xs ih =>
          intro h
          refine ⟨?_, trivial⟩
          rw [List.countP_cons, List.countP_cons]
          have hx : (if (!(L.setIfInBounds i true).getD x true) = true then 1 else 0) ≤ (if (!L.getD x true) = true then 1 else 0 : Nat) := by
            by_cases e : i = x
            · subst e; rw [h1]; split <;> simp
            · rw [getD_set_ne true e]; exact Nat.le_refl _
          rcases List.mem_cons.1 h with e | e
          · have h5 := hge xs
            have hlL : i < L.size := by omega
            have h6 : (L.setIfInBounds i true).getD x true = true := by rw [← e]; simp [hlL]
            have h7 : L.getD x true = false := by rw [← e]; exact h1
            have e6 : (if (!(L.setIfInBounds i true).getD x true) = true then 1 else 0 : Nat) = 0 := by rw [h6]; rfl
            have e7 : (if (!L.getD x true) = true then 1 else 0 : Nat) = 1 := by rw [h7]; rfl
            rw [e6, e7]
            omega
          · have := (ih e).1
            omega
      exact (key _ (List.mem_range.2 hlt)).1
    omega

/-- **A region that draws its order**: what holds at first, is kept by each operation that may come up, and tells at the end what is wanted. -/
theorem wp_region_inv {id : Nat} {a : Act} {w : World} (I : Array Bool → Act → World → Prop) (hm : P.follows .mixedOrders = true) (hf : fwdB ops = true)
    (h0 : I (Array.replicate ops.size false) a { w with drawn := w.drawn + 1 })
    (hstep : ∀ L a w, L.size = ops.size → I L a w → ∀ i o, ops[i]? = some o → L.getD i true = false → (∀ e ∈ o.after, Region.binds .any e = true → L.getD e.on false = true) → wpOp P ops Q i (fun a' w' => I (L.setIfInBounds i true) a' w') a w)
    (hend : ∀ L a w, L.size = ops.size → I L a w → (∀ i, i < ops.size → L.getD i true = true) → Q .normal a w) : (Code.region id ops true).wp P Q a w :=
  wp_region_any hm (wpAny_inv I hf hstep hend ops.size _ a _ (by simp) (by
    have := List.countP_le_length (p := fun i => !(Array.replicate ops.size false).getD i true) (l := List.range ops.size)
    simpa using this) h0)
end
end Go.Proofs.Ytlgjcofpdaljnaa
namespace Go.Proofs.Ytlgjcofpdaljnaa
open Go.RowKit Go.BigFrame Go.Deep
set_option linter.unusedVariables false
set_option linter.unusedSimpArgs false
set_option linter.unnecessarySimpa false

theorem InR.set8 {fz : Bool} {w : World} {lo hi B k : Nat} {s u : Value} {n sz : Nat} {cs : Nat → Value} (r : InR fz w lo hi s n sz cs) (hB : B < lo) : InR fz (w.setCell ⟨B, k, none⟩ u) lo hi s n sz cs :=
  r.chg (l := B) (h := B + 1) ((Chg.refl B (B + 1) w).setCell (p := ⟨B, k, none⟩) (by simp) (by simp) u) (.inl hB)
/-- What stands in a slot: the value that has come up, or what was there. -/
def sel (b : Bool) (v u : Value) : Value := bif b then v else u
theorem sel_t (v u : Value) : sel true v u = v := rfl
theorem sel_f (v u : Value) : sel false v u = u := rfl

set_option maxRecDepth 20000 in
set_option maxHeartbeats 8000000 in
theorem l2Draw (W w : World) (g q : Nat) (h : Rd W w g q) (hq : q ≤ 900000) :
    Calls Try.prog 78 #[.pointer (some ⟨g, 0, none⟩)] w (DrawnG W w g (q + 44)) := by
  have hglt := h.lt
  have hgv0 : ∀ n ∈ [5, 4, 6, 3, 8, 1, 12], gVal n [] = true := by decide
  have HV0 := Lib.hid hgv0
  have HD := Lib.hid h
  clear h hgv0
  go_enter Try.func78, Try.ntmps78
  go_wp2_with fail
  have HW0 := Lib.hid (HD.out.alloc' (.cells #[.int .i64 0, .slice none 0 0] 25))
  have hG0 : w.grownBy (w.alloc (.cells #[.int .i64 0, .slice none 0 0] 25)) (some g) := g_alloc (grown_refl _ _) _
  have hBx0 := Box.new w 25 #[.int .i64 0, .slice none 0 0]
  have hs0 : w.heap.size + 1 = (w.alloc (.cells #[.int .i64 0, .slice none 0 0] 25)).heap.size := by simp
  generalize (w.alloc (.cells #[.int .i64 0, .slice none 0 0] 25)) = w0 at HW0 hG0 hBx0 hs0 ⊢
  refine (num_at [5, 4, 6, 3, 8, 1, 12] W w0 g q _ hs0 HW0.out (by omega) _ (by decide) (by decide)).mono ?_
  rintro e w1 ⟨n0, hn, rfl, hR1, hG1⟩
  have H1 := Lib.hid (And.intro hR1 (And.intro (grown_trans' hG0 hG1) (HV0.out n0 hn)))
  have HB1 := Lib.hid (hBx0.grownG hG1 (by omega))
  clear hR1 hG1 hn hG0 hBx0 HW0
  go_wp2_with fail
  have hRw := H1.out.1.alloc' (.cells #[.int .i64 n0, .slice none 0 0] 25)
  have hGw := g_alloc H1.out.2.1 (.cells #[.int .i64 n0, .slice none 0 0] 25)
  have hBw := Box.new w1 25 #[.int .i64 n0, .slice none 0 0]
  have hBr := HB1.out.alloc (.cells #[.int .i64 n0, .slice none 0 0] 25)
  have hs1 : w1.heap.size + 1 = (w1.alloc (.cells #[.int .i64 n0, .slice none 0 0] 25)).heap.size := by simp
  have hs2 : w.heap.size ≤ w1.heap.size := H1.out.2.1.size
  generalize (w1.alloc (.cells #[.int .i64 n0, .slice none 0 0] 25)) = w2 at hRw hGw hBw hBr hs1 ⊢
  refine (num_at [7, 5, 10, 3, 14, 0] W w2 g (q + 1) _ hs1 hRw (by omega) _ (by decide) (by decide)).mono ?_
  rintro e w3 ⟨i0, hi0, rfl, hR3, hG3⟩
  obtain ⟨I, hI, hI14⟩ : ∃ I : Nat, i0 = (I : Int) ∧ I ≤ 14 := by
    refine ⟨i0.toNat, ?_, ?_⟩ <;> simp at hi0 <;> omega
  subst hI
  have hB3 := hBw.grownG hG3 (by omega)
  have hB4 := hBr.grownG hG3 (by omega)
  have H3 := Lib.hid (And.intro (hR3.more (show q + 1 + 1 ≤ q + 44 - 3 * I by omega)) (And.intro (grown_trans' hGw hG3) hB4))
  have HM : Hid (GMid (w.heap.size + 1) w1.heap.size w3) := Lib.hid ⟨n0, [], none, 0, w.heap.size + 1, w.heap.size + 1, hB3, H1.out.2.2, ⟨none, 0, rfl, .inl rfl⟩, okS_none, Nat.le_refl _, by have := hB3.lt; have := HB1.out.lt; omega, .inl (by have := HB1.out.lt; omega)⟩
  clear hi0 hR3 hG3 hB3 hB4 hRw hGw hBw hBr hs1
  go_wp2
  go_loopw [4] (fun c wr => ∃ i : Nat, i ≤ 14 ∧ c = .int .i64 i ∧ Hid (GMid (w.heap.size + 1) w1.heap.size wr) ∧ Hid (Rd W wr g (q + 44 - 3 * i) ∧ w.grownBy wr (some g) ∧ Box wr w.heap.size 25 #[.int .i64 0, .slice none 0 0])) (fun c _ => (intOf c).toNat)
  case atStart => exact ⟨I, hI14, rfl, HM, H3⟩
  case round =>
    obtain ⟨i, hi, rfl, HV, HZ⟩ := hrel
    obtain ⟨n, es, va, vc, lo, hi', hbx, hgv, hrow, hok, hlo, hhi, hdj⟩ := HV.out
    have HX := Lib.hid hbx
    have HR := Lib.hid hrow
    have HO := Lib.hid hok
    have HGV := Lib.hid hgv
    have hn12 : n ≤ 12 := by simp only [gVal, Bool.and_eq_true, decide_eq_true_eq] at hgv; exact hgv.1.2
    have hlt3 : w1.heap.size < wr.heap.size := hbx.lt
    clear hbx hrow hok hgv HM H3
    by_cases hpos : 0 < i
    · have hpos' : (0 : Int) < i := by omega
      have hS0 : ∀ w', wr.grownBy w' (some g) → w'.cell? ⟨w1.heap.size, 0, none⟩ = some (.int .i64 n) := fun w' h => by
        have := (HX.out.grownG h (by omega)).cell 0
        simpa using this
      have HS := Lib.hid hS0
      have hRr := HZ.out.1
      clear hS0
      go_upto_region 5 with fail
      go_cut [5] from 15 to 38 (fun p wx => EMid W wr wx g (q + 44 - 3 * i + 1 + 1 + 1) p)
      · refine wp_region_inv (fun L a w' => ∃ (b0 b1 b2 b3 b4 b5 b6 b7 b8 b9 b10 b11 b12 b13 : Bool) (x3 : Int) (x7 : Int) (x10 : Int) (y : Nat) (e : Nat) (z : Value), L = #[b0, b1, b2, b3, b4, b5, b6, b7, b8, b9, b10, b11, b12, b13] ∧ a = { tmps := #[Value.pointer (some ⟨g, 0, none⟩), undef, Value.pointer (some ⟨w.heap.size, 0, none⟩), Value.pointer (some ⟨w1.heap.size, 0, none⟩), Value.int .i64 (i : Int), sel b12 (Value.pointer (some ⟨e, 0, none⟩)) u5, u6, u7, Value.pointer (some ⟨g, 0, none⟩), Value.slice (some ⟨w0.heap.size, 0, none⟩) 7 7, Value.int .i64 n0, Value.agg #[.int .i64 n0, .slice none 0 0], Value.pointer (some ⟨g, 0, none⟩), Value.slice (some ⟨w1.heap.size + 1, 0, none⟩) 6 6, Value.int .i64 (I : Int), Value.int .i64 (i : Int), Value.bool true, u17, u18, sel b0 (Value.pointer (some ⟨g, 0, none⟩)) u19, sel b1 (Value.pointer (some ⟨w1.heap.size, 0, none⟩)) u20, sel b2 (Value.int .i64 n) u21, sel b3 (Value.int .i64 x3) u22, sel b4 (Value.pointer (some ⟨g, 0, none⟩)) u23, sel b5 (Value.pointer (some ⟨w1.heap.size, 0, none⟩)) u24, sel b6 (Value.int .i64 n) u25, sel b7 (Value.int .i64 x7) u26, sel b8 (Value.pointer (some ⟨g, 0, none⟩)) u27, sel b9 (Value.slice (some ⟨y, 0, none⟩) 7 7) u28, sel b10 (Value.int .i64 x10) u29, sel b11 z u30, u31, u32, u33, u34, u35, u36, u37, u38, undef], defers := [] } ∧ Hid ((Rd W w' g (q + 44 - 3 * i + b3.toNat + b7.toNat + b10.toNat)) ∧ (wr.grownBy w' (some g)) ∧ (b9 = true → b13 = false → RowN w' g (.slice (some ⟨y, 0, none⟩) 7 7) [1, 5, 3, 2, 10, 50, 999]) ∧ (b12 = true → wr.heap.size ≤ e ∧ e < w'.heap.size ∧ (b13 = false → Box w' e 67 #[.int .i64 0, .int .i64 0, .int .i64 0]) ∧ (b13 = true → Box w' e 67 #[.int .i64 x3, .int .i64 x7, .int .i64 x10])) ∧ (b13 = true → (b3 && b7 && b9 && b10 && b12) = true) ∧ (b11 = true → (b3 && b7 && b10) = true ∧ z = .agg #[.int .i64 x3, .int .i64 x7, .int .i64 x10]))) (by kernel_rfl) (by kernel_rfl) ?_ ?_ ?_
        · exact ⟨false, false, false, false, false, false, false, false, false, false, false, false, false, false, 0, 0, 0, 0, 0, undef, rfl, rfl, Lib.hid ⟨hRr.drew', g_drew (grown_refl _ _), fun h => (by cases h), fun h => (by cases h), fun h => (by cases h), fun h => (by cases h)⟩⟩
        · rintro L a w' hL ⟨b0, b1, b2, b3, b4, b5, b6, b7, b8, b9, b10, b11, b12, b13, x3, x7, x10, y, e, z, rfl, rfl, HF⟩ k o ho hl hd
          have hk : k = 0 ∨ k = 1 ∨ k = 2 ∨ k = 3 ∨ k = 4 ∨ k = 5 ∨ k = 6 ∨ k = 7 ∨ k = 8 ∨ k = 9 ∨ k = 10 ∨ k = 11 ∨ k = 12 ∨ k = 13 := by have := (Array.getElem?_eq_some_iff.1 ho).1; simp at this; omega
          rcases hk with rfl | rfl | rfl | rfl | rfl | rfl | rfl | rfl | rfl | rfl | rfl | rfl | rfl | rfl
          · obtain rfl := Option.some.inj ho
            have hc0 : b0 = false := hl
            subst hc0
            clear hl hd ho hL
            simp only [sel_t, sel_f]
            refine wpOp_step rfl ?_
            intro K' hK'
            go_simp
            exact hK' _ _ ⟨true, b1, b2, b3, b4, b5, b6, b7, b8, b9, b10, b11, b12, b13, x3, x7, x10, y, e, z, rfl, rfl, Lib.hid ⟨HF.out.1, HF.out.2.1, HF.out.2.2.1, HF.out.2.2.2.1, HF.out.2.2.2.2.1, HF.out.2.2.2.2.2⟩⟩
          · obtain rfl := Option.some.inj ho
            have hc1 : b1 = false := hl
            subst hc1
            clear hl hd ho hL
            simp only [sel_t, sel_f]
            refine wpOp_step rfl ?_
            intro K' hK'
            go_simp
            exact hK' _ _ ⟨b0, true, b2, b3, b4, b5, b6, b7, b8, b9, b10, b11, b12, b13, x3, x7, x10, y, e, z, rfl, rfl, Lib.hid ⟨HF.out.1, HF.out.2.1, HF.out.2.2.1, HF.out.2.2.2.1, HF.out.2.2.2.2.1, HF.out.2.2.2.2.2⟩⟩
          · obtain rfl := Option.some.inj ho
            have hc2 : b2 = false := hl
            have hc1 : b1 = true := hd ⟨1, .data⟩ (by simp) rfl
            subst hc2 hc1
            clear hl hd ho hL
            simp only [sel_t, sel_f]
            refine wpOp_step rfl ?_
            intro K' hK'
            have x0 := HS.out _ HF.out.2.1
            go_simp
            exact hK' _ _ ⟨b0, true, true, b3, b4, b5, b6, b7, b8, b9, b10, b11, b12, b13, x3, x7, x10, y, e, z, rfl, rfl, Lib.hid ⟨HF.out.1, HF.out.2.1, HF.out.2.2.1, HF.out.2.2.2.1, HF.out.2.2.2.2.1, HF.out.2.2.2.2.2⟩⟩
          · obtain rfl := Option.some.inj ho
            have hc3 : b3 = false := hl
            have hc0 : b0 = true := hd ⟨0, .data⟩ (by simp) rfl
            have hc2 : b2 = true := hd ⟨2, .data⟩ (by simp) rfl
            subst hc3 hc0 hc2
            clear hl hd ho hL
            simp only [sel_t, sel_f]
            refine wpOp_step rfl ?_
            have hb13 : ¬ (b13 = true) := fun h => by have := HF.out.2.2.2.2.1 h; simp at this
            have H13 := Lib.hid hb13
            have hb11 : ¬ (b11 = true) := fun h => by have := (HF.out.2.2.2.2.2 h).1; simp at this
            have H11 := Lib.hid hb11
            intro K' hK'
            have hcall := (pick n W w' g _ HF.out.1 (by have := b7.toNat_le; have := b10.toNat_le; simp only [Bool.toNat_false, Bool.toNat_true]; omega) (by omega))
            have HC := Lib.hid hcall
            clear hcall
            clear hb13 hb11
            go_simp
            refine HC.out.mono ?_
            rintro e1 w2 ⟨x, rfl, hx, hy, hR, hG⟩
            exact hK' _ _ ⟨true, b1, true, true, b4, b5, b6, b7, b8, b9, b10, b11, b12, b13, x, x7, x10, y, e, z, rfl, rfl, Lib.hid ⟨(hR.more (by simp only [Bool.toNat_false, Bool.toNat_true]; omega)), (grown_trans' HF.out.2.1 hG), (fun h h0 => (HF.out.2.2.1 h h0).grown hG), (fun h => ⟨(HF.out.2.2.2.1 h).1, Nat.lt_of_lt_of_le (HF.out.2.2.2.1 h).2.1 hG.size, fun h2 => ((HF.out.2.2.2.1 h).2.2.1 h2).grownG hG (by have := (HF.out.2.2.2.1 h).1; have := hRr.lt; omega), fun h2 => absurd h2 H13.out⟩), fun h => absurd h H13.out, fun h => absurd h H11.out⟩⟩
          · obtain rfl := Option.some.inj ho
            have hc4 : b4 = false := hl
            subst hc4
            clear hl hd ho hL
            simp only [sel_t, sel_f]
            refine wpOp_step rfl ?_
            intro K' hK'
            go_simp
            exact hK' _ _ ⟨b0, b1, b2, b3, true, b5, b6, b7, b8, b9, b10, b11, b12, b13, x3, x7, x10, y, e, z, rfl, rfl, Lib.hid ⟨HF.out.1, HF.out.2.1, HF.out.2.2.1, HF.out.2.2.2.1, HF.out.2.2.2.2.1, HF.out.2.2.2.2.2⟩⟩
          · obtain rfl := Option.some.inj ho
            have hc5 : b5 = false := hl
            subst hc5
            clear hl hd ho hL
            simp only [sel_t, sel_f]
            refine wpOp_step rfl ?_
            intro K' hK'
            go_simp
            exact hK' _ _ ⟨b0, b1, b2, b3, b4, true, b6, b7, b8, b9, b10, b11, b12, b13, x3, x7, x10, y, e, z, rfl, rfl, Lib.hid ⟨HF.out.1, HF.out.2.1, HF.out.2.2.1, HF.out.2.2.2.1, HF.out.2.2.2.2.1, HF.out.2.2.2.2.2⟩⟩
          · obtain rfl := Option.some.inj ho
            have hc6 : b6 = false := hl
            have hc5 : b5 = true := hd ⟨5, .data⟩ (by simp) rfl
            subst hc6 hc5
            clear hl hd ho hL
            simp only [sel_t, sel_f]
            refine wpOp_step rfl ?_
            intro K' hK'
            have x0 := HS.out _ HF.out.2.1
            go_simp
            exact hK' _ _ ⟨b0, b1, b2, b3, b4, true, true, b7, b8, b9, b10, b11, b12, b13, x3, x7, x10, y, e, z, rfl, rfl, Lib.hid ⟨HF.out.1, HF.out.2.1, HF.out.2.2.1, HF.out.2.2.2.1, HF.out.2.2.2.2.1, HF.out.2.2.2.2.2⟩⟩
          · obtain rfl := Option.some.inj ho
            have hc7 : b7 = false := hl
            have hc4 : b4 = true := hd ⟨4, .data⟩ (by simp) rfl
            have hc6 : b6 = true := hd ⟨6, .data⟩ (by simp) rfl
            have hc3 : b3 = true := hd ⟨3, .chain⟩ (by simp) rfl
            subst hc7 hc4 hc6 hc3
            clear hl hd ho hL
            simp only [sel_t, sel_f]
            refine wpOp_step rfl ?_
            have hb13 : ¬ (b13 = true) := fun h => by have := HF.out.2.2.2.2.1 h; simp at this
            have H13 := Lib.hid hb13
            have hb11 : ¬ (b11 = true) := fun h => by have := (HF.out.2.2.2.2.2 h).1; simp at this
            have H11 := Lib.hid hb11
            intro K' hK'
            have hcall := (pick n W w' g _ HF.out.1 (by have := b10.toNat_le; simp only [Bool.toNat_false, Bool.toNat_true]; omega) (by omega))
            have HC := Lib.hid hcall
            clear hcall
            clear hb13 hb11
            go_simp
            refine HC.out.mono ?_
            rintro e1 w2 ⟨x, rfl, hx, hy, hR, hG⟩
            exact hK' _ _ ⟨b0, b1, b2, true, true, b5, true, true, b8, b9, b10, b11, b12, b13, x3, x, x10, y, e, z, rfl, rfl, Lib.hid ⟨(hR.more (by simp only [Bool.toNat_false, Bool.toNat_true]; omega)), (grown_trans' HF.out.2.1 hG), (fun h h0 => (HF.out.2.2.1 h h0).grown hG), (fun h => ⟨(HF.out.2.2.2.1 h).1, Nat.lt_of_lt_of_le (HF.out.2.2.2.1 h).2.1 hG.size, fun h2 => ((HF.out.2.2.2.1 h).2.2.1 h2).grownG hG (by have := (HF.out.2.2.2.1 h).1; have := hRr.lt; omega), fun h2 => absurd h2 H13.out⟩), fun h => absurd h H13.out, fun h => absurd h H11.out⟩⟩
          · obtain rfl := Option.some.inj ho
            have hc8 : b8 = false := hl
            subst hc8
            clear hl hd ho hL
            simp only [sel_t, sel_f]
            refine wpOp_step rfl ?_
            intro K' hK'
            go_simp
            exact hK' _ _ ⟨b0, b1, b2, b3, b4, b5, b6, b7, true, b9, b10, b11, b12, b13, x3, x7, x10, y, e, z, rfl, rfl, Lib.hid ⟨HF.out.1, HF.out.2.1, HF.out.2.2.1, HF.out.2.2.2.1, HF.out.2.2.2.2.1, HF.out.2.2.2.2.2⟩⟩
          · obtain rfl := Option.some.inj ho
            have hc9 : b9 = false := hl
            subst hc9
            clear hl hd ho hL
            simp only [sel_t, sel_f]
            refine wpOp_step rfl ?_
            have hb13 : ¬ (b13 = true) := fun h => by have := HF.out.2.2.2.2.1 h; simp at this
            have H13 := Lib.hid hb13
            intro K' hK'
            clear hb13
            go_simp
            exact hK' _ _ ⟨b0, b1, b2, b3, b4, b5, b6, b7, b8, true, b10, b11, b12, b13, x3, x7, x10, w'.heap.size, e, z, rfl, rfl, Lib.hid ⟨HF.out.1.alloc' _, g_alloc HF.out.2.1 _, (fun _ _ => rowN_at [1, 5, 3, 2, 10, 50, 999] w' g _ _ rfl HF.out.1.lt), (fun h => ⟨(HF.out.2.2.2.1 h).1, Nat.lt_of_lt_of_le (HF.out.2.2.2.1 h).2.1 (by simp), fun h2 => ((HF.out.2.2.2.1 h).2.2.1 h2).alloc _, fun h2 => ((HF.out.2.2.2.1 h).2.2.2 h2).alloc _⟩), fun h => absurd h H13.out, HF.out.2.2.2.2.2⟩⟩
          · obtain rfl := Option.some.inj ho
            have hc10 : b10 = false := hl
            have hc8 : b8 = true := hd ⟨8, .data⟩ (by simp) rfl
            have hc9 : b9 = true := hd ⟨9, .data⟩ (by simp) rfl
            have hc7 : b7 = true := hd ⟨7, .chain⟩ (by simp) rfl
            subst hc10 hc8 hc9 hc7
            clear hl hd ho hL
            simp only [sel_t, sel_f]
            refine wpOp_step rfl ?_
            have hb13 : ¬ (b13 = true) := fun h => by have := HF.out.2.2.2.2.1 h; simp at this
            have H13 := Lib.hid hb13
            have hb11 : ¬ (b11 = true) := fun h => by have := (HF.out.2.2.2.2.2 h).1; simp at this
            have H11 := Lib.hid hb11
            intro K' hK'
            have hcall := (num [1, 5, 3, 2, 10, 50, 999] (.slice (some ⟨y, 0, none⟩) 7 7) W w' g _ HF.out.1 (by have := b3.toNat_le; simp only [Bool.toNat_false, Bool.toNat_true]; omega) (HF.out.2.2.1 rfl (by simpa using hb13)) (by decide) (by decide))
            have HC := Lib.hid hcall
            clear hcall
            clear hb13 hb11
            go_simp
            refine HC.out.mono ?_
            rintro e1 w2 ⟨x, hx, rfl, hR, hG⟩
            exact hK' _ _ ⟨b0, b1, b2, b3, b4, b5, b6, true, true, true, true, b11, b12, b13, x3, x7, x, y, e, z, rfl, rfl, Lib.hid ⟨(hR.more (by simp only [Bool.toNat_false, Bool.toNat_true]; omega)), (grown_trans' HF.out.2.1 hG), (fun h h0 => (HF.out.2.2.1 h h0).grown hG), (fun h => ⟨(HF.out.2.2.2.1 h).1, Nat.lt_of_lt_of_le (HF.out.2.2.2.1 h).2.1 hG.size, fun h2 => ((HF.out.2.2.2.1 h).2.2.1 h2).grownG hG (by have := (HF.out.2.2.2.1 h).1; have := hRr.lt; omega), fun h2 => absurd h2 H13.out⟩), fun h => absurd h H13.out, fun h => absurd h H11.out⟩⟩
          · obtain rfl := Option.some.inj ho
            have hc11 : b11 = false := hl
            have hc3 : b3 = true := hd ⟨3, .data⟩ (by simp) rfl
            have hc7 : b7 = true := hd ⟨7, .data⟩ (by simp) rfl
            have hc10 : b10 = true := hd ⟨10, .data⟩ (by simp) rfl
            subst hc11 hc3 hc7 hc10
            clear hl hd ho hL
            simp only [sel_t, sel_f]
            refine wpOp_step rfl ?_
            intro K' hK'
            go_simp
            exact hK' _ _ ⟨b0, b1, b2, true, b4, b5, b6, true, b8, b9, true, true, b12, b13, x3, x7, x10, y, e, (.agg #[.int .i64 x3, .int .i64 x7, .int .i64 x10]), rfl, rfl, Lib.hid ⟨HF.out.1, HF.out.2.1, HF.out.2.2.1, HF.out.2.2.2.1, HF.out.2.2.2.2.1, fun _ => ⟨rfl, rfl⟩⟩⟩
          · obtain rfl := Option.some.inj ho
            have hc12 : b12 = false := hl
            subst hc12
            clear hl hd ho hL
            simp only [sel_t, sel_f]
            refine wpOp_step rfl ?_
            have hb13 : ¬ (b13 = true) := fun h => by have := HF.out.2.2.2.2.1 h; simp at this
            have H13 := Lib.hid hb13
            intro K' hK'
            clear hb13
            go_simp
            exact hK' _ _ ⟨b0, b1, b2, b3, b4, b5, b6, b7, b8, b9, b10, b11, true, b13, x3, x7, x10, y, w'.heap.size, z, rfl, rfl, Lib.hid ⟨HF.out.1.alloc' _, g_alloc HF.out.2.1 _, (fun h h0 => (HF.out.2.2.1 h h0).grown (g_alloc (grown_refl _ _) _)), (fun h => ⟨HF.out.2.1.size, by simp, fun h2 => Box.new w' _ _, fun h2 => absurd h2 H13.out⟩), fun h => absurd h H13.out, HF.out.2.2.2.2.2⟩⟩
          · obtain rfl := Option.some.inj ho
            have hc13 : b13 = false := hl
            have hc12 : b12 = true := hd ⟨12, .data⟩ (by simp) rfl
            have hc11 : b11 = true := hd ⟨11, .data⟩ (by simp) rfl
            have hc10 : b10 = true := hd ⟨10, .phase⟩ (by simp) rfl
            have hc0 : b0 = true := hd ⟨0, .phase⟩ (by simp) rfl
            have hc1 : b1 = true := hd ⟨1, .phase⟩ (by simp) rfl
            have hc2 : b2 = true := hd ⟨2, .phase⟩ (by simp) rfl
            have hc3 : b3 = true := hd ⟨3, .phase⟩ (by simp) rfl
            have hc4 : b4 = true := hd ⟨4, .phase⟩ (by simp) rfl
            have hc5 : b5 = true := hd ⟨5, .phase⟩ (by simp) rfl
            have hc6 : b6 = true := hd ⟨6, .phase⟩ (by simp) rfl
            have hc7 : b7 = true := hd ⟨7, .phase⟩ (by simp) rfl
            have hc8 : b8 = true := hd ⟨8, .phase⟩ (by simp) rfl
            have hc9 : b9 = true := hd ⟨9, .phase⟩ (by simp) rfl
            subst hc13 hc12 hc11 hc10 hc0 hc1 hc2 hc3 hc4 hc5 hc6 hc7 hc8 hc9
            clear hl hd ho hL
            simp only [sel_t, sel_f]
            refine wpOp_step rfl ?_
            intro K' hK'
            have hz := (HF.out.2.2.2.2.2 rfl).2
            subst hz
            have hB := (HF.out.2.2.2.1 rfl).2.2.1 rfl
            have c0 : w'.cell? ⟨e, 0, none⟩ = some (.int .i64 0) := by simpa using hB.cell 0
            have c1 : w'.cell? ⟨e, 1, none⟩ = some (.int .i64 0) := by simpa using hB.cell 1
            have c2 : w'.cell? ⟨e, 2, none⟩ = some (.int .i64 0) := by simpa using hB.cell 2
            have f0 := hB.frozen 0
            have f1 := hB.frozen 1
            have f2 := hB.frozen 2
            have hge := (HF.out.2.2.2.1 rfl).1
            have hlt := (HF.out.2.2.2.1 rfl).2.1
            have hgl := hRr.lt
            have hnw := hRr.bel.size
            go_simp
            exact hK' _ _ ⟨true, true, true, true, true, true, true, true, true, true, true, true, true, true, x3, x7, x10, y, e, _, rfl, rfl, Lib.hid ⟨((HF.out.1.set' (by omega) (by omega) _).set' (by omega) (by omega) _).set' (by omega) (by omega) _, (g_set (g_set (g_set HF.out.2.1 hge) hge) hge), (fun _ h => by cases h), (fun h => ⟨hge, by simpa using hlt, fun h2 => (by cases h2), fun h2 => by simpa using ((hB.set 0 _).set 1 _).set 2 _⟩), fun _ => rfl, HF.out.2.2.2.2.2⟩⟩
        · rintro L a w' hL ⟨b0, b1, b2, b3, b4, b5, b6, b7, b8, b9, b10, b11, b12, b13, x3, x7, x10, y, e, z, rfl, rfl, HF⟩ hall
          have hc0 : b0 = true := hall 0 (by decide)
          have hc1 : b1 = true := hall 1 (by decide)
          have hc2 : b2 = true := hall 2 (by decide)
          have hc3 : b3 = true := hall 3 (by decide)
          have hc4 : b4 = true := hall 4 (by decide)
          have hc5 : b5 = true := hall 5 (by decide)
          have hc6 : b6 = true := hall 6 (by decide)
          have hc7 : b7 = true := hall 7 (by decide)
          have hc8 : b8 = true := hall 8 (by decide)
          have hc9 : b9 = true := hall 9 (by decide)
          have hc10 : b10 = true := hall 10 (by decide)
          have hc11 : b11 = true := hall 11 (by decide)
          have hc12 : b12 = true := hall 12 (by decide)
          have hc13 : b13 = true := hall 13 (by decide)
          subst hc0 hc1 hc2 hc3 hc4 hc5 hc6 hc7 hc8 hc9 hc10 hc11 hc12 hc13
          simp only [sel_t]
          have hF := HF.out
          have hB := (hF.2.2.2.1 rfl).2.2.2 rfl
          have HE : Hid (EMid W wr w' g (q + 44 - 3 * i + 1 + 1 + 1) (.pointer (some ⟨e, 0, none⟩))) := Lib.hid ⟨x3, x7, x10, e, rfl, ⟨by simpa using hB.cell 0, by simpa using hB.cell 1, by simpa using hB.cell 2⟩, ⟨(hF.2.2.2.1 rfl).1, (hF.2.2.2.1 rfl).2.1⟩, hF.1.more (by simp only [Bool.toNat_true]; omega), hF.2.1⟩
          clear hF hB HF
          go_wp2_with fail
          go_meet
          case rel => exact HE.out
      · obtain ⟨x, y, z, e, rfl, ⟨c0, c1, c2⟩, ⟨hge, hlt⟩, hRc, hGc⟩ := hcut
        have hXc := HX.out.grownG hGc (by have := HD.out.lt; omega)
        have x0 : wc.cell? ⟨w1.heap.size, 0, none⟩ = some (.int .i64 n) := by simpa using hXc.cell 0
        have x1 : wc.cell? ⟨w1.heap.size, 1, none⟩ = some (.slice va es.length vc) := by simpa using hXc.cell 1
        have hrowc := HR.out.chg (g_chgG hGc) (.inl (by omega))
        have h40 := (gVal_iff.1 HGV.out).1.2.2
        have hput := sPutEdge n es x y z (.slice va es.length vc) wc hrowc.edges (by omega)
        have hlc : wr.heap.size ≤ wc.heap.size := hGc.size
        have HP := Lib.hid hput
        have HC := Lib.hid (And.intro hRc (And.intro hGc (And.intro hXc (And.intro hrowc (HZ.out.2.2.grownG hGc (by omega))))))
        clear hput hRc hGc hXc hrowc hRr
        cases hpb : putB n es (x, y, z)
        · have hp := HP.out
          rw [hpb] at hp
          have HP2 := Lib.hid hp
          clear hp HP hpb
          go_wp2_with fail
          refine HP2.out.mono ?_
          rintro e1 w5 ⟨v, rfl, hown, hokv, hb5⟩
          obtain ⟨pa, pc, rfl, hz⟩ := id hown
          have hb6 : Below w5.heap.size w5 (w5.alloc (.cells #[.int .i64 (putN n es (x, y, z)), .slice pa (putL n es (x, y, z)).length pc] 25)) := (Below.refl _ _).alloc (Nat.le_refl _) _
          have hb := bel_trans hb5 hb6
          have HE := Lib.hid (And.intro (HC.out.1.keep hb) (And.intro (g_below HC.out.2.1 hb) (And.intro (HC.out.2.2.1.keep hb) (And.intro (HC.out.2.2.2.1.keep hb) (HC.out.2.2.2.2.keep hb)))))
          have hsz := hb.size
          clear hz hown hokv hb5 hb6 hb
          go_wp2
          generalize (w5.alloc (.cells #[.int .i64 (putN n es (x, y, z)), .slice pa (putL n es (x, y, z)).length pc] 25)) = w6 at HE hsz ⊢
          go_roundw
          case rel => (rw [show ((i : Int) - 1) = ((i - 1 : Nat) : Int) by omega]; exact ⟨i - 1, by omega, rfl, Lib.hid ⟨n, es, va, vc, lo, hi', HE.out.2.2.1, HGV.out, HE.out.2.2.2.1, HO.out, hlo, by omega, hdj⟩, Lib.hid ⟨HE.out.1.more (by omega), grown_trans' HZ.out.2.1 HE.out.2.1, HE.out.2.2.2.2⟩⟩)
          case measure => simp [intOf]; omega
        · have hp := HP.out
          rw [hpb, show putN n es (x, y, z) = n by unfold putN; rw [if_pos hpb], show putL n es (x, y, z) = pL es (x, y, z) by unfold putL; rw [if_pos hpb]] at hp
          have HP2 := Lib.hid hp
          have hgp : gVal n (pL es (x, y, z)) = true := by
            rw [gVal_put HGV.out]
            unfold putB at hpb
            rw [HGV.out, Bool.true_and] at hpb
            exact hpb
          have HGP := Lib.hid hgp
          obtain ⟨L, hL⟩ : ∃ L, L = pL es (x, y, z) := ⟨_, rfl⟩
          rw [← hL] at HP2 HGP
          clear hp HP hpb hgp hL
          go_wp2_with fail
          refine HP2.out.mono ?_
          rintro e1 w5 ⟨v, rfl, hown, hokv, hb5⟩
          obtain ⟨pa, pc, rfl, hz⟩ := id hown
          have hown5 : InR true w5 wc.heap.size w5.heap.size (.slice pa L.length pc) L.length 3 (cellE L) := hown
          have hB5 := HC.out.2.2.1.keep hb5
          have hlt5 := hB5.lt
          have HE := Lib.hid (And.intro (HC.out.1.keep hb5) (And.intro (g_below HC.out.2.1 hb5) (And.intro hB5 (And.intro hown5 (And.intro (HC.out.2.2.2.2.keep hb5) hokv)))))
          have hsz := hb5.size
          have q0 : w5.cell? ⟨w1.heap.size, 0, none⟩ = some (.int .i64 n) := by simpa using hB5.cell 0
          have q1 : w5.cell? ⟨w1.heap.size, 1, none⟩ = some (.slice va es.length vc) := by simpa using hB5.cell 1
          have q2 := hB5.frozen 0
          have q3 := hB5.frozen 1
          have hW := HD.out.new
          have hW2 := HD.out.bel.size
          have hB1l := HB1.out.lt
          clear hz hown hokv hb5 hown5 hB5
          go_wp2
          go_roundw
          case rel =>
            have hR6 := ((HE.out.1.set' (b := w1.heap.size) (k := 0) (by omega) (by omega) (.int .i64 n)).set' (b := w1.heap.size) (k := 1) (by omega) (by omega) (.slice pa L.length pc)).alloc' (.cells #[.int .i64 n, .slice pa L.length pc] 25)
            have hG6 := g_alloc (g_set (b := w1.heap.size) (k := 1) (v := .slice pa L.length pc) (g_set (b := w1.heap.size) (k := 0) (v := .int .i64 n) (grown_trans' HZ.out.2.1 HE.out.2.1) (by omega)) (by omega)) (.cells #[.int .i64 n, .slice pa L.length pc] 25)
            have hX6 : Box (((w5.setCell ⟨w1.heap.size, 0, none⟩ (.int .i64 n)).setCell ⟨w1.heap.size, 1, none⟩ (.slice pa L.length pc)).alloc (.cells #[.int .i64 n, .slice pa L.length pc] 25)) w1.heap.size 25 #[.int .i64 n, .slice pa L.length pc] := by
              simpa using ((HE.out.2.2.1.set 0 (.int .i64 n)).set 1 (.slice pa L.length pc)).alloc (.cells #[.int .i64 n, .slice pa L.length pc] 25)
            have hI6 := InR.keep ((HE.out.2.2.2.1.set8 (k := 0) (u := .int .i64 n) (show w1.heap.size < wc.heap.size by omega)).set8 (k := 1) (u := .slice pa L.length pc) (show w1.heap.size < wc.heap.size by omega)) ((Below.refl _ _).alloc (Nat.le_refl _) (.cells #[.int .i64 n, .slice pa L.length pc] 25))
            have hY6 := ((HE.out.2.2.2.2.1.setOther (B' := w1.heap.size) (by omega) 0 (.int .i64 n)).setOther (B' := w1.heap.size) (by omega) 1 (.slice pa L.length pc)).alloc (.cells #[.int .i64 n, .slice pa L.length pc] 25)
            rw [show ((i : Int) - 1) = ((i - 1 : Nat) : Int) by omega]
            exact ⟨i - 1, by omega, rfl, Lib.hid ⟨n, L, pa, pc, wc.heap.size, w5.heap.size, hX6, HGP.out, hI6, HE.out.2.2.2.2.2, by omega, by simp, .inr (by omega)⟩, Lib.hid ⟨hR6.more (by omega), hG6, hY6⟩⟩
          case measure => simp [intOf]; omega
    · have hi0 : i = 0 := by omega
      subst hi0
      have x0 : wr.cell? ⟨w1.heap.size, 0, none⟩ = some (.int .i64 n) := by simpa using HX.out.cell 0
      have x1 : wr.cell? ⟨w1.heap.size, 1, none⟩ = some (.slice va es.length vc) := by simpa using HX.out.cell 1
      have y0 : wr.cell? ⟨w.heap.size, 0, none⟩ = some (.int .i64 0) := by simpa using HZ.out.2.2.cell 0
      have y1 : wr.cell? ⟨w.heap.size, 1, none⟩ = some (.slice none 0 0) := by simpa using HZ.out.2.2.cell 1
      have y2 := HZ.out.2.2.frozen 0
      have y3 := HZ.out.2.2.frozen 1
      go_wp2
      try simp only [Exit.inBlock, Exit.then]
      refine bodyPost_ret (v := .agg #[.int .i64 n, .slice va es.length vc]) ?_ rfl ?_
      · rw [results_cell1 rfl]
        go_simp
      have hwl := HZ.out.2.2.lt
      have hch : ∀ u0 u1, Chg w.heap.size (w.heap.size + 1) wr ((wr.setCell ⟨w.heap.size, 0, none⟩ u0).setCell ⟨w.heap.size, 1, none⟩ u1) := fun u0 u1 => ((Chg.refl _ _ _).setCell (by simp only; omega) (by simp only; omega) _).setCell (by simp only; omega) (by simp only; omega) _
      have hgn := HD.out.new
      have h1 := (HR.out.chg (hch (.int .i64 n) (.slice va es.length vc)) (.inl (by omega))).wider (l := w.heap.size) (h := ((wr.setCell ⟨w.heap.size, 0, none⟩ (.int .i64 n)).setCell ⟨w.heap.size, 1, none⟩ (.slice va es.length vc)).heap.size) (by omega) (by simpa using hhi) (Nat.le_refl _)
      exact ⟨n, es, _, rfl, HGV.out, h1, HO.out, ((HZ.out.1.set' (by omega) (by omega) _).set' (by omega) (by omega) _).more (by omega), g_set (g_set HZ.out.2.1 (by omega)) (by omega)⟩
end Go.Proofs.Ytlgjcofpdaljnaa
namespace Go.Proofs.Ytlgjcofpdaljnaa
open Go.RowKit Go.BigFrame Go.Deep
set_option linter.unusedVariables false
set_option linter.unusedSimpArgs false
set_option linter.unnecessarySimpa false

/-- append of nothing to a slice of the call's own, as one step of a region that draws. -/
theorem step_append_own_none {P : Program} {ops : Array Oper} {o : Oper} {a : Act} {w : World} {K : Act → World → Prop} {Q : Exit → Act → World → Prop} {E : Prop}
    (hg : o.guard = none) (s x : Operand) (t : TypeId) (ho : o.op = .call { callee := .builtin .append, args := #[s, x], argTypes := #[t, t] })
    (base : Nat) (e : TypeId) (i : TypeInfo) (size : Nat) (ht : P.underlying t = some (.slice e)) (hi : P.info? e = some i)
    (v : Value) (n : Nat) (xs : List Value) (hs : a.eval s = v) (hown : w.ownsRow base e size v n xs) (hx : a.eval x = .slice none 0 0) (h : K (a.put o.dst v) w) :
    if Region.wanted o (yielded ops a.tmps) = true then Oper.wp P o a w K Q else E := by
  have hw : Region.wanted o (yielded ops a.tmps) = true := by simp [Region.wanted, hg]
  rw [if_pos hw]
  have hrun := run_append_owned_none (P := P) (w := w) base t o.type e i size ht hi v n xs hown
  unfold Oper.wp
  simp [execOp, ho, resolve, invoke, builtin, hs, hx, hrun, Result.andThen]
  exact h
theorem news_of {w : World} {ad : Addr} {n c : Nat} {es : List Ed} (h : RowE w (.slice (some ad) n c) es) : ∀ j u, (cellsE es)[j]? = some u → w.cell? (ad.add j) = some u := by
  intro j u hu
  obtain ⟨hj, rfl⟩ := cellsE_get es j u hu
  obtain ⟨_, _, e, hz⟩ := h
  injection e with e1 e2 e3
  rcases hz with h0 | ⟨b, off, rfl, hb, hc⟩
  · rw [h0] at hj; simp at hj
  · injection e1 with e1
    subst e1
    obtain ⟨c0, c1, c2⟩ := hc (j / 3) (by omega)
    have h3 : j % 3 = 0 ∨ j % 3 = 1 ∨ j % 3 = 2 := by omega
    rcases h3 with h | h | h
    · have ej : j = j / 3 * 3 := by omega
      have : ((⟨b, off, none⟩ : Addr).add j) = ⟨b, off + j / 3 * 3, none⟩ := by rw [Addr.add_lit]; congr 1; omega
      rw [this, c0, ← cellE0]; congr 1; congr 1; omega
    · have : ((⟨b, off, none⟩ : Addr).add j) = ⟨b, off + j / 3 * 3 + 1, none⟩ := by rw [Addr.add_lit]; congr 1; omega
      rw [this, c1, ← cellE1]; congr 1; congr 1; omega
    · have : ((⟨b, off, none⟩ : Addr).add j) = ⟨b, off + j / 3 * 3 + 2, none⟩ := by rw [Addr.add_lit]; congr 1; omega
      rw [this, c2, ← cellE2]; congr 1; congr 1; omega
set_option maxRecDepth 20000 in
set_option maxHeartbeats 4000000 in
theorem l2Copy (n : Int) (es : List Ed) (s : Value) (w : World) (hs : RowE w s es) (hok : okS s) (hl : es.length ≤ 1048576) :
    Calls Try.prog 125 #[.agg #[.int .i64 n, s]] w fun e w' => ∃ v, e = .returned (.agg #[.int .i64 n, v]) ∧ w'.ownsRow (w.heap.size + 1) 67 3 v es.length (cellsE es) ∧ Below w.heap.size w w' := by
  obtain ⟨ad, cap, rfl, hz0⟩ := id hs
  obtain ⟨i0, hi, hz0', hz1, hz2⟩ := info_parts info_edge
  have HI : Hid (Try.prog.info? 67 = some i0 ∧ i0.zero = some (.agg #[.int .i64 0, .int .i64 0, .int .i64 0]) ∧ i0.size = 3 ∧ i0.bytes = 24) := Lib.hid ⟨hi, hz0', hz1, hz2⟩
  have hb2 : Below w.heap.size w ((w.alloc (.cells #[.int .i64 n, .slice ad es.length cap] 25)).alloc (.cells #[.int .i64 0, .slice none 0 0] 25)) := ((Below.refl _ _).alloc (Nat.le_refl _) _).alloc (by simp) _
  have hx0 : Box ((w.alloc (.cells #[.int .i64 n, .slice ad es.length cap] 25)).alloc (.cells #[.int .i64 0, .slice none 0 0] 25)) w.heap.size 25 #[.int .i64 n, .slice ad es.length cap] := (Box.new w _ _).alloc _
  have hx1 : Box ((w.alloc (.cells #[.int .i64 n, .slice ad es.length cap] 25)).alloc (.cells #[.int .i64 0, .slice none 0 0] 25)) (w.heap.size + 1) 25 #[.int .i64 0, .slice none 0 0] := by
    have := Box.new (w.alloc (.cells #[.int .i64 n, .slice ad es.length cap] 25)) 25 #[.int .i64 0, .slice none 0 0]
    simpa using this
  have K0 := Lib.hid (And.intro hb2.drew (And.intro hx0.drew hx1.drew))
  have HS := Lib.hid hs
  obtain ⟨ho1, ho2, ho3⟩ := hok _ _ _ rfl
  clear hz0 hi hz0' hz1 hz2 hb2 hx0 hx1
  cases ad with
  | none =>
    have hes : es = [] := by
      obtain ⟨_, _, e, hz⟩ := hs
      injection e with e1 e2 e3
      subst e1
      rcases hz with h | ⟨b, off, h, _⟩
      · exact h
      · cases h
    have hcap : cap = 0 := ho2 rfl
    subst hes hcap
    clear hs ho1 ho2 ho3
    go_enter Try.func125, Try.ntmps125
    go_wp2_with fail
    generalize ((w.alloc (.cells #[.int .i64 n, .slice none ([] : List Ed).length 0] 25)).alloc (.cells #[.int .i64 0, .slice none 0 0] 25)) = W1 at K0 ⊢

    refine wp_region_inv (fun L a w' => ∃ (b0 b1 b2 b3 b4 b5 b6 b7 : Bool) (y : Nat) (va : Option Addr) (vc : Nat), L = #[b0, b1, b2, b3, b4, b5, b6, b7] ∧ a = { tmps := #[Value.agg #[.int .i64 n, Value.slice none ([] : List Ed).length 0], Value.pointer (some ⟨w.heap.size, 0, none⟩), Value.pointer (some ⟨w.heap.size + 1, 0, none⟩), sel b0 (Value.pointer (some ⟨w.heap.size, 0, none⟩)) undef, sel b1 (Value.int .i64 n) undef, sel b2 (Value.slice (some ⟨y, 0, none⟩) 0 0) undef, sel b3 (Value.pointer (some ⟨w.heap.size, 1, none⟩)) undef, sel b4 (Value.slice none ([] : List Ed).length 0) undef, sel b5 (Value.slice va ([] : List Ed).length vc) undef, sel b6 (Value.agg #[.int .i64 n, .slice va ([] : List Ed).length vc]) undef], defers := [] } ∧ Hid ((Below w.heap.size w w') ∧ (Box w' w.heap.size 25 #[.int .i64 n, Value.slice none ([] : List Ed).length 0]) ∧ (b7 = false → Box w' (w.heap.size + 1) 25 #[.int .i64 0, .slice none 0 0]) ∧ (b2 = true → b5 = false → w'.ownsRow (w.heap.size + 2) 67 3 (.slice (some ⟨y, 0, none⟩) 0 0) 0 []) ∧ (b5 = true → w'.ownsRow (w.heap.size + 2) 67 3 (.slice va ([] : List Ed).length vc) ([] : List Ed).length (cellsE [])) ∧ (b7 = true → Box w' (w.heap.size + 1) 25 #[.int .i64 n, .slice va ([] : List Ed).length vc]) ∧ (b1 = true → (b0) = true) ∧ (b4 = true → (b3) = true) ∧ (b5 = true → (b2 && b4) = true) ∧ (b6 = true → (b1 && b5) = true) ∧ (b7 = true → (b0 && b1 && b2 && b3 && b4 && b5 && b6) = true))) (by kernel_rfl) (by kernel_rfl) ?_ ?_ ?_
    · exact ⟨false, false, false, false, false, false, false, false, 0, none, 0, rfl, rfl, Lib.hid ⟨K0.out.1, K0.out.2.1, (fun _ => K0.out.2.2), (fun h => absurd h (by decide)), (fun h => absurd h (by decide)), (fun h => absurd h (by decide)), (fun h => absurd h (by decide)), (fun h => absurd h (by decide)), (fun h => absurd h (by decide)), (fun h => absurd h (by decide)), (fun h => absurd h (by decide))⟩⟩
    · rintro L a w' hL ⟨b0, b1, b2, b3, b4, b5, b6, b7, y, va, vc, rfl, rfl, HF⟩ k9 o9 ho hl hd
      have hk9 : k9 = 0 ∨ k9 = 1 ∨ k9 = 2 ∨ k9 = 3 ∨ k9 = 4 ∨ k9 = 5 ∨ k9 = 6 ∨ k9 = 7 := by have := (Array.getElem?_eq_some_iff.1 ho).1; simp at this; omega
      rcases hk9 with rfl | rfl | rfl | rfl | rfl | rfl | rfl | rfl
      · obtain rfl := Option.some.inj ho
        have hc0 : b0 = false := hl
        subst hc0
        have hc1 : b1 = false := by cases hx9 : b1 with | false => rfl | true => (have hy9 := HF.out.2.2.2.2.2.2.1 hx9; simp at hy9)
        subst hc1
        have hc6 : b6 = false := by cases hx9 : b6 with | false => rfl | true => (have hy9 := HF.out.2.2.2.2.2.2.2.2.2.1 hx9; simp at hy9)
        subst hc6
        have hc7 : b7 = false := by cases hx9 : b7 with | false => rfl | true => (have hy9 := HF.out.2.2.2.2.2.2.2.2.2.2 hx9; simp at hy9)
        subst hc7
        clear hl hd ho hL
        simp only [sel_t, sel_f]
        refine wpOp_step rfl ?_
        intro K' hK'
        go_simp
        exact hK' _ _ ⟨true, false, b2, b3, b4, b5, false, false, y, va, vc, rfl, rfl, Lib.hid ⟨HF.out.1, HF.out.2.1, HF.out.2.2.1, HF.out.2.2.2.1, HF.out.2.2.2.2.1, HF.out.2.2.2.2.2.1, (fun h => absurd h (by decide)), HF.out.2.2.2.2.2.2.2.1, HF.out.2.2.2.2.2.2.2.2.1, (fun h => absurd h (by decide)), (fun h => absurd h (by decide))⟩⟩
      · obtain rfl := Option.some.inj ho
        have hc1 : b1 = false := hl
        have hc0 : b0 = true := by first | (refine hd ⟨0, .data⟩ ?_ rfl; simp; done) | (refine hd ⟨0, .chain⟩ ?_ rfl; simp; done) | (refine hd ⟨0, .phase⟩ ?_ rfl; simp; done)
        subst hc1 hc0
        have hc6 : b6 = false := by cases hx9 : b6 with | false => rfl | true => (have hy9 := HF.out.2.2.2.2.2.2.2.2.2.1 hx9; simp at hy9)
        subst hc6
        have hc7 : b7 = false := by cases hx9 : b7 with | false => rfl | true => (have hy9 := HF.out.2.2.2.2.2.2.2.2.2.2 hx9; simp at hy9)
        subst hc7
        clear hl hd ho hL
        simp only [sel_t, sel_f]
        have x0 : w'.cell? ⟨w.heap.size, 0, none⟩ = some (.int .i64 n) := by simpa using HF.out.2.1.cell 0
        refine wpOp_step rfl ?_
        intro K' hK'
        go_simp
        exact hK' _ _ ⟨true, true, b2, b3, b4, b5, false, false, y, va, vc, rfl, rfl, Lib.hid ⟨HF.out.1, HF.out.2.1, HF.out.2.2.1, HF.out.2.2.2.1, HF.out.2.2.2.2.1, HF.out.2.2.2.2.2.1, (fun _ => rfl), HF.out.2.2.2.2.2.2.2.1, HF.out.2.2.2.2.2.2.2.2.1, (fun h => absurd h (by decide)), (fun h => absurd h (by decide))⟩⟩
      · obtain rfl := Option.some.inj ho
        have hc2 : b2 = false := hl
        subst hc2
        have hc5 : b5 = false := by cases hx9 : b5 with | false => rfl | true => (have hy9 := HF.out.2.2.2.2.2.2.2.2.1 hx9; simp at hy9)
        subst hc5
        have hc6 : b6 = false := by cases hx9 : b6 with | false => rfl | true => (have hy9 := HF.out.2.2.2.2.2.2.2.2.2.1 hx9; simp at hy9)
        subst hc6
        have hc7 : b7 = false := by cases hx9 : b7 with | false => rfl | true => (have hy9 := HF.out.2.2.2.2.2.2.2.2.2.2 hx9; simp at hy9)
        subst hc7
        clear hl hd ho hL
        simp only [sel_t, sel_f]
        have hsz : w.heap.size + 2 ≤ w'.heap.size := (HF.out.2.2.1 rfl).lt
        refine wpOp_step rfl ?_
        intro K' hK'
        go_simp
        exact hK' _ _ ⟨b0, b1, true, b3, b4, false, false, false, w'.heap.size, va, vc, rfl, rfl, Lib.hid ⟨(bel_trans HF.out.1 ((Below.refl _ _).alloc (Nat.le_refl _) _)), (HF.out.2.1.alloc _), (fun h => (HF.out.2.2.1 h).alloc _), (fun _ _ => own_empty3 w' 67 3 (w.heap.size + 2) hsz), (fun h => absurd h (by decide)), (fun h => absurd h (by decide)), HF.out.2.2.2.2.2.2.1, HF.out.2.2.2.2.2.2.2.1, (fun h => absurd h (by decide)), (fun h => absurd h (by decide)), (fun h => absurd h (by decide))⟩⟩
      · obtain rfl := Option.some.inj ho
        have hc3 : b3 = false := hl
        subst hc3
        have hc4 : b4 = false := by cases hx9 : b4 with | false => rfl | true => (have hy9 := HF.out.2.2.2.2.2.2.2.1 hx9; simp at hy9)
        subst hc4
        have hc5 : b5 = false := by cases hx9 : b5 with | false => rfl | true => (have hy9 := HF.out.2.2.2.2.2.2.2.2.1 hx9; simp at hy9)
        subst hc5
        have hc6 : b6 = false := by cases hx9 : b6 with | false => rfl | true => (have hy9 := HF.out.2.2.2.2.2.2.2.2.2.1 hx9; simp at hy9)
        subst hc6
        have hc7 : b7 = false := by cases hx9 : b7 with | false => rfl | true => (have hy9 := HF.out.2.2.2.2.2.2.2.2.2.2 hx9; simp at hy9)
        subst hc7
        clear hl hd ho hL
        simp only [sel_t, sel_f]
        refine wpOp_step rfl ?_
        intro K' hK'
        go_simp
        exact hK' _ _ ⟨b0, b1, b2, true, false, false, false, false, y, va, vc, rfl, rfl, Lib.hid ⟨HF.out.1, HF.out.2.1, HF.out.2.2.1, HF.out.2.2.2.1, HF.out.2.2.2.2.1, HF.out.2.2.2.2.2.1, HF.out.2.2.2.2.2.2.1, (fun h => absurd h (by decide)), (fun h => absurd h (by decide)), (fun h => absurd h (by decide)), (fun h => absurd h (by decide))⟩⟩
      · obtain rfl := Option.some.inj ho
        have hc4 : b4 = false := hl
        have hc3 : b3 = true := by first | (refine hd ⟨3, .data⟩ ?_ rfl; simp; done) | (refine hd ⟨3, .chain⟩ ?_ rfl; simp; done) | (refine hd ⟨3, .phase⟩ ?_ rfl; simp; done)
        subst hc4 hc3
        have hc5 : b5 = false := by cases hx9 : b5 with | false => rfl | true => (have hy9 := HF.out.2.2.2.2.2.2.2.2.1 hx9; simp at hy9)
        subst hc5
        have hc6 : b6 = false := by cases hx9 : b6 with | false => rfl | true => (have hy9 := HF.out.2.2.2.2.2.2.2.2.2.1 hx9; simp at hy9)
        subst hc6
        have hc7 : b7 = false := by cases hx9 : b7 with | false => rfl | true => (have hy9 := HF.out.2.2.2.2.2.2.2.2.2.2 hx9; simp at hy9)
        subst hc7
        clear hl hd ho hL
        simp only [sel_t, sel_f]
        have x0 : w'.cell? ⟨w.heap.size, 1, none⟩ = some (Value.slice none ([] : List Ed).length 0) := by simpa using HF.out.2.1.cell 1
        refine wpOp_step rfl ?_
        intro K' hK'
        go_simp
        exact hK' _ _ ⟨b0, b1, b2, true, true, false, false, false, y, va, vc, rfl, rfl, Lib.hid ⟨HF.out.1, HF.out.2.1, HF.out.2.2.1, HF.out.2.2.2.1, HF.out.2.2.2.2.1, HF.out.2.2.2.2.2.1, HF.out.2.2.2.2.2.2.1, (fun _ => rfl), (fun h => absurd h (by decide)), (fun h => absurd h (by decide)), (fun h => absurd h (by decide))⟩⟩
      · obtain rfl := Option.some.inj ho
        have hc5 : b5 = false := hl
        have hc2 : b2 = true := by first | (refine hd ⟨2, .data⟩ ?_ rfl; simp; done) | (refine hd ⟨2, .chain⟩ ?_ rfl; simp; done) | (refine hd ⟨2, .phase⟩ ?_ rfl; simp; done)
        have hc4 : b4 = true := by first | (refine hd ⟨4, .data⟩ ?_ rfl; simp; done) | (refine hd ⟨4, .chain⟩ ?_ rfl; simp; done) | (refine hd ⟨4, .phase⟩ ?_ rfl; simp; done)
        subst hc5 hc2 hc4
        have hc6 : b6 = false := by cases hx9 : b6 with | false => rfl | true => (have hy9 := HF.out.2.2.2.2.2.2.2.2.2.1 hx9; simp at hy9)
        subst hc6
        have hc7 : b7 = false := by cases hx9 : b7 with | false => rfl | true => (have hy9 := HF.out.2.2.2.2.2.2.2.2.2.2 hx9; simp at hy9)
        subst hc7
        clear hl hd ho hL
        simp only [sel_t, sel_f]
        have ho0 := HF.out.2.2.2.1 rfl rfl
        obtain ⟨hi, hz0, hz1, hz2⟩ := HI.out
        refine wpOp_step rfl ?_
        intro K' hK'
        refine step_append_own_none rfl (.tmp 5) (.tmp 7) 23 rfl (w.heap.size + 2) 67 i0 3 Try.underlying23 hi _ _ _ rfl ho0 rfl ?_
        exact hK' _ _ ⟨b0, b1, true, b3, true, true, false, false, y, (some ⟨y, 0, none⟩), 0, rfl, rfl, Lib.hid ⟨HF.out.1, HF.out.2.1, HF.out.2.2.1, (fun _ h => absurd h (by decide)), (fun _ => ho0), (fun h => absurd h (by decide)), HF.out.2.2.2.2.2.2.1, HF.out.2.2.2.2.2.2.2.1, (fun _ => rfl), (fun h => absurd h (by decide)), (fun h => absurd h (by decide))⟩⟩
      · obtain rfl := Option.some.inj ho
        have hc6 : b6 = false := hl
        have hc1 : b1 = true := by first | (refine hd ⟨1, .data⟩ ?_ rfl; simp; done) | (refine hd ⟨1, .chain⟩ ?_ rfl; simp; done) | (refine hd ⟨1, .phase⟩ ?_ rfl; simp; done)
        have hc5 : b5 = true := by first | (refine hd ⟨5, .data⟩ ?_ rfl; simp; done) | (refine hd ⟨5, .chain⟩ ?_ rfl; simp; done) | (refine hd ⟨5, .phase⟩ ?_ rfl; simp; done)
        subst hc6 hc1 hc5
        have hc7 : b7 = false := by cases hx9 : b7 with | false => rfl | true => (have hy9 := HF.out.2.2.2.2.2.2.2.2.2.2 hx9; simp at hy9)
        subst hc7
        clear hl hd ho hL
        simp only [sel_t, sel_f]
        refine wpOp_step rfl ?_
        intro K' hK'
        go_simp
        exact hK' _ _ ⟨b0, true, b2, b3, b4, true, true, false, y, va, vc, rfl, rfl, Lib.hid ⟨HF.out.1, HF.out.2.1, HF.out.2.2.1, HF.out.2.2.2.1, HF.out.2.2.2.2.1, HF.out.2.2.2.2.2.1, HF.out.2.2.2.2.2.2.1, HF.out.2.2.2.2.2.2.2.1, HF.out.2.2.2.2.2.2.2.2.1, (fun _ => rfl), (fun h => absurd h (by decide))⟩⟩
      · obtain rfl := Option.some.inj ho
        have hc7 : b7 = false := hl
        have hc0 : b0 = true := by first | (refine hd ⟨0, .data⟩ ?_ rfl; simp; done) | (refine hd ⟨0, .chain⟩ ?_ rfl; simp; done) | (refine hd ⟨0, .phase⟩ ?_ rfl; simp; done)
        have hc1 : b1 = true := by first | (refine hd ⟨1, .data⟩ ?_ rfl; simp; done) | (refine hd ⟨1, .chain⟩ ?_ rfl; simp; done) | (refine hd ⟨1, .phase⟩ ?_ rfl; simp; done)
        have hc2 : b2 = true := by first | (refine hd ⟨2, .data⟩ ?_ rfl; simp; done) | (refine hd ⟨2, .chain⟩ ?_ rfl; simp; done) | (refine hd ⟨2, .phase⟩ ?_ rfl; simp; done)
        have hc3 : b3 = true := by first | (refine hd ⟨3, .data⟩ ?_ rfl; simp; done) | (refine hd ⟨3, .chain⟩ ?_ rfl; simp; done) | (refine hd ⟨3, .phase⟩ ?_ rfl; simp; done)
        have hc4 : b4 = true := by first | (refine hd ⟨4, .data⟩ ?_ rfl; simp; done) | (refine hd ⟨4, .chain⟩ ?_ rfl; simp; done) | (refine hd ⟨4, .phase⟩ ?_ rfl; simp; done)
        have hc5 : b5 = true := by first | (refine hd ⟨5, .data⟩ ?_ rfl; simp; done) | (refine hd ⟨5, .chain⟩ ?_ rfl; simp; done) | (refine hd ⟨5, .phase⟩ ?_ rfl; simp; done)
        have hc6 : b6 = true := by first | (refine hd ⟨6, .data⟩ ?_ rfl; simp; done) | (refine hd ⟨6, .chain⟩ ?_ rfl; simp; done) | (refine hd ⟨6, .phase⟩ ?_ rfl; simp; done)
        subst hc7 hc0 hc1 hc2 hc3 hc4 hc5 hc6
        clear hl hd ho hL
        simp only [sel_t, sel_f]
        have hB := HF.out.2.2.1 rfl
        have c0 : w'.cell? ⟨w.heap.size + 1, 0, none⟩ = some (.int .i64 0) := by simpa using hB.cell 0
        have c1 : w'.cell? ⟨w.heap.size + 1, 1, none⟩ = some (.slice none 0 0) := by simpa using hB.cell 1
        have f0 := hB.frozen 0
        have f1 := hB.frozen 1
        refine wpOp_step rfl ?_
        intro K' hK'
        go_simp
        exact hK' _ _ ⟨true, true, true, true, true, true, true, true, y, va, vc, rfl, rfl, Lib.hid ⟨(((HF.out.1).setCell (by simp) _).setCell (by simp) _), ((HF.out.2.1.setOther (by omega) _ _).setOther (by omega) _ _), (fun h => absurd h (by decide)), (fun _ h => absurd h (by decide)), (fun _ => (hB.set 0 _).own (hB.own (HF.out.2.2.2.2.1 rfl) (by decide)) (by decide)), (fun _ => by simpa using (hB.set 0 (.int .i64 n)).set 1 (.slice va ([] : List Ed).length vc)), (fun h => by have := HF.out.2.2.2.2.2.2.1 h; simpa using this), (fun h => by have := HF.out.2.2.2.2.2.2.2.1 h; simpa using this), (fun h => by have := HF.out.2.2.2.2.2.2.2.2.1 h; simpa using this), (fun h => by have := HF.out.2.2.2.2.2.2.2.2.2.1 h; simpa using this), (fun _ => rfl)⟩⟩
    · rintro L a w' hL ⟨b0, b1, b2, b3, b4, b5, b6, b7, y, va, vc, rfl, rfl, HF⟩ hall
      have hc0 : b0 = true := hall 0 (by decide)
      have hc1 : b1 = true := hall 1 (by decide)
      have hc2 : b2 = true := hall 2 (by decide)
      have hc3 : b3 = true := hall 3 (by decide)
      have hc4 : b4 = true := hall 4 (by decide)
      have hc5 : b5 = true := hall 5 (by decide)
      have hc6 : b6 = true := hall 6 (by decide)
      have hc7 : b7 = true := hall 7 (by decide)
      subst hc0 hc1 hc2 hc3 hc4 hc5 hc6 hc7
      simp only [sel_t]
      have hB := HF.out.2.2.2.2.2.1 rfl
      have HE := Lib.hid (And.intro ((HF.out.2.2.2.2.1 rfl).mono (base' := w.heap.size + 1) (by omega)) HF.out.1)
      clear HF
      have c0 : w'.cell? ⟨w.heap.size + 1, 0, none⟩ = some (.int .i64 n) := by simpa using hB.cell 0
      have c1 : w'.cell? ⟨w.heap.size + 1, 1, none⟩ = some (.slice va ([] : List Ed).length vc) := by simpa using hB.cell 1
      go_wp2_with fail
      try simp only [Exit.inBlock, Exit.then]
      refine bodyPost_ret (v := .agg #[.int .i64 n, .slice va ([] : List Ed).length vc]) ?_ rfl ?_
      · rw [results_cell1 rfl]
        go_simp
      exact ⟨_, rfl, HE.out.1, HE.out.2⟩
  | some ad =>
    have hnews : ∀ w' , Below w.heap.size w w' → ∀ j u, (cellsE es)[j]? = some u → w'.cell? (ad.add j) = some u := fun w' h => news_of (HS.out.keep h)
    have HC := Lib.hid hnews
    clear hs ho1 ho2 ho3 hnews
    go_enter Try.func125, Try.ntmps125
    go_wp2_with fail
    generalize ((w.alloc (.cells #[.int .i64 n, .slice (some ad) es.length cap] 25)).alloc (.cells #[.int .i64 0, .slice none 0 0] 25)) = W1 at K0 ⊢
    refine wp_region_inv (fun L a w' => ∃ (b0 b1 b2 b3 b4 b5 b6 b7 : Bool) (y : Nat) (va : Option Addr) (vc : Nat), L = #[b0, b1, b2, b3, b4, b5, b6, b7] ∧ a = { tmps := #[Value.agg #[.int .i64 n, Value.slice (some ad) es.length cap], Value.pointer (some ⟨w.heap.size, 0, none⟩), Value.pointer (some ⟨w.heap.size + 1, 0, none⟩), sel b0 (Value.pointer (some ⟨w.heap.size, 0, none⟩)) undef, sel b1 (Value.int .i64 n) undef, sel b2 (Value.slice (some ⟨y, 0, none⟩) 0 0) undef, sel b3 (Value.pointer (some ⟨w.heap.size, 1, none⟩)) undef, sel b4 (Value.slice (some ad) es.length cap) undef, sel b5 (Value.slice va es.length vc) undef, sel b6 (Value.agg #[.int .i64 n, .slice va es.length vc]) undef], defers := [] } ∧ Hid ((Below w.heap.size w w') ∧ (Box w' w.heap.size 25 #[.int .i64 n, Value.slice (some ad) es.length cap]) ∧ (b7 = false → Box w' (w.heap.size + 1) 25 #[.int .i64 0, .slice none 0 0]) ∧ (b2 = true → b5 = false → w'.ownsRow (w.heap.size + 2) 67 3 (.slice (some ⟨y, 0, none⟩) 0 0) 0 []) ∧ (b5 = true → w'.ownsRow (w.heap.size + 2) 67 3 (.slice va es.length vc) es.length (cellsE es)) ∧ (b7 = true → Box w' (w.heap.size + 1) 25 #[.int .i64 n, .slice va es.length vc]) ∧ (b1 = true → (b0) = true) ∧ (b4 = true → (b3) = true) ∧ (b5 = true → (b2 && b4) = true) ∧ (b6 = true → (b1 && b5) = true) ∧ (b7 = true → (b0 && b1 && b2 && b3 && b4 && b5 && b6) = true))) (by kernel_rfl) (by kernel_rfl) ?_ ?_ ?_
    · exact ⟨false, false, false, false, false, false, false, false, 0, none, 0, rfl, rfl, Lib.hid ⟨K0.out.1, K0.out.2.1, (fun _ => K0.out.2.2), (fun h => absurd h (by decide)), (fun h => absurd h (by decide)), (fun h => absurd h (by decide)), (fun h => absurd h (by decide)), (fun h => absurd h (by decide)), (fun h => absurd h (by decide)), (fun h => absurd h (by decide)), (fun h => absurd h (by decide))⟩⟩
    · rintro L a w' hL ⟨b0, b1, b2, b3, b4, b5, b6, b7, y, va, vc, rfl, rfl, HF⟩ k9 o9 ho hl hd
      have hk9 : k9 = 0 ∨ k9 = 1 ∨ k9 = 2 ∨ k9 = 3 ∨ k9 = 4 ∨ k9 = 5 ∨ k9 = 6 ∨ k9 = 7 := by have := (Array.getElem?_eq_some_iff.1 ho).1; simp at this; omega
      rcases hk9 with rfl | rfl | rfl | rfl | rfl | rfl | rfl | rfl
      · obtain rfl := Option.some.inj ho
        have hc0 : b0 = false := hl
        subst hc0
        have hc1 : b1 = false := by cases hx9 : b1 with | false => rfl | true => (have hy9 := HF.out.2.2.2.2.2.2.1 hx9; simp at hy9)
        subst hc1
        have hc6 : b6 = false := by cases hx9 : b6 with | false => rfl | true => (have hy9 := HF.out.2.2.2.2.2.2.2.2.2.1 hx9; simp at hy9)
        subst hc6
        have hc7 : b7 = false := by cases hx9 : b7 with | false => rfl | true => (have hy9 := HF.out.2.2.2.2.2.2.2.2.2.2 hx9; simp at hy9)
        subst hc7
        clear hl hd ho hL
        simp only [sel_t, sel_f]
        refine wpOp_step rfl ?_
        intro K' hK'
        go_simp
        exact hK' _ _ ⟨true, false, b2, b3, b4, b5, false, false, y, va, vc, rfl, rfl, Lib.hid ⟨HF.out.1, HF.out.2.1, HF.out.2.2.1, HF.out.2.2.2.1, HF.out.2.2.2.2.1, HF.out.2.2.2.2.2.1, (fun h => absurd h (by decide)), HF.out.2.2.2.2.2.2.2.1, HF.out.2.2.2.2.2.2.2.2.1, (fun h => absurd h (by decide)), (fun h => absurd h (by decide))⟩⟩
      · obtain rfl := Option.some.inj ho
        have hc1 : b1 = false := hl
        have hc0 : b0 = true := by first | (refine hd ⟨0, .data⟩ ?_ rfl; simp; done) | (refine hd ⟨0, .chain⟩ ?_ rfl; simp; done) | (refine hd ⟨0, .phase⟩ ?_ rfl; simp; done)
        subst hc1 hc0
        have hc6 : b6 = false := by cases hx9 : b6 with | false => rfl | true => (have hy9 := HF.out.2.2.2.2.2.2.2.2.2.1 hx9; simp at hy9)
        subst hc6
        have hc7 : b7 = false := by cases hx9 : b7 with | false => rfl | true => (have hy9 := HF.out.2.2.2.2.2.2.2.2.2.2 hx9; simp at hy9)
        subst hc7
        clear hl hd ho hL
        simp only [sel_t, sel_f]
        have x0 : w'.cell? ⟨w.heap.size, 0, none⟩ = some (.int .i64 n) := by simpa using HF.out.2.1.cell 0
        refine wpOp_step rfl ?_
        intro K' hK'
        go_simp
        exact hK' _ _ ⟨true, true, b2, b3, b4, b5, false, false, y, va, vc, rfl, rfl, Lib.hid ⟨HF.out.1, HF.out.2.1, HF.out.2.2.1, HF.out.2.2.2.1, HF.out.2.2.2.2.1, HF.out.2.2.2.2.2.1, (fun _ => rfl), HF.out.2.2.2.2.2.2.2.1, HF.out.2.2.2.2.2.2.2.2.1, (fun h => absurd h (by decide)), (fun h => absurd h (by decide))⟩⟩
      · obtain rfl := Option.some.inj ho
        have hc2 : b2 = false := hl
        subst hc2
        have hc5 : b5 = false := by cases hx9 : b5 with | false => rfl | true => (have hy9 := HF.out.2.2.2.2.2.2.2.2.1 hx9; simp at hy9)
        subst hc5
        have hc6 : b6 = false := by cases hx9 : b6 with | false => rfl | true => (have hy9 := HF.out.2.2.2.2.2.2.2.2.2.1 hx9; simp at hy9)
        subst hc6
        have hc7 : b7 = false := by cases hx9 : b7 with | false => rfl | true => (have hy9 := HF.out.2.2.2.2.2.2.2.2.2.2 hx9; simp at hy9)
        subst hc7
        clear hl hd ho hL
        simp only [sel_t, sel_f]
        have hsz : w.heap.size + 2 ≤ w'.heap.size := (HF.out.2.2.1 rfl).lt
        refine wpOp_step rfl ?_
        intro K' hK'
        go_simp
        exact hK' _ _ ⟨b0, b1, true, b3, b4, false, false, false, w'.heap.size, va, vc, rfl, rfl, Lib.hid ⟨(bel_trans HF.out.1 ((Below.refl _ _).alloc (Nat.le_refl _) _)), (HF.out.2.1.alloc _), (fun h => (HF.out.2.2.1 h).alloc _), (fun _ _ => own_empty3 w' 67 3 (w.heap.size + 2) hsz), (fun h => absurd h (by decide)), (fun h => absurd h (by decide)), HF.out.2.2.2.2.2.2.1, HF.out.2.2.2.2.2.2.2.1, (fun h => absurd h (by decide)), (fun h => absurd h (by decide)), (fun h => absurd h (by decide))⟩⟩
      · obtain rfl := Option.some.inj ho
        have hc3 : b3 = false := hl
        subst hc3
        have hc4 : b4 = false := by cases hx9 : b4 with | false => rfl | true => (have hy9 := HF.out.2.2.2.2.2.2.2.1 hx9; simp at hy9)
        subst hc4
        have hc5 : b5 = false := by cases hx9 : b5 with | false => rfl | true => (have hy9 := HF.out.2.2.2.2.2.2.2.2.1 hx9; simp at hy9)
        subst hc5
        have hc6 : b6 = false := by cases hx9 : b6 with | false => rfl | true => (have hy9 := HF.out.2.2.2.2.2.2.2.2.2.1 hx9; simp at hy9)
        subst hc6
        have hc7 : b7 = false := by cases hx9 : b7 with | false => rfl | true => (have hy9 := HF.out.2.2.2.2.2.2.2.2.2.2 hx9; simp at hy9)
        subst hc7
        clear hl hd ho hL
        simp only [sel_t, sel_f]
        refine wpOp_step rfl ?_
        intro K' hK'
        go_simp
        exact hK' _ _ ⟨b0, b1, b2, true, false, false, false, false, y, va, vc, rfl, rfl, Lib.hid ⟨HF.out.1, HF.out.2.1, HF.out.2.2.1, HF.out.2.2.2.1, HF.out.2.2.2.2.1, HF.out.2.2.2.2.2.1, HF.out.2.2.2.2.2.2.1, (fun h => absurd h (by decide)), (fun h => absurd h (by decide)), (fun h => absurd h (by decide)), (fun h => absurd h (by decide))⟩⟩
      · obtain rfl := Option.some.inj ho
        have hc4 : b4 = false := hl
        have hc3 : b3 = true := by first | (refine hd ⟨3, .data⟩ ?_ rfl; simp; done) | (refine hd ⟨3, .chain⟩ ?_ rfl; simp; done) | (refine hd ⟨3, .phase⟩ ?_ rfl; simp; done)
        subst hc4 hc3
        have hc5 : b5 = false := by cases hx9 : b5 with | false => rfl | true => (have hy9 := HF.out.2.2.2.2.2.2.2.2.1 hx9; simp at hy9)
        subst hc5
        have hc6 : b6 = false := by cases hx9 : b6 with | false => rfl | true => (have hy9 := HF.out.2.2.2.2.2.2.2.2.2.1 hx9; simp at hy9)
        subst hc6
        have hc7 : b7 = false := by cases hx9 : b7 with | false => rfl | true => (have hy9 := HF.out.2.2.2.2.2.2.2.2.2.2 hx9; simp at hy9)
        subst hc7
        clear hl hd ho hL
        simp only [sel_t, sel_f]
        have x0 : w'.cell? ⟨w.heap.size, 1, none⟩ = some (Value.slice (some ad) es.length cap) := by simpa using HF.out.2.1.cell 1
        refine wpOp_step rfl ?_
        intro K' hK'
        go_simp
        exact hK' _ _ ⟨b0, b1, b2, true, true, false, false, false, y, va, vc, rfl, rfl, Lib.hid ⟨HF.out.1, HF.out.2.1, HF.out.2.2.1, HF.out.2.2.2.1, HF.out.2.2.2.2.1, HF.out.2.2.2.2.2.1, HF.out.2.2.2.2.2.2.1, (fun _ => rfl), (fun h => absurd h (by decide)), (fun h => absurd h (by decide)), (fun h => absurd h (by decide))⟩⟩
      · obtain rfl := Option.some.inj ho
        have hc5 : b5 = false := hl
        have hc2 : b2 = true := by first | (refine hd ⟨2, .data⟩ ?_ rfl; simp; done) | (refine hd ⟨2, .chain⟩ ?_ rfl; simp; done) | (refine hd ⟨2, .phase⟩ ?_ rfl; simp; done)
        have hc4 : b4 = true := by first | (refine hd ⟨4, .data⟩ ?_ rfl; simp; done) | (refine hd ⟨4, .chain⟩ ?_ rfl; simp; done) | (refine hd ⟨4, .phase⟩ ?_ rfl; simp; done)
        subst hc5 hc2 hc4
        have hc6 : b6 = false := by cases hx9 : b6 with | false => rfl | true => (have hy9 := HF.out.2.2.2.2.2.2.2.2.2.1 hx9; simp at hy9)
        subst hc6
        have hc7 : b7 = false := by cases hx9 : b7 with | false => rfl | true => (have hy9 := HF.out.2.2.2.2.2.2.2.2.2.2 hx9; simp at hy9)
        subst hc7
        clear hl hd ho hL
        simp only [sel_t, sel_f]
        have hsz : w.heap.size + 2 ≤ w'.heap.size := (HF.out.2.2.1 rfl).lt
        have hlt0 : w.heap.size < w'.heap.size := by omega
        obtain ⟨hi, hz0, hz1, hz2⟩ := HI.out
        have ho0 := HF.out.2.2.2.1 rfl rfl
        have hnews := HC.out w' HF.out.1
        refine wpOp_step rfl ?_
        intro K' hK'
        refine step_append_own rfl (.tmp 5) (.tmp 7) 23 rfl (w.heap.size + 2) 67 i0 (.agg #[.int .i64 0, .int .i64 0, .int .i64 0]) 3 24 Try.underlying23 hi hz0 hz1 hz2 rfl (by decide) _ _ _ rfl ho0 ad es.length cap (cellsE es) rfl (cellsE_len es) hnews (cellsE_one es) (by unfold maxLen; omega) (by omega) hsz ?_
        intro v' w6 hown6 hgrow6
        obtain ⟨va6, vc6, rfl⟩ := own_slice hown6
        have hb06 := (HF.out.1).grown hgrow6 (by omega) (fun q hq => Nat.le_trans (by omega) (ho0.lt q hq).1)
        have hown7 : w6.ownsRow (w.heap.size + 2) 67 3 (.slice va6 es.length vc6) es.length (cellsE es) := by simpa using hown6
        rw [Nat.zero_add]
        exact hK' _ _ ⟨b0, b1, true, b3, true, true, false, false, y, va6, vc6, rfl, rfl, Lib.hid ⟨hb06, (Box.grown HF.out.2.1 hgrow6 ho0 (by decide)), (fun h => Box.grown (HF.out.2.2.1 h) hgrow6 ho0 (by decide)), (fun _ h => absurd h (by decide)), (fun _ => hown7), (fun h => absurd h (by decide)), HF.out.2.2.2.2.2.2.1, HF.out.2.2.2.2.2.2.2.1, (fun _ => rfl), (fun h => absurd h (by decide)), (fun h => absurd h (by decide))⟩⟩
      · obtain rfl := Option.some.inj ho
        have hc6 : b6 = false := hl
        have hc1 : b1 = true := by first | (refine hd ⟨1, .data⟩ ?_ rfl; simp; done) | (refine hd ⟨1, .chain⟩ ?_ rfl; simp; done) | (refine hd ⟨1, .phase⟩ ?_ rfl; simp; done)
        have hc5 : b5 = true := by first | (refine hd ⟨5, .data⟩ ?_ rfl; simp; done) | (refine hd ⟨5, .chain⟩ ?_ rfl; simp; done) | (refine hd ⟨5, .phase⟩ ?_ rfl; simp; done)
        subst hc6 hc1 hc5
        have hc7 : b7 = false := by cases hx9 : b7 with | false => rfl | true => (have hy9 := HF.out.2.2.2.2.2.2.2.2.2.2 hx9; simp at hy9)
        subst hc7
        clear hl hd ho hL
        simp only [sel_t, sel_f]
        refine wpOp_step rfl ?_
        intro K' hK'
        go_simp
        exact hK' _ _ ⟨b0, true, b2, b3, b4, true, true, false, y, va, vc, rfl, rfl, Lib.hid ⟨HF.out.1, HF.out.2.1, HF.out.2.2.1, HF.out.2.2.2.1, HF.out.2.2.2.2.1, HF.out.2.2.2.2.2.1, HF.out.2.2.2.2.2.2.1, HF.out.2.2.2.2.2.2.2.1, HF.out.2.2.2.2.2.2.2.2.1, (fun _ => rfl), (fun h => absurd h (by decide))⟩⟩
      · obtain rfl := Option.some.inj ho
        have hc7 : b7 = false := hl
        have hc0 : b0 = true := by first | (refine hd ⟨0, .data⟩ ?_ rfl; simp; done) | (refine hd ⟨0, .chain⟩ ?_ rfl; simp; done) | (refine hd ⟨0, .phase⟩ ?_ rfl; simp; done)
        have hc1 : b1 = true := by first | (refine hd ⟨1, .data⟩ ?_ rfl; simp; done) | (refine hd ⟨1, .chain⟩ ?_ rfl; simp; done) | (refine hd ⟨1, .phase⟩ ?_ rfl; simp; done)
        have hc2 : b2 = true := by first | (refine hd ⟨2, .data⟩ ?_ rfl; simp; done) | (refine hd ⟨2, .chain⟩ ?_ rfl; simp; done) | (refine hd ⟨2, .phase⟩ ?_ rfl; simp; done)
        have hc3 : b3 = true := by first | (refine hd ⟨3, .data⟩ ?_ rfl; simp; done) | (refine hd ⟨3, .chain⟩ ?_ rfl; simp; done) | (refine hd ⟨3, .phase⟩ ?_ rfl; simp; done)
        have hc4 : b4 = true := by first | (refine hd ⟨4, .data⟩ ?_ rfl; simp; done) | (refine hd ⟨4, .chain⟩ ?_ rfl; simp; done) | (refine hd ⟨4, .phase⟩ ?_ rfl; simp; done)
        have hc5 : b5 = true := by first | (refine hd ⟨5, .data⟩ ?_ rfl; simp; done) | (refine hd ⟨5, .chain⟩ ?_ rfl; simp; done) | (refine hd ⟨5, .phase⟩ ?_ rfl; simp; done)
        have hc6 : b6 = true := by first | (refine hd ⟨6, .data⟩ ?_ rfl; simp; done) | (refine hd ⟨6, .chain⟩ ?_ rfl; simp; done) | (refine hd ⟨6, .phase⟩ ?_ rfl; simp; done)
        subst hc7 hc0 hc1 hc2 hc3 hc4 hc5 hc6
        clear hl hd ho hL
        simp only [sel_t, sel_f]
        have hB := HF.out.2.2.1 rfl
        have c0 : w'.cell? ⟨w.heap.size + 1, 0, none⟩ = some (.int .i64 0) := by simpa using hB.cell 0
        have c1 : w'.cell? ⟨w.heap.size + 1, 1, none⟩ = some (.slice none 0 0) := by simpa using hB.cell 1
        have f0 := hB.frozen 0
        have f1 := hB.frozen 1
        refine wpOp_step rfl ?_
        intro K' hK'
        go_simp
        exact hK' _ _ ⟨true, true, true, true, true, true, true, true, y, va, vc, rfl, rfl, Lib.hid ⟨(((HF.out.1).setCell (by simp) _).setCell (by simp) _), ((HF.out.2.1.setOther (by omega) _ _).setOther (by omega) _ _), (fun h => absurd h (by decide)), (fun _ h => absurd h (by decide)), (fun _ => (hB.set 0 _).own (hB.own (HF.out.2.2.2.2.1 rfl) (by decide)) (by decide)), (fun _ => by simpa using (hB.set 0 (.int .i64 n)).set 1 (.slice va es.length vc)), (fun h => by have := HF.out.2.2.2.2.2.2.1 h; simpa using this), (fun h => by have := HF.out.2.2.2.2.2.2.2.1 h; simpa using this), (fun h => by have := HF.out.2.2.2.2.2.2.2.2.1 h; simpa using this), (fun h => by have := HF.out.2.2.2.2.2.2.2.2.2.1 h; simpa using this), (fun _ => rfl)⟩⟩
    · rintro L a w' hL ⟨b0, b1, b2, b3, b4, b5, b6, b7, y, va, vc, rfl, rfl, HF⟩ hall
      have hc0 : b0 = true := hall 0 (by decide)
      have hc1 : b1 = true := hall 1 (by decide)
      have hc2 : b2 = true := hall 2 (by decide)
      have hc3 : b3 = true := hall 3 (by decide)
      have hc4 : b4 = true := hall 4 (by decide)
      have hc5 : b5 = true := hall 5 (by decide)
      have hc6 : b6 = true := hall 6 (by decide)
      have hc7 : b7 = true := hall 7 (by decide)
      subst hc0 hc1 hc2 hc3 hc4 hc5 hc6 hc7
      simp only [sel_t]
      have hB := HF.out.2.2.2.2.2.1 rfl
      have HE := Lib.hid (And.intro ((HF.out.2.2.2.2.1 rfl).mono (base' := w.heap.size + 1) (by omega)) HF.out.1)
      clear HF
      have c0 : w'.cell? ⟨w.heap.size + 1, 0, none⟩ = some (.int .i64 n) := by simpa using hB.cell 0
      have c1 : w'.cell? ⟨w.heap.size + 1, 1, none⟩ = some (.slice va es.length vc) := by simpa using hB.cell 1
      go_wp2_with fail
      try simp only [Exit.inBlock, Exit.then]
      refine bodyPost_ret (v := .agg #[.int .i64 n, .slice va es.length vc]) ?_ rfl ?_
      · rw [results_cell1 rfl]
        go_simp
      exact ⟨_, rfl, HE.out.1, HE.out.2⟩
end Go.Proofs.Ytlgjcofpdaljnaa
namespace Go.Proofs.Ytlgjcofpdaljnaa
open Go.RowKit Go.BigFrame Go.Deep
set_option linter.unusedVariables false
set_option linter.unusedSimpArgs false
set_option linter.unnecessarySimpa false

/-- A graph is drawn: its edges in memory of their own. -/
def DrawnW (W w : World) (g q l : Nat) (e : Ending) (w' : World) : Prop :=
  ∃ (n : Int) (es : List Ed) (v : Value), e = .returned (.agg #[.int .i64 n, v]) ∧ es.length ≤ l ∧ InR true w' w.heap.size w'.heap.size v es.length 3 (cellE es) ∧ okS v ∧ Rd W w' g q ∧ w.grownBy w' (some g)
theorem own_ne' {w : World} {base g : Nat} {t : TypeId} {sz : Nat} {v : Value} {n : Nat} {xs : List Value} (h : w.ownsRow base t sz v n xs) (hg : g < base) : v.ownBlock = none ∨ v.ownBlock ≠ some g := by
  refine .inr fun e => ?_
  have := (h.lt g e).1
  omega
theorem Box.grownN {w w' : World} {B : Nat} {r : Option Nat} {t : TypeId} {cs : Array Value} (h : Box w B t cs) (hg : w.grownBy w' r) (hne : r ≠ some B) : Box w' B t cs := (hg.block B h.lt (by intro e; exact hne e.symm)).trans h

theorem Rd.grownR {W w w' : World} {g q : Nat} {row : Option Nat} (h : Rd W w g q) (hg : w.grownBy w' row) (hr : ∀ k, row = some k → g < k) : Rd W w' g q := by
  obtain ⟨a, n, cap, p, h1, h2, h3, h4, h5⟩ := h.cells
  have hb : w'.heap[g]? = w.heap[g]? := hg.block g h.lt (fun e => by have := hr g e.symm; omega)
  exact ⟨h.new, h.bel.grown hg (Nat.le_of_lt (Nat.lt_of_le_of_lt h.new h.lt)) (fun k hk => by have := hr k hk; have := h.new; omega),
    ⟨a, n, cap, p, h1, h2, h3, by rw [World.cell?_of_block (a := ⟨g, 0, none⟩) hb]; exact h4, by rw [World.cell?_of_block (a := ⟨g, 1, none⟩) hb]; exact h5⟩,
    by rw [World.frozen?_of_block (a := ⟨g, 1, none⟩) hb]; exact h.free, Nat.lt_of_lt_of_le h.lt hg.size⟩
theorem grownR {a w w' : World} {g : Nat} {row : Option Nat} (h : a.grownBy w (some g)) (hg : w.grownBy w' row) (hr : ∀ k, row = some k → a.heap.size ≤ k) : a.grownBy w' (some g) :=
  ⟨hg.os.trans h.os, hg.tape.trans h.tape, hg.output.trans h.output, Nat.le_trans h.size hg.size, fun i hi hne => (hg.block i (Nat.lt_of_lt_of_le hi h.size) (fun e => by have := hr i e.symm; omega)).trans (h.block i hi hne)⟩
theorem cellsE_at (es : List Ed) {j : Nat} (hj : j < es.length * 3) : (cellsE es)[j]? = some (cellE es j) := by
  unfold cellsE
  simp [hj]
/-- The edge at a place gets another end. -/
def setTo (es : List Ed) (k : Nat) (x : Int) : List Ed := es.set k ((es.getD k (0, 0, 0)).1, x, (es.getD k (0, 0, 0)).2.2)
/-- The edge at a place gets another weight. -/
def setWt (es : List Ed) (k : Nat) (x : Int) : List Ed := es.set k ((es.getD k (0, 0, 0)).1, (es.getD k (0, 0, 0)).2.1, x)
theorem getD_set' (es : List Ed) (k : Nat) (e : Ed) (hk : k < es.length) (i : Nat) : (es.set k e).getD i (0, 0, 0) = if i = k then e else es.getD i (0, 0, 0) := by
  simp only [List.getD, List.getElem?_set]
  by_cases h : k = i
  · subst h; simp [hk]
  · simp [h, Ne.symm h]
theorem setTo_cells (es : List Ed) (k : Nat) (hk : k < es.length) (x : Int) : (cellsE es).set (k * 3 + 1) (.int .i64 x) = cellsE (setTo es k x) := by
  apply List.ext_getElem?
  intro j
  rw [List.getElem?_set]
  by_cases hj : j < es.length * 3
  · have hj2 : j < (setTo es k x).length * 3 := by simpa [setTo] using hj
    rw [cellsE_at _ hj2, cellsE_at _ hj, cellsE_len]
    unfold cellE setTo
    rw [getD_set' es k _ hk]
    by_cases h : k * 3 + 1 = j
    · subst h
      have h1 : (k * 3 + 1) % 3 = 1 := by omega
      have h2 : (k * 3 + 1) / 3 = k := by omega
      simp [h1, h2, hj]
    · rw [if_neg h]
      by_cases h2 : j / 3 = k
      · have h3 : j % 3 = 0 ∨ j % 3 = 2 := by omega
        rcases h3 with h3 | h3 <;> simp [h2, h3]
      · simp [h2]
  · have h1 : (cellsE es)[j]? = none := by simp [cellsE_len]; omega
    have h2 : (cellsE (setTo es k x))[j]? = none := by simp [cellsE_len, setTo]; omega
    rw [h1, h2]
    split
    · rw [if_neg (by rw [cellsE_len]; omega)]
    · rfl
theorem setWt_cells (es : List Ed) (k : Nat) (hk : k < es.length) (x : Int) : (cellsE es).set (k * 3 + 2) (.int .i64 x) = cellsE (setWt es k x) := by
  apply List.ext_getElem?
  intro j
  rw [List.getElem?_set]
  by_cases hj : j < es.length * 3
  · have hj2 : j < (setWt es k x).length * 3 := by simpa [setWt] using hj
    rw [cellsE_at _ hj2, cellsE_at _ hj, cellsE_len]
    unfold cellE setWt
    rw [getD_set' es k _ hk]
    by_cases h : k * 3 + 2 = j
    · subst h
      have h1 : (k * 3 + 2) % 3 = 2 := by omega
      have h2 : (k * 3 + 2) / 3 = k := by omega
      simp [h1, h2, hj]
    · rw [if_neg h]
      by_cases h2 : j / 3 = k
      · have h3 : j % 3 = 0 ∨ j % 3 = 1 := by omega
        rcases h3 with h3 | h3 <;> simp [h2, h3]
      · simp [h2]
  · have h1 : (cellsE es)[j]? = none := by simp [cellsE_len]; omega
    have h2 : (cellsE (setWt es k x))[j]? = none := by simp [cellsE_len, setWt]; omega
    rw [h1, h2]
    split
    · rw [if_neg (by rw [cellsE_len]; omega)]
    · rfl
theorem drawnW_of {W w w1 : World} {g q q' B base : Nat} {n : Int} {es : List Ed} {v : Value} {m : Nat} (hR : Rd W w1 g q') (hG : w.grownBy w1 (some g)) (hB : Box w1 B 25 #[.int .i64 0, .slice none 0 0])
    (ho : w1.ownsRow base 67 3 v es.length (cellsE es)) (hq : q' ≤ q) (hm : es.length ≤ m) (hb : w.heap.size ≤ base) (hBw : w.heap.size ≤ B) (hg : g < w.heap.size) :
    DrawnW W w g q m (.returned (.agg #[.int .i64 n, v])) ((w1.setCell ⟨B, 0, none⟩ (.int .i64 n)).setCell ⟨B, 1, none⟩ v) := by
  have hlt := hR.lt
  have hW := hR.new
  have ho2 := Box.own (hB.set 0 (.int .i64 n)) (o := 1) (v' := v) (Box.own hB (o := 0) (v' := .int .i64 n) ho (by decide)) (by decide)
  exact ⟨n, es, v, rfl, hm, OwnE.of ho2 hb, own_ok ho, ((hR.set' (by omega) (by omega) _).set' (by omega) (by omega) _).more hq, g_set (g_set hG hBw) hBw⟩

set_option maxRecDepth 20000 in
set_option maxHeartbeats 4000000 in
theorem l2Wrong (W w : World) (g q : Nat) (n : Int) (es : List Ed) (s : Value) (h : Rd W w g q) (hq : q ≤ 900000) (hs : RowE w s es) (hok : okS s) (hl : es.length ≤ 1000) :
    Calls Try.prog 101 #[.pointer (some ⟨g, 0, none⟩), .agg #[.int .i64 n, s]] w (DrawnW W w g (q + 4) (es.length + 1)) := by
  obtain ⟨ad, cap, rfl, hz0⟩ := id hs
  clear hz0
  have hglt := h.lt
  have hb2 : Below w.heap.size w ((w.alloc (.cells #[.int .i64 n, .slice ad es.length cap] 25)).alloc (.cells #[.int .i64 0, .slice none 0 0] 25)) := ((Below.refl _ _).alloc (Nat.le_refl _) _).alloc (by simp) _
  have hx0 : Box ((w.alloc (.cells #[.int .i64 n, .slice ad es.length cap] 25)).alloc (.cells #[.int .i64 0, .slice none 0 0] 25)) w.heap.size 25 #[.int .i64 n, .slice ad es.length cap] := (Box.new w _ _).alloc _
  have hx1 : Box ((w.alloc (.cells #[.int .i64 n, .slice ad es.length cap] 25)).alloc (.cells #[.int .i64 0, .slice none 0 0] 25)) (w.heap.size + 1) 25 #[.int .i64 0, .slice none 0 0] := by
    have := Box.new (w.alloc (.cells #[.int .i64 n, .slice ad es.length cap] 25)) 25 #[.int .i64 0, .slice none 0 0]
    simpa using this
  have K0 := Lib.hid (And.intro hb2 (And.intro hx0 hx1))
  have HS := Lib.hid (And.intro hs hok)
  have HD := Lib.hid h
  clear hb2 hx0 hx1 hs hok h
  go_enter Try.func101, Try.ntmps101
  go_wp2_with fail
  generalize ((w.alloc (.cells #[.int .i64 n, .slice ad es.length cap] 25)).alloc (.cells #[.int .i64 0, .slice none 0 0] 25)) = w0 at K0 ⊢
  refine (l2Copy n es (.slice ad es.length cap) w0 (HS.out.1.keep K0.out.1) HS.out.2 (by omega)).mono ?_
  rintro e w1 ⟨v, rfl, hown, hb1⟩
  obtain ⟨va, vc, rfl⟩ := own_slice hown
  have hs0 : w.heap.size + 2 ≤ w0.heap.size := K0.out.2.2.lt
  have hs1 := hb1.size
  have hbox : Box (w1.alloc (.cells #[.int .i64 n, .slice va es.length vc] 25)) w1.heap.size 25 #[.int .i64 n, .slice va es.length vc] := Box.new w1 _ _
  have hB1 := (K0.out.2.2.keep hb1).alloc (.cells #[.int .i64 n, .slice va es.length vc] 25)
  have hown2 := hown.alloc (.cells #[.int .i64 n, .slice va es.length vc] 25)
  have hbel := (bel_trans K0.out.1 hb1).alloc (by omega) (.cells #[.int .i64 n, .slice va es.length vc] 25)
  have hRd := HD.out.keep hbel
  have hG := grown_below (g := g) hbel
  have hsz2 : (w1.alloc (.cells #[.int .i64 n, .slice va es.length vc] 25)).heap.size = w1.heap.size + 1 := by simp
  have HL := Lib.hid (fun k hk => (hown.lt k hk).2)
  clear hown hb1 hbel
  go_wp2_with fail
  generalize (w1.alloc (.cells #[.int .i64 n, .slice va es.length vc] 25)) = w2 at hbox hB1 hown2 hRd hG hsz2 ⊢
  have K2 := Lib.hid (And.intro hRd (And.intro hG (And.intro hbox (And.intro hB1 hown2))))
  clear hRd hG hbox hB1 hown2
  refine (pick 16 W w2 g q K2.out.1 (by omega) (by omega)).mono ?_
  rintro e w3 ⟨x, rfl, hx0, hx1, hRd, hG⟩
  have K3 := Lib.hid (And.intro hRd (And.intro (grown_trans' K2.out.2.1 hG) (And.intro (K2.out.2.2.1.grownG hG (by omega)) (And.intro (K2.out.2.2.2.1.grownG hG (by omega)) (K2.out.2.2.2.2.kept hG (own_ne' K2.out.2.2.2.2 (by omega)))))))
  have hs3 := hG.size
  clear hRd hG
  have c0 : w3.cell? ⟨w1.heap.size, 0, none⟩ = some (.int .i64 n) := by simpa using K3.out.2.2.1.cell 0
  have c1 : w3.cell? ⟨w1.heap.size, 1, none⟩ = some (.slice va es.length vc) := by simpa using K3.out.2.2.1.cell 1
  have r0 : w3.cell? ⟨w.heap.size + 1, 0, none⟩ = some (.int .i64 0) := by simpa using K3.out.2.2.2.1.cell 0
  have r1 : w3.cell? ⟨w.heap.size + 1, 1, none⟩ = some (.slice none 0 0) := by simpa using K3.out.2.2.2.1.cell 1
  have r2 := K3.out.2.2.2.1.frozen 0
  have r3 := K3.out.2.2.2.1.frozen 1
  by_cases hpos : 0 < x
  · have dx : decide (0 < x) = true := decide_eq_true hpos
    go_wp2
    try simp only [Exit.inBlock, Exit.then]
    refine bodyPost_ret (v := .agg #[.int .i64 n, .slice va es.length vc]) ?_ rfl ?_
    · rw [results_cell1 rfl]
      go_simp
    exact drawnW_of (q := q + 4) (q' := q + 1) K3.out.1 K3.out.2.1 K3.out.2.2.2.1 K3.out.2.2.2.2 (by omega) (by omega) (by omega) (by omega) hglt
  have dx : decide (0 < x) = false := decide_eq_false hpos
  by_cases hnil : es = []
  · subst hnil
    go_wp2
    try simp only [Exit.inBlock, Exit.then]
    refine bodyPost_ret (v := .agg #[.int .i64 n, .slice va 0 vc]) ?_ rfl ?_
    · rw [results_cell1 rfl]
      go_simp
    exact drawnW_of (es := ([] : List Ed)) (q := q + 4) (q' := q + 1) (m := ([] : List Ed).length + 1) K3.out.1 K3.out.2.1 K3.out.2.2.2.1 K3.out.2.2.2.2 (by omega) (by simp) (by omega) (by omega) hglt
  have dn : ((es.length : Int) == 0) = false := by simpa using hnil
  have hpl : 0 < es.length := by cases es with | nil => exact absurd rfl hnil | cons a b => simp
  have hpl' : (0 : Int) < es.length := by omega
  clear r0 r1 r2 r3 c0
  go_wp2_with fail
  refine (pick es.length W w3 g _ K3.out.1 (by omega) (by omega)).mono ?_
  rintro e w4 ⟨k0, rfl, hk0, hk1, hRd, hG⟩
  obtain ⟨k, rfl⟩ := Int.eq_ofNat_of_zero_le hk0
  have hk : k < es.length := by omega
  have K4 := Lib.hid (And.intro hRd (And.intro (grown_trans' K3.out.2.1 hG) (And.intro (K3.out.2.2.1.grownG hG (by omega)) (And.intro (K3.out.2.2.2.1.grownG hG (by omega)) (K3.out.2.2.2.2.kept hG (own_ne' K3.out.2.2.2.2 (by omega)))))))
  have hs4 := hG.size
  clear hRd hG hk0 hk1 c1
  go_wp2_with fail
  refine (pick 5 W w4 g _ K4.out.1 (by omega) (by omega)).mono ?_
  rintro e w5 ⟨y, rfl, hy0, hy1, hRd, hG⟩
  have K5 := Lib.hid (And.intro hRd (And.intro (grown_trans' K4.out.2.1 hG) (And.intro (K4.out.2.2.1.grownG hG (by omega)) (And.intro (K4.out.2.2.2.1.grownG hG (by omega)) (K4.out.2.2.2.2.kept hG (own_ne' K4.out.2.2.2.2 (by omega)))))))
  have hs5 := hG.size
  clear hRd hG
  have c1 : w5.cell? ⟨w1.heap.size, 1, none⟩ = some (.slice va es.length vc) := by simpa using K5.out.2.2.1.cell 1
  obtain ⟨B, cp, hva, hBge, hBlt⟩ := K5.out.2.2.2.2.form hpl
  injection hva with e1 e2 e3
  subst e1 e3
  have hBw1 : B < w1.heap.size := HL.out B rfl
  have hk' : (k : Int) < es.length := by omega
  by_cases e0 : y = 0
  · subst e0
    go_upto_region 7 with fail
    refine wp_region_inv (fun L a w' => ∃ (b0 b1 b2 b3 b4 b5 b6 b7 b8 : Bool) (yy : Nat) (xx : Int), L = #[b0, b1, b2, b3, b4, b5, b6, b7, b8] ∧ a = { tmps := #[Value.pointer (some ⟨g, 0, none⟩), Value.agg #[.int .i64 n, .slice ad es.length cap], undef, Value.pointer (some ⟨w.heap.size, 0, none⟩), Value.pointer (some ⟨w.heap.size + 1, 0, none⟩), Value.pointer (some ⟨w1.heap.size, 0, none⟩), Value.int .i64 (k : Int), Value.agg #[.int .i64 n, .slice ad es.length cap], Value.agg #[.int .i64 n, .slice (some ⟨B, 0, none⟩) es.length vc], Value.pointer (some ⟨g, 0, none⟩), Value.int .i64 x, Value.bool false, Value.bool false, Value.pointer (some ⟨w1.heap.size, 1, none⟩), Value.slice (some ⟨B, 0, none⟩) es.length vc, Value.int .i64 (es.length : Int), Value.bool false, Value.bool false, undef, Value.pointer (some ⟨g, 0, none⟩), Value.pointer (some ⟨w1.heap.size, 1, none⟩), Value.slice (some ⟨B, 0, none⟩) es.length vc, Value.int .i64 (es.length : Int), Value.int .i64 (k : Int), Value.pointer (some ⟨g, 0, none⟩), Value.int .i64 0, Value.bool true, Value.bool true, sel b0 (Value.pointer (some ⟨w1.heap.size, 1, none⟩)) undef, sel b1 (Value.slice (some ⟨B, 0, none⟩) es.length vc) undef, sel b2 (Value.int .i64 (k : Int)) undef, sel b3 (Value.pointer (some ⟨g, 0, none⟩)) undef, sel b4 (Value.slice (some ⟨yy, 0, none⟩) 3 3) undef, sel b5 (Value.int .i64 xx) undef, sel b6 (Value.pointer (some ⟨B, k * 3, none⟩)) undef, sel b7 (Value.pointer (some ⟨B, k * 3 + 1, none⟩)) undef, undef, undef, undef, undef, undef, undef, undef, undef, undef, undef, undef, undef, undef, undef, undef, undef, undef, undef, undef, undef, undef, undef, undef, undef, undef, undef, undef, undef, undef], defers := [] } ∧ Hid ((Rd W w' g (q + 1 + 1 + 1 + b5.toNat)) ∧ (w.grownBy w' (some g)) ∧ (Box w' w1.heap.size 25 #[.int .i64 n, .slice (some ⟨B, 0, none⟩) es.length vc]) ∧ (Box w' (w.heap.size + 1) 25 #[.int .i64 0, .slice none 0 0]) ∧ (b8 = false → w'.ownsRow (w0.heap.size + 1) 67 3 (.slice (some ⟨B, 0, none⟩) es.length vc) es.length (cellsE es)) ∧ (b4 = true → b5 = false → RowN w' g (.slice (some ⟨yy, 0, none⟩) 3 3) [12, -1, 0]) ∧ (b8 = true → w'.ownsRow (w0.heap.size + 1) 67 3 (.slice (some ⟨B, 0, none⟩) es.length vc) es.length (cellsE (setTo es k xx))) ∧ (w5.heap.size ≤ w'.heap.size) ∧ (b1 = true → (b0) = true) ∧ (b5 = true → (b3 && b4) = true) ∧ (b6 = true → (b1 && b2) = true) ∧ (b7 = true → (b6) = true) ∧ (b8 = true → (b0 && b1 && b2 && b3 && b4 && b5 && b6 && b7) = true))) (by kernel_rfl) (by kernel_rfl) ?_ ?_ ?_
    · exact ⟨false, false, false, false, false, false, false, false, false, 0, 0, rfl, rfl, Lib.hid ⟨K5.out.1.drew', (g_drew K5.out.2.1), K5.out.2.2.1.drew, K5.out.2.2.2.1.drew, (fun _ => own_drew K5.out.2.2.2.2), (fun h => absurd h (by decide)), (fun h => absurd h (by decide)), (Nat.le_refl _), (fun h => absurd h (by decide)), (fun h => absurd h (by decide)), (fun h => absurd h (by decide)), (fun h => absurd h (by decide)), (fun h => absurd h (by decide))⟩⟩
    · rintro L a w' hL ⟨b0, b1, b2, b3, b4, b5, b6, b7, b8, yy, xx, rfl, rfl, HF⟩ k9 o9 ho hl hd
      have hk9 : k9 = 0 ∨ k9 = 1 ∨ k9 = 2 ∨ k9 = 3 ∨ k9 = 4 ∨ k9 = 5 ∨ k9 = 6 ∨ k9 = 7 ∨ k9 = 8 := by have := (Array.getElem?_eq_some_iff.1 ho).1; simp at this; omega
      rcases hk9 with rfl | rfl | rfl | rfl | rfl | rfl | rfl | rfl | rfl
      · obtain rfl := Option.some.inj ho
        have hc0 : b0 = false := hl
        subst hc0
        have hc1 : b1 = false := by cases hx9 : b1 with | false => rfl | true => (have hy9 := HF.out.2.2.2.2.2.2.2.2.1 hx9; simp at hy9)
        subst hc1
        have hc6 : b6 = false := by cases hx9 : b6 with | false => rfl | true => (have hy9 := HF.out.2.2.2.2.2.2.2.2.2.2.1 hx9; simp at hy9)
        subst hc6
        have hc7 : b7 = false := by cases hx9 : b7 with | false => rfl | true => (have hy9 := HF.out.2.2.2.2.2.2.2.2.2.2.2.1 hx9; simp at hy9)
        subst hc7
        have hc8 : b8 = false := by cases hx9 : b8 with | false => rfl | true => (have hy9 := HF.out.2.2.2.2.2.2.2.2.2.2.2.2 hx9; simp at hy9)
        subst hc8
        clear hl hd ho hL
        simp only [sel_t, sel_f]
        refine wpOp_step rfl ?_
        intro K' hK'
        go_simp
        exact hK' _ _ ⟨true, false, b2, b3, b4, b5, false, false, false, yy, xx, rfl, rfl, Lib.hid ⟨HF.out.1, HF.out.2.1, HF.out.2.2.1, HF.out.2.2.2.1, HF.out.2.2.2.2.1, HF.out.2.2.2.2.2.1, HF.out.2.2.2.2.2.2.1, HF.out.2.2.2.2.2.2.2.1, (fun h => absurd h (by decide)), HF.out.2.2.2.2.2.2.2.2.2.1, (fun h => absurd h (by decide)), (fun h => absurd h (by decide)), (fun h => absurd h (by decide))⟩⟩
      · obtain rfl := Option.some.inj ho
        have hc1 : b1 = false := hl
        have hc0 : b0 = true := by first | (refine hd ⟨0, .data⟩ ?_ rfl; simp; done) | (refine hd ⟨0, .chain⟩ ?_ rfl; simp; done) | (refine hd ⟨0, .phase⟩ ?_ rfl; simp; done)
        subst hc1 hc0
        have hc6 : b6 = false := by cases hx9 : b6 with | false => rfl | true => (have hy9 := HF.out.2.2.2.2.2.2.2.2.2.2.1 hx9; simp at hy9)
        subst hc6
        have hc7 : b7 = false := by cases hx9 : b7 with | false => rfl | true => (have hy9 := HF.out.2.2.2.2.2.2.2.2.2.2.2.1 hx9; simp at hy9)
        subst hc7
        have hc8 : b8 = false := by cases hx9 : b8 with | false => rfl | true => (have hy9 := HF.out.2.2.2.2.2.2.2.2.2.2.2.2 hx9; simp at hy9)
        subst hc8
        clear hl hd ho hL
        simp only [sel_t, sel_f]
        have x0 : w'.cell? ⟨w1.heap.size, 1, none⟩ = some (.slice (some ⟨B, 0, none⟩) es.length vc) := by simpa using HF.out.2.2.1.cell 1
        refine wpOp_step rfl ?_
        intro K' hK'
        go_simp
        exact hK' _ _ ⟨true, true, b2, b3, b4, b5, false, false, false, yy, xx, rfl, rfl, Lib.hid ⟨HF.out.1, HF.out.2.1, HF.out.2.2.1, HF.out.2.2.2.1, HF.out.2.2.2.2.1, HF.out.2.2.2.2.2.1, HF.out.2.2.2.2.2.2.1, HF.out.2.2.2.2.2.2.2.1, (fun _ => rfl), HF.out.2.2.2.2.2.2.2.2.2.1, (fun h => absurd h (by decide)), (fun h => absurd h (by decide)), (fun h => absurd h (by decide))⟩⟩
      · obtain rfl := Option.some.inj ho
        have hc2 : b2 = false := hl
        subst hc2
        have hc6 : b6 = false := by cases hx9 : b6 with | false => rfl | true => (have hy9 := HF.out.2.2.2.2.2.2.2.2.2.2.1 hx9; simp at hy9)
        subst hc6
        have hc7 : b7 = false := by cases hx9 : b7 with | false => rfl | true => (have hy9 := HF.out.2.2.2.2.2.2.2.2.2.2.2.1 hx9; simp at hy9)
        subst hc7
        have hc8 : b8 = false := by cases hx9 : b8 with | false => rfl | true => (have hy9 := HF.out.2.2.2.2.2.2.2.2.2.2.2.2 hx9; simp at hy9)
        subst hc8
        clear hl hd ho hL
        simp only [sel_t, sel_f]
        refine wpOp_step rfl ?_
        intro K' hK'
        go_simp
        exact hK' _ _ ⟨b0, b1, true, b3, b4, b5, false, false, false, yy, xx, rfl, rfl, Lib.hid ⟨HF.out.1, HF.out.2.1, HF.out.2.2.1, HF.out.2.2.2.1, HF.out.2.2.2.2.1, HF.out.2.2.2.2.2.1, HF.out.2.2.2.2.2.2.1, HF.out.2.2.2.2.2.2.2.1, HF.out.2.2.2.2.2.2.2.2.1, HF.out.2.2.2.2.2.2.2.2.2.1, (fun h => absurd h (by decide)), (fun h => absurd h (by decide)), (fun h => absurd h (by decide))⟩⟩
      · obtain rfl := Option.some.inj ho
        have hc3 : b3 = false := hl
        subst hc3
        have hc5 : b5 = false := by cases hx9 : b5 with | false => rfl | true => (have hy9 := HF.out.2.2.2.2.2.2.2.2.2.1 hx9; simp at hy9)
        subst hc5
        have hc8 : b8 = false := by cases hx9 : b8 with | false => rfl | true => (have hy9 := HF.out.2.2.2.2.2.2.2.2.2.2.2.2 hx9; simp at hy9)
        subst hc8
        clear hl hd ho hL
        simp only [sel_t, sel_f]
        refine wpOp_step rfl ?_
        intro K' hK'
        go_simp
        exact hK' _ _ ⟨b0, b1, b2, true, b4, false, b6, b7, false, yy, xx, rfl, rfl, Lib.hid ⟨HF.out.1, HF.out.2.1, HF.out.2.2.1, HF.out.2.2.2.1, HF.out.2.2.2.2.1, HF.out.2.2.2.2.2.1, HF.out.2.2.2.2.2.2.1, HF.out.2.2.2.2.2.2.2.1, HF.out.2.2.2.2.2.2.2.2.1, (fun h => absurd h (by decide)), HF.out.2.2.2.2.2.2.2.2.2.2.1, HF.out.2.2.2.2.2.2.2.2.2.2.2.1, (fun h => absurd h (by decide))⟩⟩
      · obtain rfl := Option.some.inj ho
        have hc4 : b4 = false := hl
        subst hc4
        have hc5 : b5 = false := by cases hx9 : b5 with | false => rfl | true => (have hy9 := HF.out.2.2.2.2.2.2.2.2.2.1 hx9; simp at hy9)
        subst hc5
        have hc8 : b8 = false := by cases hx9 : b8 with | false => rfl | true => (have hy9 := HF.out.2.2.2.2.2.2.2.2.2.2.2.2 hx9; simp at hy9)
        subst hc8
        clear hl hd ho hL
        simp only [sel_t, sel_f]
        refine wpOp_step rfl ?_
        intro K' hK'
        go_simp
        exact hK' _ _ ⟨b0, b1, b2, b3, true, false, b6, b7, false, w'.heap.size, xx, rfl, rfl, Lib.hid ⟨(HF.out.1.alloc' _), (g_alloc HF.out.2.1 _), (HF.out.2.2.1.alloc _), (HF.out.2.2.2.1.alloc _), (fun h => (HF.out.2.2.2.2.1 h).alloc _), (fun _ _ => rowN_at [12, -1, 0] w' g _ _ rfl HF.out.1.lt), (fun h => absurd h (by decide)), (Nat.le_trans HF.out.2.2.2.2.2.2.2.1 (by simp)), HF.out.2.2.2.2.2.2.2.2.1, (fun h => absurd h (by decide)), HF.out.2.2.2.2.2.2.2.2.2.2.1, HF.out.2.2.2.2.2.2.2.2.2.2.2.1, (fun h => absurd h (by decide))⟩⟩
      · obtain rfl := Option.some.inj ho
        have hc5 : b5 = false := hl
        have hc4 : b4 = true := by first | (refine hd ⟨4, .data⟩ ?_ rfl; simp; done) | (refine hd ⟨4, .chain⟩ ?_ rfl; simp; done) | (refine hd ⟨4, .phase⟩ ?_ rfl; simp; done)
        have hc3 : b3 = true := by first | (refine hd ⟨3, .data⟩ ?_ rfl; simp; done) | (refine hd ⟨3, .chain⟩ ?_ rfl; simp; done) | (refine hd ⟨3, .phase⟩ ?_ rfl; simp; done)
        subst hc5 hc4 hc3
        have hc8 : b8 = false := by cases hx9 : b8 with | false => rfl | true => (have hy9 := HF.out.2.2.2.2.2.2.2.2.2.2.2.2 hx9; simp at hy9)
        subst hc8
        clear hl hd ho hL
        simp only [sel_t, sel_f]
        have hcall := num [12, -1, 0] (.slice (some ⟨yy, 0, none⟩) 3 3) W w' g _ HF.out.1 (by simp only [Bool.toNat_false]; omega) (HF.out.2.2.2.2.2.1 rfl rfl) (by decide) (by decide)
        have HC9 := Lib.hid hcall
        clear hcall
        refine wpOp_step rfl ?_
        intro K' hK'
        go_simp
        refine HC9.out.mono ?_
        rintro e9 w9 ⟨x9, hx9, rfl, hR9, hG9⟩
        exact hK' _ _ ⟨b0, b1, b2, true, true, true, b6, b7, false, yy, x9, rfl, rfl, Lib.hid ⟨(hR9.more (by simp only [Bool.toNat_false, Bool.toNat_true]; omega)), (grown_trans' HF.out.2.1 hG9), (HF.out.2.2.1.grownG hG9 (by omega)), (HF.out.2.2.2.1.grownG hG9 (by omega)), (fun h => (HF.out.2.2.2.2.1 h).kept hG9 (own_ne' (HF.out.2.2.2.2.1 h) (by omega))), (fun _ h => absurd h (by decide)), (fun h => absurd h (by decide)), (Nat.le_trans HF.out.2.2.2.2.2.2.2.1 hG9.size), HF.out.2.2.2.2.2.2.2.2.1, (fun _ => rfl), HF.out.2.2.2.2.2.2.2.2.2.2.1, HF.out.2.2.2.2.2.2.2.2.2.2.2.1, (fun h => absurd h (by decide))⟩⟩
      · obtain rfl := Option.some.inj ho
        have hc6 : b6 = false := hl
        have hc2 : b2 = true := by first | (refine hd ⟨2, .data⟩ ?_ rfl; simp; done) | (refine hd ⟨2, .chain⟩ ?_ rfl; simp; done) | (refine hd ⟨2, .phase⟩ ?_ rfl; simp; done)
        have hc1 : b1 = true := by first | (refine hd ⟨1, .data⟩ ?_ rfl; simp; done) | (refine hd ⟨1, .chain⟩ ?_ rfl; simp; done) | (refine hd ⟨1, .phase⟩ ?_ rfl; simp; done)
        subst hc6 hc2 hc1
        have hc7 : b7 = false := by cases hx9 : b7 with | false => rfl | true => (have hy9 := HF.out.2.2.2.2.2.2.2.2.2.2.2.1 hx9; simp at hy9)
        subst hc7
        have hc8 : b8 = false := by cases hx9 : b8 with | false => rfl | true => (have hy9 := HF.out.2.2.2.2.2.2.2.2.2.2.2.2 hx9; simp at hy9)
        subst hc8
        clear hl hd ho hL
        simp only [sel_t, sel_f]
        refine wpOp_step rfl ?_
        intro K' hK'
        go_simp
        exact hK' _ _ ⟨b0, true, true, b3, b4, b5, true, false, false, yy, xx, rfl, rfl, Lib.hid ⟨HF.out.1, HF.out.2.1, HF.out.2.2.1, HF.out.2.2.2.1, HF.out.2.2.2.2.1, HF.out.2.2.2.2.2.1, HF.out.2.2.2.2.2.2.1, HF.out.2.2.2.2.2.2.2.1, HF.out.2.2.2.2.2.2.2.2.1, HF.out.2.2.2.2.2.2.2.2.2.1, (fun _ => rfl), (fun h => absurd h (by decide)), (fun h => absurd h (by decide))⟩⟩
      · obtain rfl := Option.some.inj ho
        have hc7 : b7 = false := hl
        have hc6 : b6 = true := by first | (refine hd ⟨6, .data⟩ ?_ rfl; simp; done) | (refine hd ⟨6, .chain⟩ ?_ rfl; simp; done) | (refine hd ⟨6, .phase⟩ ?_ rfl; simp; done)
        subst hc7 hc6
        have hc8 : b8 = false := by cases hx9 : b8 with | false => rfl | true => (have hy9 := HF.out.2.2.2.2.2.2.2.2.2.2.2.2 hx9; simp at hy9)
        subst hc8
        clear hl hd ho hL
        simp only [sel_t, sel_f]
        refine wpOp_step rfl ?_
        intro K' hK'
        go_simp
        exact hK' _ _ ⟨b0, b1, b2, b3, b4, b5, true, true, false, yy, xx, rfl, rfl, Lib.hid ⟨HF.out.1, HF.out.2.1, HF.out.2.2.1, HF.out.2.2.2.1, HF.out.2.2.2.2.1, HF.out.2.2.2.2.2.1, HF.out.2.2.2.2.2.2.1, HF.out.2.2.2.2.2.2.2.1, HF.out.2.2.2.2.2.2.2.2.1, HF.out.2.2.2.2.2.2.2.2.2.1, HF.out.2.2.2.2.2.2.2.2.2.2.1, (fun _ => rfl), (fun h => absurd h (by decide))⟩⟩
      · obtain rfl := Option.some.inj ho
        have hc8 : b8 = false := hl
        have hc7 : b7 = true := by first | (refine hd ⟨7, .data⟩ ?_ rfl; simp; done) | (refine hd ⟨7, .chain⟩ ?_ rfl; simp; done) | (refine hd ⟨7, .phase⟩ ?_ rfl; simp; done)
        have hc6 : b6 = true := by first | (refine hd ⟨6, .data⟩ ?_ rfl; simp; done) | (refine hd ⟨6, .chain⟩ ?_ rfl; simp; done) | (refine hd ⟨6, .phase⟩ ?_ rfl; simp; done) | exact HF.out.2.2.2.2.2.2.2.2.2.2.2.1 hc7 | (have hy9 := HF.out.2.2.2.2.2.2.2.2.2.2.2.1 hc7; simp at hy9; simp [hy9]; done)
        have hc5 : b5 = true := by first | (refine hd ⟨5, .data⟩ ?_ rfl; simp; done) | (refine hd ⟨5, .chain⟩ ?_ rfl; simp; done) | (refine hd ⟨5, .phase⟩ ?_ rfl; simp; done)
        have hc4 : b4 = true := by first | (refine hd ⟨4, .data⟩ ?_ rfl; simp; done) | (refine hd ⟨4, .chain⟩ ?_ rfl; simp; done) | (refine hd ⟨4, .phase⟩ ?_ rfl; simp; done) | exact HF.out.2.2.2.2.2.2.2.2.2.1 hc5 | (have hy9 := HF.out.2.2.2.2.2.2.2.2.2.1 hc5; simp at hy9; simp [hy9]; done)
        have hc3 : b3 = true := by first | (refine hd ⟨3, .data⟩ ?_ rfl; simp; done) | (refine hd ⟨3, .chain⟩ ?_ rfl; simp; done) | (refine hd ⟨3, .phase⟩ ?_ rfl; simp; done) | exact HF.out.2.2.2.2.2.2.2.2.2.1 hc5 | (have hy9 := HF.out.2.2.2.2.2.2.2.2.2.1 hc5; simp at hy9; simp [hy9]; done)
        have hc2 : b2 = true := by first | (refine hd ⟨2, .data⟩ ?_ rfl; simp; done) | (refine hd ⟨2, .chain⟩ ?_ rfl; simp; done) | (refine hd ⟨2, .phase⟩ ?_ rfl; simp; done) | exact HF.out.2.2.2.2.2.2.2.2.2.2.1 hc6 | (have hy9 := HF.out.2.2.2.2.2.2.2.2.2.2.1 hc6; simp at hy9; simp [hy9]; done)
        have hc1 : b1 = true := by first | (refine hd ⟨1, .data⟩ ?_ rfl; simp; done) | (refine hd ⟨1, .chain⟩ ?_ rfl; simp; done) | (refine hd ⟨1, .phase⟩ ?_ rfl; simp; done) | exact HF.out.2.2.2.2.2.2.2.2.2.2.1 hc6 | (have hy9 := HF.out.2.2.2.2.2.2.2.2.2.2.1 hc6; simp at hy9; simp [hy9]; done)
        have hc0 : b0 = true := by first | (refine hd ⟨0, .data⟩ ?_ rfl; simp; done) | (refine hd ⟨0, .chain⟩ ?_ rfl; simp; done) | (refine hd ⟨0, .phase⟩ ?_ rfl; simp; done) | exact HF.out.2.2.2.2.2.2.2.2.1 hc1 | (have hy9 := HF.out.2.2.2.2.2.2.2.2.1 hc1; simp at hy9; simp [hy9]; done)
        subst hc8 hc7 hc6 hc5 hc4 hc3 hc2 hc1 hc0
        clear hl hd ho hL
        simp only [sel_t, sel_f]
        have ho9 := HF.out.2.2.2.2.1 rfl
        have hc9 : w'.cell? ⟨B, k * 3 + 1, none⟩ = (cellsE es)[k * 3 + 1]? := ho9.cellAt (k * 3 + 1) (by omega)
        have hc8 : (cellsE es)[k * 3 + 1]? = some (cellE es (k * 3 + 1)) := cellsE_at es (by omega)
        rw [hc8] at hc9
        have hf9 := ho9.frozenAt (k * 3 + 1)
        obtain ⟨ho8, hg8⟩ := ho9.stored (k * 3 + 1) (.int .i64 xx)
        rw [setTo_cells es k hk xx] at ho8
        have hsz9 := HF.out.2.2.2.2.2.2.2.1
        have hRl := HF.out.1.lt
        have hWn := HF.out.1.new
        have HO8 := Lib.hid ho8
        have HG8 := Lib.hid hg8
        clear ho8 hg8 hc8
        refine wpOp_step rfl ?_
        intro K' hK'
        go_simp
        exact hK' _ _ ⟨true, true, true, true, true, true, true, true, true, yy, xx, rfl, rfl, Lib.hid ⟨(HF.out.1.set' (by omega) (by omega) _), (g_set HF.out.2.1 (by omega)), (HF.out.2.2.1.grownN HG8.out (by intro h; injection h with h; omega)), (HF.out.2.2.2.1.grownN HG8.out (by intro h; injection h with h; omega)), (fun h => absurd h (by decide)), (fun _ h => absurd h (by decide)), (fun _ => HO8.out), (Nat.le_trans HF.out.2.2.2.2.2.2.2.1 (by simp)), (fun h => by have := HF.out.2.2.2.2.2.2.2.2.1 h; simpa using this), (fun h => by have := HF.out.2.2.2.2.2.2.2.2.2.1 h; simpa using this), (fun h => by have := HF.out.2.2.2.2.2.2.2.2.2.2.1 h; simpa using this), (fun h => by have := HF.out.2.2.2.2.2.2.2.2.2.2.2.1 h; simpa using this), (fun _ => rfl)⟩⟩
    · rintro L a w' hL ⟨b0, b1, b2, b3, b4, b5, b6, b7, b8, yy, xx, rfl, rfl, HF⟩ hall
      have hc0 : b0 = true := hall 0 (by decide)
      have hc1 : b1 = true := hall 1 (by decide)
      have hc2 : b2 = true := hall 2 (by decide)
      have hc3 : b3 = true := hall 3 (by decide)
      have hc4 : b4 = true := hall 4 (by decide)
      have hc5 : b5 = true := hall 5 (by decide)
      have hc6 : b6 = true := hall 6 (by decide)
      have hc7 : b7 = true := hall 7 (by decide)
      have hc8 : b8 = true := hall 8 (by decide)
      subst hc0 hc1 hc2 hc3 hc4 hc5 hc6 hc7 hc8
      simp only [sel_t]
      have HE := Lib.hid (And.intro (HF.out.1.more (show _ ≤ q + 4 by simp only [Bool.toNat_true]; omega)) (And.intro HF.out.2.1 (And.intro HF.out.2.2.1 (And.intro HF.out.2.2.2.1 (HF.out.2.2.2.2.2.2.1 rfl)))))
      clear HF
      have c0 : w'.cell? ⟨w1.heap.size, 0, none⟩ = some (.int .i64 n) := by simpa using HE.out.2.2.1.cell 0
      have c1 : w'.cell? ⟨w1.heap.size, 1, none⟩ = some (.slice (some ⟨B, 0, none⟩) es.length vc) := by simpa using HE.out.2.2.1.cell 1
      have r0 : w'.cell? ⟨w.heap.size + 1, 0, none⟩ = some (.int .i64 0) := by simpa using HE.out.2.2.2.1.cell 0
      have r1 : w'.cell? ⟨w.heap.size + 1, 1, none⟩ = some (.slice none 0 0) := by simpa using HE.out.2.2.2.1.cell 1
      have r2 := HE.out.2.2.2.1.frozen 0
      have r3 := HE.out.2.2.2.1.frozen 1
      go_wp2
      try simp only [Exit.inBlock, Exit.then]
      refine bodyPost_ret (v := .agg #[.int .i64 n, (.slice (some ⟨B, 0, none⟩) es.length vc)]) ?_ rfl ?_
      · rw [results_cell1 rfl]
        go_simp
      exact drawnW_of (es := setTo es k xx) (q := q + 4) (q' := q + 4) HE.out.1 HE.out.2.1 HE.out.2.2.2.1 (by simpa [setTo] using HE.out.2.2.2.2) (by omega) (by simp [setTo]) (by omega) (by omega) hglt
  have d0 : (y == 0) = false := by simpa using e0
  by_cases e1 : y = 1
  · subst e1
    go_upto_region 9 with fail
    refine wp_region_inv (fun L a w' => ∃ (b0 b1 b2 b3 b4 b5 b6 b7 b8 : Bool) (yy : Nat) (xx : Int), L = #[b0, b1, b2, b3, b4, b5, b6, b7, b8] ∧ a = { tmps := #[Value.pointer (some ⟨g, 0, none⟩), Value.agg #[.int .i64 n, .slice ad es.length cap], undef, Value.pointer (some ⟨w.heap.size, 0, none⟩), Value.pointer (some ⟨w.heap.size + 1, 0, none⟩), Value.pointer (some ⟨w1.heap.size, 0, none⟩), Value.int .i64 (k : Int), Value.agg #[.int .i64 n, .slice ad es.length cap], Value.agg #[.int .i64 n, .slice (some ⟨B, 0, none⟩) es.length vc], Value.pointer (some ⟨g, 0, none⟩), Value.int .i64 x, Value.bool false, Value.bool false, Value.pointer (some ⟨w1.heap.size, 1, none⟩), Value.slice (some ⟨B, 0, none⟩) es.length vc, Value.int .i64 (es.length : Int), Value.bool false, Value.bool false, undef, Value.pointer (some ⟨g, 0, none⟩), Value.pointer (some ⟨w1.heap.size, 1, none⟩), Value.slice (some ⟨B, 0, none⟩) es.length vc, Value.int .i64 (es.length : Int), Value.int .i64 (k : Int), Value.pointer (some ⟨g, 0, none⟩), Value.int .i64 1, Value.bool false, Value.bool false, undef, undef, undef, undef, undef, undef, undef, undef, Value.bool true, Value.bool true, sel b0 (Value.pointer (some ⟨w1.heap.size, 1, none⟩)) undef, sel b1 (Value.slice (some ⟨B, 0, none⟩) es.length vc) undef, sel b2 (Value.int .i64 (k : Int)) undef, sel b3 (Value.pointer (some ⟨g, 0, none⟩)) undef, sel b4 (Value.slice (some ⟨yy, 0, none⟩) 2 2) undef, sel b5 (Value.int .i64 xx) undef, sel b6 (Value.pointer (some ⟨B, k * 3, none⟩)) undef, sel b7 (Value.pointer (some ⟨B, k * 3 + 2, none⟩)) undef, undef, undef, undef, undef, undef, undef, undef, undef, undef, undef, undef, undef, undef, undef, undef, undef, undef, undef, undef], defers := [] } ∧ Hid ((Rd W w' g (q + 1 + 1 + 1 + b5.toNat)) ∧ (w.grownBy w' (some g)) ∧ (Box w' w1.heap.size 25 #[.int .i64 n, .slice (some ⟨B, 0, none⟩) es.length vc]) ∧ (Box w' (w.heap.size + 1) 25 #[.int .i64 0, .slice none 0 0]) ∧ (b8 = false → w'.ownsRow (w0.heap.size + 1) 67 3 (.slice (some ⟨B, 0, none⟩) es.length vc) es.length (cellsE es)) ∧ (b4 = true → b5 = false → RowN w' g (.slice (some ⟨yy, 0, none⟩) 2 2) [0, 1000]) ∧ (b8 = true → w'.ownsRow (w0.heap.size + 1) 67 3 (.slice (some ⟨B, 0, none⟩) es.length vc) es.length (cellsE (setWt es k xx))) ∧ (w5.heap.size ≤ w'.heap.size) ∧ (b1 = true → (b0) = true) ∧ (b5 = true → (b3 && b4) = true) ∧ (b6 = true → (b1 && b2) = true) ∧ (b7 = true → (b6) = true) ∧ (b8 = true → (b0 && b1 && b2 && b3 && b4 && b5 && b6 && b7) = true))) (by kernel_rfl) (by kernel_rfl) ?_ ?_ ?_
    · exact ⟨false, false, false, false, false, false, false, false, false, 0, 0, rfl, rfl, Lib.hid ⟨K5.out.1.drew', (g_drew K5.out.2.1), K5.out.2.2.1.drew, K5.out.2.2.2.1.drew, (fun _ => own_drew K5.out.2.2.2.2), (fun h => absurd h (by decide)), (fun h => absurd h (by decide)), (Nat.le_refl _), (fun h => absurd h (by decide)), (fun h => absurd h (by decide)), (fun h => absurd h (by decide)), (fun h => absurd h (by decide)), (fun h => absurd h (by decide))⟩⟩
    · rintro L a w' hL ⟨b0, b1, b2, b3, b4, b5, b6, b7, b8, yy, xx, rfl, rfl, HF⟩ k9 o9 ho hl hd
      have hk9 : k9 = 0 ∨ k9 = 1 ∨ k9 = 2 ∨ k9 = 3 ∨ k9 = 4 ∨ k9 = 5 ∨ k9 = 6 ∨ k9 = 7 ∨ k9 = 8 := by have := (Array.getElem?_eq_some_iff.1 ho).1; simp at this; omega
      rcases hk9 with rfl | rfl | rfl | rfl | rfl | rfl | rfl | rfl | rfl
      · obtain rfl := Option.some.inj ho
        have hc0 : b0 = false := hl
        subst hc0
        have hc1 : b1 = false := by cases hx9 : b1 with | false => rfl | true => (have hy9 := HF.out.2.2.2.2.2.2.2.2.1 hx9; simp at hy9)
        subst hc1
        have hc6 : b6 = false := by cases hx9 : b6 with | false => rfl | true => (have hy9 := HF.out.2.2.2.2.2.2.2.2.2.2.1 hx9; simp at hy9)
        subst hc6
        have hc7 : b7 = false := by cases hx9 : b7 with | false => rfl | true => (have hy9 := HF.out.2.2.2.2.2.2.2.2.2.2.2.1 hx9; simp at hy9)
        subst hc7
        have hc8 : b8 = false := by cases hx9 : b8 with | false => rfl | true => (have hy9 := HF.out.2.2.2.2.2.2.2.2.2.2.2.2 hx9; simp at hy9)
        subst hc8
        clear hl hd ho hL
        simp only [sel_t, sel_f]
        refine wpOp_step rfl ?_
        intro K' hK'
        go_simp
        exact hK' _ _ ⟨true, false, b2, b3, b4, b5, false, false, false, yy, xx, rfl, rfl, Lib.hid ⟨HF.out.1, HF.out.2.1, HF.out.2.2.1, HF.out.2.2.2.1, HF.out.2.2.2.2.1, HF.out.2.2.2.2.2.1, HF.out.2.2.2.2.2.2.1, HF.out.2.2.2.2.2.2.2.1, (fun h => absurd h (by decide)), HF.out.2.2.2.2.2.2.2.2.2.1, (fun h => absurd h (by decide)), (fun h => absurd h (by decide)), (fun h => absurd h (by decide))⟩⟩
      · obtain rfl := Option.some.inj ho
        have hc1 : b1 = false := hl
        have hc0 : b0 = true := by first | (refine hd ⟨0, .data⟩ ?_ rfl; simp; done) | (refine hd ⟨0, .chain⟩ ?_ rfl; simp; done) | (refine hd ⟨0, .phase⟩ ?_ rfl; simp; done)
        subst hc1 hc0
        have hc6 : b6 = false := by cases hx9 : b6 with | false => rfl | true => (have hy9 := HF.out.2.2.2.2.2.2.2.2.2.2.1 hx9; simp at hy9)
        subst hc6
        have hc7 : b7 = false := by cases hx9 : b7 with | false => rfl | true => (have hy9 := HF.out.2.2.2.2.2.2.2.2.2.2.2.1 hx9; simp at hy9)
        subst hc7
        have hc8 : b8 = false := by cases hx9 : b8 with | false => rfl | true => (have hy9 := HF.out.2.2.2.2.2.2.2.2.2.2.2.2 hx9; simp at hy9)
        subst hc8
        clear hl hd ho hL
        simp only [sel_t, sel_f]
        have x0 : w'.cell? ⟨w1.heap.size, 1, none⟩ = some (.slice (some ⟨B, 0, none⟩) es.length vc) := by simpa using HF.out.2.2.1.cell 1
        refine wpOp_step rfl ?_
        intro K' hK'
        go_simp
        exact hK' _ _ ⟨true, true, b2, b3, b4, b5, false, false, false, yy, xx, rfl, rfl, Lib.hid ⟨HF.out.1, HF.out.2.1, HF.out.2.2.1, HF.out.2.2.2.1, HF.out.2.2.2.2.1, HF.out.2.2.2.2.2.1, HF.out.2.2.2.2.2.2.1, HF.out.2.2.2.2.2.2.2.1, (fun _ => rfl), HF.out.2.2.2.2.2.2.2.2.2.1, (fun h => absurd h (by decide)), (fun h => absurd h (by decide)), (fun h => absurd h (by decide))⟩⟩
      · obtain rfl := Option.some.inj ho
        have hc2 : b2 = false := hl
        subst hc2
        have hc6 : b6 = false := by cases hx9 : b6 with | false => rfl | true => (have hy9 := HF.out.2.2.2.2.2.2.2.2.2.2.1 hx9; simp at hy9)
        subst hc6
        have hc7 : b7 = false := by cases hx9 : b7 with | false => rfl | true => (have hy9 := HF.out.2.2.2.2.2.2.2.2.2.2.2.1 hx9; simp at hy9)
        subst hc7
        have hc8 : b8 = false := by cases hx9 : b8 with | false => rfl | true => (have hy9 := HF.out.2.2.2.2.2.2.2.2.2.2.2.2 hx9; simp at hy9)
        subst hc8
        clear hl hd ho hL
        simp only [sel_t, sel_f]
        refine wpOp_step rfl ?_
        intro K' hK'
        go_simp
        exact hK' _ _ ⟨b0, b1, true, b3, b4, b5, false, false, false, yy, xx, rfl, rfl, Lib.hid ⟨HF.out.1, HF.out.2.1, HF.out.2.2.1, HF.out.2.2.2.1, HF.out.2.2.2.2.1, HF.out.2.2.2.2.2.1, HF.out.2.2.2.2.2.2.1, HF.out.2.2.2.2.2.2.2.1, HF.out.2.2.2.2.2.2.2.2.1, HF.out.2.2.2.2.2.2.2.2.2.1, (fun h => absurd h (by decide)), (fun h => absurd h (by decide)), (fun h => absurd h (by decide))⟩⟩
      · obtain rfl := Option.some.inj ho
        have hc3 : b3 = false := hl
        subst hc3
        have hc5 : b5 = false := by cases hx9 : b5 with | false => rfl | true => (have hy9 := HF.out.2.2.2.2.2.2.2.2.2.1 hx9; simp at hy9)
        subst hc5
        have hc8 : b8 = false := by cases hx9 : b8 with | false => rfl | true => (have hy9 := HF.out.2.2.2.2.2.2.2.2.2.2.2.2 hx9; simp at hy9)
        subst hc8
        clear hl hd ho hL
        simp only [sel_t, sel_f]
        refine wpOp_step rfl ?_
        intro K' hK'
        go_simp
        exact hK' _ _ ⟨b0, b1, b2, true, b4, false, b6, b7, false, yy, xx, rfl, rfl, Lib.hid ⟨HF.out.1, HF.out.2.1, HF.out.2.2.1, HF.out.2.2.2.1, HF.out.2.2.2.2.1, HF.out.2.2.2.2.2.1, HF.out.2.2.2.2.2.2.1, HF.out.2.2.2.2.2.2.2.1, HF.out.2.2.2.2.2.2.2.2.1, (fun h => absurd h (by decide)), HF.out.2.2.2.2.2.2.2.2.2.2.1, HF.out.2.2.2.2.2.2.2.2.2.2.2.1, (fun h => absurd h (by decide))⟩⟩
      · obtain rfl := Option.some.inj ho
        have hc4 : b4 = false := hl
        subst hc4
        have hc5 : b5 = false := by cases hx9 : b5 with | false => rfl | true => (have hy9 := HF.out.2.2.2.2.2.2.2.2.2.1 hx9; simp at hy9)
        subst hc5
        have hc8 : b8 = false := by cases hx9 : b8 with | false => rfl | true => (have hy9 := HF.out.2.2.2.2.2.2.2.2.2.2.2.2 hx9; simp at hy9)
        subst hc8
        clear hl hd ho hL
        simp only [sel_t, sel_f]
        refine wpOp_step rfl ?_
        intro K' hK'
        go_simp
        exact hK' _ _ ⟨b0, b1, b2, b3, true, false, b6, b7, false, w'.heap.size, xx, rfl, rfl, Lib.hid ⟨(HF.out.1.alloc' _), (g_alloc HF.out.2.1 _), (HF.out.2.2.1.alloc _), (HF.out.2.2.2.1.alloc _), (fun h => (HF.out.2.2.2.2.1 h).alloc _), (fun _ _ => rowN_at [0, 1000] w' g _ _ rfl HF.out.1.lt), (fun h => absurd h (by decide)), (Nat.le_trans HF.out.2.2.2.2.2.2.2.1 (by simp)), HF.out.2.2.2.2.2.2.2.2.1, (fun h => absurd h (by decide)), HF.out.2.2.2.2.2.2.2.2.2.2.1, HF.out.2.2.2.2.2.2.2.2.2.2.2.1, (fun h => absurd h (by decide))⟩⟩
      · obtain rfl := Option.some.inj ho
        have hc5 : b5 = false := hl
        have hc4 : b4 = true := by first | (refine hd ⟨4, .data⟩ ?_ rfl; simp; done) | (refine hd ⟨4, .chain⟩ ?_ rfl; simp; done) | (refine hd ⟨4, .phase⟩ ?_ rfl; simp; done)
        have hc3 : b3 = true := by first | (refine hd ⟨3, .data⟩ ?_ rfl; simp; done) | (refine hd ⟨3, .chain⟩ ?_ rfl; simp; done) | (refine hd ⟨3, .phase⟩ ?_ rfl; simp; done)
        subst hc5 hc4 hc3
        have hc8 : b8 = false := by cases hx9 : b8 with | false => rfl | true => (have hy9 := HF.out.2.2.2.2.2.2.2.2.2.2.2.2 hx9; simp at hy9)
        subst hc8
        clear hl hd ho hL
        simp only [sel_t, sel_f]
        have hcall := num [0, 1000] (.slice (some ⟨yy, 0, none⟩) 2 2) W w' g _ HF.out.1 (by simp only [Bool.toNat_false]; omega) (HF.out.2.2.2.2.2.1 rfl rfl) (by decide) (by decide)
        have HC9 := Lib.hid hcall
        clear hcall
        refine wpOp_step rfl ?_
        intro K' hK'
        go_simp
        refine HC9.out.mono ?_
        rintro e9 w9 ⟨x9, hx9, rfl, hR9, hG9⟩
        exact hK' _ _ ⟨b0, b1, b2, true, true, true, b6, b7, false, yy, x9, rfl, rfl, Lib.hid ⟨(hR9.more (by simp only [Bool.toNat_false, Bool.toNat_true]; omega)), (grown_trans' HF.out.2.1 hG9), (HF.out.2.2.1.grownG hG9 (by omega)), (HF.out.2.2.2.1.grownG hG9 (by omega)), (fun h => (HF.out.2.2.2.2.1 h).kept hG9 (own_ne' (HF.out.2.2.2.2.1 h) (by omega))), (fun _ h => absurd h (by decide)), (fun h => absurd h (by decide)), (Nat.le_trans HF.out.2.2.2.2.2.2.2.1 hG9.size), HF.out.2.2.2.2.2.2.2.2.1, (fun _ => rfl), HF.out.2.2.2.2.2.2.2.2.2.2.1, HF.out.2.2.2.2.2.2.2.2.2.2.2.1, (fun h => absurd h (by decide))⟩⟩
      · obtain rfl := Option.some.inj ho
        have hc6 : b6 = false := hl
        have hc2 : b2 = true := by first | (refine hd ⟨2, .data⟩ ?_ rfl; simp; done) | (refine hd ⟨2, .chain⟩ ?_ rfl; simp; done) | (refine hd ⟨2, .phase⟩ ?_ rfl; simp; done)
        have hc1 : b1 = true := by first | (refine hd ⟨1, .data⟩ ?_ rfl; simp; done) | (refine hd ⟨1, .chain⟩ ?_ rfl; simp; done) | (refine hd ⟨1, .phase⟩ ?_ rfl; simp; done)
        subst hc6 hc2 hc1
        have hc7 : b7 = false := by cases hx9 : b7 with | false => rfl | true => (have hy9 := HF.out.2.2.2.2.2.2.2.2.2.2.2.1 hx9; simp at hy9)
        subst hc7
        have hc8 : b8 = false := by cases hx9 : b8 with | false => rfl | true => (have hy9 := HF.out.2.2.2.2.2.2.2.2.2.2.2.2 hx9; simp at hy9)
        subst hc8
        clear hl hd ho hL
        simp only [sel_t, sel_f]
        refine wpOp_step rfl ?_
        intro K' hK'
        go_simp
        exact hK' _ _ ⟨b0, true, true, b3, b4, b5, true, false, false, yy, xx, rfl, rfl, Lib.hid ⟨HF.out.1, HF.out.2.1, HF.out.2.2.1, HF.out.2.2.2.1, HF.out.2.2.2.2.1, HF.out.2.2.2.2.2.1, HF.out.2.2.2.2.2.2.1, HF.out.2.2.2.2.2.2.2.1, HF.out.2.2.2.2.2.2.2.2.1, HF.out.2.2.2.2.2.2.2.2.2.1, (fun _ => rfl), (fun h => absurd h (by decide)), (fun h => absurd h (by decide))⟩⟩
      · obtain rfl := Option.some.inj ho
        have hc7 : b7 = false := hl
        have hc6 : b6 = true := by first | (refine hd ⟨6, .data⟩ ?_ rfl; simp; done) | (refine hd ⟨6, .chain⟩ ?_ rfl; simp; done) | (refine hd ⟨6, .phase⟩ ?_ rfl; simp; done)
        subst hc7 hc6
        have hc8 : b8 = false := by cases hx9 : b8 with | false => rfl | true => (have hy9 := HF.out.2.2.2.2.2.2.2.2.2.2.2.2 hx9; simp at hy9)
        subst hc8
        clear hl hd ho hL
        simp only [sel_t, sel_f]
        refine wpOp_step rfl ?_
        intro K' hK'
        go_simp
        exact hK' _ _ ⟨b0, b1, b2, b3, b4, b5, true, true, false, yy, xx, rfl, rfl, Lib.hid ⟨HF.out.1, HF.out.2.1, HF.out.2.2.1, HF.out.2.2.2.1, HF.out.2.2.2.2.1, HF.out.2.2.2.2.2.1, HF.out.2.2.2.2.2.2.1, HF.out.2.2.2.2.2.2.2.1, HF.out.2.2.2.2.2.2.2.2.1, HF.out.2.2.2.2.2.2.2.2.2.1, HF.out.2.2.2.2.2.2.2.2.2.2.1, (fun _ => rfl), (fun h => absurd h (by decide))⟩⟩
      · obtain rfl := Option.some.inj ho
        have hc8 : b8 = false := hl
        have hc7 : b7 = true := by first | (refine hd ⟨7, .data⟩ ?_ rfl; simp; done) | (refine hd ⟨7, .chain⟩ ?_ rfl; simp; done) | (refine hd ⟨7, .phase⟩ ?_ rfl; simp; done)
        have hc6 : b6 = true := by first | (refine hd ⟨6, .data⟩ ?_ rfl; simp; done) | (refine hd ⟨6, .chain⟩ ?_ rfl; simp; done) | (refine hd ⟨6, .phase⟩ ?_ rfl; simp; done) | exact HF.out.2.2.2.2.2.2.2.2.2.2.2.1 hc7 | (have hy9 := HF.out.2.2.2.2.2.2.2.2.2.2.2.1 hc7; simp at hy9; simp [hy9]; done)
        have hc5 : b5 = true := by first | (refine hd ⟨5, .data⟩ ?_ rfl; simp; done) | (refine hd ⟨5, .chain⟩ ?_ rfl; simp; done) | (refine hd ⟨5, .phase⟩ ?_ rfl; simp; done)
        have hc4 : b4 = true := by first | (refine hd ⟨4, .data⟩ ?_ rfl; simp; done) | (refine hd ⟨4, .chain⟩ ?_ rfl; simp; done) | (refine hd ⟨4, .phase⟩ ?_ rfl; simp; done) | exact HF.out.2.2.2.2.2.2.2.2.2.1 hc5 | (have hy9 := HF.out.2.2.2.2.2.2.2.2.2.1 hc5; simp at hy9; simp [hy9]; done)
        have hc3 : b3 = true := by first | (refine hd ⟨3, .data⟩ ?_ rfl; simp; done) | (refine hd ⟨3, .chain⟩ ?_ rfl; simp; done) | (refine hd ⟨3, .phase⟩ ?_ rfl; simp; done) | exact HF.out.2.2.2.2.2.2.2.2.2.1 hc5 | (have hy9 := HF.out.2.2.2.2.2.2.2.2.2.1 hc5; simp at hy9; simp [hy9]; done)
        have hc2 : b2 = true := by first | (refine hd ⟨2, .data⟩ ?_ rfl; simp; done) | (refine hd ⟨2, .chain⟩ ?_ rfl; simp; done) | (refine hd ⟨2, .phase⟩ ?_ rfl; simp; done) | exact HF.out.2.2.2.2.2.2.2.2.2.2.1 hc6 | (have hy9 := HF.out.2.2.2.2.2.2.2.2.2.2.1 hc6; simp at hy9; simp [hy9]; done)
        have hc1 : b1 = true := by first | (refine hd ⟨1, .data⟩ ?_ rfl; simp; done) | (refine hd ⟨1, .chain⟩ ?_ rfl; simp; done) | (refine hd ⟨1, .phase⟩ ?_ rfl; simp; done) | exact HF.out.2.2.2.2.2.2.2.2.2.2.1 hc6 | (have hy9 := HF.out.2.2.2.2.2.2.2.2.2.2.1 hc6; simp at hy9; simp [hy9]; done)
        have hc0 : b0 = true := by first | (refine hd ⟨0, .data⟩ ?_ rfl; simp; done) | (refine hd ⟨0, .chain⟩ ?_ rfl; simp; done) | (refine hd ⟨0, .phase⟩ ?_ rfl; simp; done) | exact HF.out.2.2.2.2.2.2.2.2.1 hc1 | (have hy9 := HF.out.2.2.2.2.2.2.2.2.1 hc1; simp at hy9; simp [hy9]; done)
        subst hc8 hc7 hc6 hc5 hc4 hc3 hc2 hc1 hc0
        clear hl hd ho hL
        simp only [sel_t, sel_f]
        have ho9 := HF.out.2.2.2.2.1 rfl
        have hc9 : w'.cell? ⟨B, k * 3 + 2, none⟩ = (cellsE es)[k * 3 + 2]? := ho9.cellAt (k * 3 + 2) (by omega)
        have hc8 : (cellsE es)[k * 3 + 2]? = some (cellE es (k * 3 + 2)) := cellsE_at es (by omega)
        rw [hc8] at hc9
        have hf9 := ho9.frozenAt (k * 3 + 2)
        obtain ⟨ho8, hg8⟩ := ho9.stored (k * 3 + 2) (.int .i64 xx)
        rw [setWt_cells es k hk xx] at ho8
        have hsz9 := HF.out.2.2.2.2.2.2.2.1
        have hRl := HF.out.1.lt
        have hWn := HF.out.1.new
        have HO8 := Lib.hid ho8
        have HG8 := Lib.hid hg8
        clear ho8 hg8 hc8
        refine wpOp_step rfl ?_
        intro K' hK'
        go_simp
        exact hK' _ _ ⟨true, true, true, true, true, true, true, true, true, yy, xx, rfl, rfl, Lib.hid ⟨(HF.out.1.set' (by omega) (by omega) _), (g_set HF.out.2.1 (by omega)), (HF.out.2.2.1.grownN HG8.out (by intro h; injection h with h; omega)), (HF.out.2.2.2.1.grownN HG8.out (by intro h; injection h with h; omega)), (fun h => absurd h (by decide)), (fun _ h => absurd h (by decide)), (fun _ => HO8.out), (Nat.le_trans HF.out.2.2.2.2.2.2.2.1 (by simp)), (fun h => by have := HF.out.2.2.2.2.2.2.2.2.1 h; simpa using this), (fun h => by have := HF.out.2.2.2.2.2.2.2.2.2.1 h; simpa using this), (fun h => by have := HF.out.2.2.2.2.2.2.2.2.2.2.1 h; simpa using this), (fun h => by have := HF.out.2.2.2.2.2.2.2.2.2.2.2.1 h; simpa using this), (fun _ => rfl)⟩⟩
    · rintro L a w' hL ⟨b0, b1, b2, b3, b4, b5, b6, b7, b8, yy, xx, rfl, rfl, HF⟩ hall
      have hc0 : b0 = true := hall 0 (by decide)
      have hc1 : b1 = true := hall 1 (by decide)
      have hc2 : b2 = true := hall 2 (by decide)
      have hc3 : b3 = true := hall 3 (by decide)
      have hc4 : b4 = true := hall 4 (by decide)
      have hc5 : b5 = true := hall 5 (by decide)
      have hc6 : b6 = true := hall 6 (by decide)
      have hc7 : b7 = true := hall 7 (by decide)
      have hc8 : b8 = true := hall 8 (by decide)
      subst hc0 hc1 hc2 hc3 hc4 hc5 hc6 hc7 hc8
      simp only [sel_t]
      have HE := Lib.hid (And.intro (HF.out.1.more (show _ ≤ q + 4 by simp only [Bool.toNat_true]; omega)) (And.intro HF.out.2.1 (And.intro HF.out.2.2.1 (And.intro HF.out.2.2.2.1 (HF.out.2.2.2.2.2.2.1 rfl)))))
      clear HF
      have c0 : w'.cell? ⟨w1.heap.size, 0, none⟩ = some (.int .i64 n) := by simpa using HE.out.2.2.1.cell 0
      have c1 : w'.cell? ⟨w1.heap.size, 1, none⟩ = some (.slice (some ⟨B, 0, none⟩) es.length vc) := by simpa using HE.out.2.2.1.cell 1
      have r0 : w'.cell? ⟨w.heap.size + 1, 0, none⟩ = some (.int .i64 0) := by simpa using HE.out.2.2.2.1.cell 0
      have r1 : w'.cell? ⟨w.heap.size + 1, 1, none⟩ = some (.slice none 0 0) := by simpa using HE.out.2.2.2.1.cell 1
      have r2 := HE.out.2.2.2.1.frozen 0
      have r3 := HE.out.2.2.2.1.frozen 1
      go_wp2
      try simp only [Exit.inBlock, Exit.then]
      refine bodyPost_ret (v := .agg #[.int .i64 n, (.slice (some ⟨B, 0, none⟩) es.length vc)]) ?_ rfl ?_
      · rw [results_cell1 rfl]
        go_simp
      exact drawnW_of (es := setWt es k xx) (q := q + 4) (q' := q + 4) HE.out.1 HE.out.2.1 HE.out.2.2.2.1 (by simpa [setWt] using HE.out.2.2.2.2) (by omega) (by simp [setWt]) (by omega) (by omega) hglt
  have d1 : (y == 1) = false := by simpa using e1
  by_cases e2 : y = 2
  · subst e2
    go_wp2_with fail
    refine (num_built [0, 13, 1] W w5 g _ K5.out.1 (by omega) _ (by decide) (by decide)).mono ?_
    rintro e w' ⟨z, hz, rfl, hRd, hG⟩
    have K6 := Lib.hid (And.intro hRd (And.intro (grown_trans' K5.out.2.1 hG) (And.intro (K5.out.2.2.1.grownG hG (by omega)) (And.intro (K5.out.2.2.2.1.grownG hG (by omega)) (K5.out.2.2.2.2.kept hG (own_ne' K5.out.2.2.2.2 (by omega)))))))
    clear hRd hG hz c1
    have c0 : w'.cell? ⟨w1.heap.size, 0, none⟩ = some (.int .i64 n) := by simpa using K6.out.2.2.1.cell 0
    have c1 : w'.cell? ⟨w1.heap.size, 1, none⟩ = some (.slice (some ⟨B, 0, none⟩) es.length vc) := by simpa using K6.out.2.2.1.cell 1
    have c2 := K6.out.2.2.1.frozen 0
    have r0 : w'.cell? ⟨w.heap.size + 1, 0, none⟩ = some (.int .i64 0) := by simpa using K6.out.2.2.2.1.cell 0
    have r1 : w'.cell? ⟨w.heap.size + 1, 1, none⟩ = some (.slice none 0 0) := by simpa using K6.out.2.2.2.1.cell 1
    have r2 := K6.out.2.2.2.1.frozen 0
    have r3 := K6.out.2.2.2.1.frozen 1
    have hne9 : w.heap.size + 1 ≠ w1.heap.size := by omega
    go_wp2
    try simp only [Exit.inBlock, Exit.then]
    refine bodyPost_ret (v := .agg #[.int .i64 z, .slice (some ⟨B, 0, none⟩) es.length vc]) ?_ rfl ?_
    · rw [results_cell1 rfl]
      go_simp
    have hRl := K6.out.1.lt
    have hWn := K6.out.1.new
    exact drawnW_of (q := q + 4) (q' := q + 4) (K6.out.1.set' (b := w1.heap.size) (k := 0) (by omega) (by omega) (.int .i64 z)) (g_set K6.out.2.1 (by omega)) (K6.out.2.2.2.1.setOther hne9 _ _) (Box.own K6.out.2.2.1 K6.out.2.2.2.2 (by decide)) (by omega) (by omega) (by omega) (by omega) hglt
  have d2 : (y == 2) = false := by simpa using e2
  by_cases e3 : y = 3
  · subst e3
    obtain ⟨i0, hi, hz0', hz1, hz2⟩ := info_parts info_edge
    have HI : Hid (Try.prog.info? 67 = some i0 ∧ i0.zero = some (.agg #[.int .i64 0, .int .i64 0, .int .i64 0]) ∧ i0.size = 3 ∧ i0.bytes = 24) := Lib.hid ⟨hi, hz0', hz1, hz2⟩
    clear hi hz0' hz1 hz2
    obtain ⟨ea, eb, ec, hed⟩ : ∃ a b c, (a, b, c) = es.getD k (0, 0, 0) := ⟨_, _, _, rfl⟩
    have HED := Lib.hid hed
    clear hed
    go_upto_region 13 with fail
    refine wp_region_inv (fun L a w' => ∃ (b0 b1 b2 b3 b4 b5 b6 b7 b8 b9 b10 : Bool) (yy : Nat) (va8 : Option Addr) (vc8 : Nat), L = #[b0, b1, b2, b3, b4, b5, b6, b7, b8, b9, b10] ∧ a = { tmps := #[Value.pointer (some ⟨g, 0, none⟩), Value.agg #[.int .i64 n, .slice ad es.length cap], undef, Value.pointer (some ⟨w.heap.size, 0, none⟩), Value.pointer (some ⟨w.heap.size + 1, 0, none⟩), Value.pointer (some ⟨w1.heap.size, 0, none⟩), Value.int .i64 (k : Int), Value.agg #[.int .i64 n, .slice ad es.length cap], Value.agg #[.int .i64 n, .slice (some ⟨B, 0, none⟩) es.length vc], Value.pointer (some ⟨g, 0, none⟩), Value.int .i64 x, Value.bool false, Value.bool false, Value.pointer (some ⟨w1.heap.size, 1, none⟩), Value.slice (some ⟨B, 0, none⟩) es.length vc, Value.int .i64 (es.length : Int), Value.bool false, Value.bool false, undef, Value.pointer (some ⟨g, 0, none⟩), Value.pointer (some ⟨w1.heap.size, 1, none⟩), Value.slice (some ⟨B, 0, none⟩) es.length vc, Value.int .i64 (es.length : Int), Value.int .i64 (k : Int), Value.pointer (some ⟨g, 0, none⟩), Value.int .i64 3, Value.bool false, Value.bool false, undef, undef, undef, undef, undef, undef, undef, undef, Value.bool false, Value.bool false, undef, undef, undef, undef, undef, undef, undef, undef, Value.bool false, Value.bool false, undef, undef, undef, undef, Value.bool true, Value.bool true, sel b0 (Value.pointer (some ⟨w1.heap.size, 1, none⟩)) undef, sel b1 (Value.slice (some ⟨B, 0, none⟩) es.length vc) undef, sel b2 (Value.pointer (some ⟨w1.heap.size, 1, none⟩)) undef, sel b3 (Value.slice (some ⟨B, 0, none⟩) es.length vc) undef, sel b4 (Value.int .i64 (k : Int)) undef, sel b5 (Value.pointer (some ⟨B, k * 3, none⟩)) undef, sel b6 (Value.agg #[.int .i64 ea, .int .i64 eb, .int .i64 ec]) undef, sel b7 (Value.slice (some ⟨yy, 0, none⟩) 1 1) undef, sel b8 (Value.slice va8 (es.length + 1) vc8) undef, sel b9 (Value.pointer (some ⟨w1.heap.size, 1, none⟩)) undef, undef], defers := [] } ∧ Hid ((Rd W w' g (q + 1 + 1 + 1)) ∧ (w.grownBy w' (some g)) ∧ (b10 = false → Box w' w1.heap.size 25 #[.int .i64 n, .slice (some ⟨B, 0, none⟩) es.length vc]) ∧ (Box w' (w.heap.size + 1) 25 #[.int .i64 0, .slice none 0 0]) ∧ (b8 = false → w'.ownsRow (w0.heap.size + 1) 67 3 (.slice (some ⟨B, 0, none⟩) es.length vc) es.length (cellsE es)) ∧ (b7 = true → b8 = false → ∀ j u, [Value.int .i64 ea, .int .i64 eb, .int .i64 ec][j]? = some u → w'.cell? ((⟨yy, 0, none⟩ : Addr).add j) = some u) ∧ (b8 = true → w'.ownsRow (w0.heap.size + 1) 67 3 (.slice va8 (es.length + 1) vc8) (es.length + 1) (cellsE es ++ [.int .i64 ea, .int .i64 eb, .int .i64 ec])) ∧ (w5.heap.size ≤ w'.heap.size) ∧ (b10 = true → Box w' w1.heap.size 25 #[.int .i64 n, .slice va8 (es.length + 1) vc8]) ∧ (b1 = true → (b0) = true) ∧ (b3 = true → (b2) = true) ∧ (b5 = true → (b3 && b4) = true) ∧ (b6 = true → (b5) = true) ∧ (b7 = true → (b6) = true) ∧ (b8 = true → (b1 && b7) = true) ∧ (b10 = true → (b8 && b9) = true))) (by kernel_rfl) (by kernel_rfl) ?_ ?_ ?_
    · exact ⟨false, false, false, false, false, false, false, false, false, false, false, 0, none, 0, rfl, rfl, Lib.hid ⟨K5.out.1.drew', (g_drew K5.out.2.1), (fun _ => K5.out.2.2.1.drew), K5.out.2.2.2.1.drew, (fun _ => own_drew K5.out.2.2.2.2), (fun h => absurd h (by decide)), (fun h => absurd h (by decide)), (Nat.le_refl _), (fun h => absurd h (by decide)), (fun h => absurd h (by decide)), (fun h => absurd h (by decide)), (fun h => absurd h (by decide)), (fun h => absurd h (by decide)), (fun h => absurd h (by decide)), (fun h => absurd h (by decide)), (fun h => absurd h (by decide))⟩⟩
    · rintro L a w' hL ⟨b0, b1, b2, b3, b4, b5, b6, b7, b8, b9, b10, yy, va8, vc8, rfl, rfl, HF⟩ k9 o9 ho hl hd
      have hk9 : k9 = 0 ∨ k9 = 1 ∨ k9 = 2 ∨ k9 = 3 ∨ k9 = 4 ∨ k9 = 5 ∨ k9 = 6 ∨ k9 = 7 ∨ k9 = 8 ∨ k9 = 9 ∨ k9 = 10 := by have := (Array.getElem?_eq_some_iff.1 ho).1; simp at this; omega
      rcases hk9 with rfl | rfl | rfl | rfl | rfl | rfl | rfl | rfl | rfl | rfl | rfl
      · obtain rfl := Option.some.inj ho
        have hc0 : b0 = false := hl
        subst hc0
        have hc1 : b1 = false := by cases hx9 : b1 with | false => rfl | true => (have hy9 := HF.out.2.2.2.2.2.2.2.2.2.1 hx9; simp at hy9)
        subst hc1
        have hc8 : b8 = false := by cases hx9 : b8 with | false => rfl | true => (have hy9 := HF.out.2.2.2.2.2.2.2.2.2.2.2.2.2.2.1 hx9; simp at hy9)
        subst hc8
        have hc10 : b10 = false := by cases hx9 : b10 with | false => rfl | true => (have hy9 := HF.out.2.2.2.2.2.2.2.2.2.2.2.2.2.2.2 hx9; simp at hy9)
        subst hc10
        clear hl hd ho hL
        simp only [sel_t, sel_f]
        refine wpOp_step rfl ?_
        intro K' hK'
        go_simp
        exact hK' _ _ ⟨true, false, b2, b3, b4, b5, b6, b7, false, b9, false, yy, va8, vc8, rfl, rfl, Lib.hid ⟨HF.out.1, HF.out.2.1, HF.out.2.2.1, HF.out.2.2.2.1, HF.out.2.2.2.2.1, HF.out.2.2.2.2.2.1, HF.out.2.2.2.2.2.2.1, HF.out.2.2.2.2.2.2.2.1, HF.out.2.2.2.2.2.2.2.2.1, (fun h => absurd h (by decide)), HF.out.2.2.2.2.2.2.2.2.2.2.1, HF.out.2.2.2.2.2.2.2.2.2.2.2.1, HF.out.2.2.2.2.2.2.2.2.2.2.2.2.1, HF.out.2.2.2.2.2.2.2.2.2.2.2.2.2.1, (fun h => absurd h (by decide)), (fun h => absurd h (by decide))⟩⟩
      · obtain rfl := Option.some.inj ho
        have hc1 : b1 = false := hl
        have hc0 : b0 = true := by first | (refine hd ⟨0, .data⟩ ?_ rfl; simp; done) | (refine hd ⟨0, .chain⟩ ?_ rfl; simp; done) | (refine hd ⟨0, .phase⟩ ?_ rfl; simp; done)
        subst hc1 hc0
        have hc8 : b8 = false := by cases hx9 : b8 with | false => rfl | true => (have hy9 := HF.out.2.2.2.2.2.2.2.2.2.2.2.2.2.2.1 hx9; simp at hy9)
        subst hc8
        have hc10 : b10 = false := by cases hx9 : b10 with | false => rfl | true => (have hy9 := HF.out.2.2.2.2.2.2.2.2.2.2.2.2.2.2.2 hx9; simp at hy9)
        subst hc10
        clear hl hd ho hL
        simp only [sel_t, sel_f]
        have x0 : w'.cell? ⟨w1.heap.size, 1, none⟩ = some (.slice (some ⟨B, 0, none⟩) es.length vc) := by simpa using (HF.out.2.2.1 rfl).cell 1
        refine wpOp_step rfl ?_
        intro K' hK'
        go_simp
        exact hK' _ _ ⟨true, true, b2, b3, b4, b5, b6, b7, false, b9, false, yy, va8, vc8, rfl, rfl, Lib.hid ⟨HF.out.1, HF.out.2.1, HF.out.2.2.1, HF.out.2.2.2.1, HF.out.2.2.2.2.1, HF.out.2.2.2.2.2.1, HF.out.2.2.2.2.2.2.1, HF.out.2.2.2.2.2.2.2.1, HF.out.2.2.2.2.2.2.2.2.1, (fun _ => rfl), HF.out.2.2.2.2.2.2.2.2.2.2.1, HF.out.2.2.2.2.2.2.2.2.2.2.2.1, HF.out.2.2.2.2.2.2.2.2.2.2.2.2.1, HF.out.2.2.2.2.2.2.2.2.2.2.2.2.2.1, (fun h => absurd h (by decide)), (fun h => absurd h (by decide))⟩⟩
      · obtain rfl := Option.some.inj ho
        have hc2 : b2 = false := hl
        subst hc2
        have hc3 : b3 = false := by cases hx9 : b3 with | false => rfl | true => (have hy9 := HF.out.2.2.2.2.2.2.2.2.2.2.1 hx9; simp at hy9)
        subst hc3
        have hc5 : b5 = false := by cases hx9 : b5 with | false => rfl | true => (have hy9 := HF.out.2.2.2.2.2.2.2.2.2.2.2.1 hx9; simp at hy9)
        subst hc5
        have hc6 : b6 = false := by cases hx9 : b6 with | false => rfl | true => (have hy9 := HF.out.2.2.2.2.2.2.2.2.2.2.2.2.1 hx9; simp at hy9)
        subst hc6
        have hc7 : b7 = false := by cases hx9 : b7 with | false => rfl | true => (have hy9 := HF.out.2.2.2.2.2.2.2.2.2.2.2.2.2.1 hx9; simp at hy9)
        subst hc7
        have hc8 : b8 = false := by cases hx9 : b8 with | false => rfl | true => (have hy9 := HF.out.2.2.2.2.2.2.2.2.2.2.2.2.2.2.1 hx9; simp at hy9)
        subst hc8
        have hc10 : b10 = false := by cases hx9 : b10 with | false => rfl | true => (have hy9 := HF.out.2.2.2.2.2.2.2.2.2.2.2.2.2.2.2 hx9; simp at hy9)
        subst hc10
        clear hl hd ho hL
        simp only [sel_t, sel_f]
        refine wpOp_step rfl ?_
        intro K' hK'
        go_simp
        exact hK' _ _ ⟨b0, b1, true, false, b4, false, false, false, false, b9, false, yy, va8, vc8, rfl, rfl, Lib.hid ⟨HF.out.1, HF.out.2.1, HF.out.2.2.1, HF.out.2.2.2.1, HF.out.2.2.2.2.1, HF.out.2.2.2.2.2.1, HF.out.2.2.2.2.2.2.1, HF.out.2.2.2.2.2.2.2.1, HF.out.2.2.2.2.2.2.2.2.1, HF.out.2.2.2.2.2.2.2.2.2.1, (fun h => absurd h (by decide)), (fun h => absurd h (by decide)), (fun h => absurd h (by decide)), (fun h => absurd h (by decide)), (fun h => absurd h (by decide)), (fun h => absurd h (by decide))⟩⟩
      · obtain rfl := Option.some.inj ho
        have hc3 : b3 = false := hl
        have hc2 : b2 = true := by first | (refine hd ⟨2, .data⟩ ?_ rfl; simp; done) | (refine hd ⟨2, .chain⟩ ?_ rfl; simp; done) | (refine hd ⟨2, .phase⟩ ?_ rfl; simp; done)
        subst hc3 hc2
        have hc5 : b5 = false := by cases hx9 : b5 with | false => rfl | true => (have hy9 := HF.out.2.2.2.2.2.2.2.2.2.2.2.1 hx9; simp at hy9)
        subst hc5
        have hc6 : b6 = false := by cases hx9 : b6 with | false => rfl | true => (have hy9 := HF.out.2.2.2.2.2.2.2.2.2.2.2.2.1 hx9; simp at hy9)
        subst hc6
        have hc7 : b7 = false := by cases hx9 : b7 with | false => rfl | true => (have hy9 := HF.out.2.2.2.2.2.2.2.2.2.2.2.2.2.1 hx9; simp at hy9)
        subst hc7
        have hc8 : b8 = false := by cases hx9 : b8 with | false => rfl | true => (have hy9 := HF.out.2.2.2.2.2.2.2.2.2.2.2.2.2.2.1 hx9; simp at hy9)
        subst hc8
        have hc10 : b10 = false := by cases hx9 : b10 with | false => rfl | true => (have hy9 := HF.out.2.2.2.2.2.2.2.2.2.2.2.2.2.2.2 hx9; simp at hy9)
        subst hc10
        clear hl hd ho hL
        simp only [sel_t, sel_f]
        have x0 : w'.cell? ⟨w1.heap.size, 1, none⟩ = some (.slice (some ⟨B, 0, none⟩) es.length vc) := by simpa using (HF.out.2.2.1 rfl).cell 1
        refine wpOp_step rfl ?_
        intro K' hK'
        go_simp
        exact hK' _ _ ⟨b0, b1, true, true, b4, false, false, false, false, b9, false, yy, va8, vc8, rfl, rfl, Lib.hid ⟨HF.out.1, HF.out.2.1, HF.out.2.2.1, HF.out.2.2.2.1, HF.out.2.2.2.2.1, HF.out.2.2.2.2.2.1, HF.out.2.2.2.2.2.2.1, HF.out.2.2.2.2.2.2.2.1, HF.out.2.2.2.2.2.2.2.2.1, HF.out.2.2.2.2.2.2.2.2.2.1, (fun _ => rfl), (fun h => absurd h (by decide)), (fun h => absurd h (by decide)), (fun h => absurd h (by decide)), (fun h => absurd h (by decide)), (fun h => absurd h (by decide))⟩⟩
      · obtain rfl := Option.some.inj ho
        have hc4 : b4 = false := hl
        subst hc4
        have hc5 : b5 = false := by cases hx9 : b5 with | false => rfl | true => (have hy9 := HF.out.2.2.2.2.2.2.2.2.2.2.2.1 hx9; simp at hy9)
        subst hc5
        have hc6 : b6 = false := by cases hx9 : b6 with | false => rfl | true => (have hy9 := HF.out.2.2.2.2.2.2.2.2.2.2.2.2.1 hx9; simp at hy9)
        subst hc6
        have hc7 : b7 = false := by cases hx9 : b7 with | false => rfl | true => (have hy9 := HF.out.2.2.2.2.2.2.2.2.2.2.2.2.2.1 hx9; simp at hy9)
        subst hc7
        have hc8 : b8 = false := by cases hx9 : b8 with | false => rfl | true => (have hy9 := HF.out.2.2.2.2.2.2.2.2.2.2.2.2.2.2.1 hx9; simp at hy9)
        subst hc8
        have hc10 : b10 = false := by cases hx9 : b10 with | false => rfl | true => (have hy9 := HF.out.2.2.2.2.2.2.2.2.2.2.2.2.2.2.2 hx9; simp at hy9)
        subst hc10
        clear hl hd ho hL
        simp only [sel_t, sel_f]
        refine wpOp_step rfl ?_
        intro K' hK'
        go_simp
        exact hK' _ _ ⟨b0, b1, b2, b3, true, false, false, false, false, b9, false, yy, va8, vc8, rfl, rfl, Lib.hid ⟨HF.out.1, HF.out.2.1, HF.out.2.2.1, HF.out.2.2.2.1, HF.out.2.2.2.2.1, HF.out.2.2.2.2.2.1, HF.out.2.2.2.2.2.2.1, HF.out.2.2.2.2.2.2.2.1, HF.out.2.2.2.2.2.2.2.2.1, HF.out.2.2.2.2.2.2.2.2.2.1, HF.out.2.2.2.2.2.2.2.2.2.2.1, (fun h => absurd h (by decide)), (fun h => absurd h (by decide)), (fun h => absurd h (by decide)), (fun h => absurd h (by decide)), (fun h => absurd h (by decide))⟩⟩
      · obtain rfl := Option.some.inj ho
        have hc5 : b5 = false := hl
        have hc4 : b4 = true := by first | (refine hd ⟨4, .data⟩ ?_ rfl; simp; done) | (refine hd ⟨4, .chain⟩ ?_ rfl; simp; done) | (refine hd ⟨4, .phase⟩ ?_ rfl; simp; done)
        have hc3 : b3 = true := by first | (refine hd ⟨3, .data⟩ ?_ rfl; simp; done) | (refine hd ⟨3, .chain⟩ ?_ rfl; simp; done) | (refine hd ⟨3, .phase⟩ ?_ rfl; simp; done)
        subst hc5 hc4 hc3
        have hc6 : b6 = false := by cases hx9 : b6 with | false => rfl | true => (have hy9 := HF.out.2.2.2.2.2.2.2.2.2.2.2.2.1 hx9; simp at hy9)
        subst hc6
        have hc7 : b7 = false := by cases hx9 : b7 with | false => rfl | true => (have hy9 := HF.out.2.2.2.2.2.2.2.2.2.2.2.2.2.1 hx9; simp at hy9)
        subst hc7
        have hc8 : b8 = false := by cases hx9 : b8 with | false => rfl | true => (have hy9 := HF.out.2.2.2.2.2.2.2.2.2.2.2.2.2.2.1 hx9; simp at hy9)
        subst hc8
        have hc10 : b10 = false := by cases hx9 : b10 with | false => rfl | true => (have hy9 := HF.out.2.2.2.2.2.2.2.2.2.2.2.2.2.2.2 hx9; simp at hy9)
        subst hc10
        clear hl hd ho hL
        simp only [sel_t, sel_f]
        refine wpOp_step rfl ?_
        intro K' hK'
        go_simp
        exact hK' _ _ ⟨b0, b1, b2, true, true, true, false, false, false, b9, false, yy, va8, vc8, rfl, rfl, Lib.hid ⟨HF.out.1, HF.out.2.1, HF.out.2.2.1, HF.out.2.2.2.1, HF.out.2.2.2.2.1, HF.out.2.2.2.2.2.1, HF.out.2.2.2.2.2.2.1, HF.out.2.2.2.2.2.2.2.1, HF.out.2.2.2.2.2.2.2.2.1, HF.out.2.2.2.2.2.2.2.2.2.1, HF.out.2.2.2.2.2.2.2.2.2.2.1, (fun _ => rfl), (fun h => absurd h (by decide)), (fun h => absurd h (by decide)), (fun h => absurd h (by decide)), (fun h => absurd h (by decide))⟩⟩
      · obtain rfl := Option.some.inj ho
        have hc6 : b6 = false := hl
        have hc5 : b5 = true := by first | (refine hd ⟨5, .data⟩ ?_ rfl; simp; done) | (refine hd ⟨5, .chain⟩ ?_ rfl; simp; done) | (refine hd ⟨5, .phase⟩ ?_ rfl; simp; done)
        subst hc6 hc5
        have hc7 : b7 = false := by cases hx9 : b7 with | false => rfl | true => (have hy9 := HF.out.2.2.2.2.2.2.2.2.2.2.2.2.2.1 hx9; simp at hy9)
        subst hc7
        have hc8 : b8 = false := by cases hx9 : b8 with | false => rfl | true => (have hy9 := HF.out.2.2.2.2.2.2.2.2.2.2.2.2.2.2.1 hx9; simp at hy9)
        subst hc8
        have hc10 : b10 = false := by cases hx9 : b10 with | false => rfl | true => (have hy9 := HF.out.2.2.2.2.2.2.2.2.2.2.2.2.2.2.2 hx9; simp at hy9)
        subst hc10
        clear hl hd ho hL
        simp only [sel_t, sel_f]
        have ho9 := HF.out.2.2.2.2.1 rfl
        have x0 : w'.cell? ⟨B, k * 3, none⟩ = some (.int .i64 ea) := by rw [ho9.cellAt (k * 3) (by omega), cellsE_at es (by omega), cellE0, ← HED.out]
        have x1 : w'.cell? ⟨B, k * 3 + 1, none⟩ = some (.int .i64 eb) := by rw [ho9.cellAt (k * 3 + 1) (by omega), cellsE_at es (by omega), cellE1, ← HED.out]
        have x2 : w'.cell? ⟨B, k * 3 + 2, none⟩ = some (.int .i64 ec) := by rw [ho9.cellAt (k * 3 + 2) (by omega), cellsE_at es (by omega), cellE2, ← HED.out]
        clear ho9
        refine wpOp_step rfl ?_
        intro K' hK'
        go_simp
        exact hK' _ _ ⟨b0, b1, b2, b3, b4, true, true, false, false, b9, false, yy, va8, vc8, rfl, rfl, Lib.hid ⟨HF.out.1, HF.out.2.1, HF.out.2.2.1, HF.out.2.2.2.1, HF.out.2.2.2.2.1, HF.out.2.2.2.2.2.1, HF.out.2.2.2.2.2.2.1, HF.out.2.2.2.2.2.2.2.1, HF.out.2.2.2.2.2.2.2.2.1, HF.out.2.2.2.2.2.2.2.2.2.1, HF.out.2.2.2.2.2.2.2.2.2.2.1, HF.out.2.2.2.2.2.2.2.2.2.2.2.1, (fun _ => rfl), (fun h => absurd h (by decide)), (fun h => absurd h (by decide)), (fun h => absurd h (by decide))⟩⟩
      · obtain rfl := Option.some.inj ho
        have hc7 : b7 = false := hl
        have hc6 : b6 = true := by first | (refine hd ⟨6, .data⟩ ?_ rfl; simp; done) | (refine hd ⟨6, .chain⟩ ?_ rfl; simp; done) | (refine hd ⟨6, .phase⟩ ?_ rfl; simp; done)
        subst hc7 hc6
        have hc8 : b8 = false := by cases hx9 : b8 with | false => rfl | true => (have hy9 := HF.out.2.2.2.2.2.2.2.2.2.2.2.2.2.2.1 hx9; simp at hy9)
        subst hc8
        have hc10 : b10 = false := by cases hx9 : b10 with | false => rfl | true => (have hy9 := HF.out.2.2.2.2.2.2.2.2.2.2.2.2.2.2.2 hx9; simp at hy9)
        subst hc10
        clear hl hd ho hL
        simp only [sel_t, sel_f]
        refine wpOp_step rfl ?_
        intro K' hK'
        go_simp
        exact hK' _ _ ⟨b0, b1, b2, b3, b4, b5, true, true, false, b9, false, w'.heap.size, va8, vc8, rfl, rfl, Lib.hid ⟨(HF.out.1.alloc' _), (g_alloc HF.out.2.1 _), (fun h => (HF.out.2.2.1 h).alloc _), (HF.out.2.2.2.1.alloc _), (fun h => (HF.out.2.2.2.2.1 h).alloc _), (fun _ _ => cells_new3 _ _ _ _ _), (fun h => absurd h (by decide)), (Nat.le_trans HF.out.2.2.2.2.2.2.2.1 (by simp)), (fun h => absurd h (by decide)), HF.out.2.2.2.2.2.2.2.2.2.1, HF.out.2.2.2.2.2.2.2.2.2.2.1, HF.out.2.2.2.2.2.2.2.2.2.2.2.1, HF.out.2.2.2.2.2.2.2.2.2.2.2.2.1, (fun _ => rfl), (fun h => absurd h (by decide)), (fun h => absurd h (by decide))⟩⟩
      · obtain rfl := Option.some.inj ho
        have hc8 : b8 = false := hl
        have hc7 : b7 = true := by first | (refine hd ⟨7, .data⟩ ?_ rfl; simp; done) | (refine hd ⟨7, .chain⟩ ?_ rfl; simp; done) | (refine hd ⟨7, .phase⟩ ?_ rfl; simp; done)
        have hc1 : b1 = true := by first | (refine hd ⟨1, .data⟩ ?_ rfl; simp; done) | (refine hd ⟨1, .chain⟩ ?_ rfl; simp; done) | (refine hd ⟨1, .phase⟩ ?_ rfl; simp; done)
        subst hc8 hc7 hc1
        have hc10 : b10 = false := by cases hx9 : b10 with | false => rfl | true => (have hy9 := HF.out.2.2.2.2.2.2.2.2.2.2.2.2.2.2.2 hx9; simp at hy9)
        subst hc10
        clear hl hd ho hL
        simp only [sel_t, sel_f]
        obtain ⟨hi, hz0, hz1, hz2⟩ := HI.out
        have ho9 := HF.out.2.2.2.2.1 rfl
        have hsz9 := HF.out.2.2.2.2.2.2.2.1
        have hlt9 := hBlt
        refine wpOp_step rfl ?_
        intro K' hK'
        refine step_append_own rfl (.tmp 55) (.tmp 61) 23 rfl (w0.heap.size + 1) 67 i0 (.agg #[.int .i64 0, .int .i64 0, .int .i64 0]) 3 24 Try.underlying23 hi hz0 hz1 hz2 rfl (by decide) _ _ _ rfl ho9 ⟨yy, 0, none⟩ 1 1 [.int .i64 ea, .int .i64 eb, .int .i64 ec] rfl rfl (HF.out.2.2.2.2.2.1 rfl rfl) (by simp [Value.oneCell']) (by unfold maxLen; omega) (by omega) (by omega) ?_
        intro v6 w6 hown6 hgrow6
        obtain ⟨va6, vc6, rfl⟩ := own_slice hown6
        exact hK' _ _ ⟨b0, true, b2, b3, b4, b5, b6, true, true, b9, false, yy, va6, vc6, rfl, rfl, Lib.hid ⟨(HF.out.1.grownR hgrow6 (fun q hq => by have := (ho9.lt q hq).1; omega)), (grownR HF.out.2.1 hgrow6 (fun q hq => by have := (ho9.lt q hq).1; omega)), (fun h => Box.grown (HF.out.2.2.1 h) hgrow6 ho9 (by decide)), (Box.grown HF.out.2.2.2.1 hgrow6 ho9 (by decide)), (fun h => absurd h (by decide)), (fun _ h => absurd h (by decide)), (fun _ => hown6), (Nat.le_trans HF.out.2.2.2.2.2.2.2.1 hgrow6.size), (fun h => absurd h (by decide)), HF.out.2.2.2.2.2.2.2.2.2.1, HF.out.2.2.2.2.2.2.2.2.2.2.1, HF.out.2.2.2.2.2.2.2.2.2.2.2.1, HF.out.2.2.2.2.2.2.2.2.2.2.2.2.1, HF.out.2.2.2.2.2.2.2.2.2.2.2.2.2.1, (fun _ => rfl), (fun h => absurd h (by decide))⟩⟩
      · obtain rfl := Option.some.inj ho
        have hc9 : b9 = false := hl
        subst hc9
        have hc10 : b10 = false := by cases hx9 : b10 with | false => rfl | true => (have hy9 := HF.out.2.2.2.2.2.2.2.2.2.2.2.2.2.2.2 hx9; simp at hy9)
        subst hc10
        clear hl hd ho hL
        simp only [sel_t, sel_f]
        refine wpOp_step rfl ?_
        intro K' hK'
        go_simp
        exact hK' _ _ ⟨b0, b1, b2, b3, b4, b5, b6, b7, b8, true, false, yy, va8, vc8, rfl, rfl, Lib.hid ⟨HF.out.1, HF.out.2.1, HF.out.2.2.1, HF.out.2.2.2.1, HF.out.2.2.2.2.1, HF.out.2.2.2.2.2.1, HF.out.2.2.2.2.2.2.1, HF.out.2.2.2.2.2.2.2.1, HF.out.2.2.2.2.2.2.2.2.1, HF.out.2.2.2.2.2.2.2.2.2.1, HF.out.2.2.2.2.2.2.2.2.2.2.1, HF.out.2.2.2.2.2.2.2.2.2.2.2.1, HF.out.2.2.2.2.2.2.2.2.2.2.2.2.1, HF.out.2.2.2.2.2.2.2.2.2.2.2.2.2.1, HF.out.2.2.2.2.2.2.2.2.2.2.2.2.2.2.1, (fun h => absurd h (by decide))⟩⟩
      · obtain rfl := Option.some.inj ho
        have hc10 : b10 = false := hl
        have hc9 : b9 = true := by first | (refine hd ⟨9, .data⟩ ?_ rfl; simp; done) | (refine hd ⟨9, .chain⟩ ?_ rfl; simp; done) | (refine hd ⟨9, .phase⟩ ?_ rfl; simp; done)
        have hc8 : b8 = true := by first | (refine hd ⟨8, .data⟩ ?_ rfl; simp; done) | (refine hd ⟨8, .chain⟩ ?_ rfl; simp; done) | (refine hd ⟨8, .phase⟩ ?_ rfl; simp; done)
        subst hc10 hc9 hc8
        clear hl hd ho hL
        simp only [sel_t, sel_f]
        have hB9 := HF.out.2.2.1 rfl
        have c9 : w'.cell? ⟨w1.heap.size, 1, none⟩ = some (.slice (some ⟨B, 0, none⟩) es.length vc) := by simpa using hB9.cell 1
        have f9 := hB9.frozen 1
        have hRl := HF.out.1.lt
        have hWn := HF.out.1.new
        have hne9 : w.heap.size + 1 ≠ w1.heap.size := by omega
        refine wpOp_step rfl ?_
        intro K' hK'
        go_simp
        exact hK' _ _ ⟨b0, b1, b2, b3, b4, b5, b6, b7, true, true, true, yy, va8, vc8, rfl, rfl, Lib.hid ⟨(HF.out.1.set' (by omega) (by omega) _), (g_set HF.out.2.1 (by omega)), (fun h => absurd h (by decide)), (HF.out.2.2.2.1.setOther hne9 _ _), (fun h => absurd h (by decide)), (fun _ h => absurd h (by decide)), (fun _ => Box.own hB9 (HF.out.2.2.2.2.2.2.1 rfl) (by decide)), (Nat.le_trans HF.out.2.2.2.2.2.2.2.1 (by simp)), (fun _ => by simpa using hB9.set 1 (.slice va8 (es.length + 1) vc8)), HF.out.2.2.2.2.2.2.2.2.2.1, HF.out.2.2.2.2.2.2.2.2.2.2.1, HF.out.2.2.2.2.2.2.2.2.2.2.2.1, HF.out.2.2.2.2.2.2.2.2.2.2.2.2.1, HF.out.2.2.2.2.2.2.2.2.2.2.2.2.2.1, HF.out.2.2.2.2.2.2.2.2.2.2.2.2.2.2.1, (fun _ => rfl)⟩⟩
    · rintro L a w' hL ⟨b0, b1, b2, b3, b4, b5, b6, b7, b8, b9, b10, yy, va8, vc8, rfl, rfl, HF⟩ hall
      have hc0 : b0 = true := hall 0 (by decide)
      have hc1 : b1 = true := hall 1 (by decide)
      have hc2 : b2 = true := hall 2 (by decide)
      have hc3 : b3 = true := hall 3 (by decide)
      have hc4 : b4 = true := hall 4 (by decide)
      have hc5 : b5 = true := hall 5 (by decide)
      have hc6 : b6 = true := hall 6 (by decide)
      have hc7 : b7 = true := hall 7 (by decide)
      have hc8 : b8 = true := hall 8 (by decide)
      have hc9 : b9 = true := hall 9 (by decide)
      have hc10 : b10 = true := hall 10 (by decide)
      subst hc0 hc1 hc2 hc3 hc4 hc5 hc6 hc7 hc8 hc9 hc10
      simp only [sel_t]
      have HE := Lib.hid (And.intro (HF.out.1.more (show _ ≤ q + 4 by omega)) (And.intro HF.out.2.1 (And.intro (HF.out.2.2.2.2.2.2.2.2.1 rfl) (And.intro HF.out.2.2.2.1 (HF.out.2.2.2.2.2.2.1 rfl)))))
      clear HF
      have c0 : w'.cell? ⟨w1.heap.size, 0, none⟩ = some (.int .i64 n) := by simpa using HE.out.2.2.1.cell 0
      have c1 : w'.cell? ⟨w1.heap.size, 1, none⟩ = some (.slice (va8) (es.length + 1) vc8) := by simpa using HE.out.2.2.1.cell 1
      have r0 : w'.cell? ⟨w.heap.size + 1, 0, none⟩ = some (.int .i64 0) := by simpa using HE.out.2.2.2.1.cell 0
      have r1 : w'.cell? ⟨w.heap.size + 1, 1, none⟩ = some (.slice none 0 0) := by simpa using HE.out.2.2.2.1.cell 1
      have r2 := HE.out.2.2.2.1.frozen 0
      have r3 := HE.out.2.2.2.1.frozen 1
      go_wp2
      try simp only [Exit.inBlock, Exit.then]
      refine bodyPost_ret (v := .agg #[.int .i64 n, (.slice (va8) (es.length + 1) vc8)]) ?_ rfl ?_
      · rw [results_cell1 rfl]
        go_simp
      exact drawnW_of (es := es ++ [(ea, eb, ec)]) (v := .slice va8 (es.length + 1) vc8) (q := q + 4) (q' := q + 4) HE.out.1 HE.out.2.1 HE.out.2.2.2.1 (by rw [cellsE_app, cellsE_one1]; simpa using HE.out.2.2.2.2) (by omega) (by simp) (by omega) (by omega) hglt
  have d3 : (y == 3) = false := by simpa using e3
  have c0 : w5.cell? ⟨w1.heap.size, 0, none⟩ = some (.int .i64 n) := by simpa using K5.out.2.2.1.cell 0
  have r0 : w5.cell? ⟨w.heap.size + 1, 0, none⟩ = some (.int .i64 0) := by simpa using K5.out.2.2.2.1.cell 0
  have r1 : w5.cell? ⟨w.heap.size + 1, 1, none⟩ = some (.slice none 0 0) := by simpa using K5.out.2.2.2.1.cell 1
  have r2 := K5.out.2.2.2.1.frozen 0
  have r3 := K5.out.2.2.2.1.frozen 1
  go_wp2
  try simp only [Exit.inBlock, Exit.then]
  refine bodyPost_ret (v := .agg #[.int .i64 n, .slice (some ⟨B, 0, none⟩) es.length vc]) ?_ rfl ?_
  · rw [results_cell1 rfl]
    go_simp
  exact drawnW_of (q := q + 4) (q' := q + 1 + 1 + 1) K5.out.1 K5.out.2.1 K5.out.2.2.2.1 K5.out.2.2.2.2 (by omega) (by omega) (by omega) (by omega) hglt
end Go.Proofs.Ytlgjcofpdaljnaa
namespace Go.Proofs.Ytlgjcofpdaljnaa
open Go.RowKit Go.BigFrame
set_option linter.unusedVariables false
set_option linter.unusedSimpArgs false

theorem l1Kind (W w : World) (g q : Nat) (h : Rd W w g q) (hq : q ≤ 1000000) :
    Calls Try.prog 79 #[.pointer (some ⟨g, 0, none⟩)] w fun e w' => ∃ x : Int, e = .returned (.int .i64 x) ∧ Rd W w' g (q + 1) ∧ w.grownBy w' (some g) := by
  have HD := Lib.hid h
  clear h
  go_enter Try.func79, Try.ntmps79
  go_wp2_with fail
  refine (num_built [1, 2, 3, 5, 4] W w g q HD.out hq _ (by decide) (by decide)).mono ?_
  rintro e w' ⟨x, hx, rfl, hR, hG⟩
  have HR := Lib.hid (And.intro hR hG)
  clear hx hR hG
  go_wp2
  go_ret
  exact ⟨x, rfl, HR.out.1, HR.out.2⟩
theorem l1Wrong (m : Int) (W w : World) (g q : Nat) (h : Rd W w g q) (hq : q ≤ 900000) :
    Calls Try.prog 100 #[.pointer (some ⟨g, 0, none⟩), .int .i64 m] w fun e w' => ∃ x : Int, e = .returned (.int .i64 x) ∧ Rd W w' g (q + 2) ∧ w.grownBy w' (some g) := by
  have HD := Lib.hid h
  clear h
  go_enter Try.func100, Try.ntmps100
  go_wp2_with fail
  refine (pick 20 W w g q HD.out (by omega) (by omega)).mono ?_
  rintro e w' ⟨x, rfl, hx0, hx1, hR, hG⟩
  have HR := Lib.hid (And.intro hR hG)
  clear hR hG hx1
  by_cases h0 : x = 0
  · subst h0
    go_wp2_with fail
    refine (num_built [0, 6, -1] W w' g (q + 1) HR.out.1 (by omega) _ (by decide) (by decide)).mono ?_
    rintro e w2 ⟨y, hy, rfl, hR2, hG2⟩
    have HR2 := Lib.hid (And.intro hR2 hG2)
    clear hy hR2 hG2
    go_wp2
    go_ret
    exact ⟨y, rfl, HR2.out.1, grown_trans' HR.out.2 HR2.out.2⟩
  · have h1 : (x == 0) = false := by simpa using h0
    clear h0
    go_wp2
    go_ret
    exact ⟨m, rfl, HR.out.1.more (by omega), HR.out.2⟩
end Go.Proofs.Ytlgjcofpdaljnaa
namespace Go.Proofs.Ytlgjcofpdaljnaa
open Go.RowKit Go.BigFrame Go.Deep
set_option linter.unusedVariables false
set_option linter.unusedSimpArgs false
set_option linter.unnecessarySimpa false

theorem Bytes.keepB {w w' : World} {a : Option Addr} {n : Nat} (h : Bytes w a n) (hb : Below w.heap.size w w') : Bytes w' a n := by
  rcases h with h | ⟨b, off, rfl, hlt, hc⟩
  · exact .inl h
  · exact .inr ⟨b, off, rfl, Nat.lt_of_lt_of_le hlt hb.size, fun i hi => by
      obtain ⟨x, h0, h1, hx⟩ := hc i hi
      exact ⟨x, h0, h1, (hb.cell (p := ⟨b, off + i, none⟩) hlt).trans hx⟩⟩
theorem InR.grownG {w w' : World} {lo hi g : Nat} {s : Value} {n sz : Nat} {cs : Nat → Value} (r : InR true w lo hi s n sz cs) (h : w.grownBy w' (some g)) (hg : g < lo) : InR true w' lo hi s n sz cs := r.chg (g_chgG h) (.inl (by omega))
/-- A graph, a number and a number are drawn. -/
def DrawnC3 (w : World) (e : Ending) (w' : World) : Prop :=
  ∃ (n : Int) (es : List Ed) (v : Value) (m a : Int), e = .returned (.tuple #[.agg #[.int .i64 n, v], .int .i64 m, .int .i64 a]) ∧ es.length ≤ 41 ∧ InR true w' w.heap.size w'.heap.size v es.length 3 (cellE es) ∧ okS v ∧ Below w.heap.size w w'
theorem results_ctt {fn : Func} {p t u : Tmp} {ty : TypeId} (h : fn.results = #[.cell p ty, .tmp t, .tmp u]) (tmps : Array Value) (P : Program) (w : World) :
    (results fn tmps).run P w = ((asAddr (tmps.getD p undef)).run P w).andThen fun a w₁ => ((loadVar ty a).run P w₁).andThen fun v w₂ => .ok (.tuple #[v, tmps.getD t undef, tmps.getD u undef]) w₂ := by
  simp only [results, h]
  simp
theorem drawnC3_of {w w0 w8 w9 : World} {g q : Nat} {n m a : Int} {es : List Ed} {v : Value} (hb : Below w.heap.size w w0) (hR : Rd w0 w9 g q) (hB : Box w9 w.heap.size 25 #[.int .i64 0, .slice none 0 0])
    (hrow : InR true w9 w8.heap.size w9.heap.size v es.length 3 (cellE es)) (hok : okS v) (hl : es.length ≤ 41) (hs : w.heap.size < w8.heap.size) :
    DrawnC3 w (.returned (.tuple #[.agg #[.int .i64 n, v], .int .i64 m, .int .i64 a])) ((w9.setCell ⟨w.heap.size, 0, none⟩ (.int .i64 n)).setCell ⟨w.heap.size, 1, none⟩ v) := by
  refine ⟨n, es, v, m, a, rfl, hl, ?_, hok, ((bel_trans hb hR.bel).setCell (by simp) _).setCell (by simp) _⟩
  have h1 := ((hrow.set8 (k := 0) (u := .int .i64 n) hs).set8 (k := 1) (u := v) hs)
  exact h1.wider (by omega) (by simp) (Nat.le_refl _)
set_option maxRecDepth 20000 in
set_option maxHeartbeats 4000000 in
theorem l3Case (a : Option Addr) (n cap : Nat) (w : World) (hb : Bytes w a n) (hcap : n ≤ cap) (hn : n ≤ 281474976710656) :
    Calls Try.prog 69 #[.slice a n cap] w (DrawnC3 w) := by
  have hbx := Box.new w 25 #[.int .i64 0, .slice none 0 0]
  have hbl : Below w.heap.size w (w.alloc (.cells #[.int .i64 0, .slice none 0 0] 25)) := (Below.refl _ _).alloc (Nat.le_refl _) _
  have HC := Lib.hid hb
  clear hb
  go_enter Try.func69, Try.ntmps69
  go_wp2_with fail
  generalize (w.alloc (.cells #[.int .i64 0, .slice none 0 0] 25)) = w0 at hbx hbl ⊢
  refine (l15Open a n cap w0 (HC.out.keepB hbl) hcap hn).mono ?_
  rintro e w1 ⟨g, rfl, hR⟩
  have hs0 : w.heap.size < w0.heap.size := hbx.lt
  have hg0 := hR.new
  have hs01 := hR.bel.size
  have K1 := Lib.hid (And.intro hR (hbx.keep hR.bel))
  clear hbx hR
  go_wp2_with fail
  refine (l2Draw w0 w1 g 0 K1.out.1 (by omega)).mono ?_
  rintro e w2 ⟨n0, es, v, rfl, hgv, hrow, hok, hR, hG⟩
  obtain ⟨va, vc, rfl, hz9⟩ := id hrow
  have h12 := (gVal_iff.1 hgv).1.2.1
  have h40 := (gVal_iff.1 hgv).1.2.2
  have hb2 : Below w2.heap.size w2 (w2.alloc (.cells #[.int .i64 n0, .slice va es.length vc] 25)) := (Below.refl _ _).alloc (Nat.le_refl _) _
  have hs1 := hG.size
  have hs23 := hb2.size
  have hlt1 := K1.out.1.lt
  have K2 := Lib.hid (And.intro (hR.keep hb2) (And.intro ((K1.out.2.grownG hG (by omega)).keep hb2) (And.intro (InR.keep hrow hb2) (And.intro hok (Box.new w2 25 #[.int .i64 n0, .slice va es.length vc])))))
  clear hz9 hgv hrow hok hR hG hb2
  go_wp2_with fail
  generalize (w2.alloc (.cells #[.int .i64 n0, .slice va es.length vc] 25)) = w3 at K2 hs23 ⊢
  refine (l1Kind w0 w3 g _ K2.out.1 (by omega)).mono ?_
  rintro e w4 ⟨m0, rfl, hR, hG⟩
  have hs4 := hG.size
  have K4 := Lib.hid (And.intro hR (And.intro (K2.out.2.1.grownG hG (by omega)) (And.intro (InR.grownG K2.out.2.2.1 hG (by omega)) (K2.out.2.2.2.2.grownG hG (by omega)))))
  clear hR hG
  go_wp2_with fail
  refine (l1Wrong m0 w0 w4 g _ K4.out.1 (by omega)).mono ?_
  rintro e w5 ⟨m, rfl, hR, hG⟩
  have hs5 := hG.size
  have K5 := Lib.hid (And.intro hR (And.intro (K4.out.2.1.grownG hG (by omega)) (And.intro (InR.grownG K4.out.2.2.1 hG (by omega)) (K4.out.2.2.2.grownG hG (by omega)))))
  clear hR hG
  have x0 : w5.cell? ⟨w2.heap.size, 0, none⟩ = some (.int .i64 n0) := by simpa using K5.out.2.2.2.cell 0
  go_wp2_with fail
  refine (pick n0 w0 w5 g _ K5.out.1 (by omega) (by omega)).mono ?_
  rintro e w6 ⟨src, rfl, hx0, hx1, hR, hG⟩
  have hs6 := hG.size
  have K6 := Lib.hid (And.intro hR (And.intro (K5.out.2.1.grownG hG (by omega)) (And.intro (InR.grownG K5.out.2.2.1 hG (by omega)) (K5.out.2.2.2.grownG hG (by omega)))))
  clear hR hG hx0 hx1 x0
  go_wp2_with fail
  refine (pick 20 w0 w6 g _ K6.out.1 (by omega) (by omega)).mono ?_
  rintro e w7 ⟨c, rfl, hx0, hx1, hR, hG⟩
  have hs7 := hG.size
  have K7 := Lib.hid (And.intro (hR.more (show _ ≤ 60 by omega)) (And.intro (K6.out.2.1.grownG hG (by omega)) (And.intro (InR.grownG K6.out.2.2.1 hG (by omega)) (K6.out.2.2.2.grownG hG (by omega)))))
  clear hR hG hx0 hx1
  by_cases hc : c = 0
  · subst hc
    go_wp2_with fail
    refine (num_built [-1, 12] w0 w7 g _ K7.out.1 (by omega) _ (by decide) (by decide)).mono ?_
    rintro e w8 ⟨src2, hx, rfl, hR, hG⟩
    have hs8 := hG.size
    have K8 := Lib.hid (And.intro hR (And.intro (K7.out.2.1.grownG hG (by omega)) (And.intro (InR.grownG K7.out.2.2.1 hG (by omega)) (K7.out.2.2.2.grownG hG (by omega)))))
    clear hR hG hx
    have x0 : w8.cell? ⟨w2.heap.size, 0, none⟩ = some (.int .i64 n0) := by simpa using K8.out.2.2.2.cell 0
    have x1 : w8.cell? ⟨w2.heap.size, 1, none⟩ = some (.slice va es.length vc) := by simpa using K8.out.2.2.2.cell 1
    go_wp2_with fail
    refine (l2Wrong w0 w8 g _ n0 es (.slice va es.length vc) K8.out.1 (by omega) K8.out.2.2.1.edges K2.out.2.2.2.1 (by omega)).mono ?_
    rintro e w9 ⟨n1, es1, v1, rfl, hl1, hrow1, hok1, hR, hG⟩
    obtain ⟨va1, vc1, rfl, hz9⟩ := id hrow1
    have K9 := Lib.hid (And.intro hR (And.intro (K8.out.2.1.grownG hG (by omega)) (And.intro hrow1 hok1)))
    have hs9 := hG.size
    have r0 : w9.cell? ⟨w.heap.size, 0, none⟩ = some (.int .i64 0) := by simpa using K9.out.2.1.cell 0
    have r1 : w9.cell? ⟨w.heap.size, 1, none⟩ = some (.slice none 0 0) := by simpa using K9.out.2.1.cell 1
    have r2 := K9.out.2.1.frozen 0
    have r3 := K9.out.2.1.frozen 1
    clear hz9 hrow1 hok1 hR hG x0 x1
    go_wp2
    try simp only [Exit.inBlock, Exit.then]
    refine bodyPost_ret (v := .tuple #[.agg #[.int .i64 n1, .slice va1 es1.length vc1], .int .i64 m, .int .i64 src2]) ?_ rfl ?_
    · rw [results_ctt rfl]
      go_simp
    exact drawnC3_of hbl K9.out.1 K9.out.2.1 K9.out.2.2.1 K9.out.2.2.2 (by omega) (by omega)
  · have dc : (c == 0) = false := by simpa using hc
    have x0 : w7.cell? ⟨w2.heap.size, 0, none⟩ = some (.int .i64 n0) := by simpa using K7.out.2.2.2.cell 0
    have x1 : w7.cell? ⟨w2.heap.size, 1, none⟩ = some (.slice va es.length vc) := by simpa using K7.out.2.2.2.cell 1
    go_wp2_with fail
    refine (l2Wrong w0 w7 g _ n0 es (.slice va es.length vc) K7.out.1 (by omega) K7.out.2.2.1.edges K2.out.2.2.2.1 (by omega)).mono ?_
    rintro e w9 ⟨n1, es1, v1, rfl, hl1, hrow1, hok1, hR, hG⟩
    obtain ⟨va1, vc1, rfl, hz9⟩ := id hrow1
    have K9 := Lib.hid (And.intro hR (And.intro (K7.out.2.1.grownG hG (by omega)) (And.intro hrow1 hok1)))
    have hs9 := hG.size
    have r0 : w9.cell? ⟨w.heap.size, 0, none⟩ = some (.int .i64 0) := by simpa using K9.out.2.1.cell 0
    have r1 : w9.cell? ⟨w.heap.size, 1, none⟩ = some (.slice none 0 0) := by simpa using K9.out.2.1.cell 1
    have r2 := K9.out.2.1.frozen 0
    have r3 := K9.out.2.1.frozen 1
    clear hz9 hrow1 hok1 hR hG x0 x1
    go_wp2
    try simp only [Exit.inBlock, Exit.then]
    refine bodyPost_ret (v := .tuple #[.agg #[.int .i64 n1, .slice va1 es1.length vc1], .int .i64 m, .int .i64 src]) ?_ rfl ?_
    · rw [results_ctt rfl]
      go_simp
    exact drawnC3_of hbl K9.out.1 K9.out.2.1 K9.out.2.2.1 K9.out.2.2.2 (by omega) (by omega)
end Go.Proofs.Ytlgjcofpdaljnaa
