/- The model's source of drawn numbers: what is read, and that only its own block is written. -/
import Derived.Test.YtjcfefpcilhelaaBase
import Derived.IntWalk
import Derived.Laws.BitsAllLaws
import Derived.Laws.BitsLemmas
import Derived.Laws.AppendOwn
namespace Go.Proofs.Ytjcfefpcilhelaa
open Go.RowKit Go.BigFrame
set_option linter.unusedVariables false
set_option linter.unusedSimpArgs false

/-- Bytes that came in. -/
def Bytes (w : World) (a : Option Addr) (n : Nat) : Prop :=
  n = 0 ∨ ∃ b off, a = some ⟨b, off, none⟩ ∧ b < w.heap.size ∧ ∀ i, i < n → ∃ x : Int, 0 ≤ x ∧ x ≤ 255 ∧ w.cell? ⟨b, off + i, none⟩ = some (.int .u8 x)

/-- The source lies in block g, which is new since W; it has been asked at most q times. -/
structure Rd (W w : World) (g q : Nat) : Prop where
  new : W.heap.size ≤ g
  bel : Below W.heap.size W w
  cells : ∃ (a : Option Addr) (n cap p : Nat), n ≤ 2000 ∧ p ≤ q ∧ Bytes W a n ∧ w.cell? ⟨g, 0, none⟩ = some (.slice a n cap) ∧ w.cell? ⟨g, 1, none⟩ = some (.int .i64 p)
  free : w.frozen? ⟨g, 1, none⟩ = false
  lt : g < w.heap.size

/-- What an operation of the source does to the world: only its block is written. -/
theorem grown_cell {w w' : World} {g : Nat} (h : w.grownBy w' (some g)) {b o : Nat} (hb : b < w.heap.size) (hne : b ≠ g) : w'.cell? ⟨b, o, none⟩ = w.cell? ⟨b, o, none⟩ :=
  World.cell?_of_block (h.block b hb (fun e => hne (by injection e)))
theorem grown_trans' {a b c : World} {g : Nat} (h : a.grownBy b (some g)) (k : b.grownBy c (some g)) : a.grownBy c (some g) :=
  ⟨k.os.trans h.os, k.tape.trans h.tape, k.output.trans h.output, Nat.le_trans h.size k.size, fun i hi hne => (k.block i (Nat.lt_of_lt_of_le hi h.size) hne).trans (h.block i hi hne)⟩
theorem grown_refl (w : World) (g : Nat) : w.grownBy w (some g) := ⟨rfl, rfl, rfl, Nat.le_refl _, fun _ _ _ => rfl⟩
theorem grown_below {a w : World} {g : Nat} (h : Below a.heap.size a w) : a.grownBy w (some g) := ⟨h.os, h.tape, h.output, h.size, fun i hi _ => h.block i hi⟩
theorem below_grown {W a w : World} {g : Nat} (h : Below W.heap.size W a) (hg : a.grownBy w (some g)) (hn : W.heap.size ≤ g) : Below W.heap.size W w :=
  ⟨hg.os.trans h.os, hg.tape.trans h.tape, hg.output.trans h.output, Nat.le_trans h.size hg.size, fun i hi => (hg.block i (Nat.lt_of_lt_of_le hi h.size) (fun e => by injection e with e; omega)).trans (h.block i hi)⟩
/-- The source, behind steps that left it alone. -/
theorem Rd.keep {W w w' : World} {g q : Nat} (h : Rd W w g q) (hb : Below w.heap.size w w') : Rd W w' g q := by
  obtain ⟨a, n, cap, p, h1, h2, h3, h4, h5⟩ := h.cells
  exact ⟨h.new, bel_trans h.bel hb, ⟨a, n, cap, p, h1, h2, h3, by rw [hb.cell (p := ⟨g, 0, none⟩) h.lt]; exact h4, by rw [hb.cell (p := ⟨g, 1, none⟩) h.lt]; exact h5⟩,
    by rw [hb.frozen (p := ⟨g, 1, none⟩) h.lt]; exact h.free, Nat.lt_of_lt_of_le h.lt hb.size⟩
theorem Rd.more {W w : World} {g q q' : Nat} (h : Rd W w g q) (hq : q ≤ q') : Rd W w g q' := by
  obtain ⟨a, n, cap, p, h1, h2, h3, h4, h5⟩ := h.cells
  exact ⟨h.new, h.bel, ⟨a, n, cap, p, h1, by omega, h3, h4, h5⟩, h.free, h.lt⟩

theorem xor_low (x : Int) (h0 : 0 ≤ x) (h1 : x ≤ 4611686018427387904) : 0 ≤ bits .xor .i64 x (x / 64) ∧ bits .xor .i64 x (x / 64) < 9223372036854775808 := by
  obtain ⟨a, rfl⟩ := Int.eq_ofNat_of_zero_le h0
  obtain ⟨b, hb⟩ : ∃ b : Nat, ((a : Int) / 64) = (b : Int) := ⟨a / 64, by omega⟩
  rw [hb]
  have ha : a < 2 ^ 63 := by omega
  have hb' : b < 2 ^ 63 := by omega
  have hx : a ^^^ b < 2 ^ 63 := Nat.xor_lt_two_pow ha hb'
  have e : bits .xor .i64 (a : Int) (b : Int) = ((a ^^^ b : Nat) : Int) := by
    show IntKind.i64.wrap ((BitVec.ofInt 64 (a : Int) ^^^ BitVec.ofInt 64 (b : Int)).toNat : Int) = _
    rw [BitVec.toNat_xor, BitVec.ofInt_natCast, BitVec.toNat_ofNat, BitVec.ofInt_natCast, BitVec.toNat_ofNat, Nat.mod_eq_of_lt (by omega), Nat.mod_eq_of_lt (by omega), IntKind.wrap_i64]
    omega
  rw [e]
  constructor <;> omega

theorem rd_put {W w : World} {g q n cap p : Nat} {a : Option Addr} (hnew : W.heap.size ≤ g) (hbel : Below W.heap.size W w) (hn : n ≤ 2000) (hp : p ≤ q) (hby : Bytes W a n)
    (h0 : w.cell? ⟨g, 0, none⟩ = some (.slice a n cap)) (h1 : w.cell? ⟨g, 1, none⟩ = some (.int .i64 p)) (hfr : w.frozen? ⟨g, 1, none⟩ = false) (hlt : g < w.heap.size) (k : Nat) :
    Rd W ((w.setCell ⟨g, 1, none⟩ (.int .i64 ((p : Int) + 1))).drewN k) g (q + 1) ∧ w.grownBy ((w.setCell ⟨g, 1, none⟩ (.int .i64 ((p : Int) + 1))).drewN k) (some g) := by
  refine ⟨⟨hnew, ?_, ⟨a, n, cap, p + 1, hn, by omega, hby, by go_simp, by go_simp⟩, by go_simp, by simpa [World.setCell] using hlt⟩, ?_⟩
  · have hb := hbel.setCell (p := ⟨g, 1, none⟩) hnew (.int .i64 ((p : Int) + 1))
    exact ⟨hb.os, hb.tape, hb.output, hb.size, hb.block⟩
  · have hb := Below.refl g w
    have hb2 := hb.setCell (p := ⟨g, 1, none⟩) (Nat.le_refl _) (.int .i64 ((p : Int) + 1))
    exact ⟨hb2.os, hb2.tape, hb2.output, hb2.size, fun i hi hne => Below.heap_setCell w _ _ i (fun e => hne (by rw [e]))⟩

set_option maxHeartbeats 1000000 in
theorem pick (num : Int) (W w : World) (g q : Nat) (h : Rd W w g q) (hq : q ≤ 1000000) (hnum : num ≤ 1000000) :
    Calls Try.prog 71 #[.pointer (some ⟨g, 0, none⟩), .int .i64 num] w fun e w' => ∃ x : Int, e = .returned (.int .i64 x) ∧ 0 ≤ x ∧ (x < num ∨ x = 0) ∧ Rd W w' g (q + 1) ∧ w.grownBy w' (some g) := by
  obtain ⟨hnew, hbel, ⟨a, n, cap, p, hn, hp, hby, h0, h1⟩, hfr, hlt⟩ := h
  obtain ⟨hR, hG⟩ := rd_put hnew hbel hn hp hby h0 h1 hfr hlt 0
  by_cases hnum1 : num < 1
  · go_enter Try.func71, Try.ntmps71
    go_wp2
    go_ret
    exact ⟨0, rfl, by omega, .inr rfl, hR, hG⟩
  · by_cases hn0 : n = 0
    · subst hn0
      go_enter Try.func71, Try.ntmps71
      go_wp2
      go_ret
      exact ⟨0, rfl, by omega, .inr rfl, hR, hG⟩
    · have hn1 : 0 < n := by omega
      have hnb : ((n : Int) == 0) = false := by simpa using hn0
      obtain ⟨b, off, ha, hb, hbs⟩ := hby.resolve_left hn0
      subst ha
      have hbg : b ≠ g := by omega
      have HB : Hid (∀ i, i < n → ∃ x : Int, 0 ≤ x ∧ x ≤ 255 ∧ w.cell? ⟨b, off + i, none⟩ = some (.int .u8 x)) := fun i hi => by
        obtain ⟨x, hx0, hx1, hx⟩ := hbs i hi
        exact ⟨x, hx0, hx1, by rw [hbel.cell (p := ⟨b, off + i, none⟩) hb]; exact hx⟩
      have HRG := Lib.hid (rd_put hnew hbel hn hp hby h0 h1 hfr hlt)
      clear hR hG hbs hby hn0
      by_cases hpn : p < n
      · obtain ⟨x, hx0, hx1, hx⟩ := HB.out p hpn
        have hpn' : (p : Int) < n := by omega
        clear hpn
        go_enter Try.func71, Try.ntmps71
        go_wp2
        go_ret
        exact ⟨x % num, rfl, Int.emod_nonneg _ (by omega), .inl (Int.emod_lt_of_pos _ (by omega)), (HRG.out 0).1, (HRG.out 0).2⟩
      · have hpn' : ¬ ((p : Int) < n) := by omega
        obtain ⟨x, hx0, hx1, hx⟩ := HB.out (p % n) (Nat.mod_lt _ hn1)
        obtain ⟨y, hy0, hy1, hy⟩ := HB.out ((p * 7 + 3) % n) (Nat.mod_lt _ hn1)
        clear hpn
        go_enter Try.func71, Try.ntmps71
        go_wp2_with fail
        have m0 : 0 ≤ (p : Int) % n := Int.emod_nonneg _ (by omega)
        have m1 : (p : Int) % n < n := Int.emod_lt_of_pos _ (by omega)
        have m2 : 0 ≤ ((p : Int) * 7 + 3) % n := Int.emod_nonneg _ (by omega)
        have m3 : ((p : Int) * 7 + 3) % n < n := Int.emod_lt_of_pos _ (by omega)
        have m4 : 0 ≤ (p : Int) / n := Int.ediv_nonneg (by omega) (by omega)
        have m5 : (p : Int) / n ≤ p := Int.ediv_le_self _ (by omega)
        refine wp_region_quiet_lit (by kernel_rfl) (by kernel_rfl) ?_
        repeat (go_big_quiet_step (fail))
        refine wpQuiet_nil ?_
        intro _ hw'
        obtain ⟨nq, hw''⟩ := hw'
        subst hw''
        obtain ⟨t, ht⟩ : ∃ t, t = x * 131 + y * 1117 + (p : Int) * 29 + (p : Int) / n * 53 := ⟨_, rfl⟩
        have t0 : 0 ≤ t := by omega
        have t1 : t ≤ 4611686018427387904 := by omega
        rw [← ht]
        obtain ⟨x0, x1⟩ := xor_low t t0 t1
        clear ht m0 m1 m2 m3 m4 m5 hx hy hx0 hx1 hy0 hy1
        go_wp2
        go_ret
        exact ⟨_, rfl, Int.emod_nonneg _ (by omega), .inl (Int.emod_lt_of_pos _ (by omega)), (HRG.out nq).1, (HRG.out nq).2⟩

/-- A list of numbers in a block that is not the source's. -/
def RowN (w : World) (g : Nat) (s : Value) (zs : List Int) : Prop :=
  ∃ b off cap, s = .slice (some ⟨b, off, none⟩) zs.length cap ∧ b < w.heap.size ∧ b ≠ g ∧ ∀ i, i < zs.length → w.cell? ⟨b, off + i, none⟩ = some (.int .i64 (zs.getD i 0))
theorem rowN_built (zs : List Int) (w : World) (g : Nat) (t : TypeId) (hg : g < w.heap.size) :
    RowN (w.alloc (.cells (zs.map (Value.int .i64)).toArray t)) g (.slice (some ⟨w.heap.size, 0, none⟩) zs.length zs.length) zs := by
  refine ⟨_, 0, _, rfl, by simp, by omega, fun i hi => ?_⟩
  have e : (w.alloc (.cells (zs.map (Value.int .i64)).toArray t)).heap[w.heap.size]? = some (.cells (zs.map (Value.int .i64)).toArray t) := (MapKept.heap_alloc w _).1
  unfold World.cell?
  simp only [e]
  simp [hi, List.getD]

set_option maxHeartbeats 400000 in
theorem num (zs : List Int) (s : Value) (W w : World) (g q : Nat) (h : Rd W w g q) (hq : q ≤ 1000000) (hs : RowN w g s zs) (hz : 0 < zs.length) (hz2 : zs.length ≤ 1000) :
    Calls Try.prog 73 #[.pointer (some ⟨g, 0, none⟩), s] w fun e w' => ∃ x : Int, x ∈ zs ∧ e = .returned (.int .i64 x) ∧ Rd W w' g (q + 1) ∧ w.grownBy w' (some g) := by
  obtain ⟨b, off, cap, rfl, hb, hne, hc⟩ := hs
  have HC := Lib.hid hc
  have HD := Lib.hid h
  clear hc h
  go_enter Try.func73, Try.ntmps73
  go_wp2_with fail
  refine (pick (zs.length : Int) W w g q HD.out hq (by omega)).mono ?_
  rintro e w' ⟨x, rfl, hx0, hx1, hR, hG⟩
  obtain ⟨k, rfl⟩ := Int.eq_ofNat_of_zero_le hx0
  have hk : k < zs.length := by omega
  have hk' : (k : Int) < zs.length := by omega
  obtain ⟨y, hy⟩ : ∃ y, y = zs.getD k 0 := ⟨_, rfl⟩
  have hcell : w'.cell? ⟨b, off + k, none⟩ = some (.int .i64 y) := by rw [grown_cell hG hb hne, hy]; exact HC.out k hk
  have hmem : y ∈ zs := by rw [hy, getD_of hk]; exact List.getElem_mem hk
  have HR := Lib.hid (And.intro hR hG)
  have HM := Lib.hid hmem
  clear hy hmem hx1 hx0 hR hG
  go_wp2
  go_ret
  exact ⟨y, HM.out, rfl, HR.out.1, HR.out.2⟩

/-- One of some numbers that are written out. -/
theorem num_built (zs : List Int) (W w : World) (g q : Nat) (h : Rd W w g q) (hq : q ≤ 1000000) (t : TypeId) (hz : 0 < zs.length) (hz2 : zs.length ≤ 1000) :
    Calls Try.prog 73 #[.pointer (some ⟨g, 0, none⟩), .slice (some ⟨w.heap.size, 0, none⟩) zs.length zs.length] (w.alloc (.cells (zs.map (Value.int .i64)).toArray t)) fun e w' =>
      ∃ x : Int, x ∈ zs ∧ e = .returned (.int .i64 x) ∧ Rd W w' g (q + 1) ∧ w.grownBy w' (some g) := by
  have hb : Below w.heap.size w (w.alloc (.cells (zs.map (Value.int .i64)).toArray t)) := (Below.refl _ _).alloc (Nat.le_refl _) _
  exact (num zs _ W _ g q (h.keep hb) hq (rowN_built zs w g t h.lt) hz hz2).mono fun e w' ⟨x, hx, he, hR, hG⟩ => ⟨x, hx, he, hR, grown_trans' (grown_below hb) hG⟩

/-- Bytes that came in, as a value. -/
theorem l15Open (a : Option Addr) (n cap : Nat) (w : World) (hb : Bytes w a n) (hcap : n ≤ cap) (hn : n ≤ 281474976710656) :
    Calls Try.prog 70 #[.slice a n cap] w fun e w' => ∃ g, e = .returned (.pointer (some ⟨g, 0, none⟩)) ∧ Rd w w' g 0 := by
  by_cases h2 : 2000 < n
  · obtain ⟨b, off, rfl, hlt, hc⟩ := hb.resolve_left (by omega)
    have HC := Lib.hid hc
    clear hc hb
    go_enter Try.func70, Try.ntmps70
    go_wp2
    go_ret
    refine ⟨_, rfl, Nat.le_refl _, (Below.refl _ _).alloc (Nat.le_refl _) _, ⟨_, 2000, cap, 0, by omega, by omega, .inr ⟨b, off, rfl, hlt, fun i hi => HC.out i (by omega)⟩, by go_simp, by go_simp⟩, by go_simp, by simp⟩
  · have HC := Lib.hid hb
    clear hb
    go_enter Try.func70, Try.ntmps70
    go_wp2
    go_ret
    refine ⟨_, rfl, Nat.le_refl _, (Below.refl _ _).alloc (Nat.le_refl _) _, ⟨_, n, cap, 0, by omega, by omega, HC.out, by go_simp, by go_simp⟩, by go_simp, by simp⟩
end Go.Proofs.Ytjcfefpcilhelaa
