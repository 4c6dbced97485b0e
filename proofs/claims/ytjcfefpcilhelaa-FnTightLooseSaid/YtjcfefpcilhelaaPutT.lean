/- l2Put of the model. PutEdge of the model. -/
import Derived.Test.YtjcfefpcilhelaaIns2
namespace Go.Proofs.Ytjcfefpcilhelaa
open Go.RowKit Go.BigFrame Go.Deep
set_option linter.unusedVariables false
set_option linter.unusedSimpArgs false

theorem Chg.of_grown {w w' : World} {u : Value} {base : Nat} {e : TypeId} {sz m : Nat} {xs : List Value} (hg : w.grownBy w' u.ownBlock) (ho : w.ownsRow base e sz u m xs) : Chg base w.heap.size w w' :=
  ⟨hg.os, hg.tape, hg.output, hg.size, fun k hk hd => hg.block k hk (fun h => by have := (ho.lt k h.symm).1; omega)⟩
theorem BoxG.chg {w w' : World} {B lo hi : Nat} {t : TypeId} {n : Int} {v : Value} (h : BoxG w B t n v) (c : Chg lo hi w w') (d : B < lo ∨ hi ≤ B) : BoxG w' B t n v := (c.block B h.cells.2.2.2.2 d).trans h
/-- What holds in each round of l2Put: B is the old graph's box, w0 the world at the start. -/
structure PutR (w0 wr : World) (B : Nat) (n x y z : Int) (vao : Option Addr) (vco : Nat) (old : List Ed) (L : List Ed) (v : Value) : Prop where
  bel : Below w0.heap.size w0 wr
  lo : w0.heap.size + 3 ≤ B
  box : BoxG wr (B + 1 + 1) 25 n v
  own : wr.ownsRow (B + 1) 36 3 v L.length (cellsE L)
  obox : BoxG wr B 25 n (.slice vao old.length vco)
  rbox : BoxG wr (w0.heap.size + 1 + 1) 25 0 (.slice none 0 0)
  e0 : wr.cell? ⟨w0.heap.size + 1, 0, none⟩ = some (.int .i64 x)
  e1 : wr.cell? ⟨w0.heap.size + 1, 1, none⟩ = some (.int .i64 y)
  e2 : wr.cell? ⟨w0.heap.size + 1, 2, none⟩ = some (.int .i64 z)
  row : InR true wr 0 B (.slice vao old.length vco) old.length 3 (cellE old)
section
variable {w0 wr : World} {B : Nat} {n x y z : Int} {vao : Option Addr} {vco : Nat} {old L : List Ed} {v : Value}
theorem PutR.below {w' : World} (h : PutR w0 wr B n x y z vao vco old L v) (hb : Below wr.heap.size wr w') : PutR w0 w' B n x y z vao vco old L v := by
  have hs := h.obox.cells.2.2.2.2
  have hlo := h.lo
  exact ⟨bel_trans h.bel hb, h.lo, h.box.keep hb, own_keep3 h.own hb, h.obox.keep hb, h.rbox.keep hb, (hb.cell (p := ⟨_, 0, none⟩) (by simp only; omega)).trans h.e0, (hb.cell (p := ⟨_, 1, none⟩) (by simp only; omega)).trans h.e1, (hb.cell (p := ⟨_, 2, none⟩) (by simp only; omega)).trans h.e2, h.row.keep hb⟩
/-- One edge more: the row has grown in w6, and has been stored. -/
theorem PutR.more {W1 w6 : World} {v' : Value} {d : Ed} (h : PutR w0 wr B n x y z vao vco old L v) (hb : Below wr.heap.size wr W1) (hg : World.grownBy W1 w6 v.ownBlock)
    (ho : w6.ownsRow (B + 1) 36 3 v' (L.length + 1) (cellsE L ++ [.int .i64 d.1, .int .i64 d.2.1, .int .i64 d.2.2])) : PutR w0 (w6.setCell ⟨B + 1 + 1, 1, none⟩ v') B n x y z vao vco old (L ++ [d]) v' := by
  have h1 : PutR w0 W1 B n x y z vao vco old L v := h.below hb
  have c := Chg.of_grown hg h1.own
  have hx := BoxG.grown h1.box hg h1.own (by decide)
  have hlo := h.lo
  have hs := h1.obox.cells.2.2.2.2
  have hs2 := h1.box.cells.2.2.2.2
  have c2 : Chg (B + 1) (max W1.heap.size (B + 3)) W1 (w6.setCell ⟨B + 1 + 1, 1, none⟩ v') := by
    have hm : max W1.heap.size (B + 3) = W1.heap.size := by omega
    rw [hm]
    exact c.setCell (by simp only; omega) (by simp only; omega) _
  refine ⟨bel_chg h1.bel c2 (by omega), hlo, hx.set _, ?_, h1.obox.chg c2 (by omega), h1.rbox.chg c2 (by omega), (c2.cell (p := ⟨_, 0, none⟩) (by simp only; omega) (by simp only; omega)).trans h1.e0, (c2.cell (p := ⟨_, 1, none⟩) (by simp only; omega) (by simp only; omega)).trans h1.e1, (c2.cell (p := ⟨_, 2, none⟩) (by simp only; omega) (by simp only; omega)).trans h1.e2, h1.row.chg c2 (by omega)⟩
  obtain ⟨d0, d1, d2⟩ := d
  exact own_more ho rfl hx (by decide) _
theorem PutR.grow {W1 w6 : World} (h : PutR w0 wr B n x y z vao vco old L v) (hb : Below wr.heap.size wr W1) (hg : World.grownBy W1 w6 v.ownBlock) : BoxG w6 (B + 1 + 1) 25 n v := BoxG.grown (h.below hb).box hg (h.below hb).own (by decide)
theorem PutR.rgrow {W1 w6 : World} (h : PutR w0 wr B n x y z vao vco old L v) (hb : Below wr.heap.size wr W1) (hg : World.grownBy W1 w6 v.ownBlock) : BoxG w6 (w0.heap.size + 1 + 1) 25 0 (.slice none 0 0) := BoxG.grown (h.below hb).rbox hg (h.below hb).own (by decide)
theorem PutR.addr {k : Nat} (h : PutR w0 wr B n x y z vao vco old L v) (hk : k < old.length) : ∃ b off, vao = some ⟨b, off, none⟩ := by
  obtain ⟨a, c, hs, hz⟩ := h.row.edges
  injection hs with h1 _ _
  subst h1
  rcases hz with h0 | ⟨b, off, rfl, _⟩
  · rw [h0] at hk; simp at hk
  · exact ⟨b, off, rfl⟩
theorem PutR.cell3 {k b off : Nat} {p q r : Int} (h : PutR w0 wr B n x y z (some ⟨b, off, none⟩) vco old L v) (hk : k < old.length) (hd : (p, q, r) = old.getD k (0, 0, 0)) :
    wr.cell? ⟨b, off + k * 3, none⟩ = some (.int .i64 p) ∧ wr.cell? ⟨b, off + k * 3 + 1, none⟩ = some (.int .i64 q) ∧ wr.cell? ⟨b, off + k * 3 + 2, none⟩ = some (.int .i64 r) := by
  obtain ⟨a, c, hs, hz⟩ := h.row.edges
  injection hs with h1 _ _
  subst h1
  rcases hz with h0 | ⟨b', off', h1, hb, hc⟩
  · rw [h0] at hk; simp at hk
  · injection h1 with h1
    injection h1 with h1 h2 _
    subst h1 h2
    have := hc k hk
    rw [← hd] at this
    exact this
theorem PutR.start {w2 : World} {lo : Nat} (hb : Below w0.heap.size w0 w2) (hlo : w0.heap.size + 3 ≤ w2.heap.size) (hr : BoxG w2 (w0.heap.size + 1 + 1) 25 0 (.slice none 0 0)) (e0 : w2.cell? ⟨w0.heap.size + 1, 0, none⟩ = some (.int .i64 x)) (e1 : w2.cell? ⟨w0.heap.size + 1, 1, none⟩ = some (.int .i64 y)) (e2 : w2.cell? ⟨w0.heap.size + 1, 2, none⟩ = some (.int .i64 z))
    (hv : InR true w2 lo w2.heap.size (.slice vao old.length vco) old.length 3 (cellE old)) :
    PutR w0 (((w2.alloc (.cells #[.int .i64 n, .slice vao old.length vco] 25)).alloc (.cells #[] 36)).alloc (.cells #[.int .i64 n, .slice (some ⟨w2.heap.size + 1, 0, none⟩) 0 0] 25)) w2.heap.size n x y z vao vco old [] (.slice (some ⟨w2.heap.size + 1, 0, none⟩) 0 0) := by
  have b1 : Below w2.heap.size w2 (w2.alloc (.cells #[.int .i64 n, .slice vao old.length vco] 25)) := (Below.refl _ _).alloc (Nat.le_refl _) _
  have b3 : Below w2.heap.size w2 (((w2.alloc (.cells #[.int .i64 n, .slice vao old.length vco] 25)).alloc (.cells #[] 36)).alloc (.cells #[.int .i64 n, .slice (some ⟨w2.heap.size + 1, 0, none⟩) 0 0] 25)) := (b1.alloc (by simp) _).alloc (by simp; omega) _
  refine ⟨bel_trans hb b3, hlo, ?_, ?_, ((BoxG.new _ _ _ _).alloc _).alloc _, hr.keep b3, (b3.cell (p := ⟨_, 0, none⟩) (by simp only; omega)).trans e0, (b3.cell (p := ⟨_, 1, none⟩) (by simp only; omega)).trans e1, (b3.cell (p := ⟨_, 2, none⟩) (by simp only; omega)).trans e2, (hv.wider (Nat.zero_le _) (Nat.le_refl _) (Nat.le_refl _)).keep b3⟩
  · have := BoxG.new ((w2.alloc (.cells #[.int .i64 n, .slice vao old.length vco] 25)).alloc (.cells #[] 36)) 25 n (.slice (some ⟨w2.heap.size + 1, 0, none⟩) 0 0)
    simpa using this
  · have := (own_empty3 (w2.alloc (.cells #[.int .i64 n, .slice vao old.length vco] 25)) 36 3 (w2.heap.size + 1) (by simp)).alloc (.cells #[.int .i64 n, .slice (some ⟨w2.heap.size + 1, 0, none⟩) 0 0] 25)
    simpa [cellsE] using this
end

set_option maxRecDepth 100000 in
set_option maxHeartbeats 2000000 in
theorem l2Put (n : Int) (es : List Ed) (x y z : Int) (s : Value) (w : World) (hs : RowE w s es) (hl : es.length ≤ 1048576) :
    Calls Try.prog 143 #[.agg #[.int .i64 n, s], .agg #[.int .i64 x, .int .i64 y, .int .i64 z]] w fun e w' => ∃ v, e = .returned (.agg #[.int .i64 n, v]) ∧ OwnE w w' v (insL (x, y, z) (cutL es x y)) ∧ okS v ∧ Below w.heap.size w w' := by
  obtain ⟨ad, cap, hs0, hz0⟩ := id hs
  subst hs0
  have hcu := fun w h => l2Cut n es x y (.slice ad es.length cap) w h hl
  have hlen := cutL_len es x y
  obtain ⟨old, hold⟩ : ∃ old, old = cutL es x y := ⟨_, rfl⟩
  rw [← hold] at hcu hlen ⊢
  have HCU := Lib.hid hcu
  have R := Lib.hid (InR.of_edges hs)
  obtain ⟨i0, hi, hz0', hz1, hz2⟩ := info_parts info_edge
  have HI : Hid (Try.prog.info? 36 = some i0 ∧ i0.zero = some (.agg #[.int .i64 0, .int .i64 0, .int .i64 0]) ∧ i0.size = 3 ∧ i0.bytes = 24) := Lib.hid ⟨hi, hz0', hz1, hz2⟩
  clear hz0 hs hold hcu hi hz0' hz1 hz2
  obtain ⟨w0, hw0⟩ : ∃ w0, w0 = w := ⟨_, rfl⟩
  subst hw0
  have H0 := Below.refl w0.heap.size w0
  have R_0 := R
  clear R
  go_enter Try.func143, Try.ntmps143
  go_wp2_with fail
  have hb1 : Below w0.heap.size w0 (((w0.alloc (.cells #[.int .i64 n, .slice ad es.length cap] 25)).alloc (.cells #[.int .i64 x, .int .i64 y, .int .i64 z] 36)).alloc (.cells #[.int .i64 0, .slice none 0 0] 25)) := (((Below.refl _ _).alloc (by simp <;> omega) _).alloc (by simp <;> omega) _).alloc (by simp <;> omega) _
  have H1 := bel_trans H0 hb1
  have SZ1 := Lib.hid hb1.size
  have R_1 := Lib.hid (R_0.out.keep hb1)
  have qg0_1 : (((w0.alloc (.cells #[.int .i64 n, .slice ad es.length cap] 25)).alloc (.cells #[.int .i64 x, .int .i64 y, .int .i64 z] 36)).alloc (.cells #[.int .i64 0, .slice none 0 0] 25)).cell? ⟨w0.heap.size, 0, none⟩ = some (.int .i64 n) := by go_simp
  have qg1_1 : (((w0.alloc (.cells #[.int .i64 n, .slice ad es.length cap] 25)).alloc (.cells #[.int .i64 x, .int .i64 y, .int .i64 z] 36)).alloc (.cells #[.int .i64 0, .slice none 0 0] 25)).cell? ⟨w0.heap.size, 1, none⟩ = some (.slice ad es.length cap) := by go_simp
  have zg_1 : w0.heap.size < (((w0.alloc (.cells #[.int .i64 n, .slice ad es.length cap] 25)).alloc (.cells #[.int .i64 x, .int .i64 y, .int .i64 z] 36)).alloc (.cells #[.int .i64 0, .slice none 0 0] 25)).heap.size := by simp <;> omega
  have qe0_1 : (((w0.alloc (.cells #[.int .i64 n, .slice ad es.length cap] 25)).alloc (.cells #[.int .i64 x, .int .i64 y, .int .i64 z] 36)).alloc (.cells #[.int .i64 0, .slice none 0 0] 25)).cell? ⟨w0.heap.size + 1, 0, none⟩ = some (.int .i64 x) := by go_simp
  have qe1_1 : (((w0.alloc (.cells #[.int .i64 n, .slice ad es.length cap] 25)).alloc (.cells #[.int .i64 x, .int .i64 y, .int .i64 z] 36)).alloc (.cells #[.int .i64 0, .slice none 0 0] 25)).cell? ⟨w0.heap.size + 1, 1, none⟩ = some (.int .i64 y) := by go_simp
  have qe2_1 : (((w0.alloc (.cells #[.int .i64 n, .slice ad es.length cap] 25)).alloc (.cells #[.int .i64 x, .int .i64 y, .int .i64 z] 36)).alloc (.cells #[.int .i64 0, .slice none 0 0] 25)).cell? ⟨w0.heap.size + 1, 2, none⟩ = some (.int .i64 z) := by go_simp
  have ze_1 : w0.heap.size + 1 < (((w0.alloc (.cells #[.int .i64 n, .slice ad es.length cap] 25)).alloc (.cells #[.int .i64 x, .int .i64 y, .int .i64 z] 36)).alloc (.cells #[.int .i64 0, .slice none 0 0] 25)).heap.size := by simp <;> omega
  have frr0_1 : (((w0.alloc (.cells #[.int .i64 n, .slice ad es.length cap] 25)).alloc (.cells #[.int .i64 x, .int .i64 y, .int .i64 z] 36)).alloc (.cells #[.int .i64 0, .slice none 0 0] 25)).frozen? ⟨w0.heap.size + 1 + 1, 0, none⟩ = false := by go_simp
  have frr1_1 : (((w0.alloc (.cells #[.int .i64 n, .slice ad es.length cap] 25)).alloc (.cells #[.int .i64 x, .int .i64 y, .int .i64 z] 36)).alloc (.cells #[.int .i64 0, .slice none 0 0] 25)).frozen? ⟨w0.heap.size + 1 + 1, 1, none⟩ = false := by go_simp
  have qr0_1 : (((w0.alloc (.cells #[.int .i64 n, .slice ad es.length cap] 25)).alloc (.cells #[.int .i64 x, .int .i64 y, .int .i64 z] 36)).alloc (.cells #[.int .i64 0, .slice none 0 0] 25)).cell? ⟨w0.heap.size + 1 + 1, 0, none⟩ = some (.int .i64 0) := by go_simp
  have qr1_1 : (((w0.alloc (.cells #[.int .i64 n, .slice ad es.length cap] 25)).alloc (.cells #[.int .i64 x, .int .i64 y, .int .i64 z] 36)).alloc (.cells #[.int .i64 0, .slice none 0 0] 25)).cell? ⟨w0.heap.size + 1 + 1, 1, none⟩ = some (.slice none 0 0) := by go_simp
  have zr_1 : w0.heap.size + 1 + 1 < (((w0.alloc (.cells #[.int .i64 n, .slice ad es.length cap] 25)).alloc (.cells #[.int .i64 x, .int .i64 y, .int .i64 z] 36)).alloc (.cells #[.int .i64 0, .slice none 0 0] 25)).heap.size := by simp <;> omega
  have hrb : BoxG (((w0.alloc (.cells #[.int .i64 n, .slice ad es.length cap] 25)).alloc (.cells #[.int .i64 x, .int .i64 y, .int .i64 z] 36)).alloc (.cells #[.int .i64 0, .slice none 0 0] 25)) (w0.heap.size + 1 + 1) 25 0 (.slice none 0 0) := by have := BoxG.new ((w0.alloc (.cells #[.int .i64 n, .slice ad es.length cap] 25)).alloc (.cells #[.int .i64 x, .int .i64 y, .int .i64 z] 36)) 25 0 (.slice none 0 0); simpa using this
  generalize (((w0.alloc (.cells #[.int .i64 n, .slice ad es.length cap] 25)).alloc (.cells #[.int .i64 x, .int .i64 y, .int .i64 z] 36)).alloc (.cells #[.int .i64 0, .slice none 0 0] 25)) = w1 at hrb hb1 H1 SZ1 R_1 frr0_1 frr1_1 qe0_1 qe1_1 qe2_1 qg0_1 qg1_1 qr0_1 qr1_1 ze_1 zg_1 zr_1 ⊢
  have ZBg := Lib.hid zg_1
  have ZBe := Lib.hid ze_1
  have ZBr := Lib.hid zr_1
  clear R_0
  refine (HCU.out _ R_1.out.edges).mono ?_
  rintro e w2 ⟨v, rfl, hown, hokv, hb2⟩
  have H2 := bel_trans H1 hb2
  have SZ2 := Lib.hid hb2.size
  have qg0_2 := (hb2.cell (p := ⟨w0.heap.size, 0, none⟩) zg_1).trans qg0_1
  have qg1_2 := (hb2.cell (p := ⟨w0.heap.size, 1, none⟩) zg_1).trans qg1_1
  have zg_2 := Nat.lt_of_lt_of_le zg_1 hb2.size
  have qe0_2 := (hb2.cell (p := ⟨w0.heap.size + 1, 0, none⟩) ze_1).trans qe0_1
  have qe1_2 := (hb2.cell (p := ⟨w0.heap.size + 1, 1, none⟩) ze_1).trans qe1_1
  have qe2_2 := (hb2.cell (p := ⟨w0.heap.size + 1, 2, none⟩) ze_1).trans qe2_1
  have ze_2 := Nat.lt_of_lt_of_le ze_1 hb2.size
  have qr0_2 := (hb2.cell (p := ⟨w0.heap.size + 1 + 1, 0, none⟩) zr_1).trans qr0_1
  have frr0_2 := (hb2.frozen (p := ⟨w0.heap.size + 1 + 1, 0, none⟩) zr_1).trans frr0_1
  have qr1_2 := (hb2.cell (p := ⟨w0.heap.size + 1 + 1, 1, none⟩) zr_1).trans qr1_1
  have frr1_2 := (hb2.frozen (p := ⟨w0.heap.size + 1 + 1, 1, none⟩) zr_1).trans frr1_1
  have zr_2 := Nat.lt_of_lt_of_le zr_1 hb2.size
  have R_2 := Lib.hid (R_1.out.keep hb2)
  obtain ⟨vao, vco, rfl, hvz⟩ := id hown
  clear hvz
  have hrb2 := hrb.keep hb2
  have V_2 := Lib.hid (hown)
  clear R_1 qg0_1 qg1_1 zg_1 qe0_1 qe1_1 qe2_1 ze_1 frr0_1 frr1_1 qr0_1 qr1_1 zr_1
  have hlo : w0.heap.size + 3 ≤ w2.heap.size := by have := ZBr.out; have := SZ2.out; omega
  have PS := Lib.hid (PutR.start (n := n) (vao := vao) (vco := vco) (old := old) H2 hlo hrb2 qe0_2 qe1_2 qe2_2 V_2.out)
  have hB0 : w0.heap.size ≤ w2.heap.size := by omega
  clear hrb hrb2 hown
  go_wp2
  clear qg0_2 qg1_2 zg_2 qe0_2 qe1_2 qe2_2 ze_2 qr0_2 frr0_2 qr1_2 frr1_2 zr_2 R_2 V_2
  go_loopw [7, 8] (fun dn c wr => ∃ k : Nat, k ≤ old.length ∧ c = .int .i64 k ∧ dn = .bool (insF (x, y, z) (old.take k)).2 ∧ ∃ v, PutR w0 wr w2.heap.size n x y z vao vco old (insF (x, y, z) (old.take k)).1 v) (fun _ c _ => old.length - (intOf c).toNat)
  case atStart => exact ⟨0, Nat.zero_le _, rfl, rfl, _, PS.out⟩
  case round =>
    obtain ⟨k, hk, rfl, rfl, v, hput⟩ := hrel
    have hlk := insF_len (x, y, z) (old.take k)
    have HP := Lib.hid hput
    clear hput
    by_cases hlt : k < old.length
    · have hsn := insF_snoc (x, y, z) old hlt
      obtain ⟨p, q, r, hd⟩ : ∃ p q r, (p, q, r) = old.getD k (0, 0, 0) := ⟨_, _, _, rfl⟩
      rw [← hd] at hsn
      have hle : (old.take k).length = k := by rw [List.length_take]; omega
      rw [hle] at hlk
      generalize insF (x, y, z) (old.take k) = st at HP hsn hlk ⊢
      obtain ⟨L, dn⟩ := st
      simp only at HP hlk
      have hlt' : (k : Int) < old.length := by omega
      obtain ⟨b0, off, hvao⟩ := HP.out.addr hlt
      subst hvao
      have hcl : (p, q, r) = old.getD k (0, 0, 0) := hd
      have HD := Lib.hid hcl
      clear hd hcl
      have ff : ∀ w', Below wr.heap.size wr w' → w'.cell? ⟨w0.heap.size + 1, 0, none⟩ = some (.int .i64 x) ∧ w'.cell? ⟨w0.heap.size + 1, 1, none⟩ = some (.int .i64 y) ∧ w'.cell? ⟨w0.heap.size + 1, 2, none⟩ = some (.int .i64 z) ∧ w'.cell? ⟨w2.heap.size, 1, none⟩ = some (.slice (some ⟨b0, off, none⟩) old.length vco) ∧
          w'.cell? ⟨b0, off + k * 3, none⟩ = some (.int .i64 p) ∧ w'.cell? ⟨b0, off + k * 3 + 1, none⟩ = some (.int .i64 q) ∧ w'.cell? ⟨b0, off + k * 3 + 2, none⟩ = some (.int .i64 r) := by
        intro w' h
        have h1 := HP.out.below h
        have h2 := h1.cell3 hlt HD.out
        exact ⟨h1.e0, h1.e1, h1.e2, h1.obox.cells.2.1, h2.1, h2.2.1, h2.2.2⟩
      have FF := Lib.hid ff
      have hll := fun w => l2Less x y z p q r w
      have hbe : edB (x, y, z) (p, q, r) = sLess x y p q := rfl
      have g1 := HP.out.obox.cells.2.1
      clear ff
      obtain ⟨hi, hz0, hz1, hz2⟩ := HI.out
      cases dn
      · have hlk2 := hlk.2 rfl
        cases hb : sLess x y p q
        · -- not yet
          have hT : insF (x, y, z) (old.take (k + 1)) = (L ++ [(p, q, r)], false) := by rw [hsn]; simp [insS, hbe, hb]
          have HT := Lib.hid hT
          rw [hb] at hll
          have HLL := Lib.hid hll
          clear hT hsn hll hbe hb hlk
          go_wp2
          refine wp_region_below (by kernel_rfl) (by kernel_rfl) ?_
          repeat (go_big_quiet_step ((intro hw; first | with_reducible rfl | (obtain ⟨f0, f1, f2, g0, c0, c1, c2⟩ := FF.out _ hw; simp only [f0, f1, f2, g0, c0, c1, c2, Result.andThen]; first | exact ⟨trivial, rfl⟩ | exact ⟨rfl, rfl⟩) | (go_at_call 124; exact quietB (HLL.out _) hw))))
          refine wpQuiet_nil ?_
          intro w5 hw5
          have H5 := Lib.hid (HP.out.below hw5)
          obtain ⟨-, kx1, -, kx3, kx4⟩ := H5.out.box.cells
          obtain ⟨-, ko1, -, -, ko4⟩ := H5.out.obox.cells
          have ke0 := H5.out.e0
          have ke1 := H5.out.e1
          have ke2 := H5.out.e2
          obtain ⟨kc0, kc1, kc2⟩ := H5.out.cell3 hlt HD.out
          go_wp2
          have hxg : ∀ A w6, World.grownBy ((w5.alloc A).drew) w6 v.ownBlock → BoxG w6 (w2.heap.size + 1 + 1) 25 n (v) := fun A w6 h => H5.out.grow (((Below.refl _ _).alloc (Nat.le_refl _) _).drew) h
          have HXG := Lib.hid hxg
          have hsz5 : w2.heap.size + 1 ≤ w5.heap.size := Nat.le_of_lt (Nat.lt_of_succ_lt H5.out.box.cells.2.2.2.2)
          clear hxg
          go_region_law (first | (refine step_append_own rfl (.tmp 44) (.tmp 50) 23 rfl (w2.heap.size + 1) 36 i0 (.agg #[.int .i64 0, .int .i64 0, .int .i64 0]) 3 24 Try.underlying23 hi hz0 hz1 hz2 rfl (by decide) _ _ _ rfl (own_drew (H5.out.own.alloc _)) ⟨w5.heap.size, 0, none⟩ 1 1 [.int .i64 p, .int .i64 q, .int .i64 r] rfl rfl (cells_new3 _ _ _ _ _) (by simp [Value.oneCell']) (by unfold maxLen; first | omega | (simp; omega)) (by first | omega | (simp; omega)) (by first | omega | (simp; omega)) ?_; intro v6 w6 hown6 hgrow6; obtain ⟨va, vc, rfl⟩ := own_slice hown6; have HX6 := Lib.hid (HXG.out _ _ hgrow6); obtain ⟨-, y1, -, y3, -⟩ := HX6.out.cells))
          all_goals go_wp2
          all_goals go_roundw
          all_goals first | (simp [intOf]; omega) | exact ⟨k + 1, by omega, by go_num, by rw [HT.out], _, by rw [HT.out]; exact H5.out.more (W1 := (w5.alloc _).drew) (((Below.refl _ _).alloc (Nat.le_refl _) _).drew) hgrow6 hown6⟩ | ((repeat apply Exists.intro); exact ⟨⟨k + 1, by omega, by go_num, by rw [HT.out], _, by rw [HT.out]; exact H5.out.more (W1 := (w5.alloc _).drew) (((Below.refl _ _).alloc (Nat.le_refl _) _).drew) hgrow6 hown6⟩, rfl⟩)
        · -- here
          have hT : insF (x, y, z) (old.take (k + 1)) = (L ++ [(x, y, z)] ++ [(p, q, r)], true) := by rw [hsn]; simp [insS, hbe, hb]
          have HT := Lib.hid hT
          rw [hb] at hll
          have HLL := Lib.hid hll
          clear hT hsn hll hbe hb hlk
          go_wp2
          refine wp_region_below (by kernel_rfl) (by kernel_rfl) ?_
          repeat (go_big_quiet_step ((intro hw; first | with_reducible rfl | (obtain ⟨f0, f1, f2, g0, c0, c1, c2⟩ := FF.out _ hw; simp only [f0, f1, f2, g0, c0, c1, c2, Result.andThen]; first | exact ⟨trivial, rfl⟩ | exact ⟨rfl, rfl⟩) | (go_at_call 124; exact quietB (HLL.out _) hw))))
          refine wpQuiet_nil ?_
          intro w5 hw5
          have H5 := Lib.hid (HP.out.below hw5)
          obtain ⟨-, kx1, -, kx3, kx4⟩ := H5.out.box.cells
          obtain ⟨-, ko1, -, -, ko4⟩ := H5.out.obox.cells
          have ke0 := H5.out.e0
          have ke1 := H5.out.e1
          have ke2 := H5.out.e2
          obtain ⟨kc0, kc1, kc2⟩ := H5.out.cell3 hlt HD.out
          have hsz5 : w2.heap.size + 1 ≤ w5.heap.size := Nat.le_of_lt (Nat.lt_of_succ_lt H5.out.box.cells.2.2.2.2)
          go_wp2_with (at_builtin; refine wpList_append_own _ rfl (.tmp 38) (.tmp 40) 23 rfl (w2.heap.size + 1) 36 i0 (.agg #[.int .i64 0, .int .i64 0, .int .i64 0]) 3 24 Try.underlying23 hi hz0 hz1 hz2 rfl (by decide) _ _ _ rfl (H5.out.own.alloc _) ⟨w5.heap.size, 0, none⟩ 1 1 [.int .i64 x, .int .i64 y, .int .i64 z] rfl rfl ?c1 (by simp [Value.oneCell']) ?c3 ?c4 ?c5 ?_)
          case c1 => exact cells_new3 w5 _ _ _ _
          case c3 => unfold maxLen; omega
          case c4 => omega
          case c5 => simp; omega
          intro v6 w6 hown6 hgrow6 _
          obtain ⟨va6, vc6, rfl⟩ := own_slice hown6
          have H7 := Lib.hid (H5.out.more (W1 := w5.alloc _) (d := (x, y, z)) ((Below.refl _ _).alloc (Nat.le_refl _) _) hgrow6 hown6)
          have HX7 := H5.out.grow ((Below.refl _ _).alloc (Nat.le_refl _) _) hgrow6
          obtain ⟨-, y1, -, y3, -⟩ := HX7.cells
          clear HX7 hown6 hgrow6 kx1 kx3 kx4 ko4 ko1 ke0 ke1 ke2 kc0 kc1 kc2
          go_wp2
          generalize (w6.setCell ⟨w2.heap.size + 1 + 1, 1, none⟩ (Value.slice va6 (L.length + 1) vc6)) = w7 at H7 ⊢
          clear y1 y3
          obtain ⟨-, mx1, -, mx3, mx4⟩ := H7.out.box.cells
          obtain ⟨-, mo1, -, -, mo4⟩ := H7.out.obox.cells
          have me0 := H7.out.e0
          have me1 := H7.out.e1
          have me2 := H7.out.e2
          obtain ⟨mc0, mc1, mc2⟩ := H7.out.cell3 hlt HD.out
          have hll7 : (L ++ [(x, y, z)]).length = L.length + 1 := by simp
          have ho7 : w7.ownsRow (w2.heap.size + 1) 36 3 (Value.slice va6 (L.length + 1) vc6) (L.length + 1) (cellsE (L ++ [(x, y, z)])) := by have := H7.out.own; rw [hll7] at this; exact this
          have HO7 := Lib.hid ho7
          have HL7 := Lib.hid hll7
          clear hll7 ho7
          have hxg : ∀ A w6, World.grownBy ((w7.alloc A).drew) w6 (Value.slice va6 (L.length + 1) vc6).ownBlock → BoxG w6 (w2.heap.size + 1 + 1) 25 n ((Value.slice va6 (L.length + 1) vc6)) := fun A w6 h => H7.out.grow (((Below.refl _ _).alloc (Nat.le_refl _) _).drew) h
          have HXG := Lib.hid hxg
          have hsz5 : w2.heap.size + 1 ≤ w7.heap.size := Nat.le_of_lt (Nat.lt_of_succ_lt H7.out.box.cells.2.2.2.2)
          clear hxg
          go_region_law (first | (refine step_append_own rfl (.tmp 44) (.tmp 50) 23 rfl (w2.heap.size + 1) 36 i0 (.agg #[.int .i64 0, .int .i64 0, .int .i64 0]) 3 24 Try.underlying23 hi hz0 hz1 hz2 rfl (by decide) _ _ _ rfl (own_drew (HO7.out.alloc _)) ⟨w7.heap.size, 0, none⟩ 1 1 [.int .i64 p, .int .i64 q, .int .i64 r] rfl rfl (cells_new3 _ _ _ _ _) (by simp [Value.oneCell']) (by unfold maxLen; first | omega | (simp; omega)) (by first | omega | (simp; omega)) (by first | omega | (simp; omega)) ?_; intro v6 w6 hown6 hgrow6; obtain ⟨va, vc, rfl⟩ := own_slice hown6; have HX6 := Lib.hid (HXG.out _ _ hgrow6); obtain ⟨-, y1, -, y3, -⟩ := HX6.out.cells))
          all_goals go_wp2
          all_goals go_roundw
          all_goals first | (simp [intOf]; omega) | exact ⟨k + 1, by omega, by go_num, by rw [HT.out], _, by rw [HT.out]; exact H7.out.more (W1 := (w7.alloc _).drew) (((Below.refl _ _).alloc (Nat.le_refl _) _).drew) hgrow6 (by rw [HL7.out]; exact hown6)⟩ | ((repeat apply Exists.intro); exact ⟨⟨k + 1, by omega, by go_num, by rw [HT.out], _, by rw [HT.out]; exact H7.out.more (W1 := (w7.alloc _).drew) (((Below.refl _ _).alloc (Nat.le_refl _) _).drew) hgrow6 (by rw [HL7.out]; exact hown6)⟩, rfl⟩)
      · -- done already
        have hT : insF (x, y, z) (old.take (k + 1)) = (L ++ [(p, q, r)], true) := by rw [hsn]; simp [insS]
        have HT := Lib.hid hT
        clear hT hsn hll hbe
        go_wp2
        refine wp_region_below (by kernel_rfl) (by kernel_rfl) ?_
        repeat (go_big_quiet_step ((intro hw; with_reducible rfl)))
        refine wpQuiet_nil ?_
        intro w5 hw5
        have H5 := Lib.hid (HP.out.below hw5)
        obtain ⟨-, kx1, -, kx3, kx4⟩ := H5.out.box.cells
        obtain ⟨-, ko1, -, -, ko4⟩ := H5.out.obox.cells
        have ke0 := H5.out.e0
        have ke1 := H5.out.e1
        have ke2 := H5.out.e2
        obtain ⟨kc0, kc1, kc2⟩ := H5.out.cell3 hlt HD.out
        go_wp2
        have hxg : ∀ A w6, World.grownBy ((w5.alloc A).drew) w6 v.ownBlock → BoxG w6 (w2.heap.size + 1 + 1) 25 n (v) := fun A w6 h => H5.out.grow (((Below.refl _ _).alloc (Nat.le_refl _) _).drew) h
        have HXG := Lib.hid hxg
        have hsz5 : w2.heap.size + 1 ≤ w5.heap.size := Nat.le_of_lt (Nat.lt_of_succ_lt H5.out.box.cells.2.2.2.2)
        clear hxg
        go_region_law (first | (refine step_append_own rfl (.tmp 44) (.tmp 50) 23 rfl (w2.heap.size + 1) 36 i0 (.agg #[.int .i64 0, .int .i64 0, .int .i64 0]) 3 24 Try.underlying23 hi hz0 hz1 hz2 rfl (by decide) _ _ _ rfl (own_drew (H5.out.own.alloc _)) ⟨w5.heap.size, 0, none⟩ 1 1 [.int .i64 p, .int .i64 q, .int .i64 r] rfl rfl (cells_new3 _ _ _ _ _) (by simp [Value.oneCell']) (by unfold maxLen; first | omega | (simp; omega)) (by first | omega | (simp; omega)) (by first | omega | (simp; omega)) ?_; intro v6 w6 hown6 hgrow6; obtain ⟨va, vc, rfl⟩ := own_slice hown6; have HX6 := Lib.hid (HXG.out _ _ hgrow6); obtain ⟨-, y1, -, y3, -⟩ := HX6.out.cells))
        all_goals go_wp2
        all_goals go_roundw
        all_goals first | (simp [intOf]; omega) | exact ⟨k + 1, by omega, by go_num, by rw [HT.out], _, by rw [HT.out]; exact H5.out.more (W1 := (w5.alloc _).drew) (((Below.refl _ _).alloc (Nat.le_refl _) _).drew) hgrow6 hown6⟩ | ((repeat apply Exists.intro); exact ⟨⟨k + 1, by omega, by go_num, by rw [HT.out], _, by rw [HT.out]; exact H5.out.more (W1 := (w5.alloc _).drew) (((Below.refl _ _).alloc (Nat.le_refl _) _).drew) hgrow6 hown6⟩, rfl⟩)

    · have hke : k = old.length := by omega
      have hkk : ¬ ((k : Int) < old.length) := by omega
      have htk : old.take k = old := by rw [hke, List.take_length]
      rw [htk] at HP hlk ⊢
      have hins : insL (x, y, z) old = if (insF (x, y, z) old).2 = true then (insF (x, y, z) old).1 else (insF (x, y, z) old).1 ++ [(x, y, z)] := rfl
      have HIN := Lib.hid hins
      clear hins htk hke
      generalize insF (x, y, z) old = st at HP hlk HIN ⊢
      obtain ⟨L, dn⟩ := st
      simp only at HP hlk HIN
      obtain ⟨hi, hz0, hz1, hz2⟩ := HI.out
      have hsz5 : w2.heap.size + 1 ≤ wr.heap.size := Nat.le_of_lt (Nat.lt_of_succ_lt HP.out.box.cells.2.2.2.2)
      obtain ⟨-, kx1, -, kx3, kx4⟩ := HP.out.box.cells
      have ke0 := HP.out.e0
      have ke1 := HP.out.e1
      have ke2 := HP.out.e2
      have ko1 := HP.out.obox.cells.2.1
      cases dn
      · have hlk2 := hlk.2 rfl
        have hI : insL (x, y, z) old = L ++ [(x, y, z)] := by rw [HIN.out]; rfl
        have HII := Lib.hid hI
        clear hI hlk
        go_wp2_with (at_builtin; refine wpList_append_own _ rfl (.tmp 56) (.tmp 58) 23 rfl (w2.heap.size + 1) 36 i0 (.agg #[.int .i64 0, .int .i64 0, .int .i64 0]) 3 24 Try.underlying23 hi hz0 hz1 hz2 rfl (by decide) _ _ _ rfl (HP.out.own.alloc _) ⟨wr.heap.size, 0, none⟩ 1 1 [.int .i64 x, .int .i64 y, .int .i64 z] rfl rfl ?c1 (by simp [Value.oneCell']) ?c3 ?c4 ?c5 ?_)
        case c3 => unfold maxLen; omega
        case c4 => omega
        case c5 => first | omega | (simp; omega)
        intro v6 w6 hown6 hgrow6 _
        obtain ⟨va6, vc6, rfl⟩ := own_slice hown6
        have H7 := Lib.hid (HP.out.more (W1 := wr.alloc _) (d := (x, y, z)) ((Below.refl _ _).alloc (Nat.le_refl _) _) hgrow6 hown6)
        have HX7 := HP.out.grow ((Below.refl _ _).alloc (Nat.le_refl _) _) hgrow6
        obtain ⟨y0, y1, y2, y3, y4⟩ := HX7.cells
        have rr := H7.out.rbox.cells
        have hr6 := HP.out.rgrow ((Below.refl _ _).alloc (Nat.le_refl _) _) hgrow6
        obtain ⟨r0, r1, r2, r3, r4⟩ := hr6.cells
        have hne : w0.heap.size + 1 + 1 ≠ w2.heap.size + 1 + 1 := by omega
        clear HX7 rr hgrow6
        go_wp2
        try simp only [Exit.inBlock, Exit.then]
        refine bodyPost_ret (v := .agg #[.int .i64 n, .slice va6 (L.length + 1) vc6]) ?_ rfl ?_
        · rw [results_cell1 rfl]
          go_simp
        have hll7 : (L ++ [(x, y, z)]).length = L.length + 1 := by simp
        have ho7 := H7.out.own
        rw [HII.out]
        refine ⟨_, rfl, OwnE.of (base := w2.heap.size + 1) (by have := own_setCell (o := 1) (v' := .slice va6 (L.length + 1) vc6) (H7.out.rbox.set0 n) (own_setCell (o := 0) (v' := .int .i64 n) H7.out.rbox ho7 (by decide)) (by decide); exact this) (by omega), own_ok ho7, (H7.out.bel.setCell (by simp only; omega) _).setCell (by simp only; omega) _⟩
      · have hI : insL (x, y, z) old = L := by rw [HIN.out]; rfl
        have HII := Lib.hid hI
        clear hI hlk
        obtain ⟨va, vc, rfl⟩ := own_slice HP.out.own
        have HPP := HP.out
        have kx0 := HPP.box.cells.1
        obtain ⟨r0, r1, r2, r3, r4⟩ := HPP.rbox.cells
        clear HPP
        go_wp2
        try simp only [Exit.inBlock, Exit.then]
        refine bodyPost_ret (v := .agg #[.int .i64 n, .slice va L.length vc]) ?_ rfl ?_
        · rw [results_cell1 rfl]
          go_simp
        rw [HII.out]
        exact ⟨_, rfl, OwnE.of (own_setCell (HP.out.rbox.set0 n) (own_setCell HP.out.rbox HP.out.own (by decide)) (by decide)) (by omega), own_ok HP.out.own, (HP.out.bel.setCell (by simp only; omega) _).setCell (by simp only; omega) _⟩
end Go.Proofs.Ytjcfefpcilhelaa
namespace Go.Proofs.Ytjcfefpcilhelaa
open Go.RowKit Go.BigFrame Go.Deep
set_option linter.unusedVariables false
set_option linter.unusedSimpArgs false

theorem putB_val {n : Int} {es : List Ed} (hg : gVal n es = true) (e : Ed) : putB n es e = gVal n (pL es e) := by
  rw [gVal_put hg]; unfold putB; rw [hg, Bool.true_and]
theorem pL_len (es : List Ed) (e : Ed) : (pL es e).length ≤ es.length + 1 := by
  unfold pL
  rw [List.length_append, List.length_cons, List.length_take, List.length_drop]
  omega

set_option maxRecDepth 100000 in
set_option maxHeartbeats 1000000 in
theorem sPutEdge (n : Int) (es : List Ed) (x y z : Int) (s : Value) (w : World) (hs : RowE w s es) (hl : es.length ≤ 1048576) :
    Calls Try.prog 125 #[.agg #[.int .i64 n, s], .agg #[.int .i64 x, .int .i64 y, .int .i64 z]] w fun e w' => ∃ v, e = .returned (.tuple #[.agg #[.int .i64 (putN n es (x, y, z)), v], .bool (putB n es (x, y, z))]) ∧ OwnE w w' v (putL n es (x, y, z)) ∧ okS v ∧ Below w.heap.size w w' := by
  have hl2 : es.length ≤ 281474976710656 := by omega
  obtain ⟨ad, cap, hs0, hz0⟩ := id hs
  subst hs0
  have hgv := fun w h => sGraphValid n es (.slice ad es.length cap) w h hl2
  have hlp := fun w h => l2Put n es x y z (.slice ad es.length cap) w h hl
  have R := Lib.hid (InR.of_edges hs)
  clear hz0 hs
  cases hg : gVal n es
  · have e0 : putB n es (x, y, z) = false := by unfold putB; rw [hg]; rfl
    have e1 : putN n es (x, y, z) = 0 := by unfold putN; rw [e0]; rfl
    have e2 : putL n es (x, y, z) = [] := by unfold putL; rw [e0]; rfl
    rw [e0, e1, e2]
    rw [hg] at hgv
    have HV := Lib.hid hgv
    clear hgv e0 e1 e2 hlp
    obtain ⟨w0, hw0⟩ : ∃ w0, w0 = w := ⟨_, rfl⟩
    subst hw0
    have H0 := Below.refl w0.heap.size w0
    have R_0 := R
    clear R
    go_enter Try.func125, Try.ntmps125
    go_wp2_with fail
    have hb1 : Below w0.heap.size w0 (((w0.alloc (.cells #[.int .i64 n, .slice ad es.length cap] 25)).alloc (.cells #[.int .i64 x, .int .i64 y, .int .i64 z] 36)).alloc (.cells #[.int .i64 0, .slice none 0 0] 25)) := (((Below.refl _ _).alloc (by simp <;> omega) _).alloc (by simp <;> omega) _).alloc (by simp <;> omega) _
    have H1 := bel_trans H0 hb1
    have SZ1 := Lib.hid hb1.size
    have R_1 := Lib.hid (R_0.out.keep hb1)
    have qg0_1 : (((w0.alloc (.cells #[.int .i64 n, .slice ad es.length cap] 25)).alloc (.cells #[.int .i64 x, .int .i64 y, .int .i64 z] 36)).alloc (.cells #[.int .i64 0, .slice none 0 0] 25)).cell? ⟨w0.heap.size, 0, none⟩ = some (.int .i64 n) := by go_simp
    have qg1_1 : (((w0.alloc (.cells #[.int .i64 n, .slice ad es.length cap] 25)).alloc (.cells #[.int .i64 x, .int .i64 y, .int .i64 z] 36)).alloc (.cells #[.int .i64 0, .slice none 0 0] 25)).cell? ⟨w0.heap.size, 1, none⟩ = some (.slice ad es.length cap) := by go_simp
    have zg_1 : w0.heap.size < (((w0.alloc (.cells #[.int .i64 n, .slice ad es.length cap] 25)).alloc (.cells #[.int .i64 x, .int .i64 y, .int .i64 z] 36)).alloc (.cells #[.int .i64 0, .slice none 0 0] 25)).heap.size := by simp <;> omega
    have qe0_1 : (((w0.alloc (.cells #[.int .i64 n, .slice ad es.length cap] 25)).alloc (.cells #[.int .i64 x, .int .i64 y, .int .i64 z] 36)).alloc (.cells #[.int .i64 0, .slice none 0 0] 25)).cell? ⟨w0.heap.size + 1, 0, none⟩ = some (.int .i64 x) := by go_simp
    have qe1_1 : (((w0.alloc (.cells #[.int .i64 n, .slice ad es.length cap] 25)).alloc (.cells #[.int .i64 x, .int .i64 y, .int .i64 z] 36)).alloc (.cells #[.int .i64 0, .slice none 0 0] 25)).cell? ⟨w0.heap.size + 1, 1, none⟩ = some (.int .i64 y) := by go_simp
    have qe2_1 : (((w0.alloc (.cells #[.int .i64 n, .slice ad es.length cap] 25)).alloc (.cells #[.int .i64 x, .int .i64 y, .int .i64 z] 36)).alloc (.cells #[.int .i64 0, .slice none 0 0] 25)).cell? ⟨w0.heap.size + 1, 2, none⟩ = some (.int .i64 z) := by go_simp
    have ze_1 : w0.heap.size + 1 < (((w0.alloc (.cells #[.int .i64 n, .slice ad es.length cap] 25)).alloc (.cells #[.int .i64 x, .int .i64 y, .int .i64 z] 36)).alloc (.cells #[.int .i64 0, .slice none 0 0] 25)).heap.size := by simp <;> omega
    have frr0_1 : (((w0.alloc (.cells #[.int .i64 n, .slice ad es.length cap] 25)).alloc (.cells #[.int .i64 x, .int .i64 y, .int .i64 z] 36)).alloc (.cells #[.int .i64 0, .slice none 0 0] 25)).frozen? ⟨w0.heap.size + 1 + 1, 0, none⟩ = false := by go_simp
    have frr1_1 : (((w0.alloc (.cells #[.int .i64 n, .slice ad es.length cap] 25)).alloc (.cells #[.int .i64 x, .int .i64 y, .int .i64 z] 36)).alloc (.cells #[.int .i64 0, .slice none 0 0] 25)).frozen? ⟨w0.heap.size + 1 + 1, 1, none⟩ = false := by go_simp
    have qr0_1 : (((w0.alloc (.cells #[.int .i64 n, .slice ad es.length cap] 25)).alloc (.cells #[.int .i64 x, .int .i64 y, .int .i64 z] 36)).alloc (.cells #[.int .i64 0, .slice none 0 0] 25)).cell? ⟨w0.heap.size + 1 + 1, 0, none⟩ = some (.int .i64 0) := by go_simp
    have qr1_1 : (((w0.alloc (.cells #[.int .i64 n, .slice ad es.length cap] 25)).alloc (.cells #[.int .i64 x, .int .i64 y, .int .i64 z] 36)).alloc (.cells #[.int .i64 0, .slice none 0 0] 25)).cell? ⟨w0.heap.size + 1 + 1, 1, none⟩ = some (.slice none 0 0) := by go_simp
    have zr_1 : w0.heap.size + 1 + 1 < (((w0.alloc (.cells #[.int .i64 n, .slice ad es.length cap] 25)).alloc (.cells #[.int .i64 x, .int .i64 y, .int .i64 z] 36)).alloc (.cells #[.int .i64 0, .slice none 0 0] 25)).heap.size := by simp <;> omega
    generalize (((w0.alloc (.cells #[.int .i64 n, .slice ad es.length cap] 25)).alloc (.cells #[.int .i64 x, .int .i64 y, .int .i64 z] 36)).alloc (.cells #[.int .i64 0, .slice none 0 0] 25)) = w1 at hb1 H1 SZ1 R_1 frr0_1 frr1_1 qe0_1 qe1_1 qe2_1 qg0_1 qg1_1 qr0_1 qr1_1 ze_1 zg_1 zr_1 ⊢
    have ZBg := Lib.hid zg_1
    have ZBe := Lib.hid ze_1
    have ZBr := Lib.hid zr_1
    clear R_0
    refine (HV.out _ R_1.out.edges).mono ?_
    rintro e w2 ⟨rfl, hb2⟩
    have H2 := bel_trans H1 hb2
    have SZ2 := Lib.hid hb2.size
    have qg0_2 := (hb2.cell (p := ⟨w0.heap.size, 0, none⟩) zg_1).trans qg0_1
    have qg1_2 := (hb2.cell (p := ⟨w0.heap.size, 1, none⟩) zg_1).trans qg1_1
    have zg_2 := Nat.lt_of_lt_of_le zg_1 hb2.size
    have qe0_2 := (hb2.cell (p := ⟨w0.heap.size + 1, 0, none⟩) ze_1).trans qe0_1
    have qe1_2 := (hb2.cell (p := ⟨w0.heap.size + 1, 1, none⟩) ze_1).trans qe1_1
    have qe2_2 := (hb2.cell (p := ⟨w0.heap.size + 1, 2, none⟩) ze_1).trans qe2_1
    have ze_2 := Nat.lt_of_lt_of_le ze_1 hb2.size
    have qr0_2 := (hb2.cell (p := ⟨w0.heap.size + 1 + 1, 0, none⟩) zr_1).trans qr0_1
    have frr0_2 := (hb2.frozen (p := ⟨w0.heap.size + 1 + 1, 0, none⟩) zr_1).trans frr0_1
    have qr1_2 := (hb2.cell (p := ⟨w0.heap.size + 1 + 1, 1, none⟩) zr_1).trans qr1_1
    have frr1_2 := (hb2.frozen (p := ⟨w0.heap.size + 1 + 1, 1, none⟩) zr_1).trans frr1_1
    have zr_2 := Nat.lt_of_lt_of_le zr_1 hb2.size
    have R_2 := Lib.hid (R_1.out.keep hb2)
    clear R_1 qg0_1 qg1_1 zg_1 qe0_1 qe1_1 qe2_1 ze_1 frr0_1 frr1_1 qr0_1 qr1_1 zr_1
    go_wp2
    try simp only [Exit.inBlock, Exit.then]
    refine bodyPost_ret (v := .tuple #[.agg #[.int .i64 0, .slice none 0 0], .bool false]) ?_ rfl ?_
    · rw [results_cell_tmp rfl]
      go_simp
    exact ⟨_, rfl, ownE_nil _ _, okS_nil, (H2.setCell (by have := ZBr.out; simp only; omega) _).setCell (by have := ZBr.out; simp only; omega) _⟩
  rw [hg] at hgv
  have HV := Lib.hid hgv
  have hpl := pL_len es (x, y, z)
  have hv := putB_val hg (x, y, z)
  rw [insL_val hg (x, y, z)] at hlp
  have e1 : putN n es (x, y, z) = if gVal n (pL es (x, y, z)) = true then n else 0 := by unfold putN; rw [hv]
  have e2 : putL n es (x, y, z) = if gVal n (pL es (x, y, z)) = true then pL es (x, y, z) else [] := by unfold putL; rw [hv]
  rw [hv, e1, e2]
  generalize pL es (x, y, z) = L at hlp hpl ⊢
  have HP := Lib.hid hlp
  have hg2 := fun w s h => sGraphValid n L s w h (by omega)
  clear hgv hv e1 e2 hlp
  cases hb : gVal n L
  · rw [hb] at hg2
    have HW := Lib.hid hg2
    clear hg2
    rw [if_neg (by simp), if_neg (by simp)]
    obtain ⟨w0, hw0⟩ : ∃ w0, w0 = w := ⟨_, rfl⟩
    subst hw0
    have H0 := Below.refl w0.heap.size w0
    have R_0 := R
    clear R
    go_enter Try.func125, Try.ntmps125
    go_wp2_with fail
    have hb1 : Below w0.heap.size w0 (((w0.alloc (.cells #[.int .i64 n, .slice ad es.length cap] 25)).alloc (.cells #[.int .i64 x, .int .i64 y, .int .i64 z] 36)).alloc (.cells #[.int .i64 0, .slice none 0 0] 25)) := (((Below.refl _ _).alloc (by simp <;> omega) _).alloc (by simp <;> omega) _).alloc (by simp <;> omega) _
    have H1 := bel_trans H0 hb1
    have SZ1 := Lib.hid hb1.size
    have R_1 := Lib.hid (R_0.out.keep hb1)
    have qg0_1 : (((w0.alloc (.cells #[.int .i64 n, .slice ad es.length cap] 25)).alloc (.cells #[.int .i64 x, .int .i64 y, .int .i64 z] 36)).alloc (.cells #[.int .i64 0, .slice none 0 0] 25)).cell? ⟨w0.heap.size, 0, none⟩ = some (.int .i64 n) := by go_simp
    have qg1_1 : (((w0.alloc (.cells #[.int .i64 n, .slice ad es.length cap] 25)).alloc (.cells #[.int .i64 x, .int .i64 y, .int .i64 z] 36)).alloc (.cells #[.int .i64 0, .slice none 0 0] 25)).cell? ⟨w0.heap.size, 1, none⟩ = some (.slice ad es.length cap) := by go_simp
    have zg_1 : w0.heap.size < (((w0.alloc (.cells #[.int .i64 n, .slice ad es.length cap] 25)).alloc (.cells #[.int .i64 x, .int .i64 y, .int .i64 z] 36)).alloc (.cells #[.int .i64 0, .slice none 0 0] 25)).heap.size := by simp <;> omega
    have qe0_1 : (((w0.alloc (.cells #[.int .i64 n, .slice ad es.length cap] 25)).alloc (.cells #[.int .i64 x, .int .i64 y, .int .i64 z] 36)).alloc (.cells #[.int .i64 0, .slice none 0 0] 25)).cell? ⟨w0.heap.size + 1, 0, none⟩ = some (.int .i64 x) := by go_simp
    have qe1_1 : (((w0.alloc (.cells #[.int .i64 n, .slice ad es.length cap] 25)).alloc (.cells #[.int .i64 x, .int .i64 y, .int .i64 z] 36)).alloc (.cells #[.int .i64 0, .slice none 0 0] 25)).cell? ⟨w0.heap.size + 1, 1, none⟩ = some (.int .i64 y) := by go_simp
    have qe2_1 : (((w0.alloc (.cells #[.int .i64 n, .slice ad es.length cap] 25)).alloc (.cells #[.int .i64 x, .int .i64 y, .int .i64 z] 36)).alloc (.cells #[.int .i64 0, .slice none 0 0] 25)).cell? ⟨w0.heap.size + 1, 2, none⟩ = some (.int .i64 z) := by go_simp
    have ze_1 : w0.heap.size + 1 < (((w0.alloc (.cells #[.int .i64 n, .slice ad es.length cap] 25)).alloc (.cells #[.int .i64 x, .int .i64 y, .int .i64 z] 36)).alloc (.cells #[.int .i64 0, .slice none 0 0] 25)).heap.size := by simp <;> omega
    have frr0_1 : (((w0.alloc (.cells #[.int .i64 n, .slice ad es.length cap] 25)).alloc (.cells #[.int .i64 x, .int .i64 y, .int .i64 z] 36)).alloc (.cells #[.int .i64 0, .slice none 0 0] 25)).frozen? ⟨w0.heap.size + 1 + 1, 0, none⟩ = false := by go_simp
    have frr1_1 : (((w0.alloc (.cells #[.int .i64 n, .slice ad es.length cap] 25)).alloc (.cells #[.int .i64 x, .int .i64 y, .int .i64 z] 36)).alloc (.cells #[.int .i64 0, .slice none 0 0] 25)).frozen? ⟨w0.heap.size + 1 + 1, 1, none⟩ = false := by go_simp
    have qr0_1 : (((w0.alloc (.cells #[.int .i64 n, .slice ad es.length cap] 25)).alloc (.cells #[.int .i64 x, .int .i64 y, .int .i64 z] 36)).alloc (.cells #[.int .i64 0, .slice none 0 0] 25)).cell? ⟨w0.heap.size + 1 + 1, 0, none⟩ = some (.int .i64 0) := by go_simp
    have qr1_1 : (((w0.alloc (.cells #[.int .i64 n, .slice ad es.length cap] 25)).alloc (.cells #[.int .i64 x, .int .i64 y, .int .i64 z] 36)).alloc (.cells #[.int .i64 0, .slice none 0 0] 25)).cell? ⟨w0.heap.size + 1 + 1, 1, none⟩ = some (.slice none 0 0) := by go_simp
    have zr_1 : w0.heap.size + 1 + 1 < (((w0.alloc (.cells #[.int .i64 n, .slice ad es.length cap] 25)).alloc (.cells #[.int .i64 x, .int .i64 y, .int .i64 z] 36)).alloc (.cells #[.int .i64 0, .slice none 0 0] 25)).heap.size := by simp <;> omega
    generalize (((w0.alloc (.cells #[.int .i64 n, .slice ad es.length cap] 25)).alloc (.cells #[.int .i64 x, .int .i64 y, .int .i64 z] 36)).alloc (.cells #[.int .i64 0, .slice none 0 0] 25)) = w1 at hb1 H1 SZ1 R_1 frr0_1 frr1_1 qe0_1 qe1_1 qe2_1 qg0_1 qg1_1 qr0_1 qr1_1 ze_1 zg_1 zr_1 ⊢
    have ZBg := Lib.hid zg_1
    have ZBe := Lib.hid ze_1
    have ZBr := Lib.hid zr_1
    clear R_0
    refine (HV.out _ R_1.out.edges).mono ?_
    rintro e w2 ⟨rfl, hb2⟩
    have H2 := bel_trans H1 hb2
    have SZ2 := Lib.hid hb2.size
    have qg0_2 := (hb2.cell (p := ⟨w0.heap.size, 0, none⟩) zg_1).trans qg0_1
    have qg1_2 := (hb2.cell (p := ⟨w0.heap.size, 1, none⟩) zg_1).trans qg1_1
    have zg_2 := Nat.lt_of_lt_of_le zg_1 hb2.size
    have qe0_2 := (hb2.cell (p := ⟨w0.heap.size + 1, 0, none⟩) ze_1).trans qe0_1
    have qe1_2 := (hb2.cell (p := ⟨w0.heap.size + 1, 1, none⟩) ze_1).trans qe1_1
    have qe2_2 := (hb2.cell (p := ⟨w0.heap.size + 1, 2, none⟩) ze_1).trans qe2_1
    have ze_2 := Nat.lt_of_lt_of_le ze_1 hb2.size
    have qr0_2 := (hb2.cell (p := ⟨w0.heap.size + 1 + 1, 0, none⟩) zr_1).trans qr0_1
    have frr0_2 := (hb2.frozen (p := ⟨w0.heap.size + 1 + 1, 0, none⟩) zr_1).trans frr0_1
    have qr1_2 := (hb2.cell (p := ⟨w0.heap.size + 1 + 1, 1, none⟩) zr_1).trans qr1_1
    have frr1_2 := (hb2.frozen (p := ⟨w0.heap.size + 1 + 1, 1, none⟩) zr_1).trans frr1_1
    have zr_2 := Nat.lt_of_lt_of_le zr_1 hb2.size
    have R_2 := Lib.hid (R_1.out.keep hb2)
    clear R_1 qg0_1 qg1_1 zg_1 qe0_1 qe1_1 qe2_1 ze_1 frr0_1 frr1_1 qr0_1 qr1_1 zr_1
    go_wp2_with fail
    refine (HP.out _ R_2.out.edges).mono ?_
    rintro e w3 ⟨v, rfl, hown, hokv, hb3⟩
    have H3 := bel_trans H2 hb3
    have SZ3 := Lib.hid hb3.size
    have qg0_3 := (hb3.cell (p := ⟨w0.heap.size, 0, none⟩) zg_2).trans qg0_2
    have qg1_3 := (hb3.cell (p := ⟨w0.heap.size, 1, none⟩) zg_2).trans qg1_2
    have zg_3 := Nat.lt_of_lt_of_le zg_2 hb3.size
    have qe0_3 := (hb3.cell (p := ⟨w0.heap.size + 1, 0, none⟩) ze_2).trans qe0_2
    have qe1_3 := (hb3.cell (p := ⟨w0.heap.size + 1, 1, none⟩) ze_2).trans qe1_2
    have qe2_3 := (hb3.cell (p := ⟨w0.heap.size + 1, 2, none⟩) ze_2).trans qe2_2
    have ze_3 := Nat.lt_of_lt_of_le ze_2 hb3.size
    have qr0_3 := (hb3.cell (p := ⟨w0.heap.size + 1 + 1, 0, none⟩) zr_2).trans qr0_2
    have frr0_3 := (hb3.frozen (p := ⟨w0.heap.size + 1 + 1, 0, none⟩) zr_2).trans frr0_2
    have qr1_3 := (hb3.cell (p := ⟨w0.heap.size + 1 + 1, 1, none⟩) zr_2).trans qr1_2
    have frr1_3 := (hb3.frozen (p := ⟨w0.heap.size + 1 + 1, 1, none⟩) zr_2).trans frr1_2
    have zr_3 := Nat.lt_of_lt_of_le zr_2 hb3.size
    have R_3 := Lib.hid (R_2.out.keep hb3)
    obtain ⟨va, vc, rfl, hvz⟩ := id hown
    clear hvz
    have V_3 := Lib.hid (hown)
    clear qg0_2 qg1_2 zg_2 qe0_2 qe1_2 qe2_2 ze_2 qr0_2 frr0_2 qr1_2 frr1_2 zr_2 R_2
    clear hown
    go_wp2_with fail
    have hb4 : Below w3.heap.size w3 (w3.alloc (.cells #[.int .i64 n, .slice va L.length vc] 25)) := (Below.refl _ _).alloc (by simp <;> omega) _
    have H4 := bel_trans H3 hb4
    have SZ4 := Lib.hid hb4.size
    have qg0_4 := (hb4.cell (p := ⟨w0.heap.size, 0, none⟩) zg_3).trans qg0_3
    have qg1_4 := (hb4.cell (p := ⟨w0.heap.size, 1, none⟩) zg_3).trans qg1_3
    have zg_4 := Nat.lt_of_lt_of_le zg_3 hb4.size
    have qe0_4 := (hb4.cell (p := ⟨w0.heap.size + 1, 0, none⟩) ze_3).trans qe0_3
    have qe1_4 := (hb4.cell (p := ⟨w0.heap.size + 1, 1, none⟩) ze_3).trans qe1_3
    have qe2_4 := (hb4.cell (p := ⟨w0.heap.size + 1, 2, none⟩) ze_3).trans qe2_3
    have ze_4 := Nat.lt_of_lt_of_le ze_3 hb4.size
    have qr0_4 := (hb4.cell (p := ⟨w0.heap.size + 1 + 1, 0, none⟩) zr_3).trans qr0_3
    have frr0_4 := (hb4.frozen (p := ⟨w0.heap.size + 1 + 1, 0, none⟩) zr_3).trans frr0_3
    have qr1_4 := (hb4.cell (p := ⟨w0.heap.size + 1 + 1, 1, none⟩) zr_3).trans qr1_3
    have frr1_4 := (hb4.frozen (p := ⟨w0.heap.size + 1 + 1, 1, none⟩) zr_3).trans frr1_3
    have zr_4 := Nat.lt_of_lt_of_le zr_3 hb4.size
    have R_4 := Lib.hid (R_3.out.keep hb4)
    have V_4 := Lib.hid (V_3.out.keep hb4)
    have qo0_4 : (w3.alloc (.cells #[.int .i64 n, .slice va L.length vc] 25)).cell? ⟨w3.heap.size, 0, none⟩ = some (.int .i64 n) := by go_simp
    have qo1_4 : (w3.alloc (.cells #[.int .i64 n, .slice va L.length vc] 25)).cell? ⟨w3.heap.size, 1, none⟩ = some (.slice va L.length vc) := by go_simp
    have zo_4 : w3.heap.size < (w3.alloc (.cells #[.int .i64 n, .slice va L.length vc] 25)).heap.size := by simp <;> omega
    generalize (w3.alloc (.cells #[.int .i64 n, .slice va L.length vc] 25)) = w4 at hb4 H4 SZ4 R_4 V_4 frr0_4 frr1_4 qe0_4 qe1_4 qe2_4 qg0_4 qg1_4 qo0_4 qo1_4 qr0_4 qr1_4 ze_4 zg_4 zo_4 zr_4 ⊢
    have ZBo := Lib.hid zo_4
    clear qg0_3 qg1_3 zg_3 qe0_3 qe1_3 qe2_3 ze_3 qr0_3 frr0_3 qr1_3 frr1_3 zr_3 R_3 V_3
    refine (HW.out _ _ V_4.out.edges).mono ?_
    rintro e w5 ⟨rfl, hb5⟩
    have H5 := bel_trans H4 hb5
    have SZ5 := Lib.hid hb5.size
    have qg0_5 := (hb5.cell (p := ⟨w0.heap.size, 0, none⟩) zg_4).trans qg0_4
    have qg1_5 := (hb5.cell (p := ⟨w0.heap.size, 1, none⟩) zg_4).trans qg1_4
    have zg_5 := Nat.lt_of_lt_of_le zg_4 hb5.size
    have qe0_5 := (hb5.cell (p := ⟨w0.heap.size + 1, 0, none⟩) ze_4).trans qe0_4
    have qe1_5 := (hb5.cell (p := ⟨w0.heap.size + 1, 1, none⟩) ze_4).trans qe1_4
    have qe2_5 := (hb5.cell (p := ⟨w0.heap.size + 1, 2, none⟩) ze_4).trans qe2_4
    have ze_5 := Nat.lt_of_lt_of_le ze_4 hb5.size
    have qr0_5 := (hb5.cell (p := ⟨w0.heap.size + 1 + 1, 0, none⟩) zr_4).trans qr0_4
    have frr0_5 := (hb5.frozen (p := ⟨w0.heap.size + 1 + 1, 0, none⟩) zr_4).trans frr0_4
    have qr1_5 := (hb5.cell (p := ⟨w0.heap.size + 1 + 1, 1, none⟩) zr_4).trans qr1_4
    have frr1_5 := (hb5.frozen (p := ⟨w0.heap.size + 1 + 1, 1, none⟩) zr_4).trans frr1_4
    have zr_5 := Nat.lt_of_lt_of_le zr_4 hb5.size
    have qo0_5 := (hb5.cell (p := ⟨w3.heap.size, 0, none⟩) zo_4).trans qo0_4
    have qo1_5 := (hb5.cell (p := ⟨w3.heap.size, 1, none⟩) zo_4).trans qo1_4
    have zo_5 := Nat.lt_of_lt_of_le zo_4 hb5.size
    have R_5 := Lib.hid (R_4.out.keep hb5)
    have V_5 := Lib.hid (V_4.out.keep hb5)
    clear qg0_4 qg1_4 zg_4 qe0_4 qe1_4 qe2_4 ze_4 qr0_4 frr0_4 qr1_4 frr1_4 zr_4 R_4 V_4 qo0_4 qo1_4 zo_4
    go_wp2
    try simp only [Exit.inBlock, Exit.then]
    refine bodyPost_ret (v := .tuple #[.agg #[.int .i64 0, .slice none 0 0], .bool false]) ?_ rfl ?_
    · rw [results_cell_tmp rfl]
      go_simp
    exact ⟨_, rfl, ownE_nil _ _, okS_nil, (H5.setCell (by have := ZBr.out; simp only; omega) _).setCell (by have := ZBr.out; simp only; omega) _⟩
  · rw [hb] at hg2
    have HW := Lib.hid hg2
    clear hg2
    rw [if_pos rfl, if_pos rfl]
    obtain ⟨w0, hw0⟩ : ∃ w0, w0 = w := ⟨_, rfl⟩
    subst hw0
    have H0 := Below.refl w0.heap.size w0
    have R_0 := R
    clear R
    go_enter Try.func125, Try.ntmps125
    go_wp2_with fail
    have hb1 : Below w0.heap.size w0 (((w0.alloc (.cells #[.int .i64 n, .slice ad es.length cap] 25)).alloc (.cells #[.int .i64 x, .int .i64 y, .int .i64 z] 36)).alloc (.cells #[.int .i64 0, .slice none 0 0] 25)) := (((Below.refl _ _).alloc (by simp <;> omega) _).alloc (by simp <;> omega) _).alloc (by simp <;> omega) _
    have H1 := bel_trans H0 hb1
    have SZ1 := Lib.hid hb1.size
    have R_1 := Lib.hid (R_0.out.keep hb1)
    have qg0_1 : (((w0.alloc (.cells #[.int .i64 n, .slice ad es.length cap] 25)).alloc (.cells #[.int .i64 x, .int .i64 y, .int .i64 z] 36)).alloc (.cells #[.int .i64 0, .slice none 0 0] 25)).cell? ⟨w0.heap.size, 0, none⟩ = some (.int .i64 n) := by go_simp
    have qg1_1 : (((w0.alloc (.cells #[.int .i64 n, .slice ad es.length cap] 25)).alloc (.cells #[.int .i64 x, .int .i64 y, .int .i64 z] 36)).alloc (.cells #[.int .i64 0, .slice none 0 0] 25)).cell? ⟨w0.heap.size, 1, none⟩ = some (.slice ad es.length cap) := by go_simp
    have zg_1 : w0.heap.size < (((w0.alloc (.cells #[.int .i64 n, .slice ad es.length cap] 25)).alloc (.cells #[.int .i64 x, .int .i64 y, .int .i64 z] 36)).alloc (.cells #[.int .i64 0, .slice none 0 0] 25)).heap.size := by simp <;> omega
    have qe0_1 : (((w0.alloc (.cells #[.int .i64 n, .slice ad es.length cap] 25)).alloc (.cells #[.int .i64 x, .int .i64 y, .int .i64 z] 36)).alloc (.cells #[.int .i64 0, .slice none 0 0] 25)).cell? ⟨w0.heap.size + 1, 0, none⟩ = some (.int .i64 x) := by go_simp
    have qe1_1 : (((w0.alloc (.cells #[.int .i64 n, .slice ad es.length cap] 25)).alloc (.cells #[.int .i64 x, .int .i64 y, .int .i64 z] 36)).alloc (.cells #[.int .i64 0, .slice none 0 0] 25)).cell? ⟨w0.heap.size + 1, 1, none⟩ = some (.int .i64 y) := by go_simp
    have qe2_1 : (((w0.alloc (.cells #[.int .i64 n, .slice ad es.length cap] 25)).alloc (.cells #[.int .i64 x, .int .i64 y, .int .i64 z] 36)).alloc (.cells #[.int .i64 0, .slice none 0 0] 25)).cell? ⟨w0.heap.size + 1, 2, none⟩ = some (.int .i64 z) := by go_simp
    have ze_1 : w0.heap.size + 1 < (((w0.alloc (.cells #[.int .i64 n, .slice ad es.length cap] 25)).alloc (.cells #[.int .i64 x, .int .i64 y, .int .i64 z] 36)).alloc (.cells #[.int .i64 0, .slice none 0 0] 25)).heap.size := by simp <;> omega
    have frr0_1 : (((w0.alloc (.cells #[.int .i64 n, .slice ad es.length cap] 25)).alloc (.cells #[.int .i64 x, .int .i64 y, .int .i64 z] 36)).alloc (.cells #[.int .i64 0, .slice none 0 0] 25)).frozen? ⟨w0.heap.size + 1 + 1, 0, none⟩ = false := by go_simp
    have frr1_1 : (((w0.alloc (.cells #[.int .i64 n, .slice ad es.length cap] 25)).alloc (.cells #[.int .i64 x, .int .i64 y, .int .i64 z] 36)).alloc (.cells #[.int .i64 0, .slice none 0 0] 25)).frozen? ⟨w0.heap.size + 1 + 1, 1, none⟩ = false := by go_simp
    have qr0_1 : (((w0.alloc (.cells #[.int .i64 n, .slice ad es.length cap] 25)).alloc (.cells #[.int .i64 x, .int .i64 y, .int .i64 z] 36)).alloc (.cells #[.int .i64 0, .slice none 0 0] 25)).cell? ⟨w0.heap.size + 1 + 1, 0, none⟩ = some (.int .i64 0) := by go_simp
    have qr1_1 : (((w0.alloc (.cells #[.int .i64 n, .slice ad es.length cap] 25)).alloc (.cells #[.int .i64 x, .int .i64 y, .int .i64 z] 36)).alloc (.cells #[.int .i64 0, .slice none 0 0] 25)).cell? ⟨w0.heap.size + 1 + 1, 1, none⟩ = some (.slice none 0 0) := by go_simp
    have zr_1 : w0.heap.size + 1 + 1 < (((w0.alloc (.cells #[.int .i64 n, .slice ad es.length cap] 25)).alloc (.cells #[.int .i64 x, .int .i64 y, .int .i64 z] 36)).alloc (.cells #[.int .i64 0, .slice none 0 0] 25)).heap.size := by simp <;> omega
    generalize (((w0.alloc (.cells #[.int .i64 n, .slice ad es.length cap] 25)).alloc (.cells #[.int .i64 x, .int .i64 y, .int .i64 z] 36)).alloc (.cells #[.int .i64 0, .slice none 0 0] 25)) = w1 at hb1 H1 SZ1 R_1 frr0_1 frr1_1 qe0_1 qe1_1 qe2_1 qg0_1 qg1_1 qr0_1 qr1_1 ze_1 zg_1 zr_1 ⊢
    have ZBg := Lib.hid zg_1
    have ZBe := Lib.hid ze_1
    have ZBr := Lib.hid zr_1
    clear R_0
    refine (HV.out _ R_1.out.edges).mono ?_
    rintro e w2 ⟨rfl, hb2⟩
    have H2 := bel_trans H1 hb2
    have SZ2 := Lib.hid hb2.size
    have qg0_2 := (hb2.cell (p := ⟨w0.heap.size, 0, none⟩) zg_1).trans qg0_1
    have qg1_2 := (hb2.cell (p := ⟨w0.heap.size, 1, none⟩) zg_1).trans qg1_1
    have zg_2 := Nat.lt_of_lt_of_le zg_1 hb2.size
    have qe0_2 := (hb2.cell (p := ⟨w0.heap.size + 1, 0, none⟩) ze_1).trans qe0_1
    have qe1_2 := (hb2.cell (p := ⟨w0.heap.size + 1, 1, none⟩) ze_1).trans qe1_1
    have qe2_2 := (hb2.cell (p := ⟨w0.heap.size + 1, 2, none⟩) ze_1).trans qe2_1
    have ze_2 := Nat.lt_of_lt_of_le ze_1 hb2.size
    have qr0_2 := (hb2.cell (p := ⟨w0.heap.size + 1 + 1, 0, none⟩) zr_1).trans qr0_1
    have frr0_2 := (hb2.frozen (p := ⟨w0.heap.size + 1 + 1, 0, none⟩) zr_1).trans frr0_1
    have qr1_2 := (hb2.cell (p := ⟨w0.heap.size + 1 + 1, 1, none⟩) zr_1).trans qr1_1
    have frr1_2 := (hb2.frozen (p := ⟨w0.heap.size + 1 + 1, 1, none⟩) zr_1).trans frr1_1
    have zr_2 := Nat.lt_of_lt_of_le zr_1 hb2.size
    have R_2 := Lib.hid (R_1.out.keep hb2)
    clear R_1 qg0_1 qg1_1 zg_1 qe0_1 qe1_1 qe2_1 ze_1 frr0_1 frr1_1 qr0_1 qr1_1 zr_1
    go_wp2_with fail
    refine (HP.out _ R_2.out.edges).mono ?_
    rintro e w3 ⟨v, rfl, hown, hokv, hb3⟩
    have H3 := bel_trans H2 hb3
    have SZ3 := Lib.hid hb3.size
    have qg0_3 := (hb3.cell (p := ⟨w0.heap.size, 0, none⟩) zg_2).trans qg0_2
    have qg1_3 := (hb3.cell (p := ⟨w0.heap.size, 1, none⟩) zg_2).trans qg1_2
    have zg_3 := Nat.lt_of_lt_of_le zg_2 hb3.size
    have qe0_3 := (hb3.cell (p := ⟨w0.heap.size + 1, 0, none⟩) ze_2).trans qe0_2
    have qe1_3 := (hb3.cell (p := ⟨w0.heap.size + 1, 1, none⟩) ze_2).trans qe1_2
    have qe2_3 := (hb3.cell (p := ⟨w0.heap.size + 1, 2, none⟩) ze_2).trans qe2_2
    have ze_3 := Nat.lt_of_lt_of_le ze_2 hb3.size
    have qr0_3 := (hb3.cell (p := ⟨w0.heap.size + 1 + 1, 0, none⟩) zr_2).trans qr0_2
    have frr0_3 := (hb3.frozen (p := ⟨w0.heap.size + 1 + 1, 0, none⟩) zr_2).trans frr0_2
    have qr1_3 := (hb3.cell (p := ⟨w0.heap.size + 1 + 1, 1, none⟩) zr_2).trans qr1_2
    have frr1_3 := (hb3.frozen (p := ⟨w0.heap.size + 1 + 1, 1, none⟩) zr_2).trans frr1_2
    have zr_3 := Nat.lt_of_lt_of_le zr_2 hb3.size
    have R_3 := Lib.hid (R_2.out.keep hb3)
    obtain ⟨va, vc, rfl, hvz⟩ := id hown
    clear hvz
    have V_3 := Lib.hid (hown)
    clear qg0_2 qg1_2 zg_2 qe0_2 qe1_2 qe2_2 ze_2 qr0_2 frr0_2 qr1_2 frr1_2 zr_2 R_2
    clear hown
    go_wp2_with fail
    have hb4 : Below w3.heap.size w3 (w3.alloc (.cells #[.int .i64 n, .slice va L.length vc] 25)) := (Below.refl _ _).alloc (by simp <;> omega) _
    have H4 := bel_trans H3 hb4
    have SZ4 := Lib.hid hb4.size
    have qg0_4 := (hb4.cell (p := ⟨w0.heap.size, 0, none⟩) zg_3).trans qg0_3
    have qg1_4 := (hb4.cell (p := ⟨w0.heap.size, 1, none⟩) zg_3).trans qg1_3
    have zg_4 := Nat.lt_of_lt_of_le zg_3 hb4.size
    have qe0_4 := (hb4.cell (p := ⟨w0.heap.size + 1, 0, none⟩) ze_3).trans qe0_3
    have qe1_4 := (hb4.cell (p := ⟨w0.heap.size + 1, 1, none⟩) ze_3).trans qe1_3
    have qe2_4 := (hb4.cell (p := ⟨w0.heap.size + 1, 2, none⟩) ze_3).trans qe2_3
    have ze_4 := Nat.lt_of_lt_of_le ze_3 hb4.size
    have qr0_4 := (hb4.cell (p := ⟨w0.heap.size + 1 + 1, 0, none⟩) zr_3).trans qr0_3
    have frr0_4 := (hb4.frozen (p := ⟨w0.heap.size + 1 + 1, 0, none⟩) zr_3).trans frr0_3
    have qr1_4 := (hb4.cell (p := ⟨w0.heap.size + 1 + 1, 1, none⟩) zr_3).trans qr1_3
    have frr1_4 := (hb4.frozen (p := ⟨w0.heap.size + 1 + 1, 1, none⟩) zr_3).trans frr1_3
    have zr_4 := Nat.lt_of_lt_of_le zr_3 hb4.size
    have R_4 := Lib.hid (R_3.out.keep hb4)
    have V_4 := Lib.hid (V_3.out.keep hb4)
    have qo0_4 : (w3.alloc (.cells #[.int .i64 n, .slice va L.length vc] 25)).cell? ⟨w3.heap.size, 0, none⟩ = some (.int .i64 n) := by go_simp
    have qo1_4 : (w3.alloc (.cells #[.int .i64 n, .slice va L.length vc] 25)).cell? ⟨w3.heap.size, 1, none⟩ = some (.slice va L.length vc) := by go_simp
    have zo_4 : w3.heap.size < (w3.alloc (.cells #[.int .i64 n, .slice va L.length vc] 25)).heap.size := by simp <;> omega
    generalize (w3.alloc (.cells #[.int .i64 n, .slice va L.length vc] 25)) = w4 at hb4 H4 SZ4 R_4 V_4 frr0_4 frr1_4 qe0_4 qe1_4 qe2_4 qg0_4 qg1_4 qo0_4 qo1_4 qr0_4 qr1_4 ze_4 zg_4 zo_4 zr_4 ⊢
    have ZBo := Lib.hid zo_4
    clear qg0_3 qg1_3 zg_3 qe0_3 qe1_3 qe2_3 ze_3 qr0_3 frr0_3 qr1_3 frr1_3 zr_3 R_3 V_3
    refine (HW.out _ _ V_4.out.edges).mono ?_
    rintro e w5 ⟨rfl, hb5⟩
    have H5 := bel_trans H4 hb5
    have SZ5 := Lib.hid hb5.size
    have qg0_5 := (hb5.cell (p := ⟨w0.heap.size, 0, none⟩) zg_4).trans qg0_4
    have qg1_5 := (hb5.cell (p := ⟨w0.heap.size, 1, none⟩) zg_4).trans qg1_4
    have zg_5 := Nat.lt_of_lt_of_le zg_4 hb5.size
    have qe0_5 := (hb5.cell (p := ⟨w0.heap.size + 1, 0, none⟩) ze_4).trans qe0_4
    have qe1_5 := (hb5.cell (p := ⟨w0.heap.size + 1, 1, none⟩) ze_4).trans qe1_4
    have qe2_5 := (hb5.cell (p := ⟨w0.heap.size + 1, 2, none⟩) ze_4).trans qe2_4
    have ze_5 := Nat.lt_of_lt_of_le ze_4 hb5.size
    have qr0_5 := (hb5.cell (p := ⟨w0.heap.size + 1 + 1, 0, none⟩) zr_4).trans qr0_4
    have frr0_5 := (hb5.frozen (p := ⟨w0.heap.size + 1 + 1, 0, none⟩) zr_4).trans frr0_4
    have qr1_5 := (hb5.cell (p := ⟨w0.heap.size + 1 + 1, 1, none⟩) zr_4).trans qr1_4
    have frr1_5 := (hb5.frozen (p := ⟨w0.heap.size + 1 + 1, 1, none⟩) zr_4).trans frr1_4
    have zr_5 := Nat.lt_of_lt_of_le zr_4 hb5.size
    have qo0_5 := (hb5.cell (p := ⟨w3.heap.size, 0, none⟩) zo_4).trans qo0_4
    have qo1_5 := (hb5.cell (p := ⟨w3.heap.size, 1, none⟩) zo_4).trans qo1_4
    have zo_5 := Nat.lt_of_lt_of_le zo_4 hb5.size
    have R_5 := Lib.hid (R_4.out.keep hb5)
    have V_5 := Lib.hid (V_4.out.keep hb5)
    clear qg0_4 qg1_4 zg_4 qe0_4 qe1_4 qe2_4 ze_4 qr0_4 frr0_4 qr1_4 frr1_4 zr_4 R_4 V_4 qo0_4 qo1_4 zo_4
    go_wp2
    try simp only [Exit.inBlock, Exit.then]
    refine bodyPost_ret (v := .tuple #[.agg #[.int .i64 n, .slice va L.length vc], .bool true]) ?_ rfl ?_
    · rw [results_cell_tmp rfl]
      go_simp
    have hch : Chg (w0.heap.size + 2) (w0.heap.size + 3) w5 ((w5.setCell ⟨w0.heap.size + 1 + 1, 0, none⟩ (.int .i64 n)).setCell ⟨w0.heap.size + 1 + 1, 1, none⟩ (.slice va L.length vc)) := ((Chg.refl _ _ _).setCell (by simp only; omega) (by simp only; omega) _).setCell (by simp only; omega) (by simp only; omega) _
    exact ⟨.slice va L.length vc, rfl, ((V_5.out.chg hch (.inl (by have := ZBr.out; have := SZ2.out; omega))).wider (by have := SZ2.out; have := SZ1.out; omega) (by simp; have := SZ5.out; have := SZ4.out; omega) (Nat.le_refl _)), hokv, bel_chg H5 hch (by omega)⟩
end Go.Proofs.Ytjcfefpcilhelaa
