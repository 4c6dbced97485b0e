/- What the laws on matrices draw: the model's l8Draw. -/
import Derived.Test.YtjpikbbpmbeckaaSmall
import Derived.Test.YtjpikbbpmbeckaaCloseS
import Derived.Test.YtjpikbbpmbeckaaEdgeS
import Derived.Deep.RegionHeld3
import Derived.Deep.CutBlock
namespace Go.Proofs.Ytjpikbbpmbeckaa
open Go.RowKit Go.BigFrame Go.Deep
set_option linter.unusedVariables false
set_option linter.unusedSimpArgs false
set_option linter.unnecessarySimpa false

theorem InR.weak {w : World} {lo hi : Nat} {s : Value} {n sz : Nat} {cs : Nat → Value} (r : InR true w lo hi s n sz cs) : InR false w lo hi s n sz cs := by
  obtain ⟨a, cap, e, hz⟩ := r
  refine ⟨a, cap, e, ?_⟩
  rcases hz with h0 | ⟨b, off, rfl, h1, h2, h3, hc⟩
  · exact .inl h0
  · exact .inr ⟨b, off, rfl, h1, h2, h3, fun i hi => ⟨(hc i hi).1, fun h => by cases h⟩⟩
/-- A grid whose blocks lie between two numbers, whose rows are within their room. -/
def GridJ (w : World) (lo hi : Nat) (s : Value) (zss : List (List Int)) : Prop :=
  okS s ∧ ∃ a cap, s = .slice a zss.length cap ∧ (zss = [] ∨ ∃ (b off : Nat) (T : Nat → Value), a = some ⟨b, off, none⟩ ∧ (lo ≤ b ∧ b < hi ∧ hi ≤ w.heap.size) ∧ ∀ i, i < zss.length → w.cell? ⟨b, off + i, none⟩ = some (T i) ∧ InR false w lo hi (T i) (zss.getD i []).length 1 (cellI (zss.getD i [])) ∧ okS (T i))
section
variable {w w' : World} {lo hi l h : Nat} {s : Value} {zss z : List (List Int)}
theorem GridJ.gridIn (g : GridJ w lo hi s zss) : GridIn w lo hi s zss := by
  obtain ⟨-, a, cap, rfl, hz⟩ := g
  refine ⟨a, cap, rfl, ?_⟩
  rcases hz with hz | ⟨b, off, T, rfl, hb, hc⟩
  · exact .inl hz
  · exact .inr ⟨b, off, T, rfl, hb, fun i hi => ⟨(hc i hi).1, (hc i hi).2.1⟩⟩
theorem GridJ.chg (g : GridJ w lo hi s zss) (c : Chg l h w w') (d : h ≤ lo ∨ hi ≤ l) : GridJ w' lo hi s zss := by
  obtain ⟨ho, a, cap, rfl, hz⟩ := g
  refine ⟨ho, a, cap, rfl, ?_⟩
  rcases hz with hz | ⟨b, off, T, rfl, hb, hc⟩
  · exact .inl hz
  · exact .inr ⟨b, off, T, rfl, ⟨hb.1, hb.2.1, Nat.le_trans hb.2.2 c.size⟩, fun i hi => ⟨(c.cell (p := ⟨b, off + i, none⟩) (by simp only; omega) (by simp only; omega)).trans (hc i hi).1, (hc i hi).2.1.chg c d, (hc i hi).2.2⟩⟩
theorem GridJ.keep (g : GridJ w lo hi s zss) (b : Below w.heap.size w w') : GridJ w' lo hi s zss := g.chg (l := 0) (h := 0) (Chg.of_below b) (by omega)
theorem GridJ.widen (r : GridJ w lo hi s z) (h1 : l ≤ lo) (h2 : hi ≤ h) (h3 : h ≤ w.heap.size) : GridJ w l h s z := by
  obtain ⟨ho, a, cap, rfl, hz⟩ := r
  refine ⟨ho, a, cap, rfl, ?_⟩
  rcases hz with hz | ⟨b, off, T, rfl, hb, hc⟩
  · exact .inl hz
  · exact .inr ⟨b, off, T, rfl, ⟨by omega, by omega, h3⟩, fun i hi => ⟨(hc i hi).1, (hc i hi).2.1.wider h1 h2 h3, (hc i hi).2.2⟩⟩
theorem OwnG.gridJ (h : OwnG w lo hi s z) : GridJ w lo hi s z := by
  have ho := h.ok
  rcases h with ⟨rfl, rfl⟩ | ⟨g, cap, T, B, rfl, hc, h⟩
  · exact ⟨ho, _, _, rfl, .inl rfl⟩
  · refine ⟨ho, _, _, rfl, .inr ⟨g, 0, T, rfl, h.place, fun i hi => ⟨by rw [Nat.zero_add]; exact (h.cell i hi).1, ?_, h.ok i hi⟩⟩⟩
    have hb := h.blk i hi
    have hp := h.place
    exact ((h.row i hi).wider (l := lo) (h := _) hb.1 (by omega) hp.2.2).weak
end
theorem okS_one (yy : Nat) : okS (.slice (some ⟨yy, 0, none⟩) 1 1) := by
  intro a n c e
  injection e with e1 e2 e3
  subst e1 e2 e3
  exact ⟨Nat.le_refl _, (fun h => by cases h), fun x h => by injection h with h; rw [← h]⟩
/-- What is drawn: a small matrix. -/
def DrawnX (w : World) (e : Ending) (w' : World) : Prop :=
  ∃ (m : Int) (z : List (List Int)) (v : Value), e = .returned (.agg #[.int .i64 m, v]) ∧ Sm z ∧ GridJ w' w.heap.size w'.heap.size v z ∧ okS v ∧ Below w.heap.size w w'
/-- The matrix ahead of the fault. -/
structure X8 (w w2 : World) (g q B : Nat) (m : Int) (z : List (List Int)) (v : Value) (lo hi : Nat) (wx : World) : Prop where
  rd : Rd w2 wx g q
  bx : Box wx B 33 #[.int .i64 m, v]
  br : Box wx w.heap.size 33 #[.int .i64 0, .slice none 0 0]
  own : OwnG wx lo hi v z
  away : B < lo ∨ hi ≤ B
  pl : g < lo ∧ w.heap.size < lo ∧ hi ≤ wx.heap.size ∧ g < B ∧ w.heap.size < B ∧ w2.heap.size ≤ lo
  kind : mKind m = true
  sq : Sq m z.length z
  n1 : 1 ≤ z.length
  n12 : z.length ≤ 12
/-- The matrix with its fault. -/
def F8 (w w2 : World) (g q B : Nat) (wx : World) : Prop :=
  ∃ (m : Int) (z : List (List Int)) (a : Option Addr) (c : Nat), Box wx B 33 #[.int .i64 m, .slice a z.length c] ∧ GridJ wx (w.heap.size + 1) wx.heap.size (.slice a z.length c) z ∧ okS (.slice a z.length c) ∧ Sm z ∧ Rd w2 wx g q ∧ Box wx w.heap.size 33 #[.int .i64 0, .slice none 0 0]
theorem X8.keepG {w w2 wx wy : World} {g q q' B : Nat} {m : Int} {z : List (List Int)} {v : Value} {lo hi : Nat} (h : X8 w w2 g q B m z v lo hi wx) (hG : wx.grownBy wy (some g)) (hR : Rd w2 wy g q') (hw : w.heap.size < g) : X8 w w2 g q' B m z v lo hi wy := by
  have hp := h.pl
  exact ⟨hR, h.bx.grownG hG (by omega), h.br.grownG hG (by omega), h.own.chg (g_chgG hG) (.inl (by omega)), h.away, ⟨hp.1, hp.2.1, Nat.le_trans hp.2.2.1 hG.size, hp.2.2.2⟩, h.kind, h.sq, h.n1, h.n12⟩
theorem Sm.set {z : List (List Int)} (h : Sm z) {k : Nat} {r : List Int} (hr : r.length ≤ 12) : Sm (z.set k r) := by
  refine ⟨by rw [List.length_set]; exact h.1, fun i hi => ?_⟩
  rw [List.length_set] at hi
  by_cases e : k = i
  · subst e
    rw [getD_setL _ _ _ _ hi, if_pos rfl]
    exact hr
  · have : (z.set k r).getD i [] = z.getD i [] := by simp only [List.getD, List.getElem?_set_ne e]
    rw [this]
    exact h.2 i hi
/-- An element is written over. -/
theorem X8.elem {w w2 w7 w' : World} {g q B gg cp lo hi ox cx : Nat} {T : Nat → Value} {Bk : Nat → Nat} {m y : Int} {z : List (List Int)} (h : X8 w w2 g q B m z (.slice (some ⟨gg, 0, none⟩) z.length cp) lo hi w7) (hat : GridAt w7 lo hi gg T Bk z) (hcp : z.length ≤ cp)
    (hT : T 0 = .slice (some ⟨Bk 0, ox, none⟩) (z.getD 0 []).length cx) (hG : w7.grownBy w' (some g)) (hR : Rd w2 w' g 6) (hw : w.heap.size < g) : F8 w w2 g 6 B (w'.setCell ⟨Bk 0, ox + 0, none⟩ (.int .i64 y)) := by
  have hp := h.pl
  have hrl := (h.sq.2 0 h.n1).1
  have hbk := hat.blk 0 h.n1
  have haw := h.away
  have hat' := hat.chg (g_chgG hG) (.inl (by omega))
  obtain ⟨ox', cx', hT', hwr⟩ := hat'.wr h.n1 (by rw [hrl]; exact h.n1)
  rw [hT] at hT'
  injection hT' with e1 e2 e3
  injection e1 with e1
  injection e1 with e4 e5
  subst e5
  have hset := hwr.set (k := 0) (by rw [hrl]; exact h.n1) y
  have hk := hat'.keepG (k := 0) (off := ox) h.n1 rfl (by rw [List.length_set]) ⟨cx, by rw [List.length_set]; exact hT⟩ hset (Chg.setCell (p := ⟨Bk 0, ox + 0, none⟩) (Chg.refl _ _ _) (Nat.le_refl _) (Nat.lt_succ_self _) _)
  have hlen : (z.set 0 ((z.getD 0 []).set 0 y)).length = z.length := List.length_set
  have hown : OwnG (w'.setCell ⟨Bk 0, ox + 0, none⟩ (.int .i64 y)) lo hi (.slice (some ⟨gg, 0, none⟩) (z.set 0 ((z.getD 0 []).set 0 y)).length cp) (z.set 0 ((z.getD 0 []).set 0 y)) := .inr ⟨gg, cp, T, Bk, rfl, by rw [hlen]; exact hcp, hk⟩
  refine ⟨m, z.set 0 ((z.getD 0 []).set 0 y), some ⟨gg, 0, none⟩, cp, ?_, hown.gridJ.widen (by omega) (by have := hG.size; simp; omega) (Nat.le_refl _), hown.ok, (h.sq.sm h.n12).set (by rw [List.length_set, hrl]; exact h.n12), hR.set' (by omega) (by omega) _, ?_⟩
  · rw [hlen]
    exact (h.bx.grownG hG (by omega)).setOther (by omega) _ _
  · exact (h.br.grownG hG (by omega)).setOther (by omega) _ _

/-- A row is another one's. -/
theorem X8.row {w w2 w7 w' : World} {g q B gg cp lo hi yy X : Nat} {T : Nat → Value} {Bk : Nat → Nat} {m : Int} {z : List (List Int)} (h : X8 w w2 g q B m z (.slice (some ⟨gg, 0, none⟩) z.length cp) lo hi w7) (hat : GridAt w7 lo hi gg T Bk z)
    (hG : w7.grownBy w' (some g)) (hR : Rd w2 w' g 6) (hw : w.heap.size < g) (hX : X < z.length) (hy0 : w7.heap.size ≤ yy) (hy1 : yy < w'.heap.size) (hy : w'.cell? ⟨yy, 0, none⟩ = some (.int .i64 1)) : F8 w w2 g 6 B (w'.setCell ⟨gg, X, none⟩ (.slice (some ⟨yy, 0, none⟩) 1 1)) := by
  have hp := h.pl
  have haw := h.away
  have hsz := hG.size
  have hat' := hat.chg (g_chgG hG) (.inl (by omega))
  have hpl := hat'.place
  have hgb := (hat'.cell X hX).1
  have hlen : (z.set X [1]).length = z.length := List.length_set
  have hgi : GridJ (w'.setCell ⟨gg, X, none⟩ (.slice (some ⟨yy, 0, none⟩) 1 1)) (w.heap.size + 1) (w'.setCell ⟨gg, X, none⟩ (.slice (some ⟨yy, 0, none⟩) 1 1)).heap.size (.slice (some ⟨gg, 0, none⟩) (z.set X [1]).length cp) (z.set X [1]) := by
    refine ⟨by rw [hlen]; exact h.own.ok, _, cp, rfl, .inr ⟨gg, 0, fun i => if X = i then .slice (some ⟨yy, 0, none⟩) 1 1 else T i, rfl, ⟨by omega, by simp; omega, Nat.le_refl _⟩, fun i hi => ?_⟩⟩
    rw [hlen] at hi
    rw [getD_setL _ _ _ _ hi, Nat.zero_add]
    dsimp only
    by_cases e : X = i
    · subst e
      rw [if_pos rfl, if_pos rfl]
      refine ⟨World.cell?_setCell_same _ _ _ hgb, ⟨_, 1, rfl, .inr ⟨yy, 0, rfl, by omega, by simp; omega, Nat.le_refl _, fun j hj => ?_⟩⟩, okS_one yy⟩
      have hj0 : j = 0 := by simp at hj; omega
      subst hj0
      exact ⟨(World.cell?_setCell_other _ _ _ _ (by intro h; injection h; omega)).trans hy, fun h => by cases h⟩
    · rw [if_neg e, if_neg e]
      have hb := hat'.blk i hi
      have hch : Chg gg (gg + 1) w' (w'.setCell ⟨gg, X, none⟩ (.slice (some ⟨yy, 0, none⟩) 1 1)) := (Chg.refl _ _ _).setCell (by simp) (by simp) _
      refine ⟨(World.cell?_setCell_other _ _ _ _ (by intro h; injection h; omega)).trans (hat'.cell i hi).1, (((hat'.row i hi).chg hch (by omega)).wider (by omega) (by simp; omega) (Nat.le_refl _)).weak, hat'.ok i hi⟩
  refine ⟨m, z.set X [1], some ⟨gg, 0, none⟩, cp, ?_, hgi, by rw [hlen]; exact h.own.ok, (h.sq.sm h.n12).set (by decide), hR.set' (by omega) (by omega) _, ?_⟩
  · rw [hlen]
    exact (h.bx.grownG hG (by omega)).setOther (by omega) _ _
  · exact (h.br.grownG hG (by omega)).setOther (by omega) _ _

set_option maxRecDepth 20000 in
set_option maxHeartbeats 4000000 in
theorem l8Draw (a : Option Addr) (nn cap : Nat) (w : World) (hb : Bytes w a nn) (hcap : nn ≤ cap) (hn : nn ≤ 281474976710656) :
    Calls Try.prog 62 #[.slice a nn cap] w (DrawnX w) := by
  have hbx := Box.new w 33 #[.int .i64 0, .slice none 0 0]
  have hbl : Below w.heap.size w (w.alloc (.cells #[.int .i64 0, .slice none 0 0] 33)) := (Below.refl _ _).alloc (Nat.le_refl _) _
  have HC := Lib.hid hb
  clear hb
  go_enter Try.func62, Try.ntmps62
  go_wp2_with fail
  generalize (w.alloc (.cells #[.int .i64 0, .slice none 0 0] 33)) = w0 at hbx hbl ⊢
  have hs0 : w.heap.size < w0.heap.size := hbx.lt
  refine (l8Small a nn cap w0 (HC.out.keepB hbl) hcap hn).mono ?_
  rintro e w1 ⟨n, es, v, m, rfl, hl, hrow, hok, hb1⟩
  obtain ⟨va, vc, rfl, hz9⟩ := id hrow
  have hs1 := hb1.size
  have hb2 : Below w1.heap.size w1 (w1.alloc (.cells #[.int .i64 n, .slice va es.length vc] 50)) := (Below.refl _ _).alloc (Nat.le_refl _) _
  have K2 := Lib.hid (And.intro (HC.out.keepB (bel_trans (bel_trans hbl hb1) hb2)) (And.intro (Box.new w1 50 #[.int .i64 n, .slice va es.length vc]) (And.intro ((hbx.keep hb1).keep hb2) (And.intro ((InR.keep hrow hb2)) (And.intro hok (bel_trans (bel_trans hbl hb1) hb2))))))
  have hs2 := hb2.size
  clear hz9 hrow hok hb1 hb2 hbx hbl HC
  go_wp2_with fail
  generalize (w1.alloc (.cells #[.int .i64 n, .slice va es.length vc] 50)) = w2 at K2 hs2 ⊢
  refine (l15Open a nn cap w2 K2.out.1 hcap hn).mono ?_
  rintro e w3 ⟨g, rfl, hR⟩
  have hg0 := hR.new
  have hg1 := hR.lt
  have hs3 := hR.bel.size
  have K3 := Lib.hid (And.intro hR (And.intro (K2.out.2.1.keep hR.bel) (And.intro (K2.out.2.2.1.keep hR.bel) (InR.keep K2.out.2.2.2.1 hR.bel))))
  have x0 : w3.cell? ⟨w1.heap.size, 0, none⟩ = some (.int .i64 n) := by simpa using K3.out.2.1.cell 0
  have x1 : w3.cell? ⟨w1.heap.size, 1, none⟩ = some (.slice va es.length vc) := by simpa using K3.out.2.1.cell 1
  clear hR
  go_wp2_with fail
  refine (sEdgeMatrix n m es (.slice va es.length vc) w3 K3.out.2.2.2.edges (by omega)).mono ?_
  rintro e w4 ⟨v4, rfl, hown, hb4⟩
  obtain ⟨O, HOK⟩ : ∃ O, Hid (O = emOk n es m) := ⟨_, Lib.hid rfl⟩
  rw [← HOK.out] at hown ⊢
  have hs4 := hb4.size
  have hgB := K2.out.2.2.1.lt
  cases O
  · rw [show rL false (emL n es m) = [] from rfl] at hown
    obtain ⟨xa, xc, rfl⟩ := hown.slice
    have hbr4 := K3.out.2.2.1.keep hb4
    have hbb := hbr4.lt
    have hbE : Below w4.heap.size w4 (w4.alloc (.cells #[.int .i64 (rM false m), .slice xa ([] : List (List Int)).length xc] 33)) := (Below.refl _ _).alloc (Nat.le_refl _) _
    have K4 := Lib.hid (And.intro (hbr4.keep hbE) (And.intro (bel_trans (bel_trans (bel_trans K2.out.2.2.2.2.2 K3.out.1.bel) hb4) hbE) hbE))
    clear hown x0 x1 hbr4
    go_wp2_with fail
    generalize (w4.alloc (.cells #[.int .i64 (rM false m), .slice xa ([] : List (List Int)).length xc] 33)) = w5 at K4 ⊢
    have he : Calls Try.prog 72 #[.int .i64 3, .int .i64 1] w5 (fun e w' => ∃ v, e = .returned (.agg #[.int .i64 1, v]) ∧ OwnG w' w5.heap.size w'.heap.size v (stRows 1 3) ∧ Below w5.heap.size w5 w') := l8Empty 1 3 w5 (by decide) (by decide) (by decide)
    refine he.mono ?_
    rintro e w6 ⟨v6, rfl, hown6, hb6⟩
    obtain ⟨ya, yc, rfl⟩ := hown6.slice
    have hs5 := K4.out.2.1.size
    have hbr6 := K4.out.1.keep hb6
    have r0 : w6.cell? ⟨w.heap.size, 0, none⟩ = some (.int .i64 0) := by simpa using hbr6.cell 0
    have r1 : w6.cell? ⟨w.heap.size, 1, none⟩ = some (.slice none 0 0) := by simpa using hbr6.cell 1
    have r2 := hbr6.frozen 0
    have r3 := hbr6.frozen 1
    have hwl : w.heap.size < w5.heap.size := K4.out.1.lt
    have HE := Lib.hid (And.intro hown6 (bel_trans K4.out.2.1 hb6))
    clear he hown6 hb6 hbr6
    go_wp2
    try simp only [Exit.inBlock, Exit.then]
    refine bodyPost_ret (v := .agg #[.int .i64 1, .slice ya (stRows 1 3).length yc]) ?_ rfl ?_
    · rw [results_cell1 rfl]
      go_simp
    have hch : ∀ u0 u1, Chg w.heap.size (w.heap.size + 1) w6 ((w6.setCell ⟨w.heap.size, 0, none⟩ u0).setCell ⟨w.heap.size, 1, none⟩ u1) := fun u0 u1 => ((Chg.refl _ _ _).setCell (by simp) (by simp) _).setCell (by simp) (by simp) _
    exact ⟨1, stRows 1 3, _, rfl, by unfold Sm; decide, ((HE.out.1.chg (hch (.int .i64 1) (.slice ya (stRows 1 3).length yc)) (.inl (by omega))).gridJ).widen (by omega) (by simp) (Nat.le_refl _), HE.out.1.ok, (HE.out.2.setCell (by simp) _).setCell (by simp) _⟩
  · have hok9 := HOK.out.symm
    have hsq := emL_sq hok9
    have hpt := emOk_parts hok9
    have hn9 := gVal_n hpt.1
    rw [show rL true (emL n es m) = emL n es m from rfl] at hown
    have hzl : (emL n es m).length = n.toNat := hsq.1
    rw [← hzl] at hsq
    have hz12 : 1 ≤ (emL n es m).length ∧ (emL n es m).length ≤ 12 := by omega
    have HK := Lib.hid (And.intro hpt.2 (And.intro hsq hz12))
    generalize (emL n es m) = z at hown HK
    obtain ⟨xa, xc, rfl⟩ := hown.slice
    rw [show rM true m = m from rfl]
    have hbE : Below w4.heap.size w4 (w4.alloc (.cells #[.int .i64 m, .slice xa z.length xc] 33)) := (Below.refl _ _).alloc (Nat.le_refl _) _
    have HX : Hid (X8 w w2 g 0 w4.heap.size m z (.slice xa z.length xc) w3.heap.size w4.heap.size (w4.alloc (.cells #[.int .i64 m, .slice xa z.length xc] 33))) := Lib.hid ⟨(K3.out.1.keep hb4).keep hbE, Box.new _ _ _, (K3.out.2.2.1.keep hb4).keep hbE, hown.keep hbE, .inr (Nat.le_refl _), ⟨by omega, by omega, by simp, by omega, by omega, by omega⟩, HK.out.1, HK.out.2.1, HK.out.2.2.1, HK.out.2.2.2⟩
    clear hok9 hsq hpt hn9 hown hzl hz12 HK hbE hb4 x0 x1
    go_wp2_with fail
    generalize (w4.alloc (.cells #[.int .i64 m, .slice xa z.length xc] 33)) = w5 at HX ⊢
    refine (pick 2 w2 w5 g 0 HX.out.rd (by omega) (by omega)).mono ?_
    rintro e w6 ⟨c, rfl, hc0, hc1, hR, hG⟩
    have HX6 := Lib.hid (HX.out.keepG hG hR (by omega))
    clear hR hG hc0 hc1 HX
    go_upto_if 26 with fail
    go_cut [] from 27 to 59 (fun wx => ∃ z xa xc lo hi, X8 w w2 g 1 w4.heap.size m z (.slice xa z.length xc) lo hi wx)
    case first =>
      by_cases hc : c = 0
      · subst hc
        have b0 : w6.cell? ⟨w4.heap.size, 0, none⟩ = some (.int .i64 m) := by simpa using HX6.out.bx.cell 0
        have b1 : w6.cell? ⟨w4.heap.size, 1, none⟩ = some (.slice xa z.length xc) := by simpa using HX6.out.bx.cell 1
        go_wp2_with fail
        refine (l8Close m z (.slice xa z.length xc) w6 HX6.out.own.grid HX6.out.kind HX6.out.sq HX6.out.n1 HX6.out.n12).mono ?_
        rintro e w7 ⟨v7, rfl, hown7, hb7⟩
        have hsq7 := clOut_sq HX6.out.kind HX6.out.sq _ (Nat.le_refl _)
        have hl7 : (clOut m z z.length).length = z.length := hsq7.1
        obtain ⟨ya, yc, rfl⟩ := hown7.slice
        have hbx7 := HX6.out.bx.keep hb7
        have hbr7 := HX6.out.br.keep hb7
        have q0 : w7.cell? ⟨w4.heap.size, 0, none⟩ = some (.int .i64 m) := by simpa using hbx7.cell 0
        have q1 : w7.cell? ⟨w4.heap.size, 1, none⟩ = some (.slice xa z.length xc) := by simpa using hbx7.cell 1
        have q2 := hbx7.frozen 0
        have q3 := hbx7.frozen 1
        have hp6 := HX6.out.pl
        have hB6 := HX6.out.bx.lt
        have hs7 := hb7.size
        have hch : ∀ u0 u1, Chg w4.heap.size (w4.heap.size + 1) w7 ((w7.setCell ⟨w4.heap.size, 0, none⟩ u0).setCell ⟨w4.heap.size, 1, none⟩ u1) := fun u0 u1 => ((Chg.refl _ _ _).setCell (by simp) (by simp) _).setCell (by simp) (by simp) _
        have HX7 : Hid (X8 w w2 g 1 w4.heap.size m (clOut m z z.length) (.slice ya (clOut m z z.length).length yc) w6.heap.size w7.heap.size ((w7.setCell ⟨w4.heap.size, 0, none⟩ (.int .i64 m)).setCell ⟨w4.heap.size, 1, none⟩ (.slice ya (clOut m z z.length).length yc))) := Lib.hid
          ⟨((HX6.out.rd.keep hb7).set' (by omega) (by omega) _).set' (by omega) (by omega) _, by simpa using (hbx7.set 0 (.int .i64 m)).set 1 (.slice ya (clOut m z z.length).length yc), (hbr7.setOther (by omega) _ _).setOther (by omega) _ _, hown7.chg (hch _ _) (.inl (by omega)), .inl (by omega), ⟨by have := HX6.out.rd.lt; omega, by omega, by simp, by omega, by omega, by omega⟩, HX6.out.kind, by rw [hl7]; exact hsq7, by rw [hl7]; exact HX6.out.n1, by rw [hl7]; exact HX6.out.n12⟩
        clear hown7 hb7 hsq7 hl7 hbx7 hbr7 hch b0 b1
        go_wp2_with fail
        go_meet
        case rel => exact ⟨_, _, _, _, _, HX7.out⟩
      · have dc : (c == 0) = false := by simpa using hc
        go_wp2_with fail
        go_meet
        case rel => exact ⟨z, xa, xc, _, _, HX6.out⟩
    case rest =>
      obtain ⟨z, xa, xc, lo, hi, hX⟩ := hcut
      clear HX6
      have HX6 := Lib.hid hX
      clear hX
      go_wp2_with fail
      refine (pick 24 w2 wc g 1 HX6.out.rd (by omega) (by omega)).mono ?_
      rintro e w7 ⟨d, rfl, hd0, hd1, hR, hG⟩
      have HX := Lib.hid (HX6.out.keepG hG hR (by omega))
      clear hR hG hd0 hd1 HX6
      go_upto_block 0 with fail
      go_cut [] from 31 to 59 (fun wx => F8 w w2 g 6 w4.heap.size wx)
      case first =>
        by_cases h0 : d = 0
        · subst h0
          obtain ⟨gg, cp, T, Bk, hsl, hcp, hat⟩ := HX.out.own.at HX.out.n1
          injection hsl with e3 e4 e5
          subst e3 e5
          have hn1 := HX.out.n1
          have hn12 := HX.out.n12
          have hgB := HX.out.pl
          have hpl := hat.place
          have hne : ¬ gg = w4.heap.size ∧ ¬ w4.heap.size = gg := by
            have h2 := HX.out.away
            omega
          have hce : ∀ w', w7.grownBy w' (some g) → w'.cell? ⟨w4.heap.size, 1, none⟩ = some (.slice (some ⟨gg, 0, none⟩) z.length xc) := fun w' hG => by simpa using (HX.out.bx.grownG hG (by omega)).cell 1
          have hce2 : ∀ w' (X : Nat), X < z.length → w7.grownBy w' (some g) → ∃ old, w'.cell? ⟨gg, X, none⟩ = some old ∧ w'.frozen? ⟨gg, X, none⟩ = false := fun w' X hX hG => by
            have hat' := hat.chg (g_chgG hG) (.inl (by omega))
            exact ⟨_, hat'.cell X hX⟩
          have hf1 : ∀ (t : TypeId) w' (X : Nat), X < z.length → Rd w2 w' g 6 → (w7.alloc (.cells #[.int .i64 1] t)).drew.grownBy w' (some g) → F8 w w2 g 6 w4.heap.size (w'.setCell ⟨gg, X, none⟩ (.slice (some ⟨w7.heap.size, 0, none⟩) 1 1)) := fun t w' X hX hR hG => by
            have hbn := (Box.new w7 t #[.int .i64 1]).drew.grownG hG (by have := HX.out.rd.lt; omega)
            exact HX.out.row hat (grown_trans' (g_drew (g_alloc (grown_refl _ _) _)) hG) hR (by omega) hX (Nat.le_refl _) hbn.lt (by simpa using hbn.cell 0)
          have hf2 : ∀ (t : TypeId) wA (X : Nat), X < z.length → Rd w2 wA g 6 → w7.grownBy wA (some g) → F8 w w2 g 6 w4.heap.size ((wA.setCell ⟨gg, X, none⟩ (.slice (some ⟨wA.heap.size, 0, none⟩) 1 1)).alloc (.cells #[.int .i64 1] t)) := fun t wA X hX hR hG => by
            have hbn := Box.new wA t #[.int .i64 1]
            have hgA : gg < wA.heap.size := Nat.lt_of_lt_of_le (by omega) hG.size
            rw [← World.setCell_alloc_past _ _ _ _ hgA]
            exact HX.out.row hat (g_alloc hG _) (hR.alloc' _) (by omega) hX hG.size hbn.lt (by simpa using hbn.cell 0)
          have HCE := Lib.hid hce
          have HC2 := Lib.hid hce2
          have HF1 := Lib.hid hf1
          have HF2 := Lib.hid hf2
          clear hce hce2 hf1 hf2 hat hcp
          have HXA := Lib.hid (show ∀ xA : Int, 0 ≤ xA → (xA < (z.length : Int) ∨ xA = 0) → ∃ X : Nat, xA = X ∧ X < z.length ∧ (X : Int) < z.length from fun xA h0 h1 => ⟨xA.toNat, by omega, by omega, by omega⟩)
          have n1 := hne.1
          have n2 := hne.2
          have hz12 : (z.length : Int) ≤ 1000000 := by omega
          have hq2 : 1 + 1 ≤ 1000000 := by omega
          have b1 := HCE.out _ (grown_refl w7 g)
          have HR := Lib.hid HX.out.rd
          go_upto_region 10 with fail
          go_region_held3 (fun w' : World => w'.cell? ⟨w4.heap.size, 1, none⟩ = some (.slice (some ⟨gg, 0, none⟩) z.length xc)) (first | exact HCE.out _ (g_drew (grown_refl _ _)) | exact HCE.out _ (g_drew (g_alloc (grown_refl _ _) _)) | exact HCE.out _ HA.out.2 | exact HCE.out _ (g_alloc HA.out.2 _) | (go_simp; done)) (first | (go_at_call 59; (first | (with_reducible refine (pick (z.length : Int) w2 _ g _ HR.out.drew' hq2 hz12).mono ?_) | (with_reducible refine (pick (z.length : Int) w2 _ g _ (HR.out.alloc' _).drew' hq2 hz12).mono ?_)); rintro e wA ⟨xA, rfl, hA0, hA1, hRA, hGA⟩; obtain ⟨X, rfl, hX, hX'⟩ := HXA.out _ hA0 hA1; (first | have HA := Lib.hid (And.intro (Rd.more hRA (show _ ≤ 6 by omega)) (grown_trans' (g_drew (grown_refl w7 g)) hGA)) | have HA := Lib.hid (And.intro (Rd.more hRA (show _ ≤ 6 by omega)) (grown_trans' (g_drew (g_alloc (grown_refl w7 g) _)) hGA))); have HGA := Lib.hid hGA; obtain ⟨old, o0, o1⟩ := HC2.out _ X hX HA.out.2; have c1 := HCE.out _ HA.out.2; have hgA : gg < wA.heap.size := Nat.lt_of_lt_of_le (by omega) HA.out.2.size; have hBA : w4.heap.size < wA.heap.size := Nat.lt_of_lt_of_le (HX.out.bx.lt) HA.out.2.size; clear hRA hGA hA0 hA1))
          all_goals
            go_wp2_with fail
            go_meet
            case rel => first | exact HF1.out _ _ X hX HA.out.1 HGA.out | exact HF2.out _ _ X hX HA.out.1 HA.out.2
        · have e0 : (d == 0) = false := by simpa using h0
          by_cases h1 : d = 1
          · subst h1
            go_wp2_with fail
            refine (num_built [0, 4, 6] w2 w7 g _ HX.out.rd (by omega) _ (by decide) (by decide)).mono ?_
            rintro e w8 ⟨y, hy, rfl, hR, hG⟩
            have HX8 := Lib.hid (HX.out.keepG hG hR (by omega))
            have q0 : w8.cell? ⟨w4.heap.size, 0, none⟩ = some (.int .i64 m) := by simpa using HX8.out.bx.cell 0
            have q2 := HX8.out.bx.frozen 0
            clear hy hR hG
            go_wp2_with fail
            go_meet
            case rel =>
              have hp := HX8.out.pl
              have haw := HX8.out.away
              have hch : Chg w4.heap.size (w4.heap.size + 1) w8 (w8.setCell ⟨w4.heap.size, 0, none⟩ (.int .i64 y)) := (Chg.refl _ _ _).setCell (by simp) (by simp) _
              have hown := HX8.out.own.chg hch (by omega)
              exact ⟨y, z, xa, xc, by simpa using HX8.out.bx.set 0 (.int .i64 y), hown.gridJ.widen (by omega) (by simp; omega) (Nat.le_refl _), hown.ok, HX8.out.sq.sm HX8.out.n12, (HX8.out.rd.set' (by omega) (by omega) _).more (by omega), HX8.out.br.setOther (by omega) _ _⟩
          · have e1 : (d == 1) = false := by simpa using h1
            by_cases h2 : d = 2
            · subst h2
              obtain ⟨gg, cp, T, Bk, hsl, hcp, hat⟩ := HX.out.own.at HX.out.n1
              injection hsl with e3 e4 e5
              subst e3 e5
              have hrl := (HX.out.sq.2 0 HX.out.n1).1
              obtain ⟨ox, cx, hT, hwr⟩ := hat.wr HX.out.n1 (by rw [hrl]; exact HX.out.n1)
              have hn1 := HX.out.n1
              have hgB := HX.out.pl
              have hbk : ¬ Bk 0 = w4.heap.size ∧ ¬ w4.heap.size = Bk 0 ∧ ¬ Bk 0 = gg ∧ ¬ gg = Bk 0 := by
                have h1 := hat.blk 0 hn1
                have h2 := HX.out.away
                omega
              have hce : ∀ w', w7.grownBy w' (some g) → (w'.cell? ⟨w4.heap.size, 1, none⟩ = some (.slice (some ⟨gg, 0, none⟩) z.length xc) ∧ w'.cell? ⟨gg, 0, none⟩ = some (.slice (some ⟨Bk 0, ox, none⟩) z.length cx)) := fun w' hG => by
                have hat' := hat.chg (g_chgG hG) (.inl (by omega))
                exact ⟨by simpa using (HX.out.bx.grownG hG (by omega)).cell 1, ((hat'.cell 0 hn1).1).trans (by rw [hT, hrl])⟩
              have hce2 : ∀ w', w7.grownBy w' (some g) → ∃ old, w'.cell? ⟨Bk 0, ox + 0, none⟩ = some (.int .i64 old) ∧ w'.frozen? ⟨Bk 0, ox + 0, none⟩ = false := fun w' hG => by
                have hat' := hat.chg (g_chgG hG) (.inl (by omega))
                obtain ⟨ox', cx', hT', hw'⟩ := hat'.wr hn1 (by rw [hrl]; exact hn1)
                rw [hT] at hT'
                injection hT' with e1 e2 e3
                injection e1 with e1
                injection e1 with e4 e5
                subst e5
                exact ⟨_, hw'.2 0 (by rw [hrl]; exact hn1)⟩
              have hfin : ∀ w' y, w7.grownBy w' (some g) → Rd w2 w' g 6 → F8 w w2 g 6 w4.heap.size (w'.setCell ⟨Bk 0, ox + 0, none⟩ (.int .i64 y)) := fun w' y hG hR => HX.out.elem hat hcp hT hG hR (by omega)
              have HCE := Lib.hid hce
              have HC2 := Lib.hid hce2
              have HFI := Lib.hid hfin
              clear hce hce2 hfin hT hwr hat hcp
              have hnb : ∀ (t : TypeId), Calls Try.prog 60 #[.pointer (some ⟨g, 0, none⟩), .slice (some ⟨w7.heap.size, 0, none⟩) 3 3] (w7.alloc (.cells #[.int .i64 (-1), .int .i64 5, .int .i64 100001] t)).drew fun e w' => ∃ x : Int, e = .returned (.int .i64 x) ∧ Rd w2 w' g 6 ∧ w7.grownBy w' (some g) := fun t => (num [-1, 5, 100001] _ w2 _ g _ ((HX.out.rd.alloc' _).drew') (by omega) (RowN.grown (rowN_at [-1, 5, 100001] w7 g t _ rfl HX.out.rd.lt) (g_drew (grown_refl _ _))) (by decide) (by decide)).mono fun e w' ⟨x, _, h1, h2, h3⟩ => ⟨x, h1, h2.more (by omega), grown_trans' (g_drew (g_alloc (grown_refl _ _) _)) h3⟩
              have HNB := Lib.hid hnb
              clear hnb
              obtain ⟨b1, b2⟩ := HCE.out _ (grown_refl w7 g)
              have hi0 : (0 : Int) < z.length := by omega
              have hi1 : 0 < z.length := hn1
              have hi2 : ¬ z = [] := fun h => by rw [h] at hi1; simp at hi1
              have n1 : ¬ Bk 0 = w4.heap.size := hbk.1
              have n2 : ¬ w4.heap.size = Bk 0 := hbk.2.1
              have n3 : ¬ Bk 0 = gg := hbk.2.2.1
              have n4 : ¬ gg = Bk 0 := hbk.2.2.2
              simp only [Nat.add_zero] at HC2 HFI
              go_upto_region 14 with fail
              go_region_held3 (fun w' : World => w'.cell? ⟨w4.heap.size, 1, none⟩ = some (.slice (some ⟨gg, 0, none⟩) z.length xc) ∧ w'.cell? ⟨gg, 0, none⟩ = some (.slice (some ⟨Bk 0, ox, none⟩) z.length cx)) (first | exact HCE.out _ (g_drew (grown_refl _ _)) | exact HCE.out _ (g_drew (g_alloc (grown_refl _ _) _)) | exact HCE.out _ HN.out.2 | (refine ⟨?_, ?_⟩ <;> go_simp)) (first | (go_at_call 60; (with_reducible refine (HNB.out _).mono ?_); rintro e wN ⟨yN, rfl, hRN, hGN⟩; obtain ⟨c0, c1⟩ := HCE.out _ hGN; obtain ⟨old, o0, o1⟩ := HC2.out _ hGN; have HN := Lib.hid (And.intro hRN hGN); clear hRN hGN))
              all_goals
                go_wp2_with fail
                go_meet
                case rel => exact HFI.out _ yN HN.out.2 HN.out.1
            · have e2 : (d == 2) = false := by simpa using h2
              go_wp2_with fail
              go_meet
              case rel => exact ⟨m, z, xa, xc, HX.out.bx, HX.out.own.gridJ.widen (by have := HX.out.pl; omega) HX.out.pl.2.2.1 (Nat.le_refl _), HX.out.own.ok, HX.out.sq.sm HX.out.n12, HX.out.rd.more (by omega), HX.out.br⟩
      case rest =>
        obtain ⟨m', z', ya, yc, hbx, hgr, hok, hsm, hR, hbr⟩ := hcut
        have b0 : wc.cell? ⟨w4.heap.size, 0, none⟩ = some (.int .i64 m') := by simpa using hbx.cell 0
        have b1 : wc.cell? ⟨w4.heap.size, 1, none⟩ = some (.slice ya z'.length yc) := by simpa using hbx.cell 1
        have r0 : wc.cell? ⟨w.heap.size, 0, none⟩ = some (.int .i64 0) := by simpa using hbr.cell 0
        have r1 : wc.cell? ⟨w.heap.size, 1, none⟩ = some (.slice none 0 0) := by simpa using hbr.cell 1
        have r2 := hbr.frozen 0
        have r3 := hbr.frozen 1
        have HG := Lib.hid (And.intro hgr (And.intro hok (And.intro hsm (bel_trans K2.out.2.2.2.2.2 hR.bel))))
        clear hbx hgr hok hsm hR hbr HX
        go_wp2
        try simp only [Exit.inBlock, Exit.then]
        refine bodyPost_ret (v := .agg #[.int .i64 m', .slice ya z'.length yc]) ?_ rfl ?_
        · rw [results_cell1 rfl]
          go_simp
        have hch : ∀ u0 u1, Chg w.heap.size (w.heap.size + 1) wc ((wc.setCell ⟨w.heap.size, 0, none⟩ u0).setCell ⟨w.heap.size, 1, none⟩ u1) := fun u0 u1 => ((Chg.refl _ _ _).setCell (by simp) (by simp) _).setCell (by simp) (by simp) _
        exact ⟨m', z', _, rfl, HG.out.2.2.1, (HG.out.1.chg (hch (.int .i64 m') (.slice ya z'.length yc)) (.inl (Nat.le_refl _))).widen (by omega) (by simp) (Nat.le_refl _), HG.out.2.1, (HG.out.2.2.2.setCell (by simp) _).setCell (by simp) _⟩
end Go.Proofs.Ytjpikbbpmbeckaa
