/- ApplyChanges and ChangesValid, in the model. -/
import Derived.Test.YtbhhbhopogkmnaaChgP
import Derived.Test.YtbhhbhopogkmnaaBoxIn
import Derived.Test.YtbhhbhopogkmnaaCase3
namespace Go.Proofs.Ytbhhbhopogkmnaa
open Go.RowKit Go.BigFrame Go.Deep
set_option linter.unusedVariables false
set_option linter.unusedSimpArgs false

/-- A graph in a variable that is new since w, with a row that is within its room. -/
def BoxK (w wx : World) (N : Int) (ls : List Ed) (p : Value) : Prop :=
  ∃ (g : Nat) (va : Option Addr) (vc lo hi : Nat), p = .pointer (some ⟨g, 0, none⟩) ∧ (wx.cell? ⟨g, 0, none⟩ = some (.int .i64 N) ∧ wx.cell? ⟨g, 1, none⟩ = some (.slice va ls.length vc)) ∧
    InR true wx lo hi (.slice va ls.length vc) ls.length 3 (cellE ls) ∧ (w.heap.size ≤ g ∧ g < wx.heap.size) ∧ (w.heap.size ≤ lo ∧ hi ≤ wx.heap.size) ∧ okS (.slice va ls.length vc) ∧ Below w.heap.size w wx
theorem box_endK {w wB wC : World} {T : TypeId} {N : Int} {ls : List Ed} {v : Value} (hk : okS v) (hb : Below w.heap.size w wB) (hc : Below wB.heap.size wB wC) (ho : OwnE wB wC v ls) :
    BoxK w (wC.alloc (.cells #[.int .i64 N, v] T)) N ls (.pointer (some ⟨wC.heap.size, 0, none⟩)) := by
  obtain ⟨a, c, rfl⟩ := ho.slice
  have hB := BoxG.new wC T N (.slice a ls.length c)
  have h1 := hb.size
  have h2 := hc.size
  exact ⟨_, a, c, wB.heap.size, wC.heap.size, rfl, ⟨hB.cells.1, hB.cells.2.1⟩, InR.keep ho ((Below.refl _ _).alloc (Nat.le_refl _) _), ⟨by omega, by simp⟩, ⟨h1, by simp⟩, hk, b_alloc (bel_trans hb hc) _⟩
theorem box_midK {w x wB wC : World} {T : TypeId} {N N0 : Int} {ls : List Ed} {v v0 : Value} (hk : okS v) (hx : Below w.heap.size w x) (hb : Below (x.alloc (.cells #[.int .i64 N0, v0] T)).heap.size (x.alloc (.cells #[.int .i64 N0, v0] T)) wB)
    (hc : Below wB.heap.size wB wC) (ho : OwnE wB wC v ls) :
    BoxK w ((wC.setCell ⟨x.heap.size, 0, none⟩ (.int .i64 N)).setCell ⟨x.heap.size, 1, none⟩ v) N ls (.pointer (some ⟨x.heap.size, 0, none⟩)) := by
  obtain ⟨a, c, rfl⟩ := ho.slice
  have hB := ((((BoxG.new x T N0 v0).keep hb).keep hc).set0 N).set (.slice a ls.length c)
  have h0 := hx.size
  have h1 := hb.size
  have h2 := hc.size
  have h3 : x.heap.size + 1 ≤ wB.heap.size := by simpa using h1
  have hk' : Chg x.heap.size (x.heap.size + 1) wC ((wC.setCell ⟨x.heap.size, 0, none⟩ (.int .i64 N)).setCell ⟨x.heap.size, 1, none⟩ (.slice a ls.length c)) := ((Chg.refl _ _ _).setCell (by simp) (by simp) _).setCell (by simp) (by simp) _
  exact ⟨_, a, c, wB.heap.size, wC.heap.size, rfl, ⟨hB.cells.1, hB.cells.2.1⟩, InR.chg ho hk' (.inl h3), ⟨h0, hB.cells.2.2.2.2⟩, ⟨by omega, hk'.size⟩, hk, bel_chg (bel_trans (bel_trans hx ((Below.refl _ _).alloc (Nat.le_refl _) _)) (bel_trans hb hc)) hk' h0⟩

def lB (n : Int) (es : List Ed) (c : Ch) : Bool := if c.1 = true then kB n es c.2.1 c.2.2.1 else putB n es c.2
def lN (n : Int) (es : List Ed) (c : Ch) : Int := if c.1 = true then kN n es c.2.1 c.2.2.1 else putN n es c.2
def lL (n : Int) (es : List Ed) (c : Ch) : List Ed := if c.1 = true then kR n es c.2.1 c.2.2.1 else putL n es c.2
theorem apG_l {n : Int} {es : List Ed} {c : Ch} : apG n es c = if lB n es c = true ∧ chOk c = true then some (lL n es c) else none := by
  obtain ⟨u, x, y, z⟩ := c
  cases u
  · rw [apG_put]
    simp only [lB, lL, chOk, putL]
    cases putB n es (x, y, z) <;> simp
  · simp only [apG, lB, lL, chOk, kR]
    cases kB n es x y <;> by_cases hz : z = 0 <;> simp [hz]
theorem lN_yes {n : Int} {es : List Ed} {c : Ch} (h : lB n es c = true) : lN n es c = n := by
  obtain ⟨u, x, y, z⟩ := c
  cases u
  · simp only [lB, lN, putN] at h ⊢; simp at h ⊢; intro h2; rw [h] at h2; cases h2
  · simp only [lB, lN, kN] at h ⊢; simp at h ⊢; intro h2; rw [h] at h2; cases h2
theorem lL_len {n : Int} {es : List Ed} {c : Ch} (hg : es.length ≤ 1000) : (lL n es c).length ≤ 1001 := by
  obtain ⟨u, x, y, z⟩ := c
  cases u
  · simp only [lL, putL]
    simp only [Bool.false_eq_true, if_false]
    split
    · have := pL_len es (x, y, z); omega
    · simp
  · simp only [lL, kR, if_true]
    split
    · unfold kL; rw [List.length_append, List.length_take, List.length_drop]; omega
    · simp

set_option maxRecDepth 20000 in
set_option maxHeartbeats 1000000 in
theorem l9Apply (n : Int) (es : List Ed) (c : Ch) (s : Value) (w : World) (hs : RowE w s es) (hl : es.length ≤ 1048576) :
    Calls Try.prog 49 #[.agg #[.int .i64 n, s], .agg #[.bool c.1, .int .i64 c.2.1, .int .i64 c.2.2.1, .int .i64 c.2.2.2]] w fun e w' => ∃ v, e = .returned (.tuple #[.agg #[.int .i64 (lN n es c), v], .bool (lB n es c)]) ∧ OwnE w w' v (lL n es c) ∧ okS v ∧ Below w.heap.size w w' := by
  obtain ⟨u, x, y, z⟩ := c
  obtain ⟨ad, cap, rfl, hz0⟩ := id hs
  clear hz0
  simp only
  obtain ⟨W, hW⟩ : ∃ W, W = (((w.alloc (.cells #[.int .i64 n, .slice ad es.length cap] 34)).alloc (.cells #[.bool u, .int .i64 x, .int .i64 y, .int .i64 z] 51)).alloc (.cells #[.int .i64 0, .slice none 0 0] 34)) := ⟨_, rfl⟩
  have hbW : Below w.heap.size w W := by rw [hW]; exact (((Below.refl _ _).alloc (Nat.le_refl _) _).alloc (by simp) _).alloc (by simp; omega) _
  have hsz : W.heap.size = w.heap.size + 3 := by rw [hW]; simp
  have hres : ∀ w', Below W.heap.size W w' → w'.cell? ⟨w.heap.size + 2, 0, none⟩ = some (.int .i64 0) ∧ w'.cell? ⟨w.heap.size + 2, 1, none⟩ = some (.slice none 0 0) ∧ w'.frozen? ⟨w.heap.size + 2, 0, none⟩ = false ∧ w'.frozen? ⟨w.heap.size + 2, 1, none⟩ = false := fun w' h =>
    ⟨(h.cell (p := ⟨w.heap.size + 2, 0, none⟩) (by simp only; omega)).trans (by rw [hW]; go_simp), (h.cell (p := ⟨w.heap.size + 2, 1, none⟩) (by simp only; omega)).trans (by rw [hW]; go_simp), (h.frozen (p := ⟨w.heap.size + 2, 0, none⟩) (by simp only; omega)).trans (by rw [hW]; go_simp), (h.frozen (p := ⟨w.heap.size + 2, 1, none⟩) (by simp only; omega)).trans (by rw [hW]; go_simp)⟩
  have hpu := sPutEdge n es x y z _ W (hs.keep hbW) hl
  have hcu := sCutEdge n es x y _ W (hs.keep hbW) hl
  have HRES := Lib.hid hres
  have HBW := Lib.hid hbW
  have HSZ := Lib.hid hsz
  have q0 : W.cell? ⟨w.heap.size, 0, none⟩ = some (.int .i64 n) := by rw [hW]; go_simp
  have q1 : W.cell? ⟨w.heap.size, 1, none⟩ = some (.slice ad es.length cap) := by rw [hW]; go_simp
  have q2 : W.cell? ⟨w.heap.size + 1, 0, none⟩ = some (.bool u) := by rw [hW]; go_simp
  have q3 : W.cell? ⟨w.heap.size + 1, 1, none⟩ = some (.int .i64 x) := by rw [hW]; go_simp
  have q4 : W.cell? ⟨w.heap.size + 1, 2, none⟩ = some (.int .i64 y) := by rw [hW]; go_simp
  have q5 : W.cell? ⟨w.heap.size + 1, 3, none⟩ = some (.int .i64 z) := by rw [hW]; go_simp
  have hfin : ∀ (w' : World) (a b : Value), Chg (w.heap.size + 2) (w.heap.size + 3) w' ((w'.setCell ⟨w.heap.size + 2, 0, none⟩ a).setCell ⟨w.heap.size + 2, 1, none⟩ b) := fun w' a b => ((Chg.refl _ _ _).setCell (by simp only; omega) (by simp only; omega) _).setCell (by simp only; omega) (by simp only; omega) _
  have HFIN := Lib.hid hfin
  clear hres hbW hsz hs hfin
  cases u
  · have e1 : lN n es (false, x, y, z) = putN n es (x, y, z) := rfl
    have e2 : lB n es (false, x, y, z) = putB n es (x, y, z) := rfl
    have e3 : lL n es (false, x, y, z) = putL n es (x, y, z) := rfl
    rw [e1, e2, e3]
    clear hcu e1 e2 e3
    generalize putN n es (x, y, z) = N at hpu ⊢
    generalize putB n es (x, y, z) = B at hpu ⊢
    generalize putL n es (x, y, z) = L at hpu ⊢
    have HP := Lib.hid hpu
    clear hpu
    have HWE := Lib.hid hW
    go_enter Try.func49, Try.ntmps49
    go_upto_region 1 with fail
    rw [← hW]
    clear hW
    go_wp2_with (go_at_call 73; refine HP.out.mono ?_; rintro e w3 ⟨v3, rfl, hown3, hok3, hb3⟩; obtain ⟨va, vc, hva, hz9⟩ := id hown3; subst hva; obtain ⟨k0, k1, l0, l1⟩ := HRES.out _ hb3; have HWN := Lib.hid hown3; have HOK := Lib.hid hok3; clear hown3 hz9 hok3)
    try simp only [Exit.inBlock, Exit.then]
    refine bodyPost_ret (v := .tuple #[.agg #[.int .i64 N, .slice va L.length vc], .bool B]) ?_ rfl ?_
    · rw [results_cell_tmp rfl]
      go_simp
    have h1 := HSZ.out
    exact ⟨_, rfl, (InR.chg HWN.out (HFIN.out _ _ _) (.inl (by omega))).wider (by omega) (HFIN.out _ _ _).size (Nat.le_refl _), HOK.out, bel_chg (bel_trans HBW.out hb3) (HFIN.out _ _ _) (by omega)⟩
  · have e1 : lN n es (true, x, y, z) = kN n es x y := rfl
    have e2 : lB n es (true, x, y, z) = kB n es x y := rfl
    have e3 : lL n es (true, x, y, z) = kR n es x y := rfl
    rw [e1, e2, e3]
    clear hpu e1 e2 e3
    generalize kN n es x y = N at hcu ⊢
    generalize kB n es x y = B at hcu ⊢
    generalize kR n es x y = L at hcu ⊢
    have HP := Lib.hid hcu
    clear hcu
    have HWE := Lib.hid hW
    go_enter Try.func49, Try.ntmps49
    go_upto_region 1 with fail
    rw [← hW]
    clear hW
    go_wp2_with (go_at_call 72; refine HP.out.mono ?_; rintro e w3 ⟨v3, rfl, hown3, hok3, hb3⟩; obtain ⟨va, vc, hva, hz9⟩ := id hown3; subst hva; obtain ⟨k0, k1, l0, l1⟩ := HRES.out _ hb3; have HWN := Lib.hid hown3; have HOK := Lib.hid hok3; clear hown3 hz9 hok3)
    try simp only [Exit.inBlock, Exit.then]
    refine bodyPost_ret (v := .tuple #[.agg #[.int .i64 N, .slice va L.length vc], .bool B]) ?_ rfl ?_
    · rw [results_cell_tmp rfl]
      go_simp
    have h1 := HSZ.out
    exact ⟨_, rfl, (InR.chg HWN.out (HFIN.out _ _ _) (.inl (by omega))).wider (by omega) (HFIN.out _ _ _).size (Nat.le_refl _), HOK.out, bel_chg (bel_trans HBW.out hb3) (HFIN.out _ _ _) (by omega)⟩

set_option maxRecDepth 20000 in
set_option maxHeartbeats 8000000 in
theorem sApplyChanges (n : Int) (es : List Ed) (cs : List Ch) (s t : Value) (w : World) (hs : RowE w s es) (ht : RowCh w t cs) (hok : okS s) (hl : es.length ≤ 1048576) (hl2 : cs.length ≤ 1048576) :
    Calls Try.prog 17 #[.agg #[.int .i64 n, s], t] w fun e w' => ∃ v, e = .returned (.tuple #[.agg #[.int .i64 (apN n es cs), v], .bool (apB n es cs)]) ∧ OwnE w w' v (apR n es cs) ∧ okS v ∧ Below w.heap.size w w' := by
  obtain ⟨ad, cap, rfl, hz0⟩ := id hs
  have hT := Lib.hid ht
  obtain ⟨ad2, cap2, rfl⟩ := ht.slice
  clear hz0
  obtain ⟨W, hW⟩ : ∃ W, W = ((w.alloc (.cells #[.int .i64 n, .slice ad es.length cap] 34)).alloc (.cells #[.int .i64 0, .slice none 0 0] 34)) := ⟨_, rfl⟩
  have hbW : Below w.heap.size w W := by rw [hW]; exact ((Below.refl _ _).alloc (Nat.le_refl _) _).alloc (by simp) _
  have hsz : W.heap.size = w.heap.size + 2 := by rw [hW]; simp
  have hgv := fun w' (h : Below W.heap.size W w') => sGraphValid n es _ w' (hs.keep (bel_trans hbW h)) (by omega)
  have hcp := fun w' (h : Below W.heap.size W w') => l2Copy n es _ w' (hs.keep (bel_trans hbW h)) hok hl
  have hres : ∀ w', Below W.heap.size W w' → (w'.cell? ⟨w.heap.size, 0, none⟩ = some (.int .i64 n) ∧ w'.cell? ⟨w.heap.size, 1, none⟩ = some (.slice ad es.length cap)) ∧ w'.cell? ⟨w.heap.size + 1, 0, none⟩ = some (.int .i64 0) ∧ w'.cell? ⟨w.heap.size + 1, 1, none⟩ = some (.slice none 0 0) ∧ w'.frozen? ⟨w.heap.size + 1, 0, none⟩ = false ∧ w'.frozen? ⟨w.heap.size + 1, 1, none⟩ = false := fun w' h =>
    ⟨⟨(h.cell (p := ⟨w.heap.size, 0, none⟩) (by simp only; omega)).trans (by rw [hW]; go_simp), (h.cell (p := ⟨w.heap.size, 1, none⟩) (by simp only; omega)).trans (by rw [hW]; go_simp)⟩, (h.cell (p := ⟨w.heap.size + 1, 0, none⟩) (by simp only; omega)).trans (by rw [hW]; go_simp), (h.cell (p := ⟨w.heap.size + 1, 1, none⟩) (by simp only; omega)).trans (by rw [hW]; go_simp), (h.frozen (p := ⟨w.heap.size + 1, 0, none⟩) (by simp only; omega)).trans (by rw [hW]; go_simp), (h.frozen (p := ⟨w.heap.size + 1, 1, none⟩) (by simp only; omega)).trans (by rw [hW]; go_simp)⟩
  have hfin : ∀ (w' : World) (x y : Value), Chg (w.heap.size + 1) (w.heap.size + 2) w' ((w'.setCell ⟨w.heap.size + 1, 0, none⟩ x).setCell ⟨w.heap.size + 1, 1, none⟩ y) := fun w' x y => ((Chg.refl _ _ _).setCell (by simp only; omega) (by simp only; omega) _).setCell (by simp only; omega) (by simp only; omega) _
  have HCP := Lib.hid hcp
  have HRES := Lib.hid hres
  have HBW := Lib.hid hbW
  have HSZ := Lib.hid hsz
  have HFIN := Lib.hid hfin
  clear hcp hres hbW hsz hs ht hok hfin
  cases hg : gVal n es
  · rw [apN_no (apB_bad hg), apB_bad hg, apR_no (apB_bad hg)]
    rw [hg] at hgv
    have HGV := Lib.hid hgv
    have HWE := Lib.hid hW
    clear hgv hg
    go_enter Try.func17, Try.ntmps17
    go_wp2_with fail
    rw [← hW]
    clear hW
    go_wp2_with (go_at_call 47; refine (HGV.out _ (Below.refl _ _)).mono ?_; rintro e w2 ⟨rfl, hb2⟩; obtain ⟨-, k0, k1, l0, l1⟩ := HRES.out _ hb2)
    try simp only [Exit.inBlock, Exit.then]
    refine bodyPost_ret (v := .tuple #[.agg #[.int .i64 0, .slice none 0 0], .bool false]) ?_ rfl ?_
    · rw [results_cell_tmp rfl]
      go_simp
    have h1 := HSZ.out
    exact ⟨_, rfl, ⟨none, 0, rfl, .inl rfl⟩, okS_nil, bel_chg (bel_trans HBW.out hb2) (HFIN.out _ _ _) (by omega)⟩
  rw [hg] at hgv
  have HGV := Lib.hid hgv
  have HG := Lib.hid hg
  by_cases h60 : cs.length ≤ 60
  rotate_left
  · rw [apN_no (apB_long h60), apB_long h60, apR_no (apB_long h60)]
    have hgt : (60 : Int) < cs.length := by omega
    have HWE := Lib.hid hW
    clear hgv hg
    go_enter Try.func17, Try.ntmps17
    go_wp2_with fail
    rw [← hW]
    clear hW
    go_wp2_with (go_at_call 47; refine (HGV.out _ (Below.refl _ _)).mono ?_; rintro e w2 ⟨rfl, hb2⟩; obtain ⟨-, k0, k1, l0, l1⟩ := HRES.out _ hb2)
    try simp only [Exit.inBlock, Exit.then]
    refine bodyPost_ret (v := .tuple #[.agg #[.int .i64 0, .slice none 0 0], .bool false]) ?_ rfl ?_
    · rw [results_cell_tmp rfl]
      go_simp
    have h1 := HSZ.out
    exact ⟨_, rfl, ⟨none, 0, rfl, .inl rfl⟩, okS_nil, bel_chg (bel_trans HBW.out hb2) (HFIN.out _ _ _) (by omega)⟩
  have hngt : ¬ ((60 : Int) < cs.length) := by omega
  have HWE := Lib.hid hW
  obtain ⟨B, hBB⟩ : ∃ B, B = apB n es cs := ⟨_, rfl⟩
  obtain ⟨N, hNN⟩ : ∃ N, N = apN n es cs := ⟨_, rfl⟩
  obtain ⟨L, hLL⟩ : ∃ L, L = apR n es cs := ⟨_, rfl⟩
  rw [← hBB, ← hNN, ← hLL]
  have HNO : Hid (apB n es cs = false → B = false ∧ N = 0 ∧ L = []) := Lib.hid (fun h => ⟨by rw [hBB]; exact h, by rw [hNN]; exact apN_no h, by rw [hLL]; exact apR_no h⟩)
  have HYES : Hid (∀ xs, apT n es cs cs.length = some xs → B = true ∧ N = n ∧ L = xs) := Lib.hid (fun xs h => by
    have h1 := apB_some h60 hg h
    exact ⟨by rw [hBB]; exact h1, by rw [hNN]; exact apN_yes h1, by rw [hLL]; exact apR_yes h1 h⟩)
  clear hgv hg hBB hNN hLL
  go_enter Try.func17, Try.ntmps17
  go_wp2_with fail
  rw [← hW]
  clear hW
  go_wp2_with (first | (go_at_call 47; refine (HGV.out _ (Below.refl _ _)).mono ?_; rintro e w2 ⟨rfl, hb2⟩; obtain ⟨⟨j0, j1⟩, -⟩ := HRES.out _ hb2) | (go_at_call 48; refine (HCP.out _ hb2).mono ?_; rintro e w3 ⟨v3, rfl, hown3, hb3⟩; have hE3 : OwnE w2 w3 v3 es := OwnE.of hown3 (Nat.le_succ _); have hok3 := own_ok hown3; obtain ⟨va3, vc3, hva, hz9⟩ := id hE3; subst hva; have HW3 := Lib.hid (And.intro hE3 (And.intro hok3 (And.intro hb2 hb3))); have HLT3 := Lib.hid hb3.size; clear hown3 hz9 hok3 hE3))
  obtain ⟨w8, hw8⟩ : ∃ w8, w8 = (w3.alloc (.cells #[.int .i64 n, .slice va3 es.length vc3] 34)) := ⟨_, rfl⟩
  have hb38 : Below w3.heap.size w3 w8 := by rw [hw8]; exact (Below.refl _ _).alloc (Nat.le_refl _) _
  have hb8 : Below W.heap.size W w8 := bel_trans (bel_trans HW3.out.2.2.1 HW3.out.2.2.2) hb38
  have hap0 : ApS W w8 w8 w3.heap.size n va3 vc3 w2.heap.size w3.heap.size es := by
    refine ⟨Chg.refl _ _ _, by rw [hw8]; exact BoxG.new w3 _ n _, InR.keep HW3.out.1 hb38, HW3.out.2.1, .inl (Nat.le_refl _), HW3.out.2.2.1.size, hb38.size⟩
  have hs8 : w3.heap.size < w8.heap.size := by rw [hw8]; simp
  have hlow3 : W.heap.size ≤ w3.heap.size := by have := HW3.out.2.2.1.size; have := HLT3.out; omega
  obtain ⟨B6, hB6⟩ : ∃ B6, B6 = w3.heap.size := ⟨_, rfl⟩
  rw [← hB6] at hap0 hs8 hlow3
  have HAP0 := Lib.hid hap0
  have HB8 := Lib.hid hb8
  have HS8 := Lib.hid hs8
  have HL6 := Lib.hid hlow3
  clear hb38 hb8 hap0 hs8 hlow3 hb2 hb3
  go_wp2
  try rw [← hw8]
  try rw [← hB6]
  clear hw8 hB6
  go_loopw [7] (fun c wr => ∃ (k : Nat) (xs : List Ed) (va : Option Addr) (vc lo hi : Nat), k ≤ cs.length ∧ c = .int .i64 k ∧ apT n es cs k = some xs ∧ Hid (ApS W w8 wr B6 n va vc lo hi xs)) (fun c _ => cs.length - (intOf c).toNat)
  case atStart => exact ⟨0, es, va3, vc3, _, _, Nat.zero_le _, rfl, apT_zero n es cs, HAP0⟩
  case round =>
    obtain ⟨k, xs, va, vc, lo, hi, hk, rfl, hap, HX⟩ := hrel
    have HAP := Lib.hid hap
    clear hap
    have hbr : Below W.heap.size W wr := bel_chg HB8.out HX.out.chg HL6.out
    have HBR := Lib.hid hbr
    obtain ⟨-, k0, k1, l0, l1⟩ := HRES.out _ hbr
    obtain ⟨x0, x1, f0, f1, hlt8⟩ := HX.out.box.cells
    have hgw : gVal n xs = true := apT_val HG.out cs _ _ HAP.out
    have hxl : xs.length ≤ 40 := (gVal_iff.1 hgw).1.2.2
    clear hbr hgw
    by_cases hlt : k < cs.length
    · have hlt' : (k : Int) < cs.length := by omega
      obtain ⟨b, off, cap', he, hb, hc⟩ := hT.out.at hlt
      injection he with he1 he2 he3
      subst he1 he3
      obtain ⟨ch, hch⟩ : ∃ ch, ch = cs.getD k chZ := ⟨_, rfl⟩
      have h4 := hc k hlt
      rw [← hch] at h4
      have hnx := apT_succ (n := n) (es := es) hlt
      rw [HAP.out, ← hch, Option.bind_some, apG_l] at hnx
      have happ := fun w' (h : Below wr.heap.size wr w') => l9Apply n xs ch _ w' (HX.out.row.edges.keep h) (by omega)
      obtain ⟨u, x, y, z⟩ := ch
      simp only at h4 happ
      have hold : ∀ w' : World, Below wr.heap.size wr w' → (w'.cell? ⟨B6, 0, none⟩ = some (.int .i64 n) ∧ w'.cell? ⟨B6, 1, none⟩ = some (.slice va xs.length vc) ∧ w'.cell? ⟨b, off + k * 4, none⟩ = some (.bool u) ∧ w'.cell? ⟨b, off + k * 4 + 1, none⟩ = some (.int .i64 x) ∧ w'.cell? ⟨b, off + k * 4 + 2, none⟩ = some (.int .i64 y) ∧ w'.cell? ⟨b, off + k * 4 + 3, none⟩ = some (.int .i64 z)) := fun w' h => ⟨(h.cell (p := ⟨B6, 0, none⟩) hlt8).trans x0, (h.cell (p := ⟨B6, 1, none⟩) hlt8).trans x1, ((bel_trans HBW.out (bel_trans HBR.out h)).cell (p := ⟨b, _, none⟩) hb).trans h4.1, ((bel_trans HBW.out (bel_trans HBR.out h)).cell (p := ⟨b, _, none⟩) hb).trans h4.2.1, ((bel_trans HBW.out (bel_trans HBR.out h)).cell (p := ⟨b, _, none⟩) hb).trans h4.2.2.1, ((bel_trans HBW.out (bel_trans HBR.out h)).cell (p := ⟨b, _, none⟩) hb).trans h4.2.2.2⟩
      have HOLD := Lib.hid hold
      have hlN : lB n xs (u, x, y, z) = true → lN n xs (u, x, y, z) = n := lN_yes
      generalize lN n xs (u, x, y, z) = N9 at happ hlN
      generalize lB n xs (u, x, y, z) = B9 at happ hnx hlN
      generalize lL n xs (u, x, y, z) = L9 at happ hnx
      have hcz : chOk (u, x, y, z) = (!u || decide (z = 0)) := rfl
      rw [hcz] at hnx
      have HNX := Lib.hid hnx
      have HAPP := Lib.hid happ
      have HLN := Lib.hid hlN
      have HBOX := Lib.hid (And.intro k0 (And.intro k1 (And.intro l0 l1)))
      have HX0 := Lib.hid (And.intro x0 (And.intro x1 (And.intro f0 f1)))
      clear hc h4 hch hnx happ hold hlN hcz k0 k1 l0 l1 x0 x1 f0 f1
      go_upto_region 7 with fail
      go_cut [8, 9] from 27 to 55 (fun p c wx => BoxK wr wx N9 L9 p ∧ c = .bool B9)
      · go_region_held3 (fun w' : World => w'.cell? ⟨B6, 0, none⟩ = some (.int .i64 n) ∧ w'.cell? ⟨B6, 1, none⟩ = some (.slice va xs.length vc) ∧ w'.cell? ⟨b, off + k * 4, none⟩ = some (.bool u) ∧ w'.cell? ⟨b, off + k * 4 + 1, none⟩ = some (.int .i64 x) ∧ w'.cell? ⟨b, off + k * 4 + 2, none⟩ = some (.int .i64 y) ∧ w'.cell? ⟨b, off + k * 4 + 3, none⟩ = some (.int .i64 z)) (exact HOLD.out _ (by repeat' (first | with_reducible exact Below.refl _ _ | with_reducible apply b_alloc | with_reducible apply b_drew | with_reducible apply b_set | (refine @bel_trans _ ?_ _ ?_ ?_; rotate_right; with_reducible assumption)))) (first | (go_at_call 49; (with_reducible refine (HAPP.out _ (by repeat' (first | with_reducible exact Below.refl _ _ | with_reducible apply b_alloc | with_reducible apply b_drew | with_reducible apply b_set | (refine @bel_trans _ ?_ _ ?_ ?_; rotate_right; with_reducible assumption)))).mono ?_); rintro e wC ⟨v, rfl, hown, hokv, hbC⟩; obtain ⟨va2, vc2, rfl⟩ := hown.slice; (try (refine (fun (zz : wr.heap.size < wC.heap.size) => ?_) (Nat.lt_of_lt_of_le ?_ hbC.size); rotate_right; (first | with_reducible assumption | (simp <;> omega)))); (try (refine (fun (cc : wC.cell? ⟨wr.heap.size, 0, none⟩ = some (.int .i64 0)) => ?_) ((hbC.cell (p := ⟨wr.heap.size, 0, none⟩) ?_).trans ?_); rotate_left; (first | with_reducible assumption | (simp <;> omega)); (first | with_reducible assumption | (focus (go_simp; done))))); (try (refine (fun (ff : wC.frozen? ⟨wr.heap.size, 0, none⟩ = false) => ?_) ((hbC.frozen (p := ⟨wr.heap.size, 0, none⟩) ?_).trans ?_); rotate_left; (first | with_reducible assumption | (simp <;> omega)); (first | with_reducible assumption | (focus (go_simp; done))))); (try (refine (fun (cc : wC.cell? ⟨wr.heap.size, 1, none⟩ = some (.slice none 0 0)) => ?_) ((hbC.cell (p := ⟨wr.heap.size, 1, none⟩) ?_).trans ?_); rotate_left; (first | with_reducible assumption | (simp <;> omega)); (first | with_reducible assumption | (focus (go_simp; done))))); (try (refine (fun (ff : wC.frozen? ⟨wr.heap.size, 1, none⟩ = false) => ?_) ((hbC.frozen (p := ⟨wr.heap.size, 1, none⟩) ?_).trans ?_); rotate_left; (first | with_reducible assumption | (simp <;> omega)); (first | with_reducible assumption | (focus (go_simp; done)))))))
        all_goals
          go_wp2_with fail
          go_meet
          first | (refine ⟨?_, rfl⟩; apply box_endK; (case hk => with_reducible assumption); (case ho => with_reducible assumption); (case hc => with_reducible assumption); (case hb => repeat' (first | with_reducible exact Below.refl _ _ | with_reducible apply b_alloc | with_reducible apply b_drew | with_reducible apply b_set | (refine @bel_trans _ ?_ _ ?_ ?_; rotate_right; with_reducible assumption))); done) | (refine ⟨?_, rfl⟩; apply box_midK (T := 34) (N0 := 0) (v0 := .slice none 0 0); (case hk => with_reducible assumption); (case ho => with_reducible assumption); (case hc => with_reducible assumption); (case hb => repeat' (first | with_reducible exact Below.refl _ _ | with_reducible apply b_alloc | with_reducible apply b_drew | with_reducible apply b_set | (refine @bel_trans _ ?_ _ ?_ ?_; rotate_right; with_reducible assumption))); (case hx => repeat' (first | with_reducible exact Below.refl _ _ | with_reducible apply b_alloc | with_reducible apply b_drew | with_reducible apply b_set | (refine @bel_trans _ ?_ _ ?_ ?_; rotate_right; with_reducible assumption))); done)
      obtain ⟨w9, hw9⟩ : ∃ w9, w9 = wc := ⟨_, rfl⟩
      subst hw9
      obtain ⟨⟨g9, va9, vc9, lo9, hi9, rfl, ⟨y0, y1⟩, hrow9, ⟨hge9, hlt9⟩, ⟨hlo9, hhi9⟩, hok9, hb9⟩, rfl⟩ := hcut
      obtain ⟨-, -, c0, c1, c2, c3⟩ := HOLD.out _ hb9
      obtain ⟨-, k0, k1, l0, l1⟩ := HRES.out _ (bel_trans HBR.out hb9)
      obtain ⟨b0, b1, f0, f1, hlt6⟩ := (HX.out.box.keep hb9).cells
      have HR9 := Lib.hid (And.intro hrow9 (And.intro hlo9 (And.intro hhi9 (And.intro hok9 hb9))))
      clear hrow9 hlo9 hhi9 hok9
      cases u
      · cases B9
        · have hnone := HNX.out
          rw [if_neg (by simp)] at hnone
          obtain ⟨rfl, rfl, rfl⟩ := HNO.out (apB_none (k := k + 1) (by omega) hnone)
          clear hnone
          go_wp2
          try simp only [Exit.inBlock, Exit.then]
          refine bodyPost_ret (v := .tuple #[.agg #[.int .i64 0, .slice none 0 0], .bool false]) ?_ rfl ?_
          · rw [results_cell_tmp rfl]
            go_simp
          have h1 := HSZ.out
          exact ⟨_, rfl, ⟨none, 0, rfl, .inl rfl⟩, okS_nil, bel_chg (bel_trans HBW.out (bel_trans HBR.out hb9)) (HFIN.out _ _ _) (by omega)⟩
        · have hsome := HNX.out
          rw [if_pos (by simp)] at hsome
          obtain rfl := HLN.out rfl
          have HS := Lib.hid hsome
          have HN := Lib.hid (HX.out.next (by have := HL6.out; have := HS8.out; omega) HR9.out.2.2.2.2 (HR9.out.1.wider HR9.out.2.1 HR9.out.2.2.1 (Nat.le_refl _)) HR9.out.2.2.2.1)
          clear hsome
          go_wp2
          go_roundw
          case rel => first | exact ⟨k + 1, _, va9, vc9, _, _, by omega, by go_num, HS.out, HN⟩ | exact ⟨_, ⟨k + 1, _, va9, vc9, _, _, by omega, by go_num, HS.out, HN⟩, rfl⟩ | exact ⟨_, ⟨k + 1, by omega, by go_num, _, HS.out, va9, vc9, _, _, HN⟩, rfl⟩ | exact ⟨_, _, ⟨k + 1, by omega, by go_num, _, HS.out, va9, vc9, _, _, HN⟩, rfl, rfl, rfl⟩
          case measure => simp [intOf]; omega
      · cases B9
        · have hnone := HNX.out
          rw [if_neg (by simp)] at hnone
          obtain ⟨rfl, rfl, rfl⟩ := HNO.out (apB_none (k := k + 1) (by omega) hnone)
          clear hnone
          go_wp2
          try simp only [Exit.inBlock, Exit.then]
          refine bodyPost_ret (v := .tuple #[.agg #[.int .i64 0, .slice none 0 0], .bool false]) ?_ rfl ?_
          · rw [results_cell_tmp rfl]
            go_simp
          have h1 := HSZ.out
          exact ⟨_, rfl, ⟨none, 0, rfl, .inl rfl⟩, okS_nil, bel_chg (bel_trans HBW.out (bel_trans HBR.out hb9)) (HFIN.out _ _ _) (by omega)⟩
        · by_cases hz : z = 0
          · subst hz
            have hsome := HNX.out
            rw [if_pos (by simp)] at hsome
            obtain rfl := HLN.out rfl
            have HS := Lib.hid hsome
            have HN := Lib.hid (HX.out.next (by have := HL6.out; have := HS8.out; omega) HR9.out.2.2.2.2 (HR9.out.1.wider HR9.out.2.1 HR9.out.2.2.1 (Nat.le_refl _)) HR9.out.2.2.2.1)
            clear hsome
            go_wp2
            go_roundw
            case rel => first | exact ⟨k + 1, _, va9, vc9, _, _, by omega, by go_num, HS.out, HN⟩ | exact ⟨_, ⟨k + 1, _, va9, vc9, _, _, by omega, by go_num, HS.out, HN⟩, rfl⟩ | exact ⟨_, ⟨k + 1, by omega, by go_num, _, HS.out, va9, vc9, _, _, HN⟩, rfl⟩ | exact ⟨_, _, ⟨k + 1, by omega, by go_num, _, HS.out, va9, vc9, _, _, HN⟩, rfl, rfl, rfl⟩
            case measure => simp [intOf]; omega
          · have hz2 : (z == 0) = false := by simpa using hz
            have hz3 : (z != 0) = true := by simpa using hz
            have hnone := HNX.out
            rw [if_neg (by simp [hz])] at hnone
            obtain ⟨rfl, rfl, rfl⟩ := HNO.out (apB_none (k := k + 1) (by omega) hnone)
            clear hnone
            go_wp2
            try simp only [Exit.inBlock, Exit.then]
            refine bodyPost_ret (v := .tuple #[.agg #[.int .i64 0, .slice none 0 0], .bool false]) ?_ rfl ?_
            · rw [results_cell_tmp rfl]
              go_simp
            have h1 := HSZ.out
            exact ⟨_, rfl, ⟨none, 0, rfl, .inl rfl⟩, okS_nil, bel_chg (bel_trans HBW.out (bel_trans HBR.out hb9)) (HFIN.out _ _ _) (by omega)⟩
    · have hke : k = cs.length := by omega
      have hkk : ¬ ((k : Int) < cs.length) := by omega
      have hfull := HAP.out
      rw [hke] at hfull
      obtain ⟨rfl, rfl, rfl⟩ := HYES.out _ hfull
      have HK := Lib.hid hke
      clear hke hfull
      go_wp2
      try simp only [Exit.inBlock, Exit.then]
      refine bodyPost_ret (v := .tuple #[.agg #[.int .i64 N, .slice va L.length vc], .bool true]) ?_ rfl ?_
      · rw [results_cell_tmp rfl]
        go_simp
      have e1 := HSZ.out
      have e2 := HX.out.low
      exact ⟨_, rfl, (InR.chg HX.out.row (HFIN.out _ _ _) (.inl (by omega))).wider (by omega) (Nat.le_trans HX.out.high (HFIN.out wr _ _).size) (Nat.le_refl _), HX.out.ok, bel_chg (bel_trans HBW.out HBR.out) (HFIN.out _ _ _) (by omega)⟩

end Go.Proofs.Ytbhhbhopogkmnaa
