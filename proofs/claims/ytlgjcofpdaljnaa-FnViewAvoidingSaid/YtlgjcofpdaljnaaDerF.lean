/- ViewAvoiding of the program and of the model; whether a node is reached (reaches). -/
import Derived.Test.YtlgjcofpdaljnaaDerE
namespace Go.Proofs.Ytlgjcofpdaljnaa
open Go.RowKit Go.BigFrame Go.Deep
set_option linter.unusedVariables false
set_option linter.unusedSimpArgs false

theorem OwnE.rowD {w w' : World} {v : Value} {es : List Ed} (h : OwnE w w' v es) : RowE w' v es := InR.edges h

def vaB (n : Int) (es : List Ed) (m a : Int) (ns : List Int) : Bool := onOk n es m [a] && (ndB n ns && !(inL ns a))
def vaM (n : Int) (es : List Ed) (m a : Int) (ns : List Int) : Int := if vaB n es m a ns = true then m else 0
def vaA (n : Int) (es : List Ed) (m a : Int) (ns : List Int) : Int := if vaB n es m a ns = true then a else 0
def vaL (n : Int) (es : List Ed) (m a : Int) (ns : List Int) : List Int := if vaB n es m a ns = true then vIter m (woL es ns) n.toNat (vStart m n a) else []
theorem vaB_no {n : Int} {es : List Ed} {m a : Int} {ns : List Int} (h : vaB n es m a ns = false) : vaM n es m a ns = 0 ∧ vaA n es m a ns = 0 ∧ vaL n es m a ns = [] := by
  unfold vaM vaA vaL; rw [h]; exact ⟨rfl, rfl, rfl⟩
theorem vaB_yes {n : Int} {es : List Ed} {m a : Int} {ns : List Int} (h : vaB n es m a ns = true) : vaM n es m a ns = m ∧ vaA n es m a ns = a ∧ vaL n es m a ns = vIter m (woL es ns) n.toNat (vStart m n a) := by
  unfold vaM vaA vaL; rw [h]; exact ⟨rfl, rfl, rfl⟩
theorem vaL_len (n : Int) (es : List Ed) (m a : Int) (ns : List Int) : (vaL n es m a ns).length ≤ 12 := by
  unfold vaL
  split
  · rename_i h
    simp only [vaB, Bool.and_eq_true] at h
    have := gVal_n (onOk_parts h.1).1
    rw [vIter_length, vStart_length]
    omega
  · simp
theorem onOk_wo {n : Int} {es : List Ed} {ns : List Int} (h : gVal n es = true) (m : Int) (xs : List Int) : onOk n (woL es ns) m xs = onOk n es m xs := by
  unfold onOk woL
  rw [gVal_filter _ h, h]
theorem woB_parts {n : Int} {es : List Ed} {ns : List Int} (h : woB n es ns = true) : gVal n es = true ∧ ndB n ns = true := by
  simpa [woB] using h

set_option maxHeartbeats 4000000 in
theorem viewAvoiding (n m a : Int) (es : List Ed) (ns : List Int) (s t : Value) (w : World) (hs : RowE w s es) (ht : Row w t ns) (hl : es.length ≤ 281474976710656) (hl2 : ns.length ≤ 281474976710656) :
    Calls Try.prog 18 #[.agg #[.int .i64 n, s], .int .i64 m, .int .i64 a, t] w fun e w' => ∃ v, e = .returned (.tuple #[.agg #[.int .i64 (vaM n es m a ns), .int .i64 (vaA n es m a ns), v], .bool (vaB n es m a ns)]) ∧ OwnV w w' v (vaL n es m a ns) ∧ okS v ∧ Below w.heap.size w w' := by
  obtain ⟨ad, cap, rfl, hz0⟩ := id hs
  obtain ⟨at0, ct, rfl, hz1⟩ := id ht
  clear hz0 hz1
  obtain ⟨W, hW⟩ : ∃ W, W = ((w.alloc (.cells #[.int .i64 n, .slice ad es.length cap] 25)).alloc (.cells #[.int .i64 0, .int .i64 0, .slice none 0 0] 28)) := ⟨_, rfl⟩
  have hbW : Below w.heap.size w W := by rw [hW]; exact ((Below.refl _ _).alloc (Nat.le_refl _) _).alloc (by simp) _
  have hsz : W.heap.size = w.heap.size + 2 := by rw [hW]; simp
  have hres : ∀ w', Below W.heap.size W w' → (w'.cell? ⟨w.heap.size, 0, none⟩ = some (.int .i64 n) ∧ w'.cell? ⟨w.heap.size, 1, none⟩ = some (.slice ad es.length cap)) ∧ w'.cell? ⟨w.heap.size + 1, 0, none⟩ = some (.int .i64 0) ∧ w'.cell? ⟨w.heap.size + 1, 1, none⟩ = some (.int .i64 0) ∧ w'.cell? ⟨w.heap.size + 1, 2, none⟩ = some (.slice none 0 0) ∧ w'.frozen? ⟨w.heap.size + 1, 0, none⟩ = false ∧ w'.frozen? ⟨w.heap.size + 1, 1, none⟩ = false ∧ w'.frozen? ⟨w.heap.size + 1, 2, none⟩ = false := fun w' h =>
    ⟨⟨(h.cell (p := ⟨w.heap.size, 0, none⟩) (by simp only; omega)).trans (by rw [hW]; go_simp), (h.cell (p := ⟨w.heap.size, 1, none⟩) (by simp only; omega)).trans (by rw [hW]; go_simp)⟩, (h.cell (p := ⟨w.heap.size + 1, 0, none⟩) (by simp only; omega)).trans (by rw [hW]; go_simp), (h.cell (p := ⟨w.heap.size + 1, 1, none⟩) (by simp only; omega)).trans (by rw [hW]; go_simp), (h.cell (p := ⟨w.heap.size + 1, 2, none⟩) (by simp only; omega)).trans (by rw [hW]; go_simp), (h.frozen (p := ⟨w.heap.size + 1, 0, none⟩) (by simp only; omega)).trans (by rw [hW]; go_simp), (h.frozen (p := ⟨w.heap.size + 1, 1, none⟩) (by simp only; omega)).trans (by rw [hW]; go_simp), (h.frozen (p := ⟨w.heap.size + 1, 2, none⟩) (by simp only; omega)).trans (by rw [hW]; go_simp)⟩
  have hfin : ∀ (w' : World) (x y z : Value), Chg (w.heap.size + 1) (w.heap.size + 2) w' (((w'.setCell ⟨w.heap.size + 1, 0, none⟩ x).setCell ⟨w.heap.size + 1, 1, none⟩ y).setCell ⟨w.heap.size + 1, 2, none⟩ z) := fun w' x y z => (((Chg.refl _ _ _).setCell (by simp only; omega) (by simp only; omega) _).setCell (by simp only; omega) (by simp only; omega) _).setCell (by simp only; omega) (by simp only; omega) _
  have hwo := fun w' (h : Below W.heap.size W w') => withoutNodes n es ns _ _ w' (hs.keep (bel_trans hbW h)) (ht.keep (bel_trans hbW h)) hl hl2
  have hco := fun w' (h : Below W.heap.size W w') => containsI ns a _ w' (ht.keep (bel_trans hbW h)) hl2
  have HRES := Lib.hid hres
  have HBW := Lib.hid hbW
  have HSZ := Lib.hid hsz
  have HFIN := Lib.hid hfin
  have HWE := Lib.hid hW
  clear hres hbW hsz hs ht hfin
  cases hwb : woB n es ns
  · have e0 : vaB n es m a ns = false := by
      unfold vaB onOk
      unfold woB at hwb
      cases hg : gVal n es <;> cases hd : ndB n ns <;> simp [hg, hd] at hwb ⊢
    obtain ⟨e1, e2, e3⟩ := vaB_no e0
    obtain ⟨e4, e5⟩ := woB_bad hwb
    rw [e0, e1, e2, e3]
    rw [e4, e5, hwb] at hwo
    generalize ([] : List Ed) = L at hwo
    have HWO := Lib.hid hwo
    clear hwo hco e0 e1 e2 e3 e4 e5 hwb
    go_enter Try.func18, Try.ntmps18
    go_wp2_with fail
    rw [← hW]
    clear hW
    obtain ⟨⟨j0, j1⟩, k0, k1, k2, l0, l1, l2⟩ := HRES.out _ (Below.refl _ _)
    go_wp2_with (first | (go_at_call 23; refine (HWO.out _ (Below.refl _ _)).mono ?_; rintro e w1 ⟨v, rfl, hown, hokv, hb1⟩; obtain ⟨va, vc, rfl, hvz⟩ := id hown; clear hvz; have HO := Lib.hid (And.intro hown hokv); have HB1 := Lib.hid hb1; have HL1 := Lib.hid (Box.new w1 25 #[.int .i64 0, .slice va L.length vc]); clear hb1 hown hokv; have HA1 : Hid (Below w1.heap.size w1 (w1.alloc (.cells #[.int .i64 0, .slice va L.length vc] 25))) := Lib.hid ((Below.refl _ _).alloc (Nat.le_refl _) _); clear j0 j1 k0 k1 k2 l0 l1 l2; obtain ⟨⟨j0, j1⟩, k0, k1, k2, l0, l1, l2⟩ := HRES.out _ (bel_trans HB1.out HA1.out)))
    try simp only [Exit.inBlock, Exit.then]
    refine bodyPost_ret (v := .tuple #[.agg #[.int .i64 0, .int .i64 0, .slice none 0 0], .bool false]) ?_ rfl ?_
    · rw [results_cell_tmp rfl]
      go_simp
    have h1 := HSZ.out
    exact ⟨_, rfl, OwnV.nil _ _, okS_nil, bel_chg (bel_trans HBW.out (bel_trans HB1.out HA1.out)) (HFIN.out _ _ _ _) (by omega)⟩
  obtain ⟨hg, hd⟩ := woB_parts hwb
  obtain ⟨e4, e5⟩ := woB_yes hwb
  rw [e4, e5, hwb] at hwo
  have hlw : (woL es ns).length ≤ 281474976710656 := Nat.le_trans (filter_lenE _ _) hl
  obtain ⟨L, hL⟩ : ∃ L, L = woL es ns := ⟨_, rfl⟩
  rw [← hL] at hwo
  have HWO := Lib.hid hwo
  cases hin : inL ns a
  · rw [hin] at hco
    have HCO := Lib.hid hco
    have hvo := fun (v : Value) w' (h : RowE w' v L) => viewOf n m a L v w' h (by rw [hL]; exact hlw)
    have hvb : onOk n L m [a] = vaB n es m a ns := by rw [hL, onOk_wo hg]; unfold vaB; rw [hd, hin]; simp
    have hfa : stM n L m a = vaM n es m a ns ∧ stA n L m a = vaA n es m a ns ∧ voL n L m a = vaL n es m a ns := by
      unfold stM stA voL vaM vaA vaL
      rw [hvb, ← hL]
      exact ⟨rfl, rfl, rfl⟩
    rw [hfa.1, hfa.2.1, hfa.2.2, hvb] at hvo
    generalize vaM n es m a ns = VM at hvo ⊢
    generalize vaA n es m a ns = VA at hvo ⊢
    generalize vaL n es m a ns = VL at hvo ⊢
    generalize vaB n es m a ns = VB at hvo ⊢
    have HVO := Lib.hid hvo
    clear hwo hco hvo hvb hfa hin hg hd e4 e5 hL hlw hwb
    go_enter Try.func18, Try.ntmps18
    go_wp2_with fail
    rw [← hW]
    clear hW
    obtain ⟨⟨j0, j1⟩, k0, k1, k2, l0, l1, l2⟩ := HRES.out _ (Below.refl _ _)
    go_wp2_with (first | (go_at_call 23; refine (HWO.out _ (Below.refl _ _)).mono ?_; rintro e w1 ⟨v, rfl, hown, hokv, hb1⟩; obtain ⟨va, vc, rfl, hvz⟩ := id hown; clear hvz; have HO := Lib.hid (And.intro hown hokv); have HB1 := Lib.hid hb1; have HL1 := Lib.hid (Box.new w1 25 #[.int .i64 n, .slice va L.length vc]); clear hb1 hown hokv; have HA1 : Hid (Below w1.heap.size w1 (w1.alloc (.cells #[.int .i64 n, .slice va L.length vc] 25))) := Lib.hid ((Below.refl _ _).alloc (Nat.le_refl _) _); clear j0 j1 k0 k1 k2 l0 l1 l2; obtain ⟨⟨j0, j1⟩, k0, k1, k2, l0, l1, l2⟩ := HRES.out _ (bel_trans HB1.out HA1.out)) | (go_at_call 51; refine (HCO.out _ (bel_trans HB1.out HA1.out)).mono ?_; rintro e w2 ⟨rfl, hb2⟩; have HB2 := Lib.hid (bel_trans HA1.out hb2); have HL2 := Lib.hid (HL1.out.keep hb2); clear hb2; clear j0 j1 k0 k1 k2 l0 l1 l2; obtain ⟨⟨j0, j1⟩, k0, k1, k2, l0, l1, l2⟩ := HRES.out _ (bel_trans HB1.out HB2.out); have i0 : w2.cell? ⟨w1.heap.size, 0, none⟩ = some (.int .i64 n) := (by simpa using HL2.out.cell 0); have i1 : w2.cell? ⟨w1.heap.size, 1, none⟩ = some (.slice va L.length vc) := (by simpa using HL2.out.cell 1)) | (go_at_call 21; (with_reducible refine (HVO.out _ _ ((OwnE.rowD HO.out.1).keep HB2.out)).mono ?_); rintro e w3 ⟨v, rfl, hown3, hok3, hb3⟩; obtain ⟨ua, uc, rfl⟩ := hown3.slice; have HO3 := Lib.hid (And.intro hown3 hok3); have HB3 := Lib.hid hb3; clear hown3 hok3 hb3; clear j0 j1 k0 k1 k2 l0 l1 l2; obtain ⟨⟨j0, j1⟩, k0, k1, k2, l0, l1, l2⟩ := HRES.out _ (bel_trans HB1.out (bel_trans HB2.out HB3.out))))
    try simp only [Exit.inBlock, Exit.then]
    refine bodyPost_ret (v := .tuple #[.agg #[.int .i64 VM, .int .i64 VA, .slice ua VL.length uc], .bool VB]) ?_ rfl ?_
    · rw [results_cell_tmp rfl]
      go_simp
    have h1 := HSZ.out
    have h2 := HB1.out.size
    have h3 := HB2.out.size
    refine ⟨_, rfl, ?_, HO3.out.2, bel_chg (bel_trans HBW.out (bel_trans HB1.out (bel_trans HB2.out HB3.out))) (HFIN.out _ _ _ _) (by omega)⟩
    exact (InR.chg HO3.out.1 (HFIN.out _ _ _ _) (.inl (by omega))).wider (by omega) (HFIN.out _ _ _ _).size (Nat.le_refl _)
  · have e0 : vaB n es m a ns = false := by unfold vaB; rw [hin]; simp
    obtain ⟨e1, e2, e3⟩ := vaB_no e0
    rw [e0, e1, e2, e3]
    rw [hin] at hco
    have HCO := Lib.hid hco
    clear hwo hco e0 e1 e2 e3 hin hg hd e4 e5 hL hlw hwb
    go_enter Try.func18, Try.ntmps18
    go_wp2_with fail
    rw [← hW]
    clear hW
    obtain ⟨⟨j0, j1⟩, k0, k1, k2, l0, l1, l2⟩ := HRES.out _ (Below.refl _ _)
    go_wp2_with (first | (go_at_call 23; refine (HWO.out _ (Below.refl _ _)).mono ?_; rintro e w1 ⟨v, rfl, hown, hokv, hb1⟩; obtain ⟨va, vc, rfl, hvz⟩ := id hown; clear hvz; have HO := Lib.hid (And.intro hown hokv); have HB1 := Lib.hid hb1; have HL1 := Lib.hid (Box.new w1 25 #[.int .i64 n, .slice va L.length vc]); clear hb1 hown hokv; have HA1 : Hid (Below w1.heap.size w1 (w1.alloc (.cells #[.int .i64 n, .slice va L.length vc] 25))) := Lib.hid ((Below.refl _ _).alloc (Nat.le_refl _) _); clear j0 j1 k0 k1 k2 l0 l1 l2; obtain ⟨⟨j0, j1⟩, k0, k1, k2, l0, l1, l2⟩ := HRES.out _ (bel_trans HB1.out HA1.out)) | (go_at_call 51; refine (HCO.out _ (bel_trans HB1.out HA1.out)).mono ?_; rintro e w2 ⟨rfl, hb2⟩; have HB2 := Lib.hid (bel_trans HA1.out hb2); have HL2 := Lib.hid (HL1.out.keep hb2); clear hb2; clear j0 j1 k0 k1 k2 l0 l1 l2; obtain ⟨⟨j0, j1⟩, k0, k1, k2, l0, l1, l2⟩ := HRES.out _ (bel_trans HB1.out HB2.out); have i0 : w2.cell? ⟨w1.heap.size, 0, none⟩ = some (.int .i64 n) := (by simpa using HL2.out.cell 0); have i1 : w2.cell? ⟨w1.heap.size, 1, none⟩ = some (.slice va L.length vc) := (by simpa using HL2.out.cell 1)))
    try simp only [Exit.inBlock, Exit.then]
    refine bodyPost_ret (v := .tuple #[.agg #[.int .i64 0, .int .i64 0, .slice none 0 0], .bool false]) ?_ rfl ?_
    · rw [results_cell_tmp rfl]
      go_simp
    have h1 := HSZ.out
    exact ⟨_, rfl, OwnV.nil _ _, okS_nil, bel_chg (bel_trans HBW.out (bel_trans HB1.out HB2.out)) (HFIN.out _ _ _ _) (by omega)⟩

set_option maxHeartbeats 4000000 in
theorem sViewAvoiding (n m a : Int) (es : List Ed) (ns : List Int) (s t : Value) (w : World) (hs : RowE w s es) (ht : Row w t ns) (hok : okS t) (hl : es.length ≤ 281474976710656) (hl2 : ns.length ≤ 281474976710656) :
    Calls Try.prog 19 #[.agg #[.int .i64 n, s], .int .i64 m, .int .i64 a, t] w fun e w' => ∃ v, e = .returned (.tuple #[.agg #[.int .i64 (vaM n es m a ns), .int .i64 (vaA n es m a ns), v], .bool (vaB n es m a ns)]) ∧ OwnV w w' v (vaL n es m a ns) ∧ okS v ∧ Below w.heap.size w w' := by
  obtain ⟨ad, cap, rfl, hz0⟩ := id hs
  obtain ⟨at0, ct, rfl, hz1⟩ := id ht
  clear hz0 hz1
  obtain ⟨W, hW⟩ : ∃ W, W = ((w.alloc (.cells #[.int .i64 n, .slice ad es.length cap] 25)).alloc (.cells #[.int .i64 0, .int .i64 0, .slice none 0 0] 28)) := ⟨_, rfl⟩
  have hbW : Below w.heap.size w W := by rw [hW]; exact ((Below.refl _ _).alloc (Nat.le_refl _) _).alloc (by simp) _
  have hsz : W.heap.size = w.heap.size + 2 := by rw [hW]; simp
  have hres : ∀ w', Below W.heap.size W w' → (w'.cell? ⟨w.heap.size, 0, none⟩ = some (.int .i64 n) ∧ w'.cell? ⟨w.heap.size, 1, none⟩ = some (.slice ad es.length cap)) ∧ w'.cell? ⟨w.heap.size + 1, 0, none⟩ = some (.int .i64 0) ∧ w'.cell? ⟨w.heap.size + 1, 1, none⟩ = some (.int .i64 0) ∧ w'.cell? ⟨w.heap.size + 1, 2, none⟩ = some (.slice none 0 0) ∧ w'.frozen? ⟨w.heap.size + 1, 0, none⟩ = false ∧ w'.frozen? ⟨w.heap.size + 1, 1, none⟩ = false ∧ w'.frozen? ⟨w.heap.size + 1, 2, none⟩ = false := fun w' h =>
    ⟨⟨(h.cell (p := ⟨w.heap.size, 0, none⟩) (by simp only; omega)).trans (by rw [hW]; go_simp), (h.cell (p := ⟨w.heap.size, 1, none⟩) (by simp only; omega)).trans (by rw [hW]; go_simp)⟩, (h.cell (p := ⟨w.heap.size + 1, 0, none⟩) (by simp only; omega)).trans (by rw [hW]; go_simp), (h.cell (p := ⟨w.heap.size + 1, 1, none⟩) (by simp only; omega)).trans (by rw [hW]; go_simp), (h.cell (p := ⟨w.heap.size + 1, 2, none⟩) (by simp only; omega)).trans (by rw [hW]; go_simp), (h.frozen (p := ⟨w.heap.size + 1, 0, none⟩) (by simp only; omega)).trans (by rw [hW]; go_simp), (h.frozen (p := ⟨w.heap.size + 1, 1, none⟩) (by simp only; omega)).trans (by rw [hW]; go_simp), (h.frozen (p := ⟨w.heap.size + 1, 2, none⟩) (by simp only; omega)).trans (by rw [hW]; go_simp)⟩
  have hfin : ∀ (w' : World) (x y z : Value), Chg (w.heap.size + 1) (w.heap.size + 2) w' (((w'.setCell ⟨w.heap.size + 1, 0, none⟩ x).setCell ⟨w.heap.size + 1, 1, none⟩ y).setCell ⟨w.heap.size + 1, 2, none⟩ z) := fun w' x y z => (((Chg.refl _ _ _).setCell (by simp only; omega) (by simp only; omega) _).setCell (by simp only; omega) (by simp only; omega) _).setCell (by simp only; omega) (by simp only; omega) _
  have hr3 := fun w' (h : Below W.heap.size W w') => l3Right n m a es _ w' (hs.keep (bel_trans hbW h)) hl
  have hno := fun w' (h : Below W.heap.size W w') (hn : n ≤ 12) => l10Nodes n ns (.slice ad es.length cap) _ w' hn (ht.keep (bel_trans hbW h)) hok hl2
  have hin := fun w' (h : Below W.heap.size W w') => l5In ns a _ w' (ht.keep (bel_trans hbW h)) hl2
  have hwi := fun w' (h : Below W.heap.size W w') (hl : es.length ≤ 1048576) => l10Without n es ns _ _ w' (hs.keep (bel_trans hbW h)) (ht.keep (bel_trans hbW h)) hl hl2
  have HRES := Lib.hid hres
  have HBW := Lib.hid hbW
  have HSZ := Lib.hid hsz
  have HFIN := Lib.hid hfin
  have HWE := Lib.hid hW
  clear hres hbW hsz hs ht hfin hok
  cases hr : onOk n es m [a]
  · have e0 : vaB n es m a ns = false := by unfold vaB; rw [hr]; rfl
    obtain ⟨e1, e2, e3⟩ := vaB_no e0
    rw [e0, e1, e2, e3]
    rw [hr] at hr3
    have HR3 := Lib.hid hr3
    clear hr3 hno hin hwi e0 e1 e2 e3 hr
    go_enter Try.func19, Try.ntmps19
    go_wp2_with fail
    rw [← hW]
    clear hW
    obtain ⟨⟨j0, j1⟩, k0, k1, k2, l0, l1, l2⟩ := HRES.out _ (Below.refl _ _)
    go_wp2_with (first | (go_at_call 52; refine (HR3.out _ (Below.refl _ _)).mono ?_; rintro e w1 ⟨rfl, hb1⟩; have HB1 := Lib.hid hb1; clear hb1; clear j0 j1 k0 k1 k2 l0 l1 l2; obtain ⟨⟨j0, j1⟩, k0, k1, k2, l0, l1, l2⟩ := HRES.out _ HB1.out))
    try simp only [Exit.inBlock, Exit.then]
    refine bodyPost_ret (v := .tuple #[.agg #[.int .i64 0, .int .i64 0, .slice none 0 0], .bool false]) ?_ rfl ?_
    · rw [results_cell_tmp rfl]
      go_simp
    have h1 := HSZ.out
    exact ⟨_, rfl, OwnV.nil _ _, okS_nil, bel_chg (bel_trans HBW.out HB1.out) (HFIN.out _ _ _ _) (by omega)⟩
  have hp := onOk_parts hr
  have hn := gVal_n hp.1
  rw [hr] at hr3
  have HR3 := Lib.hid hr3
  cases hd : ndB n ns
  · have e0 : vaB n es m a ns = false := by unfold vaB; rw [hd]; simp
    obtain ⟨e1, e2, e3⟩ := vaB_no e0
    rw [e0, e1, e2, e3]
    rw [hd] at hno
    have HNO := Lib.hid (fun w' h => hno w' h (by omega))
    clear hr3 hno hin hwi e0 e1 e2 e3 hr hd hp
    go_enter Try.func19, Try.ntmps19
    go_wp2_with fail
    rw [← hW]
    clear hW
    obtain ⟨⟨j0, j1⟩, k0, k1, k2, l0, l1, l2⟩ := HRES.out _ (Below.refl _ _)
    go_wp2_with (first | (go_at_call 52; refine (HR3.out _ (Below.refl _ _)).mono ?_; rintro e w1 ⟨rfl, hb1⟩; have HB1 := Lib.hid hb1; clear hb1; clear j0 j1 k0 k1 k2 l0 l1 l2; obtain ⟨⟨j0, j1⟩, k0, k1, k2, l0, l1, l2⟩ := HRES.out _ HB1.out) | (go_at_call 53; refine (HNO.out _ HB1.out).mono ?_; rintro e w2 ⟨rfl, hb2⟩; have HB2 := Lib.hid (bel_trans HB1.out hb2); clear hb2; clear j0 j1 k0 k1 k2 l0 l1 l2; obtain ⟨⟨j0, j1⟩, k0, k1, k2, l0, l1, l2⟩ := HRES.out _ HB2.out))
    try simp only [Exit.inBlock, Exit.then]
    refine bodyPost_ret (v := .tuple #[.agg #[.int .i64 0, .int .i64 0, .slice none 0 0], .bool false]) ?_ rfl ?_
    · rw [results_cell_tmp rfl]
      go_simp
    have h1 := HSZ.out
    exact ⟨_, rfl, OwnV.nil _ _, okS_nil, bel_chg (bel_trans HBW.out HB2.out) (HFIN.out _ _ _ _) (by omega)⟩
  rw [hd] at hno
  have HNO := Lib.hid (fun w' h => hno w' h (by omega))
  cases hi : inL ns a
  · have e0 : vaB n es m a ns = true := by unfold vaB; rw [hr, hd, hi]; rfl
    obtain ⟨e1, e2, e3⟩ := vaB_yes e0
    rw [e0, e1, e2, e3]
    rw [hi] at hin
    have HIN := Lib.hid hin
    have h40 := (gVal_parts hp.1).2.2.1
    have HWI := Lib.hid (fun w' h => hwi w' h (by omega))
    have ha := hp.2.1 a (List.mem_singleton.2 rfl)
    have he : eAll n.toNat (woL es ns) := eAll_of (gVal_filter _ hp.1)
    have hlw : (woL es ns).length ≤ 1048576 := Nat.le_trans (filter_lenE _ _) (by omega)
    obtain ⟨N, rfl⟩ := Int.eq_ofNat_of_zero_le (show 0 ≤ n by omega)
    obtain ⟨A, rfl⟩ := Int.eq_ofNat_of_zero_le ha.1
    rw [Int.toNat_natCast] at he ⊢
    have hlv := fun (v : Value) w' (h : RowE w' v (woL es ns)) => l3View m (woL es ns) N A v w' hp.2.2 h hlw (by omega) (by omega) he
    generalize woL es ns = L at HWI hlv ⊢
    generalize vIter m L N (vStart m N A) = VL at hlv ⊢
    have HLV := Lib.hid hlv
    clear hr3 hno hin hwi hlv e0 e1 e2 e3 hr hd hp hi ha he hlw h40
    go_enter Try.func19, Try.ntmps19
    go_wp2_with fail
    rw [← hW]
    clear hW
    obtain ⟨⟨j0, j1⟩, k0, k1, k2, l0, l1, l2⟩ := HRES.out _ (Below.refl _ _)
    go_wp2_with (first | (go_at_call 52; refine (HR3.out _ (Below.refl _ _)).mono ?_; rintro e w1 ⟨rfl, hb1⟩; have HB1 := Lib.hid hb1; clear hb1; clear j0 j1 k0 k1 k2 l0 l1 l2; obtain ⟨⟨j0, j1⟩, k0, k1, k2, l0, l1, l2⟩ := HRES.out _ HB1.out) | (go_at_call 53; refine (HNO.out _ HB1.out).mono ?_; rintro e w2 ⟨rfl, hb2⟩; have HB2 := Lib.hid (bel_trans HB1.out hb2); clear hb2; clear j0 j1 k0 k1 k2 l0 l1 l2; obtain ⟨⟨j0, j1⟩, k0, k1, k2, l0, l1, l2⟩ := HRES.out _ HB2.out) | (go_at_call 54; refine (HIN.out _ HB2.out).mono ?_; rintro e w3 ⟨rfl, hb3⟩; have HB3 := Lib.hid (bel_trans HB2.out hb3); clear hb3; clear j0 j1 k0 k1 k2 l0 l1 l2; obtain ⟨⟨j0, j1⟩, k0, k1, k2, l0, l1, l2⟩ := HRES.out _ HB3.out) | (go_at_call 56; refine (HWI.out _ HB3.out).mono ?_; rintro e w4 ⟨v, rfl, hown4, hok4, hb4⟩; have HO4 := Lib.hid hown4; have HB4 := Lib.hid (bel_trans HB3.out hb4); clear hown4 hok4 hb4; clear j0 j1 k0 k1 k2 l0 l1 l2; obtain ⟨⟨j0, j1⟩, k0, k1, k2, l0, l1, l2⟩ := HRES.out _ HB4.out) | (go_at_call 55; (with_reducible refine (HLV.out _ _ (OwnE.rowD HO4.out)).mono ?_); rintro e w5 ⟨u, rfl, hown5, hok5, hb5⟩; obtain ⟨ua, uc, rfl⟩ := hown5.slice; have HO5 := Lib.hid (And.intro hown5 hok5); have HB5 := Lib.hid hb5; clear hown5 hok5 hb5; clear j0 j1 k0 k1 k2 l0 l1 l2; obtain ⟨⟨j0, j1⟩, k0, k1, k2, l0, l1, l2⟩ := HRES.out _ (bel_trans HB4.out HB5.out)))
    try simp only [Exit.inBlock, Exit.then]
    refine bodyPost_ret (v := .tuple #[.agg #[.int .i64 m, .int .i64 A, .slice ua VL.length uc], .bool true]) ?_ rfl ?_
    · rw [results_cell_tmp rfl]
      go_simp
    have h1 := HSZ.out
    have h2 := HB4.out.size
    refine ⟨_, rfl, ?_, HO5.out.2, bel_chg (bel_trans HBW.out (bel_trans HB4.out HB5.out)) (HFIN.out _ _ _ _) (by omega)⟩
    exact (InR.chg HO5.out.1 (HFIN.out _ _ _ _) (.inl (by omega))).wider (by omega) (HFIN.out _ _ _ _).size (Nat.le_refl _)
  · have e0 : vaB n es m a ns = false := by unfold vaB; rw [hi]; simp
    obtain ⟨e1, e2, e3⟩ := vaB_no e0
    rw [e0, e1, e2, e3]
    rw [hi] at hin
    have HIN := Lib.hid hin
    clear hr3 hno hin hwi e0 e1 e2 e3 hr hd hp hi
    go_enter Try.func19, Try.ntmps19
    go_wp2_with fail
    rw [← hW]
    clear hW
    obtain ⟨⟨j0, j1⟩, k0, k1, k2, l0, l1, l2⟩ := HRES.out _ (Below.refl _ _)
    go_wp2_with (first | (go_at_call 52; refine (HR3.out _ (Below.refl _ _)).mono ?_; rintro e w1 ⟨rfl, hb1⟩; have HB1 := Lib.hid hb1; clear hb1; clear j0 j1 k0 k1 k2 l0 l1 l2; obtain ⟨⟨j0, j1⟩, k0, k1, k2, l0, l1, l2⟩ := HRES.out _ HB1.out) | (go_at_call 53; refine (HNO.out _ HB1.out).mono ?_; rintro e w2 ⟨rfl, hb2⟩; have HB2 := Lib.hid (bel_trans HB1.out hb2); clear hb2; clear j0 j1 k0 k1 k2 l0 l1 l2; obtain ⟨⟨j0, j1⟩, k0, k1, k2, l0, l1, l2⟩ := HRES.out _ HB2.out) | (go_at_call 54; refine (HIN.out _ HB2.out).mono ?_; rintro e w3 ⟨rfl, hb3⟩; have HB3 := Lib.hid (bel_trans HB2.out hb3); clear hb3; clear j0 j1 k0 k1 k2 l0 l1 l2; obtain ⟨⟨j0, j1⟩, k0, k1, k2, l0, l1, l2⟩ := HRES.out _ HB3.out))
    try simp only [Exit.inBlock, Exit.then]
    refine bodyPost_ret (v := .tuple #[.agg #[.int .i64 0, .int .i64 0, .slice none 0 0], .bool false]) ?_ rfl ?_
    · rw [results_cell_tmp rfl]
      go_simp
    have h1 := HSZ.out
    exact ⟨_, rfl, OwnV.nil _ _, okS_nil, bel_chg (bel_trans HBW.out HB3.out) (HFIN.out _ _ _ _) (by omega)⟩

/-- Whether a walk leads to a node. -/
def rcB (m : Int) (es : List Ed) (N A X : Nat) : Bool := (vIter m es N (vStart m N A)).getD X 0 != mNone m

set_option maxHeartbeats 2000000 in
theorem reaches (m : Int) (es : List Ed) (N A X : Nat) (s : Value) (w : World) (hm : mKind m = true) (hs : RowE w s es) (hl : es.length ≤ 1048576) (hA : A < N) (hX : X < N) (h12 : N ≤ 12) (he : eAll N es) :
    Calls Try.prog 65 #[opsV m, .agg #[.int .i64 N, s], .int .i64 A, .int .i64 X] w fun e w' => e = .returned (.bool (rcB m es N A X)) ∧ Below w.heap.size w w' := by
  obtain ⟨ad, cap, rfl, hz0⟩ := id hs
  clear hz0
  obtain ⟨T, rv, fn, fe, fb, fo, fj, rn, re, rb, ro, rj, D⟩ := disp hm
  have hval := D.val
  have hn1 := D.mn.run
  have hn2 := D.mn.ahead
  have hn3 := D.mn.enter
  have HC := Lib.hid D.cn
  have hb0 : Below w.heap.size w (w.alloc (.cells #[.int .i64 N, .slice ad es.length cap] 25)) := (Below.refl _ _).alloc (Nat.le_refl _) _
  have hrv := fun w' (h : Below w.heap.size w w') => rightValues m es N A _ w' hm (hs.keep h) hl hA h12 he
  rw [hval] at hrv ⊢
  have hlen : X < (vIter m es N (vStart m N A)).length := by rw [vIter_length, vStart_length, Int.toNat_natCast]; exact hX
  unfold rcB
  obtain ⟨z, hz⟩ : ∃ z, z = (vIter m es N (vStart m N A)).getD X 0 := ⟨_, rfl⟩
  obtain ⟨L, hL⟩ : ∃ L, L = vIter m es N (vStart m N A) := ⟨_, rfl⟩
  rw [← hz]
  rw [← hL] at hz hlen hrv
  have hX' : (X : Int) < L.length := by omega
  have HRV := Lib.hid hrv
  have HB0 := Lib.hid hb0
  have HZ := Lib.hid hz
  obtain ⟨NO, hNO⟩ : ∃ q, q = mNone m := ⟨_, rfl⟩
  rw [← hNO]
  have HCN : Hid (∀ w, Calls Try.prog fn #[rn] w fun e w' => e = .returned (.int .i64 NO) ∧ Below w.heap.size w w') := Lib.hid (by rw [hNO]; exact D.cn)
  clear hrv hb0 hz hL D hval hs he HC hNO
  go_enter Try.func65, Try.ntmps65
  go_wp2_with (go_at_call 59; refine (HRV.out _ HB0.out).mono ?_; rintro e w1 ⟨v, r, rfl, hown, hokv, hrr, hb1⟩; obtain ⟨va, vc, rfl⟩ := hown.slice; have HO := Lib.hid hown; have HB1 := Lib.hid (bel_trans HB0.out hb1); clear hown hokv hrr hb1)
  obtain ⟨bz, off, cz, hse, hbz, hc⟩ := (InR.rowI HO.out).at hlen
  injection hse with hsa _ hsc
  subst hsa hsc
  have hcz := hc X hlen
  rw [← HZ.out] at hcz
  have FF : Hid (∀ w'', Below w1.heap.size w1 w'' → w''.cell? ⟨bz, off + X, none⟩ = some (.int .i64 z)) := Lib.hid (fun w'' h => (h.cell (p := ⟨bz, _, none⟩) hbz).trans hcz)
  clear hc hcz
  refine wp_region_below (by kernel_rfl) (by kernel_rfl) ?_
  repeat (go_big_quiet_step ((intro hw; first | with_reducible rfl | (have f0 := FF.out _ hw; simp only [f0, Result.andThen]; first | exact ⟨trivial, rfl⟩ | exact ⟨rfl, rfl⟩) | (with_reducible exact quietB (HCN.out _) hw))))
  refine wpQuiet_nil ?_
  intro w2 hw2
  go_wp2
  go_ret
  exact ⟨rfl, bel_trans HB1.out hw2⟩
end Go.Proofs.Ytlgjcofpdaljnaa
