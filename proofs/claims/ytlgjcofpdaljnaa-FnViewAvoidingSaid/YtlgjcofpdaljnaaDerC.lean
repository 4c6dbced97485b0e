/- leaveOut, WithoutNodes and ViewAvoiding of the program. -/
import Derived.Test.YtlgjcofpdaljnaaDerB
import Derived.Shelf.Abstract
namespace Go.Proofs.Ytlgjcofpdaljnaa
open Go.RowKit Go.BigFrame Go.Deep
set_option linter.unusedVariables false
set_option linter.unusedSimpArgs false

set_option maxHeartbeats 2000000 in
theorem leaveOut (n : Int) (es : List Ed) (ns : List Int) (s t : Value) (w : World) (hs : RowE w s es) (ht : Row w t ns) (hl : es.length ≤ 1048576) (hl2 : ns.length ≤ 281474976710656) :
    Calls Try.prog 62 #[.agg #[.int .i64 n, s], t] w fun e w' => ∃ v, e = .returned (.agg #[.int .i64 n, v]) ∧ OwnE w w' v (woL es ns) ∧ okS v ∧ Below w.heap.size w w' := by
  obtain ⟨ad, cap, rfl, hz0⟩ := id hs
  obtain ⟨at0, ct, rfl, hz1⟩ := id ht
  clear hz0 hz1
  have hmf : ∀ (fn : Fn) (first cap : Array Value) (w : World), (Instr.makeFunc fn first cap).run Try.prog w = .ok (.func fn first cap) w := fun _ _ _ _ => rfl
  obtain ⟨W, hW⟩ : ∃ W, W = (((w.alloc (.cells #[.int .i64 n, .slice ad es.length cap] 25)).alloc (.cells #[.slice at0 ns.length ct] 26)).alloc (.cells #[.int .i64 0, .slice none 0 0] 25)) := ⟨_, rfl⟩
  have hbW : Below w.heap.size w W := by rw [hW]; exact (((Below.refl _ _).alloc (Nat.le_refl _) _).alloc (by simp) _).alloc (by simp; omega) _
  have hsz : W.heap.size = w.heap.size + 3 := by rw [hW]; simp
  have hres : ∀ w', Below W.heap.size W w' → (w'.cell? ⟨w.heap.size, 0, none⟩ = some (.int .i64 n) ∧ w'.cell? ⟨w.heap.size, 1, none⟩ = some (.slice ad es.length cap)) ∧ w'.cell? ⟨w.heap.size + 2, 0, none⟩ = some (.int .i64 0) ∧ w'.cell? ⟨w.heap.size + 2, 1, none⟩ = some (.slice none 0 0) ∧ w'.frozen? ⟨w.heap.size + 2, 0, none⟩ = false ∧ w'.frozen? ⟨w.heap.size + 2, 1, none⟩ = false := fun w' h =>
    ⟨⟨(h.cell (p := ⟨w.heap.size, 0, none⟩) (by simp only; omega)).trans (by rw [hW]; go_simp), (h.cell (p := ⟨w.heap.size, 1, none⟩) (by simp only; omega)).trans (by rw [hW]; go_simp)⟩, (h.cell (p := ⟨w.heap.size + 2, 0, none⟩) (by simp only; omega)).trans (by rw [hW]; go_simp), (h.cell (p := ⟨w.heap.size + 2, 1, none⟩) (by simp only; omega)).trans (by rw [hW]; go_simp), (h.frozen (p := ⟨w.heap.size + 2, 0, none⟩) (by simp only; omega)).trans (by rw [hW]; go_simp), (h.frozen (p := ⟨w.heap.size + 2, 1, none⟩) (by simp only; omega)).trans (by rw [hW]; go_simp)⟩
  have hfin : ∀ (w' : World) (x y : Value), Chg (w.heap.size + 2) (w.heap.size + 3) w' ((w'.setCell ⟨w.heap.size + 2, 0, none⟩ x).setCell ⟨w.heap.size + 2, 1, none⟩ y) := fun w' x y => ((Chg.refl _ _ _).setCell (by simp only; omega) (by simp only; omega) _).setCell (by simp only; omega) (by simp only; omega) _
  have hke := keeps_leaveOut es ns (.slice at0 ns.length ct) (w.heap.size + 1) W (by omega) (by rw [hW]; go_simp) (ht.keep hbW) hl2
  have heg : ∀ args w, (callFunc 94 args).run Try.prog w = .ok (.enter 94 args) w := enters_of Try.func94 (by kernel_rfl) rfl
  have hew := edgesWhere n es _ _ _ (woP ns) W heg hke (hs.keep hbW) hl
  have HEW := Lib.hid hew
  have HRES := Lib.hid hres
  have HBW := Lib.hid hbW
  have HSZ := Lib.hid hsz
  have HFIN := Lib.hid hfin
  have HWE := Lib.hid hW
  clear hres hbW hsz hs ht hfin hke hew heg
  unfold woL
  generalize es.filter (woP ns) = L at HEW ⊢
  go_enter Try.func62, Try.ntmps62
  go_wp2_with fail
  rw [← hW]
  clear hW
  obtain ⟨⟨j0, j1⟩, -⟩ := HRES.out _ (Below.refl _ _)
  go_wp2_with (go_at_call 71; refine HEW.out.mono ?_; rintro e w1 ⟨v, rfl, hown, hokv, hb1⟩; obtain ⟨va, vc, rfl, hvz⟩ := id hown; clear hvz; have HO := Lib.hid (And.intro hown hokv); have HB1 := Lib.hid hb1; obtain ⟨-, k0, k1, l0, l1⟩ := HRES.out _ hb1; clear hown hokv hb1)
  try simp only [Exit.inBlock, Exit.then]
  refine bodyPost_ret (v := .agg #[.int .i64 n, .slice va L.length vc]) ?_ rfl ?_
  · rw [results_cell1 rfl]
    go_simp
  have h1 := HSZ.out
  have h2 := HB1.out.size
  refine ⟨_, rfl, ?_, HO.out.2, bel_chg (bel_trans HBW.out HB1.out) (HFIN.out _ _ _) (by omega)⟩
  exact (InR.chg HO.out.1 (HFIN.out _ _ _) (.inl (by omega))).wider (by omega) (HFIN.out _ _ _).size (Nat.le_refl _)

theorem woB_bad {n : Int} {es : List Ed} {ns : List Int} (h : woB n es ns = false) : woN n es ns = 0 ∧ woR n es ns = [] := by
  unfold woN woR; rw [h]; exact ⟨rfl, rfl⟩
theorem woB_yes {n : Int} {es : List Ed} {ns : List Int} (h : woB n es ns = true) : woN n es ns = n ∧ woR n es ns = woL es ns := by
  unfold woN woR; rw [h]; exact ⟨rfl, rfl⟩

set_option maxHeartbeats 2000000 in
theorem withoutNodes (n : Int) (es : List Ed) (ns : List Int) (s t : Value) (w : World) (hs : RowE w s es) (ht : Row w t ns) (hl : es.length ≤ 281474976710656) (hl2 : ns.length ≤ 281474976710656) :
    Calls Try.prog 23 #[.agg #[.int .i64 n, s], t] w fun e w' => ∃ v, e = .returned (.tuple #[.agg #[.int .i64 (woN n es ns), v], .bool (woB n es ns)]) ∧ OwnE w w' v (woR n es ns) ∧ okS v ∧ Below w.heap.size w w' := by
  obtain ⟨ad, cap, rfl, hz0⟩ := id hs
  obtain ⟨at0, ct, rfl, hz1⟩ := id ht
  clear hz0 hz1
  obtain ⟨W, hW⟩ : ∃ W, W = ((w.alloc (.cells #[.int .i64 n, .slice ad es.length cap] 25)).alloc (.cells #[.int .i64 0, .slice none 0 0] 25)) := ⟨_, rfl⟩
  have hbW : Below w.heap.size w W := by rw [hW]; exact ((Below.refl _ _).alloc (Nat.le_refl _) _).alloc (by simp) _
  have hsz : W.heap.size = w.heap.size + 2 := by rw [hW]; simp
  have hgv := fun w' (h : Below W.heap.size W w') => graphValid n es _ w' (hs.keep (bel_trans hbW h)) hl
  have hlo := fun w' (h : Below W.heap.size W w') (hl : es.length ≤ 1048576) => leaveOut n es ns _ _ w' (hs.keep (bel_trans hbW h)) (ht.keep (bel_trans hbW h)) hl hl2
  have had := fun w' (h : Below W.heap.size W w') (hn : n ≤ 12) => areDifferentNodes n ns (.slice ad es.length cap) _ w' hn (ht.keep (bel_trans hbW h)) hl2
  have hres : ∀ w', Below W.heap.size W w' → (w'.cell? ⟨w.heap.size, 0, none⟩ = some (.int .i64 n) ∧ w'.cell? ⟨w.heap.size, 1, none⟩ = some (.slice ad es.length cap)) ∧ w'.cell? ⟨w.heap.size + 1, 0, none⟩ = some (.int .i64 0) ∧ w'.cell? ⟨w.heap.size + 1, 1, none⟩ = some (.slice none 0 0) ∧ w'.frozen? ⟨w.heap.size + 1, 0, none⟩ = false ∧ w'.frozen? ⟨w.heap.size + 1, 1, none⟩ = false := fun w' h =>
    ⟨⟨(h.cell (p := ⟨w.heap.size, 0, none⟩) (by simp only; omega)).trans (by rw [hW]; go_simp), (h.cell (p := ⟨w.heap.size, 1, none⟩) (by simp only; omega)).trans (by rw [hW]; go_simp)⟩, (h.cell (p := ⟨w.heap.size + 1, 0, none⟩) (by simp only; omega)).trans (by rw [hW]; go_simp), (h.cell (p := ⟨w.heap.size + 1, 1, none⟩) (by simp only; omega)).trans (by rw [hW]; go_simp), (h.frozen (p := ⟨w.heap.size + 1, 0, none⟩) (by simp only; omega)).trans (by rw [hW]; go_simp), (h.frozen (p := ⟨w.heap.size + 1, 1, none⟩) (by simp only; omega)).trans (by rw [hW]; go_simp)⟩
  have hfin : ∀ (w' : World) (x y : Value), Chg (w.heap.size + 1) (w.heap.size + 2) w' ((w'.setCell ⟨w.heap.size + 1, 0, none⟩ x).setCell ⟨w.heap.size + 1, 1, none⟩ y) := fun w' x y => ((Chg.refl _ _ _).setCell (by simp only; omega) (by simp only; omega) _).setCell (by simp only; omega) (by simp only; omega) _
  have HRES := Lib.hid hres
  have HBW := Lib.hid hbW
  have HSZ := Lib.hid hsz
  have HFIN := Lib.hid hfin
  clear hres hbW hsz hs ht hfin
  cases hg : gVal n es
  · obtain ⟨e1, e2⟩ := woB_bad (n := n) (es := es) (ns := ns) (by unfold woB; rw [hg]; rfl)
    rw [e1, e2, show woB n es ns = false by unfold woB; rw [hg]; rfl]
    rw [hg] at hgv
    have HGV := Lib.hid hgv
    have HWE := Lib.hid hW
    clear hgv hlo had hg e1 e2
    go_enter Try.func23, Try.ntmps23
    go_wp2_with fail
    rw [← hW]
    clear hW
    obtain ⟨⟨j0, j1⟩, -⟩ := HRES.out _ (Below.refl _ _)
    go_wp2_with (go_at_call 60; refine (HGV.out _ (Below.refl _ _)).mono ?_; rintro e w1 ⟨rfl, hb1⟩; obtain ⟨-, k0, k1, l0, l1⟩ := HRES.out _ hb1)
    try simp only [Exit.inBlock, Exit.then]
    refine bodyPost_ret (v := .tuple #[.agg #[.int .i64 0, .slice none 0 0], .bool false]) ?_ rfl ?_
    · rw [results_cell_tmp rfl]
      go_simp
    have h1 := HSZ.out
    exact ⟨_, rfl, ⟨none, 0, rfl, .inl rfl⟩, okS_nil, bel_chg (bel_trans HBW.out hb1) (HFIN.out _ _ _) (by omega)⟩
  rw [hg] at hgv
  have hn := gVal_n hg
  have HGV := Lib.hid hgv
  cases hd : ndB n ns
  · have e0 : woB n es ns = false := by unfold woB; rw [hg, hd]; rfl
    obtain ⟨e1, e2⟩ := woB_bad e0
    rw [e1, e2, e0]
    rw [hd] at had
    have HAD := Lib.hid (fun w' h => had w' h (by omega))
    have HWE := Lib.hid hW
    clear hgv hlo had hg e1 e2 e0 hd hn
    go_enter Try.func23, Try.ntmps23
    go_wp2_with fail
    rw [← hW]
    clear hW
    obtain ⟨⟨j0, j1⟩, -⟩ := HRES.out _ (Below.refl _ _)
    go_wp2_with (first | (go_at_call 60; refine (HGV.out _ (Below.refl _ _)).mono ?_; rintro e w1 ⟨rfl, hb1⟩; have HB1 := Lib.hid hb1; clear j0 j1; obtain ⟨⟨j0, j1⟩, -⟩ := HRES.out _ hb1; clear hb1) | (go_at_call 61; refine (HAD.out _ HB1.out).mono ?_; rintro e w2 ⟨rfl, hb2⟩; have HB2 := Lib.hid (bel_trans HB1.out hb2); clear hb2; obtain ⟨-, k0, k1, l0, l1⟩ := HRES.out _ HB2.out))
    try simp only [Exit.inBlock, Exit.then]
    refine bodyPost_ret (v := .tuple #[.agg #[.int .i64 0, .slice none 0 0], .bool false]) ?_ rfl ?_
    · rw [results_cell_tmp rfl]
      go_simp
    have h1 := HSZ.out
    exact ⟨_, rfl, ⟨none, 0, rfl, .inl rfl⟩, okS_nil, bel_chg (bel_trans HBW.out HB2.out) (HFIN.out _ _ _) (by omega)⟩
  · have e0 : woB n es ns = true := by unfold woB; rw [hg, hd]; rfl
    obtain ⟨e1, e2⟩ := woB_yes e0
    rw [e1, e2, e0]
    rw [hd] at had
    have HAD := Lib.hid (fun w' h => had w' h (by omega))
    have h40 := (gVal_parts hg).2.2.1
    have HLO := Lib.hid (fun w' h => hlo w' h (by omega))
    have HWE := Lib.hid hW
    clear hgv hlo had hg e1 e2 e0 hd hn h40
    generalize woL es ns = L at HLO ⊢
    go_enter Try.func23, Try.ntmps23
    go_wp2_with fail
    rw [← hW]
    clear hW
    obtain ⟨⟨j0, j1⟩, -⟩ := HRES.out _ (Below.refl _ _)
    go_wp2_with (first | (go_at_call 60; refine (HGV.out _ (Below.refl _ _)).mono ?_; rintro e w1 ⟨rfl, hb1⟩; have HB1 := Lib.hid hb1; clear j0 j1; obtain ⟨⟨j0, j1⟩, -⟩ := HRES.out _ hb1; clear hb1) | (go_at_call 61; refine (HAD.out _ HB1.out).mono ?_; rintro e w2 ⟨rfl, hb2⟩; have HB2 := Lib.hid (bel_trans HB1.out hb2); clear hb2 j0 j1; obtain ⟨⟨j0, j1⟩, -⟩ := HRES.out _ HB2.out) | (go_at_call 62; refine (HLO.out _ HB2.out).mono ?_; rintro e w3 ⟨v, rfl, hown, hokv, hb3⟩; obtain ⟨va, vc, rfl, hvz⟩ := id hown; clear hvz; have HO := Lib.hid (And.intro hown (And.intro hokv hb3)); have HB3 := Lib.hid (bel_trans HB2.out hb3); clear hb3 hown hokv; obtain ⟨-, k0, k1, l0, l1⟩ := HRES.out _ HB3.out))
    try simp only [Exit.inBlock, Exit.then]
    refine bodyPost_ret (v := .tuple #[.agg #[.int .i64 n, .slice va L.length vc], .bool true]) ?_ rfl ?_
    · rw [results_cell_tmp rfl]
      go_simp
    have h1 := HSZ.out
    have h2 := HB2.out.size
    refine ⟨_, rfl, ?_, HO.out.2.1, bel_chg (bel_trans HBW.out HB3.out) (HFIN.out _ _ _) (by omega)⟩
    exact (InR.chg HO.out.1 (HFIN.out _ _ _) (.inl (by omega))).wider (by omega) (HFIN.out _ _ _).size (Nat.le_refl _)
end Go.Proofs.Ytlgjcofpdaljnaa
