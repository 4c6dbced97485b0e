/- Copies of graphs. -/
import Derived.Test.YtbhhbhopogkmnaaCloneE
namespace Go.Proofs.Ytbhhbhopogkmnaa
open Go.RowKit Go.BigFrame Go.Deep
set_option linter.unusedVariables false
set_option linter.unusedSimpArgs false

set_option maxRecDepth 20000 in
set_option maxHeartbeats 1000000 in
theorem cloneN (w : World) : Calls Try.prog 69 #[.slice none 0 0] w fun e w' => ∃ v, e = .returned v ∧ OwnE w w' v [] ∧ okS v ∧ Below w.heap.size w w' := by
  have hq : (binOp .eql 32 (.slice none 0 0) (.slice none 0 0)).run Try.prog w = .ok (.bool true) w := Lib.run_eql_slice_nil w _ _ none 0 0 0 0 Try.underlying32
  go_enter Try.func69, Try.ntmps69
  go_wp2
  go_ret
  exact ⟨_, rfl, ⟨none, 0, rfl, .inl rfl⟩, okS_nil, Below.refl _ _⟩
/-- A copy of any row of edges that has what okS says. -/
theorem cloneG (es : List Ed) (s : Value) (w : World) (hs : RowE w s es) (hok : okS s) (hl : es.length ≤ 1048576) :
    Calls Try.prog 69 #[s] w fun e w' => ∃ v, e = .returned v ∧ OwnE w w' v es ∧ okS v ∧ Below w.heap.size w w' := by
  obtain ⟨vg, cap, rfl, hz⟩ := id hs
  cases vg with
  | some x =>
    obtain ⟨g, off, sp⟩ := x
    have h := (hok _ _ _ rfl).2.2 _ rfl
    simp only at h
    subst h
    exact cloneE es g off cap w hs hl
  | none =>
    have hc := (hok _ _ _ rfl).2.1 rfl
    have he : es = [] := by
      rcases hz with h | ⟨b, off, h, _⟩
      · exact h
      · cases h
    subst he hc
    exact cloneN w

set_option maxRecDepth 20000 in
set_option maxHeartbeats 1000000 in
theorem copyOfGraph (n : Int) (es : List Ed) (s : Value) (w : World) (hs : RowE w s es) (hok : okS s) (hl : es.length ≤ 1048576) :
    Calls Try.prog 46 #[.agg #[.int .i64 n, s]] w fun e w' => ∃ v, e = .returned (.agg #[.int .i64 n, v]) ∧ OwnE w w' v es ∧ okS v ∧ Below w.heap.size w w' := by
  obtain ⟨ad, cap, rfl, hz0⟩ := id hs
  clear hz0
  obtain ⟨W, hW⟩ : ∃ W, W = ((w.alloc (.cells #[.int .i64 n, .slice ad es.length cap] 34)).alloc (.cells #[.int .i64 0, .slice none 0 0] 34)) := ⟨_, rfl⟩
  have hbW : Below w.heap.size w W := by rw [hW]; exact ((Below.refl _ _).alloc (Nat.le_refl _) _).alloc (by simp) _
  have hsz : W.heap.size = w.heap.size + 2 := by rw [hW]; simp
  have hcl := fun w' (h : Below W.heap.size W w') => cloneG es (.slice ad es.length cap) w' (hs.keep (bel_trans hbW h)) hok hl
  have hold : ∀ w', Below W.heap.size W w' → w'.cell? ⟨w.heap.size, 0, none⟩ = some (.int .i64 n) ∧ w'.cell? ⟨w.heap.size, 1, none⟩ = some (.slice ad es.length cap) := fun w' h =>
    ⟨(h.cell (p := ⟨w.heap.size, 0, none⟩) (by simp only; omega)).trans (by rw [hW]; go_simp), (h.cell (p := ⟨w.heap.size, 1, none⟩) (by simp only; omega)).trans (by rw [hW]; go_simp)⟩
  have hres : ∀ w', Below W.heap.size W w' → w'.cell? ⟨w.heap.size + 1, 0, none⟩ = some (.int .i64 0) ∧ w'.cell? ⟨w.heap.size + 1, 1, none⟩ = some (.slice none 0 0) ∧ w'.frozen? ⟨w.heap.size + 1, 0, none⟩ = false ∧ w'.frozen? ⟨w.heap.size + 1, 1, none⟩ = false := fun w' h =>
    ⟨(h.cell (p := ⟨w.heap.size + 1, 0, none⟩) (by simp only; omega)).trans (by rw [hW]; go_simp), (h.cell (p := ⟨w.heap.size + 1, 1, none⟩) (by simp only; omega)).trans (by rw [hW]; go_simp), (h.frozen (p := ⟨w.heap.size + 1, 0, none⟩) (by simp only; omega)).trans (by rw [hW]; go_simp), (h.frozen (p := ⟨w.heap.size + 1, 1, none⟩) (by simp only; omega)).trans (by rw [hW]; go_simp)⟩
  have hold2 : ∀ w', Below W.heap.size W w' → ∀ x y, ((w'.setCell ⟨w.heap.size + 1, 0, none⟩ x).setCell ⟨w.heap.size + 1, 1, none⟩ y).cell? ⟨w.heap.size, 0, none⟩ = some (.int .i64 n) ∧ ((w'.setCell ⟨w.heap.size + 1, 0, none⟩ x).setCell ⟨w.heap.size + 1, 1, none⟩ y).cell? ⟨w.heap.size, 1, none⟩ = some (.slice ad es.length cap) := fun w' h x y => by
    have h0 := hold w' h
    have ne : ∀ i j, (⟨w.heap.size + 1, i, none⟩ : Addr) ≠ ⟨w.heap.size, j, none⟩ := fun i j e => by injection e with e _ _; omega
    constructor
    · rw [World.cell?_setCell_other _ _ _ _ (ne _ _), World.cell?_setCell_other _ _ _ _ (ne _ _)]; exact h0.1
    · rw [World.cell?_setCell_other _ _ _ _ (ne _ _), World.cell?_setCell_other _ _ _ _ (ne _ _)]; exact h0.2
  have HCL := Lib.hid hcl
  have HOLD := Lib.hid hold
  have HOLD2 := Lib.hid hold2
  have HRES := Lib.hid hres
  have HBW := Lib.hid hbW
  have HSZ := Lib.hid hsz
  have HWE := Lib.hid hW
  clear hcl hold hold2 hres hbW hsz hs hok
  go_enter Try.func46, Try.ntmps46
  go_wp2_with fail
  rw [← hW]
  clear hW
  go_region_held3 (fun w' : World => w'.cell? ⟨w.heap.size, 0, none⟩ = some (.int .i64 n) ∧ w'.cell? ⟨w.heap.size, 1, none⟩ = some (.slice ad es.length cap)) (first | with_reducible exact HOLD2.out _ (bel_trans ((Below.refl _ _).drew) hb3) _ _ | with_reducible exact HOLD.out _ ((Below.refl _ _).drew) | with_reducible exact HOLD.out _ (bel_trans ((Below.refl _ _).drew) hb3)) (first | (go_at_call 69; (with_reducible refine (HCL.out _ ((Below.refl _ _).drew)).mono ?_); rintro e w3 ⟨v3, rfl, hown3, hok3, hb3⟩; obtain ⟨va, vc, hva, hz9⟩ := id hown3; subst hva; have HOK := Lib.hid hok3; obtain ⟨k0, k1, l0, l1⟩ := HRES.out _ (bel_trans ((Below.refl _ _).drew) hb3); have HWN := Lib.hid hown3; clear hown3 hz9 hok3))
  all_goals
    go_wp2
    try simp only [Exit.inBlock, Exit.then]
    refine bodyPost_ret (v := .agg #[.int .i64 n, .slice va es.length vc]) ?_ rfl ?_
    · rw [results_cell1 rfl]
      go_simp
    have hch : Chg (w.heap.size + 1) (w.heap.size + 2) w3 ((w3.setCell ⟨w.heap.size + 1, 0, none⟩ (.int .i64 n)).setCell ⟨w.heap.size + 1, 1, none⟩ (.slice va es.length vc)) := ((Chg.refl _ _ _).setCell (by simp only; omega) (by simp only; omega) _).setCell (by simp only; omega) (by simp only; omega) _
    have h1 := HSZ.out
    have hb23 := bel_trans ((Below.refl W.heap.size W).drew) hb3
    have hE : InR true w3 W.heap.size w3.heap.size (.slice va es.length vc) es.length 3 (cellE es) := HWN.out
    exact ⟨_, rfl, (InR.chg hE hch (.inl (by omega))).wider (by omega) hch.size (Nat.le_refl _), HOK.out, bel_chg (bel_trans HBW.out hb23) hch (by omega)⟩
end Go.Proofs.Ytbhhbhopogkmnaa
