/- DiffGraphs, NetChanges and UndoChanges, in the model. -/
import Derived.Test.YtbhhbhopogkmnaaChgG
namespace Go.Proofs.Ytbhhbhopogkmnaa
open Go.RowKit Go.BigFrame Go.Deep
set_option linter.unusedVariables false
set_option linter.unusedSimpArgs false

set_option maxRecDepth 20000 in
set_option maxHeartbeats 2000000 in
theorem sDiffGraphs (n m : Int) (xs ys : List Ed) (s t : Value) (w : World) (hs : RowE w s xs) (ht : RowE w t ys) (hok : okS s) (hok2 : okS t) (hl : xs.length ≤ 1048576) (hl2 : ys.length ≤ 1048576) :
    Calls Try.prog 29 #[.agg #[.int .i64 n, s], .agg #[.int .i64 m, t]] w fun e w' => ∃ v, e = .returned (.tuple #[v, .bool (dfB n xs m ys)]) ∧ OwnCh w w' v (dfR n xs m ys) ∧ okS v ∧ Below w.heap.size w w' := by
  have hgx := fun w' (h : Below w.heap.size w w') => sGraphValid n xs s w' (hs.keep h) (by omega)
  have hgy := fun w' (h : Below w.heap.size w w') => sGraphValid m ys t w' (ht.keep h) (by omega)
  have hdf := fun (ha : gVal n xs = true) (hb : gVal n ys = true) w' (h : Below w.heap.size w w') => l9Diff n xs ys s t w' (hs.keep h) (ht.keep h) ha hb
  obtain ⟨ad, cap, rfl, hzz⟩ := id hs
  obtain ⟨ad2, cap2, rfl, hyy⟩ := id ht
  obtain ⟨W, hW⟩ : ∃ W, W = ((w.alloc (.cells #[.int .i64 n, .slice ad xs.length cap] 34)).alloc (.cells #[.int .i64 m, .slice ad2 ys.length cap2] 34)) := ⟨_, rfl⟩
  have hbW : Below w.heap.size w W := by rw [hW]; exact ((Below.refl _ _).alloc (Nat.le_refl _) _).alloc (by simp) _
  have hsz : W.heap.size = w.heap.size + 2 := by rw [hW]; simp
  have hres : ∀ w', Below W.heap.size W w' → (w'.cell? ⟨w.heap.size, 0, none⟩ = some (.int .i64 n) ∧ w'.cell? ⟨w.heap.size, 1, none⟩ = some (.slice ad xs.length cap)) ∧ (w'.cell? ⟨w.heap.size + 1, 0, none⟩ = some (.int .i64 m) ∧ w'.cell? ⟨w.heap.size + 1, 1, none⟩ = some (.slice ad2 ys.length cap2)) := fun w' h =>
    ⟨⟨(h.cell (p := ⟨w.heap.size, 0, none⟩) (by simp only; omega)).trans (by rw [hW]; go_simp), (h.cell (p := ⟨w.heap.size, 1, none⟩) (by simp only; omega)).trans (by rw [hW]; go_simp)⟩, (h.cell (p := ⟨w.heap.size + 1, 0, none⟩) (by simp only; omega)).trans (by rw [hW]; go_simp), (h.cell (p := ⟨w.heap.size + 1, 1, none⟩) (by simp only; omega)).trans (by rw [hW]; go_simp)⟩
  have HRES := Lib.hid hres
  have HBW := Lib.hid hbW
  have HDF := Lib.hid hdf
  have HWE := Lib.hid hW
  clear hres hbW hsz hdf hs ht hok hok2 hzz hyy
  obtain ⟨R, hR⟩ : ∃ R, R = dfR n xs m ys := ⟨_, rfl⟩
  obtain ⟨B, hB⟩ : ∃ B, B = dfB n xs m ys := ⟨_, rfl⟩
  rw [← hR, ← hB]
  cases hgX : gVal n xs
  · have e0 : B = false := by rw [hB]; simp [dfB, hgX]
    have e1 : R = [] := by rw [hR]; unfold dfR; rw [← hB, e0]; rfl
    subst e0 e1
    rw [hgX] at hgx
    have HGX := Lib.hid hgx
    clear hgx hgy hR hB hgX
    go_enter Try.func29, Try.ntmps29
    go_wp2_with fail
    rw [← hW]
    clear hW
    go_wp2_with (go_at_call 47; refine (HGX.out _ HBW.out).mono ?_; rintro e w1 ⟨rfl, hb1⟩; have HB1 := Lib.hid hb1; clear hb1)
    go_ret2
    exact ⟨_, rfl, ⟨_, 0, rfl, .inl rfl⟩, okS_some (Nat.le_refl _), (bel_trans HBW.out HB1.out).alloc (bel_trans HBW.out HB1.out).size _⟩
  rw [hgX] at hgx
  have HGX := Lib.hid hgx
  cases hgY : gVal m ys
  · have e0 : B = false := by rw [hB]; simp [dfB, hgX, hgY]
    have e1 : R = [] := by rw [hR]; unfold dfR; rw [← hB, e0]; rfl
    subst e0 e1
    rw [hgY] at hgy
    have HGY := Lib.hid hgy
    clear hgx hgy hR hB hgX hgY
    go_enter Try.func29, Try.ntmps29
    go_wp2_with fail
    rw [← hW]
    clear hW
    have HC0 := Lib.hid (HRES.out W (Below.refl _ _))
    go_wp2_with (first | (go_at_call 47; (with_reducible refine (HGX.out _ HBW.out).mono ?_); rintro e w1 ⟨rfl, hb1⟩; obtain ⟨-, j0, j1⟩ := HRES.out _ hb1; have HB1 := Lib.hid hb1; clear hb1) | (go_at_call 47; (with_reducible refine (HGY.out _ (bel_trans HBW.out HB1.out)).mono ?_); rintro e w2 ⟨rfl, hb2⟩; have HB2 := Lib.hid (bel_trans HB1.out hb2); clear hb2))
    go_ret2
    exact ⟨_, rfl, ⟨_, 0, rfl, .inl rfl⟩, okS_some (Nat.le_refl _), (bel_trans HBW.out HB2.out).alloc (bel_trans HBW.out HB2.out).size _⟩
  rw [hgY] at hgy
  have HGY := Lib.hid hgy
  by_cases hnm : n = m
  rotate_left
  · have e0 : B = false := by rw [hB]; simp [dfB, hnm]
    have e1 : R = [] := by rw [hR]; unfold dfR; rw [← hB, e0]; rfl
    subst e0 e1
    have d1 : (n != m) = true := by simpa using hnm
    have d2 : (n == m) = false := by simpa using hnm
    clear hgx hgy hR hB hgX hgY
    go_enter Try.func29, Try.ntmps29
    go_wp2_with fail
    rw [← hW]
    clear hW
    go_wp2_with (first | (go_at_call 47; (with_reducible refine (HGX.out _ HBW.out).mono ?_); rintro e w1 ⟨rfl, hb1⟩; obtain ⟨⟨i0, i1⟩, j0, j1⟩ := HRES.out _ hb1; have HB1 := Lib.hid hb1; clear hb1) | (go_at_call 47; (with_reducible refine (HGY.out _ (bel_trans HBW.out HB1.out)).mono ?_); rintro e w2 ⟨rfl, hb2⟩; have HB2 := Lib.hid (bel_trans HB1.out hb2); obtain ⟨⟨i20, i21⟩, j20, j21⟩ := HRES.out _ HB2.out; clear hb2))
    go_ret2
    exact ⟨_, rfl, ⟨_, 0, rfl, .inl rfl⟩, okS_some (Nat.le_refl _), (bel_trans HBW.out HB2.out).alloc (bel_trans HBW.out HB2.out).size _⟩
  have e0 : B = true := by rw [hB, dfB, hgX, hgY]; simp [hnm]
  have e1 : R = dfL xs ys := by rw [hR]; unfold dfR; rw [← hB, e0]; rfl
  subst e0 e1
  subst hnm
  have HDF2 := Lib.hid (HDF.out hgX hgY)
  clear hgx hgy hR hB hgX hgY
  go_enter Try.func29, Try.ntmps29
  go_wp2_with fail
  rw [← hW]
  clear hW
  go_wp2_with (first | (go_at_call 47; (with_reducible refine (HGX.out _ HBW.out).mono ?_); rintro e w1 ⟨rfl, hb1⟩; obtain ⟨⟨i0, i1⟩, j0, j1⟩ := HRES.out _ hb1; have HB1 := Lib.hid hb1; clear hb1) | (go_at_call 47; (with_reducible refine (HGY.out _ (bel_trans HBW.out HB1.out)).mono ?_); rintro e w2 ⟨rfl, hb2⟩; have HB2 := Lib.hid (bel_trans HB1.out hb2); obtain ⟨⟨i20, i21⟩, j20, j21⟩ := HRES.out _ HB2.out; clear hb2) | (go_at_call 51; (with_reducible refine (HDF2.out _ (bel_trans HBW.out HB2.out)).mono ?_); rintro e w3 ⟨v3, rfl, hown3, hok3, hb3⟩; have H3 := Lib.hid (And.intro hown3 (And.intro hok3 hb3)); clear hown3 hok3 hb3))
  go_ret2
  exact ⟨_, rfl, (InR.wider H3.out.1 (bel_trans HBW.out HB2.out).size (Nat.le_refl _) (Nat.le_refl _)), H3.out.2.1, bel_trans (bel_trans HBW.out HB2.out) H3.out.2.2⟩

set_option maxRecDepth 20000 in
set_option maxHeartbeats 2000000 in
theorem sNetChanges (n : Int) (es : List Ed) (cs : List Ch) (s t : Value) (w : World) (hs : RowE w s es) (ht : RowCh w t cs) (hok : okS s) (hl : es.length ≤ 1048576) (hl2 : cs.length ≤ 1048576) :
    Calls Try.prog 22 #[.agg #[.int .i64 n, s], t] w fun e w' => ∃ v, e = .returned (.tuple #[v, .bool (apB n es cs)]) ∧ OwnCh w w' v (netR n es cs) ∧ okS v ∧ Below w.heap.size w w' := by
  have hlr := apR_len n es cs
  have hap := fun w' (h : Below w.heap.size w w') => sApplyChanges n es cs s t w' (hs.keep h) (ht.keep h) hok hl hl2
  have hdf := fun (h : apB n es cs = true) v w' (hb : Below w.heap.size w w') (hv : RowE w' v (apR n es cs)) (hk : okS v) => (by exact l9Diff n es (apR n es cs) s v w' (hs.keep hb) hv (apB_out h).2.1 (apR_val h) : Calls Try.prog 51 #[.agg #[.int .i64 n, s], .agg #[.int .i64 n, v]] w' fun e w'' => ∃ u, e = .returned u ∧ OwnCh w' w'' u (dfL es (apR n es cs)) ∧ okS u ∧ Below w'.heap.size w' w'')
  obtain ⟨ad, cap, rfl, hzz⟩ := id hs
  have hcell : ∀ w', Below (w.alloc (.cells #[.int .i64 n, .slice ad es.length cap] 34)).heap.size (w.alloc (.cells #[.int .i64 n, .slice ad es.length cap] 34)) w' → w'.cell? ⟨w.heap.size, 0, none⟩ = some (.int .i64 n) ∧ w'.cell? ⟨w.heap.size, 1, none⟩ = some (.slice ad es.length cap) := fun w' h =>
    ⟨(h.cell (p := ⟨w.heap.size, 0, none⟩) (by simp)).trans (by go_simp), (h.cell (p := ⟨w.heap.size, 1, none⟩) (by simp)).trans (by go_simp)⟩
  have hbA : Below w.heap.size w (w.alloc (.cells #[.int .i64 n, .slice ad es.length cap] 34)) := (Below.refl _ _).alloc (Nat.le_refl _) _
  have HCELL := Lib.hid hcell
  have HAP := Lib.hid (hap _ hbA)
  have HDF := Lib.hid hdf
  have HBA := Lib.hid hbA
  clear hcell hap hdf hbA hs ht hok hzz
  cases hB : apB n es cs
  · have e1 : netR n es cs = [] := by unfold netR; rw [hB]; rfl
    rw [e1]
    rw [hB] at HAP
    clear hB e1
    generalize apR n es cs = L at HAP hlr
    generalize apN n es cs = N at HAP
    go_enter Try.func22, Try.ntmps22
    go_wp2_with (go_at_call 17; (with_reducible refine HAP.out.mono ?_); rintro e w1 ⟨v1, rfl, hown1, hok1, hb1⟩; obtain ⟨va, vc, hva, hz9⟩ := id hown1; subst hva; have HB1 := Lib.hid (bel_trans HBA.out hb1); clear hz9 hown1 hok1 hb1)
    go_ret2
    exact ⟨_, rfl, ⟨_, 0, rfl, .inl rfl⟩, okS_some (Nat.le_refl _), (HB1.out.alloc HB1.out.size _).alloc (by simp; have := HB1.out.size; omega) _⟩
  have e1 : netR n es cs = dfL (es) (apR n es cs) := by unfold netR; rw [hB]; rfl
  rw [e1]
  have hN : apN n es cs = n := apN_yes hB
  rw [hB, hN] at HAP
  have HDF2 := Lib.hid (HDF.out hB)
  clear hB hN e1 HDF
  generalize apR n es cs = L at HAP hlr HDF2 ⊢
  go_enter Try.func22, Try.ntmps22
  go_wp2_with (first | (go_at_call 17; (with_reducible refine HAP.out.mono ?_); rintro e w1 ⟨v1, rfl, hown1, hok1, hb1⟩; obtain ⟨va, vc, hva, hz9⟩ := id hown1; subst hva; obtain ⟨i0, i1⟩ := HCELL.out _ hb1; have hlt1 : w.heap.size < w1.heap.size := Nat.lt_of_lt_of_le (by simp) hb1.size; have HB1 := Lib.hid (bel_trans HBA.out hb1); have HO1 : Hid (∀ A, RowE (w1.alloc A) (.slice va L.length vc) L ∧ Below w.heap.size w (w1.alloc A)) := Lib.hid (fun A => ⟨(InR.keep hown1 ((Below.refl _ _).alloc (Nat.le_refl _) _)).edges, HB1.out.alloc HB1.out.size _⟩); have HK1 := Lib.hid hok1; clear hz9 hown1 hok1 hb1) | (go_at_call 51; (with_reducible refine (HDF2.out _ _ (HO1.out _).2 (HO1.out _).1 HK1.out).mono ?_); rintro e w2 ⟨v2, rfl, hown2, hok2, hb2⟩; have H2 := Lib.hid (And.intro hown2 (And.intro hok2 hb2)); clear hown2 hok2 hb2))
  go_ret2
  have hB2 := HB1.out.alloc HB1.out.size (.cells #[.int .i64 n, .slice va L.length vc] 34)
  exact ⟨_, rfl, (InR.wider H2.out.1 hB2.size (Nat.le_refl _) (Nat.le_refl _)), H2.out.2.1, bel_trans hB2 H2.out.2.2⟩

set_option maxRecDepth 20000 in
set_option maxHeartbeats 2000000 in
theorem sUndoChanges (n : Int) (es : List Ed) (cs : List Ch) (s t : Value) (w : World) (hs : RowE w s es) (ht : RowCh w t cs) (hok : okS s) (hl : es.length ≤ 1048576) (hl2 : cs.length ≤ 1048576) :
    Calls Try.prog 26 #[.agg #[.int .i64 n, s], t] w fun e w' => ∃ v, e = .returned (.tuple #[v, .bool (apB n es cs)]) ∧ OwnCh w w' v (unR n es cs) ∧ okS v ∧ Below w.heap.size w w' := by
  have hlr := apR_len n es cs
  have hap := fun w' (h : Below w.heap.size w w') => sApplyChanges n es cs s t w' (hs.keep h) (ht.keep h) hok hl hl2
  have hdf := fun (h : apB n es cs = true) v w' (hb : Below w.heap.size w w') (hv : RowE w' v (apR n es cs)) (hk : okS v) => (by exact l9Diff n (apR n es cs) es v s w' hv (hs.keep hb) (apR_val h) (apB_out h).2.1 : Calls Try.prog 51 #[.agg #[.int .i64 n, v], .agg #[.int .i64 n, s]] w' fun e w'' => ∃ u, e = .returned u ∧ OwnCh w' w'' u (dfL (apR n es cs) es) ∧ okS u ∧ Below w'.heap.size w' w'')
  obtain ⟨ad, cap, rfl, hzz⟩ := id hs
  have hcell : ∀ w', Below (w.alloc (.cells #[.int .i64 n, .slice ad es.length cap] 34)).heap.size (w.alloc (.cells #[.int .i64 n, .slice ad es.length cap] 34)) w' → w'.cell? ⟨w.heap.size, 0, none⟩ = some (.int .i64 n) ∧ w'.cell? ⟨w.heap.size, 1, none⟩ = some (.slice ad es.length cap) := fun w' h =>
    ⟨(h.cell (p := ⟨w.heap.size, 0, none⟩) (by simp)).trans (by go_simp), (h.cell (p := ⟨w.heap.size, 1, none⟩) (by simp)).trans (by go_simp)⟩
  have hbA : Below w.heap.size w (w.alloc (.cells #[.int .i64 n, .slice ad es.length cap] 34)) := (Below.refl _ _).alloc (Nat.le_refl _) _
  have HCELL := Lib.hid hcell
  have HAP := Lib.hid (hap _ hbA)
  have HDF := Lib.hid hdf
  have HBA := Lib.hid hbA
  clear hcell hap hdf hbA hs ht hok hzz
  cases hB : apB n es cs
  · have e1 : unR n es cs = [] := by unfold unR; rw [hB]; rfl
    rw [e1]
    rw [hB] at HAP
    clear hB e1
    generalize apR n es cs = L at HAP hlr
    generalize apN n es cs = N at HAP
    go_enter Try.func26, Try.ntmps26
    go_wp2_with (go_at_call 17; (with_reducible refine HAP.out.mono ?_); rintro e w1 ⟨v1, rfl, hown1, hok1, hb1⟩; obtain ⟨va, vc, hva, hz9⟩ := id hown1; subst hva; have HB1 := Lib.hid (bel_trans HBA.out hb1); clear hz9 hown1 hok1 hb1)
    go_ret2
    exact ⟨_, rfl, ⟨_, 0, rfl, .inl rfl⟩, okS_some (Nat.le_refl _), (HB1.out.alloc HB1.out.size _).alloc (by simp; have := HB1.out.size; omega) _⟩
  have e1 : unR n es cs = dfL (apR n es cs) (es) := by unfold unR; rw [hB]; rfl
  rw [e1]
  have hN : apN n es cs = n := apN_yes hB
  rw [hB, hN] at HAP
  have HDF2 := Lib.hid (HDF.out hB)
  clear hB hN e1 HDF
  generalize apR n es cs = L at HAP hlr HDF2 ⊢
  go_enter Try.func26, Try.ntmps26
  go_wp2_with (first | (go_at_call 17; (with_reducible refine HAP.out.mono ?_); rintro e w1 ⟨v1, rfl, hown1, hok1, hb1⟩; obtain ⟨va, vc, hva, hz9⟩ := id hown1; subst hva; obtain ⟨i0, i1⟩ := HCELL.out _ hb1; have hlt1 : w.heap.size < w1.heap.size := Nat.lt_of_lt_of_le (by simp) hb1.size; have HB1 := Lib.hid (bel_trans HBA.out hb1); have HO1 : Hid (∀ A, RowE (w1.alloc A) (.slice va L.length vc) L ∧ Below w.heap.size w (w1.alloc A)) := Lib.hid (fun A => ⟨(InR.keep hown1 ((Below.refl _ _).alloc (Nat.le_refl _) _)).edges, HB1.out.alloc HB1.out.size _⟩); have HK1 := Lib.hid hok1; clear hz9 hown1 hok1 hb1) | (go_at_call 51; (with_reducible refine (HDF2.out _ _ (HO1.out _).2 (HO1.out _).1 HK1.out).mono ?_); rintro e w2 ⟨v2, rfl, hown2, hok2, hb2⟩; have H2 := Lib.hid (And.intro hown2 (And.intro hok2 hb2)); clear hown2 hok2 hb2))
  go_ret2
  have hB2 := HB1.out.alloc HB1.out.size (.cells #[.int .i64 n, .slice va L.length vc] 34)
  exact ⟨_, rfl, (InR.wider H2.out.1 hB2.size (Nat.le_refl _) (Nat.le_refl _)), H2.out.2.1, bel_trans hB2 H2.out.2.2⟩
end Go.Proofs.Ytbhhbhopogkmnaa
