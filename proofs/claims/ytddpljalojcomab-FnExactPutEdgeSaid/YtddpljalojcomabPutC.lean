/- PutEdge of the program: the way on. -/
import Derived.Test.YtddpljalojcomabPut
namespace Go.Proofs.Ytddpljalojcomab
open Go.RowKit Go.BigFrame Go.Deep
set_option linter.unusedVariables false
set_option linter.unusedSimpArgs false

set_option maxRecDepth 100000 in
set_option maxHeartbeats 1000000 in
theorem putCa (n : Int) (es : List Ed) (x y z : Int) (b off p q cap : Nat) (w : World)
    (HV : Hid (∀ (w : World), RowE w (.slice (some ⟨b, off, none⟩) es.length cap) es → Calls Try.prog 25 #[.agg #[.int .i64 n, .slice (some ⟨b, off, none⟩) es.length cap]] w fun e w' => e = .returned (.bool true) ∧ Below w.heap.size w w'))
    (HF : Hid (∀ (w : World), Calls Try.prog 26 #[.agg #[.int .i64 n, .slice (some ⟨b, off, none⟩) es.length cap], .agg #[.int .i64 x, .int .i64 y, .int .i64 z]] w fun e w' => e = .returned (.bool true) ∧ Below w.heap.size w w'))
    (HE : Hid (∀ (w : World), RowE w (.slice (some ⟨b, off, none⟩) es.length cap) es → Calls Try.prog 27 #[.agg #[.int .i64 n, .slice (some ⟨b, off, none⟩) es.length cap], .int .i64 x, .int .i64 y] w fun e w' => e = .returned (.tuple #[.int .i64 (p : Int), .bool true]) ∧ Below w.heap.size w w'))
    (R : Hid (InR false w 0 w.heap.size (.slice (some ⟨b, off, none⟩) es.length cap) es.length 3 (cellE es))) (T1 : Hid (RowE w (.slice (some ⟨b, off, none⟩) p cap) (es.take p))) (T3 : Hid (RowE w (.slice (some ⟨b, off + q * 3, none⟩) (es.length - q) (cap - q)) (es.drop q)))
    (o1 : okS (.slice (some ⟨b, off, none⟩) p cap)) (o3 : okS (.slice (some ⟨b, off + q * 3, none⟩) (es.length - q) (cap - q))) (hT : (es.take p ++ (x, y, z) :: es.drop q).length ≤ 1048576)
    (hp1 : (p : Int) ≤ cap) (hq1 : (q : Int) ≤ es.length) (hq3 : (es.length : Int) ≤ cap) (hpq : (p : Int) + 1 = q) (hle : es.length ≤ 1048576) (hcq : ¬ cap = q) :
    Calls Try.prog 11 #[.agg #[.int .i64 n, .slice (some ⟨b, off, none⟩) es.length cap], .agg #[.int .i64 x, .int .i64 y, .int .i64 z]] w fun e w' => ∃ v, e = .returned (.tuple #[.agg #[.int .i64 (if (es.take p ++ (x, y, z) :: es.drop q).length ≤ 40 then n else 0), v], .bool (decide ((es.take p ++ (x, y, z) :: es.drop q).length ≤ 40))]) ∧ OwnE w w' v (if (es.take p ++ (x, y, z) :: es.drop q).length ≤ 40 then es.take p ++ (x, y, z) :: es.drop q else []) ∧ okS v ∧ Below w.heap.size w w' := by
  obtain ⟨L, hL⟩ : ∃ L, L = es.take p ++ (x, y, z) :: es.drop q := ⟨_, rfl⟩
  rw [← hL]
  have HL := Lib.hid hL
  clear hL
  obtain ⟨w0, hw0⟩ : ∃ w0, w0 = w := ⟨_, rfl⟩
  subst hw0
  have H0 := Below.refl w0.heap.size w0
  have R_0 := R
  clear R
  go_enter Try.func11, Try.ntmps11
  go_wp2_with fail
  have hb1 : Below w0.heap.size w0 (((w0.alloc (.cells #[.int .i64 n, .slice (some ⟨b, off, none⟩) es.length cap] 30)).alloc (.cells #[.int .i64 x, .int .i64 y, .int .i64 z] 34)).alloc (.cells #[.int .i64 0, .slice none 0 0] 30)) := (((Below.refl _ _).alloc (by simp <;> omega) _).alloc (by simp <;> omega) _).alloc (by simp <;> omega) _
  have H1 := bel_trans H0 hb1
  have SZ1 := Lib.hid hb1.size
  have R_1 := Lib.hid (R_0.out.keep hb1)
  have qg0_1 : (((w0.alloc (.cells #[.int .i64 n, .slice (some ⟨b, off, none⟩) es.length cap] 30)).alloc (.cells #[.int .i64 x, .int .i64 y, .int .i64 z] 34)).alloc (.cells #[.int .i64 0, .slice none 0 0] 30)).cell? ⟨w0.heap.size, 0, none⟩ = some (.int .i64 n) := by go_simp
  have qg1_1 : (((w0.alloc (.cells #[.int .i64 n, .slice (some ⟨b, off, none⟩) es.length cap] 30)).alloc (.cells #[.int .i64 x, .int .i64 y, .int .i64 z] 34)).alloc (.cells #[.int .i64 0, .slice none 0 0] 30)).cell? ⟨w0.heap.size, 1, none⟩ = some (.slice (some ⟨b, off, none⟩) es.length cap) := by go_simp
  have zg_1 : w0.heap.size < (((w0.alloc (.cells #[.int .i64 n, .slice (some ⟨b, off, none⟩) es.length cap] 30)).alloc (.cells #[.int .i64 x, .int .i64 y, .int .i64 z] 34)).alloc (.cells #[.int .i64 0, .slice none 0 0] 30)).heap.size := by simp <;> omega
  have qe0_1 : (((w0.alloc (.cells #[.int .i64 n, .slice (some ⟨b, off, none⟩) es.length cap] 30)).alloc (.cells #[.int .i64 x, .int .i64 y, .int .i64 z] 34)).alloc (.cells #[.int .i64 0, .slice none 0 0] 30)).cell? ⟨w0.heap.size + 1, 0, none⟩ = some (.int .i64 x) := by go_simp
  have qe1_1 : (((w0.alloc (.cells #[.int .i64 n, .slice (some ⟨b, off, none⟩) es.length cap] 30)).alloc (.cells #[.int .i64 x, .int .i64 y, .int .i64 z] 34)).alloc (.cells #[.int .i64 0, .slice none 0 0] 30)).cell? ⟨w0.heap.size + 1, 1, none⟩ = some (.int .i64 y) := by go_simp
  have qe2_1 : (((w0.alloc (.cells #[.int .i64 n, .slice (some ⟨b, off, none⟩) es.length cap] 30)).alloc (.cells #[.int .i64 x, .int .i64 y, .int .i64 z] 34)).alloc (.cells #[.int .i64 0, .slice none 0 0] 30)).cell? ⟨w0.heap.size + 1, 2, none⟩ = some (.int .i64 z) := by go_simp
  have ze_1 : w0.heap.size + 1 < (((w0.alloc (.cells #[.int .i64 n, .slice (some ⟨b, off, none⟩) es.length cap] 30)).alloc (.cells #[.int .i64 x, .int .i64 y, .int .i64 z] 34)).alloc (.cells #[.int .i64 0, .slice none 0 0] 30)).heap.size := by simp <;> omega
  have frr0_1 : (((w0.alloc (.cells #[.int .i64 n, .slice (some ⟨b, off, none⟩) es.length cap] 30)).alloc (.cells #[.int .i64 x, .int .i64 y, .int .i64 z] 34)).alloc (.cells #[.int .i64 0, .slice none 0 0] 30)).frozen? ⟨w0.heap.size + 1 + 1, 0, none⟩ = false := by go_simp
  have frr1_1 : (((w0.alloc (.cells #[.int .i64 n, .slice (some ⟨b, off, none⟩) es.length cap] 30)).alloc (.cells #[.int .i64 x, .int .i64 y, .int .i64 z] 34)).alloc (.cells #[.int .i64 0, .slice none 0 0] 30)).frozen? ⟨w0.heap.size + 1 + 1, 1, none⟩ = false := by go_simp
  have qr0_1 : (((w0.alloc (.cells #[.int .i64 n, .slice (some ⟨b, off, none⟩) es.length cap] 30)).alloc (.cells #[.int .i64 x, .int .i64 y, .int .i64 z] 34)).alloc (.cells #[.int .i64 0, .slice none 0 0] 30)).cell? ⟨w0.heap.size + 1 + 1, 0, none⟩ = some (.int .i64 0) := by go_simp
  have qr1_1 : (((w0.alloc (.cells #[.int .i64 n, .slice (some ⟨b, off, none⟩) es.length cap] 30)).alloc (.cells #[.int .i64 x, .int .i64 y, .int .i64 z] 34)).alloc (.cells #[.int .i64 0, .slice none 0 0] 30)).cell? ⟨w0.heap.size + 1 + 1, 1, none⟩ = some (.slice none 0 0) := by go_simp
  have zr_1 : w0.heap.size + 1 + 1 < (((w0.alloc (.cells #[.int .i64 n, .slice (some ⟨b, off, none⟩) es.length cap] 30)).alloc (.cells #[.int .i64 x, .int .i64 y, .int .i64 z] 34)).alloc (.cells #[.int .i64 0, .slice none 0 0] 30)).heap.size := by simp <;> omega
  generalize (((w0.alloc (.cells #[.int .i64 n, .slice (some ⟨b, off, none⟩) es.length cap] 30)).alloc (.cells #[.int .i64 x, .int .i64 y, .int .i64 z] 34)).alloc (.cells #[.int .i64 0, .slice none 0 0] 30)) = w1 at hb1 H1 SZ1 R_1 frr0_1 frr1_1 qe0_1 qe1_1 qe2_1 qg0_1 qg1_1 qr0_1 qr1_1 ze_1 zg_1 zr_1 ⊢
  have ZBg := Lib.hid zg_1
  have ZBe := Lib.hid ze_1
  have ZBr := Lib.hid zr_1
  clear R_0
  refine (HV.out _ R_1.out.edges).mono ?_
  rintro e w2 ⟨rfl, hb2⟩
  have H2 := bel_trans H1 hb2
  have SZ2 := Lib.hid hb2.size
  have qg0_2 := (hb2.cell (p := ⟨w0.heap.size, 0, none⟩) zg_1).trans qg0_1
  have qg1_2 := (hb2.cell (p := ⟨w0.heap.size, 1, none⟩) zg_1).trans qg1_1
  have zg_2 := Nat.lt_of_lt_of_le zg_1 hb2.size
  have qe0_2 := (hb2.cell (p := ⟨w0.heap.size + 1, 0, none⟩) ze_1).trans qe0_1
  have qe1_2 := (hb2.cell (p := ⟨w0.heap.size + 1, 1, none⟩) ze_1).trans qe1_1
  have qe2_2 := (hb2.cell (p := ⟨w0.heap.size + 1, 2, none⟩) ze_1).trans qe2_1
  have ze_2 := Nat.lt_of_lt_of_le ze_1 hb2.size
  have qr0_2 := (hb2.cell (p := ⟨w0.heap.size + 1 + 1, 0, none⟩) zr_1).trans qr0_1
  have frr0_2 := (hb2.frozen (p := ⟨w0.heap.size + 1 + 1, 0, none⟩) zr_1).trans frr0_1
  have qr1_2 := (hb2.cell (p := ⟨w0.heap.size + 1 + 1, 1, none⟩) zr_1).trans qr1_1
  have frr1_2 := (hb2.frozen (p := ⟨w0.heap.size + 1 + 1, 1, none⟩) zr_1).trans frr1_1
  have zr_2 := Nat.lt_of_lt_of_le zr_1 hb2.size
  have R_2 := Lib.hid (R_1.out.keep hb2)
  clear R_1 qg0_1 qg1_1 zg_1 qe0_1 qe1_1 qe2_1 ze_1 frr0_1 frr1_1 qr0_1 qr1_1 zr_1
  go_wp2_with fail
  refine (HF.out _).mono ?_
  rintro e w3 ⟨rfl, hb3⟩
  have H3 := bel_trans H2 hb3
  have SZ3 := Lib.hid hb3.size
  have qg0_3 := (hb3.cell (p := ⟨w0.heap.size, 0, none⟩) zg_2).trans qg0_2
  have qg1_3 := (hb3.cell (p := ⟨w0.heap.size, 1, none⟩) zg_2).trans qg1_2
  have zg_3 := Nat.lt_of_lt_of_le zg_2 hb3.size
  have qe0_3 := (hb3.cell (p := ⟨w0.heap.size + 1, 0, none⟩) ze_2).trans qe0_2
  have qe1_3 := (hb3.cell (p := ⟨w0.heap.size + 1, 1, none⟩) ze_2).trans qe1_2
  have qe2_3 := (hb3.cell (p := ⟨w0.heap.size + 1, 2, none⟩) ze_2).trans qe2_2
  have ze_3 := Nat.lt_of_lt_of_le ze_2 hb3.size
  have qr0_3 := (hb3.cell (p := ⟨w0.heap.size + 1 + 1, 0, none⟩) zr_2).trans qr0_2
  have frr0_3 := (hb3.frozen (p := ⟨w0.heap.size + 1 + 1, 0, none⟩) zr_2).trans frr0_2
  have qr1_3 := (hb3.cell (p := ⟨w0.heap.size + 1 + 1, 1, none⟩) zr_2).trans qr1_2
  have frr1_3 := (hb3.frozen (p := ⟨w0.heap.size + 1 + 1, 1, none⟩) zr_2).trans frr1_2
  have zr_3 := Nat.lt_of_lt_of_le zr_2 hb3.size
  have R_3 := Lib.hid (R_2.out.keep hb3)
  clear qg0_2 qg1_2 zg_2 qe0_2 qe1_2 qe2_2 ze_2 qr0_2 frr0_2 qr1_2 frr1_2 zr_2 R_2
  go_wp2_with fail
  refine (HE.out _ R_3.out.edges).mono ?_
  rintro e w4 ⟨rfl, hb4⟩
  have H4 := bel_trans H3 hb4
  have SZ4 := Lib.hid hb4.size
  have qg0_4 := (hb4.cell (p := ⟨w0.heap.size, 0, none⟩) zg_3).trans qg0_3
  have qg1_4 := (hb4.cell (p := ⟨w0.heap.size, 1, none⟩) zg_3).trans qg1_3
  have zg_4 := Nat.lt_of_lt_of_le zg_3 hb4.size
  have qe0_4 := (hb4.cell (p := ⟨w0.heap.size + 1, 0, none⟩) ze_3).trans qe0_3
  have qe1_4 := (hb4.cell (p := ⟨w0.heap.size + 1, 1, none⟩) ze_3).trans qe1_3
  have qe2_4 := (hb4.cell (p := ⟨w0.heap.size + 1, 2, none⟩) ze_3).trans qe2_3
  have ze_4 := Nat.lt_of_lt_of_le ze_3 hb4.size
  have qr0_4 := (hb4.cell (p := ⟨w0.heap.size + 1 + 1, 0, none⟩) zr_3).trans qr0_3
  have frr0_4 := (hb4.frozen (p := ⟨w0.heap.size + 1 + 1, 0, none⟩) zr_3).trans frr0_3
  have qr1_4 := (hb4.cell (p := ⟨w0.heap.size + 1 + 1, 1, none⟩) zr_3).trans qr1_3
  have frr1_4 := (hb4.frozen (p := ⟨w0.heap.size + 1 + 1, 1, none⟩) zr_3).trans frr1_3
  have zr_4 := Nat.lt_of_lt_of_le zr_3 hb4.size
  have R_4 := Lib.hid (R_3.out.keep hb4)
  clear qg0_3 qg1_3 zg_3 qe0_3 qe1_3 qe2_3 ze_3 qr0_3 frr0_3 qr1_3 frr1_3 zr_3 R_3
  go_wp2
  have hold : ∀ w' : World, Below w4.heap.size w4 w' → (w'.cell? ⟨w0.heap.size, 1, none⟩ = some (.slice (some ⟨b, off, none⟩) es.length cap) ∧ w'.cell? ⟨w0.heap.size + 1, 0, none⟩ = some (.int .i64 x) ∧ w'.cell? ⟨w0.heap.size + 1, 1, none⟩ = some (.int .i64 y) ∧ w'.cell? ⟨w0.heap.size + 1, 2, none⟩ = some (.int .i64 z)) := fun w' h => ⟨(h.cell (p := ⟨w0.heap.size, 1, none⟩) zg_4).trans qg1_4, (h.cell (p := ⟨w0.heap.size + 1, 0, none⟩) ze_4).trans qe0_4, (h.cell (p := ⟨w0.heap.size + 1, 1, none⟩) ze_4).trans qe1_4, (h.cell (p := ⟨w0.heap.size + 1, 2, none⟩) ze_4).trans qe2_4⟩
  have HOLD := Lib.hid hold
  clear hold
  have t1 := Lib.hid (T1.out.keep H4)
  have t3 := Lib.hid (T3.out.keep H4)
  go_region_held3 (fun w' : World => w'.cell? ⟨w0.heap.size, 1, none⟩ = some (.slice (some ⟨b, off, none⟩) es.length cap) ∧ w'.cell? ⟨w0.heap.size + 1, 0, none⟩ = some (.int .i64 x) ∧ w'.cell? ⟨w0.heap.size + 1, 1, none⟩ = some (.int .i64 y) ∧ w'.cell? ⟨w0.heap.size + 1, 2, none⟩ = some (.int .i64 z)) (first | exact HOLD.out _ ((Below.refl _ _).drew) | exact HOLD.out _ (((Below.refl _ _).alloc (Nat.le_refl _) _).drew) | exact HOLD.out _ ((((Below.refl _ _).alloc (Nat.le_refl _) _).alloc (by simp) _).drew) | exact HOLD.out _ hb5) (first | (go_at_call 28; refine (concat3 (es.take p) (es.drop q) x y z (.slice (some ⟨b, off, none⟩) p cap) (.slice (some ⟨b, off + q * 3, none⟩) (es.length - q) (cap - q)) w4 t1.out t3.out o1 o3 hT _ _).mono ?_; rintro e w5 ⟨v, rfl, hown, hokv, hb5⟩))
  rw [← HL.out] at hown
  obtain ⟨va, vc, rfl, hvz⟩ := id hown
  clear hvz HOLD t1 t3
  have H5 := bel_trans H4 hb5
  have SZ5 := Lib.hid hb5.size
  have qg0_5 := (hb5.cell (p := ⟨w0.heap.size, 0, none⟩) zg_4).trans qg0_4
  have qg1_5 := (hb5.cell (p := ⟨w0.heap.size, 1, none⟩) zg_4).trans qg1_4
  have zg_5 := Nat.lt_of_lt_of_le zg_4 hb5.size
  have qe0_5 := (hb5.cell (p := ⟨w0.heap.size + 1, 0, none⟩) ze_4).trans qe0_4
  have qe1_5 := (hb5.cell (p := ⟨w0.heap.size + 1, 1, none⟩) ze_4).trans qe1_4
  have qe2_5 := (hb5.cell (p := ⟨w0.heap.size + 1, 2, none⟩) ze_4).trans qe2_4
  have ze_5 := Nat.lt_of_lt_of_le ze_4 hb5.size
  have qr0_5 := (hb5.cell (p := ⟨w0.heap.size + 1 + 1, 0, none⟩) zr_4).trans qr0_4
  have frr0_5 := (hb5.frozen (p := ⟨w0.heap.size + 1 + 1, 0, none⟩) zr_4).trans frr0_4
  have qr1_5 := (hb5.cell (p := ⟨w0.heap.size + 1 + 1, 1, none⟩) zr_4).trans qr1_4
  have frr1_5 := (hb5.frozen (p := ⟨w0.heap.size + 1 + 1, 1, none⟩) zr_4).trans frr1_4
  have zr_5 := Nat.lt_of_lt_of_le zr_4 hb5.size
  have R_5 := Lib.hid (R_4.out.keep hb5)
  have V_5 := Lib.hid hown
  clear hown
  clear qg0_4 qg1_4 zg_4 qe0_4 qe1_4 qe2_4 ze_4 qr0_4 frr0_4 qr1_4 frr1_4 zr_4 R_4
  by_cases h40 : L.length ≤ 40
  rotate_left
  · have h40i : (40 : Int) < L.length := by omega
    have H40 := Lib.hid h40
    clear h40
    go_wp2
    try simp only [Exit.inBlock, Exit.then]
    refine bodyPost_ret (v := .tuple #[.agg #[.int .i64 0, .slice none 0 0], .bool false]) ?_ rfl ?_
    · rw [results_cell_tmp rfl]
      go_simp
    have hch : Chg (w0.heap.size + 2) (w0.heap.size + 3) w5 ((w5.setCell ⟨w0.heap.size + 1 + 1, 0, none⟩ (.int .i64 0)).setCell ⟨w0.heap.size + 1 + 1, 1, none⟩ (.slice none 0 0)) := ((Chg.refl _ _ _).setCell (by simp only; omega) (by simp only; omega) _).setCell (by simp only; omega) (by simp only; omega) _
    refine ⟨.slice none 0 0, by first | rfl | rw [if_neg H40.out, decide_eq_false H40.out], by first | exact ownE_nil _ _ | (rw [if_neg H40.out]; exact ownE_nil _ _), okS_nil, bel_chg H5 hch (by omega)⟩
  have h40i : ¬ ((40 : Int) < L.length) := by omega
  have H40 := Lib.hid h40
  clear h40
  go_wp2
  try simp only [Exit.inBlock, Exit.then]
  refine bodyPost_ret (v := .tuple #[.agg #[.int .i64 n, .slice va L.length vc], .bool true]) ?_ rfl ?_
  · rw [results_cell_tmp rfl]
    go_simp
  have hch : Chg (w0.heap.size + 2) (w0.heap.size + 3) w5 ((w5.setCell ⟨w0.heap.size + 1 + 1, 0, none⟩ (.int .i64 n)).setCell ⟨w0.heap.size + 1 + 1, 1, none⟩ (.slice va L.length vc)) := ((Chg.refl _ _ _).setCell (by simp only; omega) (by simp only; omega) _).setCell (by simp only; omega) (by simp only; omega) _
  refine ⟨.slice va L.length vc, by first | rfl | rw [if_pos H40.out, decide_eq_true H40.out], by first | exact ((V_5.out.chg hch (.inl (by have := ZBr.out; have := SZ4.out; have := SZ3.out; have := SZ2.out; omega))).wider (by have := SZ4.out; have := SZ3.out; have := SZ2.out; have := SZ1.out; omega) (by simp) (Nat.le_refl _)) | (rw [if_pos H40.out]; exact ((V_5.out.chg hch (.inl (by have := ZBr.out; have := SZ4.out; have := SZ3.out; have := SZ2.out; omega))).wider (by have := SZ4.out; have := SZ3.out; have := SZ2.out; have := SZ1.out; omega) (by simp) (Nat.le_refl _))), hokv, bel_chg H5 hch (by omega)⟩

set_option maxRecDepth 100000 in
set_option maxHeartbeats 1000000 in
theorem putCb (n : Int) (es : List Ed) (x y z : Int) (b off p q : Nat) (w : World)
    (HV : Hid (∀ (w : World), RowE w (.slice (some ⟨b, off, none⟩) es.length q) es → Calls Try.prog 25 #[.agg #[.int .i64 n, .slice (some ⟨b, off, none⟩) es.length q]] w fun e w' => e = .returned (.bool true) ∧ Below w.heap.size w w'))
    (HF : Hid (∀ (w : World), Calls Try.prog 26 #[.agg #[.int .i64 n, .slice (some ⟨b, off, none⟩) es.length q], .agg #[.int .i64 x, .int .i64 y, .int .i64 z]] w fun e w' => e = .returned (.bool true) ∧ Below w.heap.size w w'))
    (HE : Hid (∀ (w : World), RowE w (.slice (some ⟨b, off, none⟩) es.length q) es → Calls Try.prog 27 #[.agg #[.int .i64 n, .slice (some ⟨b, off, none⟩) es.length q], .int .i64 x, .int .i64 y] w fun e w' => e = .returned (.tuple #[.int .i64 (p : Int), .bool true]) ∧ Below w.heap.size w w'))
    (R : Hid (InR false w 0 w.heap.size (.slice (some ⟨b, off, none⟩) es.length q) es.length 3 (cellE es))) (T1 : Hid (RowE w (.slice (some ⟨b, off, none⟩) p q) (es.take p))) (T3 : Hid (RowE w (.slice (some ⟨b, off, none⟩) (es.length - q) 0) (es.drop q)))
    (o1 : okS (.slice (some ⟨b, off, none⟩) p q)) (o3 : okS (.slice (some ⟨b, off, none⟩) (es.length - q) 0)) (hT : (es.take p ++ (x, y, z) :: es.drop q).length ≤ 1048576)
    (hp1 : (p : Int) ≤ q) (hq1 : (q : Int) ≤ es.length) (hq3 : (es.length : Int) ≤ q) (hpq : (p : Int) + 1 = q) (hle : es.length ≤ 1048576) :
    Calls Try.prog 11 #[.agg #[.int .i64 n, .slice (some ⟨b, off, none⟩) es.length q], .agg #[.int .i64 x, .int .i64 y, .int .i64 z]] w fun e w' => ∃ v, e = .returned (.tuple #[.agg #[.int .i64 (if (es.take p ++ (x, y, z) :: es.drop q).length ≤ 40 then n else 0), v], .bool (decide ((es.take p ++ (x, y, z) :: es.drop q).length ≤ 40))]) ∧ OwnE w w' v (if (es.take p ++ (x, y, z) :: es.drop q).length ≤ 40 then es.take p ++ (x, y, z) :: es.drop q else []) ∧ okS v ∧ Below w.heap.size w w' := by
  obtain ⟨L, hL⟩ : ∃ L, L = es.take p ++ (x, y, z) :: es.drop q := ⟨_, rfl⟩
  rw [← hL]
  have HL := Lib.hid hL
  clear hL
  obtain ⟨w0, hw0⟩ : ∃ w0, w0 = w := ⟨_, rfl⟩
  subst hw0
  have H0 := Below.refl w0.heap.size w0
  have R_0 := R
  clear R
  go_enter Try.func11, Try.ntmps11
  go_wp2_with fail
  have hb1 : Below w0.heap.size w0 (((w0.alloc (.cells #[.int .i64 n, .slice (some ⟨b, off, none⟩) es.length q] 30)).alloc (.cells #[.int .i64 x, .int .i64 y, .int .i64 z] 34)).alloc (.cells #[.int .i64 0, .slice none 0 0] 30)) := (((Below.refl _ _).alloc (by simp <;> omega) _).alloc (by simp <;> omega) _).alloc (by simp <;> omega) _
  have H1 := bel_trans H0 hb1
  have SZ1 := Lib.hid hb1.size
  have R_1 := Lib.hid (R_0.out.keep hb1)
  have qg0_1 : (((w0.alloc (.cells #[.int .i64 n, .slice (some ⟨b, off, none⟩) es.length q] 30)).alloc (.cells #[.int .i64 x, .int .i64 y, .int .i64 z] 34)).alloc (.cells #[.int .i64 0, .slice none 0 0] 30)).cell? ⟨w0.heap.size, 0, none⟩ = some (.int .i64 n) := by go_simp
  have qg1_1 : (((w0.alloc (.cells #[.int .i64 n, .slice (some ⟨b, off, none⟩) es.length q] 30)).alloc (.cells #[.int .i64 x, .int .i64 y, .int .i64 z] 34)).alloc (.cells #[.int .i64 0, .slice none 0 0] 30)).cell? ⟨w0.heap.size, 1, none⟩ = some (.slice (some ⟨b, off, none⟩) es.length q) := by go_simp
  have zg_1 : w0.heap.size < (((w0.alloc (.cells #[.int .i64 n, .slice (some ⟨b, off, none⟩) es.length q] 30)).alloc (.cells #[.int .i64 x, .int .i64 y, .int .i64 z] 34)).alloc (.cells #[.int .i64 0, .slice none 0 0] 30)).heap.size := by simp <;> omega
  have qe0_1 : (((w0.alloc (.cells #[.int .i64 n, .slice (some ⟨b, off, none⟩) es.length q] 30)).alloc (.cells #[.int .i64 x, .int .i64 y, .int .i64 z] 34)).alloc (.cells #[.int .i64 0, .slice none 0 0] 30)).cell? ⟨w0.heap.size + 1, 0, none⟩ = some (.int .i64 x) := by go_simp
  have qe1_1 : (((w0.alloc (.cells #[.int .i64 n, .slice (some ⟨b, off, none⟩) es.length q] 30)).alloc (.cells #[.int .i64 x, .int .i64 y, .int .i64 z] 34)).alloc (.cells #[.int .i64 0, .slice none 0 0] 30)).cell? ⟨w0.heap.size + 1, 1, none⟩ = some (.int .i64 y) := by go_simp
  have qe2_1 : (((w0.alloc (.cells #[.int .i64 n, .slice (some ⟨b, off, none⟩) es.length q] 30)).alloc (.cells #[.int .i64 x, .int .i64 y, .int .i64 z] 34)).alloc (.cells #[.int .i64 0, .slice none 0 0] 30)).cell? ⟨w0.heap.size + 1, 2, none⟩ = some (.int .i64 z) := by go_simp
  have ze_1 : w0.heap.size + 1 < (((w0.alloc (.cells #[.int .i64 n, .slice (some ⟨b, off, none⟩) es.length q] 30)).alloc (.cells #[.int .i64 x, .int .i64 y, .int .i64 z] 34)).alloc (.cells #[.int .i64 0, .slice none 0 0] 30)).heap.size := by simp <;> omega
  have frr0_1 : (((w0.alloc (.cells #[.int .i64 n, .slice (some ⟨b, off, none⟩) es.length q] 30)).alloc (.cells #[.int .i64 x, .int .i64 y, .int .i64 z] 34)).alloc (.cells #[.int .i64 0, .slice none 0 0] 30)).frozen? ⟨w0.heap.size + 1 + 1, 0, none⟩ = false := by go_simp
  have frr1_1 : (((w0.alloc (.cells #[.int .i64 n, .slice (some ⟨b, off, none⟩) es.length q] 30)).alloc (.cells #[.int .i64 x, .int .i64 y, .int .i64 z] 34)).alloc (.cells #[.int .i64 0, .slice none 0 0] 30)).frozen? ⟨w0.heap.size + 1 + 1, 1, none⟩ = false := by go_simp
  have qr0_1 : (((w0.alloc (.cells #[.int .i64 n, .slice (some ⟨b, off, none⟩) es.length q] 30)).alloc (.cells #[.int .i64 x, .int .i64 y, .int .i64 z] 34)).alloc (.cells #[.int .i64 0, .slice none 0 0] 30)).cell? ⟨w0.heap.size + 1 + 1, 0, none⟩ = some (.int .i64 0) := by go_simp
  have qr1_1 : (((w0.alloc (.cells #[.int .i64 n, .slice (some ⟨b, off, none⟩) es.length q] 30)).alloc (.cells #[.int .i64 x, .int .i64 y, .int .i64 z] 34)).alloc (.cells #[.int .i64 0, .slice none 0 0] 30)).cell? ⟨w0.heap.size + 1 + 1, 1, none⟩ = some (.slice none 0 0) := by go_simp
  have zr_1 : w0.heap.size + 1 + 1 < (((w0.alloc (.cells #[.int .i64 n, .slice (some ⟨b, off, none⟩) es.length q] 30)).alloc (.cells #[.int .i64 x, .int .i64 y, .int .i64 z] 34)).alloc (.cells #[.int .i64 0, .slice none 0 0] 30)).heap.size := by simp <;> omega
  generalize (((w0.alloc (.cells #[.int .i64 n, .slice (some ⟨b, off, none⟩) es.length q] 30)).alloc (.cells #[.int .i64 x, .int .i64 y, .int .i64 z] 34)).alloc (.cells #[.int .i64 0, .slice none 0 0] 30)) = w1 at hb1 H1 SZ1 R_1 frr0_1 frr1_1 qe0_1 qe1_1 qe2_1 qg0_1 qg1_1 qr0_1 qr1_1 ze_1 zg_1 zr_1 ⊢
  have ZBg := Lib.hid zg_1
  have ZBe := Lib.hid ze_1
  have ZBr := Lib.hid zr_1
  clear R_0
  refine (HV.out _ R_1.out.edges).mono ?_
  rintro e w2 ⟨rfl, hb2⟩
  have H2 := bel_trans H1 hb2
  have SZ2 := Lib.hid hb2.size
  have qg0_2 := (hb2.cell (p := ⟨w0.heap.size, 0, none⟩) zg_1).trans qg0_1
  have qg1_2 := (hb2.cell (p := ⟨w0.heap.size, 1, none⟩) zg_1).trans qg1_1
  have zg_2 := Nat.lt_of_lt_of_le zg_1 hb2.size
  have qe0_2 := (hb2.cell (p := ⟨w0.heap.size + 1, 0, none⟩) ze_1).trans qe0_1
  have qe1_2 := (hb2.cell (p := ⟨w0.heap.size + 1, 1, none⟩) ze_1).trans qe1_1
  have qe2_2 := (hb2.cell (p := ⟨w0.heap.size + 1, 2, none⟩) ze_1).trans qe2_1
  have ze_2 := Nat.lt_of_lt_of_le ze_1 hb2.size
  have qr0_2 := (hb2.cell (p := ⟨w0.heap.size + 1 + 1, 0, none⟩) zr_1).trans qr0_1
  have frr0_2 := (hb2.frozen (p := ⟨w0.heap.size + 1 + 1, 0, none⟩) zr_1).trans frr0_1
  have qr1_2 := (hb2.cell (p := ⟨w0.heap.size + 1 + 1, 1, none⟩) zr_1).trans qr1_1
  have frr1_2 := (hb2.frozen (p := ⟨w0.heap.size + 1 + 1, 1, none⟩) zr_1).trans frr1_1
  have zr_2 := Nat.lt_of_lt_of_le zr_1 hb2.size
  have R_2 := Lib.hid (R_1.out.keep hb2)
  clear R_1 qg0_1 qg1_1 zg_1 qe0_1 qe1_1 qe2_1 ze_1 frr0_1 frr1_1 qr0_1 qr1_1 zr_1
  go_wp2_with fail
  refine (HF.out _).mono ?_
  rintro e w3 ⟨rfl, hb3⟩
  have H3 := bel_trans H2 hb3
  have SZ3 := Lib.hid hb3.size
  have qg0_3 := (hb3.cell (p := ⟨w0.heap.size, 0, none⟩) zg_2).trans qg0_2
  have qg1_3 := (hb3.cell (p := ⟨w0.heap.size, 1, none⟩) zg_2).trans qg1_2
  have zg_3 := Nat.lt_of_lt_of_le zg_2 hb3.size
  have qe0_3 := (hb3.cell (p := ⟨w0.heap.size + 1, 0, none⟩) ze_2).trans qe0_2
  have qe1_3 := (hb3.cell (p := ⟨w0.heap.size + 1, 1, none⟩) ze_2).trans qe1_2
  have qe2_3 := (hb3.cell (p := ⟨w0.heap.size + 1, 2, none⟩) ze_2).trans qe2_2
  have ze_3 := Nat.lt_of_lt_of_le ze_2 hb3.size
  have qr0_3 := (hb3.cell (p := ⟨w0.heap.size + 1 + 1, 0, none⟩) zr_2).trans qr0_2
  have frr0_3 := (hb3.frozen (p := ⟨w0.heap.size + 1 + 1, 0, none⟩) zr_2).trans frr0_2
  have qr1_3 := (hb3.cell (p := ⟨w0.heap.size + 1 + 1, 1, none⟩) zr_2).trans qr1_2
  have frr1_3 := (hb3.frozen (p := ⟨w0.heap.size + 1 + 1, 1, none⟩) zr_2).trans frr1_2
  have zr_3 := Nat.lt_of_lt_of_le zr_2 hb3.size
  have R_3 := Lib.hid (R_2.out.keep hb3)
  clear qg0_2 qg1_2 zg_2 qe0_2 qe1_2 qe2_2 ze_2 qr0_2 frr0_2 qr1_2 frr1_2 zr_2 R_2
  go_wp2_with fail
  refine (HE.out _ R_3.out.edges).mono ?_
  rintro e w4 ⟨rfl, hb4⟩
  have H4 := bel_trans H3 hb4
  have SZ4 := Lib.hid hb4.size
  have qg0_4 := (hb4.cell (p := ⟨w0.heap.size, 0, none⟩) zg_3).trans qg0_3
  have qg1_4 := (hb4.cell (p := ⟨w0.heap.size, 1, none⟩) zg_3).trans qg1_3
  have zg_4 := Nat.lt_of_lt_of_le zg_3 hb4.size
  have qe0_4 := (hb4.cell (p := ⟨w0.heap.size + 1, 0, none⟩) ze_3).trans qe0_3
  have qe1_4 := (hb4.cell (p := ⟨w0.heap.size + 1, 1, none⟩) ze_3).trans qe1_3
  have qe2_4 := (hb4.cell (p := ⟨w0.heap.size + 1, 2, none⟩) ze_3).trans qe2_3
  have ze_4 := Nat.lt_of_lt_of_le ze_3 hb4.size
  have qr0_4 := (hb4.cell (p := ⟨w0.heap.size + 1 + 1, 0, none⟩) zr_3).trans qr0_3
  have frr0_4 := (hb4.frozen (p := ⟨w0.heap.size + 1 + 1, 0, none⟩) zr_3).trans frr0_3
  have qr1_4 := (hb4.cell (p := ⟨w0.heap.size + 1 + 1, 1, none⟩) zr_3).trans qr1_3
  have frr1_4 := (hb4.frozen (p := ⟨w0.heap.size + 1 + 1, 1, none⟩) zr_3).trans frr1_3
  have zr_4 := Nat.lt_of_lt_of_le zr_3 hb4.size
  have R_4 := Lib.hid (R_3.out.keep hb4)
  clear qg0_3 qg1_3 zg_3 qe0_3 qe1_3 qe2_3 ze_3 qr0_3 frr0_3 qr1_3 frr1_3 zr_3 R_3
  go_wp2
  have hold : ∀ w' : World, Below w4.heap.size w4 w' → (w'.cell? ⟨w0.heap.size, 1, none⟩ = some (.slice (some ⟨b, off, none⟩) es.length q) ∧ w'.cell? ⟨w0.heap.size + 1, 0, none⟩ = some (.int .i64 x) ∧ w'.cell? ⟨w0.heap.size + 1, 1, none⟩ = some (.int .i64 y) ∧ w'.cell? ⟨w0.heap.size + 1, 2, none⟩ = some (.int .i64 z)) := fun w' h => ⟨(h.cell (p := ⟨w0.heap.size, 1, none⟩) zg_4).trans qg1_4, (h.cell (p := ⟨w0.heap.size + 1, 0, none⟩) ze_4).trans qe0_4, (h.cell (p := ⟨w0.heap.size + 1, 1, none⟩) ze_4).trans qe1_4, (h.cell (p := ⟨w0.heap.size + 1, 2, none⟩) ze_4).trans qe2_4⟩
  have HOLD := Lib.hid hold
  clear hold
  have t1 := Lib.hid (T1.out.keep H4)
  have t3 := Lib.hid (T3.out.keep H4)
  go_region_held3 (fun w' : World => w'.cell? ⟨w0.heap.size, 1, none⟩ = some (.slice (some ⟨b, off, none⟩) es.length q) ∧ w'.cell? ⟨w0.heap.size + 1, 0, none⟩ = some (.int .i64 x) ∧ w'.cell? ⟨w0.heap.size + 1, 1, none⟩ = some (.int .i64 y) ∧ w'.cell? ⟨w0.heap.size + 1, 2, none⟩ = some (.int .i64 z)) (first | exact HOLD.out _ ((Below.refl _ _).drew) | exact HOLD.out _ (((Below.refl _ _).alloc (Nat.le_refl _) _).drew) | exact HOLD.out _ ((((Below.refl _ _).alloc (Nat.le_refl _) _).alloc (by simp) _).drew) | exact HOLD.out _ hb5) (first | (go_at_call 28; refine (concat3 (es.take p) (es.drop q) x y z (.slice (some ⟨b, off, none⟩) p q) (.slice (some ⟨b, off, none⟩) (es.length - q) 0) w4 t1.out t3.out o1 o3 hT _ _).mono ?_; rintro e w5 ⟨v, rfl, hown, hokv, hb5⟩))
  rw [← HL.out] at hown
  obtain ⟨va, vc, rfl, hvz⟩ := id hown
  clear hvz HOLD t1 t3
  have H5 := bel_trans H4 hb5
  have SZ5 := Lib.hid hb5.size
  have qg0_5 := (hb5.cell (p := ⟨w0.heap.size, 0, none⟩) zg_4).trans qg0_4
  have qg1_5 := (hb5.cell (p := ⟨w0.heap.size, 1, none⟩) zg_4).trans qg1_4
  have zg_5 := Nat.lt_of_lt_of_le zg_4 hb5.size
  have qe0_5 := (hb5.cell (p := ⟨w0.heap.size + 1, 0, none⟩) ze_4).trans qe0_4
  have qe1_5 := (hb5.cell (p := ⟨w0.heap.size + 1, 1, none⟩) ze_4).trans qe1_4
  have qe2_5 := (hb5.cell (p := ⟨w0.heap.size + 1, 2, none⟩) ze_4).trans qe2_4
  have ze_5 := Nat.lt_of_lt_of_le ze_4 hb5.size
  have qr0_5 := (hb5.cell (p := ⟨w0.heap.size + 1 + 1, 0, none⟩) zr_4).trans qr0_4
  have frr0_5 := (hb5.frozen (p := ⟨w0.heap.size + 1 + 1, 0, none⟩) zr_4).trans frr0_4
  have qr1_5 := (hb5.cell (p := ⟨w0.heap.size + 1 + 1, 1, none⟩) zr_4).trans qr1_4
  have frr1_5 := (hb5.frozen (p := ⟨w0.heap.size + 1 + 1, 1, none⟩) zr_4).trans frr1_4
  have zr_5 := Nat.lt_of_lt_of_le zr_4 hb5.size
  have R_5 := Lib.hid (R_4.out.keep hb5)
  have V_5 := Lib.hid hown
  clear hown
  clear qg0_4 qg1_4 zg_4 qe0_4 qe1_4 qe2_4 ze_4 qr0_4 frr0_4 qr1_4 frr1_4 zr_4 R_4
  by_cases h40 : L.length ≤ 40
  rotate_left
  · have h40i : (40 : Int) < L.length := by omega
    have H40 := Lib.hid h40
    clear h40
    go_wp2
    try simp only [Exit.inBlock, Exit.then]
    refine bodyPost_ret (v := .tuple #[.agg #[.int .i64 0, .slice none 0 0], .bool false]) ?_ rfl ?_
    · rw [results_cell_tmp rfl]
      go_simp
    have hch : Chg (w0.heap.size + 2) (w0.heap.size + 3) w5 ((w5.setCell ⟨w0.heap.size + 1 + 1, 0, none⟩ (.int .i64 0)).setCell ⟨w0.heap.size + 1 + 1, 1, none⟩ (.slice none 0 0)) := ((Chg.refl _ _ _).setCell (by simp only; omega) (by simp only; omega) _).setCell (by simp only; omega) (by simp only; omega) _
    refine ⟨.slice none 0 0, by first | rfl | rw [if_neg H40.out, decide_eq_false H40.out], by first | exact ownE_nil _ _ | (rw [if_neg H40.out]; exact ownE_nil _ _), okS_nil, bel_chg H5 hch (by omega)⟩
  have h40i : ¬ ((40 : Int) < L.length) := by omega
  have H40 := Lib.hid h40
  clear h40
  go_wp2
  try simp only [Exit.inBlock, Exit.then]
  refine bodyPost_ret (v := .tuple #[.agg #[.int .i64 n, .slice va L.length vc], .bool true]) ?_ rfl ?_
  · rw [results_cell_tmp rfl]
    go_simp
  have hch : Chg (w0.heap.size + 2) (w0.heap.size + 3) w5 ((w5.setCell ⟨w0.heap.size + 1 + 1, 0, none⟩ (.int .i64 n)).setCell ⟨w0.heap.size + 1 + 1, 1, none⟩ (.slice va L.length vc)) := ((Chg.refl _ _ _).setCell (by simp only; omega) (by simp only; omega) _).setCell (by simp only; omega) (by simp only; omega) _
  refine ⟨.slice va L.length vc, by first | rfl | rw [if_pos H40.out, decide_eq_true H40.out], by first | exact ((V_5.out.chg hch (.inl (by have := ZBr.out; have := SZ4.out; have := SZ3.out; have := SZ2.out; omega))).wider (by have := SZ4.out; have := SZ3.out; have := SZ2.out; have := SZ1.out; omega) (by simp) (Nat.le_refl _)) | (rw [if_pos H40.out]; exact ((V_5.out.chg hch (.inl (by have := ZBr.out; have := SZ4.out; have := SZ3.out; have := SZ2.out; omega))).wider (by have := SZ4.out; have := SZ3.out; have := SZ2.out; have := SZ1.out; omega) (by simp) (Nat.le_refl _))), hokv, bel_chg H5 hch (by omega)⟩

set_option maxRecDepth 100000 in
set_option maxHeartbeats 1000000 in
theorem putCc (n : Int) (es : List Ed) (x y z : Int) (b off p cap : Nat) (w : World)
    (HV : Hid (∀ (w : World), RowE w (.slice (some ⟨b, off, none⟩) es.length cap) es → Calls Try.prog 25 #[.agg #[.int .i64 n, .slice (some ⟨b, off, none⟩) es.length cap]] w fun e w' => e = .returned (.bool true) ∧ Below w.heap.size w w'))
    (HF : Hid (∀ (w : World), Calls Try.prog 26 #[.agg #[.int .i64 n, .slice (some ⟨b, off, none⟩) es.length cap], .agg #[.int .i64 x, .int .i64 y, .int .i64 z]] w fun e w' => e = .returned (.bool true) ∧ Below w.heap.size w w'))
    (HE : Hid (∀ (w : World), RowE w (.slice (some ⟨b, off, none⟩) es.length cap) es → Calls Try.prog 27 #[.agg #[.int .i64 n, .slice (some ⟨b, off, none⟩) es.length cap], .int .i64 x, .int .i64 y] w fun e w' => e = .returned (.tuple #[.int .i64 (p : Int), .bool false]) ∧ Below w.heap.size w w'))
    (R : Hid (InR false w 0 w.heap.size (.slice (some ⟨b, off, none⟩) es.length cap) es.length 3 (cellE es))) (T1 : Hid (RowE w (.slice (some ⟨b, off, none⟩) p cap) (es.take p))) (T3 : Hid (RowE w (.slice (some ⟨b, off + p * 3, none⟩) (es.length - p) (cap - p)) (es.drop p)))
    (o1 : okS (.slice (some ⟨b, off, none⟩) p cap)) (o3 : okS (.slice (some ⟨b, off + p * 3, none⟩) (es.length - p) (cap - p))) (hT : (es.take p ++ (x, y, z) :: es.drop p).length ≤ 1048576)
    (hp1 : (p : Int) ≤ cap) (hq1 : (p : Int) ≤ es.length) (hq3 : (es.length : Int) ≤ cap) (hle : es.length ≤ 1048576) (hcq : ¬ cap = p) :
    Calls Try.prog 11 #[.agg #[.int .i64 n, .slice (some ⟨b, off, none⟩) es.length cap], .agg #[.int .i64 x, .int .i64 y, .int .i64 z]] w fun e w' => ∃ v, e = .returned (.tuple #[.agg #[.int .i64 (if (es.take p ++ (x, y, z) :: es.drop p).length ≤ 40 then n else 0), v], .bool (decide ((es.take p ++ (x, y, z) :: es.drop p).length ≤ 40))]) ∧ OwnE w w' v (if (es.take p ++ (x, y, z) :: es.drop p).length ≤ 40 then es.take p ++ (x, y, z) :: es.drop p else []) ∧ okS v ∧ Below w.heap.size w w' := by
  obtain ⟨L, hL⟩ : ∃ L, L = es.take p ++ (x, y, z) :: es.drop p := ⟨_, rfl⟩
  rw [← hL]
  have HL := Lib.hid hL
  clear hL
  obtain ⟨w0, hw0⟩ : ∃ w0, w0 = w := ⟨_, rfl⟩
  subst hw0
  have H0 := Below.refl w0.heap.size w0
  have R_0 := R
  clear R
  go_enter Try.func11, Try.ntmps11
  go_wp2_with fail
  have hb1 : Below w0.heap.size w0 (((w0.alloc (.cells #[.int .i64 n, .slice (some ⟨b, off, none⟩) es.length cap] 30)).alloc (.cells #[.int .i64 x, .int .i64 y, .int .i64 z] 34)).alloc (.cells #[.int .i64 0, .slice none 0 0] 30)) := (((Below.refl _ _).alloc (by simp <;> omega) _).alloc (by simp <;> omega) _).alloc (by simp <;> omega) _
  have H1 := bel_trans H0 hb1
  have SZ1 := Lib.hid hb1.size
  have R_1 := Lib.hid (R_0.out.keep hb1)
  have qg0_1 : (((w0.alloc (.cells #[.int .i64 n, .slice (some ⟨b, off, none⟩) es.length cap] 30)).alloc (.cells #[.int .i64 x, .int .i64 y, .int .i64 z] 34)).alloc (.cells #[.int .i64 0, .slice none 0 0] 30)).cell? ⟨w0.heap.size, 0, none⟩ = some (.int .i64 n) := by go_simp
  have qg1_1 : (((w0.alloc (.cells #[.int .i64 n, .slice (some ⟨b, off, none⟩) es.length cap] 30)).alloc (.cells #[.int .i64 x, .int .i64 y, .int .i64 z] 34)).alloc (.cells #[.int .i64 0, .slice none 0 0] 30)).cell? ⟨w0.heap.size, 1, none⟩ = some (.slice (some ⟨b, off, none⟩) es.length cap) := by go_simp
  have zg_1 : w0.heap.size < (((w0.alloc (.cells #[.int .i64 n, .slice (some ⟨b, off, none⟩) es.length cap] 30)).alloc (.cells #[.int .i64 x, .int .i64 y, .int .i64 z] 34)).alloc (.cells #[.int .i64 0, .slice none 0 0] 30)).heap.size := by simp <;> omega
  have qe0_1 : (((w0.alloc (.cells #[.int .i64 n, .slice (some ⟨b, off, none⟩) es.length cap] 30)).alloc (.cells #[.int .i64 x, .int .i64 y, .int .i64 z] 34)).alloc (.cells #[.int .i64 0, .slice none 0 0] 30)).cell? ⟨w0.heap.size + 1, 0, none⟩ = some (.int .i64 x) := by go_simp
  have qe1_1 : (((w0.alloc (.cells #[.int .i64 n, .slice (some ⟨b, off, none⟩) es.length cap] 30)).alloc (.cells #[.int .i64 x, .int .i64 y, .int .i64 z] 34)).alloc (.cells #[.int .i64 0, .slice none 0 0] 30)).cell? ⟨w0.heap.size + 1, 1, none⟩ = some (.int .i64 y) := by go_simp
  have qe2_1 : (((w0.alloc (.cells #[.int .i64 n, .slice (some ⟨b, off, none⟩) es.length cap] 30)).alloc (.cells #[.int .i64 x, .int .i64 y, .int .i64 z] 34)).alloc (.cells #[.int .i64 0, .slice none 0 0] 30)).cell? ⟨w0.heap.size + 1, 2, none⟩ = some (.int .i64 z) := by go_simp
  have ze_1 : w0.heap.size + 1 < (((w0.alloc (.cells #[.int .i64 n, .slice (some ⟨b, off, none⟩) es.length cap] 30)).alloc (.cells #[.int .i64 x, .int .i64 y, .int .i64 z] 34)).alloc (.cells #[.int .i64 0, .slice none 0 0] 30)).heap.size := by simp <;> omega
  have frr0_1 : (((w0.alloc (.cells #[.int .i64 n, .slice (some ⟨b, off, none⟩) es.length cap] 30)).alloc (.cells #[.int .i64 x, .int .i64 y, .int .i64 z] 34)).alloc (.cells #[.int .i64 0, .slice none 0 0] 30)).frozen? ⟨w0.heap.size + 1 + 1, 0, none⟩ = false := by go_simp
  have frr1_1 : (((w0.alloc (.cells #[.int .i64 n, .slice (some ⟨b, off, none⟩) es.length cap] 30)).alloc (.cells #[.int .i64 x, .int .i64 y, .int .i64 z] 34)).alloc (.cells #[.int .i64 0, .slice none 0 0] 30)).frozen? ⟨w0.heap.size + 1 + 1, 1, none⟩ = false := by go_simp
  have qr0_1 : (((w0.alloc (.cells #[.int .i64 n, .slice (some ⟨b, off, none⟩) es.length cap] 30)).alloc (.cells #[.int .i64 x, .int .i64 y, .int .i64 z] 34)).alloc (.cells #[.int .i64 0, .slice none 0 0] 30)).cell? ⟨w0.heap.size + 1 + 1, 0, none⟩ = some (.int .i64 0) := by go_simp
  have qr1_1 : (((w0.alloc (.cells #[.int .i64 n, .slice (some ⟨b, off, none⟩) es.length cap] 30)).alloc (.cells #[.int .i64 x, .int .i64 y, .int .i64 z] 34)).alloc (.cells #[.int .i64 0, .slice none 0 0] 30)).cell? ⟨w0.heap.size + 1 + 1, 1, none⟩ = some (.slice none 0 0) := by go_simp
  have zr_1 : w0.heap.size + 1 + 1 < (((w0.alloc (.cells #[.int .i64 n, .slice (some ⟨b, off, none⟩) es.length cap] 30)).alloc (.cells #[.int .i64 x, .int .i64 y, .int .i64 z] 34)).alloc (.cells #[.int .i64 0, .slice none 0 0] 30)).heap.size := by simp <;> omega
  generalize (((w0.alloc (.cells #[.int .i64 n, .slice (some ⟨b, off, none⟩) es.length cap] 30)).alloc (.cells #[.int .i64 x, .int .i64 y, .int .i64 z] 34)).alloc (.cells #[.int .i64 0, .slice none 0 0] 30)) = w1 at hb1 H1 SZ1 R_1 frr0_1 frr1_1 qe0_1 qe1_1 qe2_1 qg0_1 qg1_1 qr0_1 qr1_1 ze_1 zg_1 zr_1 ⊢
  have ZBg := Lib.hid zg_1
  have ZBe := Lib.hid ze_1
  have ZBr := Lib.hid zr_1
  clear R_0
  refine (HV.out _ R_1.out.edges).mono ?_
  rintro e w2 ⟨rfl, hb2⟩
  have H2 := bel_trans H1 hb2
  have SZ2 := Lib.hid hb2.size
  have qg0_2 := (hb2.cell (p := ⟨w0.heap.size, 0, none⟩) zg_1).trans qg0_1
  have qg1_2 := (hb2.cell (p := ⟨w0.heap.size, 1, none⟩) zg_1).trans qg1_1
  have zg_2 := Nat.lt_of_lt_of_le zg_1 hb2.size
  have qe0_2 := (hb2.cell (p := ⟨w0.heap.size + 1, 0, none⟩) ze_1).trans qe0_1
  have qe1_2 := (hb2.cell (p := ⟨w0.heap.size + 1, 1, none⟩) ze_1).trans qe1_1
  have qe2_2 := (hb2.cell (p := ⟨w0.heap.size + 1, 2, none⟩) ze_1).trans qe2_1
  have ze_2 := Nat.lt_of_lt_of_le ze_1 hb2.size
  have qr0_2 := (hb2.cell (p := ⟨w0.heap.size + 1 + 1, 0, none⟩) zr_1).trans qr0_1
  have frr0_2 := (hb2.frozen (p := ⟨w0.heap.size + 1 + 1, 0, none⟩) zr_1).trans frr0_1
  have qr1_2 := (hb2.cell (p := ⟨w0.heap.size + 1 + 1, 1, none⟩) zr_1).trans qr1_1
  have frr1_2 := (hb2.frozen (p := ⟨w0.heap.size + 1 + 1, 1, none⟩) zr_1).trans frr1_1
  have zr_2 := Nat.lt_of_lt_of_le zr_1 hb2.size
  have R_2 := Lib.hid (R_1.out.keep hb2)
  clear R_1 qg0_1 qg1_1 zg_1 qe0_1 qe1_1 qe2_1 ze_1 frr0_1 frr1_1 qr0_1 qr1_1 zr_1
  go_wp2_with fail
  refine (HF.out _).mono ?_
  rintro e w3 ⟨rfl, hb3⟩
  have H3 := bel_trans H2 hb3
  have SZ3 := Lib.hid hb3.size
  have qg0_3 := (hb3.cell (p := ⟨w0.heap.size, 0, none⟩) zg_2).trans qg0_2
  have qg1_3 := (hb3.cell (p := ⟨w0.heap.size, 1, none⟩) zg_2).trans qg1_2
  have zg_3 := Nat.lt_of_lt_of_le zg_2 hb3.size
  have qe0_3 := (hb3.cell (p := ⟨w0.heap.size + 1, 0, none⟩) ze_2).trans qe0_2
  have qe1_3 := (hb3.cell (p := ⟨w0.heap.size + 1, 1, none⟩) ze_2).trans qe1_2
  have qe2_3 := (hb3.cell (p := ⟨w0.heap.size + 1, 2, none⟩) ze_2).trans qe2_2
  have ze_3 := Nat.lt_of_lt_of_le ze_2 hb3.size
  have qr0_3 := (hb3.cell (p := ⟨w0.heap.size + 1 + 1, 0, none⟩) zr_2).trans qr0_2
  have frr0_3 := (hb3.frozen (p := ⟨w0.heap.size + 1 + 1, 0, none⟩) zr_2).trans frr0_2
  have qr1_3 := (hb3.cell (p := ⟨w0.heap.size + 1 + 1, 1, none⟩) zr_2).trans qr1_2
  have frr1_3 := (hb3.frozen (p := ⟨w0.heap.size + 1 + 1, 1, none⟩) zr_2).trans frr1_2
  have zr_3 := Nat.lt_of_lt_of_le zr_2 hb3.size
  have R_3 := Lib.hid (R_2.out.keep hb3)
  clear qg0_2 qg1_2 zg_2 qe0_2 qe1_2 qe2_2 ze_2 qr0_2 frr0_2 qr1_2 frr1_2 zr_2 R_2
  go_wp2_with fail
  refine (HE.out _ R_3.out.edges).mono ?_
  rintro e w4 ⟨rfl, hb4⟩
  have H4 := bel_trans H3 hb4
  have SZ4 := Lib.hid hb4.size
  have qg0_4 := (hb4.cell (p := ⟨w0.heap.size, 0, none⟩) zg_3).trans qg0_3
  have qg1_4 := (hb4.cell (p := ⟨w0.heap.size, 1, none⟩) zg_3).trans qg1_3
  have zg_4 := Nat.lt_of_lt_of_le zg_3 hb4.size
  have qe0_4 := (hb4.cell (p := ⟨w0.heap.size + 1, 0, none⟩) ze_3).trans qe0_3
  have qe1_4 := (hb4.cell (p := ⟨w0.heap.size + 1, 1, none⟩) ze_3).trans qe1_3
  have qe2_4 := (hb4.cell (p := ⟨w0.heap.size + 1, 2, none⟩) ze_3).trans qe2_3
  have ze_4 := Nat.lt_of_lt_of_le ze_3 hb4.size
  have qr0_4 := (hb4.cell (p := ⟨w0.heap.size + 1 + 1, 0, none⟩) zr_3).trans qr0_3
  have frr0_4 := (hb4.frozen (p := ⟨w0.heap.size + 1 + 1, 0, none⟩) zr_3).trans frr0_3
  have qr1_4 := (hb4.cell (p := ⟨w0.heap.size + 1 + 1, 1, none⟩) zr_3).trans qr1_3
  have frr1_4 := (hb4.frozen (p := ⟨w0.heap.size + 1 + 1, 1, none⟩) zr_3).trans frr1_3
  have zr_4 := Nat.lt_of_lt_of_le zr_3 hb4.size
  have R_4 := Lib.hid (R_3.out.keep hb4)
  clear qg0_3 qg1_3 zg_3 qe0_3 qe1_3 qe2_3 ze_3 qr0_3 frr0_3 qr1_3 frr1_3 zr_3 R_3
  go_wp2
  have hold : ∀ w' : World, Below w4.heap.size w4 w' → (w'.cell? ⟨w0.heap.size, 1, none⟩ = some (.slice (some ⟨b, off, none⟩) es.length cap) ∧ w'.cell? ⟨w0.heap.size + 1, 0, none⟩ = some (.int .i64 x) ∧ w'.cell? ⟨w0.heap.size + 1, 1, none⟩ = some (.int .i64 y) ∧ w'.cell? ⟨w0.heap.size + 1, 2, none⟩ = some (.int .i64 z)) := fun w' h => ⟨(h.cell (p := ⟨w0.heap.size, 1, none⟩) zg_4).trans qg1_4, (h.cell (p := ⟨w0.heap.size + 1, 0, none⟩) ze_4).trans qe0_4, (h.cell (p := ⟨w0.heap.size + 1, 1, none⟩) ze_4).trans qe1_4, (h.cell (p := ⟨w0.heap.size + 1, 2, none⟩) ze_4).trans qe2_4⟩
  have HOLD := Lib.hid hold
  clear hold
  have t1 := Lib.hid (T1.out.keep H4)
  have t3 := Lib.hid (T3.out.keep H4)
  go_region_held3 (fun w' : World => w'.cell? ⟨w0.heap.size, 1, none⟩ = some (.slice (some ⟨b, off, none⟩) es.length cap) ∧ w'.cell? ⟨w0.heap.size + 1, 0, none⟩ = some (.int .i64 x) ∧ w'.cell? ⟨w0.heap.size + 1, 1, none⟩ = some (.int .i64 y) ∧ w'.cell? ⟨w0.heap.size + 1, 2, none⟩ = some (.int .i64 z)) (first | exact HOLD.out _ ((Below.refl _ _).drew) | exact HOLD.out _ (((Below.refl _ _).alloc (Nat.le_refl _) _).drew) | exact HOLD.out _ ((((Below.refl _ _).alloc (Nat.le_refl _) _).alloc (by simp) _).drew) | exact HOLD.out _ hb5) (first | (go_at_call 28; refine (concat3 (es.take p) (es.drop p) x y z (.slice (some ⟨b, off, none⟩) p cap) (.slice (some ⟨b, off + p * 3, none⟩) (es.length - p) (cap - p)) w4 t1.out t3.out o1 o3 hT _ _).mono ?_; rintro e w5 ⟨v, rfl, hown, hokv, hb5⟩))
  rw [← HL.out] at hown
  obtain ⟨va, vc, rfl, hvz⟩ := id hown
  clear hvz HOLD t1 t3
  have H5 := bel_trans H4 hb5
  have SZ5 := Lib.hid hb5.size
  have qg0_5 := (hb5.cell (p := ⟨w0.heap.size, 0, none⟩) zg_4).trans qg0_4
  have qg1_5 := (hb5.cell (p := ⟨w0.heap.size, 1, none⟩) zg_4).trans qg1_4
  have zg_5 := Nat.lt_of_lt_of_le zg_4 hb5.size
  have qe0_5 := (hb5.cell (p := ⟨w0.heap.size + 1, 0, none⟩) ze_4).trans qe0_4
  have qe1_5 := (hb5.cell (p := ⟨w0.heap.size + 1, 1, none⟩) ze_4).trans qe1_4
  have qe2_5 := (hb5.cell (p := ⟨w0.heap.size + 1, 2, none⟩) ze_4).trans qe2_4
  have ze_5 := Nat.lt_of_lt_of_le ze_4 hb5.size
  have qr0_5 := (hb5.cell (p := ⟨w0.heap.size + 1 + 1, 0, none⟩) zr_4).trans qr0_4
  have frr0_5 := (hb5.frozen (p := ⟨w0.heap.size + 1 + 1, 0, none⟩) zr_4).trans frr0_4
  have qr1_5 := (hb5.cell (p := ⟨w0.heap.size + 1 + 1, 1, none⟩) zr_4).trans qr1_4
  have frr1_5 := (hb5.frozen (p := ⟨w0.heap.size + 1 + 1, 1, none⟩) zr_4).trans frr1_4
  have zr_5 := Nat.lt_of_lt_of_le zr_4 hb5.size
  have R_5 := Lib.hid (R_4.out.keep hb5)
  have V_5 := Lib.hid hown
  clear hown
  clear qg0_4 qg1_4 zg_4 qe0_4 qe1_4 qe2_4 ze_4 qr0_4 frr0_4 qr1_4 frr1_4 zr_4 R_4
  by_cases h40 : L.length ≤ 40
  rotate_left
  · have h40i : (40 : Int) < L.length := by omega
    have H40 := Lib.hid h40
    clear h40
    go_wp2
    try simp only [Exit.inBlock, Exit.then]
    refine bodyPost_ret (v := .tuple #[.agg #[.int .i64 0, .slice none 0 0], .bool false]) ?_ rfl ?_
    · rw [results_cell_tmp rfl]
      go_simp
    have hch : Chg (w0.heap.size + 2) (w0.heap.size + 3) w5 ((w5.setCell ⟨w0.heap.size + 1 + 1, 0, none⟩ (.int .i64 0)).setCell ⟨w0.heap.size + 1 + 1, 1, none⟩ (.slice none 0 0)) := ((Chg.refl _ _ _).setCell (by simp only; omega) (by simp only; omega) _).setCell (by simp only; omega) (by simp only; omega) _
    refine ⟨.slice none 0 0, by first | rfl | rw [if_neg H40.out, decide_eq_false H40.out], by first | exact ownE_nil _ _ | (rw [if_neg H40.out]; exact ownE_nil _ _), okS_nil, bel_chg H5 hch (by omega)⟩
  have h40i : ¬ ((40 : Int) < L.length) := by omega
  have H40 := Lib.hid h40
  clear h40
  go_wp2
  try simp only [Exit.inBlock, Exit.then]
  refine bodyPost_ret (v := .tuple #[.agg #[.int .i64 n, .slice va L.length vc], .bool true]) ?_ rfl ?_
  · rw [results_cell_tmp rfl]
    go_simp
  have hch : Chg (w0.heap.size + 2) (w0.heap.size + 3) w5 ((w5.setCell ⟨w0.heap.size + 1 + 1, 0, none⟩ (.int .i64 n)).setCell ⟨w0.heap.size + 1 + 1, 1, none⟩ (.slice va L.length vc)) := ((Chg.refl _ _ _).setCell (by simp only; omega) (by simp only; omega) _).setCell (by simp only; omega) (by simp only; omega) _
  refine ⟨.slice va L.length vc, by first | rfl | rw [if_pos H40.out, decide_eq_true H40.out], by first | exact ((V_5.out.chg hch (.inl (by have := ZBr.out; have := SZ4.out; have := SZ3.out; have := SZ2.out; omega))).wider (by have := SZ4.out; have := SZ3.out; have := SZ2.out; have := SZ1.out; omega) (by simp) (Nat.le_refl _)) | (rw [if_pos H40.out]; exact ((V_5.out.chg hch (.inl (by have := ZBr.out; have := SZ4.out; have := SZ3.out; have := SZ2.out; omega))).wider (by have := SZ4.out; have := SZ3.out; have := SZ2.out; have := SZ1.out; omega) (by simp) (Nat.le_refl _))), hokv, bel_chg H5 hch (by omega)⟩

set_option maxRecDepth 100000 in
set_option maxHeartbeats 1000000 in
theorem putCd (n : Int) (es : List Ed) (x y z : Int) (b off p : Nat) (w : World)
    (HV : Hid (∀ (w : World), RowE w (.slice (some ⟨b, off, none⟩) es.length p) es → Calls Try.prog 25 #[.agg #[.int .i64 n, .slice (some ⟨b, off, none⟩) es.length p]] w fun e w' => e = .returned (.bool true) ∧ Below w.heap.size w w'))
    (HF : Hid (∀ (w : World), Calls Try.prog 26 #[.agg #[.int .i64 n, .slice (some ⟨b, off, none⟩) es.length p], .agg #[.int .i64 x, .int .i64 y, .int .i64 z]] w fun e w' => e = .returned (.bool true) ∧ Below w.heap.size w w'))
    (HE : Hid (∀ (w : World), RowE w (.slice (some ⟨b, off, none⟩) es.length p) es → Calls Try.prog 27 #[.agg #[.int .i64 n, .slice (some ⟨b, off, none⟩) es.length p], .int .i64 x, .int .i64 y] w fun e w' => e = .returned (.tuple #[.int .i64 (p : Int), .bool false]) ∧ Below w.heap.size w w'))
    (R : Hid (InR false w 0 w.heap.size (.slice (some ⟨b, off, none⟩) es.length p) es.length 3 (cellE es))) (T1 : Hid (RowE w (.slice (some ⟨b, off, none⟩) p p) (es.take p))) (T3 : Hid (RowE w (.slice (some ⟨b, off, none⟩) (es.length - p) 0) (es.drop p)))
    (o1 : okS (.slice (some ⟨b, off, none⟩) p p)) (o3 : okS (.slice (some ⟨b, off, none⟩) (es.length - p) 0)) (hT : (es.take p ++ (x, y, z) :: es.drop p).length ≤ 1048576)
     (hq1 : (p : Int) ≤ es.length) (hq3 : (es.length : Int) ≤ p) (hle : es.length ≤ 1048576) :
    Calls Try.prog 11 #[.agg #[.int .i64 n, .slice (some ⟨b, off, none⟩) es.length p], .agg #[.int .i64 x, .int .i64 y, .int .i64 z]] w fun e w' => ∃ v, e = .returned (.tuple #[.agg #[.int .i64 (if (es.take p ++ (x, y, z) :: es.drop p).length ≤ 40 then n else 0), v], .bool (decide ((es.take p ++ (x, y, z) :: es.drop p).length ≤ 40))]) ∧ OwnE w w' v (if (es.take p ++ (x, y, z) :: es.drop p).length ≤ 40 then es.take p ++ (x, y, z) :: es.drop p else []) ∧ okS v ∧ Below w.heap.size w w' := by
  obtain ⟨L, hL⟩ : ∃ L, L = es.take p ++ (x, y, z) :: es.drop p := ⟨_, rfl⟩
  rw [← hL]
  have HL := Lib.hid hL
  clear hL
  obtain ⟨w0, hw0⟩ : ∃ w0, w0 = w := ⟨_, rfl⟩
  subst hw0
  have H0 := Below.refl w0.heap.size w0
  have R_0 := R
  clear R
  go_enter Try.func11, Try.ntmps11
  go_wp2_with fail
  have hb1 : Below w0.heap.size w0 (((w0.alloc (.cells #[.int .i64 n, .slice (some ⟨b, off, none⟩) es.length p] 30)).alloc (.cells #[.int .i64 x, .int .i64 y, .int .i64 z] 34)).alloc (.cells #[.int .i64 0, .slice none 0 0] 30)) := (((Below.refl _ _).alloc (by simp <;> omega) _).alloc (by simp <;> omega) _).alloc (by simp <;> omega) _
  have H1 := bel_trans H0 hb1
  have SZ1 := Lib.hid hb1.size
  have R_1 := Lib.hid (R_0.out.keep hb1)
  have qg0_1 : (((w0.alloc (.cells #[.int .i64 n, .slice (some ⟨b, off, none⟩) es.length p] 30)).alloc (.cells #[.int .i64 x, .int .i64 y, .int .i64 z] 34)).alloc (.cells #[.int .i64 0, .slice none 0 0] 30)).cell? ⟨w0.heap.size, 0, none⟩ = some (.int .i64 n) := by go_simp
  have qg1_1 : (((w0.alloc (.cells #[.int .i64 n, .slice (some ⟨b, off, none⟩) es.length p] 30)).alloc (.cells #[.int .i64 x, .int .i64 y, .int .i64 z] 34)).alloc (.cells #[.int .i64 0, .slice none 0 0] 30)).cell? ⟨w0.heap.size, 1, none⟩ = some (.slice (some ⟨b, off, none⟩) es.length p) := by go_simp
  have zg_1 : w0.heap.size < (((w0.alloc (.cells #[.int .i64 n, .slice (some ⟨b, off, none⟩) es.length p] 30)).alloc (.cells #[.int .i64 x, .int .i64 y, .int .i64 z] 34)).alloc (.cells #[.int .i64 0, .slice none 0 0] 30)).heap.size := by simp <;> omega
  have qe0_1 : (((w0.alloc (.cells #[.int .i64 n, .slice (some ⟨b, off, none⟩) es.length p] 30)).alloc (.cells #[.int .i64 x, .int .i64 y, .int .i64 z] 34)).alloc (.cells #[.int .i64 0, .slice none 0 0] 30)).cell? ⟨w0.heap.size + 1, 0, none⟩ = some (.int .i64 x) := by go_simp
  have qe1_1 : (((w0.alloc (.cells #[.int .i64 n, .slice (some ⟨b, off, none⟩) es.length p] 30)).alloc (.cells #[.int .i64 x, .int .i64 y, .int .i64 z] 34)).alloc (.cells #[.int .i64 0, .slice none 0 0] 30)).cell? ⟨w0.heap.size + 1, 1, none⟩ = some (.int .i64 y) := by go_simp
  have qe2_1 : (((w0.alloc (.cells #[.int .i64 n, .slice (some ⟨b, off, none⟩) es.length p] 30)).alloc (.cells #[.int .i64 x, .int .i64 y, .int .i64 z] 34)).alloc (.cells #[.int .i64 0, .slice none 0 0] 30)).cell? ⟨w0.heap.size + 1, 2, none⟩ = some (.int .i64 z) := by go_simp
  have ze_1 : w0.heap.size + 1 < (((w0.alloc (.cells #[.int .i64 n, .slice (some ⟨b, off, none⟩) es.length p] 30)).alloc (.cells #[.int .i64 x, .int .i64 y, .int .i64 z] 34)).alloc (.cells #[.int .i64 0, .slice none 0 0] 30)).heap.size := by simp <;> omega
  have frr0_1 : (((w0.alloc (.cells #[.int .i64 n, .slice (some ⟨b, off, none⟩) es.length p] 30)).alloc (.cells #[.int .i64 x, .int .i64 y, .int .i64 z] 34)).alloc (.cells #[.int .i64 0, .slice none 0 0] 30)).frozen? ⟨w0.heap.size + 1 + 1, 0, none⟩ = false := by go_simp
  have frr1_1 : (((w0.alloc (.cells #[.int .i64 n, .slice (some ⟨b, off, none⟩) es.length p] 30)).alloc (.cells #[.int .i64 x, .int .i64 y, .int .i64 z] 34)).alloc (.cells #[.int .i64 0, .slice none 0 0] 30)).frozen? ⟨w0.heap.size + 1 + 1, 1, none⟩ = false := by go_simp
  have qr0_1 : (((w0.alloc (.cells #[.int .i64 n, .slice (some ⟨b, off, none⟩) es.length p] 30)).alloc (.cells #[.int .i64 x, .int .i64 y, .int .i64 z] 34)).alloc (.cells #[.int .i64 0, .slice none 0 0] 30)).cell? ⟨w0.heap.size + 1 + 1, 0, none⟩ = some (.int .i64 0) := by go_simp
  have qr1_1 : (((w0.alloc (.cells #[.int .i64 n, .slice (some ⟨b, off, none⟩) es.length p] 30)).alloc (.cells #[.int .i64 x, .int .i64 y, .int .i64 z] 34)).alloc (.cells #[.int .i64 0, .slice none 0 0] 30)).cell? ⟨w0.heap.size + 1 + 1, 1, none⟩ = some (.slice none 0 0) := by go_simp
  have zr_1 : w0.heap.size + 1 + 1 < (((w0.alloc (.cells #[.int .i64 n, .slice (some ⟨b, off, none⟩) es.length p] 30)).alloc (.cells #[.int .i64 x, .int .i64 y, .int .i64 z] 34)).alloc (.cells #[.int .i64 0, .slice none 0 0] 30)).heap.size := by simp <;> omega
  generalize (((w0.alloc (.cells #[.int .i64 n, .slice (some ⟨b, off, none⟩) es.length p] 30)).alloc (.cells #[.int .i64 x, .int .i64 y, .int .i64 z] 34)).alloc (.cells #[.int .i64 0, .slice none 0 0] 30)) = w1 at hb1 H1 SZ1 R_1 frr0_1 frr1_1 qe0_1 qe1_1 qe2_1 qg0_1 qg1_1 qr0_1 qr1_1 ze_1 zg_1 zr_1 ⊢
  have ZBg := Lib.hid zg_1
  have ZBe := Lib.hid ze_1
  have ZBr := Lib.hid zr_1
  clear R_0
  refine (HV.out _ R_1.out.edges).mono ?_
  rintro e w2 ⟨rfl, hb2⟩
  have H2 := bel_trans H1 hb2
  have SZ2 := Lib.hid hb2.size
  have qg0_2 := (hb2.cell (p := ⟨w0.heap.size, 0, none⟩) zg_1).trans qg0_1
  have qg1_2 := (hb2.cell (p := ⟨w0.heap.size, 1, none⟩) zg_1).trans qg1_1
  have zg_2 := Nat.lt_of_lt_of_le zg_1 hb2.size
  have qe0_2 := (hb2.cell (p := ⟨w0.heap.size + 1, 0, none⟩) ze_1).trans qe0_1
  have qe1_2 := (hb2.cell (p := ⟨w0.heap.size + 1, 1, none⟩) ze_1).trans qe1_1
  have qe2_2 := (hb2.cell (p := ⟨w0.heap.size + 1, 2, none⟩) ze_1).trans qe2_1
  have ze_2 := Nat.lt_of_lt_of_le ze_1 hb2.size
  have qr0_2 := (hb2.cell (p := ⟨w0.heap.size + 1 + 1, 0, none⟩) zr_1).trans qr0_1
  have frr0_2 := (hb2.frozen (p := ⟨w0.heap.size + 1 + 1, 0, none⟩) zr_1).trans frr0_1
  have qr1_2 := (hb2.cell (p := ⟨w0.heap.size + 1 + 1, 1, none⟩) zr_1).trans qr1_1
  have frr1_2 := (hb2.frozen (p := ⟨w0.heap.size + 1 + 1, 1, none⟩) zr_1).trans frr1_1
  have zr_2 := Nat.lt_of_lt_of_le zr_1 hb2.size
  have R_2 := Lib.hid (R_1.out.keep hb2)
  clear R_1 qg0_1 qg1_1 zg_1 qe0_1 qe1_1 qe2_1 ze_1 frr0_1 frr1_1 qr0_1 qr1_1 zr_1
  go_wp2_with fail
  refine (HF.out _).mono ?_
  rintro e w3 ⟨rfl, hb3⟩
  have H3 := bel_trans H2 hb3
  have SZ3 := Lib.hid hb3.size
  have qg0_3 := (hb3.cell (p := ⟨w0.heap.size, 0, none⟩) zg_2).trans qg0_2
  have qg1_3 := (hb3.cell (p := ⟨w0.heap.size, 1, none⟩) zg_2).trans qg1_2
  have zg_3 := Nat.lt_of_lt_of_le zg_2 hb3.size
  have qe0_3 := (hb3.cell (p := ⟨w0.heap.size + 1, 0, none⟩) ze_2).trans qe0_2
  have qe1_3 := (hb3.cell (p := ⟨w0.heap.size + 1, 1, none⟩) ze_2).trans qe1_2
  have qe2_3 := (hb3.cell (p := ⟨w0.heap.size + 1, 2, none⟩) ze_2).trans qe2_2
  have ze_3 := Nat.lt_of_lt_of_le ze_2 hb3.size
  have qr0_3 := (hb3.cell (p := ⟨w0.heap.size + 1 + 1, 0, none⟩) zr_2).trans qr0_2
  have frr0_3 := (hb3.frozen (p := ⟨w0.heap.size + 1 + 1, 0, none⟩) zr_2).trans frr0_2
  have qr1_3 := (hb3.cell (p := ⟨w0.heap.size + 1 + 1, 1, none⟩) zr_2).trans qr1_2
  have frr1_3 := (hb3.frozen (p := ⟨w0.heap.size + 1 + 1, 1, none⟩) zr_2).trans frr1_2
  have zr_3 := Nat.lt_of_lt_of_le zr_2 hb3.size
  have R_3 := Lib.hid (R_2.out.keep hb3)
  clear qg0_2 qg1_2 zg_2 qe0_2 qe1_2 qe2_2 ze_2 qr0_2 frr0_2 qr1_2 frr1_2 zr_2 R_2
  go_wp2_with fail
  refine (HE.out _ R_3.out.edges).mono ?_
  rintro e w4 ⟨rfl, hb4⟩
  have H4 := bel_trans H3 hb4
  have SZ4 := Lib.hid hb4.size
  have qg0_4 := (hb4.cell (p := ⟨w0.heap.size, 0, none⟩) zg_3).trans qg0_3
  have qg1_4 := (hb4.cell (p := ⟨w0.heap.size, 1, none⟩) zg_3).trans qg1_3
  have zg_4 := Nat.lt_of_lt_of_le zg_3 hb4.size
  have qe0_4 := (hb4.cell (p := ⟨w0.heap.size + 1, 0, none⟩) ze_3).trans qe0_3
  have qe1_4 := (hb4.cell (p := ⟨w0.heap.size + 1, 1, none⟩) ze_3).trans qe1_3
  have qe2_4 := (hb4.cell (p := ⟨w0.heap.size + 1, 2, none⟩) ze_3).trans qe2_3
  have ze_4 := Nat.lt_of_lt_of_le ze_3 hb4.size
  have qr0_4 := (hb4.cell (p := ⟨w0.heap.size + 1 + 1, 0, none⟩) zr_3).trans qr0_3
  have frr0_4 := (hb4.frozen (p := ⟨w0.heap.size + 1 + 1, 0, none⟩) zr_3).trans frr0_3
  have qr1_4 := (hb4.cell (p := ⟨w0.heap.size + 1 + 1, 1, none⟩) zr_3).trans qr1_3
  have frr1_4 := (hb4.frozen (p := ⟨w0.heap.size + 1 + 1, 1, none⟩) zr_3).trans frr1_3
  have zr_4 := Nat.lt_of_lt_of_le zr_3 hb4.size
  have R_4 := Lib.hid (R_3.out.keep hb4)
  clear qg0_3 qg1_3 zg_3 qe0_3 qe1_3 qe2_3 ze_3 qr0_3 frr0_3 qr1_3 frr1_3 zr_3 R_3
  go_wp2
  have hold : ∀ w' : World, Below w4.heap.size w4 w' → (w'.cell? ⟨w0.heap.size, 1, none⟩ = some (.slice (some ⟨b, off, none⟩) es.length p) ∧ w'.cell? ⟨w0.heap.size + 1, 0, none⟩ = some (.int .i64 x) ∧ w'.cell? ⟨w0.heap.size + 1, 1, none⟩ = some (.int .i64 y) ∧ w'.cell? ⟨w0.heap.size + 1, 2, none⟩ = some (.int .i64 z)) := fun w' h => ⟨(h.cell (p := ⟨w0.heap.size, 1, none⟩) zg_4).trans qg1_4, (h.cell (p := ⟨w0.heap.size + 1, 0, none⟩) ze_4).trans qe0_4, (h.cell (p := ⟨w0.heap.size + 1, 1, none⟩) ze_4).trans qe1_4, (h.cell (p := ⟨w0.heap.size + 1, 2, none⟩) ze_4).trans qe2_4⟩
  have HOLD := Lib.hid hold
  clear hold
  have t1 := Lib.hid (T1.out.keep H4)
  have t3 := Lib.hid (T3.out.keep H4)
  go_region_held3 (fun w' : World => w'.cell? ⟨w0.heap.size, 1, none⟩ = some (.slice (some ⟨b, off, none⟩) es.length p) ∧ w'.cell? ⟨w0.heap.size + 1, 0, none⟩ = some (.int .i64 x) ∧ w'.cell? ⟨w0.heap.size + 1, 1, none⟩ = some (.int .i64 y) ∧ w'.cell? ⟨w0.heap.size + 1, 2, none⟩ = some (.int .i64 z)) (first | exact HOLD.out _ ((Below.refl _ _).drew) | exact HOLD.out _ (((Below.refl _ _).alloc (Nat.le_refl _) _).drew) | exact HOLD.out _ ((((Below.refl _ _).alloc (Nat.le_refl _) _).alloc (by simp) _).drew) | exact HOLD.out _ hb5) (first | (go_at_call 28; refine (concat3 (es.take p) (es.drop p) x y z (.slice (some ⟨b, off, none⟩) p p) (.slice (some ⟨b, off, none⟩) (es.length - p) 0) w4 t1.out t3.out o1 o3 hT _ _).mono ?_; rintro e w5 ⟨v, rfl, hown, hokv, hb5⟩))
  rw [← HL.out] at hown
  obtain ⟨va, vc, rfl, hvz⟩ := id hown
  clear hvz HOLD t1 t3
  have H5 := bel_trans H4 hb5
  have SZ5 := Lib.hid hb5.size
  have qg0_5 := (hb5.cell (p := ⟨w0.heap.size, 0, none⟩) zg_4).trans qg0_4
  have qg1_5 := (hb5.cell (p := ⟨w0.heap.size, 1, none⟩) zg_4).trans qg1_4
  have zg_5 := Nat.lt_of_lt_of_le zg_4 hb5.size
  have qe0_5 := (hb5.cell (p := ⟨w0.heap.size + 1, 0, none⟩) ze_4).trans qe0_4
  have qe1_5 := (hb5.cell (p := ⟨w0.heap.size + 1, 1, none⟩) ze_4).trans qe1_4
  have qe2_5 := (hb5.cell (p := ⟨w0.heap.size + 1, 2, none⟩) ze_4).trans qe2_4
  have ze_5 := Nat.lt_of_lt_of_le ze_4 hb5.size
  have qr0_5 := (hb5.cell (p := ⟨w0.heap.size + 1 + 1, 0, none⟩) zr_4).trans qr0_4
  have frr0_5 := (hb5.frozen (p := ⟨w0.heap.size + 1 + 1, 0, none⟩) zr_4).trans frr0_4
  have qr1_5 := (hb5.cell (p := ⟨w0.heap.size + 1 + 1, 1, none⟩) zr_4).trans qr1_4
  have frr1_5 := (hb5.frozen (p := ⟨w0.heap.size + 1 + 1, 1, none⟩) zr_4).trans frr1_4
  have zr_5 := Nat.lt_of_lt_of_le zr_4 hb5.size
  have R_5 := Lib.hid (R_4.out.keep hb5)
  have V_5 := Lib.hid hown
  clear hown
  clear qg0_4 qg1_4 zg_4 qe0_4 qe1_4 qe2_4 ze_4 qr0_4 frr0_4 qr1_4 frr1_4 zr_4 R_4
  by_cases h40 : L.length ≤ 40
  rotate_left
  · have h40i : (40 : Int) < L.length := by omega
    have H40 := Lib.hid h40
    clear h40
    go_wp2
    try simp only [Exit.inBlock, Exit.then]
    refine bodyPost_ret (v := .tuple #[.agg #[.int .i64 0, .slice none 0 0], .bool false]) ?_ rfl ?_
    · rw [results_cell_tmp rfl]
      go_simp
    have hch : Chg (w0.heap.size + 2) (w0.heap.size + 3) w5 ((w5.setCell ⟨w0.heap.size + 1 + 1, 0, none⟩ (.int .i64 0)).setCell ⟨w0.heap.size + 1 + 1, 1, none⟩ (.slice none 0 0)) := ((Chg.refl _ _ _).setCell (by simp only; omega) (by simp only; omega) _).setCell (by simp only; omega) (by simp only; omega) _
    refine ⟨.slice none 0 0, by first | rfl | rw [if_neg H40.out, decide_eq_false H40.out], by first | exact ownE_nil _ _ | (rw [if_neg H40.out]; exact ownE_nil _ _), okS_nil, bel_chg H5 hch (by omega)⟩
  have h40i : ¬ ((40 : Int) < L.length) := by omega
  have H40 := Lib.hid h40
  clear h40
  go_wp2
  try simp only [Exit.inBlock, Exit.then]
  refine bodyPost_ret (v := .tuple #[.agg #[.int .i64 n, .slice va L.length vc], .bool true]) ?_ rfl ?_
  · rw [results_cell_tmp rfl]
    go_simp
  have hch : Chg (w0.heap.size + 2) (w0.heap.size + 3) w5 ((w5.setCell ⟨w0.heap.size + 1 + 1, 0, none⟩ (.int .i64 n)).setCell ⟨w0.heap.size + 1 + 1, 1, none⟩ (.slice va L.length vc)) := ((Chg.refl _ _ _).setCell (by simp only; omega) (by simp only; omega) _).setCell (by simp only; omega) (by simp only; omega) _
  refine ⟨.slice va L.length vc, by first | rfl | rw [if_pos H40.out, decide_eq_true H40.out], by first | exact ((V_5.out.chg hch (.inl (by have := ZBr.out; have := SZ4.out; have := SZ3.out; have := SZ2.out; omega))).wider (by have := SZ4.out; have := SZ3.out; have := SZ2.out; have := SZ1.out; omega) (by simp) (Nat.le_refl _)) | (rw [if_pos H40.out]; exact ((V_5.out.chg hch (.inl (by have := ZBr.out; have := SZ4.out; have := SZ3.out; have := SZ2.out; omega))).wider (by have := SZ4.out; have := SZ3.out; have := SZ2.out; have := SZ1.out; omega) (by simp) (Nat.le_refl _))), hokv, bel_chg H5 hch (by omega)⟩

set_option maxRecDepth 100000 in
set_option maxHeartbeats 1000000 in
theorem putCe (n : Int) (x y z : Int) (w : World)
    (HV : Hid (∀ (w : World), RowE w (.slice none 0 0) [] → Calls Try.prog 25 #[.agg #[.int .i64 n, .slice none 0 0]] w fun e w' => e = .returned (.bool true) ∧ Below w.heap.size w w'))
    (HF : Hid (∀ (w : World), Calls Try.prog 26 #[.agg #[.int .i64 n, .slice none 0 0], .agg #[.int .i64 x, .int .i64 y, .int .i64 z]] w fun e w' => e = .returned (.bool true) ∧ Below w.heap.size w w'))
    (HE : Hid (∀ (w : World), RowE w (.slice none 0 0) [] → Calls Try.prog 27 #[.agg #[.int .i64 n, .slice none 0 0], .int .i64 x, .int .i64 y] w fun e w' => e = .returned (.tuple #[.int .i64 0, .bool false]) ∧ Below w.heap.size w w')) :
    Calls Try.prog 11 #[.agg #[.int .i64 n, .slice none 0 0], .agg #[.int .i64 x, .int .i64 y, .int .i64 z]] w fun e w' => ∃ v, e = .returned (.tuple #[.agg #[.int .i64 n, v], .bool true]) ∧ OwnE w w' v [(x, y, z)] ∧ okS v ∧ Below w.heap.size w w' := by
  have hr : ∀ w, RowE w (.slice none 0 0) [] := fun w => ⟨none, 0, rfl, .inl rfl⟩
  have R := Lib.hid hr
  have o1 : okS (.slice none 0 0) := okS_nil
  have hT : (([] : List Ed) ++ (x, y, z) :: []).length ≤ 1048576 := by simp
  clear hr
  obtain ⟨w0, hw0⟩ : ∃ w0, w0 = w := ⟨_, rfl⟩
  subst hw0
  have H0 := Below.refl w0.heap.size w0
  go_enter Try.func11, Try.ntmps11
  go_wp2_with fail
  have hb1 : Below w0.heap.size w0 (((w0.alloc (.cells #[.int .i64 n, .slice none 0 0] 30)).alloc (.cells #[.int .i64 x, .int .i64 y, .int .i64 z] 34)).alloc (.cells #[.int .i64 0, .slice none 0 0] 30)) := (((Below.refl _ _).alloc (by simp <;> omega) _).alloc (by simp <;> omega) _).alloc (by simp <;> omega) _
  have H1 := bel_trans H0 hb1
  have SZ1 := Lib.hid hb1.size
  have qg0_1 : (((w0.alloc (.cells #[.int .i64 n, .slice none 0 0] 30)).alloc (.cells #[.int .i64 x, .int .i64 y, .int .i64 z] 34)).alloc (.cells #[.int .i64 0, .slice none 0 0] 30)).cell? ⟨w0.heap.size, 0, none⟩ = some (.int .i64 n) := by go_simp
  have qg1_1 : (((w0.alloc (.cells #[.int .i64 n, .slice none 0 0] 30)).alloc (.cells #[.int .i64 x, .int .i64 y, .int .i64 z] 34)).alloc (.cells #[.int .i64 0, .slice none 0 0] 30)).cell? ⟨w0.heap.size, 1, none⟩ = some (.slice none 0 0) := by go_simp
  have zg_1 : w0.heap.size < (((w0.alloc (.cells #[.int .i64 n, .slice none 0 0] 30)).alloc (.cells #[.int .i64 x, .int .i64 y, .int .i64 z] 34)).alloc (.cells #[.int .i64 0, .slice none 0 0] 30)).heap.size := by simp <;> omega
  have qe0_1 : (((w0.alloc (.cells #[.int .i64 n, .slice none 0 0] 30)).alloc (.cells #[.int .i64 x, .int .i64 y, .int .i64 z] 34)).alloc (.cells #[.int .i64 0, .slice none 0 0] 30)).cell? ⟨w0.heap.size + 1, 0, none⟩ = some (.int .i64 x) := by go_simp
  have qe1_1 : (((w0.alloc (.cells #[.int .i64 n, .slice none 0 0] 30)).alloc (.cells #[.int .i64 x, .int .i64 y, .int .i64 z] 34)).alloc (.cells #[.int .i64 0, .slice none 0 0] 30)).cell? ⟨w0.heap.size + 1, 1, none⟩ = some (.int .i64 y) := by go_simp
  have qe2_1 : (((w0.alloc (.cells #[.int .i64 n, .slice none 0 0] 30)).alloc (.cells #[.int .i64 x, .int .i64 y, .int .i64 z] 34)).alloc (.cells #[.int .i64 0, .slice none 0 0] 30)).cell? ⟨w0.heap.size + 1, 2, none⟩ = some (.int .i64 z) := by go_simp
  have ze_1 : w0.heap.size + 1 < (((w0.alloc (.cells #[.int .i64 n, .slice none 0 0] 30)).alloc (.cells #[.int .i64 x, .int .i64 y, .int .i64 z] 34)).alloc (.cells #[.int .i64 0, .slice none 0 0] 30)).heap.size := by simp <;> omega
  have frr0_1 : (((w0.alloc (.cells #[.int .i64 n, .slice none 0 0] 30)).alloc (.cells #[.int .i64 x, .int .i64 y, .int .i64 z] 34)).alloc (.cells #[.int .i64 0, .slice none 0 0] 30)).frozen? ⟨w0.heap.size + 1 + 1, 0, none⟩ = false := by go_simp
  have frr1_1 : (((w0.alloc (.cells #[.int .i64 n, .slice none 0 0] 30)).alloc (.cells #[.int .i64 x, .int .i64 y, .int .i64 z] 34)).alloc (.cells #[.int .i64 0, .slice none 0 0] 30)).frozen? ⟨w0.heap.size + 1 + 1, 1, none⟩ = false := by go_simp
  have qr0_1 : (((w0.alloc (.cells #[.int .i64 n, .slice none 0 0] 30)).alloc (.cells #[.int .i64 x, .int .i64 y, .int .i64 z] 34)).alloc (.cells #[.int .i64 0, .slice none 0 0] 30)).cell? ⟨w0.heap.size + 1 + 1, 0, none⟩ = some (.int .i64 0) := by go_simp
  have qr1_1 : (((w0.alloc (.cells #[.int .i64 n, .slice none 0 0] 30)).alloc (.cells #[.int .i64 x, .int .i64 y, .int .i64 z] 34)).alloc (.cells #[.int .i64 0, .slice none 0 0] 30)).cell? ⟨w0.heap.size + 1 + 1, 1, none⟩ = some (.slice none 0 0) := by go_simp
  have zr_1 : w0.heap.size + 1 + 1 < (((w0.alloc (.cells #[.int .i64 n, .slice none 0 0] 30)).alloc (.cells #[.int .i64 x, .int .i64 y, .int .i64 z] 34)).alloc (.cells #[.int .i64 0, .slice none 0 0] 30)).heap.size := by simp <;> omega
  generalize (((w0.alloc (.cells #[.int .i64 n, .slice none 0 0] 30)).alloc (.cells #[.int .i64 x, .int .i64 y, .int .i64 z] 34)).alloc (.cells #[.int .i64 0, .slice none 0 0] 30)) = w1 at hb1 H1 SZ1 frr0_1 frr1_1 qe0_1 qe1_1 qe2_1 qg0_1 qg1_1 qr0_1 qr1_1 ze_1 zg_1 zr_1 ⊢
  have ZBg := Lib.hid zg_1
  have ZBe := Lib.hid ze_1
  have ZBr := Lib.hid zr_1
  refine (HV.out _ (R.out _)).mono ?_
  rintro e w2 ⟨rfl, hb2⟩
  have H2 := bel_trans H1 hb2
  have SZ2 := Lib.hid hb2.size
  have qg0_2 := (hb2.cell (p := ⟨w0.heap.size, 0, none⟩) zg_1).trans qg0_1
  have qg1_2 := (hb2.cell (p := ⟨w0.heap.size, 1, none⟩) zg_1).trans qg1_1
  have zg_2 := Nat.lt_of_lt_of_le zg_1 hb2.size
  have qe0_2 := (hb2.cell (p := ⟨w0.heap.size + 1, 0, none⟩) ze_1).trans qe0_1
  have qe1_2 := (hb2.cell (p := ⟨w0.heap.size + 1, 1, none⟩) ze_1).trans qe1_1
  have qe2_2 := (hb2.cell (p := ⟨w0.heap.size + 1, 2, none⟩) ze_1).trans qe2_1
  have ze_2 := Nat.lt_of_lt_of_le ze_1 hb2.size
  have qr0_2 := (hb2.cell (p := ⟨w0.heap.size + 1 + 1, 0, none⟩) zr_1).trans qr0_1
  have frr0_2 := (hb2.frozen (p := ⟨w0.heap.size + 1 + 1, 0, none⟩) zr_1).trans frr0_1
  have qr1_2 := (hb2.cell (p := ⟨w0.heap.size + 1 + 1, 1, none⟩) zr_1).trans qr1_1
  have frr1_2 := (hb2.frozen (p := ⟨w0.heap.size + 1 + 1, 1, none⟩) zr_1).trans frr1_1
  have zr_2 := Nat.lt_of_lt_of_le zr_1 hb2.size
  clear qg0_1 qg1_1 zg_1 qe0_1 qe1_1 qe2_1 ze_1 frr0_1 frr1_1 qr0_1 qr1_1 zr_1
  go_wp2_with fail
  refine (HF.out _).mono ?_
  rintro e w3 ⟨rfl, hb3⟩
  have H3 := bel_trans H2 hb3
  have SZ3 := Lib.hid hb3.size
  have qg0_3 := (hb3.cell (p := ⟨w0.heap.size, 0, none⟩) zg_2).trans qg0_2
  have qg1_3 := (hb3.cell (p := ⟨w0.heap.size, 1, none⟩) zg_2).trans qg1_2
  have zg_3 := Nat.lt_of_lt_of_le zg_2 hb3.size
  have qe0_3 := (hb3.cell (p := ⟨w0.heap.size + 1, 0, none⟩) ze_2).trans qe0_2
  have qe1_3 := (hb3.cell (p := ⟨w0.heap.size + 1, 1, none⟩) ze_2).trans qe1_2
  have qe2_3 := (hb3.cell (p := ⟨w0.heap.size + 1, 2, none⟩) ze_2).trans qe2_2
  have ze_3 := Nat.lt_of_lt_of_le ze_2 hb3.size
  have qr0_3 := (hb3.cell (p := ⟨w0.heap.size + 1 + 1, 0, none⟩) zr_2).trans qr0_2
  have frr0_3 := (hb3.frozen (p := ⟨w0.heap.size + 1 + 1, 0, none⟩) zr_2).trans frr0_2
  have qr1_3 := (hb3.cell (p := ⟨w0.heap.size + 1 + 1, 1, none⟩) zr_2).trans qr1_2
  have frr1_3 := (hb3.frozen (p := ⟨w0.heap.size + 1 + 1, 1, none⟩) zr_2).trans frr1_2
  have zr_3 := Nat.lt_of_lt_of_le zr_2 hb3.size
  clear qg0_2 qg1_2 zg_2 qe0_2 qe1_2 qe2_2 ze_2 qr0_2 frr0_2 qr1_2 frr1_2 zr_2
  go_wp2_with fail
  refine (HE.out _ (R.out _)).mono ?_
  rintro e w4 ⟨rfl, hb4⟩
  have H4 := bel_trans H3 hb4
  have SZ4 := Lib.hid hb4.size
  have qg0_4 := (hb4.cell (p := ⟨w0.heap.size, 0, none⟩) zg_3).trans qg0_3
  have qg1_4 := (hb4.cell (p := ⟨w0.heap.size, 1, none⟩) zg_3).trans qg1_3
  have zg_4 := Nat.lt_of_lt_of_le zg_3 hb4.size
  have qe0_4 := (hb4.cell (p := ⟨w0.heap.size + 1, 0, none⟩) ze_3).trans qe0_3
  have qe1_4 := (hb4.cell (p := ⟨w0.heap.size + 1, 1, none⟩) ze_3).trans qe1_3
  have qe2_4 := (hb4.cell (p := ⟨w0.heap.size + 1, 2, none⟩) ze_3).trans qe2_3
  have ze_4 := Nat.lt_of_lt_of_le ze_3 hb4.size
  have qr0_4 := (hb4.cell (p := ⟨w0.heap.size + 1 + 1, 0, none⟩) zr_3).trans qr0_3
  have frr0_4 := (hb4.frozen (p := ⟨w0.heap.size + 1 + 1, 0, none⟩) zr_3).trans frr0_3
  have qr1_4 := (hb4.cell (p := ⟨w0.heap.size + 1 + 1, 1, none⟩) zr_3).trans qr1_3
  have frr1_4 := (hb4.frozen (p := ⟨w0.heap.size + 1 + 1, 1, none⟩) zr_3).trans frr1_3
  have zr_4 := Nat.lt_of_lt_of_le zr_3 hb4.size
  clear qg0_3 qg1_3 zg_3 qe0_3 qe1_3 qe2_3 ze_3 qr0_3 frr0_3 qr1_3 frr1_3 zr_3
  go_wp2
  have hold : ∀ w' : World, Below w4.heap.size w4 w' → (w'.cell? ⟨w0.heap.size, 1, none⟩ = some (.slice none 0 0) ∧ w'.cell? ⟨w0.heap.size + 1, 0, none⟩ = some (.int .i64 x) ∧ w'.cell? ⟨w0.heap.size + 1, 1, none⟩ = some (.int .i64 y) ∧ w'.cell? ⟨w0.heap.size + 1, 2, none⟩ = some (.int .i64 z)) := fun w' h => ⟨(h.cell (p := ⟨w0.heap.size, 1, none⟩) zg_4).trans qg1_4, (h.cell (p := ⟨w0.heap.size + 1, 0, none⟩) ze_4).trans qe0_4, (h.cell (p := ⟨w0.heap.size + 1, 1, none⟩) ze_4).trans qe1_4, (h.cell (p := ⟨w0.heap.size + 1, 2, none⟩) ze_4).trans qe2_4⟩
  have HOLD := Lib.hid hold
  clear hold
  go_region_held3 (fun w' : World => w'.cell? ⟨w0.heap.size, 1, none⟩ = some (.slice none 0 0) ∧ w'.cell? ⟨w0.heap.size + 1, 0, none⟩ = some (.int .i64 x) ∧ w'.cell? ⟨w0.heap.size + 1, 1, none⟩ = some (.int .i64 y) ∧ w'.cell? ⟨w0.heap.size + 1, 2, none⟩ = some (.int .i64 z)) (first | exact HOLD.out _ ((Below.refl _ _).drew) | exact HOLD.out _ (((Below.refl _ _).alloc (Nat.le_refl _) _).drew) | exact HOLD.out _ ((((Below.refl _ _).alloc (Nat.le_refl _) _).alloc (by simp) _).drew) | exact HOLD.out _ hb5) (first | (go_at_call 28; refine (concat3 [] [] x y z (.slice none 0 0) (.slice none 0 0) w4 (R.out _) (R.out _) o1 o1 hT _ _).mono ?_; rintro e w5 ⟨v, rfl, hown, hokv, hb5⟩))
  rw [List.nil_append] at hown
  obtain ⟨va, vc, rfl, hvz⟩ := id hown
  clear hvz HOLD
  have H5 := bel_trans H4 hb5
  have SZ5 := Lib.hid hb5.size
  have qg0_5 := (hb5.cell (p := ⟨w0.heap.size, 0, none⟩) zg_4).trans qg0_4
  have qg1_5 := (hb5.cell (p := ⟨w0.heap.size, 1, none⟩) zg_4).trans qg1_4
  have zg_5 := Nat.lt_of_lt_of_le zg_4 hb5.size
  have qe0_5 := (hb5.cell (p := ⟨w0.heap.size + 1, 0, none⟩) ze_4).trans qe0_4
  have qe1_5 := (hb5.cell (p := ⟨w0.heap.size + 1, 1, none⟩) ze_4).trans qe1_4
  have qe2_5 := (hb5.cell (p := ⟨w0.heap.size + 1, 2, none⟩) ze_4).trans qe2_4
  have ze_5 := Nat.lt_of_lt_of_le ze_4 hb5.size
  have qr0_5 := (hb5.cell (p := ⟨w0.heap.size + 1 + 1, 0, none⟩) zr_4).trans qr0_4
  have frr0_5 := (hb5.frozen (p := ⟨w0.heap.size + 1 + 1, 0, none⟩) zr_4).trans frr0_4
  have qr1_5 := (hb5.cell (p := ⟨w0.heap.size + 1 + 1, 1, none⟩) zr_4).trans qr1_4
  have frr1_5 := (hb5.frozen (p := ⟨w0.heap.size + 1 + 1, 1, none⟩) zr_4).trans frr1_4
  have zr_5 := Nat.lt_of_lt_of_le zr_4 hb5.size
  have V_5 := Lib.hid hown
  clear hown
  clear qg0_4 qg1_4 zg_4 qe0_4 qe1_4 qe2_4 ze_4 qr0_4 frr0_4 qr1_4 frr1_4 zr_4
  try simp only [List.length_cons, List.length_nil, Nat.zero_add] at *
  go_wp2
  try simp only [Exit.inBlock, Exit.then]
  refine bodyPost_ret (v := .tuple #[.agg #[.int .i64 n, .slice va 1 vc], .bool true]) ?_ rfl ?_
  · rw [results_cell_tmp rfl]
    go_simp
  have hch : Chg (w0.heap.size + 2) (w0.heap.size + 3) w5 ((w5.setCell ⟨w0.heap.size + 1 + 1, 0, none⟩ (.int .i64 n)).setCell ⟨w0.heap.size + 1 + 1, 1, none⟩ (.slice va 1 vc)) := ((Chg.refl _ _ _).setCell (by simp only; omega) (by simp only; omega) _).setCell (by simp only; omega) (by simp only; omega) _
  exact ⟨.slice va 1 vc, rfl, ((V_5.out.chg hch (.inl (by have := ZBr.out; have := SZ4.out; have := SZ3.out; have := SZ2.out; omega))).wider (by have := SZ4.out; have := SZ3.out; have := SZ2.out; have := SZ1.out; omega) (by simp) (Nat.le_refl _)), hokv, bel_chg H5 hch (by omega)⟩
end Go.Proofs.Ytddpljalojcomab
