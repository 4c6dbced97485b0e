/- PutEdge of the model. -/
import Derived.Test.YtddpljalojcomabPutS
namespace Go.Proofs.Ytddpljalojcomab
open Go.RowKit Go.BigFrame Go.Deep
set_option linter.unusedVariables false
set_option linter.unusedSimpArgs false

theorem putB_val {n : Int} {es : List Ed} (hg : gVal n es = true) (e : Ed) : putB n es e = gVal n (pL es e) := by
  rw [gVal_put hg]; unfold putB; rw [hg, Bool.true_and]
theorem pL_len (es : List Ed) (e : Ed) : (pL es e).length ≤ es.length + 1 := by
  unfold pL
  rw [List.length_append, List.length_cons, List.length_take, List.length_drop]
  omega

set_option maxRecDepth 100000 in
set_option maxHeartbeats 1000000 in
theorem sPutEdge (n : Int) (es : List Ed) (x y z : Int) (s : Value) (w : World) (hs : RowE w s es) (hl : es.length ≤ 1048576) :
    Calls Try.prog 8 #[.agg #[.int .i64 n, s], .agg #[.int .i64 x, .int .i64 y, .int .i64 z]] w fun e w' => ∃ v, e = .returned (.tuple #[.agg #[.int .i64 (putN n es (x, y, z)), v], .bool (putB n es (x, y, z))]) ∧ OwnE w w' v (putL n es (x, y, z)) ∧ okS v ∧ Below w.heap.size w w' := by
  have hl2 : es.length ≤ 281474976710656 := by omega
  obtain ⟨ad, cap, hs0, hz0⟩ := id hs
  subst hs0
  have hgv := fun w h => sGraphValid n es (.slice ad es.length cap) w h hl2
  have hlp := fun w h => l2Put n es x y z (.slice ad es.length cap) w h hl
  have R := Lib.hid (InR.of_edges hs)
  clear hz0 hs
  cases hg : gVal n es
  · have e0 : putB n es (x, y, z) = false := by unfold putB; rw [hg]; rfl
    have e1 : putN n es (x, y, z) = 0 := by unfold putN; rw [e0]; rfl
    have e2 : putL n es (x, y, z) = [] := by unfold putL; rw [e0]; rfl
    rw [e0, e1, e2]
    rw [hg] at hgv
    have HV := Lib.hid hgv
    clear hgv e0 e1 e2 hlp
    obtain ⟨w0, hw0⟩ : ∃ w0, w0 = w := ⟨_, rfl⟩
    subst hw0
    have H0 := Below.refl w0.heap.size w0
    have R_0 := R
    clear R
    go_enter Try.func8, Try.ntmps8
    go_wp2_with fail
    have hb1 : Below w0.heap.size w0 (((w0.alloc (.cells #[.int .i64 n, .slice ad es.length cap] 30)).alloc (.cells #[.int .i64 x, .int .i64 y, .int .i64 z] 34)).alloc (.cells #[.int .i64 0, .slice none 0 0] 30)) := (((Below.refl _ _).alloc (by simp <;> omega) _).alloc (by simp <;> omega) _).alloc (by simp <;> omega) _
    have H1 := bel_trans H0 hb1
    have SZ1 := Lib.hid hb1.size
    have R_1 := Lib.hid (R_0.out.keep hb1)
    have qg0_1 : (((w0.alloc (.cells #[.int .i64 n, .slice ad es.length cap] 30)).alloc (.cells #[.int .i64 x, .int .i64 y, .int .i64 z] 34)).alloc (.cells #[.int .i64 0, .slice none 0 0] 30)).cell? ⟨w0.heap.size, 0, none⟩ = some (.int .i64 n) := by go_simp
    have qg1_1 : (((w0.alloc (.cells #[.int .i64 n, .slice ad es.length cap] 30)).alloc (.cells #[.int .i64 x, .int .i64 y, .int .i64 z] 34)).alloc (.cells #[.int .i64 0, .slice none 0 0] 30)).cell? ⟨w0.heap.size, 1, none⟩ = some (.slice ad es.length cap) := by go_simp
    have zg_1 : w0.heap.size < (((w0.alloc (.cells #[.int .i64 n, .slice ad es.length cap] 30)).alloc (.cells #[.int .i64 x, .int .i64 y, .int .i64 z] 34)).alloc (.cells #[.int .i64 0, .slice none 0 0] 30)).heap.size := by simp <;> omega
    have qe0_1 : (((w0.alloc (.cells #[.int .i64 n, .slice ad es.length cap] 30)).alloc (.cells #[.int .i64 x, .int .i64 y, .int .i64 z] 34)).alloc (.cells #[.int .i64 0, .slice none 0 0] 30)).cell? ⟨w0.heap.size + 1, 0, none⟩ = some (.int .i64 x) := by go_simp
    have qe1_1 : (((w0.alloc (.cells #[.int .i64 n, .slice ad es.length cap] 30)).alloc (.cells #[.int .i64 x, .int .i64 y, .int .i64 z] 34)).alloc (.cells #[.int .i64 0, .slice none 0 0] 30)).cell? ⟨w0.heap.size + 1, 1, none⟩ = some (.int .i64 y) := by go_simp
    have qe2_1 : (((w0.alloc (.cells #[.int .i64 n, .slice ad es.length cap] 30)).alloc (.cells #[.int .i64 x, .int .i64 y, .int .i64 z] 34)).alloc (.cells #[.int .i64 0, .slice none 0 0] 30)).cell? ⟨w0.heap.size + 1, 2, none⟩ = some (.int .i64 z) := by go_simp
    have ze_1 : w0.heap.size + 1 < (((w0.alloc (.cells #[.int .i64 n, .slice ad es.length cap] 30)).alloc (.cells #[.int .i64 x, .int .i64 y, .int .i64 z] 34)).alloc (.cells #[.int .i64 0, .slice none 0 0] 30)).heap.size := by simp <;> omega
    have frr0_1 : (((w0.alloc (.cells #[.int .i64 n, .slice ad es.length cap] 30)).alloc (.cells #[.int .i64 x, .int .i64 y, .int .i64 z] 34)).alloc (.cells #[.int .i64 0, .slice none 0 0] 30)).frozen? ⟨w0.heap.size + 1 + 1, 0, none⟩ = false := by go_simp
    have frr1_1 : (((w0.alloc (.cells #[.int .i64 n, .slice ad es.length cap] 30)).alloc (.cells #[.int .i64 x, .int .i64 y, .int .i64 z] 34)).alloc (.cells #[.int .i64 0, .slice none 0 0] 30)).frozen? ⟨w0.heap.size + 1 + 1, 1, none⟩ = false := by go_simp
    have qr0_1 : (((w0.alloc (.cells #[.int .i64 n, .slice ad es.length cap] 30)).alloc (.cells #[.int .i64 x, .int .i64 y, .int .i64 z] 34)).alloc (.cells #[.int .i64 0, .slice none 0 0] 30)).cell? ⟨w0.heap.size + 1 + 1, 0, none⟩ = some (.int .i64 0) := by go_simp
    have qr1_1 : (((w0.alloc (.cells #[.int .i64 n, .slice ad es.length cap] 30)).alloc (.cells #[.int .i64 x, .int .i64 y, .int .i64 z] 34)).alloc (.cells #[.int .i64 0, .slice none 0 0] 30)).cell? ⟨w0.heap.size + 1 + 1, 1, none⟩ = some (.slice none 0 0) := by go_simp
    have zr_1 : w0.heap.size + 1 + 1 < (((w0.alloc (.cells #[.int .i64 n, .slice ad es.length cap] 30)).alloc (.cells #[.int .i64 x, .int .i64 y, .int .i64 z] 34)).alloc (.cells #[.int .i64 0, .slice none 0 0] 30)).heap.size := by simp <;> omega
    generalize (((w0.alloc (.cells #[.int .i64 n, .slice ad es.length cap] 30)).alloc (.cells #[.int .i64 x, .int .i64 y, .int .i64 z] 34)).alloc (.cells #[.int .i64 0, .slice none 0 0] 30)) = w1 at hb1 H1 SZ1 R_1 frr0_1 frr1_1 qe0_1 qe1_1 qe2_1 qg0_1 qg1_1 qr0_1 qr1_1 ze_1 zg_1 zr_1 ⊢
    have ZBg := Lib.hid zg_1
    have ZBe := Lib.hid ze_1
    have ZBr := Lib.hid zr_1
    clear R_0
    refine (HV.out _ R_1.out.edges).mono ?_
    rintro e w2 ⟨rfl, hb2⟩
    have H2 := bel_trans H1 hb2
    have SZ2 := Lib.hid hb2.size
    have qg0_2 := (hb2.cell (p := ⟨w0.heap.size, 0, none⟩) zg_1).trans qg0_1
    have qg1_2 := (hb2.cell (p := ⟨w0.heap.size, 1, none⟩) zg_1).trans qg1_1
    have zg_2 := Nat.lt_of_lt_of_le zg_1 hb2.size
    have qe0_2 := (hb2.cell (p := ⟨w0.heap.size + 1, 0, none⟩) ze_1).trans qe0_1
    have qe1_2 := (hb2.cell (p := ⟨w0.heap.size + 1, 1, none⟩) ze_1).trans qe1_1
    have qe2_2 := (hb2.cell (p := ⟨w0.heap.size + 1, 2, none⟩) ze_1).trans qe2_1
    have ze_2 := Nat.lt_of_lt_of_le ze_1 hb2.size
    have qr0_2 := (hb2.cell (p := ⟨w0.heap.size + 1 + 1, 0, none⟩) zr_1).trans qr0_1
    have frr0_2 := (hb2.frozen (p := ⟨w0.heap.size + 1 + 1, 0, none⟩) zr_1).trans frr0_1
    have qr1_2 := (hb2.cell (p := ⟨w0.heap.size + 1 + 1, 1, none⟩) zr_1).trans qr1_1
    have frr1_2 := (hb2.frozen (p := ⟨w0.heap.size + 1 + 1, 1, none⟩) zr_1).trans frr1_1
    have zr_2 := Nat.lt_of_lt_of_le zr_1 hb2.size
    have R_2 := Lib.hid (R_1.out.keep hb2)
    clear R_1 qg0_1 qg1_1 zg_1 qe0_1 qe1_1 qe2_1 ze_1 frr0_1 frr1_1 qr0_1 qr1_1 zr_1
    go_wp2
    try simp only [Exit.inBlock, Exit.then]
    refine bodyPost_ret (v := .tuple #[.agg #[.int .i64 0, .slice none 0 0], .bool false]) ?_ rfl ?_
    · rw [results_cell_tmp rfl]
      go_simp
    exact ⟨_, rfl, ownE_nil _ _, okS_nil, (H2.setCell (by have := ZBr.out; simp only; omega) _).setCell (by have := ZBr.out; simp only; omega) _⟩
  rw [hg] at hgv
  have HV := Lib.hid hgv
  have hpl := pL_len es (x, y, z)
  have hv := putB_val hg (x, y, z)
  rw [insL_val hg (x, y, z)] at hlp
  have e1 : putN n es (x, y, z) = if gVal n (pL es (x, y, z)) = true then n else 0 := by unfold putN; rw [hv]
  have e2 : putL n es (x, y, z) = if gVal n (pL es (x, y, z)) = true then pL es (x, y, z) else [] := by unfold putL; rw [hv]
  rw [hv, e1, e2]
  generalize pL es (x, y, z) = L at hlp hpl ⊢
  have HP := Lib.hid hlp
  have hg2 := fun w s h => sGraphValid n L s w h (by omega)
  clear hgv hv e1 e2 hlp
  cases hb : gVal n L
  · rw [hb] at hg2
    have HW := Lib.hid hg2
    clear hg2
    rw [if_neg (by simp), if_neg (by simp)]
    obtain ⟨w0, hw0⟩ : ∃ w0, w0 = w := ⟨_, rfl⟩
    subst hw0
    have H0 := Below.refl w0.heap.size w0
    have R_0 := R
    clear R
    go_enter Try.func8, Try.ntmps8
    go_wp2_with fail
    have hb1 : Below w0.heap.size w0 (((w0.alloc (.cells #[.int .i64 n, .slice ad es.length cap] 30)).alloc (.cells #[.int .i64 x, .int .i64 y, .int .i64 z] 34)).alloc (.cells #[.int .i64 0, .slice none 0 0] 30)) := (((Below.refl _ _).alloc (by simp <;> omega) _).alloc (by simp <;> omega) _).alloc (by simp <;> omega) _
    have H1 := bel_trans H0 hb1
    have SZ1 := Lib.hid hb1.size
    have R_1 := Lib.hid (R_0.out.keep hb1)
    have qg0_1 : (((w0.alloc (.cells #[.int .i64 n, .slice ad es.length cap] 30)).alloc (.cells #[.int .i64 x, .int .i64 y, .int .i64 z] 34)).alloc (.cells #[.int .i64 0, .slice none 0 0] 30)).cell? ⟨w0.heap.size, 0, none⟩ = some (.int .i64 n) := by go_simp
    have qg1_1 : (((w0.alloc (.cells #[.int .i64 n, .slice ad es.length cap] 30)).alloc (.cells #[.int .i64 x, .int .i64 y, .int .i64 z] 34)).alloc (.cells #[.int .i64 0, .slice none 0 0] 30)).cell? ⟨w0.heap.size, 1, none⟩ = some (.slice ad es.length cap) := by go_simp
    have zg_1 : w0.heap.size < (((w0.alloc (.cells #[.int .i64 n, .slice ad es.length cap] 30)).alloc (.cells #[.int .i64 x, .int .i64 y, .int .i64 z] 34)).alloc (.cells #[.int .i64 0, .slice none 0 0] 30)).heap.size := by simp <;> omega
    have qe0_1 : (((w0.alloc (.cells #[.int .i64 n, .slice ad es.length cap] 30)).alloc (.cells #[.int .i64 x, .int .i64 y, .int .i64 z] 34)).alloc (.cells #[.int .i64 0, .slice none 0 0] 30)).cell? ⟨w0.heap.size + 1, 0, none⟩ = some (.int .i64 x) := by go_simp
    have qe1_1 : (((w0.alloc (.cells #[.int .i64 n, .slice ad es.length cap] 30)).alloc (.cells #[.int .i64 x, .int .i64 y, .int .i64 z] 34)).alloc (.cells #[.int .i64 0, .slice none 0 0] 30)).cell? ⟨w0.heap.size + 1, 1, none⟩ = some (.int .i64 y) := by go_simp
    have qe2_1 : (((w0.alloc (.cells #[.int .i64 n, .slice ad es.length cap] 30)).alloc (.cells #[.int .i64 x, .int .i64 y, .int .i64 z] 34)).alloc (.cells #[.int .i64 0, .slice none 0 0] 30)).cell? ⟨w0.heap.size + 1, 2, none⟩ = some (.int .i64 z) := by go_simp
    have ze_1 : w0.heap.size + 1 < (((w0.alloc (.cells #[.int .i64 n, .slice ad es.length cap] 30)).alloc (.cells #[.int .i64 x, .int .i64 y, .int .i64 z] 34)).alloc (.cells #[.int .i64 0, .slice none 0 0] 30)).heap.size := by simp <;> omega
    have frr0_1 : (((w0.alloc (.cells #[.int .i64 n, .slice ad es.length cap] 30)).alloc (.cells #[.int .i64 x, .int .i64 y, .int .i64 z] 34)).alloc (.cells #[.int .i64 0, .slice none 0 0] 30)).frozen? ⟨w0.heap.size + 1 + 1, 0, none⟩ = false := by go_simp
    have frr1_1 : (((w0.alloc (.cells #[.int .i64 n, .slice ad es.length cap] 30)).alloc (.cells #[.int .i64 x, .int .i64 y, .int .i64 z] 34)).alloc (.cells #[.int .i64 0, .slice none 0 0] 30)).frozen? ⟨w0.heap.size + 1 + 1, 1, none⟩ = false := by go_simp
    have qr0_1 : (((w0.alloc (.cells #[.int .i64 n, .slice ad es.length cap] 30)).alloc (.cells #[.int .i64 x, .int .i64 y, .int .i64 z] 34)).alloc (.cells #[.int .i64 0, .slice none 0 0] 30)).cell? ⟨w0.heap.size + 1 + 1, 0, none⟩ = some (.int .i64 0) := by go_simp
    have qr1_1 : (((w0.alloc (.cells #[.int .i64 n, .slice ad es.length cap] 30)).alloc (.cells #[.int .i64 x, .int .i64 y, .int .i64 z] 34)).alloc (.cells #[.int .i64 0, .slice none 0 0] 30)).cell? ⟨w0.heap.size + 1 + 1, 1, none⟩ = some (.slice none 0 0) := by go_simp
    have zr_1 : w0.heap.size + 1 + 1 < (((w0.alloc (.cells #[.int .i64 n, .slice ad es.length cap] 30)).alloc (.cells #[.int .i64 x, .int .i64 y, .int .i64 z] 34)).alloc (.cells #[.int .i64 0, .slice none 0 0] 30)).heap.size := by simp <;> omega
    generalize (((w0.alloc (.cells #[.int .i64 n, .slice ad es.length cap] 30)).alloc (.cells #[.int .i64 x, .int .i64 y, .int .i64 z] 34)).alloc (.cells #[.int .i64 0, .slice none 0 0] 30)) = w1 at hb1 H1 SZ1 R_1 frr0_1 frr1_1 qe0_1 qe1_1 qe2_1 qg0_1 qg1_1 qr0_1 qr1_1 ze_1 zg_1 zr_1 ⊢
    have ZBg := Lib.hid zg_1
    have ZBe := Lib.hid ze_1
    have ZBr := Lib.hid zr_1
    clear R_0
    refine (HV.out _ R_1.out.edges).mono ?_
    rintro e w2 ⟨rfl, hb2⟩
    have H2 := bel_trans H1 hb2
    have SZ2 := Lib.hid hb2.size
    have qg0_2 := (hb2.cell (p := ⟨w0.heap.size, 0, none⟩) zg_1).trans qg0_1
    have qg1_2 := (hb2.cell (p := ⟨w0.heap.size, 1, none⟩) zg_1).trans qg1_1
    have zg_2 := Nat.lt_of_lt_of_le zg_1 hb2.size
    have qe0_2 := (hb2.cell (p := ⟨w0.heap.size + 1, 0, none⟩) ze_1).trans qe0_1
    have qe1_2 := (hb2.cell (p := ⟨w0.heap.size + 1, 1, none⟩) ze_1).trans qe1_1
    have qe2_2 := (hb2.cell (p := ⟨w0.heap.size + 1, 2, none⟩) ze_1).trans qe2_1
    have ze_2 := Nat.lt_of_lt_of_le ze_1 hb2.size
    have qr0_2 := (hb2.cell (p := ⟨w0.heap.size + 1 + 1, 0, none⟩) zr_1).trans qr0_1
    have frr0_2 := (hb2.frozen (p := ⟨w0.heap.size + 1 + 1, 0, none⟩) zr_1).trans frr0_1
    have qr1_2 := (hb2.cell (p := ⟨w0.heap.size + 1 + 1, 1, none⟩) zr_1).trans qr1_1
    have frr1_2 := (hb2.frozen (p := ⟨w0.heap.size + 1 + 1, 1, none⟩) zr_1).trans frr1_1
    have zr_2 := Nat.lt_of_lt_of_le zr_1 hb2.size
    have R_2 := Lib.hid (R_1.out.keep hb2)
    clear R_1 qg0_1 qg1_1 zg_1 qe0_1 qe1_1 qe2_1 ze_1 frr0_1 frr1_1 qr0_1 qr1_1 zr_1
    go_wp2_with fail
    refine (HP.out _ R_2.out.edges).mono ?_
    rintro e w3 ⟨v, rfl, hown, hokv, hb3⟩
    have H3 := bel_trans H2 hb3
    have SZ3 := Lib.hid hb3.size
    have qg0_3 := (hb3.cell (p := ⟨w0.heap.size, 0, none⟩) zg_2).trans qg0_2
    have qg1_3 := (hb3.cell (p := ⟨w0.heap.size, 1, none⟩) zg_2).trans qg1_2
    have zg_3 := Nat.lt_of_lt_of_le zg_2 hb3.size
    have qe0_3 := (hb3.cell (p := ⟨w0.heap.size + 1, 0, none⟩) ze_2).trans qe0_2
    have qe1_3 := (hb3.cell (p := ⟨w0.heap.size + 1, 1, none⟩) ze_2).trans qe1_2
    have qe2_3 := (hb3.cell (p := ⟨w0.heap.size + 1, 2, none⟩) ze_2).trans qe2_2
    have ze_3 := Nat.lt_of_lt_of_le ze_2 hb3.size
    have qr0_3 := (hb3.cell (p := ⟨w0.heap.size + 1 + 1, 0, none⟩) zr_2).trans qr0_2
    have frr0_3 := (hb3.frozen (p := ⟨w0.heap.size + 1 + 1, 0, none⟩) zr_2).trans frr0_2
    have qr1_3 := (hb3.cell (p := ⟨w0.heap.size + 1 + 1, 1, none⟩) zr_2).trans qr1_2
    have frr1_3 := (hb3.frozen (p := ⟨w0.heap.size + 1 + 1, 1, none⟩) zr_2).trans frr1_2
    have zr_3 := Nat.lt_of_lt_of_le zr_2 hb3.size
    have R_3 := Lib.hid (R_2.out.keep hb3)
    obtain ⟨va, vc, rfl, hvz⟩ := id hown
    clear hvz
    have V_3 := Lib.hid (hown)
    clear qg0_2 qg1_2 zg_2 qe0_2 qe1_2 qe2_2 ze_2 qr0_2 frr0_2 qr1_2 frr1_2 zr_2 R_2
    clear hown
    go_wp2_with fail
    have hb4 : Below w3.heap.size w3 (w3.alloc (.cells #[.int .i64 n, .slice va L.length vc] 30)) := (Below.refl _ _).alloc (by simp <;> omega) _
    have H4 := bel_trans H3 hb4
    have SZ4 := Lib.hid hb4.size
    have qg0_4 := (hb4.cell (p := ⟨w0.heap.size, 0, none⟩) zg_3).trans qg0_3
    have qg1_4 := (hb4.cell (p := ⟨w0.heap.size, 1, none⟩) zg_3).trans qg1_3
    have zg_4 := Nat.lt_of_lt_of_le zg_3 hb4.size
    have qe0_4 := (hb4.cell (p := ⟨w0.heap.size + 1, 0, none⟩) ze_3).trans qe0_3
    have qe1_4 := (hb4.cell (p := ⟨w0.heap.size + 1, 1, none⟩) ze_3).trans qe1_3
    have qe2_4 := (hb4.cell (p := ⟨w0.heap.size + 1, 2, none⟩) ze_3).trans qe2_3
    have ze_4 := Nat.lt_of_lt_of_le ze_3 hb4.size
    have qr0_4 := (hb4.cell (p := ⟨w0.heap.size + 1 + 1, 0, none⟩) zr_3).trans qr0_3
    have frr0_4 := (hb4.frozen (p := ⟨w0.heap.size + 1 + 1, 0, none⟩) zr_3).trans frr0_3
    have qr1_4 := (hb4.cell (p := ⟨w0.heap.size + 1 + 1, 1, none⟩) zr_3).trans qr1_3
    have frr1_4 := (hb4.frozen (p := ⟨w0.heap.size + 1 + 1, 1, none⟩) zr_3).trans frr1_3
    have zr_4 := Nat.lt_of_lt_of_le zr_3 hb4.size
    have R_4 := Lib.hid (R_3.out.keep hb4)
    have V_4 := Lib.hid (V_3.out.keep hb4)
    have qo0_4 : (w3.alloc (.cells #[.int .i64 n, .slice va L.length vc] 30)).cell? ⟨w3.heap.size, 0, none⟩ = some (.int .i64 n) := by go_simp
    have qo1_4 : (w3.alloc (.cells #[.int .i64 n, .slice va L.length vc] 30)).cell? ⟨w3.heap.size, 1, none⟩ = some (.slice va L.length vc) := by go_simp
    have zo_4 : w3.heap.size < (w3.alloc (.cells #[.int .i64 n, .slice va L.length vc] 30)).heap.size := by simp <;> omega
    generalize (w3.alloc (.cells #[.int .i64 n, .slice va L.length vc] 30)) = w4 at hb4 H4 SZ4 R_4 V_4 frr0_4 frr1_4 qe0_4 qe1_4 qe2_4 qg0_4 qg1_4 qo0_4 qo1_4 qr0_4 qr1_4 ze_4 zg_4 zo_4 zr_4 ⊢
    have ZBo := Lib.hid zo_4
    clear qg0_3 qg1_3 zg_3 qe0_3 qe1_3 qe2_3 ze_3 qr0_3 frr0_3 qr1_3 frr1_3 zr_3 R_3 V_3
    refine (HW.out _ _ V_4.out.edges).mono ?_
    rintro e w5 ⟨rfl, hb5⟩
    have H5 := bel_trans H4 hb5
    have SZ5 := Lib.hid hb5.size
    have qg0_5 := (hb5.cell (p := ⟨w0.heap.size, 0, none⟩) zg_4).trans qg0_4
    have qg1_5 := (hb5.cell (p := ⟨w0.heap.size, 1, none⟩) zg_4).trans qg1_4
    have zg_5 := Nat.lt_of_lt_of_le zg_4 hb5.size
    have qe0_5 := (hb5.cell (p := ⟨w0.heap.size + 1, 0, none⟩) ze_4).trans qe0_4
    have qe1_5 := (hb5.cell (p := ⟨w0.heap.size + 1, 1, none⟩) ze_4).trans qe1_4
    have qe2_5 := (hb5.cell (p := ⟨w0.heap.size + 1, 2, none⟩) ze_4).trans qe2_4
    have ze_5 := Nat.lt_of_lt_of_le ze_4 hb5.size
    have qr0_5 := (hb5.cell (p := ⟨w0.heap.size + 1 + 1, 0, none⟩) zr_4).trans qr0_4
    have frr0_5 := (hb5.frozen (p := ⟨w0.heap.size + 1 + 1, 0, none⟩) zr_4).trans frr0_4
    have qr1_5 := (hb5.cell (p := ⟨w0.heap.size + 1 + 1, 1, none⟩) zr_4).trans qr1_4
    have frr1_5 := (hb5.frozen (p := ⟨w0.heap.size + 1 + 1, 1, none⟩) zr_4).trans frr1_4
    have zr_5 := Nat.lt_of_lt_of_le zr_4 hb5.size
    have qo0_5 := (hb5.cell (p := ⟨w3.heap.size, 0, none⟩) zo_4).trans qo0_4
    have qo1_5 := (hb5.cell (p := ⟨w3.heap.size, 1, none⟩) zo_4).trans qo1_4
    have zo_5 := Nat.lt_of_lt_of_le zo_4 hb5.size
    have R_5 := Lib.hid (R_4.out.keep hb5)
    have V_5 := Lib.hid (V_4.out.keep hb5)
    clear qg0_4 qg1_4 zg_4 qe0_4 qe1_4 qe2_4 ze_4 qr0_4 frr0_4 qr1_4 frr1_4 zr_4 R_4 V_4 qo0_4 qo1_4 zo_4
    go_wp2
    try simp only [Exit.inBlock, Exit.then]
    refine bodyPost_ret (v := .tuple #[.agg #[.int .i64 0, .slice none 0 0], .bool false]) ?_ rfl ?_
    · rw [results_cell_tmp rfl]
      go_simp
    exact ⟨_, rfl, ownE_nil _ _, okS_nil, (H5.setCell (by have := ZBr.out; simp only; omega) _).setCell (by have := ZBr.out; simp only; omega) _⟩
  · rw [hb] at hg2
    have HW := Lib.hid hg2
    clear hg2
    rw [if_pos rfl, if_pos rfl]
    obtain ⟨w0, hw0⟩ : ∃ w0, w0 = w := ⟨_, rfl⟩
    subst hw0
    have H0 := Below.refl w0.heap.size w0
    have R_0 := R
    clear R
    go_enter Try.func8, Try.ntmps8
    go_wp2_with fail
    have hb1 : Below w0.heap.size w0 (((w0.alloc (.cells #[.int .i64 n, .slice ad es.length cap] 30)).alloc (.cells #[.int .i64 x, .int .i64 y, .int .i64 z] 34)).alloc (.cells #[.int .i64 0, .slice none 0 0] 30)) := (((Below.refl _ _).alloc (by simp <;> omega) _).alloc (by simp <;> omega) _).alloc (by simp <;> omega) _
    have H1 := bel_trans H0 hb1
    have SZ1 := Lib.hid hb1.size
    have R_1 := Lib.hid (R_0.out.keep hb1)
    have qg0_1 : (((w0.alloc (.cells #[.int .i64 n, .slice ad es.length cap] 30)).alloc (.cells #[.int .i64 x, .int .i64 y, .int .i64 z] 34)).alloc (.cells #[.int .i64 0, .slice none 0 0] 30)).cell? ⟨w0.heap.size, 0, none⟩ = some (.int .i64 n) := by go_simp
    have qg1_1 : (((w0.alloc (.cells #[.int .i64 n, .slice ad es.length cap] 30)).alloc (.cells #[.int .i64 x, .int .i64 y, .int .i64 z] 34)).alloc (.cells #[.int .i64 0, .slice none 0 0] 30)).cell? ⟨w0.heap.size, 1, none⟩ = some (.slice ad es.length cap) := by go_simp
    have zg_1 : w0.heap.size < (((w0.alloc (.cells #[.int .i64 n, .slice ad es.length cap] 30)).alloc (.cells #[.int .i64 x, .int .i64 y, .int .i64 z] 34)).alloc (.cells #[.int .i64 0, .slice none 0 0] 30)).heap.size := by simp <;> omega
    have qe0_1 : (((w0.alloc (.cells #[.int .i64 n, .slice ad es.length cap] 30)).alloc (.cells #[.int .i64 x, .int .i64 y, .int .i64 z] 34)).alloc (.cells #[.int .i64 0, .slice none 0 0] 30)).cell? ⟨w0.heap.size + 1, 0, none⟩ = some (.int .i64 x) := by go_simp
    have qe1_1 : (((w0.alloc (.cells #[.int .i64 n, .slice ad es.length cap] 30)).alloc (.cells #[.int .i64 x, .int .i64 y, .int .i64 z] 34)).alloc (.cells #[.int .i64 0, .slice none 0 0] 30)).cell? ⟨w0.heap.size + 1, 1, none⟩ = some (.int .i64 y) := by go_simp
    have qe2_1 : (((w0.alloc (.cells #[.int .i64 n, .slice ad es.length cap] 30)).alloc (.cells #[.int .i64 x, .int .i64 y, .int .i64 z] 34)).alloc (.cells #[.int .i64 0, .slice none 0 0] 30)).cell? ⟨w0.heap.size + 1, 2, none⟩ = some (.int .i64 z) := by go_simp
    have ze_1 : w0.heap.size + 1 < (((w0.alloc (.cells #[.int .i64 n, .slice ad es.length cap] 30)).alloc (.cells #[.int .i64 x, .int .i64 y, .int .i64 z] 34)).alloc (.cells #[.int .i64 0, .slice none 0 0] 30)).heap.size := by simp <;> omega
    have frr0_1 : (((w0.alloc (.cells #[.int .i64 n, .slice ad es.length cap] 30)).alloc (.cells #[.int .i64 x, .int .i64 y, .int .i64 z] 34)).alloc (.cells #[.int .i64 0, .slice none 0 0] 30)).frozen? ⟨w0.heap.size + 1 + 1, 0, none⟩ = false := by go_simp
    have frr1_1 : (((w0.alloc (.cells #[.int .i64 n, .slice ad es.length cap] 30)).alloc (.cells #[.int .i64 x, .int .i64 y, .int .i64 z] 34)).alloc (.cells #[.int .i64 0, .slice none 0 0] 30)).frozen? ⟨w0.heap.size + 1 + 1, 1, none⟩ = false := by go_simp
    have qr0_1 : (((w0.alloc (.cells #[.int .i64 n, .slice ad es.length cap] 30)).alloc (.cells #[.int .i64 x, .int .i64 y, .int .i64 z] 34)).alloc (.cells #[.int .i64 0, .slice none 0 0] 30)).cell? ⟨w0.heap.size + 1 + 1, 0, none⟩ = some (.int .i64 0) := by go_simp
    have qr1_1 : (((w0.alloc (.cells #[.int .i64 n, .slice ad es.length cap] 30)).alloc (.cells #[.int .i64 x, .int .i64 y, .int .i64 z] 34)).alloc (.cells #[.int .i64 0, .slice none 0 0] 30)).cell? ⟨w0.heap.size + 1 + 1, 1, none⟩ = some (.slice none 0 0) := by go_simp
    have zr_1 : w0.heap.size + 1 + 1 < (((w0.alloc (.cells #[.int .i64 n, .slice ad es.length cap] 30)).alloc (.cells #[.int .i64 x, .int .i64 y, .int .i64 z] 34)).alloc (.cells #[.int .i64 0, .slice none 0 0] 30)).heap.size := by simp <;> omega
    generalize (((w0.alloc (.cells #[.int .i64 n, .slice ad es.length cap] 30)).alloc (.cells #[.int .i64 x, .int .i64 y, .int .i64 z] 34)).alloc (.cells #[.int .i64 0, .slice none 0 0] 30)) = w1 at hb1 H1 SZ1 R_1 frr0_1 frr1_1 qe0_1 qe1_1 qe2_1 qg0_1 qg1_1 qr0_1 qr1_1 ze_1 zg_1 zr_1 ⊢
    have ZBg := Lib.hid zg_1
    have ZBe := Lib.hid ze_1
    have ZBr := Lib.hid zr_1
    clear R_0
    refine (HV.out _ R_1.out.edges).mono ?_
    rintro e w2 ⟨rfl, hb2⟩
    have H2 := bel_trans H1 hb2
    have SZ2 := Lib.hid hb2.size
    have qg0_2 := (hb2.cell (p := ⟨w0.heap.size, 0, none⟩) zg_1).trans qg0_1
    have qg1_2 := (hb2.cell (p := ⟨w0.heap.size, 1, none⟩) zg_1).trans qg1_1
    have zg_2 := Nat.lt_of_lt_of_le zg_1 hb2.size
    have qe0_2 := (hb2.cell (p := ⟨w0.heap.size + 1, 0, none⟩) ze_1).trans qe0_1
    have qe1_2 := (hb2.cell (p := ⟨w0.heap.size + 1, 1, none⟩) ze_1).trans qe1_1
    have qe2_2 := (hb2.cell (p := ⟨w0.heap.size + 1, 2, none⟩) ze_1).trans qe2_1
    have ze_2 := Nat.lt_of_lt_of_le ze_1 hb2.size
    have qr0_2 := (hb2.cell (p := ⟨w0.heap.size + 1 + 1, 0, none⟩) zr_1).trans qr0_1
    have frr0_2 := (hb2.frozen (p := ⟨w0.heap.size + 1 + 1, 0, none⟩) zr_1).trans frr0_1
    have qr1_2 := (hb2.cell (p := ⟨w0.heap.size + 1 + 1, 1, none⟩) zr_1).trans qr1_1
    have frr1_2 := (hb2.frozen (p := ⟨w0.heap.size + 1 + 1, 1, none⟩) zr_1).trans frr1_1
    have zr_2 := Nat.lt_of_lt_of_le zr_1 hb2.size
    have R_2 := Lib.hid (R_1.out.keep hb2)
    clear R_1 qg0_1 qg1_1 zg_1 qe0_1 qe1_1 qe2_1 ze_1 frr0_1 frr1_1 qr0_1 qr1_1 zr_1
    go_wp2_with fail
    refine (HP.out _ R_2.out.edges).mono ?_
    rintro e w3 ⟨v, rfl, hown, hokv, hb3⟩
    have H3 := bel_trans H2 hb3
    have SZ3 := Lib.hid hb3.size
    have qg0_3 := (hb3.cell (p := ⟨w0.heap.size, 0, none⟩) zg_2).trans qg0_2
    have qg1_3 := (hb3.cell (p := ⟨w0.heap.size, 1, none⟩) zg_2).trans qg1_2
    have zg_3 := Nat.lt_of_lt_of_le zg_2 hb3.size
    have qe0_3 := (hb3.cell (p := ⟨w0.heap.size + 1, 0, none⟩) ze_2).trans qe0_2
    have qe1_3 := (hb3.cell (p := ⟨w0.heap.size + 1, 1, none⟩) ze_2).trans qe1_2
    have qe2_3 := (hb3.cell (p := ⟨w0.heap.size + 1, 2, none⟩) ze_2).trans qe2_2
    have ze_3 := Nat.lt_of_lt_of_le ze_2 hb3.size
    have qr0_3 := (hb3.cell (p := ⟨w0.heap.size + 1 + 1, 0, none⟩) zr_2).trans qr0_2
    have frr0_3 := (hb3.frozen (p := ⟨w0.heap.size + 1 + 1, 0, none⟩) zr_2).trans frr0_2
    have qr1_3 := (hb3.cell (p := ⟨w0.heap.size + 1 + 1, 1, none⟩) zr_2).trans qr1_2
    have frr1_3 := (hb3.frozen (p := ⟨w0.heap.size + 1 + 1, 1, none⟩) zr_2).trans frr1_2
    have zr_3 := Nat.lt_of_lt_of_le zr_2 hb3.size
    have R_3 := Lib.hid (R_2.out.keep hb3)
    obtain ⟨va, vc, rfl, hvz⟩ := id hown
    clear hvz
    have V_3 := Lib.hid (hown)
    clear qg0_2 qg1_2 zg_2 qe0_2 qe1_2 qe2_2 ze_2 qr0_2 frr0_2 qr1_2 frr1_2 zr_2 R_2
    clear hown
    go_wp2_with fail
    have hb4 : Below w3.heap.size w3 (w3.alloc (.cells #[.int .i64 n, .slice va L.length vc] 30)) := (Below.refl _ _).alloc (by simp <;> omega) _
    have H4 := bel_trans H3 hb4
    have SZ4 := Lib.hid hb4.size
    have qg0_4 := (hb4.cell (p := ⟨w0.heap.size, 0, none⟩) zg_3).trans qg0_3
    have qg1_4 := (hb4.cell (p := ⟨w0.heap.size, 1, none⟩) zg_3).trans qg1_3
    have zg_4 := Nat.lt_of_lt_of_le zg_3 hb4.size
    have qe0_4 := (hb4.cell (p := ⟨w0.heap.size + 1, 0, none⟩) ze_3).trans qe0_3
    have qe1_4 := (hb4.cell (p := ⟨w0.heap.size + 1, 1, none⟩) ze_3).trans qe1_3
    have qe2_4 := (hb4.cell (p := ⟨w0.heap.size + 1, 2, none⟩) ze_3).trans qe2_3
    have ze_4 := Nat.lt_of_lt_of_le ze_3 hb4.size
    have qr0_4 := (hb4.cell (p := ⟨w0.heap.size + 1 + 1, 0, none⟩) zr_3).trans qr0_3
    have frr0_4 := (hb4.frozen (p := ⟨w0.heap.size + 1 + 1, 0, none⟩) zr_3).trans frr0_3
    have qr1_4 := (hb4.cell (p := ⟨w0.heap.size + 1 + 1, 1, none⟩) zr_3).trans qr1_3
    have frr1_4 := (hb4.frozen (p := ⟨w0.heap.size + 1 + 1, 1, none⟩) zr_3).trans frr1_3
    have zr_4 := Nat.lt_of_lt_of_le zr_3 hb4.size
    have R_4 := Lib.hid (R_3.out.keep hb4)
    have V_4 := Lib.hid (V_3.out.keep hb4)
    have qo0_4 : (w3.alloc (.cells #[.int .i64 n, .slice va L.length vc] 30)).cell? ⟨w3.heap.size, 0, none⟩ = some (.int .i64 n) := by go_simp
    have qo1_4 : (w3.alloc (.cells #[.int .i64 n, .slice va L.length vc] 30)).cell? ⟨w3.heap.size, 1, none⟩ = some (.slice va L.length vc) := by go_simp
    have zo_4 : w3.heap.size < (w3.alloc (.cells #[.int .i64 n, .slice va L.length vc] 30)).heap.size := by simp <;> omega
    generalize (w3.alloc (.cells #[.int .i64 n, .slice va L.length vc] 30)) = w4 at hb4 H4 SZ4 R_4 V_4 frr0_4 frr1_4 qe0_4 qe1_4 qe2_4 qg0_4 qg1_4 qo0_4 qo1_4 qr0_4 qr1_4 ze_4 zg_4 zo_4 zr_4 ⊢
    have ZBo := Lib.hid zo_4
    clear qg0_3 qg1_3 zg_3 qe0_3 qe1_3 qe2_3 ze_3 qr0_3 frr0_3 qr1_3 frr1_3 zr_3 R_3 V_3
    refine (HW.out _ _ V_4.out.edges).mono ?_
    rintro e w5 ⟨rfl, hb5⟩
    have H5 := bel_trans H4 hb5
    have SZ5 := Lib.hid hb5.size
    have qg0_5 := (hb5.cell (p := ⟨w0.heap.size, 0, none⟩) zg_4).trans qg0_4
    have qg1_5 := (hb5.cell (p := ⟨w0.heap.size, 1, none⟩) zg_4).trans qg1_4
    have zg_5 := Nat.lt_of_lt_of_le zg_4 hb5.size
    have qe0_5 := (hb5.cell (p := ⟨w0.heap.size + 1, 0, none⟩) ze_4).trans qe0_4
    have qe1_5 := (hb5.cell (p := ⟨w0.heap.size + 1, 1, none⟩) ze_4).trans qe1_4
    have qe2_5 := (hb5.cell (p := ⟨w0.heap.size + 1, 2, none⟩) ze_4).trans qe2_4
    have ze_5 := Nat.lt_of_lt_of_le ze_4 hb5.size
    have qr0_5 := (hb5.cell (p := ⟨w0.heap.size + 1 + 1, 0, none⟩) zr_4).trans qr0_4
    have frr0_5 := (hb5.frozen (p := ⟨w0.heap.size + 1 + 1, 0, none⟩) zr_4).trans frr0_4
    have qr1_5 := (hb5.cell (p := ⟨w0.heap.size + 1 + 1, 1, none⟩) zr_4).trans qr1_4
    have frr1_5 := (hb5.frozen (p := ⟨w0.heap.size + 1 + 1, 1, none⟩) zr_4).trans frr1_4
    have zr_5 := Nat.lt_of_lt_of_le zr_4 hb5.size
    have qo0_5 := (hb5.cell (p := ⟨w3.heap.size, 0, none⟩) zo_4).trans qo0_4
    have qo1_5 := (hb5.cell (p := ⟨w3.heap.size, 1, none⟩) zo_4).trans qo1_4
    have zo_5 := Nat.lt_of_lt_of_le zo_4 hb5.size
    have R_5 := Lib.hid (R_4.out.keep hb5)
    have V_5 := Lib.hid (V_4.out.keep hb5)
    clear qg0_4 qg1_4 zg_4 qe0_4 qe1_4 qe2_4 ze_4 qr0_4 frr0_4 qr1_4 frr1_4 zr_4 R_4 V_4 qo0_4 qo1_4 zo_4
    go_wp2
    try simp only [Exit.inBlock, Exit.then]
    refine bodyPost_ret (v := .tuple #[.agg #[.int .i64 n, .slice va L.length vc], .bool true]) ?_ rfl ?_
    · rw [results_cell_tmp rfl]
      go_simp
    have hch : Chg (w0.heap.size + 2) (w0.heap.size + 3) w5 ((w5.setCell ⟨w0.heap.size + 1 + 1, 0, none⟩ (.int .i64 n)).setCell ⟨w0.heap.size + 1 + 1, 1, none⟩ (.slice va L.length vc)) := ((Chg.refl _ _ _).setCell (by simp only; omega) (by simp only; omega) _).setCell (by simp only; omega) (by simp only; omega) _
    exact ⟨.slice va L.length vc, rfl, ((V_5.out.chg hch (.inl (by have := ZBr.out; have := SZ2.out; omega))).wider (by have := SZ2.out; have := SZ1.out; omega) (by simp; have := SZ5.out; have := SZ4.out; omega) (Nat.le_refl _)), hokv, bel_chg H5 hch (by omega)⟩
end Go.Proofs.Ytddpljalojcomab
