/- PutEdge of the program: what it answers. -/
import Derived.Test.YtddpljalojcomabPutC
namespace Go.Proofs.Ytddpljalojcomab
open Go.RowKit Go.BigFrame Go.Deep
set_option linter.unusedVariables false
set_option linter.unusedSimpArgs false

set_option maxRecDepth 100000 in
set_option maxHeartbeats 2000000 in
theorem putEdge (n : Int) (es : List Ed) (x y z : Int) (s : Value) (w : World) (hs : RowE w s es) (hok : okS s) (hl : es.length ≤ 1048576) :
    Calls Try.prog 11 #[.agg #[.int .i64 n, s], .agg #[.int .i64 x, .int .i64 y, .int .i64 z]] w fun e w' => ∃ v, e = .returned (.tuple #[.agg #[.int .i64 (putN n es (x, y, z)), v], .bool (putB n es (x, y, z))]) ∧ OwnE w w' v (putL n es (x, y, z)) ∧ okS v ∧ Below w.heap.size w w' := by
  have hl2 : es.length ≤ 281474976710656 := by omega
  obtain ⟨ad, cap, hs0, hz0⟩ := id hs
  subst hs0
  have hgv := fun w h => graphValid n es (.slice ad es.length cap) w h hl2
  have hef := fun w => edgeFits n x y z (.slice ad es.length cap) w
  have R := Lib.hid (InR.of_edges hs)
  clear hs
  cases hg : gVal n es
  · have e0 : putB n es (x, y, z) = false := by unfold putB; rw [hg]; rfl
    have e1 : putN n es (x, y, z) = 0 := by unfold putN; rw [e0]; rfl
    have e2 : putL n es (x, y, z) = [] := by unfold putL; rw [e0]; rfl
    rw [e0, e1, e2]
    rw [hg] at hgv
    have HV := Lib.hid hgv
    clear hgv hz0 e0 e1 e2 hef hok
    obtain ⟨w0, hw0⟩ : ∃ w0, w0 = w := ⟨_, rfl⟩
    subst hw0
    have H0 := Below.refl w0.heap.size w0
    have R_0 := R
    clear R
    go_enter Try.func11, Try.ntmps11
    go_wp2_with fail
    have hb1 : Below w0.heap.size w0 (((w0.alloc (.cells #[.int .i64 n, .slice ad es.length cap] 30)).alloc (.cells #[.int .i64 x, .int .i64 y, .int .i64 z] 34)).alloc (.cells #[.int .i64 0, .slice none 0 0] 30)) := (((Below.refl _ _).alloc (by simp <;> omega) _).alloc (by simp <;> omega) _).alloc (by simp <;> omega) _
    have H1 := bel_trans H0 hb1
    have SZ1 := Lib.hid hb1.size
    have R_1 := Lib.hid (R_0.out.keep hb1)
    have qg0_1 : (((w0.alloc (.cells #[.int .i64 n, .slice ad es.length cap] 30)).alloc (.cells #[.int .i64 x, .int .i64 y, .int .i64 z] 34)).alloc (.cells #[.int .i64 0, .slice none 0 0] 30)).cell? ⟨w0.heap.size, 0, none⟩ = some (.int .i64 n) := by go_simp
    have qg1_1 : (((w0.alloc (.cells #[.int .i64 n, .slice ad es.length cap] 30)).alloc (.cells #[.int .i64 x, .int .i64 y, .int .i64 z] 34)).alloc (.cells #[.int .i64 0, .slice none 0 0] 30)).cell? ⟨w0.heap.size, 1, none⟩ = some (.slice ad es.length cap) := by go_simp
    have zg_1 : w0.heap.size < (((w0.alloc (.cells #[.int .i64 n, .slice ad es.length cap] 30)).alloc (.cells #[.int .i64 x, .int .i64 y, .int .i64 z] 34)).alloc (.cells #[.int .i64 0, .slice none 0 0] 30)).heap.size := by simp <;> omega
    have qe0_1 : (((w0.alloc (.cells #[.int .i64 n, .slice ad es.length cap] 30)).alloc (.cells #[.int .i64 x, .int .i64 y, .int .i64 z] 34)).alloc (.cells #[.int .i64 0, .slice none 0 0] 30)).cell? ⟨w0.heap.size + 1, 0, none⟩ = some (.int .i64 x) := by go_simp
    have qe1_1 : (((w0.alloc (.cells #[.int .i64 n, .slice ad es.length cap] 30)).alloc (.cells #[.int .i64 x, .int .i64 y, .int .i64 z] 34)).alloc (.cells #[.int .i64 0, .slice none 0 0] 30)).cell? ⟨w0.heap.size + 1, 1, none⟩ = some (.int .i64 y) := by go_simp
    have qe2_1 : (((w0.alloc (.cells #[.int .i64 n, .slice ad es.length cap] 30)).alloc (.cells #[.int .i64 x, .int .i64 y, .int .i64 z] 34)).alloc (.cells #[.int .i64 0, .slice none 0 0] 30)).cell? ⟨w0.heap.size + 1, 2, none⟩ = some (.int .i64 z) := by go_simp
    have ze_1 : w0.heap.size + 1 < (((w0.alloc (.cells #[.int .i64 n, .slice ad es.length cap] 30)).alloc (.cells #[.int .i64 x, .int .i64 y, .int .i64 z] 34)).alloc (.cells #[.int .i64 0, .slice none 0 0] 30)).heap.size := by simp <;> omega
    have frr0_1 : (((w0.alloc (.cells #[.int .i64 n, .slice ad es.length cap] 30)).alloc (.cells #[.int .i64 x, .int .i64 y, .int .i64 z] 34)).alloc (.cells #[.int .i64 0, .slice none 0 0] 30)).frozen? ⟨w0.heap.size + 1 + 1, 0, none⟩ = false := by go_simp
    have frr1_1 : (((w0.alloc (.cells #[.int .i64 n, .slice ad es.length cap] 30)).alloc (.cells #[.int .i64 x, .int .i64 y, .int .i64 z] 34)).alloc (.cells #[.int .i64 0, .slice none 0 0] 30)).frozen? ⟨w0.heap.size + 1 + 1, 1, none⟩ = false := by go_simp
    have qr0_1 : (((w0.alloc (.cells #[.int .i64 n, .slice ad es.length cap] 30)).alloc (.cells #[.int .i64 x, .int .i64 y, .int .i64 z] 34)).alloc (.cells #[.int .i64 0, .slice none 0 0] 30)).cell? ⟨w0.heap.size + 1 + 1, 0, none⟩ = some (.int .i64 0) := by go_simp
    have qr1_1 : (((w0.alloc (.cells #[.int .i64 n, .slice ad es.length cap] 30)).alloc (.cells #[.int .i64 x, .int .i64 y, .int .i64 z] 34)).alloc (.cells #[.int .i64 0, .slice none 0 0] 30)).cell? ⟨w0.heap.size + 1 + 1, 1, none⟩ = some (.slice none 0 0) := by go_simp
    have zr_1 : w0.heap.size + 1 + 1 < (((w0.alloc (.cells #[.int .i64 n, .slice ad es.length cap] 30)).alloc (.cells #[.int .i64 x, .int .i64 y, .int .i64 z] 34)).alloc (.cells #[.int .i64 0, .slice none 0 0] 30)).heap.size := by simp <;> omega
    generalize (((w0.alloc (.cells #[.int .i64 n, .slice ad es.length cap] 30)).alloc (.cells #[.int .i64 x, .int .i64 y, .int .i64 z] 34)).alloc (.cells #[.int .i64 0, .slice none 0 0] 30)) = w1 at hb1 H1 SZ1 R_1 frr0_1 frr1_1 qe0_1 qe1_1 qe2_1 qg0_1 qg1_1 qr0_1 qr1_1 ze_1 zg_1 zr_1 ⊢
    have ZBg := Lib.hid zg_1
    have ZBe := Lib.hid ze_1
    have ZBr := Lib.hid zr_1
    clear R_0
    refine (HV.out _ R_1.out.edges).mono ?_
    rintro e w2 ⟨rfl, hb2⟩
    have H2 := bel_trans H1 hb2
    have SZ2 := Lib.hid hb2.size
    have qg0_2 := (hb2.cell (p := ⟨w0.heap.size, 0, none⟩) zg_1).trans qg0_1
    have qg1_2 := (hb2.cell (p := ⟨w0.heap.size, 1, none⟩) zg_1).trans qg1_1
    have zg_2 := Nat.lt_of_lt_of_le zg_1 hb2.size
    have qe0_2 := (hb2.cell (p := ⟨w0.heap.size + 1, 0, none⟩) ze_1).trans qe0_1
    have qe1_2 := (hb2.cell (p := ⟨w0.heap.size + 1, 1, none⟩) ze_1).trans qe1_1
    have qe2_2 := (hb2.cell (p := ⟨w0.heap.size + 1, 2, none⟩) ze_1).trans qe2_1
    have ze_2 := Nat.lt_of_lt_of_le ze_1 hb2.size
    have qr0_2 := (hb2.cell (p := ⟨w0.heap.size + 1 + 1, 0, none⟩) zr_1).trans qr0_1
    have frr0_2 := (hb2.frozen (p := ⟨w0.heap.size + 1 + 1, 0, none⟩) zr_1).trans frr0_1
    have qr1_2 := (hb2.cell (p := ⟨w0.heap.size + 1 + 1, 1, none⟩) zr_1).trans qr1_1
    have frr1_2 := (hb2.frozen (p := ⟨w0.heap.size + 1 + 1, 1, none⟩) zr_1).trans frr1_1
    have zr_2 := Nat.lt_of_lt_of_le zr_1 hb2.size
    have R_2 := Lib.hid (R_1.out.keep hb2)
    clear R_1 qg0_1 qg1_1 zg_1 qe0_1 qe1_1 qe2_1 ze_1 frr0_1 frr1_1 qr0_1 qr1_1 zr_1
    go_wp2
    try simp only [Exit.inBlock, Exit.then]
    refine bodyPost_ret (v := .tuple #[.agg #[.int .i64 0, .slice none 0 0], .bool false]) ?_ rfl ?_
    · rw [results_cell_tmp rfl]
      go_simp
    exact ⟨_, rfl, ownE_nil _ _, okS_nil, (H2.setCell (by have := ZBr.out; simp only; omega) _).setCell (by have := ZBr.out; simp only; omega) _⟩
  rw [hg] at hgv
  have HV := Lib.hid hgv
  clear hgv
  cases hf : eFits n x y z
  · have e0 : putB n es (x, y, z) = false := by unfold putB; rw [hf]; simp
    have e1 : putN n es (x, y, z) = 0 := by unfold putN; rw [e0]; rfl
    have e2 : putL n es (x, y, z) = [] := by unfold putL; rw [e0]; rfl
    rw [e0, e1, e2]
    rw [hf] at hef
    have HF := Lib.hid hef
    clear hef hz0 e0 e1 e2 hok
    obtain ⟨w0, hw0⟩ : ∃ w0, w0 = w := ⟨_, rfl⟩
    subst hw0
    have H0 := Below.refl w0.heap.size w0
    have R_0 := R
    clear R
    go_enter Try.func11, Try.ntmps11
    go_wp2_with fail
    have hb1 : Below w0.heap.size w0 (((w0.alloc (.cells #[.int .i64 n, .slice ad es.length cap] 30)).alloc (.cells #[.int .i64 x, .int .i64 y, .int .i64 z] 34)).alloc (.cells #[.int .i64 0, .slice none 0 0] 30)) := (((Below.refl _ _).alloc (by simp <;> omega) _).alloc (by simp <;> omega) _).alloc (by simp <;> omega) _
    have H1 := bel_trans H0 hb1
    have SZ1 := Lib.hid hb1.size
    have R_1 := Lib.hid (R_0.out.keep hb1)
    have qg0_1 : (((w0.alloc (.cells #[.int .i64 n, .slice ad es.length cap] 30)).alloc (.cells #[.int .i64 x, .int .i64 y, .int .i64 z] 34)).alloc (.cells #[.int .i64 0, .slice none 0 0] 30)).cell? ⟨w0.heap.size, 0, none⟩ = some (.int .i64 n) := by go_simp
    have qg1_1 : (((w0.alloc (.cells #[.int .i64 n, .slice ad es.length cap] 30)).alloc (.cells #[.int .i64 x, .int .i64 y, .int .i64 z] 34)).alloc (.cells #[.int .i64 0, .slice none 0 0] 30)).cell? ⟨w0.heap.size, 1, none⟩ = some (.slice ad es.length cap) := by go_simp
    have zg_1 : w0.heap.size < (((w0.alloc (.cells #[.int .i64 n, .slice ad es.length cap] 30)).alloc (.cells #[.int .i64 x, .int .i64 y, .int .i64 z] 34)).alloc (.cells #[.int .i64 0, .slice none 0 0] 30)).heap.size := by simp <;> omega
    have qe0_1 : (((w0.alloc (.cells #[.int .i64 n, .slice ad es.length cap] 30)).alloc (.cells #[.int .i64 x, .int .i64 y, .int .i64 z] 34)).alloc (.cells #[.int .i64 0, .slice none 0 0] 30)).cell? ⟨w0.heap.size + 1, 0, none⟩ = some (.int .i64 x) := by go_simp
    have qe1_1 : (((w0.alloc (.cells #[.int .i64 n, .slice ad es.length cap] 30)).alloc (.cells #[.int .i64 x, .int .i64 y, .int .i64 z] 34)).alloc (.cells #[.int .i64 0, .slice none 0 0] 30)).cell? ⟨w0.heap.size + 1, 1, none⟩ = some (.int .i64 y) := by go_simp
    have qe2_1 : (((w0.alloc (.cells #[.int .i64 n, .slice ad es.length cap] 30)).alloc (.cells #[.int .i64 x, .int .i64 y, .int .i64 z] 34)).alloc (.cells #[.int .i64 0, .slice none 0 0] 30)).cell? ⟨w0.heap.size + 1, 2, none⟩ = some (.int .i64 z) := by go_simp
    have ze_1 : w0.heap.size + 1 < (((w0.alloc (.cells #[.int .i64 n, .slice ad es.length cap] 30)).alloc (.cells #[.int .i64 x, .int .i64 y, .int .i64 z] 34)).alloc (.cells #[.int .i64 0, .slice none 0 0] 30)).heap.size := by simp <;> omega
    have frr0_1 : (((w0.alloc (.cells #[.int .i64 n, .slice ad es.length cap] 30)).alloc (.cells #[.int .i64 x, .int .i64 y, .int .i64 z] 34)).alloc (.cells #[.int .i64 0, .slice none 0 0] 30)).frozen? ⟨w0.heap.size + 1 + 1, 0, none⟩ = false := by go_simp
    have frr1_1 : (((w0.alloc (.cells #[.int .i64 n, .slice ad es.length cap] 30)).alloc (.cells #[.int .i64 x, .int .i64 y, .int .i64 z] 34)).alloc (.cells #[.int .i64 0, .slice none 0 0] 30)).frozen? ⟨w0.heap.size + 1 + 1, 1, none⟩ = false := by go_simp
    have qr0_1 : (((w0.alloc (.cells #[.int .i64 n, .slice ad es.length cap] 30)).alloc (.cells #[.int .i64 x, .int .i64 y, .int .i64 z] 34)).alloc (.cells #[.int .i64 0, .slice none 0 0] 30)).cell? ⟨w0.heap.size + 1 + 1, 0, none⟩ = some (.int .i64 0) := by go_simp
    have qr1_1 : (((w0.alloc (.cells #[.int .i64 n, .slice ad es.length cap] 30)).alloc (.cells #[.int .i64 x, .int .i64 y, .int .i64 z] 34)).alloc (.cells #[.int .i64 0, .slice none 0 0] 30)).cell? ⟨w0.heap.size + 1 + 1, 1, none⟩ = some (.slice none 0 0) := by go_simp
    have zr_1 : w0.heap.size + 1 + 1 < (((w0.alloc (.cells #[.int .i64 n, .slice ad es.length cap] 30)).alloc (.cells #[.int .i64 x, .int .i64 y, .int .i64 z] 34)).alloc (.cells #[.int .i64 0, .slice none 0 0] 30)).heap.size := by simp <;> omega
    generalize (((w0.alloc (.cells #[.int .i64 n, .slice ad es.length cap] 30)).alloc (.cells #[.int .i64 x, .int .i64 y, .int .i64 z] 34)).alloc (.cells #[.int .i64 0, .slice none 0 0] 30)) = w1 at hb1 H1 SZ1 R_1 frr0_1 frr1_1 qe0_1 qe1_1 qe2_1 qg0_1 qg1_1 qr0_1 qr1_1 ze_1 zg_1 zr_1 ⊢
    have ZBg := Lib.hid zg_1
    have ZBe := Lib.hid ze_1
    have ZBr := Lib.hid zr_1
    clear R_0
    refine (HV.out _ R_1.out.edges).mono ?_
    rintro e w2 ⟨rfl, hb2⟩
    have H2 := bel_trans H1 hb2
    have SZ2 := Lib.hid hb2.size
    have qg0_2 := (hb2.cell (p := ⟨w0.heap.size, 0, none⟩) zg_1).trans qg0_1
    have qg1_2 := (hb2.cell (p := ⟨w0.heap.size, 1, none⟩) zg_1).trans qg1_1
    have zg_2 := Nat.lt_of_lt_of_le zg_1 hb2.size
    have qe0_2 := (hb2.cell (p := ⟨w0.heap.size + 1, 0, none⟩) ze_1).trans qe0_1
    have qe1_2 := (hb2.cell (p := ⟨w0.heap.size + 1, 1, none⟩) ze_1).trans qe1_1
    have qe2_2 := (hb2.cell (p := ⟨w0.heap.size + 1, 2, none⟩) ze_1).trans qe2_1
    have ze_2 := Nat.lt_of_lt_of_le ze_1 hb2.size
    have qr0_2 := (hb2.cell (p := ⟨w0.heap.size + 1 + 1, 0, none⟩) zr_1).trans qr0_1
    have frr0_2 := (hb2.frozen (p := ⟨w0.heap.size + 1 + 1, 0, none⟩) zr_1).trans frr0_1
    have qr1_2 := (hb2.cell (p := ⟨w0.heap.size + 1 + 1, 1, none⟩) zr_1).trans qr1_1
    have frr1_2 := (hb2.frozen (p := ⟨w0.heap.size + 1 + 1, 1, none⟩) zr_1).trans frr1_1
    have zr_2 := Nat.lt_of_lt_of_le zr_1 hb2.size
    have R_2 := Lib.hid (R_1.out.keep hb2)
    clear R_1 qg0_1 qg1_1 zg_1 qe0_1 qe1_1 qe2_1 ze_1 frr0_1 frr1_1 qr0_1 qr1_1 zr_1
    go_wp2_with fail
    refine (HF.out _).mono ?_
    rintro e w3 ⟨rfl, hb3⟩
    have H3 := bel_trans H2 hb3
    have SZ3 := Lib.hid hb3.size
    have qg0_3 := (hb3.cell (p := ⟨w0.heap.size, 0, none⟩) zg_2).trans qg0_2
    have qg1_3 := (hb3.cell (p := ⟨w0.heap.size, 1, none⟩) zg_2).trans qg1_2
    have zg_3 := Nat.lt_of_lt_of_le zg_2 hb3.size
    have qe0_3 := (hb3.cell (p := ⟨w0.heap.size + 1, 0, none⟩) ze_2).trans qe0_2
    have qe1_3 := (hb3.cell (p := ⟨w0.heap.size + 1, 1, none⟩) ze_2).trans qe1_2
    have qe2_3 := (hb3.cell (p := ⟨w0.heap.size + 1, 2, none⟩) ze_2).trans qe2_2
    have ze_3 := Nat.lt_of_lt_of_le ze_2 hb3.size
    have qr0_3 := (hb3.cell (p := ⟨w0.heap.size + 1 + 1, 0, none⟩) zr_2).trans qr0_2
    have frr0_3 := (hb3.frozen (p := ⟨w0.heap.size + 1 + 1, 0, none⟩) zr_2).trans frr0_2
    have qr1_3 := (hb3.cell (p := ⟨w0.heap.size + 1 + 1, 1, none⟩) zr_2).trans qr1_2
    have frr1_3 := (hb3.frozen (p := ⟨w0.heap.size + 1 + 1, 1, none⟩) zr_2).trans frr1_2
    have zr_3 := Nat.lt_of_lt_of_le zr_2 hb3.size
    have R_3 := Lib.hid (R_2.out.keep hb3)
    clear qg0_2 qg1_2 zg_2 qe0_2 qe1_2 qe2_2 ze_2 qr0_2 frr0_2 qr1_2 frr1_2 zr_2 R_2
    go_wp2
    try simp only [Exit.inBlock, Exit.then]
    refine bodyPost_ret (v := .tuple #[.agg #[.int .i64 0, .slice none 0 0], .bool false]) ?_ rfl ?_
    · rw [results_cell_tmp rfl]
      go_simp
    exact ⟨_, rfl, ownE_nil _ _, okS_nil, (H3.setCell (by have := ZBr.out; simp only; omega) _).setCell (by have := ZBr.out; simp only; omega) _⟩
  rw [hf] at hef
  have HF := Lib.hid hef
  have hfe := fun w h => findEdge n es x y (.slice ad es.length cap) w h hl (gVal_mono hg x y)
  have hlb := lbE_le es x y
  have hlt : fdE es x y = true → lbE es x y < es.length := by intro h; unfold fdE at h; simp at h; exact h.1
  have h40 := (gVal_parts hg).2.2.1
  have hB0 : putB n es (x, y, z) = decide ((pL es (x, y, z)).length ≤ 40) := by unfold putB; rw [hg, hf]; rfl
  have hN0 : putN n es (x, y, z) = if (pL es (x, y, z)).length ≤ 40 then n else 0 := by unfold putN; rw [hB0]; by_cases h : (pL es (x, y, z)).length ≤ 40 <;> simp [h]
  have hL0 : putL n es (x, y, z) = if (pL es (x, y, z)).length ≤ 40 then pL es (x, y, z) else [] := by unfold putL; rw [hB0]; by_cases h : (pL es (x, y, z)).length ≤ 40 <;> simp [h]
  rw [hB0, hN0, hL0]
  have hr : RowE w (.slice ad es.length cap) es := R.out.edges
  cases ad with
  | none =>
    have hc0 := (hok _ _ _ rfl).2.1 rfl
    have he0 : es = [] := by
      rcases hz0 with h | ⟨_, _, h, _⟩
      · exact h
      · cases h
    subst hc0 he0
    have hp0 : pL [] (x, y, z) = [(x, y, z)] := by simp [pL, lbE, fdN]
    rw [hp0]
    exact putCe n x y z w HV HF (Lib.hid hfe)
  | some a =>
    obtain ⟨b, off, spot⟩ := a
    have hspot := (hok _ _ _ rfl).2.2 _ rfl
    simp only at hspot
    subst hspot
    have hcap := (hok _ _ _ rfl).1
    have t1 : ∀ c p, p ≤ es.length → RowE w (.slice (some ⟨b, off, none⟩) p c) (es.take p) := by
      intro c p hp
      rcases hz0 with h | ⟨b', off', h, hb, hc⟩
      · subst h
        simp at hp
        subst hp
        exact ⟨_, c, rfl, .inl rfl⟩
      · injection h with h
        injection h with h1 h2 _
        subst h1 h2
        exact rowE_take hc hb hp
    have t3 : ∀ q, q ≤ es.length → RowE w (dropV b off es.length cap q) (es.drop q) := by
      intro q hq
      rcases hz0 with h | ⟨b', off', h, hb, hc⟩
      · subst h
        simp at hq
        subst hq
        unfold dropV
        exact ⟨_, _, rfl, .inl rfl⟩
      · injection h with h
        injection h with h1 h2 _
        subst h1 h2
        exact rowE_dropV hc hb q hcap
    have ok1 : ∀ p, p ≤ es.length → okS (.slice (some ⟨b, off, none⟩) p cap) := fun p hp => okS_some (by omega)
    have hT : ∀ p q, p ≤ es.length → (es.take p ++ (x, y, z) :: es.drop q).length ≤ 1048576 := by intro p q hp; simp; omega
    cases hfd : fdE es x y
    · have e0 : pL es (x, y, z) = es.take (lbE es x y) ++ (x, y, z) :: es.drop (lbE es x y) := by simp [pL, fdN, hfd]
      rw [e0]
      rw [hfd] at hfe
      generalize lbE es x y = p at hfe hlb hlt ⊢
      have HE := Lib.hid hfe
      have u3 := t3 p hlb
      unfold dropV at u3
      by_cases hcq : cap = p
      · subst hcq
        rw [if_pos rfl, Nat.sub_self] at u3
        exact putCd n es x y z b off cap w HV HF HE R (Lib.hid (t1 cap cap hlb)) (Lib.hid u3) (ok1 cap hlb) (okS_some (by omega)) (hT _ _ hlb) (by omega) (by omega) (by omega)
      · rw [if_neg hcq] at u3
        exact putCc n es x y z b off p cap w HV HF HE R (Lib.hid (t1 cap p hlb)) (Lib.hid u3) (ok1 p hlb) (okS_some (by omega)) (hT _ _ hlb) (by omega) (by omega) (by omega) (by omega) hcq
    · have e0 : pL es (x, y, z) = es.take (lbE es x y) ++ (x, y, z) :: es.drop (lbE es x y + 1) := by simp [pL, fdN, hfd]
      have hlt' := hlt hfd
      rw [e0]
      rw [hfd] at hfe
      generalize lbE es x y = p at hfe hlb hlt hlt' ⊢
      have HE := Lib.hid hfe
      have u3 := t3 (p + 1) hlt'
      unfold dropV at u3
      obtain ⟨q, hq⟩ : ∃ q, q = p + 1 := ⟨_, rfl⟩
      rw [← hq] at u3 ⊢
      by_cases hcq : cap = q
      · subst hcq
        rw [if_pos rfl, Nat.sub_self] at u3
        exact putCb n es x y z b off p cap w HV HF HE R (Lib.hid (t1 cap p hlb)) (Lib.hid u3) (ok1 p hlb) (okS_some (by omega)) (hT _ _ hlb) (by omega) (by omega) (by omega) (by omega) (by omega)
      · rw [if_neg hcq] at u3
        exact putCa n es x y z b off p q cap w HV HF HE R (Lib.hid (t1 cap p hlb)) (Lib.hid u3) (ok1 p hlb) (okS_some (by omega)) (hT _ _ hlb) (by omega) (by omega) (by omega) (by omega) (by omega) hcq
end Go.Proofs.Ytddpljalojcomab
