/- CutEdge of the model. -/
import Derived.Test.YtddpljalojcomabCut
import Derived.Test.YtddpljalojcomabCutI
namespace Go.Proofs.Ytddpljalojcomab
open Go.RowKit Go.BigFrame Go.Deep
set_option linter.unusedVariables false
set_option linter.unusedSimpArgs false

theorem cutL_val {n : Int} {es : List Ed} (hg : gVal n es = true) {a b : Int} (hf : fdE es a b = true) : cutL es a b = kL es a b := by
  have hlt : lbE es a b < es.length := by unfold fdE at hf; simp at hf; exact hf.1
  have hat : eBe a b (es.getD (lbE es a b) (0, 0, 0)) = true := by unfold fdE at hf; rw [← eBe_iff] at hf; simp at hf; simpa [List.getD, hlt] using hf.2
  have hsplit : es = es.take (lbE es a b) ++ es.getD (lbE es a b) (0, 0, 0) :: es.drop (lbE es a b + 1) := by
    have h1 : es.drop (lbE es a b) = es.getD (lbE es a b) (0, 0, 0) :: es.drop (lbE es a b + 1) := by
      rw [List.drop_eq_getElem_cons hlt]; simp [List.getD, hlt]
    rw [← h1, List.take_append_drop]
  unfold kL cutL
  conv => lhs; rw [hsplit]
  rw [List.filter_append, List.filter_cons, hat]
  congr 1
  · rw [List.filter_eq_self]
    intro e he
    obtain ⟨i, hi, rfl⟩ := List.getElem_of_mem he
    rw [List.length_take] at hi
    have := eBe_lt (lbE_lt (es := es) (a := a) (b := b) (i := i) (by omega))
    rw [List.getElem_take]
    simpa [List.getD, (by omega : i < es.length)] using this
  · simp only [Bool.not_true, Bool.false_eq_true, if_false]
    rw [List.filter_eq_self]
    intro e he
    obtain ⟨i, hi, rfl⟩ := List.getElem_of_mem he
    rw [List.length_drop] at hi
    have ho := gVal_sorted hg (show lbE es a b < lbE es a b + 1 + i by omega) (by omega)
    rw [List.getElem_drop]
    unfold eBe at hat ⊢
    simp only [Bool.and_eq_true, decide_eq_true_eq] at hat
    unfold EdLt at ho
    have e1 : es.getD (lbE es a b + 1 + i) (0, 0, 0) = es[lbE es a b + 1 + i] := by simp [List.getD, (by omega : lbE es a b + 1 + i < es.length)]
    rw [e1] at ho
    by_cases h1 : es[lbE es a b + 1 + i].1 = a <;> by_cases h2 : es[lbE es a b + 1 + i].2.1 = b <;> simp [h1, h2] <;> omega

set_option maxRecDepth 100000 in
set_option maxHeartbeats 1000000 in
theorem sCutEdge (n : Int) (es : List Ed) (x y : Int) (s : Value) (w : World) (hs : RowE w s es) (hl : es.length ≤ 1048576) :
    Calls Try.prog 17 #[.agg #[.int .i64 n, s], .int .i64 x, .int .i64 y] w fun e w' => ∃ v, e = .returned (.tuple #[.agg #[.int .i64 (kN n es x y), v], .bool (kB n es x y)]) ∧ OwnE w w' v (kR n es x y) ∧ okS v ∧ Below w.heap.size w w' := by
  have hl2 : es.length ≤ 281474976710656 := by omega
  obtain ⟨ad, cap, hs0, hz0⟩ := id hs
  subst hs0
  have hgv := fun w h => sGraphValid n es (.slice ad es.length cap) w h hl2
  have hlf := fun w h => l2Find n es x y (.slice ad es.length cap) w h hl
  have hcu := fun w h => l2Cut n es x y (.slice ad es.length cap) w h hl
  have R := Lib.hid (InR.of_edges hs)
  clear hz0 hs
  cases hg : gVal n es
  · have e0 : kB n es x y = false := by unfold kB; rw [hg]; rfl
    have e1 : kN n es x y = 0 := by unfold kN; rw [e0]; rfl
    have e2 : kR n es x y = [] := by unfold kR; rw [e0]; rfl
    rw [e0, e1, e2]
    rw [hg] at hgv
    have HV := Lib.hid hgv
    clear hgv e0 e1 e2 hlf hcu
    obtain ⟨w0, hw0⟩ : ∃ w0, w0 = w := ⟨_, rfl⟩
    subst hw0
    have H0 := Below.refl w0.heap.size w0
    have R_0 := R
    clear R
    go_enter Try.func17, Try.ntmps17
    go_wp2_with fail
    have hb1 : Below w0.heap.size w0 ((w0.alloc (.cells #[.int .i64 n, .slice ad es.length cap] 30)).alloc (.cells #[.int .i64 0, .slice none 0 0] 30)) := ((Below.refl _ _).alloc (by simp <;> omega) _).alloc (by simp <;> omega) _
    have H1 := bel_trans H0 hb1
    have SZ1 := Lib.hid hb1.size
    have R_1 := Lib.hid (R_0.out.keep hb1)
    have qg0_1 : ((w0.alloc (.cells #[.int .i64 n, .slice ad es.length cap] 30)).alloc (.cells #[.int .i64 0, .slice none 0 0] 30)).cell? ⟨w0.heap.size, 0, none⟩ = some (.int .i64 n) := by go_simp
    have qg1_1 : ((w0.alloc (.cells #[.int .i64 n, .slice ad es.length cap] 30)).alloc (.cells #[.int .i64 0, .slice none 0 0] 30)).cell? ⟨w0.heap.size, 1, none⟩ = some (.slice ad es.length cap) := by go_simp
    have zg_1 : w0.heap.size < ((w0.alloc (.cells #[.int .i64 n, .slice ad es.length cap] 30)).alloc (.cells #[.int .i64 0, .slice none 0 0] 30)).heap.size := by simp <;> omega
    have frr0_1 : ((w0.alloc (.cells #[.int .i64 n, .slice ad es.length cap] 30)).alloc (.cells #[.int .i64 0, .slice none 0 0] 30)).frozen? ⟨w0.heap.size + 1, 0, none⟩ = false := by go_simp
    have frr1_1 : ((w0.alloc (.cells #[.int .i64 n, .slice ad es.length cap] 30)).alloc (.cells #[.int .i64 0, .slice none 0 0] 30)).frozen? ⟨w0.heap.size + 1, 1, none⟩ = false := by go_simp
    have qr0_1 : ((w0.alloc (.cells #[.int .i64 n, .slice ad es.length cap] 30)).alloc (.cells #[.int .i64 0, .slice none 0 0] 30)).cell? ⟨w0.heap.size + 1, 0, none⟩ = some (.int .i64 0) := by go_simp
    have qr1_1 : ((w0.alloc (.cells #[.int .i64 n, .slice ad es.length cap] 30)).alloc (.cells #[.int .i64 0, .slice none 0 0] 30)).cell? ⟨w0.heap.size + 1, 1, none⟩ = some (.slice none 0 0) := by go_simp
    have zr_1 : w0.heap.size + 1 < ((w0.alloc (.cells #[.int .i64 n, .slice ad es.length cap] 30)).alloc (.cells #[.int .i64 0, .slice none 0 0] 30)).heap.size := by simp <;> omega
    generalize ((w0.alloc (.cells #[.int .i64 n, .slice ad es.length cap] 30)).alloc (.cells #[.int .i64 0, .slice none 0 0] 30)) = w1 at hb1 H1 SZ1 R_1 frr0_1 frr1_1 qg0_1 qg1_1 qr0_1 qr1_1 zg_1 zr_1 ⊢
    have ZBg := Lib.hid zg_1
    have ZBr := Lib.hid zr_1
    clear R_0
    refine (HV.out _ R_1.out.edges).mono ?_
    rintro e w2 ⟨rfl, hb2⟩
    have H2 := bel_trans H1 hb2
    have SZ2 := Lib.hid hb2.size
    have qg0_2 := (hb2.cell (p := ⟨w0.heap.size, 0, none⟩) zg_1).trans qg0_1
    have qg1_2 := (hb2.cell (p := ⟨w0.heap.size, 1, none⟩) zg_1).trans qg1_1
    have zg_2 := Nat.lt_of_lt_of_le zg_1 hb2.size
    have qr0_2 := (hb2.cell (p := ⟨w0.heap.size + 1, 0, none⟩) zr_1).trans qr0_1
    have frr0_2 := (hb2.frozen (p := ⟨w0.heap.size + 1, 0, none⟩) zr_1).trans frr0_1
    have qr1_2 := (hb2.cell (p := ⟨w0.heap.size + 1, 1, none⟩) zr_1).trans qr1_1
    have frr1_2 := (hb2.frozen (p := ⟨w0.heap.size + 1, 1, none⟩) zr_1).trans frr1_1
    have zr_2 := Nat.lt_of_lt_of_le zr_1 hb2.size
    have R_2 := Lib.hid (R_1.out.keep hb2)
    clear R_1 qg0_1 qg1_1 zg_1 frr0_1 frr1_1 qr0_1 qr1_1 zr_1
    go_wp2
    try simp only [Exit.inBlock, Exit.then]
    refine bodyPost_ret (v := .tuple #[.agg #[.int .i64 0, .slice none 0 0], .bool false]) ?_ rfl ?_
    · rw [results_cell_tmp rfl]
      go_simp
    exact ⟨_, rfl, ownE_nil _ _, okS_nil, (H2.setCell (by have := ZBr.out; simp only; omega) _).setCell (by have := ZBr.out; simp only; omega) _⟩
  rw [hg] at hgv
  have HV := Lib.hid hgv
  cases hfd : fdE es x y
  · have e0 : kB n es x y = false := by unfold kB; rw [hfd, hg]; rfl
    have e1 : kN n es x y = 0 := by unfold kN; rw [e0]; rfl
    have e2 : kR n es x y = [] := by unfold kR; rw [e0]; rfl
    have e3 : lfE es x y = -1 := by rw [lfE_val hg, hfd]; rfl
    rw [e0, e1, e2]
    rw [e3] at hlf
    have HE := Lib.hid hlf
    clear hgv e0 e1 e2 hlf hcu e3
    obtain ⟨w0, hw0⟩ : ∃ w0, w0 = w := ⟨_, rfl⟩
    subst hw0
    have H0 := Below.refl w0.heap.size w0
    have R_0 := R
    clear R
    go_enter Try.func17, Try.ntmps17
    go_wp2_with fail
    have hb1 : Below w0.heap.size w0 ((w0.alloc (.cells #[.int .i64 n, .slice ad es.length cap] 30)).alloc (.cells #[.int .i64 0, .slice none 0 0] 30)) := ((Below.refl _ _).alloc (by simp <;> omega) _).alloc (by simp <;> omega) _
    have H1 := bel_trans H0 hb1
    have SZ1 := Lib.hid hb1.size
    have R_1 := Lib.hid (R_0.out.keep hb1)
    have qg0_1 : ((w0.alloc (.cells #[.int .i64 n, .slice ad es.length cap] 30)).alloc (.cells #[.int .i64 0, .slice none 0 0] 30)).cell? ⟨w0.heap.size, 0, none⟩ = some (.int .i64 n) := by go_simp
    have qg1_1 : ((w0.alloc (.cells #[.int .i64 n, .slice ad es.length cap] 30)).alloc (.cells #[.int .i64 0, .slice none 0 0] 30)).cell? ⟨w0.heap.size, 1, none⟩ = some (.slice ad es.length cap) := by go_simp
    have zg_1 : w0.heap.size < ((w0.alloc (.cells #[.int .i64 n, .slice ad es.length cap] 30)).alloc (.cells #[.int .i64 0, .slice none 0 0] 30)).heap.size := by simp <;> omega
    have frr0_1 : ((w0.alloc (.cells #[.int .i64 n, .slice ad es.length cap] 30)).alloc (.cells #[.int .i64 0, .slice none 0 0] 30)).frozen? ⟨w0.heap.size + 1, 0, none⟩ = false := by go_simp
    have frr1_1 : ((w0.alloc (.cells #[.int .i64 n, .slice ad es.length cap] 30)).alloc (.cells #[.int .i64 0, .slice none 0 0] 30)).frozen? ⟨w0.heap.size + 1, 1, none⟩ = false := by go_simp
    have qr0_1 : ((w0.alloc (.cells #[.int .i64 n, .slice ad es.length cap] 30)).alloc (.cells #[.int .i64 0, .slice none 0 0] 30)).cell? ⟨w0.heap.size + 1, 0, none⟩ = some (.int .i64 0) := by go_simp
    have qr1_1 : ((w0.alloc (.cells #[.int .i64 n, .slice ad es.length cap] 30)).alloc (.cells #[.int .i64 0, .slice none 0 0] 30)).cell? ⟨w0.heap.size + 1, 1, none⟩ = some (.slice none 0 0) := by go_simp
    have zr_1 : w0.heap.size + 1 < ((w0.alloc (.cells #[.int .i64 n, .slice ad es.length cap] 30)).alloc (.cells #[.int .i64 0, .slice none 0 0] 30)).heap.size := by simp <;> omega
    generalize ((w0.alloc (.cells #[.int .i64 n, .slice ad es.length cap] 30)).alloc (.cells #[.int .i64 0, .slice none 0 0] 30)) = w1 at hb1 H1 SZ1 R_1 frr0_1 frr1_1 qg0_1 qg1_1 qr0_1 qr1_1 zg_1 zr_1 ⊢
    have ZBg := Lib.hid zg_1
    have ZBr := Lib.hid zr_1
    clear R_0
    refine (HV.out _ R_1.out.edges).mono ?_
    rintro e w2 ⟨rfl, hb2⟩
    have H2 := bel_trans H1 hb2
    have SZ2 := Lib.hid hb2.size
    have qg0_2 := (hb2.cell (p := ⟨w0.heap.size, 0, none⟩) zg_1).trans qg0_1
    have qg1_2 := (hb2.cell (p := ⟨w0.heap.size, 1, none⟩) zg_1).trans qg1_1
    have zg_2 := Nat.lt_of_lt_of_le zg_1 hb2.size
    have qr0_2 := (hb2.cell (p := ⟨w0.heap.size + 1, 0, none⟩) zr_1).trans qr0_1
    have frr0_2 := (hb2.frozen (p := ⟨w0.heap.size + 1, 0, none⟩) zr_1).trans frr0_1
    have qr1_2 := (hb2.cell (p := ⟨w0.heap.size + 1, 1, none⟩) zr_1).trans qr1_1
    have frr1_2 := (hb2.frozen (p := ⟨w0.heap.size + 1, 1, none⟩) zr_1).trans frr1_1
    have zr_2 := Nat.lt_of_lt_of_le zr_1 hb2.size
    have R_2 := Lib.hid (R_1.out.keep hb2)
    clear R_1 qg0_1 qg1_1 zg_1 frr0_1 frr1_1 qr0_1 qr1_1 zr_1
    go_wp2_with fail
    refine (HE.out _ R_2.out.edges).mono ?_
    rintro e w3 ⟨rfl, hb3⟩
    have H3 := bel_trans H2 hb3
    have SZ3 := Lib.hid hb3.size
    have qg0_3 := (hb3.cell (p := ⟨w0.heap.size, 0, none⟩) zg_2).trans qg0_2
    have qg1_3 := (hb3.cell (p := ⟨w0.heap.size, 1, none⟩) zg_2).trans qg1_2
    have zg_3 := Nat.lt_of_lt_of_le zg_2 hb3.size
    have qr0_3 := (hb3.cell (p := ⟨w0.heap.size + 1, 0, none⟩) zr_2).trans qr0_2
    have frr0_3 := (hb3.frozen (p := ⟨w0.heap.size + 1, 0, none⟩) zr_2).trans frr0_2
    have qr1_3 := (hb3.cell (p := ⟨w0.heap.size + 1, 1, none⟩) zr_2).trans qr1_2
    have frr1_3 := (hb3.frozen (p := ⟨w0.heap.size + 1, 1, none⟩) zr_2).trans frr1_2
    have zr_3 := Nat.lt_of_lt_of_le zr_2 hb3.size
    have R_3 := Lib.hid (R_2.out.keep hb3)
    clear qg0_2 qg1_2 zg_2 qr0_2 frr0_2 qr1_2 frr1_2 zr_2 R_2
    go_wp2
    try simp only [Exit.inBlock, Exit.then]
    refine bodyPost_ret (v := .tuple #[.agg #[.int .i64 0, .slice none 0 0], .bool false]) ?_ rfl ?_
    · rw [results_cell_tmp rfl]
      go_simp
    exact ⟨_, rfl, ownE_nil _ _, okS_nil, (H3.setCell (by have := ZBr.out; simp only; omega) _).setCell (by have := ZBr.out; simp only; omega) _⟩
  have e0 : kB n es x y = true := by unfold kB; rw [hfd, hg]; rfl
  have e1 : kN n es x y = n := by unfold kN; rw [e0]; rfl
  have e2 : kR n es x y = cutL es x y := by unfold kR; rw [e0, cutL_val hg hfd]; rfl
  have e3 : lfE es x y = lbE es x y := by rw [lfE_val hg, hfd]; rfl
  rw [e0, e1, e2]
  rw [e3] at hlf
  generalize lbE es x y = p at hlf
  have HE := Lib.hid hlf
  have HC := Lib.hid hcu
  have hneg : decide ((p : Int) < 0) = false := decide_eq_false (by omega)
  have hneg2 : ¬ ((p : Int) < 0) := by omega
  clear hgv e0 e1 e2 hlf hcu e3
  obtain ⟨w0, hw0⟩ : ∃ w0, w0 = w := ⟨_, rfl⟩
  subst hw0
  have H0 := Below.refl w0.heap.size w0
  have R_0 := R
  clear R
  go_enter Try.func17, Try.ntmps17
  go_wp2_with fail
  have hb1 : Below w0.heap.size w0 ((w0.alloc (.cells #[.int .i64 n, .slice ad es.length cap] 30)).alloc (.cells #[.int .i64 0, .slice none 0 0] 30)) := ((Below.refl _ _).alloc (by simp <;> omega) _).alloc (by simp <;> omega) _
  have H1 := bel_trans H0 hb1
  have SZ1 := Lib.hid hb1.size
  have R_1 := Lib.hid (R_0.out.keep hb1)
  have qg0_1 : ((w0.alloc (.cells #[.int .i64 n, .slice ad es.length cap] 30)).alloc (.cells #[.int .i64 0, .slice none 0 0] 30)).cell? ⟨w0.heap.size, 0, none⟩ = some (.int .i64 n) := by go_simp
  have qg1_1 : ((w0.alloc (.cells #[.int .i64 n, .slice ad es.length cap] 30)).alloc (.cells #[.int .i64 0, .slice none 0 0] 30)).cell? ⟨w0.heap.size, 1, none⟩ = some (.slice ad es.length cap) := by go_simp
  have zg_1 : w0.heap.size < ((w0.alloc (.cells #[.int .i64 n, .slice ad es.length cap] 30)).alloc (.cells #[.int .i64 0, .slice none 0 0] 30)).heap.size := by simp <;> omega
  have frr0_1 : ((w0.alloc (.cells #[.int .i64 n, .slice ad es.length cap] 30)).alloc (.cells #[.int .i64 0, .slice none 0 0] 30)).frozen? ⟨w0.heap.size + 1, 0, none⟩ = false := by go_simp
  have frr1_1 : ((w0.alloc (.cells #[.int .i64 n, .slice ad es.length cap] 30)).alloc (.cells #[.int .i64 0, .slice none 0 0] 30)).frozen? ⟨w0.heap.size + 1, 1, none⟩ = false := by go_simp
  have qr0_1 : ((w0.alloc (.cells #[.int .i64 n, .slice ad es.length cap] 30)).alloc (.cells #[.int .i64 0, .slice none 0 0] 30)).cell? ⟨w0.heap.size + 1, 0, none⟩ = some (.int .i64 0) := by go_simp
  have qr1_1 : ((w0.alloc (.cells #[.int .i64 n, .slice ad es.length cap] 30)).alloc (.cells #[.int .i64 0, .slice none 0 0] 30)).cell? ⟨w0.heap.size + 1, 1, none⟩ = some (.slice none 0 0) := by go_simp
  have zr_1 : w0.heap.size + 1 < ((w0.alloc (.cells #[.int .i64 n, .slice ad es.length cap] 30)).alloc (.cells #[.int .i64 0, .slice none 0 0] 30)).heap.size := by simp <;> omega
  generalize ((w0.alloc (.cells #[.int .i64 n, .slice ad es.length cap] 30)).alloc (.cells #[.int .i64 0, .slice none 0 0] 30)) = w1 at hb1 H1 SZ1 R_1 frr0_1 frr1_1 qg0_1 qg1_1 qr0_1 qr1_1 zg_1 zr_1 ⊢
  have ZBg := Lib.hid zg_1
  have ZBr := Lib.hid zr_1
  clear R_0
  refine (HV.out _ R_1.out.edges).mono ?_
  rintro e w2 ⟨rfl, hb2⟩
  have H2 := bel_trans H1 hb2
  have SZ2 := Lib.hid hb2.size
  have qg0_2 := (hb2.cell (p := ⟨w0.heap.size, 0, none⟩) zg_1).trans qg0_1
  have qg1_2 := (hb2.cell (p := ⟨w0.heap.size, 1, none⟩) zg_1).trans qg1_1
  have zg_2 := Nat.lt_of_lt_of_le zg_1 hb2.size
  have qr0_2 := (hb2.cell (p := ⟨w0.heap.size + 1, 0, none⟩) zr_1).trans qr0_1
  have frr0_2 := (hb2.frozen (p := ⟨w0.heap.size + 1, 0, none⟩) zr_1).trans frr0_1
  have qr1_2 := (hb2.cell (p := ⟨w0.heap.size + 1, 1, none⟩) zr_1).trans qr1_1
  have frr1_2 := (hb2.frozen (p := ⟨w0.heap.size + 1, 1, none⟩) zr_1).trans frr1_1
  have zr_2 := Nat.lt_of_lt_of_le zr_1 hb2.size
  have R_2 := Lib.hid (R_1.out.keep hb2)
  clear R_1 qg0_1 qg1_1 zg_1 frr0_1 frr1_1 qr0_1 qr1_1 zr_1
  go_wp2_with fail
  refine (HE.out _ R_2.out.edges).mono ?_
  rintro e w3 ⟨rfl, hb3⟩
  have H3 := bel_trans H2 hb3
  have SZ3 := Lib.hid hb3.size
  have qg0_3 := (hb3.cell (p := ⟨w0.heap.size, 0, none⟩) zg_2).trans qg0_2
  have qg1_3 := (hb3.cell (p := ⟨w0.heap.size, 1, none⟩) zg_2).trans qg1_2
  have zg_3 := Nat.lt_of_lt_of_le zg_2 hb3.size
  have qr0_3 := (hb3.cell (p := ⟨w0.heap.size + 1, 0, none⟩) zr_2).trans qr0_2
  have frr0_3 := (hb3.frozen (p := ⟨w0.heap.size + 1, 0, none⟩) zr_2).trans frr0_2
  have qr1_3 := (hb3.cell (p := ⟨w0.heap.size + 1, 1, none⟩) zr_2).trans qr1_2
  have frr1_3 := (hb3.frozen (p := ⟨w0.heap.size + 1, 1, none⟩) zr_2).trans frr1_2
  have zr_3 := Nat.lt_of_lt_of_le zr_2 hb3.size
  have R_3 := Lib.hid (R_2.out.keep hb3)
  clear qg0_2 qg1_2 zg_2 qr0_2 frr0_2 qr1_2 frr1_2 zr_2 R_2
  go_wp2_with fail
  refine (HC.out _ R_3.out.edges).mono ?_
  rintro e w4 ⟨v, rfl, hown, hokv, hb4⟩
  have H4 := bel_trans H3 hb4
  have SZ4 := Lib.hid hb4.size
  have qg0_4 := (hb4.cell (p := ⟨w0.heap.size, 0, none⟩) zg_3).trans qg0_3
  have qg1_4 := (hb4.cell (p := ⟨w0.heap.size, 1, none⟩) zg_3).trans qg1_3
  have zg_4 := Nat.lt_of_lt_of_le zg_3 hb4.size
  have qr0_4 := (hb4.cell (p := ⟨w0.heap.size + 1, 0, none⟩) zr_3).trans qr0_3
  have frr0_4 := (hb4.frozen (p := ⟨w0.heap.size + 1, 0, none⟩) zr_3).trans frr0_3
  have qr1_4 := (hb4.cell (p := ⟨w0.heap.size + 1, 1, none⟩) zr_3).trans qr1_3
  have frr1_4 := (hb4.frozen (p := ⟨w0.heap.size + 1, 1, none⟩) zr_3).trans frr1_3
  have zr_4 := Nat.lt_of_lt_of_le zr_3 hb4.size
  have R_4 := Lib.hid (R_3.out.keep hb4)
  obtain ⟨va, vc, rfl, hvz⟩ := id hown
  clear hvz
  have V_4 := Lib.hid (hown)
  clear qg0_3 qg1_3 zg_3 qr0_3 frr0_3 qr1_3 frr1_3 zr_3 R_3
  clear hown
  go_wp2
  try simp only [Exit.inBlock, Exit.then]
  refine bodyPost_ret (v := .tuple #[.agg #[.int .i64 n, .slice va (cutL es x y).length vc], .bool true]) ?_ rfl ?_
  · rw [results_cell_tmp rfl]
    go_simp
  have hch : Chg (w0.heap.size + 1) (w0.heap.size + 2) w4 ((w4.setCell ⟨w0.heap.size + 1, 0, none⟩ (.int .i64 n)).setCell ⟨w0.heap.size + 1, 1, none⟩ (.slice va (cutL es x y).length vc)) := ((Chg.refl _ _ _).setCell (by simp only; omega) (by simp only; omega) _).setCell (by simp only; omega) (by simp only; omega) _
  exact ⟨.slice va (cutL es x y).length vc, rfl, ((V_4.out.chg hch (.inl (by have := ZBr.out; have := SZ3.out; have := SZ2.out; omega))).wider (by have := SZ3.out; have := SZ2.out; have := SZ1.out; omega) (by simp) (Nat.le_refl _)), hokv, bel_chg H4 hch (by omega)⟩
end Go.Proofs.Ytddpljalojcomab
