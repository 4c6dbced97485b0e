/-
  Proved: net changes of net changes are themselves, and no two of them are of the same edge (the law FnNetTwice returns true for every input and leaves it as it was), with no further condition.
-/
import Derived.Test.YtbhhbhopogkmnaaRows
import Derived.Test.YtbhhbhopogkmnaaChgH
import Derived.Test.YtbhhbhopogkmnaaChgQ
import Derived.Test.YtbhhbhopogkmnaaCase9
import Derived.Test.YtbhhbhopogkmnaaGvChg
import Derived.Test.YtbhhbhopogkmnaaEdgeM
import Derived.WalkKit
import Derived.ProofKit
import Derived.OpenShut
import Derived.ShutString
import Derived.ChangeOld
import Derived.Below
namespace Go.Proofs.Ytbhhbhopogkmnaa.fnNetTwice
open Go.Proofs.Ytbhhbhopogkmnaa Go.BigFrame
open Go.ChangeShapes Go.WideShapes Go.ChangeAt Go.RowKit
open Go.ChangeMaps (open_string shut_string)
set_option linter.unusedVariables false

theorem own : ownKnob Try.prog.godebug = none := by kernel_rfl
theorem laidOut : laidOutB Try.prog = true := by kernel_rfl

def IsRow (k : IntKind) (w : World) (a : Option Addr) (len cap : Nat) (zs : List Int) : Prop :=
  (a = none ∧ len = 0 ∧ cap = 0 ∧ zs = []) ∨
  ∃ x, a = some x ∧ len ≤ cap ∧ cap ≤ maxLen ∧ zs.length = cap ∧ (∀ i, i < zs.length → w.cell? (x.add i) = some (.int k (zs.getD i 0))) ∧ ∀ n ∈ zs, (Lit.int k n).wf = true

theorem bytes_of {w : World} {a : Option Addr} {len cap : Nat} {zs : List Int} (h : IsRow .u8 w a len cap zs) : Bytes w a len ∧ len ≤ cap ∧ len ≤ 9223372036854775807 := by
  rcases h with ⟨rfl, rfl, rfl, rfl⟩ | ⟨x, rfl, hl, hm, hz, hc, hw⟩
  · exact ⟨.inl rfl, Nat.le_refl _, by omega⟩
  · unfold maxLen at hm
    refine ⟨?_, hl, by omega⟩
    by_cases h0 : len = 0
    · exact .inl h0
    · obtain ⟨b, off, rfl, hc'⟩ := ints_at hc (by omega)
      exact .inr ⟨b, off, rfl, World.block_lt_of_cell? _ _ (hc' 0 (by omega)), fun i hi => ⟨zs[i]?.getD 0, (range_u8 hw i).1, (range_u8 hw i).2, hc' i (by omega)⟩⟩

theorem ends_at {N : List Ch} (h : (N.map endsC).Nodup) {k j : Nat} (hk : k < N.length) (hj : j < k) : ¬ ((N.getD k chZ).2.1 = (N.getD j chZ).2.1 ∧ (N.getD k chZ).2.2.1 = (N.getD j chZ).2.2.1) := by
  rintro ⟨h1, h2⟩
  have hj2 : j < N.length := by omega
  have hp := List.pairwise_iff_getElem.1 h j k (by simpa using hj2) (by simpa using hk) hj
  apply hp
  have h1' : N[k].2.1 = N[j].2.1 := by simpa [List.getD, hk, hj2] using h1
  have h2' : N[k].2.2.1 = N[j].2.2.1 := by simpa [List.getD, hk, hj2] using h2
  simp only [List.getElem_map, endsC]
  rw [h1', h2']
theorem walk (a0 : Option Addr) (len0 cap0 : Nat) (z0 : List Int) (w : World) (w0 : IsRow .u8 w a0 len0 cap0 z0) :
    Calls Try.prog 8 #[.slice a0 len0 cap0] w fun e w' => e = .returned (.bool true) ∧ Below w.heap.size w w' := by
  obtain ⟨hby, hcp, hn⟩ := bytes_of w0
  have HB0 := Lib.hid hby
  clear hby w0
  by_cases h0 : 1048576 < len0
  · go_enter Try.func8, Try.ntmps8
    go_wp2
    go_ret
    exact ⟨rfl, Below.refl _ _⟩
  have h0' : len0 ≤ 1048576 := by omega
  clear h0
  obtain ⟨w0, hw0⟩ : ∃ w0, w0 = w := ⟨_, rfl⟩
  subst hw0
  have H0 := Below.refl w0.heap.size w0
  go_enter Try.func8, Try.ntmps8
  go_wp2_with fail
  refine (dDrawNetChanges a0 len0 cap0 _ HB0.out hcp (by omega)).mono ?_
  rintro e w1 ⟨n, es, v, cs, t, rfl, ⟨hl1, hl2⟩, ⟨hrow, hok⟩, ⟨hrowc, hokc⟩, hb1⟩
  have H1 := bel_trans H0 hb1
  have SZ1 := Lib.hid hb1.size
  obtain ⟨va, vc, rfl, hz9⟩ := id hrow
  obtain ⟨ta, tc, rfl, hz8⟩ := id hrowc
  have HOKG := Lib.hid hok
  have HOKC := Lib.hid hokc
  clear hz9 hz8 hok hokc
  have C_1 := Lib.hid (show InR true w1 w0.heap.size w1.heap.size _ cs.length 4 (cellCh cs) from hrowc)
  clear hrowc
  have G_1 := Lib.hid (hrow)
  clear hrow
  go_wp2_with fail
  have hb2 : Below w1.heap.size w1 (w1.alloc (.cells #[.int .i64 n, .slice va es.length vc] 34)) := (Below.refl _ _).alloc (by simp <;> omega) _
  have H2 := bel_trans H1 hb2
  have SZ2 := Lib.hid hb2.size
  have G_2 := Lib.hid (G_1.out.keep hb2)
  have C_2 := Lib.hid (C_1.out.keep hb2)
  have qg0_2 : (w1.alloc (.cells #[.int .i64 n, .slice va es.length vc] 34)).cell? ⟨w1.heap.size, 0, none⟩ = some (.int .i64 n) := by go_simp
  have qg1_2 : (w1.alloc (.cells #[.int .i64 n, .slice va es.length vc] 34)).cell? ⟨w1.heap.size, 1, none⟩ = some (.slice va es.length vc) := by go_simp
  have zg_2 : w1.heap.size < (w1.alloc (.cells #[.int .i64 n, .slice va es.length vc] 34)).heap.size := by simp <;> omega
  generalize (w1.alloc (.cells #[.int .i64 n, .slice va es.length vc] 34)) = w2 at hb2 H2 SZ2 C_2 G_2 qg0_2 qg1_2 zg_2 ⊢
  have ZBg := Lib.hid zg_2
  clear C_1 G_1
  have hle2 : es.length ≤ 1048576 := by omega
  have hle3 : cs.length ≤ 1048576 := by omega
  have hst := fun s t w (h1 : RowE w s es) (h2 : RowCh w t cs) (k : okS s) => netChanges n es cs s t w h1 h2 k hle2 hle3
  have hss := fun s t w (h1 : RowE w s es) (h2 : RowCh w t cs) (k : okS s) => sNetChanges n es cs s t w h1 h2 k hle2 hle3
  cases hk : apB n es cs
  · rw [show netR n es cs = [] by unfold netR; rw [hk]; rfl, hk] at hst hss
    have HST := Lib.hid hst
    have HSS := Lib.hid hss
    clear hst hss hk
    go_wp2_with fail
    refine (HST.out _ _ _ G_2.out.edges C_2.out.changes HOKG.out).mono ?_
    rintro e w3 ⟨vx, rfl, howx, hokx, hb3⟩
    have H3 := bel_trans H2 hb3
    have SZ3 := Lib.hid hb3.size
    have qg0_3 := (hb3.cell (p := ⟨w1.heap.size, 0, none⟩) zg_2).trans qg0_2
    have qg1_3 := (hb3.cell (p := ⟨w1.heap.size, 1, none⟩) zg_2).trans qg1_2
    have zg_3 := Nat.lt_of_lt_of_le zg_2 hb3.size
    have G_3 := Lib.hid (G_2.out.keep hb3)
    have C_3 := Lib.hid (C_2.out.keep hb3)
    obtain ⟨ax, cx, rfl, hz9⟩ := id howx
    have HOKx := Lib.hid hokx
    clear hz9 hokx
    have X_3 := Lib.hid (show InR true w3 w2.heap.size w3.heap.size _ ([] : List Ch).length 4 (cellCh ([] : List Ch)) from howx)
    clear qg1_2 G_2 qg0_2 zg_2 C_2
    clear howx
    go_wp2_with fail
    refine (HSS.out _ _ _ G_3.out.edges C_3.out.changes HOKG.out).mono ?_
    rintro e w4 ⟨vu, rfl, howu, hoku, hb4⟩
    have H4 := bel_trans H3 hb4
    have SZ4 := Lib.hid hb4.size
    have qg0_4 := (hb4.cell (p := ⟨w1.heap.size, 0, none⟩) zg_3).trans qg0_3
    have qg1_4 := (hb4.cell (p := ⟨w1.heap.size, 1, none⟩) zg_3).trans qg1_3
    have zg_4 := Nat.lt_of_lt_of_le zg_3 hb4.size
    have G_4 := Lib.hid (G_3.out.keep hb4)
    have C_4 := Lib.hid (C_3.out.keep hb4)
    have X_4 := Lib.hid (X_3.out.keep hb4)
    obtain ⟨au, cu, rfl, hz9⟩ := id howu
    have HOKu := Lib.hid hoku
    clear hz9 hoku
    have U_4 := Lib.hid (show InR true w4 w3.heap.size w4.heap.size _ ([] : List Ch).length 4 (cellCh ([] : List Ch)) from howu)
    clear qg0_3 qg1_3 zg_3 G_3 C_3 X_3
    clear howu
    go_wp2_with fail
    refine (gvChanges ([] : List Ch) _ _ _ X_4.out.changes U_4.out.changes (by first | omega | simp)).mono ?_
    rintro e w5 ⟨rfl, hb5⟩
    have H5 := bel_trans H4 hb5
    have SZ5 := Lib.hid hb5.size
    have qg0_5 := (hb5.cell (p := ⟨w1.heap.size, 0, none⟩) zg_4).trans qg0_4
    have qg1_5 := (hb5.cell (p := ⟨w1.heap.size, 1, none⟩) zg_4).trans qg1_4
    have zg_5 := Nat.lt_of_lt_of_le zg_4 hb5.size
    have G_5 := Lib.hid (G_4.out.keep hb5)
    have C_5 := Lib.hid (C_4.out.keep hb5)
    have X_5 := Lib.hid (X_4.out.keep hb5)
    have U_5 := Lib.hid (U_4.out.keep hb5)
    clear qg0_4 qg1_4 zg_4 G_4 C_4 X_4 U_4
    go_wp2_with fail
    refine (gvChanges ([] : List Ch) _ _ _ X_5.out.changes U_5.out.changes (by first | omega | simp)).mono ?_
    rintro e w6 ⟨rfl, hb6⟩
    have H6 := bel_trans H5 hb6
    have SZ6 := Lib.hid hb6.size
    have qg0_6 := (hb6.cell (p := ⟨w1.heap.size, 0, none⟩) zg_5).trans qg0_5
    have qg1_6 := (hb6.cell (p := ⟨w1.heap.size, 1, none⟩) zg_5).trans qg1_5
    have zg_6 := Nat.lt_of_lt_of_le zg_5 hb6.size
    have G_6 := Lib.hid (G_5.out.keep hb6)
    have C_6 := Lib.hid (C_5.out.keep hb6)
    have X_6 := Lib.hid (X_5.out.keep hb6)
    have U_6 := Lib.hid (U_5.out.keep hb6)
    clear qg0_5 qg1_5 zg_5 G_5 C_5 X_5 U_5
    go_wp2
    go_ret
    exact ⟨rfl, H6⟩
  · rw [show netR n es cs = dfL es (apR n es cs) by unfold netR; rw [if_pos hk], hk] at hst hss
    obtain ⟨p1, p2, p3⟩ := net_ok hk
    have hnd := dfL_nodup (apB_out hk).2.1 (apR_val hk)
    generalize apR n es cs = R at *
    obtain ⟨N, hN⟩ : ∃ N, N = dfL es R := ⟨_, rfl⟩
    rw [← hN] at hst hss p1 p2 p3 hnd
    have hnl : N.length ≤ 1048576 := by omega
    have hb := fun s t w (h1 : RowE w s es) (h2 : RowCh w t N) (k : okS s) => netChanges n es N s t w h1 h2 k hle2 hnl
    rw [show netR n es N = N by unfold netR; rw [if_pos p1, p2, ← hN], p1] at hb
    have hd := fun (k j : Nat) hk hj => ends_at hnd (k := k) (j := j) hk hj
    have HST := Lib.hid hst
    have HSS := Lib.hid hss
    have HB := Lib.hid hb
    have HD := Lib.hid hd
    clear hst hss hb hd hnd hN p1 p2 p3 hk
    go_wp2_with fail
    refine (HST.out _ _ _ G_2.out.edges C_2.out.changes HOKG.out).mono ?_
    rintro e w3 ⟨vx, rfl, howx, hokx, hb3⟩
    have H3 := bel_trans H2 hb3
    have SZ3 := Lib.hid hb3.size
    have qg0_3 := (hb3.cell (p := ⟨w1.heap.size, 0, none⟩) zg_2).trans qg0_2
    have qg1_3 := (hb3.cell (p := ⟨w1.heap.size, 1, none⟩) zg_2).trans qg1_2
    have zg_3 := Nat.lt_of_lt_of_le zg_2 hb3.size
    have G_3 := Lib.hid (G_2.out.keep hb3)
    have C_3 := Lib.hid (C_2.out.keep hb3)
    obtain ⟨ax, cx, rfl, hz9⟩ := id howx
    have HOKx := Lib.hid hokx
    clear hz9 hokx
    have X_3 := Lib.hid (show InR true w3 w2.heap.size w3.heap.size _ N.length 4 (cellCh N) from howx)
    clear qg1_2 G_2 qg0_2 zg_2 C_2
    clear howx
    go_wp2_with fail
    refine (HSS.out _ _ _ G_3.out.edges C_3.out.changes HOKG.out).mono ?_
    rintro e w4 ⟨vu, rfl, howu, hoku, hb4⟩
    have H4 := bel_trans H3 hb4
    have SZ4 := Lib.hid hb4.size
    have qg0_4 := (hb4.cell (p := ⟨w1.heap.size, 0, none⟩) zg_3).trans qg0_3
    have qg1_4 := (hb4.cell (p := ⟨w1.heap.size, 1, none⟩) zg_3).trans qg1_3
    have zg_4 := Nat.lt_of_lt_of_le zg_3 hb4.size
    have G_4 := Lib.hid (G_3.out.keep hb4)
    have C_4 := Lib.hid (C_3.out.keep hb4)
    have X_4 := Lib.hid (X_3.out.keep hb4)
    obtain ⟨au, cu, rfl, hz9⟩ := id howu
    have HOKu := Lib.hid hoku
    clear hz9 hoku
    have U_4 := Lib.hid (show InR true w4 w3.heap.size w4.heap.size _ N.length 4 (cellCh N) from howu)
    clear qg0_3 qg1_3 zg_3 G_3 C_3 X_3
    clear howu
    go_wp2_with fail
    refine (gvChanges N _ _ _ X_4.out.changes U_4.out.changes (by first | omega | simp)).mono ?_
    rintro e w5 ⟨rfl, hb5⟩
    have H5 := bel_trans H4 hb5
    have SZ5 := Lib.hid hb5.size
    have qg0_5 := (hb5.cell (p := ⟨w1.heap.size, 0, none⟩) zg_4).trans qg0_4
    have qg1_5 := (hb5.cell (p := ⟨w1.heap.size, 1, none⟩) zg_4).trans qg1_4
    have zg_5 := Nat.lt_of_lt_of_le zg_4 hb5.size
    have G_5 := Lib.hid (G_4.out.keep hb5)
    have C_5 := Lib.hid (C_4.out.keep hb5)
    have X_5 := Lib.hid (X_4.out.keep hb5)
    have U_5 := Lib.hid (U_4.out.keep hb5)
    clear qg0_4 qg1_4 zg_4 G_4 C_4 X_4 U_4
    go_wp2_with fail
    refine (HB.out _ _ _ G_5.out.edges X_5.out.changes HOKG.out).mono ?_
    rintro e w6 ⟨vp, rfl, howp, hokp, hb6⟩
    have H6 := bel_trans H5 hb6
    have SZ6 := Lib.hid hb6.size
    have qg0_6 := (hb6.cell (p := ⟨w1.heap.size, 0, none⟩) zg_5).trans qg0_5
    have qg1_6 := (hb6.cell (p := ⟨w1.heap.size, 1, none⟩) zg_5).trans qg1_5
    have zg_6 := Nat.lt_of_lt_of_le zg_5 hb6.size
    have G_6 := Lib.hid (G_5.out.keep hb6)
    have C_6 := Lib.hid (C_5.out.keep hb6)
    have X_6 := Lib.hid (X_5.out.keep hb6)
    have U_6 := Lib.hid (U_5.out.keep hb6)
    obtain ⟨ap, cp, rfl, hz9⟩ := id howp
    have HOKp := Lib.hid hokp
    clear hz9 hokp
    have P_6 := Lib.hid (show InR true w6 w5.heap.size w6.heap.size _ N.length 4 (cellCh N) from howp)
    clear qg0_5 qg1_5 zg_5 G_5 C_5 X_5 U_5
    clear howp
    go_wp2_with fail
    go_loopw [11] (fun c wr => ∃ k : Nat, k ≤ N.length ∧ c = .int .i64 k ∧ Hid (Below w6.heap.size w6 wr)) (fun c _ => N.length - (intOf c).toNat)
    case atStart => exact ⟨0, Nat.zero_le _, rfl, Lib.hid (Below.refl _ _)⟩
    case round =>
      obtain ⟨k, hk, rfl, HBW⟩ := hrel
      by_cases hlt : k < N.length
      · have hlt' : (k : Int) < N.length := by omega
        go_wp2_with fail
        go_loopw [12] (fun c wr => ∃ j : Nat, j ≤ k ∧ c = .int .i64 j ∧ Hid (Below w6.heap.size w6 wr)) (fun c _ => k - (intOf c).toNat)
        case atStart => exact ⟨0, Nat.zero_le _, rfl, HBW⟩
        case round =>
          obtain ⟨j, hj, rfl, HBJ⟩ := hrel
          by_cases hjl : j < k
          · have hjl' : (j : Int) < k := by omega
            obtain ⟨b, off, cp, hs1, hb, hc⟩ := (X_6.out.changes.keep HBJ.out).at hlt
            injection hs1 with hs1 _ hs3
            subst hs1 hs3
            have h1 := hc k hlt
            have h2 := hc j (by omega)
            have hd := HD.out k j hlt hjl
            obtain ⟨q, x, y, z, hx⟩ : ∃ q x y z, (q, x, y, z) = N.getD k chZ := ⟨_, _, _, _, rfl⟩
            obtain ⟨q2, x2, y2, z2, hx2⟩ : ∃ q x y z, (q, x, y, z) = N.getD j chZ := ⟨_, _, _, _, rfl⟩
            rw [← hx] at h1 hd
            rw [← hx2] at h2 hd
            simp only at h1 h2 hd
            have c1 := h1.2.1
            have c2 := h1.2.2.1
            have c3 := h2.2.1
            have c4 := h2.2.2.1
            have hjn : j < N.length := by omega
            have hjn' : (j : Int) < N.length := by omega
            have HD2 := Lib.hid hd
            clear hc h1 h2 hd hx hx2
            by_cases e1 : x = x2
            · have e2 : ¬ y = y2 := fun h => HD2.out ⟨e1, h⟩
              clear HD2
              subst e1
              have d2 : (y == y2) = false := by simpa using e2
              go_wp2
              go_quiet (fail)
              go_wp2
              go_roundw
              case rel => first | exact ⟨j + 1, by omega, by go_num, Lib.hid (below_drewN0 HBJ.out _)⟩ | exact ⟨_, ⟨j + 1, by omega, by go_num, Lib.hid (below_drewN0 HBJ.out _)⟩, rfl⟩
              case measure => simp [intOf]; omega
            · clear HD2
              have d1 : (x == x2) = false := by simpa using e1
              go_wp2
              go_quiet (fail)
              go_wp2
              go_roundw
              case rel => first | exact ⟨j + 1, by omega, by go_num, Lib.hid (below_drewN0 HBJ.out _)⟩ | exact ⟨_, ⟨j + 1, by omega, by go_num, Lib.hid (below_drewN0 HBJ.out _)⟩, rfl⟩
              case measure => simp [intOf]; omega
          · have hje : j = k := by omega
            have hjj : ¬ ((j : Int) < k) := by omega
            clear hjl
            go_wp2
            go_roundw
            case rel => first | exact ⟨k + 1, by omega, by go_num, HBJ⟩ | exact ⟨_, ⟨k + 1, by omega, by go_num, HBJ⟩, rfl⟩
            case measure => simp [intOf]; omega
      · have hke : k = N.length := by omega
        have hkk : ¬ ((k : Int) < N.length) := by omega
        clear hlt
        go_wp2_with fail
        refine (gvChanges N _ _ _ (P_6.out.changes.keep HBW.out) (X_6.out.changes.keep HBW.out) (by omega)).mono ?_
        rintro e w9 ⟨rfl, hb9⟩
        go_wp2
        go_ret
        exact ⟨rfl, bel_trans (bel_trans H6 HBW.out) hb9⟩

set_option maxRecDepth 100000 in
theorem lifted (os : Os) (started : os.Started) (H : Type) (enc : TypeId × Value → H) :
    ReturnsInHanded {} Try.checked os 8 .any (Rows.fnNetTwiceSpec.pre6 enc Try.prog Try.f8 Rows.fnNetTwiceRow.domain false) (Rows.fnNetTwiceSpec.post enc Try.prog Try.f8 false true false false) := by
  refine returnsInHanded_of_change (C := Try.checked) own started (by kernel_rfl) Try.func8
    (ChangeSpec.witness6 (enc := enc) (C := Try.checked) false ⟨#[], #[.slice none 0 0], []⟩ 8 (by kernel_rfl) (by kernel_rfl) (by kernel_rfl) (by kernel_rfl)) ?_
  intro W base args ds gs before hval0 hW hcnd _
  have hval : ∀ (j : Nat) t v, Try.f8.params[j]? = some t → args[j]? = some v → Value.okWide Try.prog W .any base t v := hval0
  have hW' := hW
  obtain ⟨p, q, hA0, hV, rfl, hfz, hnd⟩ := hW
  have hA : DataW.TrodAll enc Try.prog W 0 (fun _ => true) true Try.f8.params.toList args.toList ds p := hA0
  rw [Try.params8] at hA hval
  obtain ⟨v0, vs0, d0, ds0, p0, q0, hargs, rfl, rfl, h0, r0⟩ := trodAll_cons hA
  obtain ⟨rfl, rfl, rfl⟩ := trodAll_nil r0
  obtain rfl : args = #[v0] := by cases args; simp_all
  obtain ⟨rfl, rfl⟩ := trodVars_none hV
  obtain ⟨a0, len0, cap0, rfl⟩ := okWide_slice Try.underlying22 (hval 0 22 v0 rfl rfl)
  have k0 := h0
  have lt0 : ∀ x ∈ p0, x.block < W.heap.size := by obtain ⟨m, hm⟩ := k0; exact DataW.trod_lt m _ _ _ hm
  obtain ⟨z0, w0⟩ : ∃ zs, IsRow .u8 W a0 len0 cap0 zs := by
    obtain ⟨fuel, hf⟩ := h0
    rcases open_ints Try.underlying22 Try.underlying5 (by kernel_rfl) hf with ⟨hcs, _⟩ | ⟨x, l, c, zs, hcs, _, hl, hm, hz, _, hcell, hwz⟩
    · simp [Value.cells] at hcs
      obtain ⟨rfl, rfl, rfl⟩ := hcs
      exact ⟨[], .inl ⟨rfl, rfl, rfl, rfl⟩⟩
    · simp [Value.cells] at hcs
      obtain ⟨rfl, rfl, rfl⟩ := hcs
      exact ⟨zs, .inr ⟨_, rfl, hl, hm, by simpa using hz, hcell, hwz⟩⟩
  clear hA0 hval0
  refine (walk a0 len0 cap0 z0 W w0).mono fun e W' ⟨he, bel⟩ => ?_
  subst he
  exact ⟨_, rfl, _, _, _, [], _, [], hW', trodAll_mk1 (shut_bool Try.underlying4 _), (trodAll_cons_mk (Below.trod laidOut (by kernel_rfl) (of_decide_eq_true (by kernel_rfl)) k0 bel lt0) trodAll_mk0), rfl, bel.frame _, fun h => by cases h⟩

theorem over : Rows.fnNetTwiceRow.holds Try.pinned (OpenSpec.ofChange Rows.fnNetTwiceSpec) :=
  OpenClaim.holds_of_wide 8 Try.f8 rfl rfl rfl rfl rfl rfl rfl ⟨rfl, rfl, rfl, rfl, rfl⟩ rfl rfl rfl rfl rfl (by kernel_rfl) Try.func8 (by kernel_rfl)
    (of_decide_eq_true (by kernel_rfl)) (by unfold Func.isWrapper; first | (rw [if_pos (by decide +kernel)]; kernel_rfl) | (rw [if_neg (by decide +kernel)]; exact ⟨rfl, rfl⟩))
    (fun os started H enc _ => lifted os started H enc)

theorem proved : Rows.FnNetTwiceSaid := over
end Go.Proofs.Ytbhhbhopogkmnaa.fnNetTwice
