/-
  Proved: as many fair rounds as the view needs rounds make the start values right, whichever kind (the law FnFairSchedule returns true for every input and leaves it as it was), with no further condition.
-/
import Derived.Test.YtnomlefjldfgiaaRows
import Derived.Test.YtnomlefjldfgiaaDrawF
import Derived.Test.YtnomlefjldfgiaaDrawsP
import Derived.Test.YtnomlefjldfgiaaFairV
import Derived.Test.YtnomlefjldfgiaaRunU
import Derived.Test.YtnomlefjldfgiaaRight
import Derived.Test.YtnomlefjldfgiaaViewT
import Derived.Test.YtnomlefjldfgiaaImpl2
import Derived.Test.YtnomlefjldfgiaaStartL
import Derived.Test.YtnomlefjldfgiaaRoundsOf
import Derived.WalkKit
import Derived.ProofKit
import Derived.OpenShut
import Derived.ShutString
import Derived.ChangeOld
import Derived.Below
namespace Go.Proofs.Ytnomlefjldfgiaa.fnFairSchedule
open Go.Proofs.Ytnomlefjldfgiaa Go.BigFrame
open Go.ChangeShapes Go.WideShapes Go.ChangeAt Go.RowKit
open Go.ChangeMaps (open_string shut_string)
set_option linter.unusedVariables false

theorem own : ownKnob Try.prog.godebug = none := by kernel_rfl
theorem laidOut : laidOutB Try.prog = true := by kernel_rfl

def IsRow (k : IntKind) (w : World) (a : Option Addr) (len cap : Nat) (zs : List Int) : Prop :=
  (a = none ∧ len = 0 ∧ cap = 0 ∧ zs = []) ∨
  ∃ x, a = some x ∧ len ≤ cap ∧ cap ≤ maxLen ∧ zs.length = cap ∧ (∀ i, i < zs.length → w.cell? (x.add i) = some (.int k (zs.getD i 0))) ∧ ∀ n ∈ zs, (Lit.int k n).wf = true

theorem bytes_of {w : World} {a : Option Addr} {len cap : Nat} {zs : List Int} (h : IsRow .u8 w a len cap zs) : Bytes w a len ∧ len ≤ cap ∧ len ≤ 9223372036854775807 := by
  rcases h with ⟨rfl, rfl, rfl, rfl⟩ | ⟨x, rfl, hl, hm, hz, hc, hw⟩
  · exact ⟨.inl rfl, Nat.le_refl _, by omega⟩
  · unfold maxLen at hm
    refine ⟨?_, hl, by omega⟩
    by_cases h0 : len = 0
    · exact .inl h0
    · obtain ⟨b, off, rfl, hc'⟩ := ints_at hc (by omega)
      exact .inr ⟨b, off, rfl, World.block_lt_of_cell? _ _ (hc' 0 (by omega)), fun i hi => ⟨zs[i]?.getD 0, (range_u8 hw i).1, (range_u8 hw i).2, hc' i (by omega)⟩⟩

theorem walk (a0 : Option Addr) (len0 cap0 : Nat) (z0 : List Int) (w : World) (w0 : IsRow .u8 w a0 len0 cap0 z0) :
    Calls Try.prog 4 #[.slice a0 len0 cap0] w fun e w' => e = .returned (.bool true) ∧ Below w.heap.size w w' := by
  obtain ⟨hby, hcp, hn⟩ := bytes_of w0
  have HB0 := Lib.hid hby
  clear hby w0
  by_cases h0 : 1048576 < len0
  · go_enter Try.func4, Try.ntmps4
    go_wp2
    go_ret
    exact ⟨rfl, Below.refl _ _⟩
  have h0' : len0 ≤ 1048576 := by omega
  clear h0
  obtain ⟨w0, hw0⟩ : ∃ w0, w0 = w := ⟨_, rfl⟩
  subst hw0
  have H0 := Below.refl w0.heap.size w0
  go_enter Try.func4, Try.ntmps4
  go_wp2_with fail
  refine (dDrawFairRounds a0 len0 cap0 _ HB0.out hcp (by omega)).mono ?_
  rintro e w1 ⟨n, es, gs, os, us, rfl, hle, hrG, hrO, hb1⟩
  have H1 := bel_trans H0 hb1
  have SZ1 := Lib.hid hb1.size
  obtain ⟨va, vc, rfl, hz9⟩ := id hrG.1
  obtain ⟨oa, oc, rfl, hz8⟩ := id hrO.1
  clear hz9 hz8
  have G_1 := Lib.hid (hrG.1)
  have O_1 := Lib.hid hrO.1
  have hle1 := hle.1
  have hle2 := hle.2
  clear hrG hrO hle
  go_wp2_with fail
  have hb2 : Below w1.heap.size w1 (w1.alloc (.cells #[.int .i64 n, .slice va es.length vc] 25)) := (Below.refl _ _).alloc (by simp <;> omega) _
  have H2 := bel_trans H1 hb2
  have SZ2 := Lib.hid hb2.size
  have G_2 := Lib.hid (G_1.out.keep hb2)
  have O_2 := Lib.hid (O_1.out.keep hb2)
  have qg0_2 : (w1.alloc (.cells #[.int .i64 n, .slice va es.length vc] 25)).cell? ⟨w1.heap.size, 0, none⟩ = some (.int .i64 n) := by go_simp
  have qg1_2 : (w1.alloc (.cells #[.int .i64 n, .slice va es.length vc] 25)).cell? ⟨w1.heap.size, 1, none⟩ = some (.slice va es.length vc) := by go_simp
  have zg_2 : w1.heap.size < (w1.alloc (.cells #[.int .i64 n, .slice va es.length vc] 25)).heap.size := by simp <;> omega
  generalize (w1.alloc (.cells #[.int .i64 n, .slice va es.length vc] 25)) = w2 at hb2 H2 SZ2 G_2 O_2 qg0_2 qg1_2 zg_2 ⊢
  have ZBg := Lib.hid zg_2
  clear G_1 O_1
  have hlE : es.length ≤ 281474976710656 := by omega
  have hlO : os.length ≤ 281474976710656 := by omega
  have hst := fun s t w (h : RowE w s es) (k : Row w t os) => fairRounds n es os s t w h k hlE hlO
  have hss := fun s t w (h : RowE w s es) (k : Row w t os) => sFairRounds n es os s t w h k hlE hlO
  cases hk : frB n es os
  · rw [show frN n es os = 0 by unfold frN; rw [hk]; rfl, hk] at hst hss
    have HST := Lib.hid hst
    have HSS := Lib.hid hss
    clear hst hss hk
    go_wp2_with fail
    refine (HST.out _ _ _ G_2.out.edges O_2.out.rowI).mono ?_
    rintro e w3 ⟨rfl, hb3⟩
    have H3 := bel_trans H2 hb3
    have SZ3 := Lib.hid hb3.size
    have qg0_3 := (hb3.cell (p := ⟨w1.heap.size, 0, none⟩) zg_2).trans qg0_2
    have qg1_3 := (hb3.cell (p := ⟨w1.heap.size, 1, none⟩) zg_2).trans qg1_2
    have zg_3 := Nat.lt_of_lt_of_le zg_2 hb3.size
    have G_3 := Lib.hid (G_2.out.keep hb3)
    have O_3 := Lib.hid (O_2.out.keep hb3)
    clear zg_2 O_2 qg0_2 G_2 qg1_2
    go_wp2_with fail
    refine (HSS.out _ _ _ G_3.out.edges O_3.out.rowI).mono ?_
    rintro e w4 ⟨rfl, hb4⟩
    have H4 := bel_trans H3 hb4
    have SZ4 := Lib.hid hb4.size
    have qg0_4 := (hb4.cell (p := ⟨w1.heap.size, 0, none⟩) zg_3).trans qg0_3
    have qg1_4 := (hb4.cell (p := ⟨w1.heap.size, 1, none⟩) zg_3).trans qg1_3
    have zg_4 := Nat.lt_of_lt_of_le zg_3 hb4.size
    have G_4 := Lib.hid (G_3.out.keep hb4)
    have O_4 := Lib.hid (O_3.out.keep hb4)
    clear qg0_3 qg1_3 zg_3 G_3 O_3
    go_wp2
    go_ret
    exact ⟨by first | rfl | simp, H4⟩
  · obtain ⟨hg, hO⟩ : gVal n es = true ∧ oOk es.length os = true := by unfold frB at hk; exact Bool.and_eq_true_iff.1 hk
    rw [show frN n es os = (fr es.length os).n by unfold frN; rw [if_pos hk], hk] at hst hss
    clear hk
    obtain ⟨hn1, hn2, -⟩ := gVal_n hg
    obtain ⟨N, hN⟩ : ∃ N : Nat, n = N := ⟨n.toNat, by omega⟩
    subst hN
    have h0N : 0 < N := by omega
    have hN12 : N ≤ 12 := by omega
    obtain ⟨R, hR⟩ : ∃ R, R = (fr es.length os).n := ⟨_, rfl⟩
    rw [← hR] at hst hss
    have HST := Lib.hid hst
    have HSS := Lib.hid hss
    have HRR := Lib.hid hR
    have HOO := Lib.hid hO
    have HGG := Lib.hid hg
    clear hst hss hR hO hg hn1 hn2
    go_wp2_with fail
    refine (HST.out _ _ _ G_2.out.edges O_2.out.rowI).mono ?_
    rintro e w3 ⟨rfl, hb3⟩
    have H3 := bel_trans H2 hb3
    have SZ3 := Lib.hid hb3.size
    have qg0_3 := (hb3.cell (p := ⟨w1.heap.size, 0, none⟩) zg_2).trans qg0_2
    have qg1_3 := (hb3.cell (p := ⟨w1.heap.size, 1, none⟩) zg_2).trans qg1_2
    have zg_3 := Nat.lt_of_lt_of_le zg_2 hb3.size
    have G_3 := Lib.hid (G_2.out.keep hb3)
    have O_3 := Lib.hid (O_2.out.keep hb3)
    clear zg_2 O_2 qg0_2 G_2 qg1_2
    go_wp2_with fail
    refine (HSS.out _ _ _ G_3.out.edges O_3.out.rowI).mono ?_
    rintro e w4 ⟨rfl, hb4⟩
    have H4 := bel_trans H3 hb4
    have SZ4 := Lib.hid hb4.size
    have qg0_4 := (hb4.cell (p := ⟨w1.heap.size, 0, none⟩) zg_3).trans qg0_3
    have qg1_4 := (hb4.cell (p := ⟨w1.heap.size, 1, none⟩) zg_3).trans qg1_3
    have zg_4 := Nat.lt_of_lt_of_le zg_3 hb4.size
    have G_4 := Lib.hid (G_3.out.keep hb4)
    have O_4 := Lib.hid (O_3.out.keep hb4)
    clear qg0_3 qg1_3 zg_3 G_3 O_3
    go_wp2_with fail
    go_loopw [9] (fun c wr => ∃ k : Nat, 1 ≤ k ∧ k ≤ 6 ∧ c = .int .i64 k ∧ Hid (Below w4.heap.size w4 wr)) (fun c _ => 6 - (intOf c).toNat)
    case atStart => exact ⟨1, by omega, by omega, rfl, Lib.hid (Below.refl _ _)⟩
    case round =>
      obtain ⟨k, hk1, hk6, rfl, HBW⟩ := hrel
      by_cases hlt : k ≤ 5
      · have hlt' : (k : Int) ≤ 5 := by omega
        have hm : mKind (k : Int) = true := by
          have h9 : k = 1 ∨ k = 2 ∨ k = 3 ∨ k = 4 ∨ k = 5 := by omega
          rcases h9 with rfl | rfl | rfl | rfl | rfl <;> decide
        have honz := onOk_of (m := (k : Int)) HGG.out (show (0 : Int) ≤ 0 ∧ (0 : Int) < (N : Int) from ⟨by omega, by omega⟩) hm
        have hfv : vFirst k es N (vStart k N 0) ≤ R → vRun k es (vStart k N 0) os = vRt k N es 0 := fun h => fr_view hm HGG.out h0N HOO.out (by rw [← HRR.out]; exact h)
        have hsv := fun s w (h : RowE w s es) => startView (N : Int) k 0 es s w h hlE
        rw [show stM (N : Int) es k 0 = k by unfold stM; rw [if_pos honz], show stA (N : Int) es k 0 = 0 by unfold stA; rw [if_pos honz], show stL (N : Int) es k 0 = vStart k N 0 by unfold stL; rw [if_pos honz], honz] at hsv
        have hvo := fun s w (h : RowE w s es) => viewOf (N : Int) k 0 es s w h hlE
        rw [show stM (N : Int) es k 0 = k by unfold stM; rw [if_pos honz], show stA (N : Int) es k 0 = 0 by unfold stA; rw [if_pos honz], show voL (N : Int) es k 0 = vRt k N es 0 by unfold voL; rw [if_pos honz]; rfl, honz] at hvo
        have hro := fun s w (h : RowE w s es) => roundsOf (N : Int) k 0 es s w h hlE
        rw [show roR (N : Int) es k 0 = ((vFirst k es N (vStart k N 0) : Nat) : Int) by unfold roR; rw [if_pos honz, Int.toNat_natCast], honz] at hro
        have hlT : (vRt k N es 0).length = N := by rw [vRt_length, Int.toNat_natCast]
        have hlU : (vStart k N 0).length = N := by rw [vStart_length, Int.toNat_natCast]
        have hvU : vAll k (vStart k N 0) := vStart_all hm
        obtain ⟨U, hU⟩ : ∃ U, U = vStart k N 0 := ⟨_, rfl⟩
        obtain ⟨T, hT⟩ : ∃ T, T = vRt k N es 0 := ⟨_, rfl⟩
        rw [← hU] at hsv hro hlU hvU hfv
        rw [← hT] at hvo hlT hfv
        have hvx : vVal (N : Int) es k 0 U = true := vVal_mkF HGG.out ⟨by omega, by omega⟩ hm (by omega) hvU
        have hbx : rsB (N : Int) es k 0 U os = true := by unfold rsB; rw [hvx, HOO.out]; rfl
        have hrs := fun s t u w (h : RowE w s es) (q : Row w t U) (p : Row w u os) => runScheduleU (N : Int) k 0 es U os s t u w h q p hlE (by omega) hlO
        rw [show rsM (N : Int) es k 0 U os = k by unfold rsM; rw [if_pos hbx], show rsA (N : Int) es k 0 U os = 0 by unfold rsA; rw [if_pos hbx], show rsL (N : Int) es k 0 U os = vRun k es U os by unfold rsL; rw [if_pos hbx], hbx] at hrs
        have hlP : (vRun k es U os).length = N := by rw [vRun_length]; exact hlU
        obtain ⟨P, hP⟩ : ∃ P, P = vRun k es U os := ⟨_, rfl⟩
        obtain ⟨V, hV⟩ : ∃ V, V = vFirst k es N U := ⟨_, rfl⟩
        rw [← hP] at hrs hlP hfv
        rw [← hV] at hro hfv
        have hvs : V ≤ R → ∀ s t w (h : Row w s P) (q : Row w t T), Calls Try.prog 12 #[.agg #[.int .i64 k, .int .i64 0, s], .agg #[.int .i64 k, .int .i64 0, t]] w fun e w' => e = .returned (.bool true) ∧ Below w.heap.size w w' := fun h9 s t w h q => by
          have h8 := viewSame k 0 k 0 P T s t w h q (by omega) (by omega)
          rw [show vSame (k : Int) 0 P k 0 T = true by rw [hfv h9]; exact vSame_self _ _ _] at h8
          exact h8
        have HSV := Lib.hid hsv
        have HVO := Lib.hid hvo
        have HRO := Lib.hid hro
        have HRS := Lib.hid hrs
        have HVS := Lib.hid hvs
        have HLT := Lib.hid hlT
        have HLP := Lib.hid hlP
        have HLU := Lib.hid hlU
        clear hsv hvo hro hrs hvs hfv honz hm hlT hlP hlU hvU hvx hbx hU hT hP hV
        obtain ⟨w5, hw5⟩ : ∃ w5, w5 = wr := ⟨_, rfl⟩
        subst hw5
        have hb5 : Below w4.heap.size w4 w5 := HBW.out
        have H5 := bel_trans H4 hb5
        have SZ5 := Lib.hid hb5.size
        have qg0_5 := (hb5.cell (p := ⟨w1.heap.size, 0, none⟩) zg_4).trans qg0_4
        have qg1_5 := (hb5.cell (p := ⟨w1.heap.size, 1, none⟩) zg_4).trans qg1_4
        have zg_5 := Nat.lt_of_lt_of_le zg_4 hb5.size
        have G_5 := Lib.hid (G_4.out.keep hb5)
        have O_5 := Lib.hid (O_4.out.keep hb5)
        clear qg1_4 qg0_4 zg_4 G_4 O_4
        go_wp2_with fail
        refine (HSV.out _ _ G_5.out.edges).mono ?_
        rintro e w6 ⟨vz, rfl, howz, hokz, hb6⟩
        have H6 := bel_trans H5 hb6
        have SZ6 := Lib.hid hb6.size
        have qg0_6 := (hb6.cell (p := ⟨w1.heap.size, 0, none⟩) zg_5).trans qg0_5
        have qg1_6 := (hb6.cell (p := ⟨w1.heap.size, 1, none⟩) zg_5).trans qg1_5
        have zg_6 := Nat.lt_of_lt_of_le zg_5 hb6.size
        have G_6 := Lib.hid (G_5.out.keep hb6)
        have O_6 := Lib.hid (O_5.out.keep hb6)
        obtain ⟨az, cz, rfl, hz9⟩ := id howz
        clear hz9 hokz
        have Z_6 := Lib.hid (show InR true w6 w5.heap.size w6.heap.size _ U.length 1 (cellI U) from howz)
        clear qg0_5 qg1_5 zg_5 G_5 O_5
        clear howz
        go_wp2_with fail
        have hb7 : Below w6.heap.size w6 (w6.alloc (.cells #[.int .i64 k, .int .i64 0, .slice az U.length cz] 33)) := (Below.refl _ _).alloc (by simp <;> omega) _
        have H7 := bel_trans H6 hb7
        have SZ7 := Lib.hid hb7.size
        have qg0_7 := (hb7.cell (p := ⟨w1.heap.size, 0, none⟩) zg_6).trans qg0_6
        have qg1_7 := (hb7.cell (p := ⟨w1.heap.size, 1, none⟩) zg_6).trans qg1_6
        have zg_7 := Nat.lt_of_lt_of_le zg_6 hb7.size
        have G_7 := Lib.hid (G_6.out.keep hb7)
        have O_7 := Lib.hid (O_6.out.keep hb7)
        have Z_7 := Lib.hid (Z_6.out.keep hb7)
        have qz0_7 : (w6.alloc (.cells #[.int .i64 k, .int .i64 0, .slice az U.length cz] 33)).cell? ⟨w6.heap.size, 0, none⟩ = some (.int .i64 k) := by go_simp
        have qz1_7 : (w6.alloc (.cells #[.int .i64 k, .int .i64 0, .slice az U.length cz] 33)).cell? ⟨w6.heap.size, 1, none⟩ = some (.int .i64 0) := by go_simp
        have qz2_7 : (w6.alloc (.cells #[.int .i64 k, .int .i64 0, .slice az U.length cz] 33)).cell? ⟨w6.heap.size, 2, none⟩ = some (.slice az U.length cz) := by go_simp
        have zz_7 : w6.heap.size < (w6.alloc (.cells #[.int .i64 k, .int .i64 0, .slice az U.length cz] 33)).heap.size := by simp <;> omega
        generalize (w6.alloc (.cells #[.int .i64 k, .int .i64 0, .slice az U.length cz] 33)) = w7 at hb7 H7 SZ7 G_7 O_7 Z_7 qg0_7 qg1_7 qz0_7 qz1_7 qz2_7 zg_7 zz_7 ⊢
        have ZBz := Lib.hid zz_7
        clear qg0_6 qg1_6 zg_6 G_6 O_6 Z_6
        refine (HRS.out _ _ _ _ G_7.out.edges Z_7.out.rowI O_7.out.rowI).mono ?_
        rintro e w8 ⟨vx, rfl, howx, hokx, hb8⟩
        have H8 := bel_trans H7 hb8
        have SZ8 := Lib.hid hb8.size
        have qg0_8 := (hb8.cell (p := ⟨w1.heap.size, 0, none⟩) zg_7).trans qg0_7
        have qg1_8 := (hb8.cell (p := ⟨w1.heap.size, 1, none⟩) zg_7).trans qg1_7
        have zg_8 := Nat.lt_of_lt_of_le zg_7 hb8.size
        have qz0_8 := (hb8.cell (p := ⟨w6.heap.size, 0, none⟩) zz_7).trans qz0_7
        have qz1_8 := (hb8.cell (p := ⟨w6.heap.size, 1, none⟩) zz_7).trans qz1_7
        have qz2_8 := (hb8.cell (p := ⟨w6.heap.size, 2, none⟩) zz_7).trans qz2_7
        have zz_8 := Nat.lt_of_lt_of_le zz_7 hb8.size
        have G_8 := Lib.hid (G_7.out.keep hb8)
        have O_8 := Lib.hid (O_7.out.keep hb8)
        have Z_8 := Lib.hid (Z_7.out.keep hb8)
        obtain ⟨ax, cx, rfl, hz9⟩ := id howx
        clear hz9 hokx
        have X_8 := Lib.hid (show InR true w8 w7.heap.size w8.heap.size _ P.length 1 (cellI P) from howx)
        clear qg0_7 qg1_7 zg_7 G_7 O_7 Z_7 qz0_7 qz1_7 qz2_7 zz_7
        clear howx
        go_wp2_with fail
        have hb9 : Below w8.heap.size w8 (w8.alloc (.cells #[.int .i64 k, .int .i64 0, .slice ax P.length cx] 33)) := (Below.refl _ _).alloc (by simp <;> omega) _
        have H9 := bel_trans H8 hb9
        have SZ9 := Lib.hid hb9.size
        have qg0_9 := (hb9.cell (p := ⟨w1.heap.size, 0, none⟩) zg_8).trans qg0_8
        have qg1_9 := (hb9.cell (p := ⟨w1.heap.size, 1, none⟩) zg_8).trans qg1_8
        have zg_9 := Nat.lt_of_lt_of_le zg_8 hb9.size
        have qz0_9 := (hb9.cell (p := ⟨w6.heap.size, 0, none⟩) zz_8).trans qz0_8
        have qz1_9 := (hb9.cell (p := ⟨w6.heap.size, 1, none⟩) zz_8).trans qz1_8
        have qz2_9 := (hb9.cell (p := ⟨w6.heap.size, 2, none⟩) zz_8).trans qz2_8
        have zz_9 := Nat.lt_of_lt_of_le zz_8 hb9.size
        have G_9 := Lib.hid (G_8.out.keep hb9)
        have O_9 := Lib.hid (O_8.out.keep hb9)
        have Z_9 := Lib.hid (Z_8.out.keep hb9)
        have X_9 := Lib.hid (X_8.out.keep hb9)
        have qx0_9 : (w8.alloc (.cells #[.int .i64 k, .int .i64 0, .slice ax P.length cx] 33)).cell? ⟨w8.heap.size, 0, none⟩ = some (.int .i64 k) := by go_simp
        have qx1_9 : (w8.alloc (.cells #[.int .i64 k, .int .i64 0, .slice ax P.length cx] 33)).cell? ⟨w8.heap.size, 1, none⟩ = some (.int .i64 0) := by go_simp
        have qx2_9 : (w8.alloc (.cells #[.int .i64 k, .int .i64 0, .slice ax P.length cx] 33)).cell? ⟨w8.heap.size, 2, none⟩ = some (.slice ax P.length cx) := by go_simp
        have zx_9 : w8.heap.size < (w8.alloc (.cells #[.int .i64 k, .int .i64 0, .slice ax P.length cx] 33)).heap.size := by simp <;> omega
        generalize (w8.alloc (.cells #[.int .i64 k, .int .i64 0, .slice ax P.length cx] 33)) = w9 at hb9 H9 SZ9 G_9 O_9 X_9 Z_9 qg0_9 qg1_9 qx0_9 qx1_9 qx2_9 qz0_9 qz1_9 qz2_9 zg_9 zx_9 zz_9 ⊢
        have ZBx := Lib.hid zx_9
        clear qg0_8 qg1_8 zg_8 qz0_8 qz1_8 qz2_8 zz_8 G_8 O_8 Z_8 X_8
        refine (HVO.out _ _ G_9.out.edges).mono ?_
        rintro e w10 ⟨vy, rfl, howy, hoky, hb10⟩
        have H10 := bel_trans H9 hb10
        have SZ10 := Lib.hid hb10.size
        have qg0_10 := (hb10.cell (p := ⟨w1.heap.size, 0, none⟩) zg_9).trans qg0_9
        have qg1_10 := (hb10.cell (p := ⟨w1.heap.size, 1, none⟩) zg_9).trans qg1_9
        have zg_10 := Nat.lt_of_lt_of_le zg_9 hb10.size
        have qz0_10 := (hb10.cell (p := ⟨w6.heap.size, 0, none⟩) zz_9).trans qz0_9
        have qz1_10 := (hb10.cell (p := ⟨w6.heap.size, 1, none⟩) zz_9).trans qz1_9
        have qz2_10 := (hb10.cell (p := ⟨w6.heap.size, 2, none⟩) zz_9).trans qz2_9
        have zz_10 := Nat.lt_of_lt_of_le zz_9 hb10.size
        have qx0_10 := (hb10.cell (p := ⟨w8.heap.size, 0, none⟩) zx_9).trans qx0_9
        have qx1_10 := (hb10.cell (p := ⟨w8.heap.size, 1, none⟩) zx_9).trans qx1_9
        have qx2_10 := (hb10.cell (p := ⟨w8.heap.size, 2, none⟩) zx_9).trans qx2_9
        have zx_10 := Nat.lt_of_lt_of_le zx_9 hb10.size
        have G_10 := Lib.hid (G_9.out.keep hb10)
        have O_10 := Lib.hid (O_9.out.keep hb10)
        have Z_10 := Lib.hid (Z_9.out.keep hb10)
        have X_10 := Lib.hid (X_9.out.keep hb10)
        obtain ⟨ay, cy, rfl, hz9⟩ := id howy
        clear hz9 hoky
        have Y_10 := Lib.hid (show InR true w10 w9.heap.size w10.heap.size _ T.length 1 (cellI T) from howy)
        clear qg0_9 qg1_9 zg_9 qz0_9 qz1_9 qz2_9 zz_9 G_9 O_9 Z_9 X_9 qx0_9 qx1_9 qx2_9 zx_9
        clear howy
        go_wp2_with fail
        have hb11 : Below w10.heap.size w10 (w10.alloc (.cells #[.int .i64 k, .int .i64 0, .slice ay T.length cy] 33)) := (Below.refl _ _).alloc (by simp <;> omega) _
        have H11 := bel_trans H10 hb11
        have SZ11 := Lib.hid hb11.size
        have qg0_11 := (hb11.cell (p := ⟨w1.heap.size, 0, none⟩) zg_10).trans qg0_10
        have qg1_11 := (hb11.cell (p := ⟨w1.heap.size, 1, none⟩) zg_10).trans qg1_10
        have zg_11 := Nat.lt_of_lt_of_le zg_10 hb11.size
        have qz0_11 := (hb11.cell (p := ⟨w6.heap.size, 0, none⟩) zz_10).trans qz0_10
        have qz1_11 := (hb11.cell (p := ⟨w6.heap.size, 1, none⟩) zz_10).trans qz1_10
        have qz2_11 := (hb11.cell (p := ⟨w6.heap.size, 2, none⟩) zz_10).trans qz2_10
        have zz_11 := Nat.lt_of_lt_of_le zz_10 hb11.size
        have qx0_11 := (hb11.cell (p := ⟨w8.heap.size, 0, none⟩) zx_10).trans qx0_10
        have qx1_11 := (hb11.cell (p := ⟨w8.heap.size, 1, none⟩) zx_10).trans qx1_10
        have qx2_11 := (hb11.cell (p := ⟨w8.heap.size, 2, none⟩) zx_10).trans qx2_10
        have zx_11 := Nat.lt_of_lt_of_le zx_10 hb11.size
        have G_11 := Lib.hid (G_10.out.keep hb11)
        have O_11 := Lib.hid (O_10.out.keep hb11)
        have Z_11 := Lib.hid (Z_10.out.keep hb11)
        have X_11 := Lib.hid (X_10.out.keep hb11)
        have Y_11 := Lib.hid (Y_10.out.keep hb11)
        have qy0_11 : (w10.alloc (.cells #[.int .i64 k, .int .i64 0, .slice ay T.length cy] 33)).cell? ⟨w10.heap.size, 0, none⟩ = some (.int .i64 k) := by go_simp
        have qy1_11 : (w10.alloc (.cells #[.int .i64 k, .int .i64 0, .slice ay T.length cy] 33)).cell? ⟨w10.heap.size, 1, none⟩ = some (.int .i64 0) := by go_simp
        have qy2_11 : (w10.alloc (.cells #[.int .i64 k, .int .i64 0, .slice ay T.length cy] 33)).cell? ⟨w10.heap.size, 2, none⟩ = some (.slice ay T.length cy) := by go_simp
        have zy_11 : w10.heap.size < (w10.alloc (.cells #[.int .i64 k, .int .i64 0, .slice ay T.length cy] 33)).heap.size := by simp <;> omega
        generalize (w10.alloc (.cells #[.int .i64 k, .int .i64 0, .slice ay T.length cy] 33)) = w11 at hb11 H11 SZ11 G_11 O_11 X_11 Y_11 Z_11 qg0_11 qg1_11 qx0_11 qx1_11 qx2_11 qy0_11 qy1_11 qy2_11 qz0_11 qz1_11 qz2_11 zg_11 zx_11 zy_11 zz_11 ⊢
        have ZBy := Lib.hid zy_11
        clear qg0_10 qg1_10 zg_10 qz0_10 qz1_10 qz2_10 zz_10 qx0_10 qx1_10 qx2_10 zx_10 G_10 O_10 Z_10 X_10 Y_10
        refine (HRO.out _ _ G_11.out.edges).mono ?_
        rintro e w12 ⟨rfl, hb12⟩
        have H12 := bel_trans H11 hb12
        have SZ12 := Lib.hid hb12.size
        have qg0_12 := (hb12.cell (p := ⟨w1.heap.size, 0, none⟩) zg_11).trans qg0_11
        have qg1_12 := (hb12.cell (p := ⟨w1.heap.size, 1, none⟩) zg_11).trans qg1_11
        have zg_12 := Nat.lt_of_lt_of_le zg_11 hb12.size
        have qz0_12 := (hb12.cell (p := ⟨w6.heap.size, 0, none⟩) zz_11).trans qz0_11
        have qz1_12 := (hb12.cell (p := ⟨w6.heap.size, 1, none⟩) zz_11).trans qz1_11
        have qz2_12 := (hb12.cell (p := ⟨w6.heap.size, 2, none⟩) zz_11).trans qz2_11
        have zz_12 := Nat.lt_of_lt_of_le zz_11 hb12.size
        have qx0_12 := (hb12.cell (p := ⟨w8.heap.size, 0, none⟩) zx_11).trans qx0_11
        have qx1_12 := (hb12.cell (p := ⟨w8.heap.size, 1, none⟩) zx_11).trans qx1_11
        have qx2_12 := (hb12.cell (p := ⟨w8.heap.size, 2, none⟩) zx_11).trans qx2_11
        have zx_12 := Nat.lt_of_lt_of_le zx_11 hb12.size
        have qy0_12 := (hb12.cell (p := ⟨w10.heap.size, 0, none⟩) zy_11).trans qy0_11
        have qy1_12 := (hb12.cell (p := ⟨w10.heap.size, 1, none⟩) zy_11).trans qy1_11
        have qy2_12 := (hb12.cell (p := ⟨w10.heap.size, 2, none⟩) zy_11).trans qy2_11
        have zy_12 := Nat.lt_of_lt_of_le zy_11 hb12.size
        have G_12 := Lib.hid (G_11.out.keep hb12)
        have O_12 := Lib.hid (O_11.out.keep hb12)
        have Z_12 := Lib.hid (Z_11.out.keep hb12)
        have X_12 := Lib.hid (X_11.out.keep hb12)
        have Y_12 := Lib.hid (Y_11.out.keep hb12)
        clear qg0_11 qg1_11 zg_11 qz0_11 qz1_11 qz2_11 zz_11 qx0_11 qx1_11 qx2_11 zx_11 G_11 O_11 Z_11 X_11 Y_11 qy0_11 qy1_11 qy2_11 zy_11
        by_cases hge : V ≤ R
        · have hge' : (V : Int) ≤ (R : Int) := by omega
          go_wp2_with fail
          refine (HVS.out hge _ _ _ X_12.out.rowI Y_12.out.rowI).mono ?_
          rintro e w13 ⟨rfl, hb13⟩
          have H13 := bel_trans H12 hb13
          have SZ13 := Lib.hid hb13.size
          have qg0_13 := (hb13.cell (p := ⟨w1.heap.size, 0, none⟩) zg_12).trans qg0_12
          have qg1_13 := (hb13.cell (p := ⟨w1.heap.size, 1, none⟩) zg_12).trans qg1_12
          have zg_13 := Nat.lt_of_lt_of_le zg_12 hb13.size
          have qz0_13 := (hb13.cell (p := ⟨w6.heap.size, 0, none⟩) zz_12).trans qz0_12
          have qz1_13 := (hb13.cell (p := ⟨w6.heap.size, 1, none⟩) zz_12).trans qz1_12
          have qz2_13 := (hb13.cell (p := ⟨w6.heap.size, 2, none⟩) zz_12).trans qz2_12
          have zz_13 := Nat.lt_of_lt_of_le zz_12 hb13.size
          have qx0_13 := (hb13.cell (p := ⟨w8.heap.size, 0, none⟩) zx_12).trans qx0_12
          have qx1_13 := (hb13.cell (p := ⟨w8.heap.size, 1, none⟩) zx_12).trans qx1_12
          have qx2_13 := (hb13.cell (p := ⟨w8.heap.size, 2, none⟩) zx_12).trans qx2_12
          have zx_13 := Nat.lt_of_lt_of_le zx_12 hb13.size
          have qy0_13 := (hb13.cell (p := ⟨w10.heap.size, 0, none⟩) zy_12).trans qy0_12
          have qy1_13 := (hb13.cell (p := ⟨w10.heap.size, 1, none⟩) zy_12).trans qy1_12
          have qy2_13 := (hb13.cell (p := ⟨w10.heap.size, 2, none⟩) zy_12).trans qy2_12
          have zy_13 := Nat.lt_of_lt_of_le zy_12 hb13.size
          have G_13 := Lib.hid (G_12.out.keep hb13)
          have O_13 := Lib.hid (O_12.out.keep hb13)
          have Z_13 := Lib.hid (Z_12.out.keep hb13)
          have X_13 := Lib.hid (X_12.out.keep hb13)
          have Y_13 := Lib.hid (Y_12.out.keep hb13)
          clear qz1_12 qz2_12 X_12 zy_12 qy0_12 zz_12 qy2_12 qy1_12 qx2_12 qx1_12 Z_12 qz0_12 Y_12 qg0_12 zg_12 zx_12 qg1_12 G_12 qx0_12 O_12
          go_wp2
          go_roundw
          case rel => first | exact ⟨k + 1, by omega, by omega, by go_num, Lib.hid ((bel_trans (bel_trans (bel_trans (bel_trans (bel_trans (bel_trans (bel_trans (bel_trans hb5 hb6) hb7) hb8) hb9) hb10) hb11) hb12) hb13))⟩ | ((repeat apply Exists.intro); exact ⟨⟨k + 1, by omega, by omega, by go_num, Lib.hid ((bel_trans (bel_trans (bel_trans (bel_trans (bel_trans (bel_trans (bel_trans (bel_trans hb5 hb6) hb7) hb8) hb9) hb10) hb11) hb12) hb13))⟩, rfl⟩) | exact ⟨_, ⟨k + 1, by omega, by omega, by go_num, Lib.hid ((bel_trans (bel_trans (bel_trans (bel_trans (bel_trans (bel_trans (bel_trans (bel_trans hb5 hb6) hb7) hb8) hb9) hb10) hb11) hb12) hb13))⟩, rfl⟩
          case measure => simp [intOf]; omega
        · have hge' : ¬ ((V : Int) ≤ (R : Int)) := by omega
          go_wp2
          go_roundw
          case rel => first | exact ⟨k + 1, by omega, by omega, by go_num, Lib.hid ((bel_trans (bel_trans (bel_trans (bel_trans (bel_trans (bel_trans (bel_trans hb5 hb6) hb7) hb8) hb9) hb10) hb11) hb12))⟩ | ((repeat apply Exists.intro); exact ⟨⟨k + 1, by omega, by omega, by go_num, Lib.hid ((bel_trans (bel_trans (bel_trans (bel_trans (bel_trans (bel_trans (bel_trans hb5 hb6) hb7) hb8) hb9) hb10) hb11) hb12))⟩, rfl⟩) | exact ⟨_, ⟨k + 1, by omega, by omega, by go_num, Lib.hid ((bel_trans (bel_trans (bel_trans (bel_trans (bel_trans (bel_trans (bel_trans hb5 hb6) hb7) hb8) hb9) hb10) hb11) hb12))⟩, rfl⟩
          case measure => simp [intOf]; omega
      · have hkk : ¬ ((k : Int) ≤ 5) := by omega
        go_wp2
        go_ret
        exact ⟨by first | rfl | simp, bel_trans H4 HBW.out⟩

set_option maxRecDepth 100000 in
theorem lifted (os : Os) (started : os.Started) (H : Type) (enc : TypeId × Value → H) :
    ReturnsInHanded {} Try.checked os 4 .any (Rows.fnFairScheduleSpec.pre6 enc Try.prog Try.f4 Rows.fnFairScheduleRow.domain false) (Rows.fnFairScheduleSpec.post enc Try.prog Try.f4 false true false false) := by
  refine returnsInHanded_of_change (C := Try.checked) own started (by kernel_rfl) Try.func4
    (ChangeSpec.witness6 (enc := enc) (C := Try.checked) false ⟨#[], #[.slice none 0 0], []⟩ 8 (by kernel_rfl) (by kernel_rfl) (by kernel_rfl) (by kernel_rfl)) ?_
  intro W base args ds gs before hval0 hW hcnd _
  have hval : ∀ (j : Nat) t v, Try.f4.params[j]? = some t → args[j]? = some v → Value.okWide Try.prog W .any base t v := hval0
  have hW' := hW
  obtain ⟨p, q, hA0, hV, rfl, hfz, hnd⟩ := hW
  have hA : DataW.TrodAll enc Try.prog W 0 (fun _ => true) true Try.f4.params.toList args.toList ds p := hA0
  rw [Try.params4] at hA hval
  obtain ⟨v0, vs0, d0, ds0, p0, q0, hargs, rfl, rfl, h0, r0⟩ := trodAll_cons hA
  obtain ⟨rfl, rfl, rfl⟩ := trodAll_nil r0
  obtain rfl : args = #[v0] := by cases args; simp_all
  obtain ⟨rfl, rfl⟩ := trodVars_none hV
  obtain ⟨a0, len0, cap0, rfl⟩ := okWide_slice Try.underlying22 (hval 0 22 v0 rfl rfl)
  have k0 := h0
  have lt0 : ∀ x ∈ p0, x.block < W.heap.size := by obtain ⟨m, hm⟩ := k0; exact DataW.trod_lt m _ _ _ hm
  obtain ⟨z0, w0⟩ : ∃ zs, IsRow .u8 W a0 len0 cap0 zs := by
    obtain ⟨fuel, hf⟩ := h0
    rcases open_ints Try.underlying22 Try.underlying5 (by kernel_rfl) hf with ⟨hcs, _⟩ | ⟨x, l, c, zs, hcs, _, hl, hm, hz, _, hcell, hwz⟩
    · simp [Value.cells] at hcs
      obtain ⟨rfl, rfl, rfl⟩ := hcs
      exact ⟨[], .inl ⟨rfl, rfl, rfl, rfl⟩⟩
    · simp [Value.cells] at hcs
      obtain ⟨rfl, rfl, rfl⟩ := hcs
      exact ⟨zs, .inr ⟨_, rfl, hl, hm, by simpa using hz, hcell, hwz⟩⟩
  clear hA0 hval0
  refine (walk a0 len0 cap0 z0 W w0).mono fun e W' ⟨he, bel⟩ => ?_
  subst he
  exact ⟨_, rfl, _, _, _, [], _, [], hW', trodAll_mk1 (shut_bool Try.underlying4 _), (trodAll_cons_mk (Below.trod laidOut (by kernel_rfl) (of_decide_eq_true (by kernel_rfl)) k0 bel lt0) trodAll_mk0), rfl, bel.frame _, fun h => by cases h⟩

theorem over : Rows.fnFairScheduleRow.holds Try.pinned (OpenSpec.ofChange Rows.fnFairScheduleSpec) :=
  OpenClaim.holds_of_wide 4 Try.f4 rfl rfl rfl rfl rfl rfl rfl ⟨rfl, rfl, rfl, rfl, rfl⟩ rfl rfl rfl rfl rfl (by kernel_rfl) Try.func4 (by kernel_rfl)
    (of_decide_eq_true (by kernel_rfl)) (by unfold Func.isWrapper; first | (rw [if_pos (by decide +kernel)]; kernel_rfl) | (rw [if_neg (by decide +kernel)]; exact ⟨rfl, rfl⟩))
    (fun os started H enc _ => lifted os started H enc)

theorem proved : Rows.FnFairScheduleSaid := over
end Go.Proofs.Ytnomlefjldfgiaa.fnFairSchedule
