/-
  Proved: in a right view each node that is reached, but the source, is the end of a tight edge (the law FnTightEdges returns true for every input and leaves it as it was), with no further condition.
-/
import Derived.Test.YtjcfefpcilhelaaRows
import Derived.Test.YtjcfefpcilhelaaDrawC7
import Derived.Test.YtjcfefpcilhelaaTightR
import Derived.Test.YtjcfefpcilhelaaViewT
import Derived.Test.YtjcfefpcilhelaaReachedS
import Derived.Test.YtjcfefpcilhelaaGvInts
import Derived.Test.YtjcfefpcilhelaaStartL
import Derived.WalkKit
import Derived.ProofKit
import Derived.OpenShut
import Derived.ShutString
import Derived.ChangeOld
import Derived.Below
namespace Go.Proofs.Ytjcfefpcilhelaa.fnTightEdges
open Go.Proofs.Ytjcfefpcilhelaa Go.BigFrame
open Go.ChangeShapes Go.WideShapes Go.ChangeAt Go.RowKit
open Go.ChangeMaps (open_string shut_string)
set_option linter.unusedVariables false

theorem own : ownKnob Try.prog.godebug = none := by kernel_rfl
theorem laidOut : laidOutB Try.prog = true := by kernel_rfl

def IsRow (k : IntKind) (w : World) (a : Option Addr) (len cap : Nat) (zs : List Int) : Prop :=
  (a = none ∧ len = 0 ∧ cap = 0 ∧ zs = []) ∨
  ∃ x, a = some x ∧ len ≤ cap ∧ cap ≤ maxLen ∧ zs.length = cap ∧ (∀ i, i < zs.length → w.cell? (x.add i) = some (.int k (zs.getD i 0))) ∧ ∀ n ∈ zs, (Lit.int k n).wf = true

theorem bytes_of {w : World} {a : Option Addr} {len cap : Nat} {zs : List Int} (h : IsRow .u8 w a len cap zs) : Bytes w a len ∧ len ≤ cap ∧ len ≤ 9223372036854775807 := by
  rcases h with ⟨rfl, rfl, rfl, rfl⟩ | ⟨x, rfl, hl, hm, hz, hc, hw⟩
  · exact ⟨.inl rfl, Nat.le_refl _, by omega⟩
  · unfold maxLen at hm
    refine ⟨?_, hl, by omega⟩
    by_cases h0 : len = 0
    · exact .inl h0
    · obtain ⟨b, off, rfl, hc'⟩ := ints_at hc (by omega)
      exact .inr ⟨b, off, rfl, World.block_lt_of_cell? _ _ (hc' 0 (by omega)), fun i hi => ⟨zs[i]?.getD 0, (range_u8 hw i).1, (range_u8 hw i).2, hc' i (by omega)⟩⟩

theorem walk (a0 : Option Addr) (len0 cap0 : Nat) (z0 : List Int) (w : World) (w0 : IsRow .u8 w a0 len0 cap0 z0) :
    Calls Try.prog 3 #[.slice a0 len0 cap0] w fun e w' => e = .returned (.bool true) ∧ Below w.heap.size w w' := by
  obtain ⟨hby, hcp, hn⟩ := bytes_of w0
  have HB0 := Lib.hid hby
  clear hby w0
  by_cases h0 : 1048576 < len0
  · go_enter Try.func3, Try.ntmps3
    go_wp2
    go_ret
    exact ⟨rfl, Below.refl _ _⟩
  have h0' : len0 ≤ 1048576 := by omega
  clear h0
  obtain ⟨w0, hw0⟩ : ∃ w0, w0 = w := ⟨_, rfl⟩
  subst hw0
  have H0 := Below.refl w0.heap.size w0
  go_enter Try.func3, Try.ntmps3
  go_wp2_with fail
  refine (dDrawProofOf a0 len0 cap0 _ HB0.out hcp (by omega)).mono ?_
  rintro e w1 ⟨n, es, v, m, src, rfl, hle, hrow, hok, hb1⟩
  have H1 := bel_trans H0 hb1
  have SZ1 := Lib.hid hb1.size
  obtain ⟨va, vc, rfl, hz9⟩ := id hrow
  have HOKG := Lib.hid hok
  clear hz9 hok
  have G_1 := Lib.hid (hrow)
  clear hrow
  go_wp2_with fail
  have hb2 : Below w1.heap.size w1 (w1.alloc (.cells #[.int .i64 n, .slice va es.length vc] 25)) := (Below.refl _ _).alloc (by simp <;> omega) _
  have H2 := bel_trans H1 hb2
  have SZ2 := Lib.hid hb2.size
  have G_2 := Lib.hid (G_1.out.keep hb2)
  have qg0_2 : (w1.alloc (.cells #[.int .i64 n, .slice va es.length vc] 25)).cell? ⟨w1.heap.size, 0, none⟩ = some (.int .i64 n) := by go_simp
  have qg1_2 : (w1.alloc (.cells #[.int .i64 n, .slice va es.length vc] 25)).cell? ⟨w1.heap.size, 1, none⟩ = some (.slice va es.length vc) := by go_simp
  have zg_2 : w1.heap.size < (w1.alloc (.cells #[.int .i64 n, .slice va es.length vc] 25)).heap.size := by simp <;> omega
  generalize (w1.alloc (.cells #[.int .i64 n, .slice va es.length vc] 25)) = w2 at hb2 H2 SZ2 G_2 qg0_2 qg1_2 zg_2 ⊢
  have ZBg := Lib.hid zg_2
  clear G_1
  have hle2 : es.length ≤ 1048576 := by omega
  have hle3 : es.length ≤ 281474976710656 := by omega
  have hst := fun s w (h : RowE w s es) => viewOf n m src es s w h hle3
  have hss := fun s w (h : RowE w s es) => sViewOf n m src es s w h hle3
  cases hk : onOk n es m [src]
  · rw [show stM n es m src = 0 by unfold stM; rw [hk]; rfl, show stA n es m src = 0 by unfold stA; rw [hk]; rfl, show voL n es m src = [] by unfold voL; rw [hk]; rfl, hk] at hst hss
    have hti := fun s t w (h : RowE w s es) (k : Row w t []) => tightEdges n 0 0 es [] s t w h k hle3 (by simp)
    have hts := fun s t w (h : RowE w s es) (k : Row w t []) => sTightEdges n 0 0 es [] s t w h k hle3 (by simp)
    rw [tiV_none] at hti hts
    have HST := Lib.hid hst
    have HSS := Lib.hid hss
    have HTI := Lib.hid hti
    have HTS := Lib.hid hts
    clear hst hss hti hts hk
    refine (HST.out _ _ G_2.out.edges).mono ?_
    rintro e w3 ⟨vx, rfl, howx, hokx, hb3⟩
    have H3 := bel_trans H2 hb3
    have SZ3 := Lib.hid hb3.size
    have qg0_3 := (hb3.cell (p := ⟨w1.heap.size, 0, none⟩) zg_2).trans qg0_2
    have qg1_3 := (hb3.cell (p := ⟨w1.heap.size, 1, none⟩) zg_2).trans qg1_2
    have zg_3 := Nat.lt_of_lt_of_le zg_2 hb3.size
    have G_3 := Lib.hid (G_2.out.keep hb3)
    obtain ⟨ax, cx, rfl, hz9⟩ := id howx
    clear hz9 hokx
    have X_3 := Lib.hid (show InR true w3 w2.heap.size w3.heap.size _ ([] : List Int).length 1 (cellI ([] : List Int)) from howx)
    clear zg_2 qg1_2 G_2 qg0_2
    clear howx
    go_wp2_with fail
    have hb4 : Below w3.heap.size w3 (w3.alloc (.cells #[.int .i64 0, .int .i64 0, .slice ax ([] : List Int).length cx] 30)) := (Below.refl _ _).alloc (by simp <;> omega) _
    have H4 := bel_trans H3 hb4
    have SZ4 := Lib.hid hb4.size
    have qg0_4 := (hb4.cell (p := ⟨w1.heap.size, 0, none⟩) zg_3).trans qg0_3
    have qg1_4 := (hb4.cell (p := ⟨w1.heap.size, 1, none⟩) zg_3).trans qg1_3
    have zg_4 := Nat.lt_of_lt_of_le zg_3 hb4.size
    have G_4 := Lib.hid (G_3.out.keep hb4)
    have X_4 := Lib.hid (X_3.out.keep hb4)
    have qx0_4 : (w3.alloc (.cells #[.int .i64 0, .int .i64 0, .slice ax ([] : List Int).length cx] 30)).cell? ⟨w3.heap.size, 0, none⟩ = some (.int .i64 0) := by go_simp
    have qx1_4 : (w3.alloc (.cells #[.int .i64 0, .int .i64 0, .slice ax ([] : List Int).length cx] 30)).cell? ⟨w3.heap.size, 1, none⟩ = some (.int .i64 0) := by go_simp
    have qx2_4 : (w3.alloc (.cells #[.int .i64 0, .int .i64 0, .slice ax ([] : List Int).length cx] 30)).cell? ⟨w3.heap.size, 2, none⟩ = some (.slice ax ([] : List Int).length cx) := by go_simp
    have zx_4 : w3.heap.size < (w3.alloc (.cells #[.int .i64 0, .int .i64 0, .slice ax ([] : List Int).length cx] 30)).heap.size := by simp <;> omega
    generalize (w3.alloc (.cells #[.int .i64 0, .int .i64 0, .slice ax ([] : List Int).length cx] 30)) = w4 at hb4 H4 SZ4 G_4 X_4 qg0_4 qg1_4 qx0_4 qx1_4 qx2_4 zg_4 zx_4 ⊢
    have ZBx := Lib.hid zx_4
    clear qg0_3 qg1_3 zg_3 G_3 X_3
    refine (HSS.out _ _ G_4.out.edges).mono ?_
    rintro e w5 ⟨vy, rfl, howy, hoky, hb5⟩
    have H5 := bel_trans H4 hb5
    have SZ5 := Lib.hid hb5.size
    have qg0_5 := (hb5.cell (p := ⟨w1.heap.size, 0, none⟩) zg_4).trans qg0_4
    have qg1_5 := (hb5.cell (p := ⟨w1.heap.size, 1, none⟩) zg_4).trans qg1_4
    have zg_5 := Nat.lt_of_lt_of_le zg_4 hb5.size
    have qx0_5 := (hb5.cell (p := ⟨w3.heap.size, 0, none⟩) zx_4).trans qx0_4
    have qx1_5 := (hb5.cell (p := ⟨w3.heap.size, 1, none⟩) zx_4).trans qx1_4
    have qx2_5 := (hb5.cell (p := ⟨w3.heap.size, 2, none⟩) zx_4).trans qx2_4
    have zx_5 := Nat.lt_of_lt_of_le zx_4 hb5.size
    have G_5 := Lib.hid (G_4.out.keep hb5)
    have X_5 := Lib.hid (X_4.out.keep hb5)
    obtain ⟨ay, cy, rfl, hz9⟩ := id howy
    clear hz9 hoky
    have Y_5 := Lib.hid (show InR true w5 w4.heap.size w5.heap.size _ ([] : List Int).length 1 (cellI ([] : List Int)) from howy)
    clear qg0_4 qg1_4 zg_4 G_4 X_4 qx0_4 qx1_4 qx2_4 zx_4
    clear howy
    go_wp2_with fail
    have hb6 : Below w5.heap.size w5 (w5.alloc (.cells #[.int .i64 0, .int .i64 0, .slice ay ([] : List Int).length cy] 30)) := (Below.refl _ _).alloc (by simp <;> omega) _
    have H6 := bel_trans H5 hb6
    have SZ6 := Lib.hid hb6.size
    have qg0_6 := (hb6.cell (p := ⟨w1.heap.size, 0, none⟩) zg_5).trans qg0_5
    have qg1_6 := (hb6.cell (p := ⟨w1.heap.size, 1, none⟩) zg_5).trans qg1_5
    have zg_6 := Nat.lt_of_lt_of_le zg_5 hb6.size
    have qx0_6 := (hb6.cell (p := ⟨w3.heap.size, 0, none⟩) zx_5).trans qx0_5
    have qx1_6 := (hb6.cell (p := ⟨w3.heap.size, 1, none⟩) zx_5).trans qx1_5
    have qx2_6 := (hb6.cell (p := ⟨w3.heap.size, 2, none⟩) zx_5).trans qx2_5
    have zx_6 := Nat.lt_of_lt_of_le zx_5 hb6.size
    have G_6 := Lib.hid (G_5.out.keep hb6)
    have X_6 := Lib.hid (X_5.out.keep hb6)
    have Y_6 := Lib.hid (Y_5.out.keep hb6)
    have qy0_6 : (w5.alloc (.cells #[.int .i64 0, .int .i64 0, .slice ay ([] : List Int).length cy] 30)).cell? ⟨w5.heap.size, 0, none⟩ = some (.int .i64 0) := by go_simp
    have qy1_6 : (w5.alloc (.cells #[.int .i64 0, .int .i64 0, .slice ay ([] : List Int).length cy] 30)).cell? ⟨w5.heap.size, 1, none⟩ = some (.int .i64 0) := by go_simp
    have qy2_6 : (w5.alloc (.cells #[.int .i64 0, .int .i64 0, .slice ay ([] : List Int).length cy] 30)).cell? ⟨w5.heap.size, 2, none⟩ = some (.slice ay ([] : List Int).length cy) := by go_simp
    have zy_6 : w5.heap.size < (w5.alloc (.cells #[.int .i64 0, .int .i64 0, .slice ay ([] : List Int).length cy] 30)).heap.size := by simp <;> omega
    generalize (w5.alloc (.cells #[.int .i64 0, .int .i64 0, .slice ay ([] : List Int).length cy] 30)) = w6 at hb6 H6 SZ6 G_6 X_6 Y_6 qg0_6 qg1_6 qx0_6 qx1_6 qx2_6 qy0_6 qy1_6 qy2_6 zg_6 zx_6 zy_6 ⊢
    have ZBy := Lib.hid zy_6
    clear qg0_5 qg1_5 zg_5 qx0_5 qx1_5 qx2_5 zx_5 G_5 X_5 Y_5
    go_wp2_with fail
    refine (HTI.out _ _ _ G_6.out.edges X_6.out.rowI).mono ?_
    rintro e w7 ⟨vp, rfl, howp, hb7⟩
    have H7 := bel_trans H6 hb7
    have SZ7 := Lib.hid hb7.size
    have qg0_7 := (hb7.cell (p := ⟨w1.heap.size, 0, none⟩) zg_6).trans qg0_6
    have qg1_7 := (hb7.cell (p := ⟨w1.heap.size, 1, none⟩) zg_6).trans qg1_6
    have zg_7 := Nat.lt_of_lt_of_le zg_6 hb7.size
    have qx0_7 := (hb7.cell (p := ⟨w3.heap.size, 0, none⟩) zx_6).trans qx0_6
    have qx1_7 := (hb7.cell (p := ⟨w3.heap.size, 1, none⟩) zx_6).trans qx1_6
    have qx2_7 := (hb7.cell (p := ⟨w3.heap.size, 2, none⟩) zx_6).trans qx2_6
    have zx_7 := Nat.lt_of_lt_of_le zx_6 hb7.size
    have qy0_7 := (hb7.cell (p := ⟨w5.heap.size, 0, none⟩) zy_6).trans qy0_6
    have qy1_7 := (hb7.cell (p := ⟨w5.heap.size, 1, none⟩) zy_6).trans qy1_6
    have qy2_7 := (hb7.cell (p := ⟨w5.heap.size, 2, none⟩) zy_6).trans qy2_6
    have zy_7 := Nat.lt_of_lt_of_le zy_6 hb7.size
    have G_7 := Lib.hid (G_6.out.keep hb7)
    have X_7 := Lib.hid (X_6.out.keep hb7)
    have Y_7 := Lib.hid (Y_6.out.keep hb7)
    obtain ⟨ap, cp, rfl, hz9⟩ := id howp
    clear hz9
    have P_7 := Lib.hid (howp)
    clear qg0_6 qg1_6 zg_6 qx0_6 qx1_6 qx2_6 zx_6 G_6 X_6 Y_6 qy0_6 qy1_6 qy2_6 zy_6
    clear howp
    go_wp2_with fail
    refine (HTS.out _ _ _ G_7.out.edges X_7.out.rowI).mono ?_
    rintro e w8 ⟨vq, rfl, howq, hb8⟩
    have H8 := bel_trans H7 hb8
    have SZ8 := Lib.hid hb8.size
    have qg0_8 := (hb8.cell (p := ⟨w1.heap.size, 0, none⟩) zg_7).trans qg0_7
    have qg1_8 := (hb8.cell (p := ⟨w1.heap.size, 1, none⟩) zg_7).trans qg1_7
    have zg_8 := Nat.lt_of_lt_of_le zg_7 hb8.size
    have qx0_8 := (hb8.cell (p := ⟨w3.heap.size, 0, none⟩) zx_7).trans qx0_7
    have qx1_8 := (hb8.cell (p := ⟨w3.heap.size, 1, none⟩) zx_7).trans qx1_7
    have qx2_8 := (hb8.cell (p := ⟨w3.heap.size, 2, none⟩) zx_7).trans qx2_7
    have zx_8 := Nat.lt_of_lt_of_le zx_7 hb8.size
    have qy0_8 := (hb8.cell (p := ⟨w5.heap.size, 0, none⟩) zy_7).trans qy0_7
    have qy1_8 := (hb8.cell (p := ⟨w5.heap.size, 1, none⟩) zy_7).trans qy1_7
    have qy2_8 := (hb8.cell (p := ⟨w5.heap.size, 2, none⟩) zy_7).trans qy2_7
    have zy_8 := Nat.lt_of_lt_of_le zy_7 hb8.size
    have G_8 := Lib.hid (G_7.out.keep hb8)
    have X_8 := Lib.hid (X_7.out.keep hb8)
    have Y_8 := Lib.hid (Y_7.out.keep hb8)
    have P_8 := Lib.hid (P_7.out.keep hb8)
    obtain ⟨aq, cq, rfl, hz9⟩ := id howq
    clear hz9
    have Q_8 := Lib.hid (howq)
    clear qg0_7 qg1_7 zg_7 qx0_7 qx1_7 qx2_7 zx_7 qy0_7 qy1_7 qy2_7 zy_7 G_7 X_7 Y_7 P_7
    clear howq
    go_wp2_with fail
    refine (gvInts [] _ _ _ P_8.out.ints Q_8.out.ints (by simp)).mono ?_
    rintro e w9 ⟨rfl, hb9⟩
    have H9 := bel_trans H8 hb9
    have SZ9 := Lib.hid hb9.size
    have qg0_9 := (hb9.cell (p := ⟨w1.heap.size, 0, none⟩) zg_8).trans qg0_8
    have qg1_9 := (hb9.cell (p := ⟨w1.heap.size, 1, none⟩) zg_8).trans qg1_8
    have zg_9 := Nat.lt_of_lt_of_le zg_8 hb9.size
    have qx0_9 := (hb9.cell (p := ⟨w3.heap.size, 0, none⟩) zx_8).trans qx0_8
    have qx1_9 := (hb9.cell (p := ⟨w3.heap.size, 1, none⟩) zx_8).trans qx1_8
    have qx2_9 := (hb9.cell (p := ⟨w3.heap.size, 2, none⟩) zx_8).trans qx2_8
    have zx_9 := Nat.lt_of_lt_of_le zx_8 hb9.size
    have qy0_9 := (hb9.cell (p := ⟨w5.heap.size, 0, none⟩) zy_8).trans qy0_8
    have qy1_9 := (hb9.cell (p := ⟨w5.heap.size, 1, none⟩) zy_8).trans qy1_8
    have qy2_9 := (hb9.cell (p := ⟨w5.heap.size, 2, none⟩) zy_8).trans qy2_8
    have zy_9 := Nat.lt_of_lt_of_le zy_8 hb9.size
    have G_9 := Lib.hid (G_8.out.keep hb9)
    have X_9 := Lib.hid (X_8.out.keep hb9)
    have Y_9 := Lib.hid (Y_8.out.keep hb9)
    have P_9 := Lib.hid (P_8.out.keep hb9)
    have Q_9 := Lib.hid (Q_8.out.keep hb9)
    clear qg0_8 qg1_8 zg_8 qx0_8 qx1_8 qx2_8 zx_8 qy0_8 qy1_8 qy2_8 zy_8 G_8 X_8 Y_8 P_8 Q_8
    go_wp2_with fail
    refine (HTS.out _ _ _ G_9.out.edges X_9.out.rowI).mono ?_
    rintro e w10 ⟨vr, rfl, howr, hb10⟩
    have H10 := bel_trans H9 hb10
    have SZ10 := Lib.hid hb10.size
    have qg0_10 := (hb10.cell (p := ⟨w1.heap.size, 0, none⟩) zg_9).trans qg0_9
    have qg1_10 := (hb10.cell (p := ⟨w1.heap.size, 1, none⟩) zg_9).trans qg1_9
    have zg_10 := Nat.lt_of_lt_of_le zg_9 hb10.size
    have qx0_10 := (hb10.cell (p := ⟨w3.heap.size, 0, none⟩) zx_9).trans qx0_9
    have qx1_10 := (hb10.cell (p := ⟨w3.heap.size, 1, none⟩) zx_9).trans qx1_9
    have qx2_10 := (hb10.cell (p := ⟨w3.heap.size, 2, none⟩) zx_9).trans qx2_9
    have zx_10 := Nat.lt_of_lt_of_le zx_9 hb10.size
    have qy0_10 := (hb10.cell (p := ⟨w5.heap.size, 0, none⟩) zy_9).trans qy0_9
    have qy1_10 := (hb10.cell (p := ⟨w5.heap.size, 1, none⟩) zy_9).trans qy1_9
    have qy2_10 := (hb10.cell (p := ⟨w5.heap.size, 2, none⟩) zy_9).trans qy2_9
    have zy_10 := Nat.lt_of_lt_of_le zy_9 hb10.size
    have G_10 := Lib.hid (G_9.out.keep hb10)
    have X_10 := Lib.hid (X_9.out.keep hb10)
    have Y_10 := Lib.hid (Y_9.out.keep hb10)
    have P_10 := Lib.hid (P_9.out.keep hb10)
    have Q_10 := Lib.hid (Q_9.out.keep hb10)
    obtain ⟨ar, cr, rfl, hz9⟩ := id howr
    clear hz9
    have R_10 := Lib.hid (howr)
    clear qg0_9 qg1_9 zg_9 qx0_9 qx1_9 qx2_9 zx_9 qy0_9 qy1_9 qy2_9 zy_9 G_9 X_9 Y_9 P_9 Q_9
    clear howr
    go_wp2_with fail
    refine (gvInts [] _ _ _ P_10.out.ints R_10.out.ints (by simp)).mono ?_
    rintro e w11 ⟨rfl, hb11⟩
    have H11 := bel_trans H10 hb11
    have SZ11 := Lib.hid hb11.size
    have qg0_11 := (hb11.cell (p := ⟨w1.heap.size, 0, none⟩) zg_10).trans qg0_10
    have qg1_11 := (hb11.cell (p := ⟨w1.heap.size, 1, none⟩) zg_10).trans qg1_10
    have zg_11 := Nat.lt_of_lt_of_le zg_10 hb11.size
    have qx0_11 := (hb11.cell (p := ⟨w3.heap.size, 0, none⟩) zx_10).trans qx0_10
    have qx1_11 := (hb11.cell (p := ⟨w3.heap.size, 1, none⟩) zx_10).trans qx1_10
    have qx2_11 := (hb11.cell (p := ⟨w3.heap.size, 2, none⟩) zx_10).trans qx2_10
    have zx_11 := Nat.lt_of_lt_of_le zx_10 hb11.size
    have qy0_11 := (hb11.cell (p := ⟨w5.heap.size, 0, none⟩) zy_10).trans qy0_10
    have qy1_11 := (hb11.cell (p := ⟨w5.heap.size, 1, none⟩) zy_10).trans qy1_10
    have qy2_11 := (hb11.cell (p := ⟨w5.heap.size, 2, none⟩) zy_10).trans qy2_10
    have zy_11 := Nat.lt_of_lt_of_le zy_10 hb11.size
    have G_11 := Lib.hid (G_10.out.keep hb11)
    have X_11 := Lib.hid (X_10.out.keep hb11)
    have Y_11 := Lib.hid (Y_10.out.keep hb11)
    have P_11 := Lib.hid (P_10.out.keep hb11)
    have Q_11 := Lib.hid (Q_10.out.keep hb11)
    have R_11 := Lib.hid (R_10.out.keep hb11)
    clear qg0_10 qg1_10 zg_10 qx0_10 qx1_10 qx2_10 zx_10 qy0_10 qy1_10 qy2_10 zy_10 G_10 X_10 Y_10 P_10 Q_10 R_10
    go_wp2
    go_ret
    exact ⟨by first | rfl | simp, H11⟩
  · rw [show stM n es m src = m by unfold stM; rw [if_pos hk], show stA n es m src = src by unfold stA; rw [if_pos hk], show voL n es m src = vRt m n es src by unfold voL; rw [if_pos hk]; rfl, hk] at hst hss
    obtain ⟨hgv, hsr, hmk⟩ := onOk_one3 hk
    have h12 := (gVal_iff.1 hgv).1.2.1
    have h40 := (gVal_n hgv).2.2
    obtain ⟨N, hN⟩ : ∃ N : Nat, n = N := ⟨n.toNat, by omega⟩
    subst hN
    obtain ⟨A, hA⟩ : ∃ A : Nat, src = A := ⟨src.toNat, by omega⟩
    subst hA
    have hAN : A < N := by omega
    have hN12 : N ≤ 12 := by omega
    have hea : eAll N es := by have := eAll_of hgv; rwa [Int.toNat_natCast] at this
    have hend := fun i (h : i < N) (h1 : i ≠ A) (h2 : (vRt m N es A).getD i 0 ≠ mNone m) => ti_end hmk hea hAN h h1 h2
    have hall := vRt_all (n := N) hmk (by rw [Int.toNat_natCast]; exact hea) (A : Int)
    obtain ⟨L, hL⟩ : ∃ L, L = vRt m (N : Int) es (A : Int) := ⟨_, rfl⟩
    have hlL : L.length = N := by rw [hL, vRt_length, Int.toNat_natCast]
    rw [← hL] at hst hss hend hall
    have hvx : vVal (N : Int) es m (A : Int) L = true := vVal_mkT hgv hsr hmk (by omega) hall
    have hti := fun s t w (h : RowE w s es) (k : Row w t L) => tightEdges (N : Int) m (A : Int) es L s t w h k hle3 (by omega)
    have hts := fun s t w (h : RowE w s es) (k : Row w t L) => sTightEdges (N : Int) m (A : Int) es L s t w h k hle3 (by omega)
    have hrn := fun s t w (h : RowE w s es) (k : Row w t L) => reachedNodes (N : Int) m (A : Int) es L s t w h k hle3 (by omega)
    rw [show tiV (N : Int) es m (A : Int) L = ti m es L by unfold tiV; rw [if_pos hvx]] at hti hts
    rw [show rchV (N : Int) es m (A : Int) L = rch m L by unfold rchV; rw [if_pos hvx]] at hrn
    have hta := fun k (h : k < (ti m es L).length) => ti_at h
    have hra := fun k (h : k < (rch m L).length) => rch_at2 h
    have hl1 := tiK_len m es L es.length
    have hl2 : (rch m L).length ≤ L.length := rchK_len m L L.length
    obtain ⟨P1, hP1⟩ : ∃ P, P = ti m es L := ⟨_, rfl⟩
    obtain ⟨P2, hP2⟩ : ∃ P, P = rch m L := ⟨_, rfl⟩
    rw [show tiK m es L es.length = P1 from hP1.symm] at hl1
    rw [← hP1] at hti hts hta hend
    rw [← hP2] at hrn hra hl2
    have hp1 : P1.length ≤ 40 := by omega
    have hp2 : P2.length ≤ 12 := by omega
    have hin : ∀ k, k < P2.length → P2.getD k 0 ≠ (A : Int) → inL (enL es P1 P1.length) (P2.getD k 0) = true := fun k h h1 => by
      obtain ⟨i, h2, h3, h4⟩ := hra k h
      rw [h2] at h1 ⊢
      exact hend i (by omega) (by omega) h4
    have hta2 : ∀ k, k < P1.length → ∃ i : Nat, i < es.length ∧ P1.getD k 0 = (i : Int) := fun k h => by obtain ⟨i, h1, h2, _⟩ := hta k h; exact ⟨i, h1, h2⟩
    have HST := Lib.hid hst
    have HSS := Lib.hid hss
    have HTI := Lib.hid hti
    have HTS := Lib.hid hts
    have HRN := Lib.hid hrn
    have HIN := Lib.hid hin
    have HTA := Lib.hid hta2
    have HPA := Lib.hid hp1
    have HPB := Lib.hid hp2
    have HLL := Lib.hid hlL
    clear hst hss hti hts hrn hin hta hta2 hra hl1 hl2 hp1 hp2 hlL hP1 hP2 hend hall hL hvx hea hgv hsr hmk hk h12 h40
    refine (HST.out _ _ G_2.out.edges).mono ?_
    rintro e w3 ⟨vx, rfl, howx, hokx, hb3⟩
    have H3 := bel_trans H2 hb3
    have SZ3 := Lib.hid hb3.size
    have qg0_3 := (hb3.cell (p := ⟨w1.heap.size, 0, none⟩) zg_2).trans qg0_2
    have qg1_3 := (hb3.cell (p := ⟨w1.heap.size, 1, none⟩) zg_2).trans qg1_2
    have zg_3 := Nat.lt_of_lt_of_le zg_2 hb3.size
    have G_3 := Lib.hid (G_2.out.keep hb3)
    obtain ⟨ax, cx, rfl, hz9⟩ := id howx
    clear hz9 hokx
    have X_3 := Lib.hid (show InR true w3 w2.heap.size w3.heap.size _ L.length 1 (cellI L) from howx)
    clear zg_2 qg1_2 G_2 qg0_2
    clear howx
    go_wp2_with fail
    have hb4 : Below w3.heap.size w3 (w3.alloc (.cells #[.int .i64 m, .int .i64 A, .slice ax L.length cx] 30)) := (Below.refl _ _).alloc (by simp <;> omega) _
    have H4 := bel_trans H3 hb4
    have SZ4 := Lib.hid hb4.size
    have qg0_4 := (hb4.cell (p := ⟨w1.heap.size, 0, none⟩) zg_3).trans qg0_3
    have qg1_4 := (hb4.cell (p := ⟨w1.heap.size, 1, none⟩) zg_3).trans qg1_3
    have zg_4 := Nat.lt_of_lt_of_le zg_3 hb4.size
    have G_4 := Lib.hid (G_3.out.keep hb4)
    have X_4 := Lib.hid (X_3.out.keep hb4)
    have qx0_4 : (w3.alloc (.cells #[.int .i64 m, .int .i64 A, .slice ax L.length cx] 30)).cell? ⟨w3.heap.size, 0, none⟩ = some (.int .i64 m) := by go_simp
    have qx1_4 : (w3.alloc (.cells #[.int .i64 m, .int .i64 A, .slice ax L.length cx] 30)).cell? ⟨w3.heap.size, 1, none⟩ = some (.int .i64 A) := by go_simp
    have qx2_4 : (w3.alloc (.cells #[.int .i64 m, .int .i64 A, .slice ax L.length cx] 30)).cell? ⟨w3.heap.size, 2, none⟩ = some (.slice ax L.length cx) := by go_simp
    have zx_4 : w3.heap.size < (w3.alloc (.cells #[.int .i64 m, .int .i64 A, .slice ax L.length cx] 30)).heap.size := by simp <;> omega
    generalize (w3.alloc (.cells #[.int .i64 m, .int .i64 A, .slice ax L.length cx] 30)) = w4 at hb4 H4 SZ4 G_4 X_4 qg0_4 qg1_4 qx0_4 qx1_4 qx2_4 zg_4 zx_4 ⊢
    have ZBx := Lib.hid zx_4
    clear qg0_3 qg1_3 zg_3 G_3 X_3
    refine (HSS.out _ _ G_4.out.edges).mono ?_
    rintro e w5 ⟨vy, rfl, howy, hoky, hb5⟩
    have H5 := bel_trans H4 hb5
    have SZ5 := Lib.hid hb5.size
    have qg0_5 := (hb5.cell (p := ⟨w1.heap.size, 0, none⟩) zg_4).trans qg0_4
    have qg1_5 := (hb5.cell (p := ⟨w1.heap.size, 1, none⟩) zg_4).trans qg1_4
    have zg_5 := Nat.lt_of_lt_of_le zg_4 hb5.size
    have qx0_5 := (hb5.cell (p := ⟨w3.heap.size, 0, none⟩) zx_4).trans qx0_4
    have qx1_5 := (hb5.cell (p := ⟨w3.heap.size, 1, none⟩) zx_4).trans qx1_4
    have qx2_5 := (hb5.cell (p := ⟨w3.heap.size, 2, none⟩) zx_4).trans qx2_4
    have zx_5 := Nat.lt_of_lt_of_le zx_4 hb5.size
    have G_5 := Lib.hid (G_4.out.keep hb5)
    have X_5 := Lib.hid (X_4.out.keep hb5)
    obtain ⟨ay, cy, rfl, hz9⟩ := id howy
    clear hz9 hoky
    have Y_5 := Lib.hid (show InR true w5 w4.heap.size w5.heap.size _ L.length 1 (cellI L) from howy)
    clear qg0_4 qg1_4 zg_4 G_4 X_4 qx0_4 qx1_4 qx2_4 zx_4
    clear howy
    go_wp2_with fail
    have hb6 : Below w5.heap.size w5 (w5.alloc (.cells #[.int .i64 m, .int .i64 A, .slice ay L.length cy] 30)) := (Below.refl _ _).alloc (by simp <;> omega) _
    have H6 := bel_trans H5 hb6
    have SZ6 := Lib.hid hb6.size
    have qg0_6 := (hb6.cell (p := ⟨w1.heap.size, 0, none⟩) zg_5).trans qg0_5
    have qg1_6 := (hb6.cell (p := ⟨w1.heap.size, 1, none⟩) zg_5).trans qg1_5
    have zg_6 := Nat.lt_of_lt_of_le zg_5 hb6.size
    have qx0_6 := (hb6.cell (p := ⟨w3.heap.size, 0, none⟩) zx_5).trans qx0_5
    have qx1_6 := (hb6.cell (p := ⟨w3.heap.size, 1, none⟩) zx_5).trans qx1_5
    have qx2_6 := (hb6.cell (p := ⟨w3.heap.size, 2, none⟩) zx_5).trans qx2_5
    have zx_6 := Nat.lt_of_lt_of_le zx_5 hb6.size
    have G_6 := Lib.hid (G_5.out.keep hb6)
    have X_6 := Lib.hid (X_5.out.keep hb6)
    have Y_6 := Lib.hid (Y_5.out.keep hb6)
    have qy0_6 : (w5.alloc (.cells #[.int .i64 m, .int .i64 A, .slice ay L.length cy] 30)).cell? ⟨w5.heap.size, 0, none⟩ = some (.int .i64 m) := by go_simp
    have qy1_6 : (w5.alloc (.cells #[.int .i64 m, .int .i64 A, .slice ay L.length cy] 30)).cell? ⟨w5.heap.size, 1, none⟩ = some (.int .i64 A) := by go_simp
    have qy2_6 : (w5.alloc (.cells #[.int .i64 m, .int .i64 A, .slice ay L.length cy] 30)).cell? ⟨w5.heap.size, 2, none⟩ = some (.slice ay L.length cy) := by go_simp
    have zy_6 : w5.heap.size < (w5.alloc (.cells #[.int .i64 m, .int .i64 A, .slice ay L.length cy] 30)).heap.size := by simp <;> omega
    generalize (w5.alloc (.cells #[.int .i64 m, .int .i64 A, .slice ay L.length cy] 30)) = w6 at hb6 H6 SZ6 G_6 X_6 Y_6 qg0_6 qg1_6 qx0_6 qx1_6 qx2_6 qy0_6 qy1_6 qy2_6 zg_6 zx_6 zy_6 ⊢
    have ZBy := Lib.hid zy_6
    clear qg0_5 qg1_5 zg_5 qx0_5 qx1_5 qx2_5 zx_5 G_5 X_5 Y_5
    go_wp2_with fail
    refine (HTI.out _ _ _ G_6.out.edges X_6.out.rowI).mono ?_
    rintro e w7 ⟨vp, rfl, howp, hb7⟩
    have H7 := bel_trans H6 hb7
    have SZ7 := Lib.hid hb7.size
    have qg0_7 := (hb7.cell (p := ⟨w1.heap.size, 0, none⟩) zg_6).trans qg0_6
    have qg1_7 := (hb7.cell (p := ⟨w1.heap.size, 1, none⟩) zg_6).trans qg1_6
    have zg_7 := Nat.lt_of_lt_of_le zg_6 hb7.size
    have qx0_7 := (hb7.cell (p := ⟨w3.heap.size, 0, none⟩) zx_6).trans qx0_6
    have qx1_7 := (hb7.cell (p := ⟨w3.heap.size, 1, none⟩) zx_6).trans qx1_6
    have qx2_7 := (hb7.cell (p := ⟨w3.heap.size, 2, none⟩) zx_6).trans qx2_6
    have zx_7 := Nat.lt_of_lt_of_le zx_6 hb7.size
    have qy0_7 := (hb7.cell (p := ⟨w5.heap.size, 0, none⟩) zy_6).trans qy0_6
    have qy1_7 := (hb7.cell (p := ⟨w5.heap.size, 1, none⟩) zy_6).trans qy1_6
    have qy2_7 := (hb7.cell (p := ⟨w5.heap.size, 2, none⟩) zy_6).trans qy2_6
    have zy_7 := Nat.lt_of_lt_of_le zy_6 hb7.size
    have G_7 := Lib.hid (G_6.out.keep hb7)
    have X_7 := Lib.hid (X_6.out.keep hb7)
    have Y_7 := Lib.hid (Y_6.out.keep hb7)
    obtain ⟨ap, cp, rfl, hz9⟩ := id howp
    clear hz9
    have P_7 := Lib.hid (howp)
    clear qg0_6 qg1_6 zg_6 qx0_6 qx1_6 qx2_6 zx_6 G_6 X_6 Y_6 qy0_6 qy1_6 qy2_6 zy_6
    clear howp
    go_wp2_with fail
    refine (HTS.out _ _ _ G_7.out.edges X_7.out.rowI).mono ?_
    rintro e w8 ⟨vq, rfl, howq, hb8⟩
    have H8 := bel_trans H7 hb8
    have SZ8 := Lib.hid hb8.size
    have qg0_8 := (hb8.cell (p := ⟨w1.heap.size, 0, none⟩) zg_7).trans qg0_7
    have qg1_8 := (hb8.cell (p := ⟨w1.heap.size, 1, none⟩) zg_7).trans qg1_7
    have zg_8 := Nat.lt_of_lt_of_le zg_7 hb8.size
    have qx0_8 := (hb8.cell (p := ⟨w3.heap.size, 0, none⟩) zx_7).trans qx0_7
    have qx1_8 := (hb8.cell (p := ⟨w3.heap.size, 1, none⟩) zx_7).trans qx1_7
    have qx2_8 := (hb8.cell (p := ⟨w3.heap.size, 2, none⟩) zx_7).trans qx2_7
    have zx_8 := Nat.lt_of_lt_of_le zx_7 hb8.size
    have qy0_8 := (hb8.cell (p := ⟨w5.heap.size, 0, none⟩) zy_7).trans qy0_7
    have qy1_8 := (hb8.cell (p := ⟨w5.heap.size, 1, none⟩) zy_7).trans qy1_7
    have qy2_8 := (hb8.cell (p := ⟨w5.heap.size, 2, none⟩) zy_7).trans qy2_7
    have zy_8 := Nat.lt_of_lt_of_le zy_7 hb8.size
    have G_8 := Lib.hid (G_7.out.keep hb8)
    have X_8 := Lib.hid (X_7.out.keep hb8)
    have Y_8 := Lib.hid (Y_7.out.keep hb8)
    have P_8 := Lib.hid (P_7.out.keep hb8)
    obtain ⟨aq, cq, rfl, hz9⟩ := id howq
    clear hz9
    have Q_8 := Lib.hid (howq)
    clear qg0_7 qg1_7 zg_7 qx0_7 qx1_7 qx2_7 zx_7 qy0_7 qy1_7 qy2_7 zy_7 G_7 X_7 Y_7 P_7
    clear howq
    go_wp2_with fail
    refine (gvInts P1 _ _ _ P_8.out.ints Q_8.out.ints (by have := HPA.out; omega)).mono ?_
    rintro e w9 ⟨rfl, hb9⟩
    have H9 := bel_trans H8 hb9
    have SZ9 := Lib.hid hb9.size
    have qg0_9 := (hb9.cell (p := ⟨w1.heap.size, 0, none⟩) zg_8).trans qg0_8
    have qg1_9 := (hb9.cell (p := ⟨w1.heap.size, 1, none⟩) zg_8).trans qg1_8
    have zg_9 := Nat.lt_of_lt_of_le zg_8 hb9.size
    have qx0_9 := (hb9.cell (p := ⟨w3.heap.size, 0, none⟩) zx_8).trans qx0_8
    have qx1_9 := (hb9.cell (p := ⟨w3.heap.size, 1, none⟩) zx_8).trans qx1_8
    have qx2_9 := (hb9.cell (p := ⟨w3.heap.size, 2, none⟩) zx_8).trans qx2_8
    have zx_9 := Nat.lt_of_lt_of_le zx_8 hb9.size
    have qy0_9 := (hb9.cell (p := ⟨w5.heap.size, 0, none⟩) zy_8).trans qy0_8
    have qy1_9 := (hb9.cell (p := ⟨w5.heap.size, 1, none⟩) zy_8).trans qy1_8
    have qy2_9 := (hb9.cell (p := ⟨w5.heap.size, 2, none⟩) zy_8).trans qy2_8
    have zy_9 := Nat.lt_of_lt_of_le zy_8 hb9.size
    have G_9 := Lib.hid (G_8.out.keep hb9)
    have X_9 := Lib.hid (X_8.out.keep hb9)
    have Y_9 := Lib.hid (Y_8.out.keep hb9)
    have P_9 := Lib.hid (P_8.out.keep hb9)
    have Q_9 := Lib.hid (Q_8.out.keep hb9)
    clear qg0_8 qg1_8 zg_8 qx0_8 qx1_8 qx2_8 zx_8 qy0_8 qy1_8 qy2_8 zy_8 G_8 X_8 Y_8 P_8 Q_8
    go_wp2_with fail
    refine (HRN.out _ _ _ G_9.out.edges X_9.out.rowI).mono ?_
    rintro e w10 ⟨vr, rfl, howr, hb10⟩
    have H10 := bel_trans H9 hb10
    have SZ10 := Lib.hid hb10.size
    have qg0_10 := (hb10.cell (p := ⟨w1.heap.size, 0, none⟩) zg_9).trans qg0_9
    have qg1_10 := (hb10.cell (p := ⟨w1.heap.size, 1, none⟩) zg_9).trans qg1_9
    have zg_10 := Nat.lt_of_lt_of_le zg_9 hb10.size
    have qx0_10 := (hb10.cell (p := ⟨w3.heap.size, 0, none⟩) zx_9).trans qx0_9
    have qx1_10 := (hb10.cell (p := ⟨w3.heap.size, 1, none⟩) zx_9).trans qx1_9
    have qx2_10 := (hb10.cell (p := ⟨w3.heap.size, 2, none⟩) zx_9).trans qx2_9
    have zx_10 := Nat.lt_of_lt_of_le zx_9 hb10.size
    have qy0_10 := (hb10.cell (p := ⟨w5.heap.size, 0, none⟩) zy_9).trans qy0_9
    have qy1_10 := (hb10.cell (p := ⟨w5.heap.size, 1, none⟩) zy_9).trans qy1_9
    have qy2_10 := (hb10.cell (p := ⟨w5.heap.size, 2, none⟩) zy_9).trans qy2_9
    have zy_10 := Nat.lt_of_lt_of_le zy_9 hb10.size
    have G_10 := Lib.hid (G_9.out.keep hb10)
    have X_10 := Lib.hid (X_9.out.keep hb10)
    have Y_10 := Lib.hid (Y_9.out.keep hb10)
    have P_10 := Lib.hid (P_9.out.keep hb10)
    have Q_10 := Lib.hid (Q_9.out.keep hb10)
    obtain ⟨ar, cr, rfl, hz9⟩ := id howr
    clear hz9
    have R_10 := Lib.hid (howr)
    clear qg0_9 qg1_9 zg_9 qx0_9 qx1_9 qx2_9 zx_9 qy0_9 qy1_9 qy2_9 zy_9 G_9 X_9 Y_9 P_9 Q_9
    clear howr
    have hpz : P1.length = 0 ∨ ∃ b off, ap = some ⟨b, off, none⟩ ∧ b < w10.heap.size ∧ ∀ k, k < P1.length → w10.cell? ⟨b, off + k, none⟩ = some (.int .i64 (P1.getD k 0)) := by
      obtain ⟨_, _, he9, hz9⟩ := id P_10.out
      injection he9 with e1 e2 e3
      subst e1
      rcases hz9 with hz9 | ⟨b9, o9, h9, k1, k2, k3, kc⟩
      · exact .inl hz9
      · exact .inr ⟨b9, o9, h9, by omega, fun k h => (kc k (by omega)).1⟩
    have HPZ := Lib.hid hpz
    clear hpz
    have hpz : P2.length = 0 ∨ ∃ b off, ar = some ⟨b, off, none⟩ ∧ b < w10.heap.size ∧ ∀ k, k < P2.length → w10.cell? ⟨b, off + k, none⟩ = some (.int .i64 (P2.getD k 0)) := by
      obtain ⟨_, _, he9, hz9⟩ := id R_10.out
      injection he9 with e1 e2 e3
      subst e1
      rcases hz9 with hz9 | ⟨b9, o9, h9, k1, k2, k3, kc⟩
      · exact .inl hz9
      · exact .inr ⟨b9, o9, h9, by omega, fun k h => (kc k (by omega)).1⟩
    have HRZ := Lib.hid hpz
    clear hpz
    have HZG := Lib.hid (rowE_parts G_10.out.edges)
    have HGB := Lib.hid (And.intro qg1_10 zg_10)
    go_wp2_with fail
    have hb11 : Below w10.heap.size w10 (w10.alloc (.cells #[] 3)) := (Below.refl _ _).alloc (by simp <;> omega) _
    have H11 := bel_trans H10 hb11
    have SZ11 := Lib.hid hb11.size
    have qg0_11 := (hb11.cell (p := ⟨w1.heap.size, 0, none⟩) zg_10).trans qg0_10
    have qg1_11 := (hb11.cell (p := ⟨w1.heap.size, 1, none⟩) zg_10).trans qg1_10
    have zg_11 := Nat.lt_of_lt_of_le zg_10 hb11.size
    have qx0_11 := (hb11.cell (p := ⟨w3.heap.size, 0, none⟩) zx_10).trans qx0_10
    have qx1_11 := (hb11.cell (p := ⟨w3.heap.size, 1, none⟩) zx_10).trans qx1_10
    have qx2_11 := (hb11.cell (p := ⟨w3.heap.size, 2, none⟩) zx_10).trans qx2_10
    have zx_11 := Nat.lt_of_lt_of_le zx_10 hb11.size
    have qy0_11 := (hb11.cell (p := ⟨w5.heap.size, 0, none⟩) zy_10).trans qy0_10
    have qy1_11 := (hb11.cell (p := ⟨w5.heap.size, 1, none⟩) zy_10).trans qy1_10
    have qy2_11 := (hb11.cell (p := ⟨w5.heap.size, 2, none⟩) zy_10).trans qy2_10
    have zy_11 := Nat.lt_of_lt_of_le zy_10 hb11.size
    have G_11 := Lib.hid (G_10.out.keep hb11)
    have X_11 := Lib.hid (X_10.out.keep hb11)
    have Y_11 := Lib.hid (Y_10.out.keep hb11)
    have P_11 := Lib.hid (P_10.out.keep hb11)
    have Q_11 := Lib.hid (Q_10.out.keep hb11)
    have R_11 := Lib.hid (R_10.out.keep hb11)
    have ze_11 : w10.heap.size < (w10.alloc (.cells #[] 3)).heap.size := by simp <;> omega
    have hown0 : (w10.alloc (.cells #[] 3)).ownsRow w10.heap.size 3 1 (.slice (some ⟨w10.heap.size, 0, none⟩) 0 0) 0 [] := own_empty w10 _ _ (Nat.le_refl _)
    generalize (w10.alloc (.cells #[] 3)) = w11 at hown0 hb11 H11 SZ11 G_11 P_11 Q_11 R_11 X_11 Y_11 qg0_11 qg1_11 qx0_11 qx1_11 qx2_11 qy0_11 qy1_11 qy2_11 ze_11 zg_11 zx_11 zy_11 ⊢
    have ZBe := Lib.hid ze_11
    clear qg0_10 qg1_10 zg_10 qx0_10 qx1_10 qx2_10 zx_10 qy0_10 qy1_10 qy2_10 zy_10 G_10 X_10 Y_10 P_10 Q_10 R_10
    obtain ⟨i0, hi9, hz09, hz19, hz29⟩ := info_parts info_int2
    have HI : Hid (Try.prog.info? 3 = some i0 ∧ i0.zero = some (.int .i64 0) ∧ i0.size = 1 ∧ i0.bytes = 8) := Lib.hid ⟨hi9, hz09, hz19, hz29⟩
    clear hi9 hz09 hz19 hz29
    obtain ⟨lo, hlo⟩ : ∃ lo, lo = w10.heap.size := ⟨_, rfl⟩
    have HB0 := Lib.hid (show Below lo w10 w11 by rw [hlo]; exact hb11)
    rw [← hlo] at hown0
    have HLO := Lib.hid hlo
    go_wp2_with fail
    go_loopw [13, 12] (fun c v wr => ∃ k : Nat, k ≤ P1.length ∧ c = .int .i64 k ∧ wr.ownsRow lo 3 1 v k ((enL es P1 k).map (Value.int .i64)) ∧ Hid (Below lo w10 wr)) (fun c _ _ => P1.length - (intOf c).toNat)
    case atStart => exact ⟨0, Nat.zero_le _, rfl, by simpa [enL, hlo] using hown0, HB0⟩
    case round =>
      clear hown0 hlo
      obtain ⟨k, hk, rfl, hown, HBW⟩ := hrel
      have HOW := Lib.hid hown
      clear hown
      have xg1 := (HBW.out.cell (p := ⟨w1.heap.size, 1, none⟩) (by rw [HLO.out]; exact HGB.out.2)).trans HGB.out.1
      by_cases hlt : k < P1.length
      · have hlt' : (k : Int) < P1.length := by omega
        rcases HPZ.out with h00 | ⟨b9, o9, rfl, hb9, hc9⟩
        · omega
        obtain ⟨x, hx, hxe⟩ := HTA.out k hlt
        have hx' : (x : Int) < es.length := by omega
        have cpk := (HBW.out.cell (p := ⟨b9, o9 + k, none⟩) (by rw [HLO.out]; exact hb9)).trans (hc9 k hlt)
        rw [hxe] at cpk
        rcases HZG.out with h00 | ⟨bg, og, rfl, hbg, hcg⟩
        · rw [h00] at hx; simp at hx
        have cek := (HBW.out.cell (p := ⟨bg, og + x * 3 + 1, none⟩) (by rw [HLO.out]; exact hbg)).trans (hcg x hx).2.1
        have hst := enL_succ es P1 k
        rw [hxe, Int.toNat_natCast] at hst
        obtain ⟨y, hy⟩ : ∃ y, y = (es.getD x (0, 0, 0)).2.1 := ⟨_, rfl⟩
        rw [← hy] at hst cek
        have HT := Lib.hid hst
        have hln := HPA.out
        have hlow : lo ≤ wr.heap.size := by have := HBW.out.size; have := HLO.out; omega
        obtain ⟨va, vc, rfl⟩ := own_slice HOW.out
        clear hst hy hcg hc9 hxe
        obtain ⟨hi, hz0, hz1, hz2⟩ := HI.out
        go_wp2_with fail
        go_region_law (first | (refine step_append_own rfl (.tmp 69) (.tmp 79) 28 rfl lo 3 i0 (.int .i64 0) 1 8 Try.underlying28 hi hz0 hz1 hz2 rfl (by decide) _ _ _ rfl (own_drew (HOW.out.alloc _)) ⟨wr.heap.size, 0, none⟩ 1 1 [.int .i64 y] rfl rfl (cells_new1 _ _ _) (by simp [Value.oneCell']) (by unfold maxLen; omega) (by omega) (by simp; omega) ?_; intro v' w6 hown6 hgrow6; have H7 : Hid (w6.ownsRow lo 3 1 v' (k + 1) ((enL es P1 (k + 1)).map (Value.int .i64))) := Lib.hid (by rw [HT.out]; simpa using hown6); have H8 : Hid (Below lo w10 w6) := Lib.hid (((HBW.out.alloc hlow _).drew).grown hgrow6 (by simp; omega) (fun q hq => (HOW.out.lt q hq).1))))
        all_goals go_wp2
        all_goals go_roundw
        all_goals first | (simp [intOf]; omega) | exact ⟨k + 1, by omega, by go_num, H7.out, H8⟩ | ((repeat apply Exists.intro); exact ⟨⟨k + 1, by omega, by go_num, H7.out, H8⟩, rfl⟩)
      · have hkk : ¬ ((k : Int) < P1.length) := by omega
        have hke : k = P1.length := by omega
        subst hke
        obtain ⟨va, vc, rfl⟩ := own_slice HOW.out
        have HOW2 := HOW
        obtain ⟨wo, hwo⟩ : ∃ wo, wo = wr := ⟨_, rfl⟩
        subst hwo
        have HBO := HBW
        clear HBW xg1
        have hoi : OwnI w10 wo (.slice va P1.length vc) (enL es P1 P1.length) := OwnI.of (base := lo) (by rw [enL_len]; exact HOW.out) (by rw [HLO.out]; exact Nat.le_refl _)
        have HOI := Lib.hid hoi
        clear hoi
        go_wp2_with fail
        go_loopw [14] (fun c wr => ∃ k : Nat, k ≤ P2.length ∧ c = .int .i64 k ∧ Hid (Below wo.heap.size wo wr)) (fun c _ => P2.length - (intOf c).toNat)
        case atStart => exact ⟨0, Nat.zero_le _, rfl, Lib.hid (Below.refl _ _)⟩
        case round =>
          obtain ⟨k, hk, rfl, HBW⟩ := hrel
          by_cases hlt : k < P2.length
          · have hlt' : (k : Int) < P2.length := by omega
            rcases HRZ.out with h00 | ⟨b9, o9, rfl, hb9, hc9⟩
            · omega
            have cpk := (HBW.out.cell (p := ⟨b9, o9 + k, none⟩) (by have := HBO.out.size; have h8 := HLO.out; simp only; omega)).trans ((HBO.out.cell (p := ⟨b9, o9 + k, none⟩) (by rw [HLO.out]; exact hb9)).trans (hc9 k hlt))
            have hgi := gvIn (enL es P1 P1.length) (P2.getD k 0) _ wr (InR.keep HOI.out HBW.out).ints (by rw [enL_len]; have := HPA.out; omega)
            have hin := HIN.out k hlt
            obtain ⟨y1, hy1⟩ : ∃ y, y = P2.getD k 0 := ⟨_, rfl⟩
            rw [← hy1] at cpk hgi hin
            have hp2v := HPB.out
            clear hy1 hc9
            by_cases hya : y1 = (A : Int)
            · have d1 : (y1 != (A : Int)) = false := by simpa using hya
              have HYA := Lib.hid hya
              clear hya hin hgi
              go_wp2
              go_roundw
              case rel => first | exact ⟨k + 1, by omega, by go_num, Lib.hid (HBW.out)⟩ | ((repeat apply Exists.intro); exact ⟨⟨k + 1, by omega, by go_num, Lib.hid (HBW.out)⟩, rfl⟩)
              case measure => simp [intOf]; omega
            · have d1 : (y1 != (A : Int)) = true := by simpa using hya
              rw [hin hya] at hgi
              have HGI := Lib.hid hgi
              clear hya hin hgi
              go_wp2_with (go_at_call 21; refine (HGI.out).mono ?_; rintro e w90 ⟨rfl, hb90⟩)
              go_roundw
              case rel => first | exact ⟨k + 1, by omega, by go_num, Lib.hid (bel_trans HBW.out hb90)⟩ | ((repeat apply Exists.intro); exact ⟨⟨k + 1, by omega, by go_num, Lib.hid (bel_trans HBW.out hb90)⟩, rfl⟩)
              case measure => simp [intOf]; omega
          · have hkk : ¬ ((k : Int) < P2.length) := by omega
            go_wp2
            go_ret
            exact ⟨by first | rfl | simp, bel_trans H10 (bel_lo (HLO.out) HBO.out HBW.out)⟩

set_option maxRecDepth 100000 in
theorem lifted (os : Os) (started : os.Started) (H : Type) (enc : TypeId × Value → H) :
    ReturnsInHanded {} Try.checked os 3 .any (Rows.fnTightEdgesSpec.pre6 enc Try.prog Try.f3 Rows.fnTightEdgesRow.domain false) (Rows.fnTightEdgesSpec.post enc Try.prog Try.f3 false true false false) := by
  refine returnsInHanded_of_change (C := Try.checked) own started (by kernel_rfl) Try.func3
    (ChangeSpec.witness6 (enc := enc) (C := Try.checked) false ⟨#[], #[.slice none 0 0], []⟩ 8 (by kernel_rfl) (by kernel_rfl) (by kernel_rfl) (by kernel_rfl)) ?_
  intro W base args ds gs before hval0 hW hcnd _
  have hval : ∀ (j : Nat) t v, Try.f3.params[j]? = some t → args[j]? = some v → Value.okWide Try.prog W .any base t v := hval0
  have hW' := hW
  obtain ⟨p, q, hA0, hV, rfl, hfz, hnd⟩ := hW
  have hA : DataW.TrodAll enc Try.prog W 0 (fun _ => true) true Try.f3.params.toList args.toList ds p := hA0
  rw [Try.params3] at hA hval
  obtain ⟨v0, vs0, d0, ds0, p0, q0, hargs, rfl, rfl, h0, r0⟩ := trodAll_cons hA
  obtain ⟨rfl, rfl, rfl⟩ := trodAll_nil r0
  obtain rfl : args = #[v0] := by cases args; simp_all
  obtain ⟨rfl, rfl⟩ := trodVars_none hV
  obtain ⟨a0, len0, cap0, rfl⟩ := okWide_slice Try.underlying22 (hval 0 22 v0 rfl rfl)
  have k0 := h0
  have lt0 : ∀ x ∈ p0, x.block < W.heap.size := by obtain ⟨m, hm⟩ := k0; exact DataW.trod_lt m _ _ _ hm
  obtain ⟨z0, w0⟩ : ∃ zs, IsRow .u8 W a0 len0 cap0 zs := by
    obtain ⟨fuel, hf⟩ := h0
    rcases open_ints Try.underlying22 Try.underlying5 (by kernel_rfl) hf with ⟨hcs, _⟩ | ⟨x, l, c, zs, hcs, _, hl, hm, hz, _, hcell, hwz⟩
    · simp [Value.cells] at hcs
      obtain ⟨rfl, rfl, rfl⟩ := hcs
      exact ⟨[], .inl ⟨rfl, rfl, rfl, rfl⟩⟩
    · simp [Value.cells] at hcs
      obtain ⟨rfl, rfl, rfl⟩ := hcs
      exact ⟨zs, .inr ⟨_, rfl, hl, hm, by simpa using hz, hcell, hwz⟩⟩
  clear hA0 hval0
  refine (walk a0 len0 cap0 z0 W w0).mono fun e W' ⟨he, bel⟩ => ?_
  subst he
  exact ⟨_, rfl, _, _, _, [], _, [], hW', trodAll_mk1 (shut_bool Try.underlying4 _), (trodAll_cons_mk (Below.trod laidOut (by kernel_rfl) (of_decide_eq_true (by kernel_rfl)) k0 bel lt0) trodAll_mk0), rfl, bel.frame _, fun h => by cases h⟩

theorem over : Rows.fnTightEdgesRow.holds Try.pinned (OpenSpec.ofChange Rows.fnTightEdgesSpec) :=
  OpenClaim.holds_of_wide 3 Try.f3 rfl rfl rfl rfl rfl rfl rfl ⟨rfl, rfl, rfl, rfl, rfl⟩ rfl rfl rfl rfl rfl (by kernel_rfl) Try.func3 (by kernel_rfl)
    (of_decide_eq_true (by kernel_rfl)) (by unfold Func.isWrapper; first | (rw [if_pos (by decide +kernel)]; kernel_rfl) | (rw [if_neg (by decide +kernel)]; exact ⟨rfl, rfl⟩))
    (fun os started H enc _ => lifted os started H enc)

theorem proved : Rows.FnTightEdgesSaid := over
end Go.Proofs.Ytjcfefpcilhelaa.fnTightEdges
