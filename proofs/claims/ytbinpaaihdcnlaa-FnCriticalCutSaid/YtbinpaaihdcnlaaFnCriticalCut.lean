/-
  Proved: an edge is critical exactly if its cut changes the view, and critical edges stand in the order of the graph (the law FnCriticalCut returns true for every input and leaves it as it was), with no further condition.
-/
import Derived.Test.YtbinpaaihdcnlaaRows
import Derived.Test.YtbinpaaihdcnlaaDrawT
import Derived.Test.YtbinpaaihdcnlaaCritC
import Derived.Test.YtbinpaaihdcnlaaViewT
import Derived.Test.YtbinpaaihdcnlaaVEdges
import Derived.Test.YtbinpaaihdcnlaaStartL
import Derived.Test.YtbinpaaihdcnlaaRight
import Derived.WalkKit
import Derived.ProofKit
import Derived.OpenShut
import Derived.ShutString
import Derived.ChangeOld
import Derived.Below
namespace Go.Proofs.Ytbinpaaihdcnlaa.fnCriticalCut
open Go.Proofs.Ytbinpaaihdcnlaa Go.BigFrame
open Go.ChangeShapes Go.WideShapes Go.ChangeAt Go.RowKit
open Go.ChangeMaps (open_string shut_string)
set_option linter.unusedVariables false

theorem own : ownKnob Try.prog.godebug = none := by kernel_rfl
theorem laidOut : laidOutB Try.prog = true := by kernel_rfl

def IsRow (k : IntKind) (w : World) (a : Option Addr) (len cap : Nat) (zs : List Int) : Prop :=
  (a = none ∧ len = 0 ∧ cap = 0 ∧ zs = []) ∨
  ∃ x, a = some x ∧ len ≤ cap ∧ cap ≤ maxLen ∧ zs.length = cap ∧ (∀ i, i < zs.length → w.cell? (x.add i) = some (.int k (zs.getD i 0))) ∧ ∀ n ∈ zs, (Lit.int k n).wf = true

theorem bytes_of {w : World} {a : Option Addr} {len cap : Nat} {zs : List Int} (h : IsRow .u8 w a len cap zs) : Bytes w a len ∧ len ≤ cap ∧ len ≤ 9223372036854775807 := by
  rcases h with ⟨rfl, rfl, rfl, rfl⟩ | ⟨x, rfl, hl, hm, hz, hc, hw⟩
  · exact ⟨.inl rfl, Nat.le_refl _, by omega⟩
  · unfold maxLen at hm
    refine ⟨?_, hl, by omega⟩
    by_cases h0 : len = 0
    · exact .inl h0
    · obtain ⟨b, off, rfl, hc'⟩ := ints_at hc (by omega)
      exact .inr ⟨b, off, rfl, World.block_lt_of_cell? _ _ (hc' 0 (by omega)), fun i hi => ⟨zs[i]?.getD 0, (range_u8 hw i).1, (range_u8 hw i).2, hc' i (by omega)⟩⟩

set_option maxRecDepth 100000 in
set_option maxHeartbeats 4000000 in
theorem walk (a0 : Option Addr) (len0 cap0 : Nat) (z0 : List Int) (w : World) (w0 : IsRow .u8 w a0 len0 cap0 z0) :
    Calls Try.prog 12 #[.slice a0 len0 cap0] w fun e w' => e = .returned (.bool true) ∧ Below w.heap.size w w' := by
  obtain ⟨hby, hcp, hn⟩ := bytes_of w0
  have HB0 := Lib.hid hby
  clear hby w0
  by_cases h0 : 1048576 < len0
  · go_enter Try.func12, Try.ntmps12
    go_wp2
    go_ret
    exact ⟨rfl, Below.refl _ _⟩
  have h0' : len0 ≤ 1048576 := by omega
  clear h0
  obtain ⟨w0, hw0⟩ : ∃ w0, w0 = w := ⟨_, rfl⟩
  subst hw0
  have H0 := Below.refl w0.heap.size w0
  go_enter Try.func12, Try.ntmps12
  go_wp2_with fail
  refine (dDrawCriticalEdges a0 len0 cap0 _ HB0.out hcp (by omega)).mono ?_
  rintro e w1 ⟨n, es, v, m, src, rfl, hle, hrow, hok, hb1⟩
  have H1 := bel_trans H0 hb1
  have SZ1 := Lib.hid hb1.size
  obtain ⟨va, vc, rfl, hz9⟩ := id hrow
  have HOKG := Lib.hid hok
  clear hz9 hok
  have G_1 := Lib.hid (hrow)
  clear hrow
  go_wp2_with fail
  have hb2 : Below w1.heap.size w1 (w1.alloc (.cells #[.int .i64 n, .slice va es.length vc] 25)) := (Below.refl _ _).alloc (by simp <;> omega) _
  have H2 := bel_trans H1 hb2
  have SZ2 := Lib.hid hb2.size
  have G_2 := Lib.hid (G_1.out.keep hb2)
  have qg0_2 : (w1.alloc (.cells #[.int .i64 n, .slice va es.length vc] 25)).cell? ⟨w1.heap.size, 0, none⟩ = some (.int .i64 n) := by go_simp
  have qg1_2 : (w1.alloc (.cells #[.int .i64 n, .slice va es.length vc] 25)).cell? ⟨w1.heap.size, 1, none⟩ = some (.slice va es.length vc) := by go_simp
  have zg_2 : w1.heap.size < (w1.alloc (.cells #[.int .i64 n, .slice va es.length vc] 25)).heap.size := by simp <;> omega
  generalize (w1.alloc (.cells #[.int .i64 n, .slice va es.length vc] 25)) = w2 at hb2 H2 SZ2 G_2 qg0_2 qg1_2 zg_2 ⊢
  have ZBg := Lib.hid zg_2
  clear G_1
  have hle2 : es.length ≤ 1048576 := by omega
  have hle3 : es.length ≤ 281474976710656 := by omega
  have hst := fun s w (h : RowE w s es) => criticalEdges n m src es s w h hle3
  have hss := fun s w (h : RowE w s es) => sCriticalEdges n m src es s w h hle3
  cases hk : onOk n es m [src]
  · rw [show ceR n es m src = [] by unfold ceR; rw [hk]; rfl, hk] at hst hss
    have HST := Lib.hid hst
    have HSS := Lib.hid hss
    clear hst hss hk
    go_wp2_with fail
    refine (HST.out _ _ G_2.out.edges).mono ?_
    rintro e w3 ⟨vx, rfl, howx, hb3⟩
    have H3 := bel_trans H2 hb3
    have SZ3 := Lib.hid hb3.size
    have qg0_3 := (hb3.cell (p := ⟨w1.heap.size, 0, none⟩) zg_2).trans qg0_2
    have qg1_3 := (hb3.cell (p := ⟨w1.heap.size, 1, none⟩) zg_2).trans qg1_2
    have zg_3 := Nat.lt_of_lt_of_le zg_2 hb3.size
    have G_3 := Lib.hid (G_2.out.keep hb3)
    obtain ⟨ax, cx, rfl, hz9⟩ := id howx
    clear hz9
    have X_3 := Lib.hid (show InR true w3 w2.heap.size w3.heap.size _ ([] : List Ed).length 3 (cellE ([] : List Ed)) from howx)
    clear G_2 qg0_2 zg_2 qg1_2
    clear howx
    go_wp2_with fail
    refine (HSS.out _ _ G_3.out.edges).mono ?_
    rintro e w4 ⟨vy, rfl, howy, hb4⟩
    have H4 := bel_trans H3 hb4
    have SZ4 := Lib.hid hb4.size
    have qg0_4 := (hb4.cell (p := ⟨w1.heap.size, 0, none⟩) zg_3).trans qg0_3
    have qg1_4 := (hb4.cell (p := ⟨w1.heap.size, 1, none⟩) zg_3).trans qg1_3
    have zg_4 := Nat.lt_of_lt_of_le zg_3 hb4.size
    have G_4 := Lib.hid (G_3.out.keep hb4)
    have X_4 := Lib.hid (X_3.out.keep hb4)
    obtain ⟨ay, cy, rfl, hz9⟩ := id howy
    clear hz9
    have Y_4 := Lib.hid (show InR true w4 w3.heap.size w4.heap.size _ ([] : List Ed).length 3 (cellE ([] : List Ed)) from howy)
    clear qg0_3 qg1_3 zg_3 G_3 X_3
    clear howy
    go_wp2
    go_ret
    exact ⟨by first | rfl | simp, H4⟩
  · have hp := onOk_parts hk
    have hgv := hp.1
    have hnn := gVal_n hgv
    have h40 := (gVal_parts hgv).2.2.1
    have hx := hp.2.1 src (by simp)
    have hmk := hp.2.2
    obtain ⟨N, hN⟩ : ∃ N : Nat, n = N := ⟨n.toNat, by omega⟩
    subst hN
    obtain ⟨A, hA⟩ : ∃ A : Nat, src = A := ⟨src.toNat, by omega⟩
    subst hA
    rw [show ceR N es m A = es.filter (ceP m es N A) by unfold ceR; rw [if_pos hk, Int.toNat_natCast, Int.toNat_natCast], hk] at hst hss
    have hvo := fun s w (h : RowE w s es) => viewOf (N : Int) m (A : Int) es s w h hle3
    rw [show stM (N : Int) es m (A : Int) = m by unfold stM; rw [if_pos hk], show stA (N : Int) es m (A : Int) = (A : Int) by unfold stA; rw [if_pos hk], show voL (N : Int) es m (A : Int) = vIter m es N (vStart m N A) by unfold voL; rw [if_pos hk, Int.toNat_natCast], hk] at hvo
    have hRl : (vIter m es N (vStart m N A)).length = N := by rw [vIter_length, vStart_length, Int.toNat_natCast]
    obtain ⟨R, hR⟩ : ∃ R, R = vIter m es N (vStart m N A) := ⟨_, rfl⟩
    have hrd : ∀ k x y z, k < es.length → (x, y, z) = es.getD k (0, 0, 0) → ∃ Q Y, Y.length = N ∧ (∀ s w, RowE w s es → okS s → Calls Try.prog 45 #[.agg #[.int .i64 N, s], .int .i64 x, .int .i64 y] w fun e w' => ∃ v, e = .returned (.tuple #[.agg #[.int .i64 N, v], .bool true]) ∧ OwnE w w' v Q ∧ okS v ∧ Below w.heap.size w w') ∧ (∀ s w, RowE w s Q → Calls Try.prog 25 #[.agg #[.int .i64 N, s], .int .i64 m, .int .i64 A] w fun e w' => ∃ v, e = .returned (.tuple #[.agg #[.int .i64 m, .int .i64 A, v], .bool true]) ∧ OwnV w w' v Y ∧ okS v ∧ Below w.heap.size w w') ∧ vSame m A R m A Y = !(ceP m es N A (x, y, z)) := fun k x y z hlt he => by
      have hmem : (x, y, z) ∈ es := by rw [he]; simp [List.getD, hlt]
      obtain ⟨e1, e2, e3⟩ := cut_of hgv hmem
      simp only at e1 e2 e3
      have hgc := gVal_cut hgv x y
      have hoc := onOk_of hgc hx hmk
      have hlc : (cutL es x y).length ≤ 281474976710656 := Nat.le_trans (cutL_len _ _ _) (by omega)
      refine ⟨cutL es x y, vIter m (cutL es x y) N (vStart m N A), by rw [vIter_length, vStart_length, Int.toNat_natCast], fun s w h hk => ?_, fun s w h => ?_, ?_⟩
      · have h9 := cutEdge N es x y s w h hk hle2
        rwa [e1, e2, e3] at h9
      · have h9 := viewOf (N : Int) m (A : Int) (cutL es x y) s w h hlc
        rwa [show stM (N : Int) (cutL es x y) m (A : Int) = m by unfold stM; rw [if_pos hoc], show stA (N : Int) (cutL es x y) m (A : Int) = (A : Int) by unfold stA; rw [if_pos hoc], show voL (N : Int) (cutL es x y) m (A : Int) = vIter m (cutL es x y) N (vStart m N A) by unfold voL; rw [if_pos hoc, Int.toNat_natCast], hoc] at h9
      · unfold ceP vSame iSame
        rw [← hR]
        simp [eq_comm]
    rw [← hR] at hvo hRl
    have hfa := fun k (h : k < es.length) (hp : ceP m es N A (es.getD k (0, 0, 0)) = true) => flt_at h hp
    have hfn := fun k (h : k < es.length) (hp : ceP m es N A (es.getD k (0, 0, 0)) = false) => flt_no h hp
    have hfe : (es.take es.length).filter (ceP m es N A) = es.filter (ceP m es N A) := by rw [List.take_length]
    have hf0 : ((es.take 0).filter (ceP m es N A)).length = 0 := by simp
    have hfl : ∀ k, ((es.take k).filter (ceP m es N A)).length ≤ es.length := fun k => Nat.le_trans (filter_lenE _ _) (by simp; omega)
    obtain ⟨cn, hcn⟩ : ∃ cn : Nat → Nat, cn = fun k => ((es.take k).filter (ceP m es N A)).length := ⟨_, rfl⟩
    obtain ⟨P, hP⟩ : ∃ P, P = ceP m es N A := ⟨_, rfl⟩
    rw [← hP] at hrd hfa hfn hfe hf0 hfl hcn hst hss
    have hcf : cn es.length = (es.filter P).length := by rw [hcn]; show ((es.take es.length).filter P).length = _; rw [hfe]
    have hc0 : cn 0 = 0 := by rw [hcn]; exact hf0
    have hcl : ∀ k, cn k ≤ es.length := fun k => by rw [hcn]; exact hfl k
    obtain ⟨L, hL⟩ : ∃ L, L = es.filter P := ⟨_, rfl⟩
    rw [← hL] at hst hss hcf
    have hca : ∀ k, k < es.length → P (es.getD k (0, 0, 0)) = true → cn k < L.length ∧ L.getD (cn k) (0, 0, 0) = es.getD k (0, 0, 0) ∧ cn (k + 1) = cn k + 1 := fun k h hp => by rw [hcn, hL]; exact hfa k h hp
    have hcb : ∀ k, k < es.length → P (es.getD k (0, 0, 0)) = false → cn (k + 1) = cn k := fun k h hp => by rw [hcn]; exact hfn k h hp
    have hLl : L.length ≤ es.length := by rw [hL]; exact filter_lenE _ _
    have HST := Lib.hid hst
    have HSS := Lib.hid hss
    have HVO := Lib.hid hvo
    have HRL := Lib.hid hRl
    have HRD := Lib.hid hrd
    have HCA := Lib.hid hca
    have HCB := Lib.hid hcb
    have HCF := Lib.hid hcf
    have HC0 := Lib.hid hc0
    have HCL := Lib.hid hcl
    have HLL := Lib.hid hLl
    have HLE := Lib.hid hle2
    have H40 := Lib.hid h40
    have HNN := Lib.hid hnn
    clear hst hss hvo hRl hrd hca hcb hcf hc0 hcl hLl hfa hfn hfe hf0 hfl hcn hL hP hR hk hp hgv hnn hx hmk
    go_wp2_with fail
    refine (HST.out _ _ G_2.out.edges).mono ?_
    rintro e w3 ⟨vx, rfl, howx, hb3⟩
    have H3 := bel_trans H2 hb3
    have SZ3 := Lib.hid hb3.size
    have qg0_3 := (hb3.cell (p := ⟨w1.heap.size, 0, none⟩) zg_2).trans qg0_2
    have qg1_3 := (hb3.cell (p := ⟨w1.heap.size, 1, none⟩) zg_2).trans qg1_2
    have zg_3 := Nat.lt_of_lt_of_le zg_2 hb3.size
    have G_3 := Lib.hid (G_2.out.keep hb3)
    obtain ⟨ax, cx, rfl, hz9⟩ := id howx
    clear hz9
    have X_3 := Lib.hid (show InR true w3 w2.heap.size w3.heap.size _ L.length 3 (cellE L) from howx)
    clear G_2 qg0_2 zg_2 qg1_2
    clear howx
    go_wp2_with fail
    refine (HSS.out _ _ G_3.out.edges).mono ?_
    rintro e w4 ⟨vy, rfl, howy, hb4⟩
    have H4 := bel_trans H3 hb4
    have SZ4 := Lib.hid hb4.size
    have qg0_4 := (hb4.cell (p := ⟨w1.heap.size, 0, none⟩) zg_3).trans qg0_3
    have qg1_4 := (hb4.cell (p := ⟨w1.heap.size, 1, none⟩) zg_3).trans qg1_3
    have zg_4 := Nat.lt_of_lt_of_le zg_3 hb4.size
    have G_4 := Lib.hid (G_3.out.keep hb4)
    have X_4 := Lib.hid (X_3.out.keep hb4)
    obtain ⟨ay, cy, rfl, hz9⟩ := id howy
    clear hz9
    have Y_4 := Lib.hid (show InR true w4 w3.heap.size w4.heap.size _ L.length 3 (cellE L) from howy)
    clear qg0_3 qg1_3 zg_3 G_3 X_3
    clear howy
    go_wp2_with fail
    refine (HVO.out _ _ G_4.out.edges).mono ?_
    rintro e w5 ⟨vv, rfl, howv, hokv, hb5⟩
    have H5 := bel_trans H4 hb5
    have SZ5 := Lib.hid hb5.size
    have qg0_5 := (hb5.cell (p := ⟨w1.heap.size, 0, none⟩) zg_4).trans qg0_4
    have qg1_5 := (hb5.cell (p := ⟨w1.heap.size, 1, none⟩) zg_4).trans qg1_4
    have zg_5 := Nat.lt_of_lt_of_le zg_4 hb5.size
    have G_5 := Lib.hid (G_4.out.keep hb5)
    have X_5 := Lib.hid (X_4.out.keep hb5)
    have Y_5 := Lib.hid (Y_4.out.keep hb5)
    obtain ⟨av, cv, rfl, hz9⟩ := id howv
    clear hz9 hokv
    have V_5 := Lib.hid (show InR true w5 w4.heap.size w5.heap.size _ R.length 1 (cellI R) from howv)
    clear qg0_4 qg1_4 zg_4 G_4 X_4 Y_4
    clear howv
    go_wp2_with fail
    have hb6 : Below w5.heap.size w5 (w5.alloc (.cells #[.int .i64 m, .int .i64 A, .slice av R.length cv] 28)) := (Below.refl _ _).alloc (by simp <;> omega) _
    have H6 := bel_trans H5 hb6
    have SZ6 := Lib.hid hb6.size
    have qg0_6 := (hb6.cell (p := ⟨w1.heap.size, 0, none⟩) zg_5).trans qg0_5
    have qg1_6 := (hb6.cell (p := ⟨w1.heap.size, 1, none⟩) zg_5).trans qg1_5
    have zg_6 := Nat.lt_of_lt_of_le zg_5 hb6.size
    have G_6 := Lib.hid (G_5.out.keep hb6)
    have X_6 := Lib.hid (X_5.out.keep hb6)
    have Y_6 := Lib.hid (Y_5.out.keep hb6)
    have V_6 := Lib.hid (V_5.out.keep hb6)
    have qv0_6 : (w5.alloc (.cells #[.int .i64 m, .int .i64 A, .slice av R.length cv] 28)).cell? ⟨w5.heap.size, 0, none⟩ = some (.int .i64 m) := by go_simp
    have qv1_6 : (w5.alloc (.cells #[.int .i64 m, .int .i64 A, .slice av R.length cv] 28)).cell? ⟨w5.heap.size, 1, none⟩ = some (.int .i64 A) := by go_simp
    have qv2_6 : (w5.alloc (.cells #[.int .i64 m, .int .i64 A, .slice av R.length cv] 28)).cell? ⟨w5.heap.size, 2, none⟩ = some (.slice av R.length cv) := by go_simp
    have zv_6 : w5.heap.size < (w5.alloc (.cells #[.int .i64 m, .int .i64 A, .slice av R.length cv] 28)).heap.size := by simp <;> omega
    generalize (w5.alloc (.cells #[.int .i64 m, .int .i64 A, .slice av R.length cv] 28)) = w6 at hb6 H6 SZ6 G_6 V_6 X_6 Y_6 qg0_6 qg1_6 qv0_6 qv1_6 qv2_6 zg_6 zv_6 ⊢
    have ZBv := Lib.hid zv_6
    clear qg0_5 qg1_5 zg_5 G_5 X_5 Y_5 V_5
    go_wp2_with fail
    go_loopw [12, 13] (fun u c wr => ∃ k : Nat, k ≤ es.length ∧ u = .int .i64 (cn k) ∧ c = .int .i64 k ∧ Hid (Below w6.heap.size w6 wr)) (fun _ c _ => es.length - (intOf c).toNat)
    case atStart => exact ⟨0, Nat.zero_le _, by rw [HC0.out]; rfl, rfl, Lib.hid (Below.refl _ _)⟩
    case round =>
      obtain ⟨k, hk, rfl, rfl, HBW⟩ := hrel
      have sW := HBW.out.size
      have qg0_r := (HBW.out.cell (p := ⟨w1.heap.size, 0, none⟩) zg_6).trans qg0_6
      have qg1_r := (HBW.out.cell (p := ⟨w1.heap.size, 1, none⟩) zg_6).trans qg1_6
      have zg_r := Nat.lt_of_lt_of_le zg_6 HBW.out.size
      have qv0_r := (HBW.out.cell (p := ⟨w5.heap.size, 0, none⟩) zv_6).trans qv0_6
      have qv1_r := (HBW.out.cell (p := ⟨w5.heap.size, 1, none⟩) zv_6).trans qv1_6
      have qv2_r := (HBW.out.cell (p := ⟨w5.heap.size, 2, none⟩) zv_6).trans qv2_6
      have zv_r := Nat.lt_of_lt_of_le zv_6 HBW.out.size
      by_cases hlt : k < es.length
      · have hlt' : (k : Int) < es.length := by omega
        have hgr := RowE.keep G_6.out.edges HBW.out
        obtain ⟨bg, og, cg, hge, hbg, hcg⟩ := RowE.at hgr hlt
        injection hge with hg1 hg2 hg3
        clear hg2
        subst hg1
        subst hg3
        have HGR := Lib.hid hgr
        obtain ⟨x, y, z, hxyz⟩ : ∃ x y z, (x, y, z) = es.getD k (0, 0, 0) := ⟨_, _, _, rfl⟩
        have h1 := hcg k hlt
        rw [← hxyz] at h1
        simp only at h1
        obtain ⟨Q, Y, hYl, hce, hvq, hsm⟩ := HRD.out k x y z hlt hxyz
        have hca := HCA.out k hlt
        have hcb := HCB.out k hlt
        rw [← hxyz] at hca hcb
        have hold : ∀ w' : World, Below wr.heap.size wr w' → (w'.cell? ⟨w1.heap.size, 0, none⟩ = some (.int .i64 N) ∧ w'.cell? ⟨w1.heap.size, 1, none⟩ = some (.slice (some ⟨bg, og, none⟩) es.length vc) ∧ w'.cell? ⟨bg, og + k * 3, none⟩ = some (.int .i64 x) ∧ w'.cell? ⟨bg, og + k * 3 + 1, none⟩ = some (.int .i64 y)) := fun w' h => ⟨(h.cell (p := ⟨w1.heap.size, 0, none⟩) zg_r).trans qg0_r, (h.cell (p := ⟨w1.heap.size, 1, none⟩) zg_r).trans qg1_r, (h.cell (p := ⟨bg, og + k * 3, none⟩) hbg).trans h1.1, (h.cell (p := ⟨bg, og + k * 3 + 1, none⟩) hbg).trans h1.2.1⟩
        have hve : ∀ w' : World, Below wr.heap.size wr w' → (w'.cell? ⟨w5.heap.size, 0, none⟩ = some (.int .i64 m) ∧ w'.cell? ⟨w5.heap.size, 1, none⟩ = some (.int .i64 A) ∧ w'.cell? ⟨w5.heap.size, 2, none⟩ = some (.slice av R.length cv) ∧ w'.cell? ⟨bg, og + k * 3 + 2, none⟩ = some (.int .i64 z)) := fun w' h => ⟨(h.cell (p := ⟨w5.heap.size, 0, none⟩) zv_r).trans qv0_r, (h.cell (p := ⟨w5.heap.size, 1, none⟩) zv_r).trans qv1_r, (h.cell (p := ⟨w5.heap.size, 2, none⟩) zv_r).trans qv2_r, (h.cell (p := ⟨bg, og + k * 3 + 2, none⟩) hbg).trans h1.2.2⟩
        have hvr : ∀ w', Below wr.heap.size wr w' → Row w' (.slice av R.length cv) R := fun w' h => V_6.out.rowI.keep (bel_trans HBW.out h)
        have hxr : ∀ w', Below wr.heap.size wr w' → RowE w' (.slice ax L.length cx) L := fun w' h => X_6.out.edges.keep (bel_trans HBW.out h)
        have HOLD := Lib.hid hold
        have HVE := Lib.hid hve
        have HVR := Lib.hid hvr
        have HXR := Lib.hid hxr
        have HCE := Lib.hid hce
        have HVQ := Lib.hid hvq
        have HYL := Lib.hid hYl
        have HSM := Lib.hid hsm
        have HCA2 := Lib.hid hca
        have HCB2 := Lib.hid hcb
        clear hold hve hvr hxr hce hvq hYl hsm hca hcb hcg h1 hxyz hgr
        obtain ⟨j0, j1, j2, j3⟩ := HOLD.out _ (Below.refl _ _)
        go_upto_region 13 with fail
        go_cut [14, 15] from 72 to 126 (fun p c wx => BoxC wr wx N Q p ∧ c = .bool true)
        · go_region_held3 (fun w' : World => w'.cell? ⟨w1.heap.size, 0, none⟩ = some (.int .i64 N) ∧ w'.cell? ⟨w1.heap.size, 1, none⟩ = some (.slice (some ⟨bg, og, none⟩) es.length vc) ∧ w'.cell? ⟨bg, og + k * 3, none⟩ = some (.int .i64 x) ∧ w'.cell? ⟨bg, og + k * 3 + 1, none⟩ = some (.int .i64 y)) (exact HOLD.out _ (by repeat' (first | with_reducible exact Below.refl _ _ | with_reducible apply b_alloc | with_reducible apply b_drew | with_reducible apply b_set | (refine @bel_trans _ ?_ _ ?_ ?_; rotate_right; with_reducible assumption)))) (first | (go_at_call 45; (with_reducible refine (HCE.out _ _ (HGR.out.keep (by repeat' (first | with_reducible exact Below.refl _ _ | with_reducible apply b_alloc | with_reducible apply b_drew | with_reducible apply b_set | (refine @bel_trans _ ?_ _ ?_ ?_; rotate_right; with_reducible assumption)))) HOKG.out).mono ?_); rintro e wC ⟨v, rfl, hown, hokv, hbC⟩; obtain ⟨va2, vc2, rfl⟩ := hown.slice; (try (refine (fun (zz : wr.heap.size < wC.heap.size) => ?_) (Nat.lt_of_lt_of_le ?_ hbC.size); rotate_right; (first | with_reducible assumption | (simp <;> omega)))); (try (refine (fun (cc : wC.cell? ⟨wr.heap.size, 0, none⟩ = some (.int .i64 0)) => ?_) ((hbC.cell (p := ⟨wr.heap.size, 0, none⟩) ?_).trans ?_); rotate_left; (first | with_reducible assumption | (simp <;> omega)); (first | with_reducible assumption | (focus (go_simp; done))))); (try (refine (fun (cc : wC.frozen? ⟨wr.heap.size, 0, none⟩ = false) => ?_) ((hbC.frozen (p := ⟨wr.heap.size, 0, none⟩) ?_).trans ?_); rotate_left; (first | with_reducible assumption | (simp <;> omega)); (first | with_reducible assumption | (focus (go_simp; done))))); (try (refine (fun (cc : wC.cell? ⟨wr.heap.size, 1, none⟩ = some (.slice none 0 0)) => ?_) ((hbC.cell (p := ⟨wr.heap.size, 1, none⟩) ?_).trans ?_); rotate_left; (first | with_reducible assumption | (simp <;> omega)); (first | with_reducible assumption | (focus (go_simp; done))))); (try (refine (fun (cc : wC.frozen? ⟨wr.heap.size, 1, none⟩ = false) => ?_) ((hbC.frozen (p := ⟨wr.heap.size, 1, none⟩) ?_).trans ?_); rotate_left; (first | with_reducible assumption | (simp <;> omega)); (first | with_reducible assumption | (focus (go_simp; done)))))))
          all_goals
            go_wp2_with fail
            go_meet
            first | (refine ⟨?_, rfl⟩; apply box_endC; (case ho => with_reducible assumption); (case hc => with_reducible assumption); (case hb => repeat' (first | with_reducible exact Below.refl _ _ | with_reducible apply b_alloc | with_reducible apply b_drew | with_reducible apply b_set | (refine @bel_trans _ ?_ _ ?_ ?_; rotate_right; with_reducible assumption))); done) | (refine ⟨?_, rfl⟩; apply box_midC (T := 25) (N0 := 0) (v0 := .slice none 0 0); (case ho => with_reducible assumption); (case hc => with_reducible assumption); (case hb => repeat' (first | with_reducible exact Below.refl _ _ | with_reducible apply b_alloc | with_reducible apply b_drew | with_reducible apply b_set | (refine @bel_trans _ ?_ _ ?_ ?_; rotate_right; with_reducible assumption))); (case hx => repeat' (first | with_reducible exact Below.refl _ _ | with_reducible apply b_alloc | with_reducible apply b_drew | with_reducible apply b_set | (refine @bel_trans _ ?_ _ ?_ ?_; rotate_right; with_reducible assumption))); done)
        obtain ⟨w70, hw70⟩ : ∃ w70, w70 = wc := ⟨_, rfl⟩
        subst hw70
        obtain ⟨⟨g9, va9, vc9, rfl, ⟨y0, y1⟩, hrow9, ⟨hge9, hlt9⟩, hb70⟩, rfl⟩ := hcut
        have HR9 := Lib.hid hrow9
        have HB70 := Lib.hid hb70
        clear hrow9 hb70 j0 j1 j2 j3
        go_wp2_with fail
        refine (HVQ.out _ _ HR9.out).mono ?_
        rintro e w71 ⟨v71, rfl, how71, hok71, hb71⟩
        obtain ⟨a71, c71, rfl, hz71⟩ := id how71
        have HY71 := Lib.hid (InR.rowI how71)
        have HB71 := Lib.hid (bel_trans HB70.out hb71)
        clear hok71 hb71 hz71 how71 y0 y1
        go_upto_region 17 with fail
        have HBV : Hid (Below w71.heap.size w71 (w71.alloc (.cells #[.int .i64 m, .int .i64 A, .slice a71 Y.length c71] 28))) := Lib.hid ((Below.refl _ _).alloc (Nat.le_refl _) _)
        have HBT : Hid (Below wr.heap.size wr (w71.alloc (.cells #[.int .i64 m, .int .i64 A, .slice a71 Y.length c71] 28))) := Lib.hid (bel_trans HB71.out HBV.out)
        have hbx := Box.new w71 28 #[.int .i64 m, .int .i64 A, .slice a71 Y.length c71]
        have u0 : (w71.alloc (.cells #[.int .i64 m, .int .i64 A, .slice a71 Y.length c71] 28)).cell? ⟨w71.heap.size, 0, none⟩ = some (.int .i64 m) := by first | (simp; done) | simpa using hbx.cell 0
        have u1 : (w71.alloc (.cells #[.int .i64 m, .int .i64 A, .slice a71 Y.length c71] 28)).cell? ⟨w71.heap.size, 1, none⟩ = some (.int .i64 A) := by first | (simp; done) | simpa using hbx.cell 1
        have u2 : (w71.alloc (.cells #[.int .i64 m, .int .i64 A, .slice a71 Y.length c71] 28)).cell? ⟨w71.heap.size, 2, none⟩ = some (.slice a71 Y.length c71) := by first | (simp; done) | simpa using hbx.cell 2
        have HYX : Hid (Row (w71.alloc (.cells #[.int .i64 m, .int .i64 A, .slice a71 Y.length c71] 28)) (.slice a71 Y.length c71) Y) := Lib.hid (HY71.out.keep HBV.out)
        clear hbx
        generalize (w71.alloc (.cells #[.int .i64 m, .int .i64 A, .slice a71 Y.length c71] 28)) = VX at HBV HBT u0 u1 u2 HYX ⊢
        obtain ⟨t0, t1, t2, -⟩ := HVE.out _ HBT.out
        go_wp2_with fail
        refine (viewSame m A m A R Y _ _ _ (HVR.out _ HBT.out) HYX.out (by have := HRL.out; have := HNN.out; omega) (by have := HYL.out; have := HNN.out; omega)).mono ?_
        rintro e w72 ⟨rfl, hb72⟩
        rw [HSM.out]
        have HB72 := Lib.hid (bel_trans HBT.out hb72)
        clear hb72 t0 t1 t2 u0 u1 u2
        cases hP : P (x, y, z)
        · have hc1 := HCB2.out hP
          clear hP
          go_wp2
          go_roundw
          case rel => first | exact ⟨k + 1, by omega, by first | rfl | rw [hc1] | (rw [hc1]; go_num), by go_num, Lib.hid (bel_trans HBW.out HB72.out)⟩ | exact ⟨_, ⟨k + 1, by omega, by first | rfl | rw [hc1] | (rw [hc1]; go_num), by go_num, Lib.hid (bel_trans HBW.out HB72.out)⟩, rfl⟩
          case measure => simp [intOf]; omega
        · obtain ⟨hc1, hc2, hc3⟩ := HCA2.out hP
          obtain ⟨bx, ox, cx2, hxe, hbx, hcx⟩ := RowE.at (HXR.out _ HB72.out) hc1
          injection hxe with hx1 hx2 hx3
          clear hx2
          subst hx1
          subst hx3
          have h9 := hcx (cn k) hc1
          rw [hc2] at h9
          obtain ⟨t0, t1, t2⟩ := h9
          simp only at t0 t1 t2
          obtain ⟨s0, s1, s2, s3⟩ := HOLD.out _ HB72.out
          obtain ⟨-, -, -, s4⟩ := HVE.out _ HB72.out
          have hc1' : (cn k : Int) < L.length := by omega
          have hd1 : decide ((L.length : Int) ≤ (cn k : Int)) = false := by simp; omega
          have hne := fun w => run_neqE x y z x y z w
          rw [show deP (x, y, z) (x, y, z) = false by simp [deP]] at hne
          have HHH := Lib.hid (And.intro hc1 hc3)
          clear hcx hc2 hc3 hP
          go_wp2
          go_quiet (fail)
          go_wp2
          go_roundw
          case rel =>
            have hck := Nat.le_trans (HCL.out k) HLE.out
            have hw64 : wrap64 ((cn k : Int) + 1) = ((cn k + 1 : Nat) : Int) := by unfold wrap64; omega
            refine ⟨k + 1, by omega, ?_, by go_num, Lib.hid ?_⟩
            · rw [HHH.out.2]; first | (rw [hw64]; done) | (simp only [hw64]; done) | go_num
            · exact bel_trans HBW.out (below_drewN0 HB72.out _)
          case measure => simp [intOf]; omega
      · have hke : k = es.length := by omega
        subst hke
        have hkk : ¬ ((es.length : Int) < es.length) := by omega
        rw [HCF.out]
        go_wp2
        go_ret
        exact ⟨by first | rfl | simp, bel_trans H6 HBW.out⟩

set_option maxRecDepth 100000 in
theorem lifted (os : Os) (started : os.Started) (H : Type) (enc : TypeId × Value → H) :
    ReturnsInHanded {} Try.checked os 12 .any (Rows.fnCriticalCutSpec.pre6 enc Try.prog Try.f12 Rows.fnCriticalCutRow.domain false) (Rows.fnCriticalCutSpec.post enc Try.prog Try.f12 false true false false) := by
  refine returnsInHanded_of_change (C := Try.checked) own started (by kernel_rfl) Try.func12
    (ChangeSpec.witness6 (enc := enc) (C := Try.checked) false ⟨#[], #[.slice none 0 0], []⟩ 8 (by kernel_rfl) (by kernel_rfl) (by kernel_rfl) (by kernel_rfl)) ?_
  intro W base args ds gs before hval0 hW hcnd _
  have hval : ∀ (j : Nat) t v, Try.f12.params[j]? = some t → args[j]? = some v → Value.okWide Try.prog W .any base t v := hval0
  have hW' := hW
  obtain ⟨p, q, hA0, hV, rfl, hfz, hnd⟩ := hW
  have hA : DataW.TrodAll enc Try.prog W 0 (fun _ => true) true Try.f12.params.toList args.toList ds p := hA0
  rw [Try.params12] at hA hval
  obtain ⟨v0, vs0, d0, ds0, p0, q0, hargs, rfl, rfl, h0, r0⟩ := trodAll_cons hA
  obtain ⟨rfl, rfl, rfl⟩ := trodAll_nil r0
  obtain rfl : args = #[v0] := by cases args; simp_all
  obtain ⟨rfl, rfl⟩ := trodVars_none hV
  obtain ⟨a0, len0, cap0, rfl⟩ := okWide_slice Try.underlying22 (hval 0 22 v0 rfl rfl)
  have k0 := h0
  have lt0 : ∀ x ∈ p0, x.block < W.heap.size := by obtain ⟨m, hm⟩ := k0; exact DataW.trod_lt m _ _ _ hm
  obtain ⟨z0, w0⟩ : ∃ zs, IsRow .u8 W a0 len0 cap0 zs := by
    obtain ⟨fuel, hf⟩ := h0
    rcases open_ints Try.underlying22 Try.underlying5 (by kernel_rfl) hf with ⟨hcs, _⟩ | ⟨x, l, c, zs, hcs, _, hl, hm, hz, _, hcell, hwz⟩
    · simp [Value.cells] at hcs
      obtain ⟨rfl, rfl, rfl⟩ := hcs
      exact ⟨[], .inl ⟨rfl, rfl, rfl, rfl⟩⟩
    · simp [Value.cells] at hcs
      obtain ⟨rfl, rfl, rfl⟩ := hcs
      exact ⟨zs, .inr ⟨_, rfl, hl, hm, by simpa using hz, hcell, hwz⟩⟩
  clear hA0 hval0
  refine (walk a0 len0 cap0 z0 W w0).mono fun e W' ⟨he, bel⟩ => ?_
  subst he
  exact ⟨_, rfl, _, _, _, [], _, [], hW', trodAll_mk1 (shut_bool Try.underlying4 _), (trodAll_cons_mk (Below.trod laidOut (by kernel_rfl) (of_decide_eq_true (by kernel_rfl)) k0 bel lt0) trodAll_mk0), rfl, bel.frame _, fun h => by cases h⟩

theorem over : Rows.fnCriticalCutRow.holds Try.pinned (OpenSpec.ofChange Rows.fnCriticalCutSpec) :=
  OpenClaim.holds_of_wide 12 Try.f12 rfl rfl rfl rfl rfl rfl rfl ⟨rfl, rfl, rfl, rfl, rfl⟩ rfl rfl rfl rfl rfl (by kernel_rfl) Try.func12 (by kernel_rfl)
    (of_decide_eq_true (by kernel_rfl)) (by unfold Func.isWrapper; first | (rw [if_pos (by decide +kernel)]; kernel_rfl) | (rw [if_neg (by decide +kernel)]; exact ⟨rfl, rfl⟩))
    (fun os started H enc _ => lifted os started H enc)

theorem proved : Rows.FnCriticalCutSaid := over
end Go.Proofs.Ytbinpaaihdcnlaa.fnCriticalCut
