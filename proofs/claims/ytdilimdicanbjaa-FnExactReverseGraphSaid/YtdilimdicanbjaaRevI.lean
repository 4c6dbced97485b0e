/- ReverseGraph, in the program. -/
import Derived.Test.YtdilimdicanbjaaRv
import Derived.Test.YtdilimdicanbjaaSort
import Derived.Test.YtdilimdicanbjaaCutI
import Derived.Test.YtdilimdicanbjaaBoxes
namespace Go.Proofs.Ytdilimdicanbjaa
open Go.RowKit Go.BigFrame Go.Deep
set_option linter.unusedVariables false
set_option linter.unusedSimpArgs false

/-- What ReverseGraph answers. -/
def rgN (n : Int) (es : List Ed) : Int := if gVal n es = true then n else 0
def rgL (n : Int) (es : List Ed) : List Ed := if gVal n es = true then rvL es else []
theorem rgL_len (n : Int) (es : List Ed) : (rgL n es).length ≤ 40 := by
  unfold rgL
  split
  · rename_i h; have := (rvL_val h).2.2; have := (gVal_iff.1 h).1.2.2; omega
  · simp

set_option maxRecDepth 20000 in
set_option maxHeartbeats 4000000 in
theorem reverseGraph (n : Int) (es : List Ed) (s : Value) (w : World) (hs : RowE w s es) (hl : es.length ≤ 1048576) :
    Calls Try.prog 33 #[.agg #[.int .i64 n, s]] w fun e w' => ∃ v, e = .returned (.tuple #[.agg #[.int .i64 (rgN n es), v], .bool (gVal n es)]) ∧ OwnE w w' v (rgL n es) ∧ okS v ∧ Below w.heap.size w w' := by
  have hl2 : es.length ≤ 281474976710656 := by omega
  obtain ⟨ad, cap, hs0, hz0⟩ := id hs
  subst hs0
  have hgv := fun w' (h : Below w.heap.size w w') => graphValid n es (.slice ad es.length cap) w' (hs.keep h) hl2
  have hb2 : Below w.heap.size w ((w.alloc (.cells #[.int .i64 n, .slice ad es.length cap] 42)).alloc (.cells #[.int .i64 0, .slice none 0 0] 42)) := ((Below.refl _ _).alloc (Nat.le_refl _) _).alloc (by simp) _
  have hx0 : Box ((w.alloc (.cells #[.int .i64 n, .slice ad es.length cap] 42)).alloc (.cells #[.int .i64 0, .slice none 0 0] 42)) w.heap.size 42 #[.int .i64 n, .slice ad es.length cap] := (Box.new w _ _).alloc _
  have hx1 : Box ((w.alloc (.cells #[.int .i64 n, .slice ad es.length cap] 42)).alloc (.cells #[.int .i64 0, .slice none 0 0] 42)) (w.heap.size + 1) 42 #[.int .i64 0, .slice none 0 0] := by
    have := Box.new (w.alloc (.cells #[.int .i64 n, .slice ad es.length cap] 42)) 42 #[.int .i64 0, .slice none 0 0]
    simpa using this
  have K0 := Lib.hid (And.intro hb2 (And.intro hx0 hx1))
  have HZ := Lib.hid hz0
  clear hb2 hx0 hx1 hz0 hs
  cases hg : gVal n es
  · have e1 : rgN n es = 0 := by unfold rgN; rw [hg]; rfl
    have e2 : rgL n es = [] := by unfold rgL; rw [hg]; rfl
    rw [e1, e2]
    rw [hg] at hgv
    have HV := Lib.hid hgv
    clear hgv e1 e2 hg
    go_enter Try.func33, Try.ntmps33
    go_wp2_with fail
    generalize ((w.alloc (.cells #[.int .i64 n, .slice ad es.length cap] 42)).alloc (.cells #[.int .i64 0, .slice none 0 0] 42)) = v0 at K0 ⊢
    refine (HV.out _ K0.out.1).mono ?_
    rintro e v1 ⟨rfl, hb1⟩
    have K1 := Lib.hid (And.intro (bel_trans K0.out.1 hb1) (K0.out.2.2.keep hb1))
    have y0 : v1.cell? ⟨w.heap.size + 1, 0, none⟩ = some (.int .i64 0) := by simpa using K1.out.2.cell 0
    have y1 : v1.cell? ⟨w.heap.size + 1, 1, none⟩ = some (.slice none 0 0) := by simpa using K1.out.2.cell 1
    have f0 := K1.out.2.frozen 0
    have f1 := K1.out.2.frozen 1
    clear hb1
    go_wp2
    try simp only [Exit.inBlock, Exit.then]
    refine bodyPost_ret (v := .tuple #[.agg #[.int .i64 0, .slice none 0 0], .bool false]) ?_ rfl ?_
    · rw [results_cell_tmp rfl]
      go_simp
    exact ⟨_, rfl, ownE_nil _ _, okS_nil, (K1.out.1.setCell (by simp only; omega) _).setCell (by simp only; omega) _⟩
  have e1 : rgN n es = n := by unfold rgN; rw [if_pos hg]
  have e2 : rgL n es = rvL es := by unfold rgL; rw [if_pos hg]
  rw [e1, e2]
  rw [hg] at hgv
  have HV := Lib.hid hgv
  have HG := Lib.hid hg
  have hmk := run_make_rowN (P := Try.prog) 40 72 (.agg #[.int .i64 0, .int .i64 0, .int .i64 0]) #[.int .i64 0, .int .i64 0, .int .i64 0] 3 24 Try.underlying40 info_edge (by rfl) .i64 .i64 es.length (by omega) (by omega)
  have hso := fun g w' h => sortEdges (es.map swE) g es.length 72 w' h (by simpa using hl)
  rw [List.length_map] at hso
  have HSO := Lib.hid hso
  clear hgv e1 e2 hg hso
  go_enter Try.func33, Try.ntmps33
  go_wp2_with fail
  generalize ((w.alloc (.cells #[.int .i64 n, .slice ad es.length cap] 42)).alloc (.cells #[.int .i64 0, .slice none 0 0] 42)) = v0 at K0 ⊢
  refine (HV.out _ K0.out.1).mono ?_
  rintro e v1 ⟨rfl, hb1⟩
  have K1 := Lib.hid (And.intro (bel_trans K0.out.1 hb1) (And.intro (K0.out.2.1.keep hb1) (K0.out.2.2.keep hb1)))
  have x0 : v1.cell? ⟨w.heap.size, 0, none⟩ = some (.int .i64 n) := by simpa using K1.out.2.1.cell 0
  have x1 : v1.cell? ⟨w.heap.size, 1, none⟩ = some (.slice ad es.length cap) := by simpa using K1.out.2.1.cell 1
  have z1 : w.heap.size + 1 < v1.heap.size := K1.out.2.2.lt
  have z0 : w.heap.size < v1.heap.size := K1.out.2.1.lt
  clear hb1
  go_wp2
  clear hmk x0 x1
  go_loopw [18] (fun c wr => ∃ k : Nat, k ≤ es.length ∧ c = .int .i64 k ∧ Hid (wr.rowIs v1.heap.size 72 (es.length * 3) (partE (es.map swE) k)) ∧ Hid (Below v1.heap.size v1 wr)) (fun c _ => es.length - (intOf c).toNat)
  case atStart => exact ⟨0, Nat.zero_le _, rfl, Lib.hid (made_part (es.map swE) v1 _ _), Lib.hid ((Below.refl _ _).alloc (Nat.le_refl _) _)⟩
  case round =>
    obtain ⟨k, hk, rfl, HR, HX⟩ := hrel
    have HW := Lib.hid (bel_trans K1.out.1 HX.out)
    have x1 : wr.cell? ⟨w.heap.size, 1, none⟩ = some (.slice ad es.length cap) := by simpa using (K1.out.2.1.keep HX.out).cell 1
    by_cases hlt : k < es.length
    · have hlt' : (k : Int) < es.length := by omega
      rcases HZ.out with h0 | ⟨b, off, rfl, hb, hc⟩
      · rw [h0] at hlt; simp at hlt
      obtain ⟨x, y, z, hx⟩ : ∃ x y z, (x, y, z) = es.getD k (0, 0, 0) := ⟨_, _, _, rfl⟩
      obtain ⟨c0, c1, c2⟩ := hc k hlt
      rw [← HW.out.cell (p := ⟨b, _, none⟩) hb, ← hx] at c0 c1 c2
      simp only at c0 c1 c2
      have hsw : (y, x, z) = (es.map swE).getD k (0, 0, 0) := by simp [List.getD, hlt] at hx ⊢; rw [← hx]; rfl
      have HSW := Lib.hid hsw
      have HRA := Lib.hid (HR.out.of_block (((Below.refl _ wr).alloc (Nat.le_refl _) (.cells #[.int .i64 x, .int .i64 y, .int .i64 z] 72)).block _ HR.out.lt))
      have t0 := HRA.out.cell (i := k * 3) (by omega)
      have t1 := HRA.out.cell (i := k * 3 + 1) (by omega)
      have t2 := HRA.out.cell (i := k * 3 + 2) (by omega)
      have u0 := HRA.out.frozen (k * 3)
      have u1 := HRA.out.frozen (k * 3 + 1)
      have u2 := HRA.out.frozen (k * 3 + 2)
      have q0 : wr.cell? ⟨v1.heap.size, k * 3, none⟩ = some (partE (es.map swE) k (k * 3)) := HR.out.cell (by omega)
      have q1 : wr.cell? ⟨v1.heap.size, k * 3 + 1, none⟩ = some (partE (es.map swE) k (k * 3 + 1)) := HR.out.cell (by omega)
      have q2 : wr.cell? ⟨v1.heap.size, k * 3 + 2, none⟩ = some (partE (es.map swE) k (k * 3 + 2)) := HR.out.cell (by omega)
      have p0 := HR.out.frozen (k * 3)
      have p1 := HR.out.frozen (k * 3 + 1)
      have p2 := HR.out.frozen (k * 3 + 2)
      have hlr : v1.heap.size < wr.heap.size := HR.out.lt
      clear hc hx hsw t0 t1 t2 u0 u1 u2
      go_wp2
      go_roundw
      case rel =>
        have hz1 : w.heap.size + 1 < v1.heap.size := z1
        exact ⟨k + 1, by omega, by go_num, Lib.hid ((by
          have h9 : (((wr.setCell ⟨v1.heap.size, k * 3, none⟩ (.int .i64 y)).setCell ⟨v1.heap.size, k * 3 + 1, none⟩ (.int .i64 x)).setCell ⟨v1.heap.size, k * 3 + 2, none⟩ (.int .i64 z)).rowIs v1.heap.size 72 (es.length * 3) (partE (es.map swE) (k + 1)) := (((HR.out.set _ _).set _ _).set _ _).congr (fun i hi => by rw [part_step, ← HSW.out])
          exact h9.of_block (((Below.refl _ _).alloc (Nat.le_refl _) _).block _ (by simpa using hlr)))), Lib.hid ((((HX.out.setCell (Nat.le_refl _) _).setCell (Nat.le_refl _) _).setCell (Nat.le_refl _) _).alloc (by simp; omega) _)⟩
      case measure => simp [intOf]; omega
    · have hke : k = es.length := by omega
      have hkk : ¬ ((k : Int) < es.length) := by omega
      have HK := Lib.hid hke
      have hrow : wr.rowIs v1.heap.size 72 (es.length * 3) (cellE (es.map swE)) := HR.out.congr (fun i hi => by unfold partE; rw [if_pos (by rw [HK.out]; exact hi)])
      have HROW := Lib.hid hrow
      clear hke hrow
      go_wp2_with fail
      refine (HSO.out _ _ HROW.out).mono ?_
      rintro e w7 ⟨rfl, L, hperm, hsort, hrow7, hB7⟩
      have HL := Lib.hid (rv_sorted HG.out hperm hsort)
      have hV := hB7 v1 (Nat.le_refl _) HX.out
      have g0 : w7.cell? ⟨w.heap.size, 0, none⟩ = some (.int .i64 n) := by simpa using (K1.out.2.1.keep hV).cell 0
      have y0 : w7.cell? ⟨w.heap.size + 1, 0, none⟩ = some (.int .i64 0) := by simpa using (K1.out.2.2.keep hV).cell 0
      have y1 : w7.cell? ⟨w.heap.size + 1, 1, none⟩ = some (.slice none 0 0) := by simpa using (K1.out.2.2.keep hV).cell 1
      have f0 := (K1.out.2.2.keep hV).frozen 0
      have f1 := (K1.out.2.2.keep hV).frozen 1
      have HV7 := Lib.hid hV
      have HR7 := Lib.hid hrow7
      have HLL := Lib.hid (hperm.length_eq.trans (List.length_map ..))
      clear hperm hsort hB7 hrow7 hV x1
      go_wp2
      try simp only [Exit.inBlock, Exit.then]
      refine bodyPost_ret (v := .tuple #[.agg #[.int .i64 n, .slice (some ⟨v1.heap.size, 0, none⟩) es.length es.length], .bool true]) ?_ rfl ?_
      · rw [results_cell_tmp rfl]
        go_simp
      have hW7 := bel_trans K1.out.1 HV7.out
      have hrow8 := HR7.out
      rw [HL.out] at hrow8
      have hll : es.length = (rvL es).length := by rw [← HL.out]; exact HLL.out.symm
      refine ⟨_, rfl, ?_, okS_some (Nat.le_refl _), (hW7.setCell (by simp only; omega) _).setCell (by simp only; omega) _⟩
      have hnew : NewE w ((w7.setCell ⟨w.heap.size + 1, 0, none⟩ (.int .i64 n)).setCell ⟨w.heap.size + 1, 1, none⟩ (.slice (some ⟨v1.heap.size, 0, none⟩) es.length es.length)) (.slice (some ⟨v1.heap.size, 0, none⟩) es.length es.length) (rvL es) := ⟨v1.heap.size, es.length, by rw [hll], ⟨by omega, by omega⟩, (hrow8.setOther (by simp only; omega) _).setOther (by simp only; omega) _⟩
      exact hnew.inR
end Go.Proofs.Ytdilimdicanbjaa
