/- CountBest, in the program and in the model. -/
import Derived.Test.YtdblcaeeepkebaaCountL
import Derived.Test.YtdblcaeeepkebaaRowAt
import Derived.Test.YtdblcaeeepkebaaBoxes
import Derived.Test.YtdblcaeeepkebaaClone
import Derived.Test.YtdblcaeeepkebaaLooseM
import Derived.Test.YtdblcaeeepkebaaViewS
import Derived.Test.YtdblcaeeepkebaaFind3
import Derived.Test.YtdblcaeeepkebaaVStartT
import Derived.Deep.CutBlock
import Derived.Deep.CutRange
namespace Go.Proofs.Ytdblcaeeepkebaa
open Go.RowKit Go.BigFrame Go.Deep
set_option linter.unusedVariables false
set_option linter.unusedSimpArgs false

theorem Wr.madeC (w : World) (N : Nat) : Wr (w.alloc (.cells (madeCells #[.int .i64 0] N) 3)) w.heap.size 0 (List.replicate N 0) := by
  obtain ⟨c, h1, h2, h3⟩ := World.rowIs_made w (.int .i64 0) N 3
  have hs : w.heap.size < (w.alloc (.cells (madeCells #[.int .i64 0] N) 3)).heap.size := by simp
  generalize (w.alloc (.cells (madeCells #[.int .i64 0] N) 3)) = W at h1 hs ⊢
  refine ⟨hs, fun i hi => ?_⟩
  have hi' : i < N := by simpa using hi
  have e : (List.replicate N (0 : Int)).getD i 0 = 0 := by simp [List.getD, hi']
  rw [e, Nat.zero_add]
  exact ⟨by simp [World.cell?, h1, h3 i hi'], by simp [World.frozen?, h1]⟩
theorem cwT_succ (es : List Ed) (cs : List Int) {k : Nat} (hk : k < es.length) : (es.take (k + 1)).foldl (cwUp cs) (List.replicate cs.length 0) = cwUp cs ((es.take k).foldl (cwUp cs) (List.replicate cs.length 0)) (es.getD k (0, 0, 0)) := by
  rw [List.take_succ_eq_append_getElem hk, List.foldl_append]
  simp [List.getD, hk]
theorem ccT_succ (L : List Int) (l : Int) (es : List Ed) (cs : List Int) {k : Nat} (hk : k < es.length) : (es.take (k + 1)).foldl (ccUp L l) cs = ccUp L l ((es.take k).foldl (ccUp L l) cs) (es.getD k (0, 0, 0)) := by
  rw [List.take_succ_eq_append_getElem hk, List.foldl_append]
  simp [List.getD, hk]
theorem ccUp_length (L : List Int) (k : Int) (acc : List Int) (e : Ed) : (ccUp L k acc e).length = acc.length := by unfold ccUp; split; simp; rfl
theorem ccF_length (L : List Int) (k : Int) : ∀ (l : List Ed) (acc : List Int), (l.foldl (ccUp L k) acc).length = acc.length
  | [], _ => rfl
  | e :: l, acc => by rw [List.foldl_cons, ccF_length L k l, ccUp_length]
theorem ccIt_length (L : List Int) (es : List Ed) (N a : Nat) : ∀ k, (ccIt L es N a k).length = N
  | 0 => cStart_length
  | k + 1 => by rw [ccIt, ccF_length, ccIt_length L es N a k]
theorem ccUp_at (L : List Int) (k : Int) (acc : List Int) (x y z : Int) : ccUp L k acc (x, y, z) = if L.getD y.toNat 0 = k ∧ L.getD x.toNat 0 = k - 1 then acc.set y.toNat (IntKind.i64.wrap (acc.getD y.toNat 0 + acc.getD x.toNat 0)) else acc := rfl
/-- What is answered. -/
def cbB (n : Int) (es : List Ed) (a x : Int) : Bool := gVal n es && inN n a && inN n x
def cbN (n : Int) (es : List Ed) (a x : Int) : Int := if cbB n es a x = true then ciR es x.toNat n.toNat (cStart n.toNat a.toNat) else 0

set_option maxRecDepth 20000 in
set_option maxHeartbeats 4000000 in
theorem countsOfLonger (es : List Ed) (cs : List Int) (s t : Value) (w : World) (hs : RowE w s es) (ht : Row w t cs) (hl : es.length ≤ 1048576) (hl2 : cs.length ≤ 1048576) (h0 : 0 < cs.length) (he : eAll cs.length es) :
    Calls Try.prog 72 #[s, t] w fun e w' => ∃ b, e = .returned (.slice (some ⟨b, 0, none⟩) cs.length cs.length) ∧ w.heap.size ≤ b ∧ Wr w' b 0 (cw es cs) ∧ Below w.heap.size w w' := by
  obtain ⟨ad, cap, rfl, hz0⟩ := hs
  obtain ⟨tb, tq, tc, rfl, htb, htc⟩ := ht.at h0
  have HZ := Lib.hid hz0
  have HT := Lib.hid (And.intro htb htc)
  have HE := Lib.hid he
  obtain ⟨S, hS⟩ : ∃ S, S = w.heap.size := ⟨_, rfl⟩
  have hst : Wr (w.alloc (.cells (madeCells #[.int .i64 0] cs.length) 3)) S 0 ((es.take 0).foldl (cwUp cs) (List.replicate cs.length 0)) := by rw [hS]; exact Wr.madeC w cs.length
  have HST := Lib.hid (And.intro hst ((Below.refl _ w).alloc (Nat.le_refl _) (.cells (madeCells #[.int .i64 0] cs.length) 3)))
  have HSS := Lib.hid hS
  clear hz0 htb htc ht he hst
  have hmk := run_make_row' (P := Try.prog) 26 3 (.int .i64 0) 8 Try.underlying26 info_int2 rfl .i64 .i64 cs.length (by omega) (by omega)
  go_enter Try.func72, Try.ntmps72
  go_wp2
  clear hmk
  rw [← HSS.out]
  generalize (w.alloc (.cells (madeCells #[.int .i64 0] cs.length) 3)) = W1 at HST ⊢
  clear hS
  go_loopw [13] (fun c wr => ∃ k : Nat, k ≤ es.length ∧ c = .int .i64 k ∧ Hid (Wr wr S 0 ((es.take k).foldl (cwUp cs) (List.replicate cs.length 0)) ∧ Below w.heap.size w wr)) (fun c _ => es.length - (intOf c).toNat)
  case atStart => exact ⟨0, Nat.zero_le _, rfl, HST⟩
  case round =>
    obtain ⟨k, hk, rfl, H⟩ := hrel
    by_cases hlt : k < es.length
    · have hlt' : (k : Int) < es.length := by omega
      rcases HZ.out with h00 | ⟨b, off, rfl, hb, hc⟩
      · rw [h00] at hlt; simp at hlt
      obtain ⟨x, y, z, hx⟩ : ∃ x y z, (x, y, z) = es.getD k (0, 0, 0) := ⟨_, _, _, rfl⟩
      obtain ⟨X, Y, rfl, rfl, hX, hY, hwz⟩ := edge_nat HE.out hlt hx
      have h1 := hc k hlt
      rw [← hx] at h1
      simp only at h1
      have c0 := (H.out.2.cell (p := ⟨b, off + k * 3, none⟩) hb).trans h1.1
      have c1 := (H.out.2.cell (p := ⟨b, off + k * 3 + 1, none⟩) hb).trans h1.2.1
      have c2 := (H.out.2.cell (p := ⟨b, off + k * 3 + 2, none⟩) hb).trans h1.2.2
      have hsc := cwT_succ es cs hlt
      rw [← hx] at hsc
      have hml : ((es.take k).foldl (cwUp cs) (List.replicate cs.length 0)).length = cs.length := by rw [cwF_length, List.length_replicate]
      obtain ⟨M, hM⟩ : ∃ M, M = (es.take k).foldl (cwUp cs) (List.replicate cs.length 0) := ⟨_, rfl⟩
      rw [← hM] at hsc hml H
      unfold cwUp at hsc
      obtain ⟨p, hp⟩ : ∃ p, p = M.getD Y 0 := ⟨_, rfl⟩
      obtain ⟨r, hr⟩ : ∃ r, r = cs.getD X 0 := ⟨_, rfl⟩
      obtain ⟨q, hq⟩ : ∃ q, q = IntKind.i64.wrap (p + r) := ⟨_, rfl⟩
      have hsc2 : (es.take (k + 1)).foldl (cwUp cs) (List.replicate cs.length 0) = M.set Y q := by rw [hq, hp, hr]; exact hsc
      have hwr : IntKind.i64.wrap (p + r) = q := hq.symm
      have hYc : Y < M.length := by omega
      have hcp := H.out.1.2 Y hYc
      rw [← hp, Nat.zero_add] at hcp
      have hcr := (H.out.2.cell (p := ⟨tb, tq + X, none⟩) HT.out.1).trans (by rw [HT.out.2 X hX, ← hr])
      have hYl : (Y : Int) < cs.length := by omega
      have hXl : (X : Int) < cs.length := by omega
      have hSl := H.out.1.1
      have htl : tb < wr.heap.size := Nat.lt_of_lt_of_le HT.out.1 H.out.2.size
      have hff : (wr.alloc (.cells #[.int .i64 X, .int .i64 Y, .int .i64 z] 79)).cell? ⟨wr.heap.size, 0, none⟩ = some (.int .i64 X) ∧ (wr.alloc (.cells #[.int .i64 X, .int .i64 Y, .int .i64 z] 79)).cell? ⟨wr.heap.size, 1, none⟩ = some (.int .i64 Y) ∧ (wr.alloc (.cells #[.int .i64 X, .int .i64 Y, .int .i64 z] 79)).cell? ⟨S, Y, none⟩ = some (.int .i64 p) ∧ (wr.alloc (.cells #[.int .i64 X, .int .i64 Y, .int .i64 z] 79)).frozen? ⟨S, Y, none⟩ = false ∧ (wr.alloc (.cells #[.int .i64 X, .int .i64 Y, .int .i64 z] 79)).cell? ⟨tb, tq + X, none⟩ = some (.int .i64 r) :=
        have hb := (Below.refl _ wr).alloc (Nat.le_refl _) (.cells #[.int .i64 X, .int .i64 Y, .int .i64 z] 79)
        ⟨by go_simp, by go_simp, (hb.cell (p := ⟨S, _, none⟩) hSl).trans hcp.1, (hb.frozen (p := ⟨S, _, none⟩) hSl).trans hcp.2, (hb.cell (p := ⟨tb, _, none⟩) htl).trans hcr⟩
      have HN : Hid (Wr ((wr.alloc (.cells #[.int .i64 X, .int .i64 Y, .int .i64 z] 79)).setCell ⟨S, Y, none⟩ (.int .i64 q)) S 0 ((es.take (k + 1)).foldl (cwUp cs) (List.replicate cs.length 0)) ∧ Below w.heap.size w ((wr.alloc (.cells #[.int .i64 X, .int .i64 Y, .int .i64 z] 79)).setCell ⟨S, Y, none⟩ (.int .i64 q))) := Lib.hid (by
        have h2 := (H.out.1.keep ((Below.refl _ wr).alloc (Nat.le_refl _) (.cells #[.int .i64 X, .int .i64 Y, .int .i64 z] 79))).set hYc q
        rw [Nat.zero_add] at h2
        exact ⟨by rw [hsc2]; exact h2, (H.out.2.alloc H.out.2.size _).setCell (by rw [HSS.out]; exact Nat.le_refl _) _⟩)
      have HFF := Lib.hid hff
      clear hc h1 hx hsc hsc2 hml hM hp hr hq hcp hcr hff hwz
      go_wp2
      generalize (wr.alloc (.cells #[.int .i64 X, .int .i64 Y, .int .i64 z] 79)) = W2 at HN HFF ⊢
      clear c0 c1 c2
      obtain ⟨f0, f1, f2, f3, f4⟩ := HFF.out
      have HND := Lib.hid (And.intro (HN.out.1.keep ((Below.refl _ _).drew)) HN.out.2.drew)
      go_region
      all_goals go_wp2
      all_goals go_roundw
      all_goals first | (simp [intOf]; omega) | exact ⟨k + 1, by omega, by go_num, HN⟩ | exact ⟨k + 1, by omega, by go_num, HND⟩ | ((repeat apply Exists.intro); exact ⟨⟨k + 1, by omega, by go_num, HND⟩, rfl⟩)
    · have hke : k = es.length := by omega
      have hkk : ¬ ((k : Int) < es.length) := by omega
      have HK := Lib.hid hke
      clear hke
      go_wp2
      go_ret
      refine ⟨S, rfl, by rw [HSS.out]; exact Nat.le_refl _, ?_, H.out.2⟩
      have h := H.out.1
      rw [HK.out, List.take_length] at h
      exact h

theorem rowN {w : World} {b : Nat} {zs : List Int} {N cap : Nat} (hl : zs.length = N) (h : Row w (.slice (some ⟨b, 0, none⟩) zs.length cap) zs) : Row w (.slice (some ⟨b, 0, none⟩) N cap) zs := by rw [← hl]; exact h

set_option maxRecDepth 20000 in
set_option maxHeartbeats 4000000 in
theorem countBest (n a x : Int) (es : List Ed) (s : Value) (w : World) (hs : RowE w s es) (hl : es.length ≤ 281474976710656) :
    Calls Try.prog 33 #[.agg #[.int .i64 n, s], .int .i64 a, .int .i64 x] w fun e w' => e = .returned (.tuple #[.int .i64 (cbN n es a x), .bool (cbB n es a x)]) ∧ Below w.heap.size w w' := by
  have hv := fun w' (h : Below w.heap.size w w') => graphValid n es s w' (hs.keep h) hl
  have hh := fun (y : Int) w' => hasNode n y s w'
  have hS := Lib.hid hs
  obtain ⟨ad, cap, rfl, hz0⟩ := hs
  have K0 := Lib.hid (And.intro ((Below.refl _ w).alloc (Nat.le_refl _) (.cells #[.int .i64 n, .slice ad es.length cap] 31)) (Box.new w 31 #[.int .i64 n, .slice ad es.length cap]))
  clear hz0
  unfold cbN cbB
  have e1 : ∀ y, (decide (0 ≤ y) && decide (y < n)) = inN n y := fun _ => rfl
  simp only [e1] at hh
  clear e1
  have h1 := fun w' => hh a w'
  have h2 := fun w' => hh x w'
  clear hh
  cases hG : gVal n es
  · rw [hG] at hv
    have HV := Lib.hid hv
    rw [Bool.false_and, Bool.false_and, if_neg (by decide)]
    clear hv hG h1 h2
    go_enter Try.func33, Try.ntmps33
    go_wp2_with fail
    generalize (w.alloc (.cells #[.int .i64 n, .slice ad es.length cap] 31)) = w0 at K0 ⊢
    have x0 : w0.cell? ⟨w.heap.size, 0, none⟩ = some (.int .i64 n) := by simpa using K0.out.2.cell 0
    have x1 : w0.cell? ⟨w.heap.size, 1, none⟩ = some (.slice ad es.length cap) := by simpa using K0.out.2.cell 1
    go_wp2_with (go_at_call 71; (with_reducible refine (HV.out _ K0.out.1).mono ?_); rintro e w1 ⟨rfl, hb1⟩; have K1 := Lib.hid (And.intro (bel_trans K0.out.1 hb1) (K0.out.2.keep hb1)); clear x0 x1 hb1; have x0 : w1.cell? ⟨w.heap.size, 0, none⟩ = some (.int .i64 n) := (by simpa using K1.out.2.cell 0); have x1 : w1.cell? ⟨w.heap.size, 1, none⟩ = some (.slice ad es.length cap) := (by simpa using K1.out.2.cell 1))
    go_ret2
    exact ⟨rfl, K1.out.1⟩
  rw [hG] at hv
  have HV := Lib.hid hv
  cases hA : inN n a
  · rw [hA] at h1
    have H1 := Lib.hid h1
    rw [Bool.and_false, Bool.false_and, if_neg (by decide)]
    clear hv hG h1 h2 hA
    go_enter Try.func33, Try.ntmps33
    go_wp2_with fail
    generalize (w.alloc (.cells #[.int .i64 n, .slice ad es.length cap] 31)) = w0 at K0 ⊢
    have x0 : w0.cell? ⟨w.heap.size, 0, none⟩ = some (.int .i64 n) := by simpa using K0.out.2.cell 0
    have x1 : w0.cell? ⟨w.heap.size, 1, none⟩ = some (.slice ad es.length cap) := by simpa using K0.out.2.cell 1
    go_wp2_with (first | (go_at_call 71; (with_reducible refine (HV.out _ K0.out.1).mono ?_); rintro e w1 ⟨rfl, hb1⟩; have K1 := Lib.hid (And.intro (bel_trans K0.out.1 hb1) (K0.out.2.keep hb1)); clear x0 x1 hb1; have x0 : w1.cell? ⟨w.heap.size, 0, none⟩ = some (.int .i64 n) := (by simpa using K1.out.2.cell 0); have x1 : w1.cell? ⟨w.heap.size, 1, none⟩ = some (.slice ad es.length cap) := (by simpa using K1.out.2.cell 1)) | (go_at_call 67; (with_reducible refine (H1.out _).mono ?_); rintro e w2 ⟨rfl, hb2⟩; have K2 := Lib.hid (And.intro (bel_trans K1.out.1 hb2) (K1.out.2.keep hb2)); clear x0 x1 hb2; have x0 : w2.cell? ⟨w.heap.size, 0, none⟩ = some (.int .i64 n) := (by simpa using K2.out.2.cell 0); have x1 : w2.cell? ⟨w.heap.size, 1, none⟩ = some (.slice ad es.length cap) := (by simpa using K2.out.2.cell 1)))
    go_ret2
    exact ⟨rfl, K2.out.1⟩
  rw [hA] at h1
  have H1 := Lib.hid h1
  cases hX : inN n x
  · rw [hX] at h2
    have H2 := Lib.hid h2
    rw [Bool.and_false, if_neg (by decide)]
    clear hv hG h1 h2 hA hX
    go_enter Try.func33, Try.ntmps33
    go_wp2_with fail
    generalize (w.alloc (.cells #[.int .i64 n, .slice ad es.length cap] 31)) = w0 at K0 ⊢
    have x0 : w0.cell? ⟨w.heap.size, 0, none⟩ = some (.int .i64 n) := by simpa using K0.out.2.cell 0
    have x1 : w0.cell? ⟨w.heap.size, 1, none⟩ = some (.slice ad es.length cap) := by simpa using K0.out.2.cell 1
    go_wp2_with (first | (go_at_call 71; (with_reducible refine (HV.out _ K0.out.1).mono ?_); rintro e w1 ⟨rfl, hb1⟩; have K1 := Lib.hid (And.intro (bel_trans K0.out.1 hb1) (K0.out.2.keep hb1)); clear x0 x1 hb1; have x0 : w1.cell? ⟨w.heap.size, 0, none⟩ = some (.int .i64 n) := (by simpa using K1.out.2.cell 0); have x1 : w1.cell? ⟨w.heap.size, 1, none⟩ = some (.slice ad es.length cap) := (by simpa using K1.out.2.cell 1)) | (go_at_call 67; (with_reducible refine (H1.out _).mono ?_); rintro e w2 ⟨rfl, hb2⟩; have K2 := Lib.hid (And.intro (bel_trans K1.out.1 hb2) (K1.out.2.keep hb2)); clear x0 x1 hb2; have x0 : w2.cell? ⟨w.heap.size, 0, none⟩ = some (.int .i64 n) := (by simpa using K2.out.2.cell 0); have x1 : w2.cell? ⟨w.heap.size, 1, none⟩ = some (.slice ad es.length cap) := (by simpa using K2.out.2.cell 1)) | (go_at_call 67; (with_reducible refine (H2.out _).mono ?_); rintro e w3 ⟨rfl, hb3⟩; have K3 := Lib.hid (And.intro (bel_trans K2.out.1 hb3) (K2.out.2.keep hb3)); clear x0 x1 hb3; have x0 : w3.cell? ⟨w.heap.size, 0, none⟩ = some (.int .i64 n) := (by simpa using K3.out.2.cell 0); have x1 : w3.cell? ⟨w.heap.size, 1, none⟩ = some (.slice ad es.length cap) := (by simpa using K3.out.2.cell 1)))
    go_ret2
    exact ⟨rfl, K3.out.1⟩
  rw [hX] at h2
  have H2 := Lib.hid h2
  rw [Bool.and_self, Bool.and_self, if_pos rfl]
  have ha2 : 0 ≤ a ∧ a < n := by unfold inN at hA; simpa using hA
  have hx2 : 0 ≤ x ∧ x < n := by unfold inN at hX; simpa using hX
  obtain ⟨g1, g2, g3, _⟩ := gVal_parts hG
  have hea := eAll_of hG
  obtain ⟨N, rfl⟩ : ∃ N : Nat, n = N := ⟨n.toNat, by omega⟩
  obtain ⟨A0, rfl⟩ : ∃ A0 : Nat, a = A0 := ⟨a.toNat, by omega⟩
  obtain ⟨X0, rfl⟩ : ∃ X0 : Nat, x = X0 := ⟨x.toNat, by omega⟩
  rw [Int.toNat_natCast] at hea
  rw [Int.toNat_natCast, Int.toNat_natCast, Int.toNat_natCast]
  have hlen : ∀ r, (cwIt es r (cStart N A0)).length = N := fun r => by rw [cwIt_length, cStart_length]
  have hco := fun r u w' (h : Below w.heap.size w w') (hu : Row w' u (cwIt es r (cStart N A0))) => countsOfLonger es (cwIt es r (cStart N A0)) (.slice ad es.length cap) u w' (hS.out.keep h) hu (by omega) (by rw [hlen]; omega) (by rw [hlen]; omega) (by rw [hlen]; exact hea)
  simp only [hlen] at hco
  have HCO := Lib.hid hco
  have HLN := Lib.hid hlen
  have HAX := Lib.hid (And.intro (show A0 < N by omega) (show X0 < N by omega))
  obtain ⟨R, hR⟩ : ∃ R, R = ciR es X0 N (cStart N A0) := ⟨_, rfl⟩
  rw [← hR]
  have HRR := Lib.hid hR
  have hAl : (A0 : Int) < N := by omega
  have hXl : (X0 : Int) < N := by omega
  have hN0 : ¬ ((N : Int) < 0) := by omega
  clear hv hG h1 h2 hA hX hea hlen hco hR ha2 hx2 g1
  have hmk := run_make_row' (P := Try.prog) 26 3 (.int .i64 0) 8 Try.underlying26 info_int2 rfl .i64 .i64 N (by omega) (by omega)
  go_enter Try.func33, Try.ntmps33
  go_wp2_with fail
  generalize (w.alloc (.cells #[.int .i64 N, .slice ad es.length cap] 31)) = w0 at K0 ⊢
  have x0 : w0.cell? ⟨w.heap.size, 0, none⟩ = some (.int .i64 N) := by simpa using K0.out.2.cell 0
  have x1 : w0.cell? ⟨w.heap.size, 1, none⟩ = some (.slice ad es.length cap) := by simpa using K0.out.2.cell 1
  go_upto_region 4 with (first | (go_at_call 71; (with_reducible refine (HV.out _ K0.out.1).mono ?_); rintro e w1 ⟨rfl, hb1⟩; have K1 := Lib.hid (And.intro (bel_trans K0.out.1 hb1) (K0.out.2.keep hb1)); clear x0 x1 hb1; have x0 : w1.cell? ⟨w.heap.size, 0, none⟩ = some (.int .i64 N) := (by simpa using K1.out.2.cell 0); have x1 : w1.cell? ⟨w.heap.size, 1, none⟩ = some (.slice ad es.length cap) := (by simpa using K1.out.2.cell 1)) | (go_at_call 67; (with_reducible refine (H1.out _).mono ?_); rintro e w2 ⟨rfl, hb2⟩; have K2 := Lib.hid (And.intro (bel_trans K1.out.1 hb2) (K1.out.2.keep hb2)); clear x0 x1 hb2; have x0 : w2.cell? ⟨w.heap.size, 0, none⟩ = some (.int .i64 N) := (by simpa using K2.out.2.cell 0); have x1 : w2.cell? ⟨w.heap.size, 1, none⟩ = some (.slice ad es.length cap) := (by simpa using K2.out.2.cell 1)) | (go_at_call 67; (with_reducible refine (H2.out _).mono ?_); rintro e w3 ⟨rfl, hb3⟩; have K3 := Lib.hid (And.intro (bel_trans K2.out.1 hb3) (K2.out.2.keep hb3)); clear x0 x1 hb3; have x0 : w3.cell? ⟨w.heap.size, 0, none⟩ = some (.int .i64 N) := (by simpa using K3.out.2.cell 0); have x1 : w3.cell? ⟨w.heap.size, 1, none⟩ = some (.slice ad es.length cap) := (by simpa using K3.out.2.cell 1)))
  clear hmk
  have hws : Wr (w3.alloc (.cells (madeCells #[.int .i64 0] N) 3)) w3.heap.size 0 (List.replicate N 0) := Wr.madeC w3 N
  have hw2 := hws.set (k := A0) (by simpa using HAX.out.1) 1
  rw [Nat.zero_add] at hw2
  have HW := Lib.hid (And.intro hw2 (And.intro ((K3.out.1.alloc K3.out.1.size (.cells (madeCells #[.int .i64 0] N) 3)).setCell (p := ⟨w3.heap.size, A0, none⟩) K3.out.1.size (.int .i64 1)) ((K3.out.2.alloc (.cells (madeCells #[.int .i64 0] N) 3)).setOther (B' := w3.heap.size) (by have := K3.out.2.lt; omega) A0 (.int .i64 1))))
  have hsz3 := K3.out.2.lt
  have m0 : (w3.alloc (.cells (madeCells #[.int .i64 0] N) 3)).cell? ⟨w3.heap.size, A0, none⟩ = some (.int .i64 0) := by
    have h := (hws.2 A0 (by simpa using HAX.out.1)).1
    rw [Nat.zero_add] at h
    rw [h]
    simp [List.getD, HAX.out.1]
  have m1 : (w3.alloc (.cells (madeCells #[.int .i64 0] N) 3)).frozen? ⟨w3.heap.size, A0, none⟩ = false := by
    have h := (hws.2 A0 (by simpa using HAX.out.1)).2
    rwa [Nat.zero_add] at h
  clear hws hw2 x1
  go_wp2_with fail
  clear m0 m1 x0
  have heq : (w3.alloc (.cells (madeCells #[.int .i64 0] N) 3)).setCell ⟨w3.heap.size, A0, none⟩ (.int .i64 1) = w3.alloc (.cells ((madeCells #[.int .i64 0] N).setIfInBounds A0 (.int .i64 1)) 3) := by go_simp
  rw [heq] at HW
  clear heq
  generalize (w3.alloc (.cells ((madeCells #[.int .i64 0] N).setIfInBounds A0 (.int .i64 1)) 3)) = W5 at HW ⊢
  obtain ⟨S, hS⟩ : ∃ S, S = w3.heap.size := ⟨_, rfl⟩
  rw [← hS] at HW ⊢
  clear hS
  go_loopw [8, 32] (fun v c wr => ∃ (r b : Nat), r ≤ N ∧ v = .slice (some ⟨b, 0, none⟩) N N ∧ c = .int .i64 r ∧ Hid (Wr wr b 0 (cwIt es r (cStart N A0)) ∧ Below w.heap.size w wr ∧ Box wr w.heap.size 31 #[.int .i64 N, .slice ad es.length cap]) ∧ Hid (R = ciR es X0 (N - r) (cwIt es r (cStart N A0)))) (fun _ c _ => N - (intOf c).toNat)
  case atStart => exact ⟨0, S, Nat.zero_le _, rfl, rfl, Lib.hid (And.intro (show Wr W5 S 0 (cwIt es 0 (cStart N A0)) from HW.out.1) HW.out.2), HRR⟩
  case round =>
    obtain ⟨r, b, hr, rfl, rfl, H, HQ⟩ := hrel
    have x0 : wr.cell? ⟨w.heap.size, 0, none⟩ = some (.int .i64 N) := by simpa using H.out.2.2.cell 0
    have x1 : wr.cell? ⟨w.heap.size, 1, none⟩ = some (.slice ad es.length cap) := by simpa using H.out.2.2.cell 1
    by_cases hlt : r < N
    · have hlt' : (r : Int) < N := by omega
      obtain ⟨y, hy⟩ : ∃ y, y = (cwIt es r (cStart N A0)).getD X0 0 := ⟨_, rfl⟩
      have hcy := (H.out.1.2 X0 (by rw [HLN.out]; exact HAX.out.2)).1
      rw [← hy, Nat.zero_add] at hcy
      have hci : ciR es X0 (N - r) (cwIt es r (cStart N A0)) = if 0 < y then y else ciR es X0 (N - (r + 1)) (cwIt es (r + 1) (cStart N A0)) := by
        obtain ⟨q, hq⟩ : ∃ q, N - r = q + 1 := ⟨N - r - 1, by omega⟩
        rw [hq, ciR, ← hy, show N - (r + 1) = q by omega]
        rfl
      have HCI := Lib.hid hci
      clear hci hy
      by_cases h0 : 0 < y
      · have HY : Hid (R = y) := Lib.hid (by rw [HQ.out, HCI.out, if_pos h0])
        go_wp2
        go_ret2
        refine ⟨?_, H.out.2.1⟩
        rw [HY.out]
        first | rfl | (go_simp; done) | (simp; done)
      · have HY : Hid (R = ciR es X0 (N - (r + 1)) (cwIt es (r + 1) (cStart N A0))) := Lib.hid (by rw [HQ.out, HCI.out, if_neg h0])
        go_wp2_with (go_at_call 72; (with_reducible refine (HCO.out r _ _ H.out.2.1 (rowN (HLN.out r) (H.out.1.row (cap := N)))).mono ?_); rintro e w6 ⟨b6, rfl, hb6, hw6, hbel6⟩; have H6 := Lib.hid (And.intro hw6 (And.intro (bel_trans H.out.2.1 hbel6) (H.out.2.2.keep hbel6))); clear hw6 hbel6 x0 x1)
        go_roundw
        all_goals first | (simp [intOf]; omega) | exact ⟨r + 1, b6, by omega, rfl, by go_num, H6, HY⟩ | ((repeat apply Exists.intro); exact ⟨⟨r + 1, b6, by omega, rfl, by go_num, H6, HY⟩, rfl⟩)
    · have hkk : ¬ ((r : Int) < N) := by omega
      have HY : Hid (R = 0) := Lib.hid (by rw [HQ.out, show N - r = 0 by omega]; rfl)
      go_wp2
      go_ret2
      refine ⟨?_, H.out.2.1⟩
      rw [HY.out]
      first | rfl | (go_simp; done) | (simp; done)

end Go.Proofs.Ytdblcaeeepkebaa
