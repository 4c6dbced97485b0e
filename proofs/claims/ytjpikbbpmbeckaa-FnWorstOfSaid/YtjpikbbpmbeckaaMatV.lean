/- The worst measures of a matrix and its center: in the program. -/
import Derived.Test.YtjpikbbpmbeckaaMatI
import Derived.Laws.ResultCell
namespace Go.Proofs.Ytjpikbbpmbeckaa
open Go.RowKit Go.BigFrame Go.Deep
set_option linter.unusedVariables false
set_option linter.unusedSimpArgs false

theorem nodesOf (m : Int) (ad : Option Addr) (n cap : Nat) (w : World) :
    Calls Try.prog 65 #[.agg #[.int .i64 m, .slice ad n cap]] w fun e w' => e = .returned (.agg #[.int .i64 n, .slice none 0 0]) ∧ Below w.heap.size w w' := by
  go_enter Try.func65, Try.ntmps65
  go_wp2
  try simp only [Exit.inBlock, Exit.then]
  refine bodyPost_ret (v := .agg #[.int .i64 n, .slice none 0 0]) ?_ rfl ?_
  · rw [results_cell1 rfl]
    go_simp
  refine ⟨rfl, ?_⟩
  exact ((Below.refl _ _).alloc (Nat.le_refl _) _).alloc (by simp) _

/-- Is a matrix valid, and a one of its nodes? -/
def wOk (m : Int) (zss : List (List Int)) (a : Int) : Bool := mVal m zss && (decide (0 ≤ a) && decide (a < zss.length))
def wVal (m : Int) (zss : List (List Int)) (a : Int) : Int := if wOk m zss a = true then wst m (zss.getD a.toNat []) a else 0

set_option maxRecDepth 20000 in
set_option maxHeartbeats 2000000 in
theorem worstOf (m a : Int) (zss : List (List Int)) (s : Value) (w : World) (hs : GridO w s zss) (hl : zss.length ≤ 281474976710656) (hl2 : ∀ i, i < zss.length → (zss.getD i []).length ≤ 281474976710656) :
    Calls Try.prog 20 #[.agg #[.int .i64 m, s], .int .i64 a] w fun e w' => e = .returned (.tuple #[.int .i64 (wVal m zss a), .bool (wOk m zss a)]) ∧ Below w.heap.size w w' := by
  have hB : ∀ (A : Obj), Below w.heap.size w (w.alloc A) := fun A => (Below.refl _ _).alloc (Nat.le_refl _) _
  obtain ⟨ad, cap, rfl, hz0⟩ := id hs
  have hops := fun A => opsOfMatrix m zss _ (w.alloc A) (hs.keep (hB A)) hl hl2
  have hn := fun w => nodesOf m ad zss.length cap w
  have hh := fun w => hasNode (zss.length : Nat) a (.slice none 0 0) w
  have hz := Lib.hid hz0
  obtain ⟨V, hV⟩ : ∃ V, V = mVal m zss := ⟨_, rfl⟩
  rw [← hV] at hops
  obtain ⟨D, hD⟩ : ∃ D, D = (decide (0 ≤ a) && decide (a < (zss.length : Int))) := ⟨_, rfl⟩
  rw [← hD] at hh
  have HO := Lib.hid hops
  have HN := Lib.hid hn
  have HH := Lib.hid hh
  have HB := Lib.hid hB
  have HV := Lib.hid hV
  have HD := Lib.hid hD
  clear hz0 hs hl2 hops hn hh hB hV hD
  cases V
  · have e1 : wOk m zss a = false := by unfold wOk; rw [← HV.out]; rfl
    have e2 : wVal m zss a = 0 := by unfold wVal; rw [if_neg (by rw [e1]; decide)]
    rw [e1, e2]
    clear e1 e2
    go_enter Try.func20, Try.ntmps20
    go_wp2_with (go_at_call 63; refine (HO.out _).mono ?_; rintro e w1 ⟨rfl, hb1⟩)
    go_ret2
    exact ⟨rfl, bel_trans (HB.out _) hb1⟩
  have hm : mKind m = true := (mVal_parts HV.out.symm).2.1
  have hsq := (mVal_parts HV.out.symm).1
  have hop : opsR m true = opsV m := by unfold opsR; rw [if_pos rfl]
  rw [hop] at HO
  clear hop
  cases D
  · have e1 : wOk m zss a = false := by unfold wOk; rw [← HD.out, Bool.and_false]
    have e2 : wVal m zss a = 0 := by unfold wVal; rw [if_neg (by rw [e1]; decide)]
    rw [e1, e2]
    clear e1 e2
    have HM := Lib.hid hm
    have HSQ := Lib.hid hsq
    clear hm hsq
    go_enter Try.func20, Try.ntmps20
    go_wp2_with (first | (go_at_call 63; refine (HO.out _).mono ?_; rintro e w1 ⟨rfl, hb1⟩; have x0 := hb1.cell (p := ⟨w.heap.size, 0, none⟩) (by simp); have x1 := hb1.cell (p := ⟨w.heap.size, 1, none⟩) (by simp)) | (go_at_call 65; refine (HN.out _).mono ?_; rintro e w2 ⟨rfl, hb2⟩) | (go_at_call 64; refine (HH.out _).mono ?_; rintro e w3 ⟨rfl, hb3⟩))
    go_ret2
    exact ⟨rfl, bel_trans (bel_trans (bel_trans (HB.out _) hb1) hb2) hb3⟩
  have hd2 : 0 ≤ a ∧ a < (zss.length : Int) := by simpa using HD.out
  obtain ⟨k, rfl⟩ : ∃ k : Nat, a = k := ⟨a.toNat, by omega⟩
  have hk : k < zss.length := by omega
  have e1 : wOk m zss k = true := by unfold wOk; rw [← HD.out, ← HV.out]; rfl
  have e2 : wVal m zss k = wst m (zss.getD k []) k := by unfold wVal; rw [if_pos e1, Int.toNat_natCast]
  rw [e1, e2]
  clear e1 e2
  rcases hz.out with h0 | ⟨b, off, T, rfl, hb, hc⟩
  · rw [h0] at hk; simp at hk
  obtain ⟨c0, r0, o0⟩ := hc k hk
  have hrl := (mSq_parts hsq).2.2 k hk
  have hN12 := (mSq_parts hsq).2.1
  obtain ⟨zs, hzs⟩ : ∃ zs, zs = zss.getD k [] := ⟨_, rfl⟩
  rw [← hzs] at r0 hrl ⊢
  have hwst := fun w' (h : Below w.heap.size w w') => worstBut m zs k (T k) w' hm (r0.keep h) (by omega)
  obtain ⟨u, hu⟩ : ∃ u, u = T k := ⟨_, rfl⟩
  rw [← hu] at c0 hwst
  obtain ⟨R, hR⟩ : ∃ R, R = wst m zs k := ⟨_, rfl⟩
  rw [← hR] at hwst ⊢
  have HW := Lib.hid hwst
  have hcell : ∀ w' : World, Below w.heap.size w w' → w'.cell? ⟨b, off + k, none⟩ = some u := fun w' h => (h.cell (p := ⟨b, _, none⟩) hb).trans c0
  have HCE := Lib.hid hcell
  have HM := Lib.hid hm
  have HSQ := Lib.hid hsq
  have hk0 : (0 : Int) ≤ k := by omega
  clear hwst hcell c0 r0 o0 hc hm hsq hzs hu hR hrl hd2 hz
  go_enter Try.func20, Try.ntmps20
  go_wp2_with (first | (go_at_call 63; refine (HO.out _).mono ?_; rintro e w1 ⟨rfl, hb1⟩; have x0 := hb1.cell (p := ⟨w.heap.size, 0, none⟩) (by simp); have x1 := hb1.cell (p := ⟨w.heap.size, 1, none⟩) (by simp); have g1 : w.heap.size < w1.heap.size := Nat.lt_of_lt_of_le (by simp) hb1.size) | (go_at_call 65; refine (HN.out _).mono ?_; rintro e w2 ⟨rfl, hb2⟩; have z1 := (hb2.cell (p := ⟨w.heap.size, 1, none⟩) g1).trans x1; have g2 : w.heap.size < w2.heap.size := Nat.lt_of_lt_of_le g1 hb2.size) | (go_at_call 64; refine (HH.out _).mono ?_; rintro e w3 ⟨rfl, hb3⟩; have y1 := (hb3.cell (p := ⟨w.heap.size, 1, none⟩) g2).trans z1; have y2 := HCE.out w3 (bel_trans (bel_trans (bel_trans (HB.out _) hb1) hb2) hb3)) | (go_at_call 66; refine (HW.out _ (bel_trans (bel_trans (bel_trans (HB.out _) hb1) hb2) hb3)).mono ?_; rintro e w4 ⟨rfl, hb4⟩))
  go_ret2
  exact ⟨rfl, bel_trans (bel_trans (bel_trans (bel_trans (HB.out _) hb1) hb2) hb3) hb4⟩

/-- The center of the first k rows, and its worst value. -/
def cenTo (m : Int) (zss : List (List Int)) : Nat → Int × Int
  | 0 => (0, mNone m)
  | k + 1 => if mBet m (wst m (zss.getD k []) k) (cenTo m zss k).2 = true then ((k : Int), wst m (zss.getD k []) k) else cenTo m zss k
def cenVal (m : Int) (zss : List (List Int)) : Int := if mVal m zss = true then (cenTo m zss zss.length).1 else 0

set_option maxRecDepth 20000 in
set_option maxHeartbeats 2000000 in
theorem centerOf (m : Int) (zss : List (List Int)) (s : Value) (w : World) (hs : GridO w s zss) (hl : zss.length ≤ 281474976710656) (hl2 : ∀ i, i < zss.length → (zss.getD i []).length ≤ 281474976710656) :
    Calls Try.prog 25 #[.agg #[.int .i64 m, s]] w fun e w' => e = .returned (.tuple #[.int .i64 (cenVal m zss), .bool (mVal m zss)]) ∧ Below w.heap.size w w' := by
  have hB : ∀ (A : Obj), Below w.heap.size w (w.alloc A) := fun A => (Below.refl _ _).alloc (Nat.le_refl _) _
  obtain ⟨ad, cap, rfl, hz0⟩ := id hs
  have hops := fun A => opsOfMatrix m zss _ (w.alloc A) (hs.keep (hB A)) hl hl2
  have hz := Lib.hid hz0
  obtain ⟨V, hV⟩ : ∃ V, V = mVal m zss := ⟨_, rfl⟩
  unfold cenVal
  rw [← hV] at hops ⊢
  have HO := Lib.hid hops
  have HB := Lib.hid hB
  have HV := Lib.hid hV
  clear hz0 hs hl2 hops hB hV
  cases V
  · rw [if_neg (by decide)]
    go_enter Try.func25, Try.ntmps25
    go_wp2_with (go_at_call 63; refine (HO.out _).mono ?_; rintro e w1 ⟨rfl, hb1⟩)
    go_ret2
    exact ⟨rfl, bel_trans (HB.out _) hb1⟩
  rw [if_pos rfl]
  have hm : mKind m = true := (mVal_parts HV.out.symm).2.1
  have hsq := (mVal_parts HV.out.symm).1
  have hop : opsR m true = opsV m := by unfold opsR; rw [if_pos rfl]
  rw [hop] at HO
  clear hop
  rcases hz.out with h0 | ⟨b, off, T, rfl, hb, hc⟩
  · have := (mSq_parts hsq).1; rw [h0] at this; simp at this
  have HC := Lib.hid hc
  clear hc hz
  have hN12 := (mSq_parts hsq).2.1
  have hwb := fun zs but t w' (h : Row w' t zs) (hl : zs.length ≤ 1048576) => worstBut m zs but t w' hm h hl
  obtain ⟨TT, rv, fn, fe, fb, fo, fj, rn, re, rb, ro, rj, D⟩ := disp hm
  rw [D.val] at HO hwb
  have hn1 := D.mn.run
  have hn2 := D.mn.ahead
  have hn3 := D.mn.enter
  have hb1 := D.mb.run
  have hb2 := D.mb.ahead
  have hb3 := D.mb.enter
  have HNO := Lib.hid D.cn
  have HBE := Lib.hid D.cb
  have HDD := Lib.hid D
  have HWB := Lib.hid hwb
  have HSQ := Lib.hid hsq
  have HM := Lib.hid hm
  clear D hwb hsq hm
  go_enter Try.func25, Try.ntmps25
  go_wp2_with (first | (go_at_call 63; refine (HO.out _).mono ?_; rintro e w1 ⟨rfl, hw1⟩; have x1 := hw1.cell (p := ⟨w.heap.size, 1, none⟩) (by simp); have g1 : w.heap.size < w1.heap.size := Nat.lt_of_lt_of_le (by simp) hw1.size) | (with_reducible refine (HNO.out _).mono ?_; rintro e w2 ⟨rfl, hw2⟩; have y1 := (hw2.cell (p := ⟨w.heap.size, 1, none⟩) g1).trans x1))
  have hbel2 := bel_trans (bel_trans (HB.out _) hw1) hw2
  go_loopw [23, 6, 7] (fun c d e wr => ∃ k : Nat, k ≤ zss.length ∧ c = .int .i64 k ∧ (∃ p q : Int, (p, q) = cenTo m zss k ∧ d = .int .i64 p ∧ e = .int .i64 q) ∧ Below w.heap.size w wr) (fun c _ _ _ => zss.length - (intOf c).toNat)
  case atStart => exact ⟨0, Nat.zero_le _, rfl, ⟨0, mNone m, rfl, rfl, rfl⟩, hbel2⟩
  case round =>
    obtain ⟨k, hk, rfl, ⟨p, q, hpq, rfl, rfl⟩, hbel⟩ := hrel
    have HPQ := Lib.hid hpq
    clear hpq
    by_cases hlt : k < zss.length
    · have hlt' : (k : Int) < zss.length := by omega
      obtain ⟨c0, r0, o0⟩ := HC.out k hlt
      have hck := (hbel.cell (p := ⟨b, off + k, none⟩) hb).trans c0
      have hrl := (mSq_parts HSQ.out).2.2 k hlt
      obtain ⟨zs, hzs⟩ : ∃ zs, zs = zss.getD k [] := ⟨_, rfl⟩
      rw [← hzs] at r0 hrl
      have hcall := HWB.out zs k (T k) wr (r0.keep hbel) (by omega)
      obtain ⟨u, hu⟩ : ∃ u, u = T k := ⟨_, rfl⟩
      rw [← hu] at hck hcall
      obtain ⟨R, hR⟩ : ∃ R, R = wst m zs k := ⟨_, rfl⟩
      rw [← hR] at hcall
      have hst : cenTo m zss (k + 1) = if mBet m R q = true then ((k : Int), R) else (p, q) := by
        rw [hR, hzs]
        show (if mBet m (wst m (zss.getD k []) k) (cenTo m zss k).2 = true then ((k : Int), wst m (zss.getD k []) k) else cenTo m zss k) = _
        rw [← HPQ.out]
      have hcb := fun w => HBE.out R q w
      obtain ⟨Bb, hBb⟩ : ∃ Bb, Bb = mBet m R q := ⟨_, rfl⟩
      rw [← hBb] at hcb hst
      have HST := Lib.hid hst
      have HCB := Lib.hid hcb
      have HCA := Lib.hid hcall
      clear c0 r0 o0 hrl hzs hcall hu hR hst hcb hBb
      cases Bb
      · rw [if_neg (by decide)] at HST
        go_wp2_with (first | (go_at_call 66; refine HCA.out.mono ?_; rintro e w3 ⟨rfl, hw3⟩) | (with_reducible refine (HCB.out _).mono ?_; rintro e w4 ⟨rfl, hw4⟩))
        go_roundw
        case rel => exact ⟨k + 1, by omega, by go_num, ⟨p, q, HST.out.symm, rfl, rfl⟩, bel_trans (bel_trans hbel hw3) hw4⟩
        case measure => simp [intOf]; omega
      · rw [if_pos rfl] at HST
        go_wp2_with (first | (go_at_call 66; refine HCA.out.mono ?_; rintro e w3 ⟨rfl, hw3⟩) | (with_reducible refine (HCB.out _).mono ?_; rintro e w4 ⟨rfl, hw4⟩))
        go_roundw
        case rel => exact ⟨k + 1, by omega, by go_num, ⟨k, R, HST.out.symm, rfl, rfl⟩, bel_trans (bel_trans hbel hw3) hw4⟩
        case measure => simp [intOf]; omega
    · have hke : k = zss.length := by omega
      have hkk : ¬ ((k : Int) < zss.length) := by omega
      have HK := Lib.hid hke
      clear hke
      go_wp2
      go_ret2
      exact ⟨by rw [← HK.out, ← HPQ.out]; rfl, hbel⟩
end Go.Proofs.Ytjpikbbpmbeckaa
