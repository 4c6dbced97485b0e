/- Matrices in the program: is one valid, its worst measures, its center. -/
import Derived.Test.YtjpikbbpmbeckaaConcatI
import Derived.Test.YtjpikbbpmbeckaaVValS
import Derived.Test.YtjpikbbpmbeckaaDisp
import Derived.Test.YtjpikbbpmbeckaaBoxes
namespace Go.Proofs.Ytjpikbbpmbeckaa
open Go.RowKit Go.BigFrame Go.Deep
set_option linter.unusedVariables false
set_option linter.unusedSimpArgs false

/-- Has a grid as many rows as each of them has numbers, from 1 to 12? -/
def mSq (zss : List (List Int)) : Bool := (decide (1 ≤ zss.length) && decide (zss.length ≤ 12)) && zss.all (fun r => decide (r.length = zss.length))
/-- Is a matrix valid? -/
def mVal (m : Int) (zss : List (List Int)) : Bool := mSq zss && mAll m zss.flatten
theorem mSq_parts {zss : List (List Int)} (h : mSq zss = true) : 1 ≤ zss.length ∧ zss.length ≤ 12 ∧ ∀ i, i < zss.length → (zss.getD i []).length = zss.length := by
  simp only [mSq, Bool.and_eq_true, decide_eq_true_eq, List.all_eq_true] at h
  refine ⟨h.1.1, h.1.2, fun i hi => ?_⟩
  have := h.2 _ (List.getElem_mem hi)
  simpa [List.getD, hi] using this
theorem mSq_mk {zss : List (List Int)} (h1 : 1 ≤ zss.length) (h2 : zss.length ≤ 12) (h : ∀ i, i < zss.length → (zss.getD i []).length = zss.length) : mSq zss = true := by
  simp only [mSq, Bool.and_eq_true, decide_eq_true_eq, List.all_eq_true]
  refine ⟨⟨h1, h2⟩, fun r hr => ?_⟩
  obtain ⟨i, hi, rfl⟩ := List.getElem_of_mem hr
  have := h i hi
  simpa [List.getD, hi] using this
theorem mSq_row {zss : List (List Int)} {i : Nat} (hi : i < zss.length) (h : (zss.getD i []).length ≠ zss.length) : mSq zss = false := by
  apply Bool.eq_false_iff.2
  intro hs
  exact h ((mSq_parts hs).2.2 i hi)
theorem tot_bound (zss : List (List Int)) (c : Nat) (h : ∀ i, i < zss.length → (zss.getD i []).length ≤ c) (i : Nat) (hi : i ≤ zss.length) : tot zss i ≤ i * c := by
  induction i with
  | zero => rw [tot_zero]; omega
  | succ i ih =>
    have h1 := tot_succ zss (show i < zss.length by omega)
    have h2 := h i (by omega)
    have h3 := ih (by omega)
    have h4 : (i + 1) * c = i * c + c := by rw [Nat.add_mul, Nat.one_mul]
    omega
theorem flat_bound (zss : List (List Int)) (c : Nat) (h : ∀ i, i < zss.length → (zss.getD i []).length ≤ c) : zss.flatten.length ≤ zss.length * c := by
  show tl zss ≤ _
  rw [← tot_all]
  exact tot_bound zss c h _ (Nat.le_refl _)
theorem mVal_parts {m : Int} {zss : List (List Int)} (h : mVal m zss = true) : mSq zss = true ∧ mKind m = true ∧ zss.flatten.all (mIn m) = true := by
  simp only [mVal, mAll, Bool.and_eq_true] at h
  exact ⟨h.1, h.2.1, h.2.2⟩
theorem mVal_in {m : Int} {zss : List (List Int)} (h : mVal m zss = true) {i k : Nat} (hi : i < zss.length) (hk : k < zss.length) : mIn m ((zss.getD i []).getD k 0) = true := by
  obtain ⟨h1, h2, h3⟩ := mVal_parts h
  have hl := (mSq_parts h1).2.2 i hi
  rw [List.all_eq_true] at h3
  apply h3
  rw [List.mem_flatten]
  refine ⟨zss.getD i [], ?_, ?_⟩
  · have e : zss.getD i [] = zss[i] := by simp [List.getD, hi]
    rw [e]; exact List.getElem_mem hi
  · have hk2 : k < (zss.getD i []).length := by omega
    rw [getD_of hk2]; exact List.getElem_mem hk2

set_option maxRecDepth 20000 in
set_option maxHeartbeats 2000000 in
theorem opsOfMatrix (m : Int) (zss : List (List Int)) (s : Value) (w : World) (hs : GridO w s zss) (hl : zss.length ≤ 281474976710656) (hl2 : ∀ i, i < zss.length → (zss.getD i []).length ≤ 281474976710656) :
    Calls Try.prog 63 #[.agg #[.int .i64 m, s]] w fun e w' => e = .returned (.tuple #[opsR m (mVal m zss), .bool (mVal m zss)]) ∧ Below w.heap.size w w' := by
  obtain ⟨ad, cap, rfl, hz0⟩ := id hs
  have HS := Lib.hid hs
  have hz := Lib.hid hz0
  have HL2 := Lib.hid hl2
  clear hz0 hs hl2
  have hB : ∀ (A : Obj), Below w.heap.size w (w.alloc A) := fun A => (Below.refl _ _).alloc (Nat.le_refl _) _
  have HB := Lib.hid hB
  clear hB
  have hno : ∀ b, Hid (mVal m zss = b) → (∀ w' : World, (e : Ending) → True) := fun _ _ _ _ => trivial
  clear hno
  by_cases h1 : zss.length < 1
  · have e0 : mVal m zss = false := by unfold mVal mSq; simp; omega
    have h1' : ((zss.length : Int) < 1) := by omega
    have h2' : ¬ ((zss.length : Int) > 12) := by omega
    rw [e0]
    clear e0
    go_enter Try.func63, Try.ntmps63
    go_wp2
    go_ret2
    exact ⟨rfl, HB.out _⟩
  by_cases h2 : zss.length > 12
  · have e0 : mVal m zss = false := by unfold mVal mSq; simp; omega
    have h1' : ¬ ((zss.length : Int) < 1) := by omega
    have h2' : ((zss.length : Int) > 12) := by omega
    rw [e0]
    clear e0
    go_enter Try.func63, Try.ntmps63
    go_wp2
    go_ret2
    exact ⟨rfl, HB.out _⟩
  have h1' : ¬ ((zss.length : Int) < 1) := by omega
  have h2' : ¬ ((zss.length : Int) > 12) := by omega
  rcases hz.out with h0 | ⟨b, off, T, rfl, hb, hc⟩
  · rw [h0] at h1; simp at h1
  have HC := Lib.hid hc
  clear hc hz
  obtain ⟨V, hV⟩ : ∃ V, V = mVal m zss := ⟨_, rfl⟩
  rw [← hV]
  have HV := Lib.hid hV
  clear hV
  go_enter Try.func63, Try.ntmps63
  go_wp2
  go_loopw [19] (fun c wr => ∃ k : Nat, k ≤ zss.length ∧ c = .int .i64 k ∧ Hid (∀ i, i < k → (zss.getD i []).length = zss.length) ∧ Below w.heap.size w wr ∧ (wr.cell? ⟨w.heap.size, 0, none⟩ = some (.int .i64 m) ∧ wr.cell? ⟨w.heap.size, 1, none⟩ = some (.slice (some ⟨b, off, none⟩) zss.length cap) ∧ w.heap.size < wr.heap.size)) (fun c _ => zss.length - (intOf c).toNat)
  case atStart => exact ⟨0, Nat.zero_le _, rfl, Lib.hid (fun i hi => absurd hi (Nat.not_lt_zero _)), HB.out _, by go_simp, by go_simp, by simp⟩
  case round =>
    obtain ⟨k, hk, rfl, hall, hbel, hx0, hx1, hsz⟩ := hrel
    by_cases hlt : k < zss.length
    · have hlt' : (k : Int) < zss.length := by omega
      obtain ⟨c0, r0, o0⟩ := HC.out k hlt
      have hck := (hbel.cell (p := ⟨b, off + k, none⟩) hb).trans c0
      obtain ⟨ta, tc, hT, _⟩ := id r0
      rw [hT] at hck
      obtain ⟨L, hL⟩ : ∃ L, L = (zss.getD k []).length := ⟨_, rfl⟩
      rw [← hL] at hck
      have HLL := Lib.hid hL
      clear c0 r0 o0 hT hL
      by_cases hLn : L = zss.length
      · have d1 : ((L : Int) != zss.length) = false := by simp; omega
        have d2 : ((L : Int) == zss.length) = true := by simp; omega
        have HLN := Lib.hid hLn
        clear hLn
        go_wp2
        go_roundw
        case rel => exact ⟨k + 1, by omega, by go_num, Lib.hid (fun i hi => by
          by_cases e : i = k
          · subst e; rw [← HLL.out]; exact HLN.out
          · exact hall.out i (by omega)), hbel, hx0, hx1, hsz⟩
        case measure => simp [intOf]; omega
      · have d1 : ((L : Int) != zss.length) = true := by simp; omega
        have d2 : ((L : Int) == zss.length) = false := by simp; omega
        have d3 : ¬ ((L : Int) = zss.length) := by omega
        have e0 : V = false := by rw [HV.out]; unfold mVal; rw [mSq_row hlt (by rw [← HLL.out]; exact hLn), Bool.false_and]
        subst e0
        clear hLn
        go_wp2
        go_ret2
        exact ⟨rfl, hbel⟩
    · have hke : k = zss.length := by omega
      have hkk : ¬ ((k : Int) < zss.length) := by omega
      have hsq : mSq zss = true := mSq_mk (by omega) (by omega) (fun i hi => hall.out i (by omega))
      have hfl := flat_bound zss 12 (fun i hi => by rw [hall.out i (by omega)]; omega)
      have hfl2 : zss.flatten.length ≤ 1048576 := by omega
      have e0 : V = mAll m zss.flatten := by rw [HV.out]; unfold mVal; rw [hsq, Bool.true_and]
      have hcat : ∀ w', Below wr.heap.size wr w' → Calls Try.prog 113 #[.slice (some ⟨b, off, none⟩) zss.length cap] w' fun e w'' => ∃ v, e = .returned v ∧ OwnV w' w'' v zss.flatten ∧ okS v ∧ Below w'.heap.size w' w'' := by
        intro w' h
        have hB := bel_trans hbel h
        exact concatI zss T b off cap w' (Nat.lt_of_lt_of_le hb hB.size) (by omega) hfl2 (fun i hi => by
          obtain ⟨c0, r0, o0⟩ := HC.out i hi
          exact ⟨(hB.cell (p := ⟨b, off + i, none⟩) hb).trans c0, r0.keep hB, o0⟩)
      have HCAT := Lib.hid hcat
      have ff : ∀ w', Below wr.heap.size wr w' → w'.cell? ⟨w.heap.size, 0, none⟩ = some (.int .i64 m) ∧ w'.cell? ⟨w.heap.size, 1, none⟩ = some (.slice (some ⟨b, off, none⟩) zss.length cap) := fun w' h => ⟨(h.cell (p := ⟨_, _, none⟩) hsz).trans hx0, (h.cell (p := ⟨_, _, none⟩) hsz).trans hx1⟩
      have FF := Lib.hid ff
      have HFL : Hid (zss.flatten.length ≤ 281474976710656) := Lib.hid (by omega)
      have hops := fun v w' (h : Row w' v zss.flatten) => opsAll m zss.flatten v w' h HFL.out
      rw [← e0] at hops
      have HOPS := Lib.hid hops
      clear hke hcat ff hops hfl hfl2 hsq e0
      go_wp2_with fail
      go_region_held3 (fun w' : World => w'.cell? ⟨w.heap.size, 0, none⟩ = some (.int .i64 m) ∧ w'.cell? ⟨w.heap.size, 1, none⟩ = some (.slice (some ⟨b, off, none⟩) zss.length cap)) (first | exact FF.out _ ((Below.refl _ _).drew) | exact FF.out _ (bel_trans ((Below.refl _ _).drew) hb1) | exact FF.out _ (bel_trans (bel_trans ((Below.refl _ _).drew) hb1) hb2)) (first | (go_at_call 113; (with_reducible refine (HCAT.out _ ((Below.refl _ _).drew)).mono ?_); rintro e w1 ⟨v1, rfl, hown1, hok1, hb1⟩) | (go_at_call 68; (with_reducible refine (HOPS.out _ _ hown1.row).mono ?_); rintro e w2 ⟨rfl, hb2⟩))
      go_wp2
      go_ret2
      exact ⟨rfl, bel_trans hbel (bel_trans (bel_trans ((Below.refl _ _).drew) hb1) hb2)⟩

theorem matrixValid (m : Int) (zss : List (List Int)) (s : Value) (w : World) (hs : GridO w s zss) (hl : zss.length ≤ 281474976710656) (hl2 : ∀ i, i < zss.length → (zss.getD i []).length ≤ 281474976710656) :
    Calls Try.prog 27 #[.agg #[.int .i64 m, s]] w fun e w' => e = .returned (.bool (mVal m zss)) ∧ Below w.heap.size w w' := by
  have hB : ∀ (A : Obj), Below w.heap.size w (w.alloc A) := fun A => (Below.refl _ _).alloc (Nat.le_refl _) _
  obtain ⟨ad, cap, rfl, hz0⟩ := id hs
  have hc := fun A => opsOfMatrix m zss _ (w.alloc A) (hs.keep (hB A)) hl hl2
  generalize mVal m zss = V at hc ⊢
  have HC := Lib.hid hc
  have HB := Lib.hid hB
  clear hc hB hz0 hs hl2
  go_enter Try.func27, Try.ntmps27
  go_wp2_with (go_at_call 63; refine (HC.out _).mono ?_; rintro e w1 ⟨rfl, hb1⟩)
  go_ret
  exact ⟨rfl, bel_trans (HB.out _) hb1⟩

/-- The worst of the first k values, but that at one place. -/
def wstTo (m : Int) (zs : List Int) (but : Int) : Nat → Int
  | 0 => mOne m
  | k + 1 => if (decide ((k : Int) ≠ but) && mBet m (wstTo m zs but k) (zs.getD k 0)) = true then zs.getD k 0 else wstTo m zs but k
def wst (m : Int) (zs : List Int) (but : Int) : Int := wstTo m zs but zs.length

set_option maxRecDepth 20000 in
set_option maxHeartbeats 2000000 in
theorem worstBut (m : Int) (zs : List Int) (but : Int) (t : Value) (w : World) (hm : mKind m = true) (ht : Row w t zs) (hl : zs.length ≤ 1048576) :
    Calls Try.prog 66 #[opsV m, t, .int .i64 but] w fun e w' => e = .returned (.int .i64 (wst m zs but)) ∧ Below w.heap.size w w' := by
  obtain ⟨T, rv, fn, fe, fb, fo, fj, rn, re, rb, ro, rj, D⟩ := disp hm
  rw [D.val]
  have he1 := D.me.run
  have he2 := D.me.ahead
  have he3 := D.me.enter
  have hb1 := D.mb.run
  have hb2 := D.mb.ahead
  have hb3 := D.mb.enter
  have HE := Lib.hid D.ce
  have HBE := Lib.hid D.cb
  have HD := Lib.hid D
  clear D
  obtain ⟨ad, cap, rfl, hz0⟩ := id ht
  have hz := Lib.hid hz0
  clear hz0 ht
  go_enter Try.func66, Try.ntmps66
  go_wp2_with (with_reducible refine (HE.out _).mono ?_; rintro e w1 ⟨rfl, hw1⟩)
  go_loopw [14, 7] (fun c d wr => ∃ k : Nat, k ≤ zs.length ∧ c = .int .i64 k ∧ d = .int .i64 (wstTo m zs but k) ∧ Below w.heap.size w wr) (fun c _ _ => zs.length - (intOf c).toNat)
  case atStart => exact ⟨0, Nat.zero_le _, rfl, rfl, hw1⟩
  case round =>
    obtain ⟨k, hk, rfl, rfl, hbel⟩ := hrel
    by_cases hlt : k < zs.length
    · have hlt' : (k : Int) < zs.length := by omega
      rcases hz.out with h0 | ⟨b, off, rfl, hb, hc⟩
      · rw [h0] at hlt; simp at hlt
      obtain ⟨x, hx⟩ : ∃ x, x = zs.getD k 0 := ⟨_, rfl⟩
      have h1 := hc k hlt
      rw [← hx] at h1
      have hck : wr.cell? ⟨b, off + k, none⟩ = some (.int .i64 x) := (hbel.cell (p := ⟨b, _, none⟩) hb).trans h1
      have hst : wstTo m zs but (k + 1) = if (decide ((k : Int) ≠ but) && mBet m (wstTo m zs but k) x) = true then x else wstTo m zs but k := by rw [hx]; rfl
      obtain ⟨y, hy⟩ : ∃ y, y = wstTo m zs but k := ⟨_, rfl⟩
      rw [← hy] at hst ⊢
      have HST := Lib.hid hst
      clear hc h1 hx hst hy
      by_cases he : (k : Int) = but
      · have d1 : ((k : Int) != but) = false := by simpa using he
        have d2 : decide ((k : Int) ≠ but) = false := by simpa using he
        have HW : Hid (wstTo m zs but (k + 1) = y) := Lib.hid (by rw [HST.out, d2, Bool.false_and, if_neg (by decide)])
        clear HST d2
        have HK := Lib.hid he
        clear he
        go_wp2
        go_roundw
        case rel => exact ⟨k + 1, by omega, by go_num, by rw [HW.out], hbel⟩
        case measure => simp [intOf]; omega
      · have d1 : ((k : Int) != but) = true := by simpa using he
        have d2 : decide ((k : Int) ≠ but) = true := by simpa using he
        rw [d2, Bool.true_and] at HST
        have hcb := fun w => HBE.out y x w
        obtain ⟨Bb, hBb⟩ : ∃ Bb, Bb = mBet m y x := ⟨_, rfl⟩
        rw [← hBb] at hcb HST
        have HCB := Lib.hid hcb
        clear hcb hBb d2
        have HK := Lib.hid he
        clear he
        cases Bb
        · have HW : Hid (wstTo m zs but (k + 1) = y) := Lib.hid (by rw [HST.out, if_neg (by decide)])
          clear HST
          go_wp2_with (with_reducible refine (HCB.out _).mono ?_; rintro e w2 ⟨rfl, hw2⟩)
          go_roundw
          case rel => exact ⟨k + 1, by omega, by go_num, by rw [HW.out], bel_trans hbel hw2⟩
          case measure => simp [intOf]; omega
        · have HW : Hid (wstTo m zs but (k + 1) = x) := Lib.hid (by rw [HST.out, if_pos rfl])
          clear HST
          go_wp2_with (with_reducible refine (HCB.out _).mono ?_; rintro e w2 ⟨rfl, hw2⟩)
          go_roundw
          case rel => exact ⟨k + 1, by omega, by go_num, by rw [HW.out], bel_trans hbel hw2⟩
          case measure => simp [intOf]; omega
    · have hke : k = zs.length := by omega
      have hkk : ¬ ((k : Int) < zs.length) := by omega
      have HK := Lib.hid hke
      clear hke
      go_wp2
      go_ret
      exact ⟨by rw [HK.out]; rfl, hbel⟩
end Go.Proofs.Ytjpikbbpmbeckaa
