/- A round of relaxing: in the program. -/
import Derived.Test.YtjcfefpcilhelaaClone
import Derived.Test.YtjcfefpcilhelaaBetter
import Derived.Deep.RegionHeld3
namespace Go.Proofs.Ytjcfefpcilhelaa
open Go.RowKit Go.BigFrame Go.Deep
set_option linter.unusedVariables false
set_option linter.unusedSimpArgs false

/-- The values so far, when k edges are done. -/
def vMid (m : Int) (es : List Ed) (zs : List Int) (k : Nat) : List Int := (es.take k).foldl (vUp m zs) zs
theorem vMid_len (m : Int) (es : List Ed) (zs : List Int) (k : Nat) : (vMid m es zs k).length = zs.length := vFold_length m zs _ zs
theorem vMid_all (m : Int) (es : List Ed) (zs : List Int) : vMid m es zs es.length = vRelax m es zs := by unfold vMid vRelax; rw [List.take_length]
theorem vMid_succ (m : Int) (es : List Ed) (zs : List Int) {k X Y : Nat} {z : Int} (hk : k < es.length) (he : ((X : Int), (Y : Int), z) = es.getD k (0, 0, 0)) :
    vMid m es zs (k + 1) = (vMid m es zs k).set Y (mBest m ((vMid m es zs k).getD Y 0) (vGive m zs ((X : Int), (Y : Int), z))) := by
  unfold vMid
  rw [vFold_snoc m zs zs es k hk, ← he]
  unfold vUp
  simp only [Int.toNat_natCast]

set_option maxRecDepth 20000 in
set_option maxHeartbeats 4000000 in
theorem relaxedValues (m : Int) (es : List Ed) (zs : List Int) (s t : Value) (w : World) (hm : mKind m = true) (hs : RowE w s es) (ht : Row w t zs) (hl : es.length ≤ 1048576) (hl2 : zs.length ≤ 1048576) (h0 : 0 < zs.length) (hv : vAll m zs) (he : eAll zs.length es) :
    Calls Try.prog 126 #[opsV m, s, t] w fun e w' => ∃ v, e = .returned v ∧ OwnV w w' v (vRelax m es zs) ∧ okS v ∧ Below w.heap.size w w' := by
  have hcl := clone zs t w ht h0 hl2
  have HCL := Lib.hid hcl
  have HT := Lib.hid ht
  have hbet := fun a b w => betterOf m a b hm w
  have HBET := Lib.hid hbet
  have hev := fun (X : Nat) y z (w' : World) (hb : Below w.heap.size w w') hX hw => edgeValue m zs t X y z w' hm (ht.keep hb) hX hl2 hv hw
  have HEV := Lib.hid hev
  have HE := Lib.hid he
  obtain ⟨ad, cap, rfl, hz0⟩ := hs
  have hz := Lib.hid hz0
  obtain ⟨O, hO⟩ : ∃ O, O = opsV m := ⟨_, rfl⟩
  rw [← hO] at HBET HEV ⊢
  obtain ⟨t1, t2, rfl, htz⟩ := ht
  clear hz0 hcl hbet hev he hv hO htz
  go_enter Try.func126, Try.ntmps126
  go_wp2_with (go_at_call 144; refine (HCL.out).mono ?_; rintro e w1 ⟨v, rfl, hown, hok, hb1⟩; obtain ⟨b, off, cp, rfl, hbb, hwr⟩ := hown.wr h0; have HW1 := Lib.hid hwr; have HOKV := Lib.hid hok; clear hown hwr hok)
  go_loopw [14] (fun c wr => ∃ k : Nat, k ≤ es.length ∧ c = .int .i64 k ∧ Below w.heap.size w wr ∧ Hid (Wr wr b off (vMid m es zs k))) (fun c _ => es.length - (intOf c).toNat)
  case atStart => exact ⟨0, Nat.zero_le _, rfl, hb1, HW1⟩
  case round =>
    obtain ⟨k, hk, rfl, hbel, HWR⟩ := hrel
    clear HW1 hb1
    by_cases hlt : k < es.length
    · have hlt' : (k : Int) < es.length := by omega
      rcases hz.out with h00 | ⟨b0, off0, rfl, hb0, hc⟩
      · rw [h00] at hlt; simp at hlt
      obtain ⟨x, y, z, hx⟩ : ∃ x y z, (x, y, z) = es.getD k (0, 0, 0) := ⟨_, _, _, rfl⟩
      have hin : es.getD k (0, 0, 0) ∈ es := by simp [List.getD, hlt]
      have hea := HE.out _ hin
      rw [← hx] at hea
      simp only at hea
      obtain ⟨X, rfl⟩ := Int.eq_ofNat_of_zero_le hea.1.1
      obtain ⟨Y, rfl⟩ := Int.eq_ofNat_of_zero_le hea.2.1.1
      have hX : X < zs.length := by have := hea.1.2; simpa using this
      have hY : Y < zs.length := by have := hea.2.1.2; simpa using this
      have hwz := hea.2.2
      have h1 := hc k hlt
      rw [← hx] at h1
      simp only at h1
      have c0 := (hbel.cell (p := ⟨b0, off0 + k * 3, none⟩) hb0).trans h1.1
      have c1 := (hbel.cell (p := ⟨b0, off0 + k * 3 + 1, none⟩) hb0).trans h1.2.1
      have c2 := (hbel.cell (p := ⟨b0, off0 + k * 3 + 2, none⟩) hb0).trans h1.2.2
      have hsucc := vMid_succ m es zs hlt hx
      obtain ⟨r, hr⟩ : ∃ r, r = (vMid m es zs k).getD Y 0 := ⟨_, rfl⟩
      rw [← hr] at hsucc
      have HS := Lib.hid hsucc
      have hYl : Y < (vMid m es zs k).length := by rw [vMid_len]; exact hY
      have hcell := HWR.out.2 Y hYl
      rw [← hr] at hcell
      have hY' : (Y : Int) < zs.length := by omega
      have hbn : b < wr.heap.size := HWR.out.1
      have hne : ¬ b = wr.heap.size := by omega
      have hBW : ∀ A, Below w.heap.size w (wr.alloc A) := fun A => hbel.alloc hbel.size _
      have hhold : ∀ w', Below (wr.alloc (.cells #[.int .i64 X, .int .i64 Y, .int .i64 z] 36)).heap.size (wr.alloc (.cells #[.int .i64 X, .int .i64 Y, .int .i64 z] 36)) w' →
          w'.cell? ⟨wr.heap.size, 0, none⟩ = some (.int .i64 X) ∧ w'.cell? ⟨wr.heap.size, 1, none⟩ = some (.int .i64 Y) ∧ w'.cell? ⟨wr.heap.size, 2, none⟩ = some (.int .i64 z) := fun w' h =>
        ⟨(h.cell (p := ⟨_, _, none⟩) (by simp)).trans (by go_simp), (h.cell (p := ⟨_, _, none⟩) (by simp)).trans (by go_simp), (h.cell (p := ⟨_, _, none⟩) (by simp)).trans (by go_simp)⟩
      have hrel2 : ∀ w', Below (wr.alloc (.cells #[.int .i64 X, .int .i64 Y, .int .i64 z] 36)).heap.size (wr.alloc (.cells #[.int .i64 X, .int .i64 Y, .int .i64 z] 36)) w' →
          w'.cell? ⟨b, off + Y, none⟩ = some (.int .i64 r) ∧ w'.frozen? ⟨b, off + Y, none⟩ = false ∧ Below w.heap.size w w' ∧ Wr w' b off (vMid m es zs k) := fun w' h => by
        have hB := bel_trans ((Below.refl _ wr).alloc (Nat.le_refl _) (.cells #[.int .i64 X, .int .i64 Y, .int .i64 z] 36)) h
        exact ⟨(hB.cell (p := ⟨b, _, none⟩) hbn).trans hcell.1, (hB.frozen (p := ⟨b, _, none⟩) hbn).trans hcell.2, bel_trans hbel hB, HWR.out.keep hB⟩
      have HOLD := Lib.hid hhold
      have HREL := Lib.hid hrel2
      have HWZ := Lib.hid hwz
      clear hc h1 hx hin hea hsucc hr hcell hhold hrel2 hwz hBW
      go_wp2
      generalize (wr.alloc (.cells #[.int .i64 X, .int .i64 Y, .int .i64 z] 36)) = W1 at HOLD HREL ⊢
      clear c0 c1 c2
      obtain ⟨e0, e1, e2⟩ := HOLD.out _ (Below.refl _ _)
      have q0 := (HREL.out _ (Below.refl _ _)).1
      go_region_law (first | (go_simp; go_at_call 60; (with_reducible refine (HEV.out X _ _ _ (HREL.out _ ((Below.refl _ _).drew)).2.2.1 hX HWZ.out).mono ?_); rintro e wE ⟨rfl, hbE⟩; obtain ⟨m0, m1, m2⟩ := HOLD.out _ (bel_trans ((Below.refl _ _).drew) hbE); have qE := (HREL.out _ (bel_trans ((Below.refl _ _).drew) hbE)).1) | (go_simp; go_at_call 145; (with_reducible refine (HBET.out _ _ _).mono ?_); rintro e wB ⟨rfl, hbB⟩; have HRB := Lib.hid (HREL.out _ (bel_trans (bel_trans ((Below.refl _ _).drew) hbE) hbB)); have n1 := (HOLD.out _ (bel_trans (bel_trans ((Below.refl _ _).drew) hbE) hbB)).2.1; have qB := HRB.out.1; have fB := HRB.out.2.1))
      all_goals go_wp2
      all_goals go_roundw
      all_goals first | (simp [intOf]; omega) | exact ⟨k + 1, by omega, by go_num, HRB.out.2.2.1.setCell hbb _, Lib.hid (by rw [HS.out]; exact HRB.out.2.2.2.set hYl _)⟩ | ((repeat apply Exists.intro); exact ⟨⟨k + 1, by omega, by go_num, HRB.out.2.2.1.setCell hbb _, Lib.hid (by rw [HS.out]; exact HRB.out.2.2.2.set hYl _)⟩, rfl⟩)
    · have hke : k = es.length := by omega
      have hkk : ¬ ((k : Int) < es.length) := by omega
      have hall := vMid_all m es zs
      rw [← hke] at hall
      have HA := Lib.hid hall
      have hln := Lib.hid (vMid_len m es zs k)
      clear hke hall
      go_wp2
      go_ret
      have hw := HWR.out.own (cap := cp) hbb
      rw [hln.out] at hw
      rw [HA.out] at hw
      exact ⟨_, rfl, hw, HOKV.out, hbel⟩
end Go.Proofs.Ytjcfefpcilhelaa
