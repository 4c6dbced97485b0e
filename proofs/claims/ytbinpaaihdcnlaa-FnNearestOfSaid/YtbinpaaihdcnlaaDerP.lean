/- NearestOf of the program. -/
import Derived.Test.YtbinpaaihdcnlaaDerO
namespace Go.Proofs.Ytbinpaaihdcnlaa
open Go.RowKit Go.BigFrame Go.Deep
set_option linter.unusedVariables false
set_option linter.unusedSimpArgs false
set_option linter.unnecessarySimpa false

def nfB (n : Int) (es : List Ed) (m : Int) (ss : List Int) : Bool := onOk n es m [] && (!(decide (ss.length = 0)) && ndB n ss)
def nfV (n : Int) (es : List Ed) (m : Int) (ss : List Int) : List Int := if nfB n es m ss = true then nrV m es n.toNat ss else []
def nfO (n : Int) (es : List Ed) (m : Int) (ss : List Int) : List Int := if nfB n es m ss = true then nrO m es n.toNat ss else []
theorem nf_len (n : Int) (es : List Ed) (m : Int) (ss : List Int) : (nfV n es m ss).length ≤ 12 ∧ (nfO n es m ss).length ≤ 12 := by
  unfold nfV nfO
  split
  · rename_i h
    simp only [nfB, Bool.and_eq_true] at h
    have := gVal_n (onOk_parts h.1).1
    rw [nrV_len, nrO_len]
    omega
  · simp
theorem nrV_at (m : Int) (es : List Ed) (N : Nat) (ss : List Int) (i : Nat) (h : i < N) : (nrAt m es N i ss).1 = (nrV m es N ss).getD i 0 := by simp [nrV, List.getD, h]
theorem nrO_at (m : Int) (es : List Ed) (N : Nat) (ss : List Int) (i : Nat) (h : i < N) : (nrAt m es N i ss).2 = (nrO m es N ss).getD i 0 := by simp [nrO, List.getD, h]

set_option maxRecDepth 20000 in
set_option maxHeartbeats 4000000 in
theorem nearestOf (n m : Int) (es : List Ed) (ss : List Int) (s t : Value) (w : World) (hs : RowE w s es) (ht : Row w t ss) (hl : es.length ≤ 281474976710656) (hl2 : ss.length ≤ 281474976710656) :
    Calls Try.prog 23 #[.agg #[.int .i64 n, s], .int .i64 m, t] w fun e w' => ∃ v u mid, e = .returned (.tuple #[v, u, .bool (nfB n es m ss)]) ∧ InR true w' w.heap.size mid v (nfV n es m ss).length 1 (cellI (nfV n es m ss)) ∧ InR true w' mid w'.heap.size u (nfO n es m ss).length 1 (cellI (nfO n es m ss)) ∧ (w.heap.size ≤ mid ∧ mid ≤ w'.heap.size) ∧ Below w.heap.size w w' := by
  obtain ⟨ad, cap, rfl, hz0⟩ := id hs
  obtain ⟨at0, ct, rfl, hz1⟩ := id ht
  clear hz0 hz1
  obtain ⟨W, hW⟩ : ∃ W, W = (w.alloc (.cells #[.int .i64 n, .slice ad es.length cap] 25)) := ⟨_, rfl⟩
  have hbW : Below w.heap.size w W := by rw [hW]; exact (Below.refl _ _).alloc (Nat.le_refl _) _
  have hsz : W.heap.size = w.heap.size + 1 := by rw [hW]; simp
  have hres : ∀ w', Below W.heap.size W w' → w'.cell? ⟨w.heap.size, 0, none⟩ = some (.int .i64 n) ∧ w'.cell? ⟨w.heap.size, 1, none⟩ = some (.slice ad es.length cap) := fun w' h =>
    ⟨(h.cell (p := ⟨w.heap.size, 0, none⟩) (by simp only; omega)).trans (by rw [hW]; go_simp), (h.cell (p := ⟨w.heap.size, 1, none⟩) (by simp only; omega)).trans (by rw [hW]; go_simp)⟩
  have hon := opsOn n m es [] _ (.slice none 0 0) W (hs.keep hbW) (Row.nil _) hl (by simp)
  have had := fun w' (h : Below W.heap.size W w') (hn : n ≤ 12) => areDifferentNodes n ss (.slice ad es.length cap) _ w' hn (ht.keep (bel_trans hbW h)) hl2
  have HRES := Lib.hid hres
  have HBW := Lib.hid hbW
  have HSZ := Lib.hid hsz
  have HWE := Lib.hid hW
  have HS := Lib.hid (And.intro hs ht)
  clear hres hbW hsz hs ht
  unfold nfV nfO
  obtain ⟨Gv, hG⟩ : ∃ G, G = onOk n es m [] := ⟨_, rfl⟩
  rw [← hG] at hon
  cases Gv
  · rw [show nfB n es m ss = false by unfold nfB; rw [← hG]; rfl, if_neg (by decide), if_neg (by decide)]
    rw [show opsR m false = .nilIface from rfl] at hon
    have HON := Lib.hid hon
    clear hon hG had
    go_enter Try.func23, Try.ntmps23
    go_wp2_with fail
    rw [← hW]
    clear hW
    obtain ⟨j0, j1⟩ := HRES.out _ (Below.refl _ _)
    go_wp2_with (first | (go_at_call 62; refine HON.out.mono ?_; rintro e w1 ⟨rfl, hb1⟩; have HB1 := Lib.hid hb1; clear hb1; clear j0 j1; obtain ⟨j0, j1⟩ := HRES.out _ HB1.out))
    go_ret3
    exact ⟨_, _, w.heap.size, rfl, ⟨none, 0, rfl, .inl rfl⟩, ⟨none, 0, rfl, .inl rfl⟩, ⟨Nat.le_refl _, (bel_trans HBW.out HB1.out).size⟩, bel_trans HBW.out HB1.out⟩
  have hp := onOk_parts hG.symm
  have hm := hp.2.2
  obtain ⟨T, rv, fn, fe, fb, fo, fj, rn, re, rb, ro, rj, D⟩ := disp hm
  rw [show opsR m true = opsV m from rfl, D.val] at hon
  have HON := Lib.hid hon
  have hn := gVal_n hp.1
  by_cases h0 : ss.length = 0
  · rw [show nfB n es m ss = false by unfold nfB; simp [h0], if_neg (by decide), if_neg (by decide)]
    have h0' : (ss.length : Int) = 0 := by omega
    clear hon hG had hp D hn
    go_enter Try.func23, Try.ntmps23
    go_wp2_with fail
    rw [← hW]
    clear hW
    obtain ⟨j0, j1⟩ := HRES.out _ (Below.refl _ _)
    go_wp2_with (first | (go_at_call 62; refine HON.out.mono ?_; rintro e w1 ⟨rfl, hb1⟩; have HB1 := Lib.hid hb1; clear hb1; clear j0 j1; obtain ⟨j0, j1⟩ := HRES.out _ HB1.out))
    go_ret3
    exact ⟨_, _, w.heap.size, rfl, ⟨none, 0, rfl, .inl rfl⟩, ⟨none, 0, rfl, .inl rfl⟩, ⟨Nat.le_refl _, (bel_trans HBW.out HB1.out).size⟩, bel_trans HBW.out HB1.out⟩
  have h0' : ¬ ((ss.length : Int) = 0) := by omega
  have h0b : ((ss.length : Int) == 0) = false := by simpa using h0
  obtain ⟨Dn, hD⟩ : ∃ D, D = ndB n ss := ⟨_, rfl⟩
  rw [← hD] at had
  have HAD := Lib.hid (fun w' h => had w' h (by omega))
  cases Dn
  · rw [show nfB n es m ss = false by unfold nfB; rw [← hD]; simp, if_neg (by decide), if_neg (by decide)]
    clear hon hG had hp D hn hD h0
    go_enter Try.func23, Try.ntmps23
    go_wp2_with fail
    rw [← hW]
    clear hW
    obtain ⟨j0, j1⟩ := HRES.out _ (Below.refl _ _)
    go_wp2_with (first | (go_at_call 62; refine HON.out.mono ?_; rintro e w1 ⟨rfl, hb1⟩; have HB1 := Lib.hid hb1; clear hb1; clear j0 j1; obtain ⟨j0, j1⟩ := HRES.out _ HB1.out) | (go_at_call 63; refine (HAD.out _ HB1.out).mono ?_; rintro e w2 ⟨rfl, hb2⟩; have HB2 := Lib.hid (bel_trans HB1.out hb2); clear hb2; clear j0 j1; obtain ⟨j0, j1⟩ := HRES.out _ HB2.out))
    go_ret3
    exact ⟨_, _, w.heap.size, rfl, ⟨none, 0, rfl, .inl rfl⟩, ⟨none, 0, rfl, .inl rfl⟩, ⟨Nat.le_refl _, (bel_trans HBW.out HB2.out).size⟩, bel_trans HBW.out HB2.out⟩
  · rw [show nfB n es m ss = true by unfold nfB; rw [← hD, ← hG]; simp [h0], if_pos rfl, if_pos rfl]
    have h40 := (gVal_parts hp.1).2.2.1
    have he := eAll_of hp.1
    obtain ⟨N, rfl⟩ := Int.eq_ofNat_of_zero_le (show 0 ≤ n by omega)
    rw [Int.toNat_natCast] at he ⊢
    have hr : ∀ x ∈ ss, 0 ≤ x ∧ x < N := fun x hx => inN_iff.1 ((ndB_iff.1 hD.symm).1 x hx)
    have hne := fun w' (h : Below W.heap.size W w') => nearest m es N ss _ _ w' hm (HS.out.1.keep (bel_trans HBW.out h)) (HS.out.2.keep (bel_trans HBW.out h)) (by omega) (by omega) (by omega) he hr hl2
    rw [D.val] at hne
    have HNE := Lib.hid hne
    clear hon hG had hp D hn hD h0 he hr hne h40
    go_enter Try.func23, Try.ntmps23
    go_wp2_with fail
    rw [← hW]
    clear hW
    obtain ⟨j0, j1⟩ := HRES.out _ (Below.refl _ _)
    go_wp2_with (first | (go_at_call 62; refine HON.out.mono ?_; rintro e w1 ⟨rfl, hb1⟩; have HB1 := Lib.hid hb1; clear hb1; clear j0 j1; obtain ⟨j0, j1⟩ := HRES.out _ HB1.out) | (go_at_call 63; refine (HAD.out _ HB1.out).mono ?_; rintro e w2 ⟨rfl, hb2⟩; have HB2 := Lib.hid (bel_trans HB1.out hb2); clear hb2; clear j0 j1; obtain ⟨j0, j1⟩ := HRES.out _ HB2.out) | (go_at_call 64; (with_reducible refine (HNE.out _ HB2.out).mono ?_); rintro e w3 ⟨V, P, cv, cp, rfl, hrV, hrP, ⟨hV0, hVP⟩, hb3⟩; have H3 := Lib.hid (And.intro hrV (And.intro hrP (And.intro hV0 (And.intro hVP hb3)))); clear hrV hrP hV0 hVP hb3))
    go_ret3
    have h1 := bel_trans HBW.out HB2.out
    have hV := H3.out.2.2.1
    have hPs := H3.out.2.1.1
    have hVP := H3.out.2.2.2.1
    have h1s := h1.size
    have hlv := nrV_len m es N ss
    have hlo := nrO_len m es N ss
    have hiv := RowF.inR (lo := w.heap.size) (hi := P) (cap := cv) H3.out.1 hlv (fun i hi => nrV_at m es N ss i hi) (by omega) hVP (by omega)
    have hio := RowF.inR (lo := P) (hi := w3.heap.size) (cap := cp) H3.out.2.1 hlo (fun i hi => nrO_at m es N ss i hi) (Nat.le_refl _) hPs (Nat.le_refl _)
    rw [hlv] at hiv ⊢
    rw [hlo] at hio ⊢
    exact ⟨_, _, P, rfl, hiv, hio, ⟨by omega, by omega⟩, bel_trans h1 H3.out.2.2.2.2⟩
end Go.Proofs.Ytbinpaaihdcnlaa
