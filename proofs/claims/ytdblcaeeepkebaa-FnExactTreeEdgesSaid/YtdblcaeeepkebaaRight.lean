/- ViewOf: in the program. -/
import Derived.Test.YtdblcaeeepkebaaRounds
import Derived.Test.YtdblcaeeepkebaaVStartJ
namespace Go.Proofs.Ytdblcaeeepkebaa
open Go.RowKit Go.BigFrame Go.Deep
set_option linter.unusedVariables false
set_option linter.unusedSimpArgs false
set_option linter.unnecessarySimpa false

/-- The first round that changes nothing. -/
def FirstStill (m : Int) (es : List Ed) (zs : List Int) (r : Nat) : Prop := vIter m es (r + 1) zs = vIter m es r zs ∧ ∀ j, j < r → vIter m es (j + 1) zs ≠ vIter m es j zs
theorem FirstStill.eq {m : Int} {es : List Ed} {zs : List Int} {r q : Nat} (h : FirstStill m es zs r) (k : FirstStill m es zs q) : r = q := by
  rcases Nat.lt_trichotomy r q with e | e | e
  · exact absurd h.1 (k.2 r e)
  · exact e
  · exact absurd k.1 (h.2 q e)
theorem still_after {m : Int} {es : List Ed} {zs : List Int} {r k : Nat} (h : vIter m es (r + 1) zs = vIter m es r zs) (hk : r ≤ k) : vIter m es k zs = vIter m es r zs := by
  obtain ⟨j, rfl⟩ : ∃ j, k = r + j := ⟨k - r, by omega⟩
  exact vIter_stop m es zs r h j
theorem RoundsTo.first {m : Int} {es : List Ed} {N A : Nat} {lo : Nat} {w : World} {r : Nat} {o : Value} (h : RoundsTo m es (vStart m N A) lo (N - 1) w r o) (hm : mKind m = true) (he : eAll N es) (hA : A < N) : FirstStill m es (vStart m N A) r := by
  refine ⟨?_, h.1.2.2⟩
  rcases h.2.2 with e | e
  · subst e
    exact vEnd hm (by simpa using he) (by omega) (by simpa using hA) (by simp only [Int.toNat_natCast]; omega)
  · exact e

set_option maxRecDepth 20000 in
set_option maxHeartbeats 4000000 in
theorem rightValues (m : Int) (es : List Ed) (N A : Nat) (s : Value) (w : World) (hm : mKind m = true) (hs : RowE w s es) (hl : es.length ≤ 1048576) (hA : A < N) (h12 : N ≤ 12) (he : eAll N es) :
    Calls Try.prog 63 #[opsV m, .agg #[.int .i64 N, s], .int .i64 A] w fun e w' => ∃ v r, e = .returned (.tuple #[v, .int .i64 (r : Nat)]) ∧ OwnV w w' v (vIter m es N (vStart m N A)) ∧ okS v ∧ (FirstStill m es (vStart m N A) r ∧ r + 1 ≤ N) ∧ Below w.heap.size w w' := by
  have hlen : (vStart m N A).length = N := by rw [vStart_length, Int.toNat_natCast]
  have hst := fun w => startValues m N A hm hA h12 w
  have hrr := fun (t : Value) (lo : Nat) (w' : World) (h : Below w.heap.size w w') (ht : MidV m es (vStart m N A) lo w' 0 t) (hlo : lo ≤ w'.heap.size) => relaxRounds m es (vStart m N A) s t lo (N - 1) w' hm (hs.keep h) ht hlo hl (by omega) (by omega) (vStart_all hm) (by rw [hlen]; exact he) (by omega)
  rw [show ((N - 1 : Nat) : Int) = (N : Int) - 1 by omega] at hrr
  have hfin : ∀ lo w' r o, RoundsTo m es (vStart m N A) lo (N - 1) w' r o → InR true w' lo w'.heap.size o (vIter m es N (vStart m N A)).length 1 (cellI (vIter m es N (vStart m N A))) ∧ okS o ∧ (FirstStill m es (vStart m N A) r ∧ r + 1 ≤ N) := fun lo w' r o h => by
    have h1 := h.first hm he hA
    have h2 : vIter m es N (vStart m N A) = vIter m es r (vStart m N A) := still_after h1.1 (by have := h.2.1; omega)
    have h3 := h.1.1
    rw [h2, vIter_length]
    exact ⟨h3, h.1.2.1, h1, by have := h.2.1; omega⟩
  have HST := Lib.hid hst
  have HRR := Lib.hid hrr
  have HFIN := Lib.hid hfin
  have HLEN := Lib.hid hlen
  have hwr : IntKind.i64.wrap ((N : Int) - 1) = (N : Int) - 1 := wrap_small (by omega) (by omega)
  obtain ⟨ad, cap, rfl, hz0⟩ := hs
  obtain ⟨O, hO⟩ : ∃ O, O = opsV m := ⟨_, rfl⟩
  rw [← hO] at HST HRR ⊢
  have hfacts : ∀ w', Below (w.alloc (.cells #[.int .i64 N, .slice ad es.length cap] 31)).heap.size (w.alloc (.cells #[.int .i64 N, .slice ad es.length cap] 31)) w' → (w'.cell? ⟨w.heap.size, 0, none⟩ = some (.int .i64 N) ∧ w'.cell? ⟨w.heap.size, 1, none⟩ = some (.slice ad es.length cap)) ∧ Below w.heap.size w w' := fun w' h =>
    ⟨⟨(h.cell (p := ⟨_, _, none⟩) (by simp)).trans (by go_simp), (h.cell (p := ⟨_, _, none⟩) (by simp)).trans (by go_simp)⟩, bel_trans ((Below.refl _ _).alloc (Nat.le_refl _) _) h⟩
  have HF := Lib.hid hfacts
  clear hst hrr hfin hlen hz0 hO hfacts he
  go_enter Try.func63, Try.ntmps63
  go_wp2
  generalize (w.alloc (.cells #[.int .i64 N, .slice ad es.length cap] 31)) = W1 at HF ⊢
  go_region_held3 (fun w' : World => w'.cell? ⟨w.heap.size, 0, none⟩ = some (.int .i64 N) ∧ w'.cell? ⟨w.heap.size, 1, none⟩ = some (.slice ad es.length cap)) (first | exact (HF.out _ ((Below.refl _ _).drew)).1 | exact (HF.out _ (bel_trans ((Below.refl _ _).drew) hbA)).1 | exact (HF.out _ (bel_trans (bel_trans ((Below.refl _ _).drew) hbA) hbB)).1) (first | (go_at_call 94; (with_reducible refine (HST.out _).mono ?_); rintro e wA ⟨v, rfl, hnew, hbA⟩; have hMA : MidV m es (vStart m N A) w.heap.size wA 0 v := ⟨by (have h1 := hnew.inR; have h2 := (HF.out _ ((Below.refl _ _).drew)).2.size; exact h1.wider (by simpa using h2) (Nat.le_refl _) (Nat.le_refl _)), hnew.ok, fun j hj => absurd hj (Nat.not_lt_zero _)⟩; have HMA := Lib.hid hMA; obtain ⟨a1, c1, rfl⟩ := hMA.slice; clear hnew hMA) | (go_at_call 93; (with_reducible refine (HRR.out _ _ _ (HF.out _ (bel_trans ((Below.refl _ _).drew) hbA)).2 HMA.out (HF.out _ (bel_trans ((Below.refl _ _).drew) hbA)).2.size).mono ?_); rintro e wB ⟨o, r, rfl, hto, hbB⟩; have HTO := Lib.hid (HFIN.out _ _ _ _ hto); clear hto))
  all_goals
    have HB2 := Lib.hid (HF.out _ (bel_trans (bel_trans ((Below.refl _ _).drew) hbA) hbB)).2
    go_wp2
    go_ret2
    exact ⟨o, r, rfl, HTO.out.1, HTO.out.2.1, HTO.out.2.2, HB2.out⟩

def voL (n : Int) (es : List Ed) (m a : Int) : List Int := if onOk n es m [a] = true then vIter m es n.toNat (vStart m n a) else []

end Go.Proofs.Ytdblcaeeepkebaa
