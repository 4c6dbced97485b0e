/- Rounds of relaxing: in the program. ViewOf: in the program. -/
import Derived.Test.YtneapbggnnndhaaGreatRelaxJ
import Derived.Test.YtneapbggnnndhaaGreatVStartT
namespace Go.Proofs.YtneapbggnnndhaaGreat
open Go.RowKit Go.BigFrame Go.Deep
set_option linter.unusedVariables false
set_option linter.unusedSimpArgs false
set_option linter.unnecessarySimpa false

theorem InR.slice' {fz : Bool} {w : World} {lo hi n sz : Nat} {v : Value} {cs : Nat → Value} (h : InR fz w lo hi v n sz cs) : ∃ a c, v = .slice a n c := by
  obtain ⟨a, c, h, _⟩ := h
  exact ⟨a, c, h⟩
/-- The values behind k rounds that all changed something, in memory from lo on. -/
def MidV (m : Int) (es : List Ed) (zs : List Int) (lo : Nat) (w : World) (k : Nat) (o : Value) : Prop :=
  InR true w lo w.heap.size o zs.length 1 (cellI (vIter m es k zs)) ∧ okS o ∧ ∀ j, j < k → vIter m es (j + 1) zs ≠ vIter m es j zs
theorem MidV.keep {m : Int} {es : List Ed} {zs : List Int} {lo k : Nat} {w w' : World} {o : Value} (h : MidV m es zs lo w k o) (hb : Below w.heap.size w w') : MidV m es zs lo w' k o :=
  ⟨(h.1.keep hb).wider (Nat.le_refl _) hb.size (Nat.le_refl _), h.2⟩
theorem MidV.row {m : Int} {es : List Ed} {zs : List Int} {lo k : Nat} {w : World} {o : Value} (h : MidV m es zs lo w k o) : Row w o (vIter m es k zs) := by
  have h1 := h.1
  have hl : (vIter m es k zs).length = zs.length := vIter_length m es zs k
  rw [← hl] at h1
  exact InR.rowI h1
theorem MidV.slice {m : Int} {es : List Ed} {zs : List Int} {lo k : Nat} {w : World} {o : Value} (h : MidV m es zs lo w k o) : ∃ a c, o = .slice a zs.length c := InR.slice' h.1
/-- What the rounds come to. -/
def RoundsTo (m : Int) (es : List Ed) (zs : List Int) (lo lim : Nat) (w : World) (r : Nat) (o : Value) : Prop :=
  MidV m es zs lo w r o ∧ r ≤ lim ∧ (r = lim ∨ vIter m es (r + 1) zs = vIter m es r zs)

end Go.Proofs.YtneapbggnnndhaaGreat
namespace Go.Proofs.YtneapbggnnndhaaGreat
open Go.RowKit Go.BigFrame Go.Deep
set_option linter.unusedVariables false
set_option linter.unusedSimpArgs false
set_option linter.unnecessarySimpa false

/-- The first round that changes nothing. -/
def FirstStill (m : Int) (es : List Ed) (zs : List Int) (r : Nat) : Prop := vIter m es (r + 1) zs = vIter m es r zs ∧ ∀ j, j < r → vIter m es (j + 1) zs ≠ vIter m es j zs
theorem FirstStill.eq {m : Int} {es : List Ed} {zs : List Int} {r q : Nat} (h : FirstStill m es zs r) (k : FirstStill m es zs q) : r = q := by
  rcases Nat.lt_trichotomy r q with e | e | e
  · exact absurd h.1 (k.2 r e)
  · exact e
  · exact absurd k.1 (h.2 q e)
theorem still_after {m : Int} {es : List Ed} {zs : List Int} {r k : Nat} (h : vIter m es (r + 1) zs = vIter m es r zs) (hk : r ≤ k) : vIter m es k zs = vIter m es r zs := by
  obtain ⟨j, rfl⟩ : ∃ j, k = r + j := ⟨k - r, by omega⟩
  exact vIter_stop m es zs r h j
theorem RoundsTo.first {m : Int} {es : List Ed} {N A : Nat} {lo : Nat} {w : World} {r : Nat} {o : Value} (h : RoundsTo m es (vStart m N A) lo (N - 1) w r o) (hm : mKind m = true) (he : eAll N es) (hA : A < N) : FirstStill m es (vStart m N A) r := by
  refine ⟨?_, h.1.2.2⟩
  rcases h.2.2 with e | e
  · subst e
    exact vEnd hm (by simpa using he) (by omega) (by simpa using hA) (by simp only [Int.toNat_natCast]; omega)
  · exact e

def voL (n : Int) (es : List Ed) (m a : Int) : List Int := if onOk n es m [a] = true then vIter m es n.toNat (vStart m n a) else []

end Go.Proofs.YtneapbggnnndhaaGreat
