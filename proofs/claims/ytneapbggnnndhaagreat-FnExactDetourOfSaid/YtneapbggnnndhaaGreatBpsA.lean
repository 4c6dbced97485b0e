/- The best paths of all: the program. -/
import Derived.Test.YtneapbggnnndhaaGreatSrtC
namespace Go.Proofs.YtneapbggnnndhaaGreat
open Go.RowKit Go.BigFrame Go.Deep
set_option linter.unusedVariables false
set_option linter.unusedSimpArgs false

def bpB (n : Int) (es : List Ed) (m a b c : Int) : Bool := spB n es m a b && (decide (0 ≤ c) && decide (c ≤ 400))
/-- The first paths of all. -/
def bpR (n : Int) (es : List Ed) (m a b c : Int) : List Pt := if bpB n es m a b c then (psO n es m a b).take c.toNat else []
theorem bpR_len (n : Int) (es : List Ed) (m a b c : Int) : (bpR n es m a b c).length ≤ 400 := by
  unfold bpR
  split
  · have := psO_len n es m a b
    rw [List.length_take]
    omega
  · simp
theorem bpR_mem {n m a b c : Int} {es : List Ed} {p : Pt} (h : p ∈ bpR n es m a b c) : p.1.length ≤ 13 := by
  unfold bpR at h
  split at h
  · exact (psO_mem (List.mem_of_mem_take h)).1
  · cases h
theorem cellsP_take (qs : List PP) (k : Nat) : (cellsP qs).take (k * 2) = cellsP (qs.take k) := by
  induction qs generalizing k with
  | nil => simp [cellsP]
  | cons q qs ih =>
    cases k with
    | zero => simp [cellsP]
    | succ k =>
      rw [show (k + 1) * 2 = k * 2 + 1 + 1 by omega]
      show q.v :: .int .i64 q.x :: (cellsP qs).take (k * 2) = _
      rw [ih]
      rfl
/-- A row of paths cut off at its end. -/
theorem pths_cut {w : World} {base k cap : Nat} {a : Option Addr} {qs : List PP} (h : Pths w base (.slice a qs.length cap) qs) (hk : k ≤ qs.length) : Pths w base (.slice a k cap) (qs.take k) := by
  have hlt : (qs.take k).length = k := by rw [List.length_take]; omega
  refine ⟨?_, fun q hq => h.row q (List.mem_of_mem_take hq), h.dis.sublist (List.take_sublist _ _)⟩
  rw [hlt, ← cellsP_take]
  rcases h.own.2 with ⟨hv, hn⟩ | ⟨g, cap', cur, hv, -⟩
  · injection hv with e1 e2 e3
    have hk0 : k = 0 := by omega
    have hq0 : qs = [] := List.length_eq_zero_iff.1 hn
    subst hk0 hq0
    subst e1 e3
    simpa [cellsP] using World.ownsRow_nil w base 30 2
  · injection hv with e1 e2 e3
    have ho := h.own
    rw [e1] at ho ⊢
    exact own_cut ho hk

end Go.Proofs.YtneapbggnnndhaaGreat
