/- The best paths of all: the program. -/
import Derived.Test.YtneapbggnnndhaaSrtC
namespace Go.Proofs.Ytneapbggnnndhaa
open Go.RowKit Go.BigFrame Go.Deep
set_option linter.unusedVariables false
set_option linter.unusedSimpArgs false

def bpB (n : Int) (es : List Ed) (m a b c : Int) : Bool := spB n es m a b && (decide (0 ≤ c) && decide (c ≤ 400))
/-- The first paths of all. -/
def bpR (n : Int) (es : List Ed) (m a b c : Int) : List Pt := if bpB n es m a b c then (psO n es m a b).take c.toNat else []
theorem bpR_len (n : Int) (es : List Ed) (m a b c : Int) : (bpR n es m a b c).length ≤ 400 := by
  unfold bpR
  split
  · have := psO_len n es m a b
    rw [List.length_take]
    omega
  · simp
theorem bpR_mem {n m a b c : Int} {es : List Ed} {p : Pt} (h : p ∈ bpR n es m a b c) : p.1.length ≤ 13 := by
  unfold bpR at h
  split at h
  · exact (psO_mem (List.mem_of_mem_take h)).1
  · cases h
theorem cellsP_take (qs : List PP) (k : Nat) : (cellsP qs).take (k * 2) = cellsP (qs.take k) := by
  induction qs generalizing k with
  | nil => simp [cellsP]
  | cons q qs ih =>
    cases k with
    | zero => simp [cellsP]
    | succ k =>
      rw [show (k + 1) * 2 = k * 2 + 1 + 1 by omega]
      show q.v :: .int .i64 q.x :: (cellsP qs).take (k * 2) = _
      rw [ih]
      rfl
/-- A row of paths cut off at its end. -/
theorem pths_cut {w : World} {base k cap : Nat} {a : Option Addr} {qs : List PP} (h : Pths w base (.slice a qs.length cap) qs) (hk : k ≤ qs.length) : Pths w base (.slice a k cap) (qs.take k) := by
  have hlt : (qs.take k).length = k := by rw [List.length_take]; omega
  refine ⟨?_, fun q hq => h.row q (List.mem_of_mem_take hq), h.dis.sublist (List.take_sublist _ _)⟩
  rw [hlt, ← cellsP_take]
  rcases h.own.2 with ⟨hv, hn⟩ | ⟨g, cap', cur, hv, -⟩
  · injection hv with e1 e2 e3
    have hk0 : k = 0 := by omega
    have hq0 : qs = [] := List.length_eq_zero_iff.1 hn
    subst hk0 hq0
    subst e1 e3
    simpa [cellsP] using World.ownsRow_nil w base 49 2
  · injection hv with e1 e2 e3
    have ho := h.own
    rw [e1] at ho ⊢
    exact own_cut ho hk

set_option maxRecDepth 20000 in
set_option maxHeartbeats 4000000 in
theorem bestPaths (n m a b c : Int) (es : List Ed) (s : Value) (w : World) (hs : RowE w s es) (hok : okS s) (hl : es.length ≤ 1048576) :
    Calls Try.prog 35 #[.agg #[.int .i64 n, s], .int .i64 m, .int .i64 a, .int .i64 b, .int .i64 c] w fun e w' => ∃ v qs, e = .returned (.tuple #[v, .bool (bpB n es m a b c)]) ∧ Pths w' w.heap.size v qs ∧ qs.map PP.p = bpR n es m a b c ∧ Below w.heap.size w w' := by
  obtain ⟨ad, cap, rfl, hz0⟩ := id hs
  clear hz0
  have hb0 : Below w.heap.size w (w.alloc (.cells #[.int .i64 n, .slice ad es.length cap] 34)) := (Below.refl _ _).alloc (Nat.le_refl _) _
  have hsp := fun w' (h : Below w.heap.size w w') => pathsInOrder n m a b es (.slice ad es.length cap) w' (hs.keep h) hok hl
  have HB0 := Lib.hid hb0
  have hlO := psO_len n es m a b
  have heR : bpR n es m a b c = if bpB n es m a b c then (psO n es m a b).take c.toNat else [] := rfl
  have heB : bpB n es m a b c = (spB n es m a b && (decide (0 ≤ c) && decide (c ≤ 400))) := rfl
  generalize psO n es m a b = PS at hsp hlO heR
  generalize spB n es m a b = B at hsp heB
  rw [heB] at heR
  rw [heR, heB]
  have HSP := Lib.hid hsp
  clear hsp hb0 hs hok heR heB
  cases B
  · go_enter Try.func35, Try.ntmps35
    go_wp2_with fail
    refine (HSP.out _ HB0.out).mono ?_
    rintro e w1 ⟨v, qs, rfl, hp, hq, hb1⟩
    have H1 := Lib.hid (bel_trans HB0.out hb1)
    clear hb1 hp hq
    go_wp2
    go_ret2
    exact ⟨_, rfl, [], Pths.nil _ _, rfl, H1.out⟩
  · by_cases hc : 0 ≤ c ∧ c ≤ 400
    · obtain ⟨hc1, hc2⟩ := hc
      rw [decide_eq_true hc1, decide_eq_true hc2]
      have d1 : decide (c < 0) = false := decide_eq_false (by omega)
      have d2 : decide (c > 400) = false := decide_eq_false (by omega)
      go_enter Try.func35, Try.ntmps35
      go_wp2_with fail
      refine (HSP.out _ HB0.out).mono ?_
      rintro e w1 ⟨v, qs, rfl, hp, hq, hb1⟩
      obtain ⟨va, vc, hva⟩ := own_slice hp.own
      subst hva
      have H1 := Lib.hid (And.intro hp (And.intro hq (bel_trans HB0.out hb1)))
      have hvc : qs.length ≤ vc := by
        rcases hp.own.2 with ⟨hv, hn⟩ | ⟨g, cap', cur, hv, -, -, hcap, -⟩
        · omega
        · injection hv with e1 e2 e3
          omega
      have g1 : 0 ≤ min c (qs.length : Int) := by omega
      have g2 : min c (qs.length : Int) ≤ vc := by omega
      have g3 : ¬ min c (qs.length : Int) < 0 := by omega
      have g4 : ¬ (vc : Int) < min c (qs.length : Int) := by omega
      have g5 : (min c (qs.length : Int)).toNat = min c.toNat qs.length := by omega
      have G5 := Lib.hid g5
      clear hb1 hp hq g5
      go_wp2
      go_ret2
      have hk : min c.toNat qs.length ≤ qs.length := Nat.min_le_right _ _
      have hpc := pths_cut H1.out.1 hk
      refine ⟨_, rfl, qs.take (min c.toNat qs.length), ?_, ?_, H1.out.2.2⟩
      · rw [← G5.out] at hpc ⊢
        have hbase := HB0.out.size
        exact ⟨own_low5 hpc.own hbase, fun q hq => ⟨own_low5 (hpc.row q hq).1 hbase, (hpc.row q hq).2⟩, hpc.dis⟩
      · rw [← H1.out.2.1, ← List.map_take]
        congr 1
        rw [List.take_eq_take_iff]
        omega
    · have hd : (decide (0 ≤ c) && decide (c ≤ 400)) = false := by simp; omega
      rw [hd]
      by_cases hc1 : c < 0
      · have d1 : decide (c < 0) = true := decide_eq_true (by omega)
        go_enter Try.func35, Try.ntmps35
        go_wp2_with fail
        refine (HSP.out _ HB0.out).mono ?_
        rintro e w1 ⟨v, qs, rfl, hp, hq, hb1⟩
        have H1 := Lib.hid (bel_trans HB0.out hb1)
        clear hb1 hp hq
        go_wp2
        go_ret2
        exact ⟨_, rfl, [], Pths.nil _ _, rfl, H1.out⟩
      · have d1 : decide (c < 0) = false := decide_eq_false (by omega)
        have d2 : decide (c > 400) = true := decide_eq_true (by omega)
        go_enter Try.func35, Try.ntmps35
        go_wp2_with fail
        refine (HSP.out _ HB0.out).mono ?_
        rintro e w1 ⟨v, qs, rfl, hp, hq, hb1⟩
        have H1 := Lib.hid (bel_trans HB0.out hb1)
        clear hb1 hp hq
        go_wp2
        go_ret2
        exact ⟨_, rfl, [], Pths.nil _ _, rfl, H1.out⟩
end Go.Proofs.Ytneapbggnnndhaa
