/- All paths between two nodes in order, and the first of them: the program. -/
import Derived.Test.YtneapbggnnndhaaGreatSrtB
import Derived.Test.YtneapbggnnndhaaGreatSrcD
namespace Go.Proofs.YtneapbggnnndhaaGreat
open Go.RowKit Go.BigFrame Go.Deep
set_option linter.unusedVariables false
set_option linter.unusedSimpArgs false

/-- All simple paths between two nodes, in order. -/
def psO (n : Int) (es : List Ed) (m a b : Int) : List Pt := srt m (spR n es m a b)
theorem srt_nil (m : Int) : srt m [] = [] := by unfold srt; simp
theorem psO_len (n : Int) (es : List Ed) (m a b : Int) : (psO n es m a b).length ≤ 400 := by unfold psO; rw [srt_len]; exact spR_len _ _ _ _ _
theorem psO_mem {n m a b : Int} {es : List Ed} {p : Pt} (h : p ∈ psO n es m a b) : p.1.length ≤ 13 ∧ 0 < p.1.length ∧ mIn m p.2 = true := spR_mem (srt_mem.1 h)
theorem psO_not {n m a b : Int} {es : List Ed} (h : spB n es m a b = false) : psO n es m a b = [] := by unfold psO; rw [spR_not h, srt_nil]
theorem spB_kind {n m a b : Int} {es : List Ed} (h : spB n es m a b = true) : mKind m = true := by
  unfold spB at h
  simp only [Bool.and_eq_true] at h
  exact (onOk_parts h.1).2.2

set_option maxRecDepth 20000 in
set_option maxHeartbeats 4000000 in
theorem pathsInOrder (n m a b : Int) (es : List Ed) (s : Value) (w : World) (hs : RowE w s es) (hok : okS s) (hl : es.length ≤ 1048576) :
    Calls Tryz.prog 39 #[.agg #[.int .i64 n, s], .int .i64 m, .int .i64 a, .int .i64 b] w fun e w' => ∃ v qs, e = .returned (.tuple #[v, .bool (spB n es m a b)]) ∧ Pths w' w.heap.size v qs ∧ qs.map PP.p = psO n es m a b ∧ Below w.heap.size w w' := by
  obtain ⟨ad, cap, rfl, hz0⟩ := id hs
  clear hz0
  have hb0 : Below w.heap.size w (w.alloc (.cells #[.int .i64 n, .slice ad es.length cap] 35)) := (Below.refl _ _).alloc (Nat.le_refl _) _
  have hsp := fun w' (h : Below w.heap.size w w') => simplePaths n m a b es (.slice ad es.length cap) w' (hs.keep h) hok hl
  have HB0 := Lib.hid hb0
  have HSP := Lib.hid hsp
  clear hsp hb0 hs hok
  cases hG : spB n es m a b
  · have HSP2 : Hid (∀ w', Below w.heap.size w w' → Calls Tryz.prog 47 #[.agg #[.int .i64 n, .slice ad es.length cap], .int .i64 m, .int .i64 a, .int .i64 b] w' fun e w'' => ∃ v, e = .returned (.tuple #[v, .bool false]) ∧ Below w'.heap.size w' w'') := Lib.hid (fun w' h => (HSP.out w' h).mono (fun e w'' ⟨v, qs, h1, h2, h3, h4⟩ => ⟨v, by rw [h1, hG], h4⟩))
    rw [psO_not hG]
    clear hG HSP
    go_enter Tryz.func39, Tryz.ntmps39
    go_wp2_with fail
    refine (HSP2.out _ HB0.out).mono ?_
    rintro e w1 ⟨v, rfl, hb1⟩
    have H1 := Lib.hid (bel_trans HB0.out hb1)
    clear hb1
    go_wp2
    go_ret2
    exact ⟨_, [], rfl, Pths.nil _ _, rfl, H1.out⟩
  · have hm := spB_kind hG
    have HM := Lib.hid hm
    have hof := fun w => opsFor_any hm [] (.slice none 0 0) w (row_nil w) (by simp)
    rw [show ([] : List Int).all (mIn m) = true from rfl, show opsR m true = opsV m from rfl] at hof
    obtain ⟨T, rv, fb, rb, hv, -, -⟩ := dispG hm
    rw [hv] at hof
    have HOF := Lib.hid hof
    have HV := Lib.hid hv
    have HSP2 : Hid (∀ w', Below w.heap.size w w' → Calls Tryz.prog 47 #[.agg #[.int .i64 n, .slice ad es.length cap], .int .i64 m, .int .i64 a, .int .i64 b] w' fun e w'' => ∃ v qs, e = .returned (.tuple #[v, .bool true]) ∧ Pths w'' w'.heap.size v qs ∧ qs.map PP.p = spR n es m a b ∧ Below w'.heap.size w' w'') := Lib.hid (fun w' h => (HSP.out w' h).mono (fun e w'' ⟨v, qs, h1, h2, h3, h4⟩ => ⟨v, qs, by rw [h1, hG], h2, h3, h4⟩))
    have hmf : ∀ (fn : Fn) (first cap : Array Value) (w : World), (Instr.makeFunc fn first cap).run Tryz.prog w = .ok (.func fn first cap) w := fun _ _ _ _ => rfl
    clear hG HSP hof hm hv
    go_enter Tryz.func39, Tryz.ntmps39
    go_wp2_with fail
    refine (HSP2.out _ HB0.out).mono ?_
    rintro e w1 ⟨v, qs, rfl, hp, hq, hb1⟩
    have H1 := Lib.hid (And.intro hp (And.intro hq (bel_trans HB0.out hb1)))
    obtain ⟨va, vc, rfl⟩ := own_slice hp.own
    clear hb1 hp hq
    go_wp2_with fail
    refine (HOF.out _).mono ?_
    rintro e w2 ⟨rfl, hb2⟩
    have hb3 : Below w2.heap.size w2 (w2.alloc (.cells #[.iface T rv] 76)) := (Below.refl _ _).alloc (Nat.le_refl _) _
    have HX := Lib.hid (Box.new w2 76 #[.iface T rv])
    have H3 := Lib.hid (And.intro (H1.out.1.keep (bel_trans hb2 hb3)) (bel_trans H1.out.2.2 (bel_trans hb2 hb3)))
    clear hb2 hb3
    have hbase : w.heap.size ≤ (w.alloc (.cells #[.int .i64 n, .slice ad es.length cap] 35)).heap.size := HB0.out.size
    have hlq : ∀ q ∈ qs, q.zs.length ≤ 1000 := fun q hq => by
      have h1 : q.p ∈ spR n es m a b := by rw [← H1.out.2.1]; exact List.mem_map_of_mem hq
      have := (spR_mem h1).1
      show q.p.1.length ≤ 1000
      omega
    have hlq2 : qs.length ≤ 400 := by
      have := spR_len n es m a b
      rw [← H1.out.2.1, List.length_map] at this
      exact this
    have hso := sortPaths HM.out qs (.slice va qs.length vc) w2.heap.size _ _ H3.out.1 (by rw [HV.out]; exact HX.out) hlq hlq2
    have HSO := Lib.hid hso
    clear hso hlq hlq2
    go_wp2_with fail
    refine HSO.out.mono ?_
    rintro e w4 ⟨rfl, qs', hq1, hq2, hq3, hq4⟩
    have hlen : qs'.length = qs.length := hq2.length_eq
    have HF := Lib.hid (And.intro (show Pths w4 w.heap.size (.slice va qs.length vc) qs' from ⟨own_low5 hq3.own hbase, fun q hq => ⟨own_low5 (hq3.row q hq).1 hbase, (hq3.row q hq).2⟩, hq3.dis⟩) (And.intro (show qs'.map PP.p = psO n es m a b by rw [hq1, H1.out.2.1]; rfl) (hq4 w hbase H3.out.2)))
    clear hq1 hq2 hq3 hq4 hlen
    go_wp2
    go_ret2
    exact ⟨_, qs', rfl, HF.out.1, HF.out.2.1, HF.out.2.2⟩
end Go.Proofs.YtneapbggnnndhaaGreat
