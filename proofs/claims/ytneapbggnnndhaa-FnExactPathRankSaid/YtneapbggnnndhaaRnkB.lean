/- The place of a path among all paths between its ends: the program. -/
import Derived.Test.YtneapbggnnndhaaRnkA
import Derived.Deep.RegionHeld3
namespace Go.Proofs.Ytneapbggnnndhaa
open Go.RowKit Go.BigFrame Go.Deep
set_option linter.unusedVariables false
set_option linter.unusedSimpArgs false

/-- All paths between the ends of a path. -/
def prL (n : Int) (es : List Ed) (m : Int) (ys : List Int) : List Pt := if ys.length = 0 then [] else psO n es m (ys.getD 0 0) (ys.getD (ys.length - 1) 0)
def prI (n : Int) (es : List Ed) (m : Int) (ys : List Int) (y : Int) : Int := plP (prL n es m ys) (ys, y)
def prB (n : Int) (es : List Ed) (m : Int) (ys : List Int) (y : Int) : Bool := decide (prI n es m ys y ≥ 0)
theorem prL_len (n : Int) (es : List Ed) (m : Int) (ys : List Int) : (prL n es m ys).length ≤ 400 := by
  unfold prL
  split
  · simp
  · exact psO_len _ _ _ _ _
theorem prL_mem {n m : Int} {es : List Ed} {ys : List Int} {p : Pt} (h : p ∈ prL n es m ys) : p.1.length ≤ 13 ∧ 0 < p.1.length ∧ mIn m p.2 = true := by
  unfold prL at h
  split at h
  · cases h
  · exact psO_mem h
theorem ofP_len {qs : List PP} {ps : List Pt} (h : qs.map PP.p = ps) (hl : ∀ p ∈ ps, p.1.length ≤ 13) : ∀ q ∈ qs, q.zs.length ≤ 1000 := fun q hq => by
  have h1 : q.p ∈ ps := by rw [← h]; exact List.mem_map_of_mem hq
  have h2 := hl _ h1
  show q.p.1.length ≤ 1000
  omega

set_option maxRecDepth 20000 in
set_option maxHeartbeats 8000000 in
theorem pathsAround (n m y : Int) (es : List Ed) (ys : List Int) (s t : Value) (w : World) (hs : RowE w s es) (ht : Row w t ys) (hok : okS s) (hl : es.length ≤ 1048576) (hl2 : ys.length ≤ 281474976710656) :
    Calls Try.prog 62 #[.agg #[.int .i64 n, s], .int .i64 m, .agg #[t, .int .i64 y]] w fun e w' => ∃ v i qs, e = .returned (.tuple #[v, .int .i64 i, .bool (prB n es m ys y)]) ∧ Pths w' w.heap.size v qs ∧ (prB n es m ys y = true → i = prI n es m ys y ∧ qs.map PP.p = prL n es m ys) ∧ Below w.heap.size w w' := by
  obtain ⟨ad, cap, rfl, hz0⟩ := id hs
  obtain ⟨ad2, c2, rfl, hz1⟩ := id ht
  clear hz0
  have hb0 : Below w.heap.size w ((w.alloc (.cells #[.int .i64 n, .slice ad es.length cap] 34)).alloc (.cells #[.slice ad2 ys.length c2, .int .i64 y] 49)) := ((Below.refl _ _).alloc (Nat.le_refl _) _).alloc (by simp) _
  have hx1 := (Box.new w 34 #[.int .i64 n, .slice ad es.length cap]).alloc (.cells #[.slice ad2 ys.length c2, .int .i64 y] 49)
  have hx2 := Box.new (w.alloc (.cells #[.int .i64 n, .slice ad es.length cap] 34)) 49 #[.slice ad2 ys.length c2, .int .i64 y]
  by_cases h0 : ys.length = 0
  · have e0 : prL n es m ys = [] := by unfold prL; rw [if_pos h0]
    have e1 : prB n es m ys y = false := by unfold prB prI; rw [e0, plP_nil]; rfl
    rw [e1]
    have d0 : decide ((ys.length : Int) = 0) = true := decide_eq_true (by omega)
    have d1 : ((ys.length : Int) == 0) = true := by rw [beq_iff_eq]; omega
    have HB0 := Lib.hid hb0
    clear hb0 hx1 hx2 hs ht hok hz1 e0 e1 h0
    go_enter Try.func62, Try.ntmps62
    go_wp2
    go_ret3
    refine ⟨_, 0, [], rfl, Pths.nil _ _, ?_, HB0.out⟩
    intro h
    cases h
  · have hpos : 0 < ys.length := by omega
    rcases hz1 with hz1 | ⟨b2, off2, rfl, hb2l, hcz⟩
    · exact absurd (by rw [hz1]; rfl) h0
    have eL : prL n es m ys = psO n es m (ys.getD 0 0) (ys.getD (ys.length - 1) 0) := by unfold prL; rw [if_neg h0]
    have hcA := hcz 0 hpos
    have hcC := hcz (ys.length - 1) (by omega)
    have hio := fun w' (h : Below w.heap.size w w') => pathsInOrder n m (ys.getD 0 0) (ys.getD (ys.length - 1) 0) es (.slice ad es.length cap) w' (hs.keep h) hok hl
    have eI : prI n es m ys y = plP (prL n es m ys) (ys, y) := rfl
    have eB : prB n es m ys y = decide (prI n es m ys y ≥ 0) := rfl
    have hlp := fun (qs : List PP) (h : qs.map PP.p = psO n es m (ys.getD 0 0) (ys.getD (ys.length - 1) 0)) => And.intro (ofP_len h (fun p hp => (psO_mem hp).1)) (show qs.length ≤ 400 by have := psO_len n es m (ys.getD 0 0) (ys.getD (ys.length - 1) 0); rw [← h, List.length_map] at this; exact this)
    have hno := fun h => psO_not (n := n) (es := es) (m := m) (a := ys.getD 0 0) (b := ys.getD (ys.length - 1) 0) h
    rw [eL] at eI
    generalize prL n es m ys = L at eL
    subst eL
    generalize ys.getD 0 0 = A0 at *
    generalize ys.getD (ys.length - 1) 0 = C0 at *
    generalize prI n es m ys y = I0 at *
    generalize prB n es m ys y = B0 at *
    generalize psO n es m A0 C0 = PS at *
    generalize spB n es m A0 C0 = G at *
    have d0 : decide ((ys.length : Int) = 0) = false := decide_eq_false (by omega)
    have d1 : ((ys.length : Int) == 0) = false := by rw [beq_eq_false_iff_ne]; omega
    have q1 : ¬ ((ys.length : Int) - 1 < 0) := by omega
    have q2 : ¬ ((ys.length : Int) ≤ (ys.length : Int) - 1) := by omega
    have q3 : ((ys.length : Int) - 1).toNat = ys.length - 1 := by omega
    have q5 : (0 : Int) ≤ (ys.length : Int) - 1 := by omega
    have q6 : (ys.length : Int) - 1 < (ys.length : Int) := by omega
    have q7 : (1 : Int) ≤ ys.length := by omega
    have q8 : ¬ (ys.length : Int) < 1 := by omega
    have qw : IntKind.i64.wrap ((ys.length : Int) - 1) = (ys.length : Int) - 1 := by rw [IntKind.wrap_i64]; omega
    have q4 : ¬ ((ys.length : Int) ≤ 0) := by omega
    have HB0 := Lib.hid hb0
    have HT := Lib.hid ht
    have HX1 := Lib.hid hx1
    have HX2 := Lib.hid hx2
    have HIO := Lib.hid hio
    have HLP := Lib.hid hlp
    have HNO := Lib.hid hno
    have HE := Lib.hid (And.intro eI eB)
    have hbs : (w.alloc (.cells #[.int .i64 n, .slice ad es.length cap] 34)).heap.size = w.heap.size + 1 := by simp
    have hold : ∀ w' : World, Below ((w.alloc (.cells #[.int .i64 n, .slice ad es.length cap] 34)).alloc (.cells #[.slice (some ⟨b2, off2, none⟩) ys.length c2, .int .i64 y] 49)).heap.size ((w.alloc (.cells #[.int .i64 n, .slice ad es.length cap] 34)).alloc (.cells #[.slice (some ⟨b2, off2, none⟩) ys.length c2, .int .i64 y] 49)) w' → (w'.cell? ⟨w.heap.size, 0, none⟩ = some (.int .i64 n) ∧ w'.cell? ⟨w.heap.size, 1, none⟩ = some (.slice ad es.length cap) ∧ w'.cell? ⟨w.heap.size + 1, 0, none⟩ = some (.slice (some ⟨b2, off2, none⟩) ys.length c2) ∧ w'.cell? ⟨w.heap.size + 1, 1, none⟩ = some (.int .i64 y) ∧ w'.cell? ⟨b2, off2, none⟩ = some (.int .i64 A0) ∧ w'.cell? ⟨b2, off2 + (ys.length - 1), none⟩ = some (.int .i64 C0)) := fun w' h => by
      have hB := bel_trans HB0.out h
      have hk1 := HX1.out.keep h
      have hk2 := HX2.out.keep h
      rw [hbs] at hk2
      exact ⟨by simpa using hk1.cell 0, by simpa using hk1.cell 1, by simpa using hk2.cell 0, by simpa using hk2.cell 1, (hB.cell (p := ⟨b2, off2, none⟩) hb2l).trans (by simpa using hcA), (hB.cell (p := ⟨b2, _, none⟩) hb2l).trans hcC⟩
    have HOLD := Lib.hid hold
    clear hb0 hx1 hx2 hs ht hok hcz hcA hcC hold hio hlp hno eI eB hbs
    go_enter Try.func62, Try.ntmps62
    go_wp2_with fail
    generalize ((w.alloc (.cells #[.int .i64 n, .slice ad es.length cap] 34)).alloc (.cells #[.slice (some ⟨b2, off2, none⟩) ys.length c2, .int .i64 y] 49)) = w1 at HB0 HX1 HX2 HOLD ⊢
    go_region_held3 (fun w' : World => w'.cell? ⟨w.heap.size, 0, none⟩ = some (.int .i64 n) ∧ w'.cell? ⟨w.heap.size, 1, none⟩ = some (.slice ad es.length cap) ∧ w'.cell? ⟨w.heap.size + 1, 0, none⟩ = some (.slice (some ⟨b2, off2, none⟩) ys.length c2) ∧ w'.cell? ⟨w.heap.size + 1, 1, none⟩ = some (.int .i64 y) ∧ w'.cell? ⟨b2, off2, none⟩ = some (.int .i64 A0) ∧ w'.cell? ⟨b2, off2 + (ys.length - 1), none⟩ = some (.int .i64 C0)) (first | with_reducible exact HOLD.out _ ((Below.refl _ _).drew) | with_reducible exact HOLD.out _ (bel_trans ((Below.refl _ _).drew) hb3)) (first | (go_at_call 60; (with_reducible refine (HIO.out _ (bel_trans HB0.out ((Below.refl _ _).drew))).mono ?_); rintro e w3 ⟨v, qs, rfl, hp3, hm3, hb3⟩))
    have hb13 : Below w1.heap.size w1 w3 := by first | exact bel_trans ((Below.refl _ _).drew) hb3 | exact hb3
    have hfin := bel_trans HB0.out hb13
    have hsz := HB0.out.size
    have HP3 : Hid (Pths w3 w.heap.size v qs ∧ qs.map PP.p = PS ∧ Below w.heap.size w w3) := Lib.hid ⟨⟨own_low5 hp3.own (by simpa using hsz), fun q hq => ⟨own_low5 (hp3.row q hq).1 (by simpa using hsz), (hp3.row q hq).2⟩, hp3.dis⟩, hm3, hfin⟩
    obtain ⟨k0, k1, k2, k3, k4, k5⟩ := HOLD.out _ hb13
    have hix := indexPaths qs v w.heap.size y ys (some ⟨b2, off2, none⟩) c2 (w.heap.size + 1) w3 HP3.out.1 k2 k3 (by have := hfin.size; have h2 := HX2.out.lt; simp at h2; have h3 := hb13.size; omega) (HT.out.keep hfin) (HLP.out qs hm3).1 hl2 (HLP.out qs hm3).2
    rw [hm3, ← HE.out.1] at hix
    have HIX := Lib.hid hix
    have hmf : ∀ (fn : Fn) (first cap : Array Value) (w : World), (Instr.makeFunc fn first cap).run Try.prog w = .ok (.func fn first cap) w := fun _ _ _ _ => rfl
    clear hp3 hm3 hb3 hb13 hfin hsz k0 k1 k2 k3 k4 k5 hix
    cases G
    · have hB : B0 = false := by rw [HE.out.2, HE.out.1, HNO.out rfl, plP_nil]; rfl
      subst hB
      go_wp2
      go_ret3
      first | exact ⟨_, ⟨0, rfl⟩, ⟨[], Pths.nil _ _⟩, HP3.out.2.2⟩ | exact ⟨_, 0, [], rfl, Pths.nil _ _, (fun h => nomatch h), HP3.out.2.2⟩
    · go_wp2_with fail
      refine HIX.out.mono ?_
      rintro e w4 ⟨rfl, hb4⟩
      go_wp2
      go_ret3
      rw [HE.out.2]
      exact ⟨v, I0, qs, rfl, HP3.out.1.keep hb4, fun _ => ⟨rfl, HP3.out.2.1⟩, bel_trans HP3.out.2.2 hb4⟩

set_option maxRecDepth 20000 in
set_option maxHeartbeats 4000000 in
theorem pathRank (n m y : Int) (es : List Ed) (ys : List Int) (s t : Value) (w : World) (hs : RowE w s es) (ht : Row w t ys) (hok : okS s) (hl : es.length ≤ 1048576) (hl2 : ys.length ≤ 281474976710656) :
    Calls Try.prog 37 #[.agg #[.int .i64 n, s], .int .i64 m, .agg #[t, .int .i64 y]] w fun e w' => e = .returned (.tuple #[.int .i64 (if prB n es m ys y then prI n es m ys y else 0), .bool (prB n es m ys y)]) ∧ Below w.heap.size w w' := by
  obtain ⟨ad, cap, rfl, hz0⟩ := id hs
  obtain ⟨ad2, c2, rfl, hz1⟩ := id ht
  clear hz0 hz1
  have hb0 : Below w.heap.size w ((w.alloc (.cells #[.int .i64 n, .slice ad es.length cap] 34)).alloc (.cells #[.slice ad2 ys.length c2, .int .i64 y] 49)) := ((Below.refl _ _).alloc (Nat.le_refl _) _).alloc (by simp) _
  have hpa := fun w' (h : Below w.heap.size w w') => pathsAround n m y es ys (.slice ad es.length cap) (.slice ad2 ys.length c2) w' (hs.keep h) (ht.keep h) hok hl hl2
  generalize prB n es m ys y = B at hpa ⊢
  generalize prI n es m ys y = I at hpa ⊢
  have HB0 := Lib.hid hb0
  have HPA := Lib.hid hpa
  clear hb0 hpa hs ht hok
  go_enter Try.func37, Try.ntmps37
  go_wp2_with fail
  refine (HPA.out _ HB0.out).mono ?_
  rintro e w1 ⟨v, i, qs, rfl, hp, hi, hb1⟩
  have H1 := Lib.hid (And.intro hi (bel_trans HB0.out hb1))
  clear hp hi hb1
  cases B
  · go_wp2
    go_ret2
    exact ⟨rfl, H1.out.2⟩
  · have hiI := (H1.out.1 rfl).1
    subst hiI
    go_wp2
    go_ret2
    exact ⟨rfl, H1.out.2⟩
end Go.Proofs.Ytneapbggnnndhaa
