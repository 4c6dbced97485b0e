/- The place of a path among paths: mathematics, and the library's search for it. The place of a path among all paths between its ends: the program. The place of a path among all paths between its ends: the model. -/
import Derived.Test.YtneapbggnnndhaaGreatBpsA
import Derived.Test.YtneapbggnnndhaaGreatSrtF
import Derived.Deep.RegionHeld3
namespace Go.Proofs.YtneapbggnnndhaaGreat
open Go.RowKit Go.BigFrame Go.Deep
set_option linter.unusedVariables false
set_option linter.unusedSimpArgs false

def eqP (q p : Pt) : Bool := pSame q.1 q.2 p.1 p.2
/-- Where a path comes first, or -1. -/
def plP (ps : List Pt) (p : Pt) : Int := if ps.findIdx (fun q => eqP q p) < ps.length then ((ps.findIdx (fun q => eqP q p) : Nat) : Int) else -1
theorem fQ_at {qs : List PP} {j : Nat} (hj : j < qs.length) : (qs.map PP.p)[j]'(by simpa using hj) = fQ qs j := by
  unfold fQ
  simp [List.getD, hj]
theorem plQ_hit {qs : List PP} {p : Pt} {k : Nat} (hk : k < qs.length) (h : eqP (fQ qs k) p = true) (hn : ∀ j, j < k → eqP (fQ qs j) p = false) : plP (qs.map PP.p) p = k := by
  have hk' : k < (qs.map PP.p).length := by simpa using hk
  have e : (qs.map PP.p).findIdx (fun q => eqP q p) = k := by
    rw [List.findIdx_eq hk']
    refine ⟨by rw [fQ_at hk]; exact h, fun j hj => ?_⟩
    rw [fQ_at (by omega)]
    exact hn j hj
  unfold plP
  rw [e, if_pos hk']
theorem plQ_none {qs : List PP} {p : Pt} (hn : ∀ j, j < qs.length → eqP (fQ qs j) p = false) : plP (qs.map PP.p) p = -1 := by
  have e : (qs.map PP.p).findIdx (fun q => eqP q p) = (qs.map PP.p).length := by
    rw [List.findIdx_eq_length]
    intro x hx
    obtain ⟨j, hj, rfl⟩ := List.getElem_of_mem hx
    rw [List.length_map] at hj
    have := hn j hj
    rw [← fQ_at hj] at this
    simpa using this
  unfold plP
  rw [e, if_neg (by omega)]
theorem plP_nil (p : Pt) : plP [] p = -1 := by simp [plP]
theorem plP_range (ps : List Pt) (p : Pt) : plP ps p = -1 ∨ (0 ≤ plP ps p ∧ (plP ps p).toNat < ps.length) := by
  unfold plP
  split
  · right
    omega
  · exact .inl rfl

set_option maxRecDepth 20000 in
set_option maxHeartbeats 2000000 in
theorem sameClosure (x y : Int) (zs ys : List Int) (s : Value) (ad2 : Option Addr) (c2 : Nat) (B : Nat) (w : World) (hB0 : w.cell? ⟨B, 0, none⟩ = some (.slice ad2 ys.length c2)) (hB1 : w.cell? ⟨B, 1, none⟩ = some (.int .i64 y)) (hBl : B < w.heap.size) (hs : Row w s zs) (ht : Row w (.slice ad2 ys.length c2) ys) (hl : zs.length ≤ 281474976710656) (hl2 : ys.length ≤ 281474976710656) :
    Calls Tryz.prog 40 #[.agg #[s, .int .i64 x], .pointer (some ⟨B, 0, none⟩)] w fun e w' => e = .returned (.bool (eqP (zs, x) (ys, y))) ∧ Below w.heap.size w w' := by
  obtain ⟨ad, c, rfl, hz0⟩ := id hs
  clear hz0
  have hb0 : Below w.heap.size w (w.alloc (.cells #[.slice ad zs.length c, .int .i64 x] 30)) := (Below.refl _ _).alloc (Nat.le_refl _) _
  have hcp := fun w' (h : Below w.heap.size w w') => pathSame x y zs ys (.slice ad zs.length c) (.slice ad2 ys.length c2) w' (hs.keep h) (ht.keep h) hl hl2
  have x0 := (hb0.cell (p := ⟨B, 0, none⟩) hBl).trans hB0
  have x1 := (hb0.cell (p := ⟨B, 1, none⟩) hBl).trans hB1
  rw [show eqP (zs, x) (ys, y) = pSame zs x ys y from rfl]
  generalize pSame zs x ys y = C at hcp ⊢
  have HB0 := Lib.hid hb0
  have HCP := Lib.hid hcp
  clear hcp hs ht hb0 hB0 hB1
  go_enter Tryz.func40, Tryz.ntmps40
  go_wp2_with fail
  refine (HCP.out _ HB0.out).mono ?_
  rintro e w1 ⟨rfl, hb1⟩
  go_wp2
  go_ret
  exact ⟨rfl, bel_trans HB0.out hb1⟩

set_option maxRecDepth 20000 in
set_option maxHeartbeats 4000000 in
theorem indexPaths (qs : List PP) (v : Value) (base : Nat) (y : Int) (ys : List Int) (ad2 : Option Addr) (c2 B : Nat) (w : World) (hP : Pths w base v qs) (hB0 : w.cell? ⟨B, 0, none⟩ = some (.slice ad2 ys.length c2)) (hB1 : w.cell? ⟨B, 1, none⟩ = some (.int .i64 y)) (hBl : B < w.heap.size) (ht : Row w (.slice ad2 ys.length c2) ys) (hl : ∀ q ∈ qs, q.zs.length ≤ 1000) (hl2 : ys.length ≤ 281474976710656) (hn : qs.length ≤ 400) :
    Calls Tryz.prog 31 #[v, .func (.func 40) #[] #[.pointer (some ⟨B, 0, none⟩)]] w fun e w' => e = .returned (.int .i64 (plP (qs.map PP.p) (ys, y))) ∧ Below w.heap.size w w' := by
  have hcl := fun (q : PP) (hq : q ∈ qs) w' (h : Below w.heap.size w w') => sameClosure q.x y q.zs ys q.v ad2 c2 B w' ((h.cell (p := ⟨B, 0, none⟩) hBl).trans hB0) ((h.cell (p := ⟨B, 1, none⟩) hBl).trans hB1) (Nat.lt_of_lt_of_le hBl h.size) ((own_row (hP.row q hq).1).keep h) (ht.keep h) (by have := hl q hq; omega) hl2
  have HCL := Lib.hid hcl
  rcases hP.own.2 with ⟨hv, hn0⟩ | ⟨g, cap, cur, hv, hbg, hhg, hcap, -⟩
  · subst hv
    have h0 : qs = [] := List.length_eq_zero_iff.1 hn0
    subst h0
    rw [show plP (List.map PP.p []) (ys, y) = -1 from plP_nil _]
    clear hcl HCL hP hB0 hB1 ht hl
    go_enter Tryz.func31, Tryz.ntmps31
    go_wp2
    go_loopw [8] (fun c wr => c = .int .i64 0 ∧ wr = w) (fun c _ => 0)
    case atStart => exact ⟨rfl, rfl⟩
    case round =>
      obtain ⟨rfl, rfl⟩ := hrel
      go_wp2
      go_ret
      exact ⟨rfl, Below.refl _ _⟩
  subst hv
  have hgl := (Array.getElem?_eq_some_iff.1 hhg).1
  have HPP := Lib.hid hP
  have HI : Hid (Below w.heap.size w w) := Lib.hid (Below.refl _ _)
  clear hcl hP hB0 hB1 ht hl hhg
  go_enter Tryz.func31, Tryz.ntmps31
  go_wp2
  go_loopw [8] (fun c wr => ∃ k : Nat, k ≤ qs.length ∧ c = .int .i64 k ∧ Hid (Below w.heap.size w wr ∧ ∀ j, j < k → eqP (fQ qs j) (ys, y) = false)) (fun c _ => qs.length - (intOf c).toNat)
  case atStart => exact ⟨0, Nat.zero_le _, rfl, Lib.hid ⟨Below.refl _ _, fun j hj => absurd hj (Nat.not_lt_zero _)⟩⟩
  case round =>
    obtain ⟨k, hk, rfl, HR⟩ := hrel
    by_cases hlt : k < qs.length
    · have hlt' : (k : Int) < qs.length := by omega
      have hc := cellsP_get (HPP.out.keep HR.out.1) hlt
      obtain ⟨hc0, hc1⟩ := hc
      have hcall := HCL.out _ (getD_memP hlt) wr HR.out.1
      have hF : (qs.getD k ppZ).p = fQ qs k := rfl
      obtain ⟨a1, s1, e1⟩ := own_slice (HPP.out.row _ (getD_memP hlt)).1
      have hE : eqP ((qs.getD k ppZ).zs, (qs.getD k ppZ).x) (ys, y) = eqP (fQ qs k) (ys, y) := rfl
      rw [hE] at hcall
      generalize qs.getD k ppZ = P1 at hc0 hc1 hcall e1 hF hE
      rw [e1] at hc0 hcall
      clear hF hE e1
      cases hL : eqP (fQ qs k) (ys, y)
      · rw [hL] at hcall
        have HC := Lib.hid hcall
        have HL1 := Lib.hid hL
        clear hcall hL
        go_wp2_with fail
        refine HC.out.mono ?_
        rintro e w' ⟨rfl, hb'⟩
        go_wp2
        refine ⟨⟨k + 1, by omega, rfl, Lib.hid ⟨bel_trans HR.out.1 hb', fun j hj => ?_⟩⟩, ?_⟩
        · by_cases e : j = k
          · rw [e]; exact HL1.out
          · exact HR.out.2 j (by omega)
        · show qs.length - ((k : Int) + 1).toNat < qs.length - (k : Int).toNat
          omega
      · rw [hL] at hcall
        have HC := Lib.hid hcall
        have HL1 := Lib.hid hL
        clear hcall hL
        go_wp2_with fail
        refine HC.out.mono ?_
        rintro e w' ⟨rfl, hb'⟩
        go_wp2
        go_ret
        exact ⟨by rw [plQ_hit hlt HL1.out HR.out.2]; rfl, bel_trans HR.out.1 hb'⟩
    · have hge : k = qs.length := by omega
      subst hge
      go_wp2
      go_ret
      exact ⟨by rw [plQ_none HR.out.2]; rfl, HR.out.1⟩
end Go.Proofs.YtneapbggnnndhaaGreat
namespace Go.Proofs.YtneapbggnnndhaaGreat
open Go.RowKit Go.BigFrame Go.Deep
set_option linter.unusedVariables false
set_option linter.unusedSimpArgs false

/-- All paths between the ends of a path. -/
def prL (n : Int) (es : List Ed) (m : Int) (ys : List Int) : List Pt := if ys.length = 0 then [] else psO n es m (ys.getD 0 0) (ys.getD (ys.length - 1) 0)
def prI (n : Int) (es : List Ed) (m : Int) (ys : List Int) (y : Int) : Int := plP (prL n es m ys) (ys, y)
def prB (n : Int) (es : List Ed) (m : Int) (ys : List Int) (y : Int) : Bool := decide (prI n es m ys y ≥ 0)
theorem prL_len (n : Int) (es : List Ed) (m : Int) (ys : List Int) : (prL n es m ys).length ≤ 400 := by
  unfold prL
  split
  · simp
  · exact psO_len _ _ _ _ _
theorem prL_mem {n m : Int} {es : List Ed} {ys : List Int} {p : Pt} (h : p ∈ prL n es m ys) : p.1.length ≤ 13 ∧ 0 < p.1.length ∧ mIn m p.2 = true := by
  unfold prL at h
  split at h
  · cases h
  · exact psO_mem h
theorem ofP_len {qs : List PP} {ps : List Pt} (h : qs.map PP.p = ps) (hl : ∀ p ∈ ps, p.1.length ≤ 13) : ∀ q ∈ qs, q.zs.length ≤ 1000 := fun q hq => by
  have h1 : q.p ∈ ps := by rw [← h]; exact List.mem_map_of_mem hq
  have h2 := hl _ h1
  show q.p.1.length ≤ 1000
  omega

set_option maxRecDepth 20000 in
set_option maxHeartbeats 8000000 in
theorem pathsAround (n m y : Int) (es : List Ed) (ys : List Int) (s t : Value) (w : World) (hs : RowE w s es) (ht : Row w t ys) (hok : okS s) (hl : es.length ≤ 1048576) (hl2 : ys.length ≤ 281474976710656) :
    Calls Tryz.prog 24 #[.agg #[.int .i64 n, s], .int .i64 m, .agg #[t, .int .i64 y]] w fun e w' => ∃ v i qs, e = .returned (.tuple #[v, .int .i64 i, .bool (prB n es m ys y)]) ∧ Pths w' w.heap.size v qs ∧ (prB n es m ys y = true → i = prI n es m ys y ∧ qs.map PP.p = prL n es m ys) ∧ Below w.heap.size w w' := by
  obtain ⟨ad, cap, rfl, hz0⟩ := id hs
  obtain ⟨ad2, c2, rfl, hz1⟩ := id ht
  clear hz0
  have hb0 : Below w.heap.size w ((w.alloc (.cells #[.int .i64 n, .slice ad es.length cap] 35)).alloc (.cells #[.slice ad2 ys.length c2, .int .i64 y] 30)) := ((Below.refl _ _).alloc (Nat.le_refl _) _).alloc (by simp) _
  have hx1 := (Box.new w 35 #[.int .i64 n, .slice ad es.length cap]).alloc (.cells #[.slice ad2 ys.length c2, .int .i64 y] 30)
  have hx2 := Box.new (w.alloc (.cells #[.int .i64 n, .slice ad es.length cap] 35)) 30 #[.slice ad2 ys.length c2, .int .i64 y]
  by_cases h0 : ys.length = 0
  · have e0 : prL n es m ys = [] := by unfold prL; rw [if_pos h0]
    have e1 : prB n es m ys y = false := by unfold prB prI; rw [e0, plP_nil]; rfl
    rw [e1]
    have d0 : decide ((ys.length : Int) = 0) = true := decide_eq_true (by omega)
    have d1 : ((ys.length : Int) == 0) = true := by rw [beq_iff_eq]; omega
    have HB0 := Lib.hid hb0
    clear hb0 hx1 hx2 hs ht hok hz1 e0 e1 h0
    go_enter Tryz.func24, Tryz.ntmps24
    go_wp2
    go_ret3
    refine ⟨_, 0, [], rfl, Pths.nil _ _, ?_, HB0.out⟩
    intro h
    cases h
  · have hpos : 0 < ys.length := by omega
    rcases hz1 with hz1 | ⟨b2, off2, rfl, hb2l, hcz⟩
    · exact absurd (by rw [hz1]; rfl) h0
    have eL : prL n es m ys = psO n es m (ys.getD 0 0) (ys.getD (ys.length - 1) 0) := by unfold prL; rw [if_neg h0]
    have hcA := hcz 0 hpos
    have hcC := hcz (ys.length - 1) (by omega)
    have hio := fun w' (h : Below w.heap.size w w') => pathsInOrder n m (ys.getD 0 0) (ys.getD (ys.length - 1) 0) es (.slice ad es.length cap) w' (hs.keep h) hok hl
    have eI : prI n es m ys y = plP (prL n es m ys) (ys, y) := rfl
    have eB : prB n es m ys y = decide (prI n es m ys y ≥ 0) := rfl
    have hlp := fun (qs : List PP) (h : qs.map PP.p = psO n es m (ys.getD 0 0) (ys.getD (ys.length - 1) 0)) => And.intro (ofP_len h (fun p hp => (psO_mem hp).1)) (show qs.length ≤ 400 by have := psO_len n es m (ys.getD 0 0) (ys.getD (ys.length - 1) 0); rw [← h, List.length_map] at this; exact this)
    have hno := fun h => psO_not (n := n) (es := es) (m := m) (a := ys.getD 0 0) (b := ys.getD (ys.length - 1) 0) h
    rw [eL] at eI
    generalize prL n es m ys = L at eL
    subst eL
    generalize ys.getD 0 0 = A0 at *
    generalize ys.getD (ys.length - 1) 0 = C0 at *
    generalize prI n es m ys y = I0 at *
    generalize prB n es m ys y = B0 at *
    generalize psO n es m A0 C0 = PS at *
    generalize spB n es m A0 C0 = G at *
    have d0 : decide ((ys.length : Int) = 0) = false := decide_eq_false (by omega)
    have d1 : ((ys.length : Int) == 0) = false := by rw [beq_eq_false_iff_ne]; omega
    have q1 : ¬ ((ys.length : Int) - 1 < 0) := by omega
    have q2 : ¬ ((ys.length : Int) ≤ (ys.length : Int) - 1) := by omega
    have q3 : ((ys.length : Int) - 1).toNat = ys.length - 1 := by omega
    have q5 : (0 : Int) ≤ (ys.length : Int) - 1 := by omega
    have q6 : (ys.length : Int) - 1 < (ys.length : Int) := by omega
    have q7 : (1 : Int) ≤ ys.length := by omega
    have q8 : ¬ (ys.length : Int) < 1 := by omega
    have qw : IntKind.i64.wrap ((ys.length : Int) - 1) = (ys.length : Int) - 1 := by rw [IntKind.wrap_i64]; omega
    have q4 : ¬ ((ys.length : Int) ≤ 0) := by omega
    have HB0 := Lib.hid hb0
    have HT := Lib.hid ht
    have HX1 := Lib.hid hx1
    have HX2 := Lib.hid hx2
    have HIO := Lib.hid hio
    have HLP := Lib.hid hlp
    have HNO := Lib.hid hno
    have HE := Lib.hid (And.intro eI eB)
    have hbs : (w.alloc (.cells #[.int .i64 n, .slice ad es.length cap] 35)).heap.size = w.heap.size + 1 := by simp
    have hold : ∀ w' : World, Below ((w.alloc (.cells #[.int .i64 n, .slice ad es.length cap] 35)).alloc (.cells #[.slice (some ⟨b2, off2, none⟩) ys.length c2, .int .i64 y] 30)).heap.size ((w.alloc (.cells #[.int .i64 n, .slice ad es.length cap] 35)).alloc (.cells #[.slice (some ⟨b2, off2, none⟩) ys.length c2, .int .i64 y] 30)) w' → (w'.cell? ⟨w.heap.size, 0, none⟩ = some (.int .i64 n) ∧ w'.cell? ⟨w.heap.size, 1, none⟩ = some (.slice ad es.length cap) ∧ w'.cell? ⟨w.heap.size + 1, 0, none⟩ = some (.slice (some ⟨b2, off2, none⟩) ys.length c2) ∧ w'.cell? ⟨w.heap.size + 1, 1, none⟩ = some (.int .i64 y) ∧ w'.cell? ⟨b2, off2, none⟩ = some (.int .i64 A0) ∧ w'.cell? ⟨b2, off2 + (ys.length - 1), none⟩ = some (.int .i64 C0)) := fun w' h => by
      have hB := bel_trans HB0.out h
      have hk1 := HX1.out.keep h
      have hk2 := HX2.out.keep h
      rw [hbs] at hk2
      exact ⟨by simpa using hk1.cell 0, by simpa using hk1.cell 1, by simpa using hk2.cell 0, by simpa using hk2.cell 1, (hB.cell (p := ⟨b2, off2, none⟩) hb2l).trans (by simpa using hcA), (hB.cell (p := ⟨b2, _, none⟩) hb2l).trans hcC⟩
    have HOLD := Lib.hid hold
    clear hb0 hx1 hx2 hs ht hok hcz hcA hcC hold hio hlp hno eI eB hbs
    go_enter Tryz.func24, Tryz.ntmps24
    go_wp2_with fail
    generalize ((w.alloc (.cells #[.int .i64 n, .slice ad es.length cap] 35)).alloc (.cells #[.slice (some ⟨b2, off2, none⟩) ys.length c2, .int .i64 y] 30)) = w1 at HB0 HX1 HX2 HOLD ⊢
    go_region_held3 (fun w' : World => w'.cell? ⟨w.heap.size, 0, none⟩ = some (.int .i64 n) ∧ w'.cell? ⟨w.heap.size, 1, none⟩ = some (.slice ad es.length cap) ∧ w'.cell? ⟨w.heap.size + 1, 0, none⟩ = some (.slice (some ⟨b2, off2, none⟩) ys.length c2) ∧ w'.cell? ⟨w.heap.size + 1, 1, none⟩ = some (.int .i64 y) ∧ w'.cell? ⟨b2, off2, none⟩ = some (.int .i64 A0) ∧ w'.cell? ⟨b2, off2 + (ys.length - 1), none⟩ = some (.int .i64 C0)) (first | with_reducible exact HOLD.out _ ((Below.refl _ _).drew) | with_reducible exact HOLD.out _ (bel_trans ((Below.refl _ _).drew) hb3)) (first | (go_at_call 39; (with_reducible refine (HIO.out _ (bel_trans HB0.out ((Below.refl _ _).drew))).mono ?_); rintro e w3 ⟨v, qs, rfl, hp3, hm3, hb3⟩))
    have hb13 : Below w1.heap.size w1 w3 := by first | exact bel_trans ((Below.refl _ _).drew) hb3 | exact hb3
    have hfin := bel_trans HB0.out hb13
    have hsz := HB0.out.size
    have HP3 : Hid (Pths w3 w.heap.size v qs ∧ qs.map PP.p = PS ∧ Below w.heap.size w w3) := Lib.hid ⟨⟨own_low5 hp3.own (by simpa using hsz), fun q hq => ⟨own_low5 (hp3.row q hq).1 (by simpa using hsz), (hp3.row q hq).2⟩, hp3.dis⟩, hm3, hfin⟩
    obtain ⟨k0, k1, k2, k3, k4, k5⟩ := HOLD.out _ hb13
    have hix := indexPaths qs v w.heap.size y ys (some ⟨b2, off2, none⟩) c2 (w.heap.size + 1) w3 HP3.out.1 k2 k3 (by have := hfin.size; have h2 := HX2.out.lt; simp at h2; have h3 := hb13.size; omega) (HT.out.keep hfin) (HLP.out qs hm3).1 hl2 (HLP.out qs hm3).2
    rw [hm3, ← HE.out.1] at hix
    have HIX := Lib.hid hix
    have hmf : ∀ (fn : Fn) (first cap : Array Value) (w : World), (Instr.makeFunc fn first cap).run Tryz.prog w = .ok (.func fn first cap) w := fun _ _ _ _ => rfl
    clear hp3 hm3 hb3 hb13 hfin hsz k0 k1 k2 k3 k4 k5 hix
    cases G
    · have hB : B0 = false := by rw [HE.out.2, HE.out.1, HNO.out rfl, plP_nil]; rfl
      subst hB
      go_wp2
      go_ret3
      first | exact ⟨_, ⟨0, rfl⟩, ⟨[], Pths.nil _ _⟩, HP3.out.2.2⟩ | exact ⟨_, 0, [], rfl, Pths.nil _ _, (fun h => nomatch h), HP3.out.2.2⟩
    · go_wp2_with fail
      refine HIX.out.mono ?_
      rintro e w4 ⟨rfl, hb4⟩
      go_wp2
      go_ret3
      rw [HE.out.2]
      exact ⟨v, I0, qs, rfl, HP3.out.1.keep hb4, fun _ => ⟨rfl, HP3.out.2.1⟩, bel_trans HP3.out.2.2 hb4⟩

end Go.Proofs.YtneapbggnnndhaaGreat
namespace Go.Proofs.YtneapbggnnndhaaGreat
open Go.RowKit Go.BigFrame Go.Deep
set_option linter.unusedVariables false
set_option linter.unusedSimpArgs false

set_option maxRecDepth 20000 in
set_option maxHeartbeats 8000000 in
theorem l11Place (n m y : Int) (es : List Ed) (ys : List Int) (s t : Value) (w : World) (hs : RowE w s es) (ht : Row w t ys) (hl : es.length ≤ 1048576) (hl2 : ys.length ≤ 281474976710656) :
    Calls Tryz.prog 20 #[.agg #[.int .i64 n, s], .int .i64 m, .agg #[t, .int .i64 y]] w fun e w' => ∃ v qs, e = .returned (.tuple #[.int .i64 (prI n es m ys y), v]) ∧ Pths w' w.heap.size v qs ∧ (prB n es m ys y = true → qs.map PP.p = prL n es m ys) ∧ Below w.heap.size w w' := by
  obtain ⟨ad, cap, rfl, hz0⟩ := id hs
  obtain ⟨ad2, c2, rfl, hz1⟩ := id ht
  clear hz0
  have hb0 : Below w.heap.size w ((w.alloc (.cells #[.int .i64 n, .slice ad es.length cap] 35)).alloc (.cells #[.slice ad2 ys.length c2, .int .i64 y] 30)) := ((Below.refl _ _).alloc (Nat.le_refl _) _).alloc (by simp) _
  have hx1 := (Box.new w 35 #[.int .i64 n, .slice ad es.length cap]).alloc (.cells #[.slice ad2 ys.length c2, .int .i64 y] 30)
  have hx2 := Box.new (w.alloc (.cells #[.int .i64 n, .slice ad es.length cap] 35)) 30 #[.slice ad2 ys.length c2, .int .i64 y]
  by_cases h0 : ys.length = 0
  · have e0 : prL n es m ys = [] := by unfold prL; rw [if_pos h0]
    have e1 : prI n es m ys y = -1 := by unfold prI; rw [e0, plP_nil]
    have e2 : prB n es m ys y = false := by unfold prB; rw [e1]; rfl
    rw [e1, e2]
    have d0 : decide ((ys.length : Int) = 0) = true := decide_eq_true (by omega)
    have d1 : ((ys.length : Int) == 0) = true := by rw [beq_iff_eq]; omega
    have hk2 : ∀ w' : World, Below ((w.alloc (.cells #[.int .i64 n, .slice ad es.length cap] 35)).alloc (.cells #[.slice ad2 ys.length c2, .int .i64 y] 30)).heap.size ((w.alloc (.cells #[.int .i64 n, .slice ad es.length cap] 35)).alloc (.cells #[.slice ad2 ys.length c2, .int .i64 y] 30)) w' → w'.cell? ⟨w.heap.size + 1, 0, none⟩ = some (.slice ad2 ys.length c2) := fun w' h => by
      have hk2 := hx2.keep h
      rw [show (w.alloc (.cells #[.int .i64 n, .slice ad es.length cap] 35)).heap.size = w.heap.size + 1 by simp] at hk2
      simpa using hk2.cell 0
    have HK := Lib.hid hk2
    have HB0 := Lib.hid hb0
    clear hb0 hx1 hx2 hs ht hz1 e0 e1 e2 h0 hk2
    go_enter Tryz.func20, Tryz.ntmps20
    go_wp2_with fail
    generalize ((w.alloc (.cells #[.int .i64 n, .slice ad es.length cap] 35)).alloc (.cells #[.slice ad2 ys.length c2, .int .i64 y] 30)) = w1 at HB0 HK ⊢
    refine wp_region_below (by kernel_rfl) (by kernel_rfl) ?_
    repeat (go_big_quiet_step ((intro hw; first | with_reducible rfl | (have f0 := HK.out _ hw; simp only [f0, Result.andThen]; first | exact ⟨trivial, rfl⟩ | exact ⟨rfl, rfl⟩))))
    refine wpQuiet_nil ?_
    intro w2 hw2
    have H2 := Lib.hid (bel_trans HB0.out hw2)
    clear hw2
    go_wp2
    go_ret2
    exact ⟨.slice (some ⟨w2.heap.size, 0, none⟩) 0 0, [], rfl, pths_empty _ _ H2.out.size, (fun h => nomatch h), H2.out.alloc H2.out.size _⟩
  · have hpos : 0 < ys.length := by omega
    rcases hz1 with hz1 | ⟨b2, off2, rfl, hb2l, hcz⟩
    · exact absurd (by rw [hz1]; rfl) h0
    have eL : prL n es m ys = psO n es m (ys.getD 0 0) (ys.getD (ys.length - 1) 0) := by unfold prL; rw [if_neg h0]
    have hcA := hcz 0 hpos
    have hcC := hcz (ys.length - 1) (by omega)
    have eI : prI n es m ys y = plP (prL n es m ys) (ys, y) := rfl
    have eB : prB n es m ys y = decide (prI n es m ys y ≥ 0) := rfl
    rw [eL] at eI
    generalize prL n es m ys = L at eL
    subst eL
    generalize ys.getD 0 0 = A0 at *
    generalize ys.getD (ys.length - 1) 0 = C0 at *
    have hno := fun h => psO_not (n := n) (es := es) (m := m) (a := A0) (b := C0) h
    have hyes := fun (h : spB n es m A0 C0 = true) => And.intro (spB_kind h) (show psO n es m A0 C0 = srt m (spL m es A0 C0) by unfold psO; rw [spR_yes h])
    have hlp := fun (qs : List PP) (h : spB n es m A0 C0 = true) (hq : qs.map PP.p = spL m es A0 C0) => by
      rw [← spR_yes h] at hq
      exact And.intro (ofP_len hq (fun p hp => (spR_mem hp).1)) (show qs.length ≤ 400 by have := spR_len n es m A0 C0; rw [← hq, List.length_map] at this; exact this)
    have eS : spB n es m A0 C0 = (onOk n es m [A0, C0] && decide ((spL m es A0 C0).length ≤ 400)) := rfl
    have hri := fun w' (h : Below w.heap.size w w') => l11Right n m A0 C0 es (.slice ad es.length cap) w' (hs.keep h) hl
    have hal := fun w' (h : Below w.heap.size w w') (hon : onOk n es m [A0, C0] = true) => l11All n m A0 C0 es (.slice ad es.length cap) w' (hs.keep h) hl hon
    generalize prI n es m ys y = I0 at *
    generalize prB n es m ys y = B0 at *
    generalize psO n es m A0 C0 = PS at *
    generalize spB n es m A0 C0 = S at *
    generalize onOk n es m [A0, C0] = G at *
    generalize spL m es A0 C0 = SL at *
    have d0 : decide ((ys.length : Int) = 0) = false := decide_eq_false (by omega)
    have d1 : ((ys.length : Int) == 0) = false := by rw [beq_eq_false_iff_ne]; omega
    have q1 : ¬ ((ys.length : Int) - 1 < 0) := by omega
    have q2 : ¬ ((ys.length : Int) ≤ (ys.length : Int) - 1) := by omega
    have q3 : ((ys.length : Int) - 1).toNat = ys.length - 1 := by omega
    have q5 : (0 : Int) ≤ (ys.length : Int) - 1 := by omega
    have q6 : (ys.length : Int) - 1 < (ys.length : Int) := by omega
    have q7 : (1 : Int) ≤ ys.length := by omega
    have qw : IntKind.i64.wrap ((ys.length : Int) - 1) = (ys.length : Int) - 1 := by rw [IntKind.wrap_i64]; omega
    have q4 : ¬ ((ys.length : Int) ≤ 0) := by omega
    have HB0 := Lib.hid hb0
    have HT := Lib.hid ht
    have HX1 := Lib.hid hx1
    have HX2 := Lib.hid hx2
    have HRI := Lib.hid hri
    have HAL := Lib.hid hal
    have HLP := Lib.hid hlp
    have HNO := Lib.hid hno
    have HYES := Lib.hid hyes
    have ES := Lib.hid eS
    have HE := Lib.hid (And.intro eI eB)
    have hbs : (w.alloc (.cells #[.int .i64 n, .slice ad es.length cap] 35)).heap.size = w.heap.size + 1 := by simp
    have hold : ∀ w' : World, Below ((w.alloc (.cells #[.int .i64 n, .slice ad es.length cap] 35)).alloc (.cells #[.slice (some ⟨b2, off2, none⟩) ys.length c2, .int .i64 y] 30)).heap.size ((w.alloc (.cells #[.int .i64 n, .slice ad es.length cap] 35)).alloc (.cells #[.slice (some ⟨b2, off2, none⟩) ys.length c2, .int .i64 y] 30)) w' → (w'.cell? ⟨w.heap.size, 0, none⟩ = some (.int .i64 n) ∧ w'.cell? ⟨w.heap.size, 1, none⟩ = some (.slice ad es.length cap) ∧ w'.cell? ⟨w.heap.size + 1, 0, none⟩ = some (.slice (some ⟨b2, off2, none⟩) ys.length c2) ∧ w'.cell? ⟨w.heap.size + 1, 1, none⟩ = some (.int .i64 y) ∧ w'.cell? ⟨b2, off2, none⟩ = some (.int .i64 A0) ∧ w'.cell? ⟨b2, off2 + (ys.length - 1), none⟩ = some (.int .i64 C0)) := fun w' h => by
      have hB := bel_trans HB0.out h
      have hk1 := HX1.out.keep h
      have hk2 := HX2.out.keep h
      rw [hbs] at hk2
      exact ⟨by simpa using hk1.cell 0, by simpa using hk1.cell 1, by simpa using hk2.cell 0, by simpa using hk2.cell 1, (hB.cell (p := ⟨b2, off2, none⟩) hb2l).trans (by simpa using hcA), (hB.cell (p := ⟨b2, _, none⟩) hb2l).trans hcC⟩
    have HOLD := Lib.hid hold
    clear hb0 hx1 hx2 hs ht hcz hcA hcC hold hri hal hlp hno hyes eS eI eB hbs
    cases G
    · have hS : S = false := by rw [ES.out]; rfl
      have hI : I0 = -1 := by rw [HE.out.1, HNO.out hS, plP_nil]
      have hB : B0 = false := by rw [HE.out.2, hI]; rfl
      subst hI hB
      go_enter Tryz.func20, Tryz.ntmps20
      go_wp2_with fail
      generalize ((w.alloc (.cells #[.int .i64 n, .slice ad es.length cap] 35)).alloc (.cells #[.slice (some ⟨b2, off2, none⟩) ys.length c2, .int .i64 y] 30)) = w1 at HB0 HX1 HX2 HOLD ⊢
      refine wp_region_below (by kernel_rfl) (by kernel_rfl) ?_
      repeat (go_big_quiet_step ((intro hw; first | with_reducible rfl | (obtain ⟨f0, f1, f2, f3, f4, f5⟩ := HOLD.out _ hw; simp only [f0, f1, f2, f3, f4, f5, Result.andThen]; first | exact ⟨trivial, rfl⟩ | exact ⟨rfl, rfl⟩) | (with_reducible exact quietB (HRI.out _ (bel_trans HB0.out hw)) hw))))
      refine wpQuiet_nil ?_
      intro w2 hw2
      have H2 := Lib.hid (bel_trans HB0.out hw2)
      clear hw2
      go_wp2
      go_ret2
      exact ⟨.slice (some ⟨w2.heap.size, 0, none⟩) 0 0, [], rfl, pths_empty _ _ H2.out.size, (fun h => nomatch h), H2.out.alloc H2.out.size _⟩
    · have HAL2 : Hid (∀ (w' : World), Below w.heap.size w w' → Calls Tryz.prog 35 #[.agg #[.int .i64 n, .slice ad es.length cap], .int .i64 m, .int .i64 A0, .int .i64 C0] w' fun e w'_1 => ∃ v qs, e = .returned (.tuple #[v, .bool (decide (SL.length ≤ 400))]) ∧ Pths w'_1 w'.heap.size v qs ∧ qs.map PP.p = SL ∧ Below w'.heap.size w' w'_1) := Lib.hid (fun w' h => HAL.out w' h rfl)
      have ES2 : Hid (S = decide (SL.length ≤ 400)) := Lib.hid (by rw [ES.out]; rfl)
      generalize decide (SL.length ≤ 400) = D at HAL2 ES2
      have hSD := ES2.out
      subst hSD
      clear HAL ES
      go_enter Tryz.func20, Tryz.ntmps20
      go_wp2_with fail
      generalize ((w.alloc (.cells #[.int .i64 n, .slice ad es.length cap] 35)).alloc (.cells #[.slice (some ⟨b2, off2, none⟩) ys.length c2, .int .i64 y] 30)) = w1 at HB0 HX1 HX2 HOLD ⊢
      refine wp_region_below (by kernel_rfl) (by kernel_rfl) ?_
      repeat (go_big_quiet_step ((intro hw; first | with_reducible rfl | (obtain ⟨f0, f1, f2, f3, f4, f5⟩ := HOLD.out _ hw; simp only [f0, f1, f2, f3, f4, f5, Result.andThen]; first | exact ⟨trivial, rfl⟩ | exact ⟨rfl, rfl⟩) | (with_reducible exact quietB (HRI.out _ (bel_trans HB0.out hw)) hw))))
      refine wpQuiet_nil ?_
      intro w2 hw2
      have hs12 := hw2.size
      have HOLD2 : Hid (∀ w' : World, Below w2.heap.size w2 w' → (w'.cell? ⟨w.heap.size, 0, none⟩ = some (.int .i64 n) ∧ w'.cell? ⟨w.heap.size, 1, none⟩ = some (.slice ad es.length cap) ∧ w'.cell? ⟨w.heap.size + 1, 0, none⟩ = some (.slice (some ⟨b2, off2, none⟩) ys.length c2) ∧ w'.cell? ⟨w.heap.size + 1, 1, none⟩ = some (.int .i64 y) ∧ w'.cell? ⟨b2, off2, none⟩ = some (.int .i64 A0) ∧ w'.cell? ⟨b2, off2 + (ys.length - 1), none⟩ = some (.int .i64 C0))) := Lib.hid (fun w' h => HOLD.out w' (bel_trans hw2 h))
      have HB2 := Lib.hid (bel_trans HB0.out hw2)
      have HX22 := Lib.hid (HX2.out.keep hw2)
      clear hw2 HB0 HX1 HX2 HOLD
      go_wp2_with fail
      go_region_held3 (fun w' : World => w'.cell? ⟨w.heap.size, 0, none⟩ = some (.int .i64 n) ∧ w'.cell? ⟨w.heap.size, 1, none⟩ = some (.slice ad es.length cap) ∧ w'.cell? ⟨w.heap.size + 1, 0, none⟩ = some (.slice (some ⟨b2, off2, none⟩) ys.length c2) ∧ w'.cell? ⟨w.heap.size + 1, 1, none⟩ = some (.int .i64 y) ∧ w'.cell? ⟨b2, off2, none⟩ = some (.int .i64 A0) ∧ w'.cell? ⟨b2, off2 + (ys.length - 1), none⟩ = some (.int .i64 C0)) (first | with_reducible exact HOLD2.out _ ((Below.refl _ _).drew) | with_reducible exact HOLD2.out _ (bel_trans ((Below.refl _ _).drew) hb3)) (first | (go_at_call 35; (with_reducible refine (HAL2.out _ (bel_trans HB2.out ((Below.refl _ _).drew))).mono ?_); rintro e w3 ⟨v, qs, rfl, hp3, hm3, hb3⟩))
      have hb23 : Below w2.heap.size w2 w3 := by first | exact bel_trans ((Below.refl _ _).drew) hb3 | exact hb3
      have hfin := bel_trans HB2.out hb23
      have hszw := HB2.out.size
      cases S
      · have hI : I0 = -1 := by rw [HE.out.1, HNO.out rfl, plP_nil]
        have hB : B0 = false := by rw [HE.out.2, hI]; rfl
        subst hI hB
        have H3 := Lib.hid hfin
        clear hp3 hm3 hb3 hb23 hfin
        go_wp2
        go_ret2
        exact ⟨.slice (some ⟨w3.heap.size, 0, none⟩) 0 0, rfl, ⟨[], pths_empty _ _ H3.out.size⟩, H3.out.alloc H3.out.size _⟩
      · have hyy := HYES.out rfl
        have hm3' := hm3
        have hlq := HLP.out qs rfl hm3
        have hp3w := pths_low hp3 (base' := w.heap.size) (by simpa using hszw)
        have hso := l11Sort hyy.1 qs v w.heap.size w3 hp3w hfin.size hlq.1 hlq.2
        rw [hm3, ← hyy.2] at hso
        have HSO := Lib.hid hso
        have H3 := Lib.hid (And.intro hfin hb23)
        have HL3 := Lib.hid hlq
        have HM3 := Lib.hid hm3
        have HPS := Lib.hid hyy.2
        clear hp3 hm3 hm3' hb3 hb23 hfin hyy hlq hp3w hso
        go_wp2_with fail
        refine HSO.out.mono ?_
        rintro e w4 ⟨v4, qs4, rfl, ⟨hm4, hp4, hl4⟩, hb4⟩
        have hlen4 : qs4.length ≤ 400 := by rw [hl4]; exact HL3.out.2
        have hfin4 := bel_trans H3.out.1 hb4
        have HF : Hid (Pths w4 w.heap.size v4 qs4 ∧ qs4.map PP.p = PS ∧ Below w.heap.size w w4) := Lib.hid ⟨hp4, hm4, hfin4⟩
        have HQL : Hid (∀ q ∈ qs4, q.zs.length ≤ 1000) := Lib.hid (fun q hq => by
          have h1 : q.p ∈ qs4.map PP.p := List.mem_map_of_mem hq
          rw [hm4, HPS.out, srt_mem, ← HM3.out] at h1
          obtain ⟨q', hq', e'⟩ := List.mem_map.1 h1
          have h2 := HL3.out.1 q' hq'
          have h3 : q.zs = q'.zs := by injection e' with e1 e2; exact e1.symm
          rw [h3]
          exact h2)
        have HI4 : Hid (I0 = plP (qs4.map PP.p) (ys, y)) := Lib.hid (by rw [HE.out.1, hm4])
        have HW4 : Hid (Below w2.heap.size w2 w4) := Lib.hid (bel_trans H3.out.2 hb4)
        have hown := hp4.own.2
        clear hp4 hm4 hb4 hfin4 hl4
        rcases hown with ⟨hv, hn0⟩ | ⟨g, cap4, cur, hv, hbg, hhg, hcap, -⟩
        · subst hv
          have hq0 : qs4 = [] := List.length_eq_zero_iff.1 hn0
          subst hq0
          have hI : I0 = -1 := by rw [HI4.out]; exact plP_nil _
          subst hI
          clear hn0
          go_wp2
          go_loopw [10] (fun c wr => c = .int .i64 0 ∧ wr = w4) (fun c _ => 0)
          case atStart => exact ⟨rfl, rfl⟩
          case round =>
            obtain ⟨rfl, rfl⟩ := hrel
            go_wp2
            go_ret2
            exact ⟨_, [], rfl, HF.out.1, (fun _ => HF.out.2.1), HF.out.2.2⟩
        · subst hv
          have hgl := (Array.getElem?_eq_some_iff.1 hhg).1
          clear hhg
          go_wp2
          go_loopw [10] (fun c wr => ∃ k : Nat, k ≤ qs4.length ∧ c = .int .i64 k ∧ Hid (Below w4.heap.size w4 wr ∧ ∀ j, j < k → eqP (fQ qs4 j) (ys, y) = false)) (fun c _ => qs4.length - (intOf c).toNat)
          case atStart => exact ⟨0, Nat.zero_le _, rfl, Lib.hid ⟨Below.refl _ _, fun j hj => absurd hj (Nat.not_lt_zero _)⟩⟩
          case round =>
            obtain ⟨k, hk, rfl, HR⟩ := hrel
            by_cases hlt : k < qs4.length
            · have hlt' : (k : Int) < qs4.length := by omega
              have hlt2 : ¬ ((qs4.length : Int) ≤ k) := by omega
              have hlt3 : ¬ ((k : Int) < 0) := by omega
              have hglr : g < wr.heap.size := Nat.lt_of_lt_of_le hgl HR.out.1.size
              obtain ⟨hc0, hc1⟩ := cellsP_get (HF.out.1.keep HR.out.1) hlt
              have hrow := own_row (HF.out.1.row _ (getD_memP hlt)).1
              have hql := HQL.out _ (getD_memP hlt)
              obtain ⟨a1, s1, e1⟩ := own_slice (HF.out.1.row _ (getD_memP hlt)).1
              have hcall := fun W (h : Below wr.heap.size wr W) => sPathSame (qs4.getD k ppZ).x y (qs4.getD k ppZ).zs ys (qs4.getD k ppZ).v (.slice (some ⟨b2, off2, none⟩) ys.length c2) W (hrow.keep (bel_trans HR.out.1 h)) (HT.out.keep (bel_trans HF.out.2.2 (bel_trans HR.out.1 h))) (by omega) hl2
              rw [show pSame (qs4.getD k ppZ).zs (qs4.getD k ppZ).x ys y = eqP (fQ qs4 k) (ys, y) from rfl] at hcall
              clear hrow hql
              generalize qs4.getD k ppZ = P1 at hc0 hc1 hcall e1
              rw [e1] at hc0 hcall
              clear e1
              have FF : Hid (∀ w', Below wr.heap.size wr w' → w'.cell? ⟨w.heap.size + 1, 0, none⟩ = some (.slice (some ⟨b2, off2, none⟩) ys.length c2) ∧ w'.cell? ⟨w.heap.size + 1, 1, none⟩ = some (.int .i64 y) ∧ w'.cell? ⟨g, k * 2, none⟩ = some (.slice a1 P1.zs.length s1) ∧ w'.cell? ⟨g, k * 2 + 1, none⟩ = some (.int .i64 P1.x)) := Lib.hid (fun w' h => by
                obtain ⟨-, -, k2, k3, -, -⟩ := HOLD2.out w' (bel_trans HW4.out (bel_trans HR.out.1 h))
                exact ⟨k2, k3, (h.cell (p := ⟨g, _, none⟩) hglr).trans hc0, (h.cell (p := ⟨g, _, none⟩) hglr).trans hc1⟩)
              clear hc0 hc1
              cases hL : eqP (fQ qs4 k) (ys, y)
              · rw [hL] at hcall
                have HC := Lib.hid hcall
                have HL1 := Lib.hid hL
                clear hcall hL
                go_wp2_with fail
                refine wp_region_below (by kernel_rfl) (by kernel_rfl) ?_
                repeat (go_big_quiet_step ((intro hw; first | with_reducible rfl | (obtain ⟨f0, f1, f2, f3⟩ := FF.out _ hw; simp only [f0, f1, f2, f3, Result.andThen]; first | exact ⟨trivial, rfl⟩ | exact ⟨rfl, rfl⟩) | (with_reducible exact quietB (HC.out _ hw) hw))))
                refine wpQuiet_nil ?_
                intro w5 hw5
                go_wp2
                refine ⟨⟨k + 1, by omega, rfl, Lib.hid ⟨bel_trans HR.out.1 hw5, fun j hj => ?_⟩⟩, ?_⟩
                · by_cases e : j = k
                  · rw [e]; exact HL1.out
                  · exact HR.out.2 j (by omega)
                · show qs4.length - ((k : Int) + 1).toNat < qs4.length - (k : Int).toNat
                  omega
              · rw [hL] at hcall
                have HC := Lib.hid hcall
                have HL1 := Lib.hid hL
                clear hcall hL
                go_wp2_with fail
                refine wp_region_below (by kernel_rfl) (by kernel_rfl) ?_
                repeat (go_big_quiet_step ((intro hw; first | with_reducible rfl | (obtain ⟨f0, f1, f2, f3⟩ := FF.out _ hw; simp only [f0, f1, f2, f3, Result.andThen]; first | exact ⟨trivial, rfl⟩ | exact ⟨rfl, rfl⟩) | (with_reducible exact quietB (HC.out _ hw) hw))))
                refine wpQuiet_nil ?_
                intro w5 hw5
                go_wp2
                go_ret2
                rw [HI4.out, plQ_hit hlt HL1.out HR.out.2]
                exact ⟨.slice (some ⟨g, 0, none⟩) qs4.length cap4, qs4, rfl, HF.out.1.keep (bel_trans HR.out.1 hw5), (fun _ => HF.out.2.1), bel_trans HF.out.2.2 (bel_trans HR.out.1 hw5)⟩
            · have hge : k = qs4.length := by omega
              subst hge
              go_wp2
              go_ret2
              rw [HI4.out, plQ_none HR.out.2]
              exact ⟨.slice (some ⟨g, 0, none⟩) qs4.length cap4, qs4, rfl, HF.out.1.keep HR.out.1, (fun _ => HF.out.2.1), bel_trans HF.out.2.2 HR.out.1⟩

/-- The number that both hand back. -/
def prV (n : Int) (es : List Ed) (m : Int) (ys : List Int) (y : Int) : Int := if prB n es m ys y then prI n es m ys y else 0
end Go.Proofs.YtneapbggnnndhaaGreat
