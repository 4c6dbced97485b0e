/- The place of a path among paths: mathematics, and the library's search for it. -/
import Derived.Test.YtneapbggnnndhaaBpsA
import Derived.Test.YtneapbggnnndhaaSrtF
namespace Go.Proofs.Ytneapbggnnndhaa
open Go.RowKit Go.BigFrame Go.Deep
set_option linter.unusedVariables false
set_option linter.unusedSimpArgs false

def eqP (q p : Pt) : Bool := pSame q.1 q.2 p.1 p.2
/-- Where a path comes first, or -1. -/
def plP (ps : List Pt) (p : Pt) : Int := if ps.findIdx (fun q => eqP q p) < ps.length then ((ps.findIdx (fun q => eqP q p) : Nat) : Int) else -1
theorem fQ_at {qs : List PP} {j : Nat} (hj : j < qs.length) : (qs.map PP.p)[j]'(by simpa using hj) = fQ qs j := by
  unfold fQ
  simp [List.getD, hj]
theorem plQ_hit {qs : List PP} {p : Pt} {k : Nat} (hk : k < qs.length) (h : eqP (fQ qs k) p = true) (hn : ∀ j, j < k → eqP (fQ qs j) p = false) : plP (qs.map PP.p) p = k := by
  have hk' : k < (qs.map PP.p).length := by simpa using hk
  have e : (qs.map PP.p).findIdx (fun q => eqP q p) = k := by
    rw [List.findIdx_eq hk']
    refine ⟨by rw [fQ_at hk]; exact h, fun j hj => ?_⟩
    rw [fQ_at (by omega)]
    exact hn j hj
  unfold plP
  rw [e, if_pos hk']
theorem plQ_none {qs : List PP} {p : Pt} (hn : ∀ j, j < qs.length → eqP (fQ qs j) p = false) : plP (qs.map PP.p) p = -1 := by
  have e : (qs.map PP.p).findIdx (fun q => eqP q p) = (qs.map PP.p).length := by
    rw [List.findIdx_eq_length]
    intro x hx
    obtain ⟨j, hj, rfl⟩ := List.getElem_of_mem hx
    rw [List.length_map] at hj
    have := hn j hj
    rw [← fQ_at hj] at this
    simpa using this
  unfold plP
  rw [e, if_neg (by omega)]
theorem plP_nil (p : Pt) : plP [] p = -1 := by simp [plP]
theorem plP_range (ps : List Pt) (p : Pt) : plP ps p = -1 ∨ (0 ≤ plP ps p ∧ (plP ps p).toNat < ps.length) := by
  unfold plP
  split
  · right
    omega
  · exact .inl rfl

set_option maxRecDepth 20000 in
set_option maxHeartbeats 2000000 in
theorem sameClosure (x y : Int) (zs ys : List Int) (s : Value) (ad2 : Option Addr) (c2 : Nat) (B : Nat) (w : World) (hB0 : w.cell? ⟨B, 0, none⟩ = some (.slice ad2 ys.length c2)) (hB1 : w.cell? ⟨B, 1, none⟩ = some (.int .i64 y)) (hBl : B < w.heap.size) (hs : Row w s zs) (ht : Row w (.slice ad2 ys.length c2) ys) (hl : zs.length ≤ 281474976710656) (hl2 : ys.length ≤ 281474976710656) :
    Calls Try.prog 88 #[.agg #[s, .int .i64 x], .pointer (some ⟨B, 0, none⟩)] w fun e w' => e = .returned (.bool (eqP (zs, x) (ys, y))) ∧ Below w.heap.size w w' := by
  obtain ⟨ad, c, rfl, hz0⟩ := id hs
  clear hz0
  have hb0 : Below w.heap.size w (w.alloc (.cells #[.slice ad zs.length c, .int .i64 x] 49)) := (Below.refl _ _).alloc (Nat.le_refl _) _
  have hcp := fun w' (h : Below w.heap.size w w') => pathSame x y zs ys (.slice ad zs.length c) (.slice ad2 ys.length c2) w' (hs.keep h) (ht.keep h) hl hl2
  have x0 := (hb0.cell (p := ⟨B, 0, none⟩) hBl).trans hB0
  have x1 := (hb0.cell (p := ⟨B, 1, none⟩) hBl).trans hB1
  rw [show eqP (zs, x) (ys, y) = pSame zs x ys y from rfl]
  generalize pSame zs x ys y = C at hcp ⊢
  have HB0 := Lib.hid hb0
  have HCP := Lib.hid hcp
  clear hcp hs ht hb0 hB0 hB1
  go_enter Try.func88, Try.ntmps88
  go_wp2_with fail
  refine (HCP.out _ HB0.out).mono ?_
  rintro e w1 ⟨rfl, hb1⟩
  go_wp2
  go_ret
  exact ⟨rfl, bel_trans HB0.out hb1⟩

set_option maxRecDepth 20000 in
set_option maxHeartbeats 4000000 in
theorem indexPaths (qs : List PP) (v : Value) (base : Nat) (y : Int) (ys : List Int) (ad2 : Option Addr) (c2 B : Nat) (w : World) (hP : Pths w base v qs) (hB0 : w.cell? ⟨B, 0, none⟩ = some (.slice ad2 ys.length c2)) (hB1 : w.cell? ⟨B, 1, none⟩ = some (.int .i64 y)) (hBl : B < w.heap.size) (ht : Row w (.slice ad2 ys.length c2) ys) (hl : ∀ q ∈ qs, q.zs.length ≤ 1000) (hl2 : ys.length ≤ 281474976710656) (hn : qs.length ≤ 400) :
    Calls Try.prog 87 #[v, .func (.func 88) #[] #[.pointer (some ⟨B, 0, none⟩)]] w fun e w' => e = .returned (.int .i64 (plP (qs.map PP.p) (ys, y))) ∧ Below w.heap.size w w' := by
  have hcl := fun (q : PP) (hq : q ∈ qs) w' (h : Below w.heap.size w w') => sameClosure q.x y q.zs ys q.v ad2 c2 B w' ((h.cell (p := ⟨B, 0, none⟩) hBl).trans hB0) ((h.cell (p := ⟨B, 1, none⟩) hBl).trans hB1) (Nat.lt_of_lt_of_le hBl h.size) ((own_row (hP.row q hq).1).keep h) (ht.keep h) (by have := hl q hq; omega) hl2
  have HCL := Lib.hid hcl
  rcases hP.own.2 with ⟨hv, hn0⟩ | ⟨g, cap, cur, hv, hbg, hhg, hcap, -⟩
  · subst hv
    have h0 : qs = [] := List.length_eq_zero_iff.1 hn0
    subst h0
    rw [show plP (List.map PP.p []) (ys, y) = -1 from plP_nil _]
    clear hcl HCL hP hB0 hB1 ht hl
    go_enter Try.func87, Try.ntmps87
    go_wp2
    go_loopw [8] (fun c wr => c = .int .i64 0 ∧ wr = w) (fun c _ => 0)
    case atStart => exact ⟨rfl, rfl⟩
    case round =>
      obtain ⟨rfl, rfl⟩ := hrel
      go_wp2
      go_ret
      exact ⟨rfl, Below.refl _ _⟩
  subst hv
  have hgl := (Array.getElem?_eq_some_iff.1 hhg).1
  have HPP := Lib.hid hP
  have HI : Hid (Below w.heap.size w w) := Lib.hid (Below.refl _ _)
  clear hcl hP hB0 hB1 ht hl hhg
  go_enter Try.func87, Try.ntmps87
  go_wp2
  go_loopw [8] (fun c wr => ∃ k : Nat, k ≤ qs.length ∧ c = .int .i64 k ∧ Hid (Below w.heap.size w wr ∧ ∀ j, j < k → eqP (fQ qs j) (ys, y) = false)) (fun c _ => qs.length - (intOf c).toNat)
  case atStart => exact ⟨0, Nat.zero_le _, rfl, Lib.hid ⟨Below.refl _ _, fun j hj => absurd hj (Nat.not_lt_zero _)⟩⟩
  case round =>
    obtain ⟨k, hk, rfl, HR⟩ := hrel
    by_cases hlt : k < qs.length
    · have hlt' : (k : Int) < qs.length := by omega
      have hc := cellsP_get (HPP.out.keep HR.out.1) hlt
      obtain ⟨hc0, hc1⟩ := hc
      have hcall := HCL.out _ (getD_memP hlt) wr HR.out.1
      have hF : (qs.getD k ppZ).p = fQ qs k := rfl
      obtain ⟨a1, s1, e1⟩ := own_slice (HPP.out.row _ (getD_memP hlt)).1
      have hE : eqP ((qs.getD k ppZ).zs, (qs.getD k ppZ).x) (ys, y) = eqP (fQ qs k) (ys, y) := rfl
      rw [hE] at hcall
      generalize qs.getD k ppZ = P1 at hc0 hc1 hcall e1 hF hE
      rw [e1] at hc0 hcall
      clear hF hE e1
      cases hL : eqP (fQ qs k) (ys, y)
      · rw [hL] at hcall
        have HC := Lib.hid hcall
        have HL1 := Lib.hid hL
        clear hcall hL
        go_wp2_with fail
        refine HC.out.mono ?_
        rintro e w' ⟨rfl, hb'⟩
        go_wp2
        refine ⟨⟨k + 1, by omega, rfl, Lib.hid ⟨bel_trans HR.out.1 hb', fun j hj => ?_⟩⟩, ?_⟩
        · by_cases e : j = k
          · rw [e]; exact HL1.out
          · exact HR.out.2 j (by omega)
        · show qs.length - ((k : Int) + 1).toNat < qs.length - (k : Int).toNat
          omega
      · rw [hL] at hcall
        have HC := Lib.hid hcall
        have HL1 := Lib.hid hL
        clear hcall hL
        go_wp2_with fail
        refine HC.out.mono ?_
        rintro e w' ⟨rfl, hb'⟩
        go_wp2
        go_ret
        exact ⟨by rw [plQ_hit hlt HL1.out HR.out.2]; rfl, bel_trans HR.out.1 hb'⟩
    · have hge : k = qs.length := by omega
      subst hge
      go_wp2
      go_ret
      exact ⟨by rw [plQ_none HR.out.2]; rfl, HR.out.1⟩
end Go.Proofs.Ytneapbggnnndhaa
