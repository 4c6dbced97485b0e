/- The first path behind another one: both. The first path behind another one: the model. A path put into a variable in a drawn region. -/
import Derived.Test.YtneapbggnnndhaaGreatRnkC
import Derived.Test.YtneapbggnnndhaaGreatRelaxJ
import Derived.Test.YtneapbggnnndhaaGreatVStartT
import Derived.Test.YtneapbggnnndhaaGreatBel
import Derived.Deep.CutRange
import Derived.Deep.RegionHeld3
namespace Go.Proofs.YtneapbggnnndhaaGreat
open Go.RowKit Go.BigFrame Go.Deep
set_option linter.unusedVariables false
set_option linter.unusedSimpArgs false
set_option linter.unnecessarySimpa false

def npB (n : Int) (es : List Ed) (m : Int) (ys : List Int) (y : Int) : Bool := prB n es m ys y && !decide ((prI n es m ys y).toNat + 1 = (prL n es m ys).length)
def npP (n : Int) (es : List Ed) (m : Int) (ys : List Int) (y : Int) : Pt := if npB n es m ys y then (prL n es m ys).getD ((prI n es m ys y).toNat + 1) ([], 0) else ([], 0)
theorem npP_len (n : Int) (es : List Ed) (m : Int) (ys : List Int) (y : Int) : (npP n es m ys y).1.length ≤ 13 := by
  unfold npP
  split
  · rw [List.getD_eq_getElem?_getD]
    cases h : (prL n es m ys)[(prI n es m ys y).toNat + 1]? with
    | none => simp
    | some p => exact (prL_mem (List.mem_of_getElem? h)).1
  · simp
/-- A path of one's own, and a truth value. -/
def OnePost (w : World) (P : Pt) (B : Bool) (e : Ending) (w' : World) : Prop := ∃ a c, e = .returned (.tuple #[.agg #[.slice a P.1.length c, .int .i64 P.2], .bool B]) ∧ InR true w' w.heap.size w'.heap.size (.slice a P.1.length c) P.1.length 1 (cellI P.1) ∧ Below w.heap.size w w'
theorem OnePost.nil {w w' : World} (hb : Below w.heap.size w w') : OnePost w ([], 0) false (.returned (.tuple #[.agg #[.slice none 0 0, .int .i64 0], .bool false])) w' := ⟨none, 0, rfl, ⟨none, 0, rfl, .inl rfl⟩, hb⟩
theorem inR_of_own {w : World} {base lo : Nat} {q : PP} (ho : PRow w base q) (hlo : lo ≤ base) : InR true w lo w.heap.size q.v q.zs.length 1 (cellI q.zs) := by
  obtain ⟨k, e, hb, hl⟩ := ho.blk
  exact (ho.inR e).wider (by omega) (by omega) (Nat.le_refl _)
theorem OnePost.of {w w' : World} {base : Nat} {q : PP} {a : Option Addr} {c : Nat} (ho : PRow w' base q) (hlo : w.heap.size ≤ base) (hv : q.v = .slice a q.zs.length c) (hb : Below w.heap.size w w') : OnePost w q.p true (.returned (.tuple #[.agg #[.slice a q.zs.length c, .int .i64 q.x], .bool true])) w' :=
  ⟨a, c, rfl, by show InR true _ _ _ (.slice a q.zs.length c) _ 1 _; rw [← hv]; exact inR_of_own ho hlo, hb⟩
theorem prB_parts {n m y : Int} {es : List Ed} {ys : List Int} (h : prB n es m ys y = true) : ∃ k : Nat, prI n es m ys y = k ∧ k < (prL n es m ys).length := by
  unfold prB at h
  have h1 := of_decide_eq_true h
  rcases plP_range (prL n es m ys) (ys, y) with h2 | ⟨h2, h3⟩
  · unfold prI at h1
    omega
  · refine ⟨(prI n es m ys y).toNat, ?_, h3⟩
    unfold prI
    omega

set_option maxRecDepth 20000 in
set_option maxHeartbeats 8000000 in
theorem nextPath (n m y : Int) (es : List Ed) (ys : List Int) (s t : Value) (w : World) (hs : RowE w s es) (ht : Row w t ys) (hok : okS s) (hl : es.length ≤ 1048576) (hl2 : ys.length ≤ 281474976710656) :
    Calls Tryz.prog 10 #[.agg #[.int .i64 n, s], .int .i64 m, .agg #[t, .int .i64 y]] w (OnePost w (npP n es m ys y) (npB n es m ys y)) := by
  obtain ⟨ad, cap, rfl, hz0⟩ := id hs
  obtain ⟨ad2, c2, rfl, hz1⟩ := id ht
  clear hz0 hz1
  have hb0 : Below w.heap.size w (((w.alloc (.cells #[.int .i64 n, .slice ad es.length cap] 35)).alloc (.cells #[.slice ad2 ys.length c2, .int .i64 y] 30)).alloc (.cells #[.slice none 0 0, .int .i64 0] 30)) := (((Below.refl _ _).alloc (Nat.le_refl _) _).alloc (by simp) _).alloc (by simp; omega) _
  have hx3 := Box.new ((w.alloc (.cells #[.int .i64 n, .slice ad es.length cap] 35)).alloc (.cells #[.slice ad2 ys.length c2, .int .i64 y] 30)) 30 #[.slice none 0 0, .int .i64 0]
  rw [show ((w.alloc (.cells #[.int .i64 n, .slice ad es.length cap] 35)).alloc (.cells #[.slice ad2 ys.length c2, .int .i64 y] 30)).heap.size = w.heap.size + 1 + 1 by simp] at hx3
  have hpa := fun w' (h : Below w.heap.size w w') => pathsAround n m y es ys (.slice ad es.length cap) (.slice ad2 ys.length c2) w' (hs.keep h) (ht.keep h) hok hl hl2
  have hkk := fun h => prB_parts (n := n) (es := es) (m := m) (ys := ys) (y := y) h
  have hL4 := prL_len n es m ys
  have eP : npP n es m ys y = if npB n es m ys y then (prL n es m ys).getD ((prI n es m ys y).toNat + 1) ([], 0) else ([], 0) := rfl
  have eN : npB n es m ys y = (prB n es m ys y && !decide ((prI n es m ys y).toNat + 1 = (prL n es m ys).length)) := rfl
  generalize prL n es m ys = L at *
  generalize prI n es m ys y = I at *
  generalize prB n es m ys y = B at *
  generalize npP n es m ys y = P at *
  generalize npB n es m ys y = N at *
  have HB0 := Lib.hid hb0
  have HX3 := Lib.hid hx3
  have HPA := Lib.hid hpa
  clear hb0 hx3 hpa hs ht hok
  cases B
  · have hN : N = false := by rw [eN]; rfl
    have hP : P = ([], 0) := by rw [eP, hN]; rfl
    subst hN hP
    clear eN hkk eP
    go_enter Tryz.func10, Tryz.ntmps10
    go_wp2_with fail
    generalize (((w.alloc (.cells #[.int .i64 n, .slice ad es.length cap] 35)).alloc (.cells #[.slice ad2 ys.length c2, .int .i64 y] 30)).alloc (.cells #[.slice none 0 0, .int .i64 0] 30)) = w0 at HB0 HX3 ⊢
    refine (HPA.out _ HB0.out).mono ?_
    rintro e w1 ⟨v, i, qs, rfl, hp, hi, hb1⟩
    have hr := HX3.out.keep hb1
    have x0 := hr.cell 0
    have x1 := hr.cell 1
    have s0 := hr.frozen 0
    have s1 := hr.frozen 1
    simp only [List.getElem?_toArray, List.getElem?_cons_succ, List.getElem?_cons_zero] at x0 x1
    have H1 := Lib.hid (bel_trans HB0.out hb1)
    clear hp hi hb1 hr
    go_wp2
    try simp only [Exit.inBlock, Exit.then]
    refine bodyPost_ret (v := .tuple #[.agg #[.slice none 0 0, .int .i64 0], .bool false]) ?_ rfl ?_
    · rw [results_cell_tmp rfl]
      go_simp
    exact OnePost.nil ((H1.out.setCell (by show w.heap.size ≤ w.heap.size + 1 + 1; omega) _).setCell (by show w.heap.size ≤ w.heap.size + 1 + 1; omega) _)
  · obtain ⟨k, hI, hk⟩ := hkk rfl
    subst hI
    rw [Int.toNat_natCast, Bool.true_and] at eN
    rw [Int.toNat_natCast] at eP
    clear hkk
    by_cases hlast : k + 1 = L.length
    · have hN : N = false := by rw [eN, decide_eq_true hlast]; rfl
      have hP : P = ([], 0) := by rw [eP, hN]; rfl
      subst hN hP
      clear eN eP
      have HLA := Lib.hid hlast
      clear hlast
      go_enter Tryz.func10, Tryz.ntmps10
      go_wp2_with fail
      generalize (((w.alloc (.cells #[.int .i64 n, .slice ad es.length cap] 35)).alloc (.cells #[.slice ad2 ys.length c2, .int .i64 y] 30)).alloc (.cells #[.slice none 0 0, .int .i64 0] 30)) = w0 at HB0 HX3 ⊢
      refine (HPA.out _ HB0.out).mono ?_
      rintro e w1 ⟨v, i, qs, rfl, hp, hi, hb1⟩
      obtain ⟨rfl, hm⟩ := hi (by trivial)
      have hqn : qs.length = L.length := by rw [← hm, List.length_map]
      obtain ⟨va, vc, hv⟩ := own_slice hp.own
      subst hv
      have b1 : ((k : Int) + 1 == (qs.length : Int)) = true := by rw [beq_iff_eq]; have := HLA.out; omega
      have b2 : decide ((k : Int) + 1 = (qs.length : Int)) = true := decide_eq_true (by have := HLA.out; omega)
      have hr := HX3.out.keep hb1
      have x0 := hr.cell 0
      have x1 := hr.cell 1
      have s0 := hr.frozen 0
      have s1 := hr.frozen 1
      simp only [List.getElem?_toArray, List.getElem?_cons_succ, List.getElem?_cons_zero] at x0 x1
      have H1 := Lib.hid (bel_trans HB0.out hb1)
      clear hp hi hb1 hr hm hqn
      go_wp2
      try simp only [Exit.inBlock, Exit.then]
      refine bodyPost_ret (v := .tuple #[.agg #[.slice none 0 0, .int .i64 0], .bool false]) ?_ rfl ?_
      · rw [results_cell_tmp rfl]
        go_simp
      exact OnePost.nil ((H1.out.setCell (by show w.heap.size ≤ w.heap.size + 1 + 1; omega) _).setCell (by show w.heap.size ≤ w.heap.size + 1 + 1; omega) _)
    · have hN : N = true := by rw [eN, decide_eq_false hlast]; rfl
      have hP : P = L.getD (k + 1) ([], 0) := by rw [eP, hN]; rfl
      subst hN
      have HPE := Lib.hid hP
      clear eN eP hP
      have hk2 : k + 1 < L.length := by omega
      clear hlast
      go_enter Tryz.func10, Tryz.ntmps10
      go_wp2_with fail
      generalize (((w.alloc (.cells #[.int .i64 n, .slice ad es.length cap] 35)).alloc (.cells #[.slice ad2 ys.length c2, .int .i64 y] 30)).alloc (.cells #[.slice none 0 0, .int .i64 0] 30)) = w0 at HB0 HX3 ⊢
      refine (HPA.out _ HB0.out).mono ?_
      rintro e w1 ⟨v, i, qs, rfl, hp, hi, hb1⟩
      obtain ⟨rfl, hm⟩ := hi (by trivial)
      have hqn : qs.length = L.length := by rw [← hm, List.length_map]
      obtain ⟨g, vc, hv, hgb, hgl, hcap⟩ := own_pos hp.own (by omega)
      subst hv
      have hlt : k + 1 < qs.length := by omega
      obtain ⟨y0, y1⟩ := cellsP_get hp hlt
      have hrow := hp.row _ (getD_memP hlt)
      have hQ : L.getD (k + 1) ([], 0) = (qs.getD (k + 1) ppZ).p := by rw [← hm]; exact ppGetD qs (k + 1)
      have hPQ : P = (qs.getD (k + 1) ppZ).p := by rw [HPE.out, hQ]
      obtain ⟨a1, s1', e1⟩ := own_slice hrow.1
      generalize qs.getD (k + 1) ppZ = q at *
      rw [e1] at y0
      have HPQ := Lib.hid hPQ
      have b1 : ((k : Int) + 1 == (qs.length : Int)) = false := by rw [beq_eq_false_iff_ne]; omega
      have b2 : decide ((k : Int) + 1 = (qs.length : Int)) = false := decide_eq_false (by omega)
      have b3 : ¬ ((k : Int) + 1 < 0) := by omega
      have b4 : ¬ ((qs.length : Int) ≤ (k : Int) + 1) := by omega
      have b5 : ((k : Int) + 1).toNat = k + 1 := by omega
      have hr := HX3.out.keep hb1
      have x0 := hr.cell 0
      have x1 := hr.cell 1
      have s0 := hr.frozen 0
      have s1 := hr.frozen 1
      simp only [List.getElem?_toArray, List.getElem?_cons_succ, List.getElem?_cons_zero] at x0 x1
      have H1 := Lib.hid (bel_trans HB0.out hb1)
      have HR := Lib.hid (And.intro hrow (And.intro hr (And.intro e1 (show w.heap.size ≤ w0.heap.size from HB0.out.size))))
      have hgr : g ≠ w.heap.size + 1 + 1 := by have := HX3.out.lt; omega
      clear hp hi hb1 hr hm hQ hrow e1 HPE hPQ
      go_wp2
      try simp only [Exit.inBlock, Exit.then]
      refine bodyPost_ret (v := .tuple #[.agg #[.slice a1 q.zs.length s1', .int .i64 q.x], .bool true]) ?_ rfl ?_
      · rw [results_cell_tmp rfl]
        go_simp
      rw [HPQ.out]
      refine OnePost.of (base := w0.heap.size) ⟨(HR.out.2.1.set 0 _).own (HR.out.2.1.own HR.out.1.1 (by decide)) (by decide), HR.out.1.2⟩ HR.out.2.2.2 HR.out.2.2.1 ((H1.out.setCell (by show w.heap.size ≤ w.heap.size + 1 + 1; omega) _).setCell (by show w.heap.size ≤ w.heap.size + 1 + 1; omega) _)
end Go.Proofs.YtneapbggnnndhaaGreat
namespace Go.Proofs.YtneapbggnnndhaaGreat
open Go.RowKit Go.BigFrame Go.Deep
set_option linter.unusedVariables false
set_option linter.unusedSimpArgs false

set_option maxRecDepth 20000 in
set_option maxHeartbeats 4000000 in
theorem l11Copy (x : Int) (zs : List Int) (s : Value) (w : World) (hr : Row w s zs) (h0 : 0 < zs.length) (hl : zs.length ≤ 1048576) :
    Calls Tryz.prog 21 #[.agg #[s, .int .i64 x]] w fun e w' => ∃ v, e = .returned (.agg #[v, .int .i64 x]) ∧ w'.ownsRow w.heap.size 3 1 v zs.length (zs.map (Value.int .i64)) ∧ Below w.heap.size w w' := by
  obtain ⟨ad, cap, rfl, hz⟩ := hr
  rcases hz with hz | ⟨b, off, rfl, hb, hc⟩
  · rw [hz] at h0; simp at h0
  obtain ⟨i0, hi, hz0, hz1, hz2⟩ := info_parts info_int2
  have hB3 : ∀ (A B C : Obj), Below w.heap.size w (((w.alloc A).alloc B).alloc C) := fun A B C => (((Below.refl _ _).alloc (Nat.le_refl _) _).alloc (by simp) _).alloc (by simp; omega) _
  have hnews := fun A B C => row_news (w := (((w.alloc A).alloc B).alloc C).drew) (fun i hi => ((hB3 A B C).cell (p := ⟨b, off + i, none⟩) hb).trans (hc i hi))
  have HN := Lib.hid hnews
  have hown0 : ∀ (A B : Obj), (((w.alloc A).alloc B).alloc (.cells #[] 3)).drew.ownsRow w.heap.size 3 1 (.slice (some ⟨w.heap.size + 1 + 1, 0, none⟩) 0 0) 0 [] := fun A B => by
    have := World.ownsRow_made (e := 3) (size := 1) ((w.alloc A).alloc B) #[] 0 (base := w.heap.size) (by simp; omega) (by unfold maxLen; omega) rfl
    simpa using own_drew this
  have HO := Lib.hid hown0
  have hall : ∀ u ∈ zs.map (Value.int .i64), u.oneCell' = true := by intro u hu; obtain ⟨x, _, rfl⟩ := List.mem_map.1 hu; rfl
  have HALL := Lib.hid hall
  have hbx : ∀ (C : Obj) (w6 : World), World.grownBy (((w.alloc (.cells #[.slice (some ⟨b, off, none⟩) zs.length cap, .int .i64 x] 30)).alloc (.cells #[.slice none 0 0, .int .i64 0] 30)).alloc (.cells #[] 3)).drew w6 (Value.slice (some ⟨w.heap.size + 1 + 1, 0, none⟩) 0 0).ownBlock →
      Box w6 w.heap.size 30 #[.slice (some ⟨b, off, none⟩) zs.length cap, .int .i64 x] ∧ Box w6 (w.heap.size + 1) 30 #[.slice none 0 0, .int .i64 0] ∧ Below w.heap.size w w6 := fun C w6 h =>
    ⟨Box.grown (Box.drew (((Box.new w 30 _).alloc _).alloc _)) h (HO.out _ _) (by decide), Box.grown (Box.drew (Box.alloc (by have := Box.new (w.alloc (.cells #[.slice (some ⟨b, off, none⟩) zs.length cap, .int .i64 x] 30)) 30 #[.slice none 0 0, .int .i64 0]; simpa using this) _)) h (HO.out _ _) (by decide),
      ((hB3 _ _ _).drew).grown h (by simp; omega) (by intro k hk; simp [Value.ownBlock] at hk; omega)⟩
  have HBX := Lib.hid hbx
  clear hc hnews hown0 hall hbx hB3
  go_enter Tryz.func21, Tryz.ntmps21
  go_wp2
  go_region_law (first | (refine step_append_own rfl (.tmp 3) (.tmp 5) 25 rfl w.heap.size 3 i0 (.int .i64 0) 1 8 Tryz.underlying25 hi hz0 hz1 hz2 rfl (by decide) _ _ _ rfl (HO.out _ _) ⟨b, off, none⟩ zs.length cap (zs.map (Value.int .i64)) rfl (by simp) (HN.out _ _ _) HALL.out (by unfold maxLen; omega) (by omega) (by simp; omega) ?_; intro v' w6 hown6 hgrow6; obtain ⟨va, vc, rfl⟩ := own_slice hown6; have HX6 := Lib.hid (HBX.out (.cells #[] 0) _ hgrow6); have x0 := HX6.out.1.cell 0; have x1 := HX6.out.1.cell 1; have r0 := HX6.out.2.1.cell 0; have r1 := HX6.out.2.1.cell 1; have s0 := HX6.out.2.1.frozen 0; have s1 := HX6.out.2.1.frozen 1; simp only [List.getElem?_toArray, List.getElem?_cons_succ, List.getElem?_cons_zero] at x0 x1 r0 r1; have H7 := Lib.hid hown6; clear hown6 hgrow6))
  all_goals
    go_wp2
    try simp only [Exit.inBlock, Exit.then]
    refine bodyPost_ret (v := .agg #[.slice va zs.length vc, .int .i64 x]) ?_ rfl ?_
    · rw [results_cell1 rfl]
      go_simp
    have ho : w6.ownsRow w.heap.size 3 1 (.slice va zs.length vc) zs.length (zs.map (Value.int .i64)) := by simpa using H7.out
    have hr := HX6.out.2.1
    exact ⟨_, rfl, (hr.set 0 _).own (hr.own ho (by decide)) (by decide), (HX6.out.2.2.setCell (by simp) _).setCell (by simp) _⟩

set_option maxRecDepth 20000 in
set_option maxHeartbeats 8000000 in
theorem sNextPath (n m y : Int) (es : List Ed) (ys : List Int) (s t : Value) (w : World) (hs : RowE w s es) (ht : Row w t ys) (hl : es.length ≤ 1048576) (hl2 : ys.length ≤ 281474976710656) :
    Calls Tryz.prog 7 #[.agg #[.int .i64 n, s], .int .i64 m, .agg #[t, .int .i64 y]] w (OnePost w (npP n es m ys y) (npB n es m ys y)) := by
  obtain ⟨ad, cap, rfl, hz0⟩ := id hs
  obtain ⟨ad2, c2, rfl, hz1⟩ := id ht
  clear hz0 hz1
  have hb0 : Below w.heap.size w (((w.alloc (.cells #[.int .i64 n, .slice ad es.length cap] 35)).alloc (.cells #[.slice ad2 ys.length c2, .int .i64 y] 30)).alloc (.cells #[.slice none 0 0, .int .i64 0] 30)) := (((Below.refl _ _).alloc (Nat.le_refl _) _).alloc (by simp) _).alloc (by simp; omega) _
  have hx3 := Box.new ((w.alloc (.cells #[.int .i64 n, .slice ad es.length cap] 35)).alloc (.cells #[.slice ad2 ys.length c2, .int .i64 y] 30)) 30 #[.slice none 0 0, .int .i64 0]
  rw [show ((w.alloc (.cells #[.int .i64 n, .slice ad es.length cap] 35)).alloc (.cells #[.slice ad2 ys.length c2, .int .i64 y] 30)).heap.size = w.heap.size + 1 + 1 by simp] at hx3
  have hpa := fun w' (h : Below w.heap.size w w') => l11Place n m y es ys (.slice ad es.length cap) (.slice ad2 ys.length c2) w' (hs.keep h) (ht.keep h) hl hl2
  have hkk := fun h => prB_parts (n := n) (es := es) (m := m) (ys := ys) (y := y) h
  have hL4 := prL_len n es m ys
  have hLm := fun p (h : p ∈ prL n es m ys) => (prL_mem h).1
  have hneg : prB n es m ys y = false → prI n es m ys y < 0 := fun h => by unfold prB at h; have := of_decide_eq_false h; omega
  have eP : npP n es m ys y = if npB n es m ys y then (prL n es m ys).getD ((prI n es m ys y).toNat + 1) ([], 0) else ([], 0) := rfl
  have eN : npB n es m ys y = (prB n es m ys y && !decide ((prI n es m ys y).toNat + 1 = (prL n es m ys).length)) := rfl
  generalize prL n es m ys = L at *
  generalize prI n es m ys y = I at *
  generalize prB n es m ys y = B at *
  generalize npP n es m ys y = P at *
  generalize npB n es m ys y = N at *
  have HB0 := Lib.hid hb0
  have HX3 := Lib.hid hx3
  have HPA := Lib.hid hpa
  clear hb0 hx3 hpa hs ht
  cases B
  · have hN : N = false := by rw [eN]; rfl
    have hP : P = ([], 0) := by rw [eP, hN]; rfl
    subst hN hP
    have hI0 := hneg rfl
    have d0 : decide (I < 0) = true := decide_eq_true hI0
    clear eN hkk hneg eP
    go_enter Tryz.func7, Tryz.ntmps7
    go_wp2_with fail
    generalize (((w.alloc (.cells #[.int .i64 n, .slice ad es.length cap] 35)).alloc (.cells #[.slice ad2 ys.length c2, .int .i64 y] 30)).alloc (.cells #[.slice none 0 0, .int .i64 0] 30)) = w0 at HB0 HX3 ⊢
    refine (HPA.out _ HB0.out).mono ?_
    rintro e w1 ⟨v, qs, rfl, hp, hi, hb1⟩
    have hr := HX3.out.keep hb1
    have x0 := hr.cell 0
    have x1 := hr.cell 1
    have s0 := hr.frozen 0
    have s1 := hr.frozen 1
    simp only [List.getElem?_toArray, List.getElem?_cons_succ, List.getElem?_cons_zero] at x0 x1
    have H1 := Lib.hid (bel_trans HB0.out hb1)
    clear hp hi hb1 hr
    go_wp2
    try simp only [Exit.inBlock, Exit.then]
    refine bodyPost_ret (v := .tuple #[.agg #[.slice none 0 0, .int .i64 0], .bool false]) ?_ rfl ?_
    · rw [results_cell_tmp rfl]
      go_simp
    exact OnePost.nil ((H1.out.setCell (by show w.heap.size ≤ w.heap.size + 1 + 1; omega) _).setCell (by show w.heap.size ≤ w.heap.size + 1 + 1; omega) _)
  · obtain ⟨k, hI, hk⟩ := hkk rfl
    subst hI
    rw [Int.toNat_natCast, Bool.true_and] at eN
    rw [Int.toNat_natCast] at eP
    clear hkk hneg
    have d0 : decide ((k : Int) < 0) = false := decide_eq_false (by omega)
    by_cases hlast : k + 1 = L.length
    · have hN : N = false := by rw [eN, decide_eq_true hlast]; rfl
      have hP : P = ([], 0) := by rw [eP, hN]; rfl
      subst hN hP
      clear eN eP
      have HLA := Lib.hid hlast
      clear hlast
      go_enter Tryz.func7, Tryz.ntmps7
      go_wp2_with fail
      generalize (((w.alloc (.cells #[.int .i64 n, .slice ad es.length cap] 35)).alloc (.cells #[.slice ad2 ys.length c2, .int .i64 y] 30)).alloc (.cells #[.slice none 0 0, .int .i64 0] 30)) = w0 at HB0 HX3 ⊢
      refine (HPA.out _ HB0.out).mono ?_
      rintro e w1 ⟨v, qs, rfl, hp, hi, hb1⟩
      have hm := hi (by trivial)
      have hqn : qs.length = L.length := by rw [← hm, List.length_map]
      obtain ⟨va, vc, hv⟩ := own_slice hp.own
      subst hv
      have b1 : ¬ ((k : Int) + 1 < (qs.length : Int)) := by have := HLA.out; omega
      have b2 : decide ((k : Int) + 1 ≥ (qs.length : Int)) = true := decide_eq_true (by have := HLA.out; omega)
      have hr := HX3.out.keep hb1
      have x0 := hr.cell 0
      have x1 := hr.cell 1
      have s0 := hr.frozen 0
      have s1 := hr.frozen 1
      simp only [List.getElem?_toArray, List.getElem?_cons_succ, List.getElem?_cons_zero] at x0 x1
      have H1 := Lib.hid (bel_trans HB0.out hb1)
      clear hp hi hb1 hr hm hqn
      go_wp2
      try simp only [Exit.inBlock, Exit.then]
      refine bodyPost_ret (v := .tuple #[.agg #[.slice none 0 0, .int .i64 0], .bool false]) ?_ rfl ?_
      · rw [results_cell_tmp rfl]
        go_simp
      exact OnePost.nil ((H1.out.setCell (by show w.heap.size ≤ w.heap.size + 1 + 1; omega) _).setCell (by show w.heap.size ≤ w.heap.size + 1 + 1; omega) _)
    · have hN : N = true := by rw [eN, decide_eq_false hlast]; rfl
      have hP : P = L.getD (k + 1) ([], 0) := by rw [eP, hN]; rfl
      subst hN
      have HPE := Lib.hid hP
      clear eN eP hP
      have hk2 : k + 1 < L.length := by omega
      clear hlast
      go_enter Tryz.func7, Tryz.ntmps7
      go_wp2_with fail
      generalize (((w.alloc (.cells #[.int .i64 n, .slice ad es.length cap] 35)).alloc (.cells #[.slice ad2 ys.length c2, .int .i64 y] 30)).alloc (.cells #[.slice none 0 0, .int .i64 0] 30)) = w0 at HB0 HX3 ⊢
      refine (HPA.out _ HB0.out).mono ?_
      rintro e w1 ⟨v, qs, rfl, hp, hi, hb1⟩
      have hm := hi (by trivial)
      have hqn : qs.length = L.length := by rw [← hm, List.length_map]
      obtain ⟨g, vc, hv, hgb, hgl, hcap⟩ := own_pos hp.own (by omega)
      subst hv
      have hlt : k + 1 < qs.length := by omega
      obtain ⟨y0, y1⟩ := cellsP_get hp hlt
      have hrow := hp.row _ (getD_memP hlt)
      have hQ : L.getD (k + 1) ([], 0) = (qs.getD (k + 1) ppZ).p := by rw [← hm]; exact ppGetD qs (k + 1)
      have hPQ : P = (qs.getD (k + 1) ppZ).p := by rw [HPE.out, hQ]
      have hlq : (qs.getD (k + 1) ppZ).zs.length ≤ 13 := by
        have h1 : (qs.getD (k + 1) ppZ).p ∈ L := by rw [← hm]; exact List.mem_map_of_mem (getD_memP hlt)
        exact hLm _ h1
      obtain ⟨a1, s1', e1⟩ := own_slice hrow.1
      generalize qs.getD (k + 1) ppZ = q at *
      rw [e1] at y0
      have HPQ := Lib.hid hPQ
      have hq13 : q.zs.length ≤ 13 := hlq
      have hcp := fun W (h : Below w1.heap.size w1 W) => l11Copy q.x q.zs q.v W ((own_row hrow.1).keep h) hrow.2 (by omega)
      rw [e1] at hcp
      have HCP := Lib.hid hcp
      have b2 : decide ((k : Int) + 1 ≥ (qs.length : Int)) = false := decide_eq_false (by omega)
      have b3 : ¬ ((k : Int) + 1 < 0) := by omega
      have b4 : ¬ ((qs.length : Int) ≤ (k : Int) + 1) := by omega
      have b5 : ((k : Int) + 1).toNat = k + 1 := by omega
      have hr := HX3.out.keep hb1
      have H1 := Lib.hid (bel_trans HB0.out hb1)
      have HR := Lib.hid (And.intro hr (show w.heap.size ≤ w0.heap.size from HB0.out.size))
      have hw01 := hb1.size
      have hBl : w.heap.size + 1 + 1 < w1.heap.size := hr.lt
      have hx := HX3.out.lt
      have hzs : q.zs = q.p.1 := rfl
      have hxx : q.x = q.p.2 := rfl
      have HQZ := Lib.hid hzs
      have HQX := Lib.hid hxx
      have hpos := hrow.2
      clear hp hi hb1 hr hm hQ hrow e1 HPE hPQ hcp hzs hxx hlq hLm
      go_wp2_with fail
      refine (HCP.out _ (Below.refl _ _)).mono ?_
      rintro e w2 ⟨v2, rfl, ho2, hb2⟩
      obtain ⟨va2, vc2, hv2⟩ := own_slice ho2
      subst hv2
      have hr := HR.out.1.keep hb2
      have x0 := hr.cell 0
      have x1 := hr.cell 1
      have s0 := hr.frozen 0
      have s1 := hr.frozen 1
      simp only [List.getElem?_toArray, List.getElem?_cons_succ, List.getElem?_cons_zero] at x0 x1
      have H2 := Lib.hid (And.intro ho2 (And.intro hr (bel_trans H1.out hb2)))
      clear ho2 hb2 hr
      go_wp2
      try simp only [Exit.inBlock, Exit.then]
      refine bodyPost_ret (v := .tuple #[.agg #[.slice va2 q.zs.length vc2, .int .i64 q.x], .bool true]) ?_ rfl ?_
      · rw [results_cell_tmp rfl]
        go_simp
      rw [HPQ.out]
      exact OnePost.of (q := ⟨.slice va2 q.zs.length vc2, q.zs, q.x⟩) (base := w1.heap.size) ⟨(H2.out.2.1.set 0 _).own (H2.out.2.1.own H2.out.1 (by decide)) (by decide), hpos⟩ (by have := HR.out.2; omega) rfl ((H2.out.2.2.setCell (by show w.heap.size ≤ w.heap.size + 1 + 1; omega) _).setCell (by show w.heap.size ≤ w.heap.size + 1 + 1; omega) _)
end Go.Proofs.YtneapbggnnndhaaGreat
namespace Go.Proofs.YtneapbggnnndhaaGreat
open Go.RowKit Go.BigFrame Go.Deep
set_option linter.unusedVariables false
set_option linter.unusedSimpArgs false
set_option linter.unnecessarySimpa false

def BoxInP (w wx : World) (N : Int) (ls : List Int) (p : Value) : Prop :=
  ∃ (g : Nat) (va : Option Addr) (vc lo hi : Nat), p = .pointer (some ⟨g, 0, none⟩) ∧ (wx.cell? ⟨g, 0, none⟩ = some (.slice va ls.length vc) ∧ wx.cell? ⟨g, 1, none⟩ = some (.int .i64 N)) ∧
    InR true wx lo hi (.slice va ls.length vc) ls.length 1 (cellI ls) ∧ (w.heap.size ≤ g ∧ g < wx.heap.size) ∧ (w.heap.size ≤ lo ∧ hi ≤ wx.heap.size) ∧ (g < lo ∨ hi ≤ g) ∧ Below w.heap.size w wx
theorem box_endP {w wB wC : World} {T : TypeId} {N : Int} {ls : List Int} {v : Value} (hb : Below w.heap.size w wB) (hc : Below wB.heap.size wB wC) (ho : OwnV wB wC v ls) :
    BoxInP w (wC.alloc (.cells #[v, .int .i64 N] T)) N ls (.pointer (some ⟨wC.heap.size, 0, none⟩)) := by
  obtain ⟨a, c, rfl⟩ := ho.slice
  have hB := Box.new wC T #[.slice a ls.length c, .int .i64 N]
  have h1 := hb.size
  have h2 := hc.size
  exact ⟨_, a, c, wB.heap.size, wC.heap.size, rfl, ⟨by simpa using hB.cell 0, by simpa using hB.cell 1⟩, InR.keep ho ((Below.refl _ _).alloc (Nat.le_refl _) _), ⟨by omega, by simp⟩, ⟨h1, by simp⟩, .inr (Nat.le_refl _), (bel_trans hb hc).alloc (by omega) _⟩
theorem box_midP {w x wB wC : World} {T : TypeId} {N N0 : Int} {ls : List Int} {v v0 : Value} (hx : Below w.heap.size w x) (hb : Below (x.alloc (.cells #[v0, .int .i64 N0] T)).heap.size (x.alloc (.cells #[v0, .int .i64 N0] T)) wB)
    (hc : Below wB.heap.size wB wC) (ho : OwnV wB wC v ls) :
    BoxInP w ((wC.setCell ⟨x.heap.size, 0, none⟩ v).setCell ⟨x.heap.size, 1, none⟩ (.int .i64 N)) N ls (.pointer (some ⟨x.heap.size, 0, none⟩)) := by
  obtain ⟨a, c, rfl⟩ := ho.slice
  have hB := ((((Box.new x T #[v0, .int .i64 N0]).keep hb).keep hc).set 0 (.slice a ls.length c)).set 1 (.int .i64 N)
  have h0 := hx.size
  have h1 := hb.size
  have h2 := hc.size
  have h3 : x.heap.size + 1 ≤ wB.heap.size := by simpa using h1
  have hk : Chg x.heap.size (x.heap.size + 1) wC ((wC.setCell ⟨x.heap.size, 0, none⟩ (.slice a ls.length c)).setCell ⟨x.heap.size, 1, none⟩ (.int .i64 N)) := ((Chg.refl _ _ _).setCell (by simp) (by simp) _).setCell (by simp) (by simp) _
  exact ⟨_, a, c, wB.heap.size, wC.heap.size, rfl, ⟨by simpa using hB.cell 0, by simpa using hB.cell 1⟩, InR.chg ho hk (.inl h3), ⟨h0, hB.lt⟩, ⟨by omega, hk.size⟩, .inl (by omega), bel_chg (bel_trans (bel_trans hx ((Below.refl _ _).alloc (Nat.le_refl _) _)) (bel_trans hb hc)) hk h0⟩
theorem OnePost.x {w w' : World} {P : Pt} {B : Bool} {e : Ending} (h : OnePost w P B e w') : ∃ v, e = .returned (.tuple #[.agg #[v, .int .i64 P.2], .bool B]) ∧ OwnV w w' v P.1 ∧ Below w.heap.size w w' := by
  obtain ⟨a, c, h1, h2, h3⟩ := h
  exact ⟨_, h1, h2, h3⟩
end Go.Proofs.YtneapbggnnndhaaGreat
