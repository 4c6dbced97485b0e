/- Copies of rows of numbers, to be written into. What an edge gives, and the better one of two, in the program. A round of relaxing: in the program. RelaxAll: in the program. -/
import Derived.Test.YtlgjcofpdaljnaaVStartT
import Derived.Lib.SliceRun
import Derived.Test.YtlgjcofpdaljnaaDisp
import Derived.Test.YtlgjcofpdaljnaaEndV
import Derived.Test.YtlgjcofpdaljnaaVEdges
import Derived.Deep.RegionHeld3
namespace Go.Proofs.Ytlgjcofpdaljnaa
open Go.RowKit Go.BigFrame Go.Deep
set_option linter.unusedVariables false
set_option linter.unusedSimpArgs false

/-- A row that can be written. -/
def Wr (w : World) (b off : Nat) (zs : List Int) : Prop := b < w.heap.size ∧ ∀ i, i < zs.length → w.cell? ⟨b, off + i, none⟩ = some (.int .i64 (zs.getD i 0)) ∧ w.frozen? ⟨b, off + i, none⟩ = false
theorem Wr.keep {w w' : World} {b off : Nat} {zs : List Int} (h : Wr w b off zs) (hb : Below w.heap.size w w') : Wr w' b off zs :=
  ⟨Nat.lt_of_lt_of_le h.1 hb.size, fun i hi => ⟨(hb.cell (p := ⟨b, _, none⟩) h.1).trans (h.2 i hi).1, (hb.frozen (p := ⟨b, _, none⟩) h.1).trans (h.2 i hi).2⟩⟩
theorem Wr.set {w : World} {b off : Nat} {zs : List Int} (h : Wr w b off zs) {k : Nat} (hk : k < zs.length) (x : Int) : Wr (w.setCell ⟨b, off + k, none⟩ (.int .i64 x)) b off (zs.set k x) := by
  refine ⟨by simpa using h.1, fun i hi => ?_⟩
  rw [List.length_set] at hi
  obtain ⟨h1, h2⟩ := h.2 i hi
  constructor
  · rw [getD_set _ _ _ _ hi]
    by_cases e : k = i
    · subst e
      rw [if_pos rfl, World.cell?_setCell_same _ _ _ h1]
    · have ne : (⟨b, off + k, none⟩ : Addr) ≠ ⟨b, off + i, none⟩ := by intro h; injection h with _ h _; omega
      rw [if_neg e, World.cell?_setCell_other _ _ _ _ ne, h1]
  · rw [World.frozen?_setCell]; exact h2
theorem Wr.own {w w' : World} {b off cap : Nat} {zs : List Int} (h : Wr w' b off zs) (hb : w.heap.size ≤ b) : OwnV w w' (.slice (some ⟨b, off, none⟩) zs.length cap) zs :=
  ⟨_, cap, rfl, .inr ⟨b, off, rfl, hb, h.1, Nat.le_refl _, fun i hi => ⟨(h.2 i (by omega)).1, fun _ => (h.2 i (by omega)).2⟩⟩⟩
theorem OwnV.wr {w w' : World} {v : Value} {zs : List Int} (h : OwnV w w' v zs) (h0 : 0 < zs.length) : ∃ b off cap, v = .slice (some ⟨b, off, none⟩) zs.length cap ∧ w.heap.size ≤ b ∧ Wr w' b off zs := by
  obtain ⟨a, cap, rfl, h | ⟨b, off, rfl, h1, h2, h3, hc⟩⟩ := h
  · omega
  · exact ⟨b, off, cap, rfl, h1, Nat.lt_of_lt_of_le h2 h3, fun i hi => ⟨(hc i (by omega)).1, (hc i (by omega)).2 rfl⟩⟩
theorem Wr.row {w : World} {b off cap : Nat} {zs : List Int} (h : Wr w b off zs) : Row w (.slice (some ⟨b, off, none⟩) zs.length cap) zs := ⟨_, cap, rfl, .inr ⟨b, off, rfl, h.1, fun i hi => (h.2 i hi).1⟩⟩
theorem row_news {w : World} {b off : Nat} {zs : List Int} (hc : ∀ i, i < zs.length → w.cell? ⟨b, off + i, none⟩ = some (.int .i64 (zs.getD i 0))) : ∀ j u, (zs.map (Value.int .i64))[j]? = some u → w.cell? ((⟨b, off, none⟩ : Addr).add j) = some u := by
  intro j u hj
  have hjn : j < zs.length := by
    have := (List.getElem?_eq_some_iff.1 hj).1
    simpa using this
  have e : (zs.map (Value.int .i64))[j]? = some (Value.int .i64 (zs.getD j 0)) := by simp [List.getD, hjn]
  rw [e] at hj
  injection hj with hj
  rw [← hj, ← hc j hjn, Go.WideShapes.add_plain]

set_option maxRecDepth 20000 in
set_option maxHeartbeats 1000000 in
theorem clone (zs : List Int) (s : Value) (w : World) (hr : Row w s zs) (h0 : 0 < zs.length) (hl : zs.length ≤ 1048576) :
    Calls Try.prog 118 #[s] w fun e w' => ∃ v, e = .returned v ∧ OwnV w w' v zs ∧ okS v ∧ Below w.heap.size w w' := by
  obtain ⟨a, cap, rfl, hz⟩ := hr
  rcases hz with hz | ⟨b, off, rfl, hb, hc⟩
  · rw [hz] at h0; simp at h0
  have hnews := row_news (fun i hi => (Lib.cell?_alloc_some (.cells #[] 3) (hc i hi)))
  have HN := Lib.hid hnews
  obtain ⟨i0, hi, hz0, hz1, hz2⟩ := info_parts info_int2
  have HI := Lib.hid (And.intro hi (And.intro hz0 (And.intro hz1 hz2)))
  have hown0 : (w.alloc (.cells #[] 3)).ownsRow w.heap.size 3 1 (.slice (some ⟨w.heap.size, 0, none⟩) 0 0) 0 [] := World.ownsRow_made w #[] 0 (Nat.le_refl _) (by unfold maxLen; omega) rfl
  have HO := Lib.hid hown0
  have hall : ∀ u ∈ zs.map (Value.int .i64), u.oneCell' = true := by intro u hu; obtain ⟨x, _, rfl⟩ := List.mem_map.1 hu; rfl
  have HALL := Lib.hid hall
  have hq : ∀ w, (binOp .eql 26 (.slice (some ⟨b, off, none⟩) zs.length cap) (.slice none 0 0)).run Try.prog w = .ok (.bool false) w := fun w => Lib.run_eql_slice_nil w _ _ (some ⟨b, off, none⟩) zs.length cap 0 0 Try.underlying26
  clear hown0 hc hnews hi hz0 hz1 hz2 hall
  go_enter Try.func118, Try.ntmps118
  obtain ⟨hi, hz0, hz1, hz2⟩ := HI.out
  go_wp2_with (at_builtin; refine wpList_append_own _ rfl _ _ 26 rfl w.heap.size 3 i0 (.int .i64 0) 1 8 Try.underlying26 hi hz0 hz1 hz2 rfl (by decide) _ _ _ rfl HO.out ⟨b, off, none⟩ zs.length cap (zs.map (Value.int .i64)) rfl ?c1 HN.out HALL.out ?c3 ?c4 ?c5 ?_)
  case c1 => simp
  case c3 => unfold maxLen; omega
  case c4 => omega
  case c5 => simp
  intro v' w6 hown6 hgrow6 _
  have hown7 : w6.ownsRow w.heap.size 3 1 v' zs.length (zs.map (Value.int .i64)) := by simpa using hown6
  have H7 := Lib.hid hown7
  have hB : Below w.heap.size w w6 := ((Below.refl _ w).alloc (Nat.le_refl _) _).grown hgrow6 (by simp) (by intro k hk; simp [Value.ownBlock] at hk; omega)
  clear hown6 hown7 hgrow6 hi hz0 hz1 hz2
  go_wp2
  go_ret
  exact ⟨v', rfl, OwnV.of H7.out (Nat.le_refl _), own_ok H7.out, hB⟩

set_option maxRecDepth 20000 in
set_option maxHeartbeats 2000000 in
theorem l3Copy (m a : Int) (zs : List Int) (s : Value) (w : World) (hr : Row w s zs) (h0 : 0 < zs.length) (hl : zs.length ≤ 1048576) :
    Calls Try.prog 107 #[.agg #[.int .i64 m, .int .i64 a, s]] w fun e w' => ∃ v, e = .returned (.agg #[.int .i64 m, .int .i64 a, v]) ∧ OwnV w w' v zs ∧ okS v ∧ Below w.heap.size w w' := by
  obtain ⟨ad, cap, rfl, hz⟩ := hr
  rcases hz with hz | ⟨b, off, rfl, hb, hc⟩
  · rw [hz] at h0; simp at h0
  obtain ⟨i0, hi, hz0, hz1, hz2⟩ := info_parts info_int2
  have hB3 : ∀ (A B C : Obj), Below w.heap.size w (((w.alloc A).alloc B).alloc C) := fun A B C => (((Below.refl _ _).alloc (Nat.le_refl _) _).alloc (by simp) _).alloc (by simp; omega) _
  have hnews := fun A B C => row_news (w := (((w.alloc A).alloc B).alloc C).drew) (fun i hi => ((hB3 A B C).cell (p := ⟨b, off + i, none⟩) hb).trans (hc i hi))
  have HN := Lib.hid hnews
  have hown0 : ∀ (A B : Obj), (((w.alloc A).alloc B).alloc (.cells #[] 3)).drew.ownsRow w.heap.size 3 1 (.slice (some ⟨w.heap.size + 1 + 1, 0, none⟩) 0 0) 0 [] := fun A B => by
    have := World.ownsRow_made (e := 3) (size := 1) ((w.alloc A).alloc B) #[] 0 (base := w.heap.size) (by simp; omega) (by unfold maxLen; omega) rfl
    simpa using own_drew this
  have HO := Lib.hid hown0
  have hall : ∀ u ∈ zs.map (Value.int .i64), u.oneCell' = true := by intro u hu; obtain ⟨x, _, rfl⟩ := List.mem_map.1 hu; rfl
  have HALL := Lib.hid hall
  have hbx : ∀ (C : Obj) (w6 : World), World.grownBy (((w.alloc (.cells #[.int .i64 m, .int .i64 a, .slice (some ⟨b, off, none⟩) zs.length cap] 28)).alloc (.cells #[.int .i64 0, .int .i64 0, .slice none 0 0] 28)).alloc (.cells #[] 3)).drew w6 (Value.slice (some ⟨w.heap.size + 1 + 1, 0, none⟩) 0 0).ownBlock →
      Box w6 w.heap.size 28 #[.int .i64 m, .int .i64 a, .slice (some ⟨b, off, none⟩) zs.length cap] ∧ Box w6 (w.heap.size + 1) 28 #[.int .i64 0, .int .i64 0, .slice none 0 0] ∧ Below w.heap.size w w6 := fun C w6 h =>
    ⟨Box.grown (Box.drew (((Box.new w 28 _).alloc _).alloc _)) h (HO.out _ _) (by decide), Box.grown (Box.drew (Box.alloc (by have := Box.new (w.alloc (.cells #[.int .i64 m, .int .i64 a, .slice (some ⟨b, off, none⟩) zs.length cap] 28)) 28 #[.int .i64 0, .int .i64 0, .slice none 0 0]; simpa using this) _)) h (HO.out _ _) (by decide),
      ((hB3 _ _ _).drew).grown h (by simp; omega) (by intro k hk; simp [Value.ownBlock] at hk; omega)⟩
  have HBX := Lib.hid hbx
  clear hc hnews hown0 hall hbx hB3
  go_enter Try.func107, Try.ntmps107
  go_wp2
  go_region_law (first | (refine step_append_own rfl (.tmp 7) (.tmp 9) 26 rfl w.heap.size 3 i0 (.int .i64 0) 1 8 Try.underlying26 hi hz0 hz1 hz2 rfl (by decide) _ _ _ rfl (HO.out _ _) ⟨b, off, none⟩ zs.length cap (zs.map (Value.int .i64)) rfl (by simp) (HN.out _ _ _) HALL.out (by unfold maxLen; omega) (by omega) (by simp; omega) ?_; intro v' w6 hown6 hgrow6; obtain ⟨va, vc, rfl⟩ := own_slice hown6; have HX6 := Lib.hid (HBX.out (.cells #[] 0) _ hgrow6); have x0 := HX6.out.1.cell 0; have x1 := HX6.out.1.cell 1; have r0 := HX6.out.2.1.cell 0; have r1 := HX6.out.2.1.cell 1; have r2 := HX6.out.2.1.cell 2; have s0 := HX6.out.2.1.frozen 0; have s1 := HX6.out.2.1.frozen 1; have s2 := HX6.out.2.1.frozen 2; simp only [List.getElem?_toArray, List.getElem?_cons_succ, List.getElem?_cons_zero] at x0 x1 r0 r1 r2; have H7 := Lib.hid hown6; clear hown6 hgrow6))
  all_goals
    go_wp2
    try simp only [Exit.inBlock, Exit.then]
    refine bodyPost_ret (v := .agg #[.int .i64 m, .int .i64 a, .slice va zs.length vc]) ?_ rfl ?_
    · rw [results_cell1 rfl]
      go_simp
    have ho : w6.ownsRow w.heap.size 3 1 (.slice va zs.length vc) zs.length (zs.map (Value.int .i64)) := by simpa using H7.out
    have hr := HX6.out.2.1
    exact ⟨_, rfl, OwnV.of (((hr.set 0 _).set 1 _).own ((hr.set 0 _).own (hr.own ho (by decide)) (by decide)) (by decide)) (Nat.le_refl _), own_ok ho, ((HX6.out.2.2.setCell (by simp) _).setCell (by simp) _).setCell (by simp) _⟩
end Go.Proofs.Ytlgjcofpdaljnaa
namespace Go.Proofs.Ytlgjcofpdaljnaa
open Go.RowKit Go.BigFrame Go.Deep
set_option linter.unusedVariables false
set_option linter.unusedSimpArgs false

set_option maxRecDepth 20000 in
set_option maxHeartbeats 1000000 in
theorem betterOf (m a b : Int) (hm : mKind m = true) (w : World) :
    Calls Try.prog 119 #[opsV m, .int .i64 a, .int .i64 b] w fun e w' => e = .returned (.int .i64 (mBest m a b)) ∧ Below w.heap.size w w' := by
  obtain ⟨T, rv, fn, fe, fb, fo, fj, rn, re, rb, ro, rj, D⟩ := disp hm
  rw [D.val]
  have hn1 := D.mb.run
  have hn2 := D.mb.ahead
  have hn3 := D.mb.enter
  have hcb := D.cb b a
  unfold mBest
  generalize mBet m b a = B at hcb ⊢
  have HC := Lib.hid hcb
  have HD := Lib.hid D
  clear D hcb
  cases B
  · rw [if_neg (by decide)]
    go_enter Try.func119, Try.ntmps119
    go_wp2_with (with_reducible refine (HC.out _).mono ?_; rintro e w1 ⟨rfl, hb1⟩)
    go_ret
    exact ⟨rfl, hb1⟩
  · rw [if_pos rfl]
    go_enter Try.func119, Try.ntmps119
    go_wp2_with (with_reducible refine (HC.out _).mono ?_; rintro e w1 ⟨rfl, hb1⟩)
    go_ret
    exact ⟨rfl, hb1⟩

set_option maxRecDepth 20000 in
set_option maxHeartbeats 2000000 in
theorem edgeValue (m : Int) (zs : List Int) (s : Value) (F : Nat) (y z : Int) (w : World) (hm : mKind m = true) (hr : Row w s zs) (hF : F < zs.length) (hl : zs.length ≤ 1048576) (hv : vAll m zs) (hw : mWeight z = true) :
    Calls Try.prog 120 #[opsV m, s, .agg #[.int .i64 F, .int .i64 y, .int .i64 z]] w fun e w' => e = .returned (.int .i64 (vGive m zs (F, y, z))) ∧ Below w.heap.size w w' := by
  obtain ⟨T, rv, fn, fe, fb, fo, fj, rn, re, rb, ro, rj, D⟩ := disp hm
  rw [D.val]
  have ho1 := D.mo.run
  have ho2 := D.mo.ahead
  have ho3 := D.mo.enter
  have hj1 := D.mj.run
  have hj2 := D.mj.ahead
  have hj3 := D.mj.enter
  obtain ⟨a, cap, rfl, hz⟩ := hr
  rcases hz with hz | ⟨b, off, rfl, hb, hc⟩
  · rw [hz] at hF; simp at hF
  obtain ⟨x, hx⟩ : ∃ x, x = zs.getD F 0 := ⟨_, rfl⟩
  have h1 := hc F hF
  rw [← hx] at h1
  have hxi : mIn m x = true := by rw [hx]; exact hv F hF
  have hco := D.co z
  have hcj := fun w => D.cj x (mEdge m z) w hxi (mEdge_in hm hw)
  have e0 : vGive m zs ((F : Int), y, z) = mJoin m x (mEdge m z) := by unfold vGive; rw [hx]; rfl
  rw [e0]
  have HCO := Lib.hid hco
  have HCJ := Lib.hid hcj
  have hF' : (F : Int) < zs.length := by omega
  have ff : ∀ w', Below (w.alloc (.cells #[.int .i64 F, .int .i64 y, .int .i64 z] 67)).heap.size (w.alloc (.cells #[.int .i64 F, .int .i64 y, .int .i64 z] 67)) w' →
      w'.cell? ⟨b, off + F, none⟩ = some (.int .i64 x) ∧ w'.cell? ⟨w.heap.size, 0, none⟩ = some (.int .i64 F) ∧ w'.cell? ⟨w.heap.size, 2, none⟩ = some (.int .i64 z) ∧ Below w.heap.size w w' := by
    intro w' h
    have hB := bel_trans ((Below.refl _ w).alloc (Nat.le_refl _) (.cells #[.int .i64 F, .int .i64 y, .int .i64 z] 67)) h
    exact ⟨(hB.cell (p := ⟨b, _, none⟩) hb).trans h1, (h.cell (p := ⟨_, _, none⟩) (by simp)).trans (by go_simp), (h.cell (p := ⟨_, _, none⟩) (by simp)).trans (by go_simp), hB⟩
  have FF := Lib.hid ff
  have HD := Lib.hid D
  clear D hc h1 hx hxi hco hcj e0 ff hv
  go_enter Try.func120, Try.ntmps120
  go_wp2
  generalize (w.alloc (.cells #[.int .i64 F, .int .i64 y, .int .i64 z] 67)) = W1 at FF ⊢
  refine wp_region_below (by kernel_rfl) (by kernel_rfl) ?_
  repeat (go_big_quiet_step ((intro hw1; first | with_reducible rfl | (obtain ⟨f0, f1, f2, -⟩ := FF.out _ hw1; simp only [f0, f1, f2, Result.andThen]; first | exact ⟨trivial, rfl⟩ | exact ⟨rfl, rfl⟩) | (with_reducible exact quietB (HCO.out _) hw1) | (with_reducible exact quietB (HCJ.out _) hw1))))
  refine wpQuiet_nil ?_
  intro w2 hw2
  obtain ⟨-, -, -, hB⟩ := FF.out _ hw2
  go_wp2
  go_ret
  exact ⟨rfl, hB⟩
end Go.Proofs.Ytlgjcofpdaljnaa
namespace Go.Proofs.Ytlgjcofpdaljnaa
open Go.RowKit Go.BigFrame Go.Deep
set_option linter.unusedVariables false
set_option linter.unusedSimpArgs false

/-- The values so far, when k edges are done. -/
def vMid (m : Int) (es : List Ed) (zs : List Int) (k : Nat) : List Int := (es.take k).foldl (vUp m zs) zs
theorem vMid_len (m : Int) (es : List Ed) (zs : List Int) (k : Nat) : (vMid m es zs k).length = zs.length := vFold_length m zs _ zs
theorem vMid_all (m : Int) (es : List Ed) (zs : List Int) : vMid m es zs es.length = vRelax m es zs := by unfold vMid vRelax; rw [List.take_length]
theorem vMid_succ (m : Int) (es : List Ed) (zs : List Int) {k X Y : Nat} {z : Int} (hk : k < es.length) (he : ((X : Int), (Y : Int), z) = es.getD k (0, 0, 0)) :
    vMid m es zs (k + 1) = (vMid m es zs k).set Y (mBest m ((vMid m es zs k).getD Y 0) (vGive m zs ((X : Int), (Y : Int), z))) := by
  unfold vMid
  rw [vFold_snoc m zs zs es k hk, ← he]
  unfold vUp
  simp only [Int.toNat_natCast]

set_option maxRecDepth 20000 in
set_option maxHeartbeats 4000000 in
theorem relaxedValues (m : Int) (es : List Ed) (zs : List Int) (s t : Value) (w : World) (hm : mKind m = true) (hs : RowE w s es) (ht : Row w t zs) (hl : es.length ≤ 1048576) (hl2 : zs.length ≤ 1048576) (h0 : 0 < zs.length) (hv : vAll m zs) (he : eAll zs.length es) :
    Calls Try.prog 95 #[opsV m, s, t] w fun e w' => ∃ v, e = .returned v ∧ OwnV w w' v (vRelax m es zs) ∧ okS v ∧ Below w.heap.size w w' := by
  have hcl := clone zs t w ht h0 hl2
  have HCL := Lib.hid hcl
  have HT := Lib.hid ht
  have hbet := fun a b w => betterOf m a b hm w
  have HBET := Lib.hid hbet
  have hev := fun (X : Nat) y z (w' : World) (hb : Below w.heap.size w w') hX hw => edgeValue m zs t X y z w' hm (ht.keep hb) hX hl2 hv hw
  have HEV := Lib.hid hev
  have HE := Lib.hid he
  obtain ⟨ad, cap, rfl, hz0⟩ := hs
  have hz := Lib.hid hz0
  obtain ⟨O, hO⟩ : ∃ O, O = opsV m := ⟨_, rfl⟩
  rw [← hO] at HBET HEV ⊢
  obtain ⟨t1, t2, rfl, htz⟩ := ht
  clear hz0 hcl hbet hev he hv hO htz
  go_enter Try.func95, Try.ntmps95
  go_wp2_with (go_at_call 118; refine (HCL.out).mono ?_; rintro e w1 ⟨v, rfl, hown, hok, hb1⟩; obtain ⟨b, off, cp, rfl, hbb, hwr⟩ := hown.wr h0; have HW1 := Lib.hid hwr; have HOKV := Lib.hid hok; clear hown hwr hok)
  go_loopw [14] (fun c wr => ∃ k : Nat, k ≤ es.length ∧ c = .int .i64 k ∧ Below w.heap.size w wr ∧ Hid (Wr wr b off (vMid m es zs k))) (fun c _ => es.length - (intOf c).toNat)
  case atStart => exact ⟨0, Nat.zero_le _, rfl, hb1, HW1⟩
  case round =>
    obtain ⟨k, hk, rfl, hbel, HWR⟩ := hrel
    clear HW1 hb1
    by_cases hlt : k < es.length
    · have hlt' : (k : Int) < es.length := by omega
      rcases hz.out with h00 | ⟨b0, off0, rfl, hb0, hc⟩
      · rw [h00] at hlt; simp at hlt
      obtain ⟨x, y, z, hx⟩ : ∃ x y z, (x, y, z) = es.getD k (0, 0, 0) := ⟨_, _, _, rfl⟩
      have hin : es.getD k (0, 0, 0) ∈ es := by simp [List.getD, hlt]
      have hea := HE.out _ hin
      rw [← hx] at hea
      simp only at hea
      obtain ⟨X, rfl⟩ := Int.eq_ofNat_of_zero_le hea.1.1
      obtain ⟨Y, rfl⟩ := Int.eq_ofNat_of_zero_le hea.2.1.1
      have hX : X < zs.length := by have := hea.1.2; simpa using this
      have hY : Y < zs.length := by have := hea.2.1.2; simpa using this
      have hwz := hea.2.2
      have h1 := hc k hlt
      rw [← hx] at h1
      simp only at h1
      have c0 := (hbel.cell (p := ⟨b0, off0 + k * 3, none⟩) hb0).trans h1.1
      have c1 := (hbel.cell (p := ⟨b0, off0 + k * 3 + 1, none⟩) hb0).trans h1.2.1
      have c2 := (hbel.cell (p := ⟨b0, off0 + k * 3 + 2, none⟩) hb0).trans h1.2.2
      have hsucc := vMid_succ m es zs hlt hx
      obtain ⟨r, hr⟩ : ∃ r, r = (vMid m es zs k).getD Y 0 := ⟨_, rfl⟩
      rw [← hr] at hsucc
      have HS := Lib.hid hsucc
      have hYl : Y < (vMid m es zs k).length := by rw [vMid_len]; exact hY
      have hcell := HWR.out.2 Y hYl
      rw [← hr] at hcell
      have hY' : (Y : Int) < zs.length := by omega
      have hbn : b < wr.heap.size := HWR.out.1
      have hne : ¬ b = wr.heap.size := by omega
      have hBW : ∀ A, Below w.heap.size w (wr.alloc A) := fun A => hbel.alloc hbel.size _
      have hhold : ∀ w', Below (wr.alloc (.cells #[.int .i64 X, .int .i64 Y, .int .i64 z] 67)).heap.size (wr.alloc (.cells #[.int .i64 X, .int .i64 Y, .int .i64 z] 67)) w' →
          w'.cell? ⟨wr.heap.size, 0, none⟩ = some (.int .i64 X) ∧ w'.cell? ⟨wr.heap.size, 1, none⟩ = some (.int .i64 Y) ∧ w'.cell? ⟨wr.heap.size, 2, none⟩ = some (.int .i64 z) := fun w' h =>
        ⟨(h.cell (p := ⟨_, _, none⟩) (by simp)).trans (by go_simp), (h.cell (p := ⟨_, _, none⟩) (by simp)).trans (by go_simp), (h.cell (p := ⟨_, _, none⟩) (by simp)).trans (by go_simp)⟩
      have hrel2 : ∀ w', Below (wr.alloc (.cells #[.int .i64 X, .int .i64 Y, .int .i64 z] 67)).heap.size (wr.alloc (.cells #[.int .i64 X, .int .i64 Y, .int .i64 z] 67)) w' →
          w'.cell? ⟨b, off + Y, none⟩ = some (.int .i64 r) ∧ w'.frozen? ⟨b, off + Y, none⟩ = false ∧ Below w.heap.size w w' ∧ Wr w' b off (vMid m es zs k) := fun w' h => by
        have hB := bel_trans ((Below.refl _ wr).alloc (Nat.le_refl _) (.cells #[.int .i64 X, .int .i64 Y, .int .i64 z] 67)) h
        exact ⟨(hB.cell (p := ⟨b, _, none⟩) hbn).trans hcell.1, (hB.frozen (p := ⟨b, _, none⟩) hbn).trans hcell.2, bel_trans hbel hB, HWR.out.keep hB⟩
      have HOLD := Lib.hid hhold
      have HREL := Lib.hid hrel2
      have HWZ := Lib.hid hwz
      clear hc h1 hx hin hea hsucc hr hcell hhold hrel2 hwz hBW
      go_wp2
      generalize (wr.alloc (.cells #[.int .i64 X, .int .i64 Y, .int .i64 z] 67)) = W1 at HOLD HREL ⊢
      clear c0 c1 c2
      obtain ⟨e0, e1, e2⟩ := HOLD.out _ (Below.refl _ _)
      have q0 := (HREL.out _ (Below.refl _ _)).1
      go_region_law (first | (go_simp; go_at_call 120; (with_reducible refine (HEV.out X _ _ _ (HREL.out _ ((Below.refl _ _).drew)).2.2.1 hX HWZ.out).mono ?_); rintro e wE ⟨rfl, hbE⟩; obtain ⟨m0, m1, m2⟩ := HOLD.out _ (bel_trans ((Below.refl _ _).drew) hbE); have qE := (HREL.out _ (bel_trans ((Below.refl _ _).drew) hbE)).1) | (go_simp; go_at_call 119; (with_reducible refine (HBET.out _ _ _).mono ?_); rintro e wB ⟨rfl, hbB⟩; have HRB := Lib.hid (HREL.out _ (bel_trans (bel_trans ((Below.refl _ _).drew) hbE) hbB)); have n1 := (HOLD.out _ (bel_trans (bel_trans ((Below.refl _ _).drew) hbE) hbB)).2.1; have qB := HRB.out.1; have fB := HRB.out.2.1))
      all_goals go_wp2
      all_goals go_roundw
      all_goals first | (simp [intOf]; omega) | exact ⟨k + 1, by omega, by go_num, HRB.out.2.2.1.setCell hbb _, Lib.hid (by rw [HS.out]; exact HRB.out.2.2.2.set hYl _)⟩ | ((repeat apply Exists.intro); exact ⟨⟨k + 1, by omega, by go_num, HRB.out.2.2.1.setCell hbb _, Lib.hid (by rw [HS.out]; exact HRB.out.2.2.2.set hYl _)⟩, rfl⟩)
    · have hke : k = es.length := by omega
      have hkk : ¬ ((k : Int) < es.length) := by omega
      have hall := vMid_all m es zs
      rw [← hke] at hall
      have HA := Lib.hid hall
      have hln := Lib.hid (vMid_len m es zs k)
      clear hke hall
      go_wp2
      go_ret
      have hw := HWR.out.own (cap := cp) hbb
      rw [hln.out] at hw
      rw [HA.out] at hw
      exact ⟨_, rfl, hw, HOKV.out, hbel⟩
end Go.Proofs.Ytlgjcofpdaljnaa
namespace Go.Proofs.Ytlgjcofpdaljnaa
open Go.RowKit Go.BigFrame Go.Deep
set_option linter.unusedVariables false
set_option linter.unusedSimpArgs false

def rxM (n : Int) (es : List Ed) (m a : Int) (zs : List Int) : Int := if vVal n es m a zs = true then m else 0
def rxA (n : Int) (es : List Ed) (m a : Int) (zs : List Int) : Int := if vVal n es m a zs = true then a else 0
def rxL (n : Int) (es : List Ed) (m a : Int) (zs : List Int) : List Int := if vVal n es m a zs = true then vRelax m es zs else []
theorem vVal_pts {n : Int} {es : List Ed} {m a : Int} {zs : List Int} (h : vVal n es m a zs = true) : gVal n es = true ∧ (0 ≤ a ∧ a < n) ∧ (zs.length : Int) = n ∧ mKind m = true ∧ zs.all (mIn m) = true := by
  simp only [vVal, vFit, mAll, Bool.and_eq_true, decide_eq_true_eq] at h
  exact ⟨h.1.1, h.1.2.1, h.1.2.2, h.2.1, h.2.2⟩
theorem vAll_of {m : Int} {zs : List Int} (h : zs.all (mIn m) = true) : vAll m zs := by
  intro i hi
  rw [getD_of hi]
  exact List.all_eq_true.1 h _ (List.getElem_mem hi)
/-- What relaxing needs. -/
theorem vVal_use {n : Int} {es : List Ed} {m a : Int} {zs : List Int} (h : vVal n es m a zs = true) : mKind m = true ∧ 0 < zs.length ∧ zs.length ≤ 12 ∧ es.length ≤ 40 ∧ vAll m zs ∧ eAll zs.length es := by
  have hp := vVal_pts h
  have hn := gVal_n hp.1
  have he := eAll_of hp.1
  rw [show n.toNat = zs.length by omega] at he
  exact ⟨hp.2.2.2.1, by omega, by omega, hn.2.2, vAll_of hp.2.2.2.2, he⟩

set_option maxRecDepth 20000 in
set_option maxHeartbeats 4000000 in
theorem relaxAll (n m a : Int) (es : List Ed) (zs : List Int) (s t : Value) (w : World) (hs : RowE w s es) (ht : Row w t zs) (hl : es.length ≤ 281474976710656) (hl2 : zs.length ≤ 281474976710656) :
    Calls Try.prog 63 #[.agg #[.int .i64 n, s], .agg #[.int .i64 m, .int .i64 a, t]] w fun e w' =>
      ∃ v, e = .returned (.tuple #[.agg #[.int .i64 (rxM n es m a zs), .int .i64 (rxA n es m a zs), v], .bool (vVal n es m a zs)]) ∧ OwnV w w' v (rxL n es m a zs) ∧ okS v ∧ Below w.heap.size w w' := by
  have hB : ∀ (A B C : Obj), Below w.heap.size w (((w.alloc A).alloc B).alloc C) := fun A B C => (((Below.refl _ _).alloc (Nat.le_refl _) _).alloc (by simp) _).alloc (by simp; omega) _
  have ho := fun A B C => opsOfView n m a es zs s t _ (hs.keep (hB A B C)) (ht.keep (hB A B C)) hl hl2
  have hR := Lib.hid hs
  have hT := Lib.hid ht
  obtain ⟨ad, cap, rfl, hz0⟩ := hs
  obtain ⟨ad2, cap2, rfl, hy0⟩ := ht
  clear hz0 hy0
  have HB := Lib.hid hB
  unfold rxM rxA rxL
  obtain ⟨G, hG⟩ : ∃ G, G = vVal n es m a zs := ⟨_, rfl⟩
  rw [← hG] at ho ⊢
  have HO := Lib.hid ho
  have QG := Lib.hid hG
  clear ho hB hG
  cases G
  · rw [if_neg (by decide), if_neg (by decide), if_neg (by decide)]
    go_enter Try.func63, Try.ntmps63
    go_wp2_with (go_at_call 37; refine (HO.out _ _ _).mono ?_; rintro e w1 ⟨rfl, hb1⟩; have xg1 := hb1.cell (p := ⟨w.heap.size, 1, none⟩) (by simp <;> omega); have xv0 := hb1.cell (p := ⟨w.heap.size + 1, 0, none⟩) (by simp <;> omega); have xv1 := hb1.cell (p := ⟨w.heap.size + 1, 1, none⟩) (by simp <;> omega); have xv2 := hb1.cell (p := ⟨w.heap.size + 1, 2, none⟩) (by simp <;> omega); have xr0 := hb1.cell (p := ⟨w.heap.size + 1 + 1, 0, none⟩) (by simp <;> omega); have xr1 := hb1.cell (p := ⟨w.heap.size + 1 + 1, 1, none⟩) (by simp <;> omega); have xr2 := hb1.cell (p := ⟨w.heap.size + 1 + 1, 2, none⟩) (by simp <;> omega); have fr0 := hb1.frozen (p := ⟨w.heap.size + 1 + 1, 0, none⟩) (by simp <;> omega); have fr1 := hb1.frozen (p := ⟨w.heap.size + 1 + 1, 1, none⟩) (by simp <;> omega); have fr2 := hb1.frozen (p := ⟨w.heap.size + 1 + 1, 2, none⟩) (by simp <;> omega))
    try simp only [Exit.inBlock, Exit.then]
    refine bodyPost_ret (v := .tuple #[.agg #[.int .i64 0, .int .i64 0, .slice none 0 0], .bool false]) ?_ rfl ?_
    · rw [results_cell_tmp rfl]
      go_simp
    exact ⟨_, rfl, OwnV.nil _ _, okS_nil, (((bel_trans (HB.out _ _ _) hb1).setCell (by simp; omega) _).setCell (by simp; omega) _).setCell (by simp; omega) _⟩
  · rw [if_pos rfl, if_pos rfl, if_pos rfl]
    have hu := vVal_use QG.out.symm
    have hrv := fun w' (h : Below w.heap.size w w') => relaxedValues m es zs _ _ w' hu.1 (hR.out.keep h) (hT.out.keep h) (by omega) (by omega) hu.2.1 hu.2.2.2.2.1 hu.2.2.2.2.2
    have e1 : opsR m true = opsV m := rfl
    rw [e1] at HO
    obtain ⟨O, hO⟩ : ∃ O, O = opsV m := ⟨_, rfl⟩
    rw [← hO] at HO hrv
    have hlen := vRelax_length m es zs
    obtain ⟨L, hL⟩ : ∃ L, L = vRelax m es zs := ⟨_, rfl⟩
    rw [← hL] at hrv hlen ⊢
    have HRV := Lib.hid hrv
    clear hrv hu e1 hO hL hlen
    go_enter Try.func63, Try.ntmps63
    go_wp2_with (go_at_call 37; refine (HO.out _ _ _).mono ?_; rintro e w1 ⟨rfl, hb1⟩; have xg1 := hb1.cell (p := ⟨w.heap.size, 1, none⟩) (by simp <;> omega); have xv0 := hb1.cell (p := ⟨w.heap.size + 1, 0, none⟩) (by simp <;> omega); have xv1 := hb1.cell (p := ⟨w.heap.size + 1, 1, none⟩) (by simp <;> omega); have xv2 := hb1.cell (p := ⟨w.heap.size + 1, 2, none⟩) (by simp <;> omega); have xr0 := hb1.cell (p := ⟨w.heap.size + 1 + 1, 0, none⟩) (by simp <;> omega); have xr1 := hb1.cell (p := ⟨w.heap.size + 1 + 1, 1, none⟩) (by simp <;> omega); have xr2 := hb1.cell (p := ⟨w.heap.size + 1 + 1, 2, none⟩) (by simp <;> omega); have fr0 := hb1.frozen (p := ⟨w.heap.size + 1 + 1, 0, none⟩) (by simp <;> omega); have fr1 := hb1.frozen (p := ⟨w.heap.size + 1 + 1, 1, none⟩) (by simp <;> omega); have fr2 := hb1.frozen (p := ⟨w.heap.size + 1 + 1, 2, none⟩) (by simp <;> omega))
    have hbw := bel_trans (HB.out _ _ _) hb1
    have hsz : w.heap.size + 1 + 1 < w1.heap.size := Nat.lt_of_lt_of_le (by simp) hb1.size
    have q1 : w1.cell? ⟨w.heap.size, 1, none⟩ = some (.slice ad es.length cap) := by rw [xg1]; go_simp
    have q2 : w1.cell? ⟨w.heap.size + 1, 0, none⟩ = some (.int .i64 m) := by rw [xv0]; go_simp
    have q3 : w1.cell? ⟨w.heap.size + 1, 1, none⟩ = some (.int .i64 a) := by rw [xv1]; go_simp
    have q4 : w1.cell? ⟨w.heap.size + 1, 2, none⟩ = some (.slice ad2 zs.length cap2) := by rw [xv2]; go_simp
    have q5 : w1.cell? ⟨w.heap.size + 1 + 1, 0, none⟩ = some (.int .i64 0) := by rw [xr0]; go_simp
    have q6 : w1.cell? ⟨w.heap.size + 1 + 1, 1, none⟩ = some (.int .i64 0) := by rw [xr1]; go_simp
    have q7 : w1.cell? ⟨w.heap.size + 1 + 1, 2, none⟩ = some (.slice none 0 0) := by rw [xr2]; go_simp
    have q8 : w1.frozen? ⟨w.heap.size + 1 + 1, 0, none⟩ = false := by rw [fr0]; go_simp
    have q9 : w1.frozen? ⟨w.heap.size + 1 + 1, 1, none⟩ = false := by rw [fr1]; go_simp
    have q10 : w1.frozen? ⟨w.heap.size + 1 + 1, 2, none⟩ = false := by rw [fr2]; go_simp
    have hhold : ∀ w', Below w1.heap.size w1 w' → w'.cell? ⟨w.heap.size, 1, none⟩ = some (.slice ad es.length cap) ∧ w'.cell? ⟨w.heap.size + 1, 0, none⟩ = some (.int .i64 m) ∧ w'.cell? ⟨w.heap.size + 1, 1, none⟩ = some (.int .i64 a) ∧ w'.cell? ⟨w.heap.size + 1, 2, none⟩ = some (.slice ad2 zs.length cap2) := fun w' h =>
      ⟨(h.cell (p := ⟨_, _, none⟩) (by simp only; omega)).trans q1, (h.cell (p := ⟨_, _, none⟩) (by simp only; omega)).trans q2, (h.cell (p := ⟨_, _, none⟩) (by simp only; omega)).trans q3, (h.cell (p := ⟨_, _, none⟩) (by simp only; omega)).trans q4⟩
    have hres : ∀ w', Below w1.heap.size w1 w' → (w'.cell? ⟨w.heap.size + 1 + 1, 0, none⟩ = some (.int .i64 0) ∧ w'.cell? ⟨w.heap.size + 1 + 1, 1, none⟩ = some (.int .i64 0) ∧ w'.cell? ⟨w.heap.size + 1 + 1, 2, none⟩ = some (.slice none 0 0)) ∧ (w'.frozen? ⟨w.heap.size + 1 + 1, 0, none⟩ = false ∧ w'.frozen? ⟨w.heap.size + 1 + 1, 1, none⟩ = false ∧ w'.frozen? ⟨w.heap.size + 1 + 1, 2, none⟩ = false) := fun w' h =>
      ⟨⟨(h.cell (p := ⟨_, _, none⟩) hsz).trans q5, (h.cell (p := ⟨_, _, none⟩) hsz).trans q6, (h.cell (p := ⟨_, _, none⟩) hsz).trans q7⟩, (h.frozen (p := ⟨_, _, none⟩) hsz).trans q8, (h.frozen (p := ⟨_, _, none⟩) hsz).trans q9, (h.frozen (p := ⟨_, _, none⟩) hsz).trans q10⟩
    have HOLD := Lib.hid hhold
    have HRES := Lib.hid hres
    clear hhold hres q1 q2 q3 q4 q5 q6 q7 q8 q9 q10 xg1 xv0 xv1 xv2 xr0 xr1 xr2 fr0 fr1 fr2
    go_region_held3 (fun w' : World => w'.cell? ⟨w.heap.size, 1, none⟩ = some (.slice ad es.length cap) ∧ w'.cell? ⟨w.heap.size + 1, 0, none⟩ = some (.int .i64 m) ∧ w'.cell? ⟨w.heap.size + 1, 1, none⟩ = some (.int .i64 a) ∧ w'.cell? ⟨w.heap.size + 1, 2, none⟩ = some (.slice ad2 zs.length cap2)) (first | exact HOLD.out _ ((Below.refl _ _).drew) | exact HOLD.out _ (bel_trans ((Below.refl _ _).drew) hb2) | (refine ⟨?_, ?_, ?_, ?_⟩ <;> go_simp)) (first | (go_at_call 95; (with_reducible refine (HRV.out _ (bel_trans hbw ((Below.refl _ _).drew))).mono ?_); rintro e w2 ⟨v, rfl, hown, hok, hb2⟩; obtain ⟨va, vc, rfl⟩ := hown.slice; obtain ⟨⟨r0, r1, r2⟩, s0, s1, s2⟩ := HRES.out _ (bel_trans ((Below.refl _ _).drew) hb2); have HW := Lib.hid hown; have HOK := Lib.hid hok; clear hown hok))
    all_goals
      go_wp2
      try simp only [Exit.inBlock, Exit.then]
      refine bodyPost_ret (v := .tuple #[.agg #[.int .i64 m, .int .i64 a, .slice va L.length vc], .bool true]) ?_ rfl ?_
      · rw [results_cell_tmp rfl]
        go_simp
      have hs1 : w.heap.size + 3 ≤ w1.heap.size := by omega
      have hs2 : w1.heap.size ≤ w2.heap.size := hb2.size
      have hch : ∀ x y z, Chg (w.heap.size + 2) (w.heap.size + 3) w2 (((w2.setCell ⟨w.heap.size + 1 + 1, 0, none⟩ x).setCell ⟨w.heap.size + 1 + 1, 1, none⟩ y).setCell ⟨w.heap.size + 1 + 1, 2, none⟩ z) := fun x y z => (((Chg.refl _ _ _).setCell (by simp only; omega) (by simp only; omega) _).setCell (by simp only; omega) (by simp only; omega) _).setCell (by simp only; omega) (by simp only; omega) _
      refine ⟨_, rfl, ?_, HOK.out, bel_chg (bel_trans hbw (bel_trans ((Below.refl _ _).drew) hb2)) (hch _ _ _) (by omega)⟩
      have h1 := InR.chg (InR.wider HW.out (l := w1.heap.size) (h := w2.heap.size) (Nat.le_refl _) (Nat.le_refl _) (Nat.le_refl _)) (hch (.int .i64 m) (.int .i64 a) (.slice va L.length vc)) (.inl (by omega))
      exact h1.wider (by omega) (hch _ _ _).size (Nat.le_refl _)
end Go.Proofs.Ytlgjcofpdaljnaa
