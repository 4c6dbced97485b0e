/- Paths that share their first nodes: mathematics. No row of nodes is found twice; each is simple and ends at the target. How many first nodes two paths have in common: both. The best path that shares its first nodes with another one: the program. The best path that shares its first nodes with another one: the program's whole. The best path that shares its first nodes with another one: the model. -/
import Derived.Test.YtneapbggnnndhaaGreatSrtC
import Derived.Test.YtneapbggnnndhaaGreatBoxP
namespace Go.Proofs.YtneapbggnnndhaaGreat
set_option linter.unusedVariables false
set_option linter.unusedSimpArgs false

theorem gVal_dist {n : Int} {es : List Ed} (hg : gVal n es = true) : es.Pairwise (fun e f => e.1 = f.1 → e.2.1 ≠ f.2.1) := by
  rw [List.pairwise_iff_getElem]
  intro i j hi hj hij h1 h2
  have := gVal_sorted hg hij hj
  have e1 : es.getD i (0, 0, 0) = es[i] := by simp [List.getD, hi]
  have e2 : es.getD j (0, 0, 0) = es[j] := by simp [List.getD, hj]
  rw [e1, e2] at this
  unfold EdLt at this
  omega
theorem prefix_last {a : List Int} {x y : Int} {p : List Int} (h1 : a ++ [x] <+: p) (h2 : a ++ [y] <+: p) : x = y := by
  obtain ⟨r, hr⟩ := h1
  obtain ⟨s, hs⟩ := h2
  rw [← hs, List.append_assoc, List.append_assoc] at hr
  have := List.append_cancel_left hr
  simp at this
  exact this.1
def pGd (tgt : Int) (nodes p : List Int) : Prop := nodes <+: p ∧ p.Nodup ∧ lst p = tgt
theorem pwF_ext {m : Int} {tgt v : Int} {nodes : List Int} {rec : List Int → Int → List Pt → List Pt} (hn : nodes.Nodup)
    (hr : ∀ (t w : Int) (out : List Pt), t ∉ nodes → ∃ E, rec (nodes ++ [t]) w out = out ++ E ∧ (∀ p ∈ E, pGd tgt (nodes ++ [t]) p.1) ∧ (E.map Prod.fst).Nodup) :
    ∀ (fs : List Ed) (out : List Pt), fs.Pairwise (fun e f => e.1 = f.1 → e.2.1 ≠ f.2.1) → ∃ E, fs.foldl (pwS m nodes v rec) out = out ++ E ∧ (∀ p ∈ E, ∃ e ∈ fs, pwG nodes e = true ∧ pGd tgt (nodes ++ [e.2.1]) p.1) ∧ (E.map Prod.fst).Nodup
  | [], out, _ => ⟨[], by simp, by simp, by simp⟩
  | e :: fs, out, hp => by
    rw [List.pairwise_cons] at hp
    rw [List.foldl_cons]
    by_cases hc : out.length ≤ 400 ∧ pwG nodes e = true
    · rw [pwS_go hc.1 hc.2]
      have hg := hc.2
      unfold pwG at hg
      rw [Bool.and_eq_true] at hg
      have hfr := of_decide_eq_true hg.1
      have hnm : e.2.1 ∉ nodes := by simpa using hg.2
      obtain ⟨E1, h1, h2, h3⟩ := hr e.2.1 (mJoin m v (mEdge m e.2.2)) out hnm
      rw [h1]
      obtain ⟨E2, k1, k2, k3⟩ := pwF_ext hn hr fs (out ++ E1) hp.2
      refine ⟨E1 ++ E2, by rw [k1, List.append_assoc], fun p hpm => ?_, ?_⟩
      · rcases List.mem_append.1 hpm with h | h
        · exact ⟨e, List.mem_cons_self .., hc.2, h2 p h⟩
        · obtain ⟨e', he', x1, x2⟩ := k2 p h
          exact ⟨e', List.mem_cons_of_mem _ he', x1, x2⟩
      · rw [List.map_append, List.nodup_append]
        refine ⟨h3, k3, fun x hx y hy hxy => ?_⟩
        subst hxy
        obtain ⟨p, hp1, rfl⟩ := List.mem_map.1 hx
        obtain ⟨q, hq1, hq2⟩ := List.mem_map.1 hy
        obtain ⟨e', he', x1, x2⟩ := k2 q hq1
        have y1 := (h2 p hp1).1
        have y2 := x2.1
        rw [hq2] at y2
        have ht := prefix_last y1 y2
        unfold pwG at x1
        rw [Bool.and_eq_true] at x1
        exact hp.1 e' he' (hfr.trans (of_decide_eq_true x1.1).symm) ht
    · have e0 : pwS m nodes v rec out e = out := by unfold pwS; rw [if_neg hc]
      rw [e0]
      obtain ⟨E2, k1, k2, k3⟩ := pwF_ext hn hr fs out hp.2
      exact ⟨E2, k1, fun p hpm => by obtain ⟨e', he', x⟩ := k2 p hpm; exact ⟨e', List.mem_cons_of_mem _ he', x⟩, k3⟩
theorem pw_ext {m : Int} {es : List Ed} {tgt : Int} (hd : es.Pairwise (fun e f => e.1 = f.1 → e.2.1 ≠ f.2.1)) : ∀ (f : Nat) (nodes : List Int) (v : Int) (out : List Pt), nodes.Nodup →
    ∃ E, pw m es tgt f nodes v out = out ++ E ∧ (∀ p ∈ E, pGd tgt nodes p.1) ∧ (E.map Prod.fst).Nodup
  | 0, nodes, v, out, hn => ⟨[], by simp [pw], by simp, by simp⟩
  | f + 1, nodes, v, out, hn => by
    simp only [pw]
    split
    · rename_i hl
      refine ⟨[(nodes, v)], rfl, fun p hp => ?_, by simp⟩
      simp at hp
      subst hp
      exact ⟨List.prefix_refl _, hn, hl⟩
    · obtain ⟨E, h1, h2, h3⟩ := pwF_ext (m := m) (tgt := tgt) (v := v) (rec := pw m es tgt f) hn (fun t w out ht => pw_ext hd f (nodes ++ [t]) w out (by
        rw [List.nodup_append]
        exact ⟨hn, by simp, fun x hx y hy hxy => by simp at hy; subst hy; subst hxy; exact ht hx⟩)) es out hd
      refine ⟨E, h1, fun p hp => ?_, h3⟩
      obtain ⟨e, _, _, h4⟩ := h2 p hp
      exact ⟨(List.prefix_append _ _).trans h4.1, h4.2⟩
theorem spL_good {n m a b : Int} {es : List Ed} (hg : gVal n es = true) : (∀ p ∈ spL m es a b, p.1.Nodup ∧ lst p.1 = b) ∧ ((spL m es a b).map Prod.fst).Nodup := by
  obtain ⟨E, h1, h2, h3⟩ := pw_ext (m := m) (tgt := b) (gVal_dist hg) 13 [a] (mOne m) [] (by simp)
  unfold spL
  rw [h1, List.nil_append]
  exact ⟨fun p hp => (h2 p hp).2, h3⟩
theorem psO_good (n : Int) (es : List Ed) (m a b : Int) : (∀ p ∈ psO n es m a b, p.1.Nodup ∧ lst p.1 = b) ∧ ((psO n es m a b).map Prod.fst).Nodup := by
  cases h : spB n es m a b with
  | false => rw [psO_not h]; exact ⟨by simp, by simp⟩
  | true =>
    have hg : gVal n es = true := by
      unfold spB at h
      rw [Bool.and_eq_true] at h
      exact (onOk_parts h.1).1
    obtain ⟨h1, h2⟩ := spL_good (m := m) (a := a) (b := b) hg
    unfold psO
    rw [spR_yes h]
    exact ⟨fun p hp => h1 p (srt_mem.1 hp), ((srt_perm m _).map Prod.fst).nodup_iff.2 h2⟩
/-- How many first nodes two rows have in common. -/
def shr : List Int → List Int → Nat
  | x :: a, y :: b => if x = y then shr a b + 1 else 0
  | _, _ => 0
theorem shr_le : ∀ (a b : List Int), shr a b ≤ a.length ∧ shr a b ≤ b.length
  | [], b => by simp [shr]
  | x :: a, [] => by simp [shr]
  | x :: a, y :: b => by
    simp only [shr]
    have := shr_le a b
    split <;> simp <;> omega
theorem shr_self : ∀ (a : List Int), shr a a = a.length
  | [] => rfl
  | x :: a => by simp [shr, shr_self a]
theorem shr_pre : ∀ {a b : List Int}, shr a b = b.length → b <+: a
  | a, [], _ => List.nil_prefix
  | [], y :: b, h => by simp [shr] at h
  | x :: a, y :: b, h => by
    simp only [shr] at h
    by_cases e : x = y
    · rw [if_pos e] at h
      subst e
      have := shr_pre (a := a) (b := b) (by simpa using h)
      exact List.cons_prefix_cons.2 ⟨rfl, this⟩
    · rw [if_neg e] at h
      simp at h
theorem shr_at {a b : List Int} {k : Nat} (h1 : ∀ j, j < k → a.getD j 0 = b.getD j 0) (h2 : k ≤ a.length) (h3 : k ≤ b.length) (h4 : k < a.length → k < b.length → a.getD k 0 ≠ b.getD k 0) : shr a b = k := by
  induction a generalizing b k with
  | nil => simp at h2; subst h2; rfl
  | cons x a ih =>
    cases b with
    | nil => simp at h3; subst h3; rfl
    | cons y b =>
      cases k with
      | zero =>
        have := h4 (by simp) (by simp)
        simp [List.getD] at this
        simp only [shr]
        rw [if_neg this]
      | succ k =>
        have h0 := h1 0 (by omega)
        simp [List.getD] at h0
        subst h0
        simp only [shr, if_pos]
        rw [ih (b := b) (k := k) (fun j hj => by have := h1 (j + 1) (by omega); simpa [List.getD] using this) (by simpa using h2) (by simpa using h3) (fun h5 h6 => by have := h4 (by simpa using h5) (by simpa using h6); simpa [List.getD] using this)]
/-- A row that begins with another one, both simple and with the same last node: the same. -/
theorem same_end {a b : List Int} (hp : b <+: a) (hn : a.Nodup) (hb : 0 < b.length) (hl : lst a = lst b) : a = b := by
  obtain ⟨r, rfl⟩ := hp
  cases r with
  | nil => simp
  | cons z r =>
    exfalso
    rw [List.nodup_append] at hn
    have h1 : lst b ∈ b := by
      unfold lst
      rw [List.getD_eq_getElem?_getD, List.getElem?_eq_getElem (by omega)]
      exact List.getElem_mem _
    have h2 : lst (b ++ z :: r) ∈ z :: r := by
      unfold lst
      rw [List.getD_eq_getElem?_getD, List.getElem?_append_right (by simp)]
      rw [List.getElem?_eq_getElem (by simp)]
      exact List.getElem_mem _
    rw [hl] at h2
    exact hn.2.2 _ h1 _ h2 rfl
end Go.Proofs.YtneapbggnnndhaaGreat
namespace Go.Proofs.YtneapbggnnndhaaGreat
open Go.RowKit Go.BigFrame Go.Deep
set_option linter.unusedVariables false
set_option linter.unusedSimpArgs false
set_option linter.unnecessarySimpa false

set_option maxRecDepth 20000 in
set_option maxHeartbeats 4000000 in
theorem commonStart (x y : Int) (zs ys : List Int) (s t : Value) (w : World) (hs : Row w s zs) (ht : Row w t ys) (hl : zs.length ≤ 281474976710656) (hl2 : ys.length ≤ 281474976710656) :
    Calls Tryz.prog 33 #[.agg #[s, .int .i64 x], .agg #[t, .int .i64 y]] w fun e w' => e = .returned (.int .i64 (shr zs ys)) ∧ Below w.heap.size w w' := by
  obtain ⟨ad, c, rfl, hz0⟩ := id hs
  obtain ⟨ad2, c2, rfl, hz1⟩ := id ht
  clear hz0 hz1
  have hb0 : Below w.heap.size w ((w.alloc (.cells #[.slice ad zs.length c, .int .i64 x] 30)).alloc (.cells #[.slice ad2 ys.length c2, .int .i64 y] 30)) := ((Below.refl _ _).alloc (Nat.le_refl _) _).alloc (by simp) _
  have hx1 := (Box.new w 30 #[.slice ad zs.length c, .int .i64 x]).alloc (.cells #[.slice ad2 ys.length c2, .int .i64 y] 30)
  have hx2 := Box.new (w.alloc (.cells #[.slice ad zs.length c, .int .i64 x] 30)) 30 #[.slice ad2 ys.length c2, .int .i64 y]
  rw [show (w.alloc (.cells #[.slice ad zs.length c, .int .i64 x] 30)).heap.size = w.heap.size + 1 by simp] at hx2
  have HB0 := Lib.hid hb0
  have HX1 := Lib.hid hx1
  have HX2 := Lib.hid hx2
  have HS := Lib.hid hs
  have HT := Lib.hid ht
  clear hb0 hx1 hx2 hs ht
  go_enter Tryz.func33, Tryz.ntmps33
  go_wp2_with fail
  go_loopw [5] (fun cc wr => ∃ k : Nat, k ≤ zs.length ∧ k ≤ ys.length ∧ cc = .int .i64 k ∧ Hid (Below w.heap.size w wr ∧ Box wr w.heap.size 30 #[.slice ad zs.length c, .int .i64 x] ∧ Box wr (w.heap.size + 1) 30 #[.slice ad2 ys.length c2, .int .i64 y] ∧ ∀ j, j < k → zs.getD j 0 = ys.getD j 0)) (fun cc _ => zs.length - (intOf cc).toNat)
  case atStart => exact ⟨0, Nat.zero_le _, Nat.zero_le _, rfl, Lib.hid ⟨HB0.out, HX1.out, HX2.out, fun j hj => absurd hj (Nat.not_lt_zero _)⟩⟩
  case round =>
    obtain ⟨k, hk1, hk2, rfl, HR⟩ := hrel
    by_cases hlt : k < zs.length ∧ k < ys.length
    · obtain ⟨h1, h2⟩ := hlt
      obtain ⟨b1, o1, c1, hse1, hb1, hc1⟩ := HS.out.at h1
      obtain ⟨b2, o2, c2', hse2, hb2, hc2⟩ := HT.out.at h2
      injection hse1 with hsa1 _ hsc1
      injection hse2 with hsa2 _ hsc2
      subst hsa1 hsa2 hsc1 hsc2
      have hcx := hc1 k h1
      have hcy := hc2 k h2
      have d1 : decide ((k : Int) < min (zs.length : Int) (ys.length : Int)) = true := decide_eq_true (by omega)
      have d2 : (k : Int) < min (zs.length : Int) (ys.length : Int) := by omega
      have q1 : ¬ ((k : Int) < 0) := by omega
      have q2 : ¬ ((zs.length : Int) ≤ k) := by omega
      have q3 : ¬ ((ys.length : Int) ≤ k) := by omega
      have q4 : (k : Int) < zs.length := by omega
      have q5 : (k : Int) < ys.length := by omega
      have FF : Hid (∀ w', Below wr.heap.size wr w' → w'.cell? ⟨w.heap.size, 0, none⟩ = some (.slice (some ⟨b1, o1, none⟩) zs.length c) ∧ w'.cell? ⟨w.heap.size, 1, none⟩ = some (.int .i64 x) ∧ w'.cell? ⟨w.heap.size + 1, 0, none⟩ = some (.slice (some ⟨b2, o2, none⟩) ys.length c2) ∧ w'.cell? ⟨w.heap.size + 1, 1, none⟩ = some (.int .i64 y) ∧ w'.cell? ⟨b1, o1 + k, none⟩ = some (.int .i64 (zs.getD k 0)) ∧ w'.cell? ⟨b2, o2 + k, none⟩ = some (.int .i64 (ys.getD k 0))) := Lib.hid (fun w' h => by
        have hB := bel_trans HR.out.1 h
        have e1 := HR.out.2.1.keep h
        have e2 := HR.out.2.2.1.keep h
        exact ⟨by simpa using e1.cell 0, by simpa using e1.cell 1, by simpa using e2.cell 0, by simpa using e2.cell 1, (hB.cell (p := ⟨b1, _, none⟩) hb1).trans hcx, (hB.cell (p := ⟨b2, _, none⟩) hb2).trans hcy⟩)
      have HXY : Hid (∀ j, j < k → zs.getD j 0 = ys.getD j 0) := Lib.hid HR.out.2.2.2
      clear hcx hcy hc1 hc2
      by_cases he : zs.getD k 0 = ys.getD k 0
      · have HE := Lib.hid he
        rw [← he] at FF
        generalize zs.getD k 0 = X at FF
        clear he
        go_wp2_with fail
        refine wp_region_below (by kernel_rfl) (by kernel_rfl) ?_
        repeat (go_big_quiet_step ((intro hw; first | with_reducible rfl | (obtain ⟨f0, f1, f2, f3, f4, f5⟩ := FF.out _ hw; simp only [f0, f1, f2, f3, f4, f5, Result.andThen]; first | exact ⟨trivial, rfl⟩ | exact ⟨rfl, rfl⟩))))
        refine wpQuiet_nil ?_
        intro w5 hw5
        go_wp2
        refine ⟨⟨k + 1, by omega, by omega, rfl, Lib.hid ⟨bel_trans HR.out.1 hw5, HR.out.2.1.keep hw5, HR.out.2.2.1.keep hw5, fun j hj => ?_⟩⟩, ?_⟩
        · by_cases e : j = k
          · rw [e]; exact HE.out
          · exact HXY.out j (by omega)
        · show zs.length - ((k : Int) + 1).toNat < zs.length - (k : Int).toNat
          omega
      · have hsh : shr zs ys = k := shr_at HXY.out hk1 hk2 (fun _ _ => he)
        have HSH := Lib.hid hsh
        have b1' : ((zs.getD k 0 : Int) == ys.getD k 0) = false := by rw [beq_eq_false_iff_ne]; exact he
        have b2' : decide ((zs.getD k 0 : Int) = ys.getD k 0) = false := decide_eq_false he
        generalize zs.getD k 0 = X at *
        generalize ys.getD k 0 = Y at *
        clear hsh
        go_wp2_with fail
        refine wp_region_below (by kernel_rfl) (by kernel_rfl) ?_
        repeat (go_big_quiet_step ((intro hw; first | with_reducible rfl | (obtain ⟨f0, f1, f2, f3, f4, f5⟩ := FF.out _ hw; simp only [f0, f1, f2, f3, f4, f5, Result.andThen]; first | exact ⟨trivial, rfl⟩ | exact ⟨rfl, rfl⟩))))
        refine wpQuiet_nil ?_
        intro w5 hw5
        go_wp2
        go_ret
        exact ⟨by rw [HSH.out]; rfl, bel_trans HR.out.1 hw5⟩
    · have d1 : decide ((k : Int) < min (zs.length : Int) (ys.length : Int)) = false := decide_eq_false (by omega)
      have d2 : ¬ ((k : Int) < min (zs.length : Int) (ys.length : Int)) := by omega
      have hsh : shr zs ys = k := shr_at HR.out.2.2.2 hk1 hk2 (fun h3 h4 => absurd ⟨h3, h4⟩ hlt)
      have HSH := Lib.hid hsh
      clear hsh hlt
      have FF : Hid (∀ w', Below wr.heap.size wr w' → w'.cell? ⟨w.heap.size, 0, none⟩ = some (.slice ad zs.length c) ∧ w'.cell? ⟨w.heap.size, 1, none⟩ = some (.int .i64 x) ∧ w'.cell? ⟨w.heap.size + 1, 0, none⟩ = some (.slice ad2 ys.length c2) ∧ w'.cell? ⟨w.heap.size + 1, 1, none⟩ = some (.int .i64 y) ∧ True ∧ True) := Lib.hid (fun w' h => by
        have e1 := HR.out.2.1.keep h
        have e2 := HR.out.2.2.1.keep h
        exact ⟨by simpa using e1.cell 0, by simpa using e1.cell 1, by simpa using e2.cell 0, by simpa using e2.cell 1, trivial, trivial⟩)
      go_wp2_with fail
      refine wp_region_below (by kernel_rfl) (by kernel_rfl) ?_
      repeat (go_big_quiet_step ((intro hw; first | with_reducible rfl | (obtain ⟨f0, f1, f2, f3, -, -⟩ := FF.out _ hw; simp only [f0, f1, f2, f3, Result.andThen]; first | exact ⟨trivial, rfl⟩ | exact ⟨rfl, rfl⟩))))
      refine wpQuiet_nil ?_
      intro w5 hw5
      go_wp2
      go_ret
      exact ⟨by rw [HSH.out]; rfl, bel_trans HR.out.1 hw5⟩

set_option maxRecDepth 20000 in
set_option maxHeartbeats 4000000 in
theorem l11Shares (zs ys : List Int) (s t : Value) (w : World) (hs : Row w s zs) (ht : Row w t ys) (hl : zs.length ≤ 281474976710656) (hl2 : ys.length ≤ 281474976710656) :
    Calls Tryz.prog 30 #[s, t] w fun e w' => e = .returned (.int .i64 (shr zs ys)) ∧ Below w.heap.size w w' := by
  obtain ⟨ad, c, rfl, hz0⟩ := id hs
  obtain ⟨ad2, c2, rfl, hz1⟩ := id ht
  clear hz0 hz1
  have HS := Lib.hid hs
  have HT := Lib.hid ht
  have HI := Lib.hid (Below.refl w.heap.size w)
  clear hs ht
  go_enter Tryz.func30, Tryz.ntmps30
  go_wp2_with fail
  go_loopw [5] (fun cc wr => ∃ k : Nat, k ≤ zs.length ∧ k ≤ ys.length ∧ cc = .int .i64 k ∧ Hid (Below w.heap.size w wr ∧ ∀ j, j < k → zs.getD j 0 = ys.getD j 0)) (fun cc _ => zs.length - (intOf cc).toNat)
  case atStart => exact ⟨0, Nat.zero_le _, Nat.zero_le _, rfl, Lib.hid ⟨HI.out, fun j hj => absurd hj (Nat.not_lt_zero _)⟩⟩
  case round =>
    obtain ⟨k, hk1, hk2, rfl, HR⟩ := hrel
    by_cases h1 : k < zs.length
    · have d1 : decide ((k : Int) < (zs.length : Int)) = true := decide_eq_true (by omega)
      by_cases h2 : k < ys.length
      · obtain ⟨b1, o1, c1, hse1, hb1, hc1⟩ := HS.out.at h1
        obtain ⟨b2, o2, c2', hse2, hb2, hc2⟩ := HT.out.at h2
        injection hse1 with hsa1 _ hsc1
        injection hse2 with hsa2 _ hsc2
        subst hsa1 hsa2 hsc1 hsc2
        have hcx := hc1 k h1
        have hcy := hc2 k h2
        have d2 : decide ((k : Int) < (ys.length : Int)) = true := decide_eq_true (by omega)
        have q1 : ¬ ((k : Int) < 0) := by omega
        have q2 : ¬ ((zs.length : Int) ≤ k) := by omega
        have q3 : ¬ ((ys.length : Int) ≤ k) := by omega
        have q4 : (k : Int) < zs.length := by omega
        have q5 : (k : Int) < ys.length := by omega
        have FF : Hid (∀ w', Below wr.heap.size wr w' → w'.cell? ⟨b1, o1 + k, none⟩ = some (.int .i64 (zs.getD k 0)) ∧ w'.cell? ⟨b2, o2 + k, none⟩ = some (.int .i64 (ys.getD k 0))) := Lib.hid (fun w' h => by
          have hB := bel_trans HR.out.1 h
          exact ⟨(hB.cell (p := ⟨b1, _, none⟩) hb1).trans hcx, (hB.cell (p := ⟨b2, _, none⟩) hb2).trans hcy⟩)
        have HXY : Hid (∀ j, j < k → zs.getD j 0 = ys.getD j 0) := Lib.hid HR.out.2
        clear hcx hcy hc1 hc2
        by_cases he : zs.getD k 0 = ys.getD k 0
        · have HE := Lib.hid he
          rw [← he] at FF
          generalize zs.getD k 0 = X at FF
          clear he
          go_wp2_with fail
          refine wp_region_below (by kernel_rfl) (by kernel_rfl) ?_
          repeat (go_big_quiet_step ((intro hw; first | with_reducible rfl | (obtain ⟨f0, f1⟩ := FF.out _ hw; simp only [f0, f1, Result.andThen]; first | exact ⟨trivial, rfl⟩ | exact ⟨rfl, rfl⟩))))
          refine wpQuiet_nil ?_
          intro w5 hw5
          go_wp2
          refine ⟨⟨k + 1, by omega, by omega, rfl, Lib.hid ⟨bel_trans HR.out.1 hw5, fun j hj => ?_⟩⟩, ?_⟩
          · by_cases e : j = k
            · rw [e]; exact HE.out
            · exact HXY.out j (by omega)
          · show zs.length - ((k : Int) + 1).toNat < zs.length - (k : Int).toNat
            omega
        · have HSH : Hid (shr zs ys = k) := Lib.hid (shr_at HXY.out hk1 hk2 (fun _ _ => he))
          have b1' : ((zs.getD k 0 : Int) == ys.getD k 0) = false := by rw [beq_eq_false_iff_ne]; exact he
          have b2' : decide ((zs.getD k 0 : Int) = ys.getD k 0) = false := decide_eq_false he
          generalize zs.getD k 0 = X at *
          generalize ys.getD k 0 = Y at *
          go_wp2_with fail
          refine wp_region_below (by kernel_rfl) (by kernel_rfl) ?_
          repeat (go_big_quiet_step ((intro hw; first | with_reducible rfl | (obtain ⟨f0, f1⟩ := FF.out _ hw; simp only [f0, f1, Result.andThen]; first | exact ⟨trivial, rfl⟩ | exact ⟨rfl, rfl⟩))))
          refine wpQuiet_nil ?_
          intro w5 hw5
          go_wp2
          go_ret
          exact ⟨by rw [HSH.out]; rfl, bel_trans HR.out.1 hw5⟩
      · have d2 : decide ((k : Int) < (ys.length : Int)) = false := decide_eq_false (by omega)
        have HSH : Hid (shr zs ys = k) := Lib.hid (shr_at HR.out.2 hk1 hk2 (fun _ h4 => absurd h4 h2))
        have n1 : ¬ ((k : Int) < (ys.length : Int)) := by omega
        have n2 : (k : Int) < (zs.length : Int) := by omega
        have dn : decide (k < ys.length) = false := decide_eq_false h2
        clear h2
        go_wp2_with fail
        refine wp_region_below (by kernel_rfl) (by kernel_rfl) ?_
        repeat (go_big_quiet_step ((intro hw; first | with_reducible rfl)))
        refine wpQuiet_nil ?_
        intro w5 hw5
        go_wp2
        go_ret
        exact ⟨by rw [HSH.out]; rfl, bel_trans HR.out.1 hw5⟩
    · have d1 : decide ((k : Int) < (zs.length : Int)) = false := decide_eq_false (by omega)
      have HSH : Hid (shr zs ys = k) := Lib.hid (shr_at HR.out.2 hk1 hk2 (fun h3 _ => absurd h3 h1))
      have n1 : ¬ ((k : Int) < (zs.length : Int)) := by omega
      have dn : decide (k < zs.length) = false := decide_eq_false h1
      clear h1
      go_wp2_with fail
      refine wp_region_below (by kernel_rfl) (by kernel_rfl) ?_
      repeat (go_big_quiet_step ((intro hw; first | with_reducible rfl)))
      refine wpQuiet_nil ?_
      intro w5 hw5
      go_wp2
      go_ret
      exact ⟨by rw [HSH.out]; rfl, bel_trans HR.out.1 hw5⟩
end Go.Proofs.YtneapbggnnndhaaGreat
namespace Go.Proofs.YtneapbggnnndhaaGreat
open Go.RowKit Go.BigFrame Go.Deep
set_option linter.unusedVariables false
set_option linter.unusedSimpArgs false
set_option linter.unnecessarySimpa false

def eqS (ys : List Int) (sh : Int) (q : Pt) : Bool := decide ((shr q.1 ys : Int) = sh + 1)
/-- Where a path comes first that shares so many nodes, or -1. -/
def plS (ps : List Pt) (ys : List Int) (sh : Int) : Int := if ps.findIdx (fun q => eqS ys sh q) < ps.length then ((ps.findIdx (fun q => eqS ys sh q) : Nat) : Int) else -1
theorem plS_hit {qs : List PP} {ys : List Int} {sh : Int} {k : Nat} (hk : k < qs.length) (h : eqS ys sh (fQ qs k) = true) (hn : ∀ j, j < k → eqS ys sh (fQ qs j) = false) : plS (qs.map PP.p) ys sh = k := by
  have hk' : k < (qs.map PP.p).length := by simpa using hk
  have e : (qs.map PP.p).findIdx (fun q => eqS ys sh q) = k := by
    rw [List.findIdx_eq hk']
    refine ⟨by rw [fQ_at hk]; exact h, fun j hj => ?_⟩
    rw [fQ_at (by omega)]
    exact hn j hj
  unfold plS
  rw [e, if_pos hk']
theorem plS_none {qs : List PP} {ys : List Int} {sh : Int} (hn : ∀ j, j < qs.length → eqS ys sh (fQ qs j) = false) : plS (qs.map PP.p) ys sh = -1 := by
  have e : (qs.map PP.p).findIdx (fun q => eqS ys sh q) = (qs.map PP.p).length := by
    rw [List.findIdx_eq_length]
    intro x hx
    obtain ⟨j, hj, rfl⟩ := List.getElem_of_mem hx
    rw [List.length_map] at hj
    have := hn j hj
    rw [← fQ_at hj] at this
    simpa using this
  unfold plS
  rw [e, if_neg (by omega)]
theorem plS_nil (ys : List Int) (sh : Int) : plS [] ys sh = -1 := by simp [plS]
theorem plS_range (ps : List Pt) (ys : List Int) (sh : Int) : plS ps ys sh = -1 ∨ (0 ≤ plS ps ys sh ∧ (plS ps ys sh).toNat < ps.length) := by
  unfold plS
  split
  · right
    omega
  · exact .inl rfl

set_option maxRecDepth 20000 in
set_option maxHeartbeats 2000000 in
theorem shareClosure (x y sh : Int) (zs ys : List Int) (s : Value) (ad2 : Option Addr) (c2 : Nat) (B C : Nat) (w : World) (hB0 : w.cell? ⟨B, 0, none⟩ = some (.slice ad2 ys.length c2)) (hB1 : w.cell? ⟨B, 1, none⟩ = some (.int .i64 y)) (hBl : B < w.heap.size) (hC0 : w.cell? ⟨C, 0, none⟩ = some (.int .i64 sh)) (hCl : C < w.heap.size) (hs : Row w s zs) (ht : Row w (.slice ad2 ys.length c2) ys) (hl : zs.length ≤ 281474976710656) (hl2 : ys.length ≤ 281474976710656) (h0 : 0 ≤ sh) (h1 : sh ≤ 281474976710656) :
    Calls Tryz.prog 32 #[.agg #[s, .int .i64 x], .pointer (some ⟨B, 0, none⟩), .pointer (some ⟨C, 0, none⟩)] w fun e w' => e = .returned (.bool (eqS ys sh (zs, x))) ∧ Below w.heap.size w w' := by
  obtain ⟨ad, c, rfl, hz0⟩ := id hs
  clear hz0
  have hb0 : Below w.heap.size w (w.alloc (.cells #[.slice ad zs.length c, .int .i64 x] 30)) := (Below.refl _ _).alloc (Nat.le_refl _) _
  have hcp := fun w' (h : Below w.heap.size w w') => commonStart x y zs ys (.slice ad zs.length c) (.slice ad2 ys.length c2) w' (hs.keep h) (ht.keep h) hl hl2
  have hx := Box.new w 30 #[.slice ad zs.length c, .int .i64 x]
  have hld := fun w' (h : Below w.heap.size w w') => And.intro ((h.cell (p := ⟨B, 0, none⟩) hBl).trans hB0) (And.intro ((h.cell (p := ⟨B, 1, none⟩) hBl).trans hB1) ((h.cell (p := ⟨C, 0, none⟩) hCl).trans hC0))
  have qw : IntKind.i64.wrap (sh + 1) = sh + 1 := by rw [IntKind.wrap_i64]; omega
  have e0 : eqS ys sh (zs, x) = decide ((shr zs ys : Int) = sh + 1) := rfl
  have e1 : ((shr zs ys : Int) == sh + 1) = decide ((shr zs ys : Int) = sh + 1) := by by_cases h : (shr zs ys : Int) = sh + 1 <;> simp [h]
  rw [e0]
  generalize (shr zs ys : Int) = SH at hcp e1 ⊢
  have HB0 := Lib.hid hb0
  have HCP := Lib.hid hcp
  have HX := Lib.hid hx
  have HLD := Lib.hid hld
  have HE1 := Lib.hid e1
  clear hcp hs ht hb0 hB0 hB1 hC0 hx hld e0 e1
  cases hD : decide (SH = sh + 1)
  all_goals
    have hD2 : (SH == sh + 1) = decide (SH = sh + 1) := HE1.out
    rw [hD] at hD2
    have hD3 : SH = sh + 1 ∨ ¬ SH = sh + 1 := Decidable.em _
    have HD := Lib.hid hD
    go_enter Tryz.func32, Tryz.ntmps32
    go_wp2_with fail
    generalize (w.alloc (.cells #[.slice ad zs.length c, .int .i64 x] 30)) = w1 at HB0 HX ⊢
    have FF : Hid (∀ w', Below w1.heap.size w1 w' → w'.cell? ⟨w.heap.size, 0, none⟩ = some (.slice ad zs.length c) ∧ w'.cell? ⟨w.heap.size, 1, none⟩ = some (.int .i64 x) ∧ w'.cell? ⟨B, 0, none⟩ = some (.slice ad2 ys.length c2) ∧ w'.cell? ⟨B, 1, none⟩ = some (.int .i64 y) ∧ w'.cell? ⟨C, 0, none⟩ = some (.int .i64 sh)) := Lib.hid (fun w' h => by
      have hk := HX.out.keep h
      have hl := HLD.out w' (bel_trans HB0.out h)
      exact ⟨by simpa using hk.cell 0, by simpa using hk.cell 1, hl.1, hl.2.1, hl.2.2⟩)
    refine wp_region_below (by kernel_rfl) (by kernel_rfl) ?_
    repeat (go_big_quiet_step ((intro hw; first | with_reducible rfl | (obtain ⟨f0, f1, f2, f3, f4⟩ := FF.out _ hw; simp only [f0, f1, f2, f3, f4, Result.andThen]; first | exact ⟨trivial, rfl⟩ | exact ⟨rfl, rfl⟩) | (with_reducible exact quietB (HCP.out _ (bel_trans HB0.out hw)) hw))))
    refine wpQuiet_nil ?_
    intro w5 hw5
    go_wp2
    go_ret
    exact ⟨rfl, bel_trans HB0.out hw5⟩

set_option maxRecDepth 20000 in
set_option maxHeartbeats 4000000 in
theorem indexShares (qs : List PP) (v : Value) (base : Nat) (y sh : Int) (ys : List Int) (ad2 : Option Addr) (c2 B C : Nat) (w : World) (hP : Pths w base v qs) (hB0 : w.cell? ⟨B, 0, none⟩ = some (.slice ad2 ys.length c2)) (hB1 : w.cell? ⟨B, 1, none⟩ = some (.int .i64 y)) (hBl : B < w.heap.size) (hC0 : w.cell? ⟨C, 0, none⟩ = some (.int .i64 sh)) (hCl : C < w.heap.size) (h0 : 0 ≤ sh) (h1 : sh ≤ 281474976710656) (ht : Row w (.slice ad2 ys.length c2) ys) (hl : ∀ q ∈ qs, q.zs.length ≤ 1000) (hl2 : ys.length ≤ 281474976710656) (hn : qs.length ≤ 400) :
    Calls Tryz.prog 31 #[v, .func (.func 32) #[] #[.pointer (some ⟨B, 0, none⟩), .pointer (some ⟨C, 0, none⟩)]] w fun e w' => e = .returned (.int .i64 (plS (qs.map PP.p) ys sh)) ∧ Below w.heap.size w w' := by
  have hcl := fun (q : PP) (hq : q ∈ qs) w' (h : Below w.heap.size w w') => shareClosure q.x y sh q.zs ys q.v ad2 c2 B C w' ((h.cell (p := ⟨B, 0, none⟩) hBl).trans hB0) ((h.cell (p := ⟨B, 1, none⟩) hBl).trans hB1) (Nat.lt_of_lt_of_le hBl h.size) ((h.cell (p := ⟨C, 0, none⟩) hCl).trans hC0) (Nat.lt_of_lt_of_le hCl h.size) ((own_row (hP.row q hq).1).keep h) (ht.keep h) (by have := hl q hq; omega) hl2 h0 h1
  have HCL := Lib.hid hcl
  rcases hP.own.2 with ⟨hv, hn0⟩ | ⟨g, cap, cur, hv, hbg, hhg, hcap, -⟩
  · subst hv
    have hq0 : qs = [] := List.length_eq_zero_iff.1 hn0
    subst hq0
    rw [show plS (List.map PP.p []) ys sh = -1 from plS_nil _ _]
    clear hcl HCL hP hB0 hB1 hC0 ht hl
    go_enter Tryz.func31, Tryz.ntmps31
    go_wp2
    go_loopw [8] (fun c wr => c = .int .i64 0 ∧ wr = w) (fun c _ => 0)
    case atStart => exact ⟨rfl, rfl⟩
    case round =>
      obtain ⟨rfl, rfl⟩ := hrel
      go_wp2
      go_ret
      exact ⟨rfl, Below.refl _ _⟩
  subst hv
  have hgl := (Array.getElem?_eq_some_iff.1 hhg).1
  have HPP := Lib.hid hP
  have HI : Hid (Below w.heap.size w w) := Lib.hid (Below.refl _ _)
  clear hcl hP hB0 hB1 hC0 ht hl hhg
  go_enter Tryz.func31, Tryz.ntmps31
  go_wp2
  go_loopw [8] (fun c wr => ∃ k : Nat, k ≤ qs.length ∧ c = .int .i64 k ∧ Hid (Below w.heap.size w wr ∧ ∀ j, j < k → eqS ys sh (fQ qs j) = false)) (fun c _ => qs.length - (intOf c).toNat)
  case atStart => exact ⟨0, Nat.zero_le _, rfl, Lib.hid ⟨Below.refl _ _, fun j hj => absurd hj (Nat.not_lt_zero _)⟩⟩
  case round =>
    obtain ⟨k, hk, rfl, HR⟩ := hrel
    by_cases hlt : k < qs.length
    · have hlt' : (k : Int) < qs.length := by omega
      have hc := cellsP_get (HPP.out.keep HR.out.1) hlt
      obtain ⟨hc0, hc1⟩ := hc
      have hcall := HCL.out _ (getD_memP hlt) wr HR.out.1
      have hF : (qs.getD k ppZ).p = fQ qs k := rfl
      obtain ⟨a1, s1, e1⟩ := own_slice (HPP.out.row _ (getD_memP hlt)).1
      have hE : eqS ys sh ((qs.getD k ppZ).zs, (qs.getD k ppZ).x) = eqS ys sh (fQ qs k) := rfl
      rw [hE] at hcall
      generalize qs.getD k ppZ = P1 at hc0 hc1 hcall e1 hF hE
      rw [e1] at hc0 hcall
      clear hF hE e1
      cases hL : eqS ys sh (fQ qs k)
      · rw [hL] at hcall
        have HC := Lib.hid hcall
        have HL1 := Lib.hid hL
        clear hcall hL
        go_wp2_with fail
        refine HC.out.mono ?_
        rintro e w' ⟨rfl, hb'⟩
        go_wp2
        refine ⟨⟨k + 1, by omega, rfl, Lib.hid ⟨bel_trans HR.out.1 hb', fun j hj => ?_⟩⟩, ?_⟩
        · by_cases e : j = k
          · rw [e]; exact HL1.out
          · exact HR.out.2 j (by omega)
        · show qs.length - ((k : Int) + 1).toNat < qs.length - (k : Int).toNat
          omega
      · rw [hL] at hcall
        have HC := Lib.hid hcall
        have HL1 := Lib.hid hL
        clear hcall hL
        go_wp2_with fail
        refine HC.out.mono ?_
        rintro e w' ⟨rfl, hb'⟩
        go_wp2
        go_ret
        exact ⟨by rw [plS_hit hlt HL1.out HR.out.2]; rfl, bel_trans HR.out.1 hb'⟩
    · have hge : k = qs.length := by omega
      subst hge
      go_wp2
      go_ret
      exact ⟨by rw [plS_none HR.out.2]; rfl, HR.out.1⟩
end Go.Proofs.YtneapbggnnndhaaGreat
namespace Go.Proofs.YtneapbggnnndhaaGreat
open Go.RowKit Go.BigFrame Go.Deep
set_option linter.unusedVariables false
set_option linter.unusedSimpArgs false
set_option linter.unnecessarySimpa false

def dtB (n : Int) (es : List Ed) (m : Int) (ys : List Int) (y sh : Int) : Bool := prB n es m ys y && (decide (0 ≤ sh) && (decide (sh < (ys.length : Int) - 1) && decide (0 ≤ plS (prL n es m ys) ys sh)))
def dtP (n : Int) (es : List Ed) (m : Int) (ys : List Int) (y sh : Int) : Pt := if dtB n es m ys y sh then (prL n es m ys).getD (plS (prL n es m ys) ys sh).toNat ([], 0) else ([], 0)
theorem dtP_len (n : Int) (es : List Ed) (m : Int) (ys : List Int) (y sh : Int) : (dtP n es m ys y sh).1.length ≤ 13 := by
  unfold dtP
  split
  · rw [List.getD_eq_getElem?_getD]
    cases h : (prL n es m ys)[(plS (prL n es m ys) ys sh).toNat]? with
    | none => simp
    | some p => exact (prL_mem (List.mem_of_getElem? h)).1
  · simp

set_option maxRecDepth 20000 in
set_option maxHeartbeats 8000000 in
theorem detourOf (n m y sh : Int) (es : List Ed) (ys : List Int) (s t : Value) (w : World) (hs : RowE w s es) (ht : Row w t ys) (hok : okS s) (hl : es.length ≤ 1048576) (hl2 : ys.length ≤ 1048576) :
    Calls Tryz.prog 17 #[.agg #[.int .i64 n, s], .int .i64 m, .agg #[t, .int .i64 y], .int .i64 sh] w (OnePost w (dtP n es m ys y sh) (dtB n es m ys y sh)) := by
  obtain ⟨ad, cap, rfl, hz0⟩ := id hs
  obtain ⟨ad2, c2, rfl, hz1⟩ := id ht
  clear hz0 hz1
  have hb0 : Below w.heap.size w ((((w.alloc (.cells #[.int .i64 n, .slice ad es.length cap] 35)).alloc (.cells #[.slice ad2 ys.length c2, .int .i64 y] 30)).alloc (.cells #[.int .i64 sh] 3)).alloc (.cells #[.slice none 0 0, .int .i64 0] 30)) := ((((Below.refl _ _).alloc (Nat.le_refl _) _).alloc (by simp) _).alloc (by simp; omega) _).alloc (by simp; omega) _
  have hxp := ((Box.new (w.alloc (.cells #[.int .i64 n, .slice ad es.length cap] 35)) 30 #[.slice ad2 ys.length c2, .int .i64 y]).alloc (.cells #[.int .i64 sh] 3)).alloc (.cells #[.slice none 0 0, .int .i64 0] 30)
  have hxs := (Box.new ((w.alloc (.cells #[.int .i64 n, .slice ad es.length cap] 35)).alloc (.cells #[.slice ad2 ys.length c2, .int .i64 y] 30)) 3 #[.int .i64 sh]).alloc (.cells #[.slice none 0 0, .int .i64 0] 30)
  have hxr := Box.new (((w.alloc (.cells #[.int .i64 n, .slice ad es.length cap] 35)).alloc (.cells #[.slice ad2 ys.length c2, .int .i64 y] 30)).alloc (.cells #[.int .i64 sh] 3)) 30 #[.slice none 0 0, .int .i64 0]
  rw [show (w.alloc (.cells #[.int .i64 n, .slice ad es.length cap] 35)).heap.size = w.heap.size + 1 by simp] at hxp
  rw [show ((w.alloc (.cells #[.int .i64 n, .slice ad es.length cap] 35)).alloc (.cells #[.slice ad2 ys.length c2, .int .i64 y] 30)).heap.size = w.heap.size + 1 + 1 by simp] at hxs
  rw [show (((w.alloc (.cells #[.int .i64 n, .slice ad es.length cap] 35)).alloc (.cells #[.slice ad2 ys.length c2, .int .i64 y] 30)).alloc (.cells #[.int .i64 sh] 3)).heap.size = w.heap.size + 1 + 1 + 1 by simp] at hxr
  have hpa := fun w' (h : Below w.heap.size w w') => pathsAround n m y es ys (.slice ad es.length cap) (.slice ad2 ys.length c2) w' (hs.keep h) (ht.keep h) hok hl (by omega)
  have hL4 := prL_len n es m ys
  have hLm := fun p (h : p ∈ prL n es m ys) => (prL_mem h).1
  have eP : dtP n es m ys y sh = if dtB n es m ys y sh then (prL n es m ys).getD (plS (prL n es m ys) ys sh).toNat ([], 0) else ([], 0) := rfl
  have eN : dtB n es m ys y sh = (prB n es m ys y && (decide (0 ≤ sh) && (decide (sh < (ys.length : Int) - 1) && decide (0 ≤ plS (prL n es m ys) ys sh)))) := rfl
  generalize prL n es m ys = L at *
  generalize prI n es m ys y = I at *
  generalize prB n es m ys y = B at *
  generalize dtP n es m ys y sh = P at *
  generalize dtB n es m ys y sh = N at *
  have HB0 := Lib.hid hb0
  have HXP := Lib.hid hxp
  have HXS := Lib.hid hxs
  have HXR := Lib.hid hxr
  have HT := Lib.hid ht
  have HPA := Lib.hid hpa
  have HLM := Lib.hid hLm
  clear hb0 hxp hxs hxr hpa hs ht hok hLm
  cases B
  · have hN : N = false := by rw [eN]; rfl
    have hP : P = ([], 0) := by rw [eP, hN]; rfl
    subst hN hP
    clear eN eP
    go_enter Tryz.func17, Tryz.ntmps17
    go_wp2_with fail
    generalize ((((w.alloc (.cells #[.int .i64 n, .slice ad es.length cap] 35)).alloc (.cells #[.slice ad2 ys.length c2, .int .i64 y] 30)).alloc (.cells #[.int .i64 sh] 3)).alloc (.cells #[.slice none 0 0, .int .i64 0] 30)) = w0 at HB0 HXP HXS HXR ⊢
    refine (HPA.out _ HB0.out).mono ?_
    rintro e w1 ⟨v, i, qs, rfl, hp, hi, hb1⟩
    have hr := HXR.out.keep hb1
    have x0 := hr.cell 0
    have x1 := hr.cell 1
    have s0 := hr.frozen 0
    have s1 := hr.frozen 1
    have hrp := HXP.out.keep hb1
    have y0 := hrp.cell 0
    have hrs := HXS.out.keep hb1
    have z0 := hrs.cell 0
    simp only [List.getElem?_toArray, List.getElem?_cons_succ, List.getElem?_cons_zero] at x0 x1 y0 z0
    have H1 := Lib.hid (bel_trans HB0.out hb1)
    clear hp hi hb1 hr hrp hrs
    go_wp2
    try simp only [Exit.inBlock, Exit.then]
    refine bodyPost_ret (v := .tuple #[.agg #[.slice none 0 0, .int .i64 0], .bool false]) ?_ rfl ?_
    · rw [results_cell_tmp rfl]
      go_simp
    exact OnePost.nil ((H1.out.setCell (by show w.heap.size ≤ w.heap.size + 1 + 1 + 1; omega) _).setCell (by show w.heap.size ≤ w.heap.size + 1 + 1 + 1; omega) _)
  · by_cases h1 : sh < 0
    · have d1 : decide (sh < 0) = true := decide_eq_true h1
      have hN : N = false := by rw [eN]; rw [decide_eq_false (show ¬ 0 ≤ sh by omega)]; rfl
      have hP : P = ([], 0) := by rw [eP, hN]; rfl
      subst hN hP
      clear eN eP
      go_enter Tryz.func17, Tryz.ntmps17
      go_wp2_with fail
      generalize ((((w.alloc (.cells #[.int .i64 n, .slice ad es.length cap] 35)).alloc (.cells #[.slice ad2 ys.length c2, .int .i64 y] 30)).alloc (.cells #[.int .i64 sh] 3)).alloc (.cells #[.slice none 0 0, .int .i64 0] 30)) = w0 at HB0 HXP HXS HXR ⊢
      refine (HPA.out _ HB0.out).mono ?_
      rintro e w1 ⟨v, i, qs, rfl, hp, hi, hb1⟩
      have hr := HXR.out.keep hb1
      have x0 := hr.cell 0
      have x1 := hr.cell 1
      have s0 := hr.frozen 0
      have s1 := hr.frozen 1
      have hrp := HXP.out.keep hb1
      have y0 := hrp.cell 0
      have hrs := HXS.out.keep hb1
      have z0 := hrs.cell 0
      simp only [List.getElem?_toArray, List.getElem?_cons_succ, List.getElem?_cons_zero] at x0 x1 y0 z0
      have H1 := Lib.hid (bel_trans HB0.out hb1)
      clear hp hi hb1 hr hrp hrs
      go_wp2
      try simp only [Exit.inBlock, Exit.then]
      refine bodyPost_ret (v := .tuple #[.agg #[.slice none 0 0, .int .i64 0], .bool false]) ?_ rfl ?_
      · rw [results_cell_tmp rfl]
        go_simp
      exact OnePost.nil ((H1.out.setCell (by show w.heap.size ≤ w.heap.size + 1 + 1 + 1; omega) _).setCell (by show w.heap.size ≤ w.heap.size + 1 + 1 + 1; omega) _)
    · have d1 : decide (sh < 0) = false := decide_eq_false h1
      by_cases h2 : (ys.length : Int) - 1 ≤ sh
      · have d2 : decide (sh ≥ (ys.length : Int) - 1) = true := decide_eq_true h2
        have hN : N = false := by rw [eN]; rw [decide_eq_false (show ¬ sh < (ys.length : Int) - 1 by omega)]; simp
        have hP : P = ([], 0) := by rw [eP, hN]; rfl
        subst hN hP
        clear eN eP
        go_enter Tryz.func17, Tryz.ntmps17
        go_wp2_with fail
        generalize ((((w.alloc (.cells #[.int .i64 n, .slice ad es.length cap] 35)).alloc (.cells #[.slice ad2 ys.length c2, .int .i64 y] 30)).alloc (.cells #[.int .i64 sh] 3)).alloc (.cells #[.slice none 0 0, .int .i64 0] 30)) = w0 at HB0 HXP HXS HXR ⊢
        refine (HPA.out _ HB0.out).mono ?_
        rintro e w1 ⟨v, i, qs, rfl, hp, hi, hb1⟩
        have hr := HXR.out.keep hb1
        have x0 := hr.cell 0
        have x1 := hr.cell 1
        have s0 := hr.frozen 0
        have s1 := hr.frozen 1
        have hrp := HXP.out.keep hb1
        have y0 := hrp.cell 0
        have hrs := HXS.out.keep hb1
        have z0 := hrs.cell 0
        simp only [List.getElem?_toArray, List.getElem?_cons_succ, List.getElem?_cons_zero] at x0 x1 y0 z0
        have H1 := Lib.hid (bel_trans HB0.out hb1)
        clear hp hi hb1 hr hrp hrs
        go_wp2
        try simp only [Exit.inBlock, Exit.then]
        refine bodyPost_ret (v := .tuple #[.agg #[.slice none 0 0, .int .i64 0], .bool false]) ?_ rfl ?_
        · rw [results_cell_tmp rfl]
          go_simp
        exact OnePost.nil ((H1.out.setCell (by show w.heap.size ≤ w.heap.size + 1 + 1 + 1; omega) _).setCell (by show w.heap.size ≤ w.heap.size + 1 + 1 + 1; omega) _)
      · have d2 : decide (sh ≥ (ys.length : Int) - 1) = false := decide_eq_false (by omega)
        have d3 : sh < (ys.length : Int) - 1 := by omega
        rw [decide_eq_true (show 0 ≤ sh by omega), decide_eq_true d3] at eN
        rcases plS_range L ys sh with hI | ⟨hI0, hIl⟩
        · have hN : N = false := by rw [eN, hI]; rfl
          have hP : P = ([], 0) := by rw [eP, hN]; rfl
          subst hN hP
          clear eN eP
          have HII := Lib.hid hI
          clear hI
          go_enter Tryz.func17, Tryz.ntmps17
          go_wp2_with fail
          generalize ((((w.alloc (.cells #[.int .i64 n, .slice ad es.length cap] 35)).alloc (.cells #[.slice ad2 ys.length c2, .int .i64 y] 30)).alloc (.cells #[.int .i64 sh] 3)).alloc (.cells #[.slice none 0 0, .int .i64 0] 30)) = w0 at HB0 HXP HXS HXR ⊢
          refine (HPA.out _ HB0.out).mono ?_
          rintro e w1 ⟨v, i, qs, rfl, hp, hi, hb1⟩
          have hr := HXR.out.keep hb1
          have x0 := hr.cell 0
          have x1 := hr.cell 1
          have s0 := hr.frozen 0
          have s1 := hr.frozen 1
          have hrp := HXP.out.keep hb1
          have y0 := hrp.cell 0
          have hrs := HXS.out.keep hb1
          have z0 := hrs.cell 0
          simp only [List.getElem?_toArray, List.getElem?_cons_succ, List.getElem?_cons_zero] at x0 x1 y0 z0
          obtain ⟨rfl, hm⟩ := hi (by trivial)
          have hlq : ∀ q ∈ qs, q.zs.length ≤ 1000 := ofP_len hm HLM.out
          have hq4 : qs.length ≤ 400 := by rw [← hm, List.length_map] at hL4; exact hL4
          have z0' := z0
          have hix := indexShares qs v w0.heap.size y sh ys ad2 c2 (w.heap.size + 1) (w.heap.size + 1 + 1) w1 hp y0 (by simpa using hrp.cell 1) hrp.lt z0 hrs.lt (by omega) (by omega) (HT.out.keep (bel_trans HB0.out hb1)) hlq (by omega) hq4
          rw [hm] at hix
          have HIX := Lib.hid hix
          have hmf : ∀ (fn : Fn) (first cap : Array Value) (w : World), (Instr.makeFunc fn first cap).run Tryz.prog w = .ok (.func fn first cap) w := fun _ _ _ _ => rfl
          have H1 := Lib.hid (And.intro (bel_trans HB0.out hb1) (And.intro hr (And.intro hp hm)))
          have hw0 := HB0.out.size
          clear hp hi hb1 hr hrp hrs hix hlq hq4 z0'
          go_wp2_with fail
          refine HIX.out.mono ?_
          rintro e w2 ⟨rfl, hb2⟩
          have hr := H1.out.2.1.keep hb2
          have x0 := hr.cell 0
          have x1 := hr.cell 1
          have s0 := hr.frozen 0
          have s1 := hr.frozen 1
          simp only [List.getElem?_toArray, List.getElem?_cons_succ, List.getElem?_cons_zero] at x0 x1
          rw [HII.out]
          have H1 := Lib.hid (bel_trans H1.out.1 hb2)
          clear hr hb2
          go_wp2
          try simp only [Exit.inBlock, Exit.then]
          refine bodyPost_ret (v := .tuple #[.agg #[.slice none 0 0, .int .i64 0], .bool false]) ?_ rfl ?_
          · rw [results_cell_tmp rfl]
            go_simp
          exact OnePost.nil ((H1.out.setCell (by show w.heap.size ≤ w.heap.size + 1 + 1 + 1; omega) _).setCell (by show w.heap.size ≤ w.heap.size + 1 + 1 + 1; omega) _)
        · obtain ⟨k, hk⟩ := Int.eq_ofNat_of_zero_le hI0
          have hN : N = true := by rw [eN, decide_eq_true hI0]; rfl
          have hP : P = L.getD k ([], 0) := by rw [eP, hN, hk]; rfl
          rw [hk, Int.toNat_natCast] at hIl
          subst hN
          have HPE := Lib.hid hP
          have HKK := Lib.hid hk
          clear eN eP hP hk hI0
          go_enter Tryz.func17, Tryz.ntmps17
          go_wp2_with fail
          generalize ((((w.alloc (.cells #[.int .i64 n, .slice ad es.length cap] 35)).alloc (.cells #[.slice ad2 ys.length c2, .int .i64 y] 30)).alloc (.cells #[.int .i64 sh] 3)).alloc (.cells #[.slice none 0 0, .int .i64 0] 30)) = w0 at HB0 HXP HXS HXR ⊢
          refine (HPA.out _ HB0.out).mono ?_
          rintro e w1 ⟨v, i, qs, rfl, hp, hi, hb1⟩
          have hr := HXR.out.keep hb1
          have x0 := hr.cell 0
          have x1 := hr.cell 1
          have s0 := hr.frozen 0
          have s1 := hr.frozen 1
          have hrp := HXP.out.keep hb1
          have y0 := hrp.cell 0
          have hrs := HXS.out.keep hb1
          have z0 := hrs.cell 0
          simp only [List.getElem?_toArray, List.getElem?_cons_succ, List.getElem?_cons_zero] at x0 x1 y0 z0
          obtain ⟨rfl, hm⟩ := hi (by trivial)
          have hlq : ∀ q ∈ qs, q.zs.length ≤ 1000 := ofP_len hm HLM.out
          have hq4 : qs.length ≤ 400 := by rw [← hm, List.length_map] at hL4; exact hL4
          have z0' := z0
          have hix := indexShares qs v w0.heap.size y sh ys ad2 c2 (w.heap.size + 1) (w.heap.size + 1 + 1) w1 hp y0 (by simpa using hrp.cell 1) hrp.lt z0 hrs.lt (by omega) (by omega) (HT.out.keep (bel_trans HB0.out hb1)) hlq (by omega) hq4
          rw [hm] at hix
          have HIX := Lib.hid hix
          have hmf : ∀ (fn : Fn) (first cap : Array Value) (w : World), (Instr.makeFunc fn first cap).run Tryz.prog w = .ok (.func fn first cap) w := fun _ _ _ _ => rfl
          have H1 := Lib.hid (And.intro (bel_trans HB0.out hb1) (And.intro hr (And.intro hp hm)))
          have hw0 := HB0.out.size
          clear hp hi hb1 hr hrp hrs hix hlq hq4 z0'
          go_wp2_with fail
          refine HIX.out.mono ?_
          rintro e w2 ⟨rfl, hb2⟩
          have hr := H1.out.2.1.keep hb2
          have x0 := hr.cell 0
          have x1 := hr.cell 1
          have s0 := hr.frozen 0
          have s1 := hr.frozen 1
          simp only [List.getElem?_toArray, List.getElem?_cons_succ, List.getElem?_cons_zero] at x0 x1
          rw [HKK.out]
          have hm := H1.out.2.2.2
          have hqn : qs.length = L.length := by rw [← hm, List.length_map]
          have hp2 := H1.out.2.2.1.keep hb2
          obtain ⟨g, vc, hv, hgb, hgl, hcap⟩ := own_pos hp2.own (by omega)
          subst hv
          have hlt : k < qs.length := by omega
          obtain ⟨c0, c1⟩ := cellsP_get hp2 hlt
          have hrow := hp2.row _ (getD_memP hlt)
          have hQ : L.getD k ([], 0) = (qs.getD k ppZ).p := by rw [← hm]; exact ppGetD qs k
          have hPQ : P = (qs.getD k ppZ).p := by rw [HPE.out, hQ]
          obtain ⟨a1, s1', e1⟩ := own_slice hrow.1
          generalize qs.getD k ppZ = q at *
          rw [e1] at c0
          have HPQ := Lib.hid hPQ
          have b0 : decide ((k : Int) < 0) = false := decide_eq_false (by omega)
          have b3 : ¬ ((k : Int) < 0) := by omega
          have b4 : ¬ ((qs.length : Int) ≤ (k : Int)) := by omega
          have b5 : (k : Int) < (qs.length : Int) := by omega
          have H2 := Lib.hid (bel_trans H1.out.1 hb2)
          have HR := Lib.hid (And.intro hrow (And.intro hr (And.intro e1 hw0)))
          have hgr : g ≠ w.heap.size + 1 + 1 + 1 := by have := HXR.out.lt; omega
          clear hp2 hb2 hr hm hQ hrow e1 HPE hPQ
          go_wp2
          try simp only [Exit.inBlock, Exit.then]
          refine bodyPost_ret (v := .tuple #[.agg #[.slice a1 q.zs.length s1', .int .i64 q.x], .bool true]) ?_ rfl ?_
          · rw [results_cell_tmp rfl]
            go_simp
          rw [HPQ.out]
          refine OnePost.of (base := w0.heap.size) ⟨(HR.out.2.1.set 0 _).own (HR.out.2.1.own HR.out.1.1 (by decide)) (by decide), HR.out.1.2⟩ HR.out.2.2.2 HR.out.2.2.1 ((H2.out.setCell (by show w.heap.size ≤ w.heap.size + 1 + 1 + 1; omega) _).setCell (by show w.heap.size ≤ w.heap.size + 1 + 1 + 1; omega) _)
end Go.Proofs.YtneapbggnnndhaaGreat
namespace Go.Proofs.YtneapbggnnndhaaGreat
open Go.RowKit Go.BigFrame Go.Deep
set_option linter.unusedVariables false
set_option linter.unusedSimpArgs false
set_option linter.unnecessarySimpa false

theorem prL_good (n : Int) (es : List Ed) (m : Int) (ys : List Int) : ∃ b, (∀ p ∈ prL n es m ys, p.1.Nodup ∧ lst p.1 = b) ∧ ((prL n es m ys).map Prod.fst).Nodup := by
  unfold prL
  split
  · exact ⟨0, by simp, by simp⟩
  · exact ⟨_, psO_good _ _ _ _ _⟩
theorem prB_at {n m y : Int} {es : List Ed} {ys : List Int} (h : prB n es m ys y = true) : ∃ k : Nat, prI n es m ys y = k ∧ k < (prL n es m ys).length ∧ ((prL n es m ys).getD k ([], 0)).1 = ys := by
  obtain ⟨k, h1, h2⟩ := prB_parts h
  refine ⟨k, h1, h2, ?_⟩
  unfold prI plP at h1
  split at h1
  · rename_i hlt
    have e : (prL n es m ys).findIdx (fun q => eqP q (ys, y)) = k := by omega
    have := List.findIdx_getElem (p := fun q => eqP q (ys, y)) (xs := prL n es m ys) (w := hlt)
    simp only [e] at this
    have h3 := (pSame_iff.1 this).1
    simp only [List.getD_eq_getElem?_getD, List.getElem?_eq_getElem h2, Option.getD_some]
    exact h3
  · omega
/-- Which paths share so many nodes: none is the path itself, unless all nodes are to be shared, and then no other one. -/
theorem det_at {n m y sh : Int} {es : List Ed} {ys : List Int} {at_ : Nat} (ha : at_ < (prL n es m ys).length) (hy : ((prL n es m ys).getD at_ ([], 0)).1 = ys) {j : Nat} (hj : j < (prL n es m ys).length) (h : eqS ys sh ((prL n es m ys).getD j ([], 0)) = true) (h0 : 0 ≤ sh) :
    (sh < (ys.length : Int) - 1 → j ≠ at_) ∧ (sh = (ys.length : Int) - 1 → j = at_) := by
  obtain ⟨b, h1, h2⟩ := prL_good n es m ys
  generalize prL n es m ys = L at *
  unfold eqS at h
  have h3 := of_decide_eq_true h
  have eA : L.getD at_ ([], 0) = L[at_] := by simp [List.getD, ha]
  have eJ : L.getD j ([], 0) = L[j] := by simp [List.getD, hj]
  rw [eA] at hy
  rw [eJ] at h3
  refine ⟨fun h4 h5 => ?_, fun h4 => ?_⟩
  · subst h5
    rw [hy, shr_self] at h3
    omega
  · have h5 : shr L[j].1 ys = ys.length := by omega
    have hp := shr_pre h5
    have g1 := h1 _ (List.getElem_mem hj)
    have g2 := h1 _ (List.getElem_mem ha)
    rw [hy] at g2
    have he := same_end hp g1.1 (by omega) (g1.2.trans g2.2.symm)
    have hj' : j < (L.map Prod.fst).length := by simpa using hj
    have ha' : at_ < (L.map Prod.fst).length := by simpa using ha
    have : (L.map Prod.fst)[j] = (L.map Prod.fst)[at_] := by simp [he, hy]
    rcases Nat.lt_trichotomy j at_ with h | h | h
    · exact absurd this (List.pairwise_iff_getElem.1 h2 j at_ hj' ha' h)
    · exact h
    · exact absurd this.symm (List.pairwise_iff_getElem.1 h2 at_ j ha' hj' h)

set_option maxRecDepth 20000 in
set_option maxHeartbeats 8000000 in
theorem sDetourOf (n m y sh : Int) (es : List Ed) (ys : List Int) (s t : Value) (w : World) (hs : RowE w s es) (ht : Row w t ys) (hl : es.length ≤ 1048576) (hl2 : ys.length ≤ 1048576) :
    Calls Tryz.prog 16 #[.agg #[.int .i64 n, s], .int .i64 m, .agg #[t, .int .i64 y], .int .i64 sh] w (OnePost w (dtP n es m ys y sh) (dtB n es m ys y sh)) := by
  obtain ⟨ad, cap, rfl, hz0⟩ := id hs
  obtain ⟨ad2, c2, rfl, hz1⟩ := id ht
  clear hz0 hz1
  have hb0 : Below w.heap.size w (((w.alloc (.cells #[.int .i64 n, .slice ad es.length cap] 35)).alloc (.cells #[.slice ad2 ys.length c2, .int .i64 y] 30)).alloc (.cells #[.slice none 0 0, .int .i64 0] 30)) := (((Below.refl _ _).alloc (Nat.le_refl _) _).alloc (by simp) _).alloc (by simp; omega) _
  have hxp := (Box.new (w.alloc (.cells #[.int .i64 n, .slice ad es.length cap] 35)) 30 #[.slice ad2 ys.length c2, .int .i64 y]).alloc (.cells #[.slice none 0 0, .int .i64 0] 30)
  have hxr := Box.new ((w.alloc (.cells #[.int .i64 n, .slice ad es.length cap] 35)).alloc (.cells #[.slice ad2 ys.length c2, .int .i64 y] 30)) 30 #[.slice none 0 0, .int .i64 0]
  rw [show (w.alloc (.cells #[.int .i64 n, .slice ad es.length cap] 35)).heap.size = w.heap.size + 1 by simp] at hxp
  rw [show ((w.alloc (.cells #[.int .i64 n, .slice ad es.length cap] 35)).alloc (.cells #[.slice ad2 ys.length c2, .int .i64 y] 30)).heap.size = w.heap.size + 1 + 1 by simp] at hxr
  have hpa := fun w' (h : Below w.heap.size w w') => l11Place n m y es ys (.slice ad es.length cap) (.slice ad2 ys.length c2) w' (hs.keep h) (ht.keep h) hl (by omega)
  have hL4 := prL_len n es m ys
  have hLm := fun p (h : p ∈ prL n es m ys) => (prL_mem h).1
  have hneg : prB n es m ys y = false → prI n es m ys y < 0 := fun h => by unfold prB at h; have := of_decide_eq_false h; omega
  have hat := fun h => prB_at (n := n) (es := es) (m := m) (ys := ys) (y := y) h
  have hda := fun (a : Nat) ha hy (j : Nat) hj h h0 => det_at (n := n) (m := m) (sh := sh) (es := es) (ys := ys) (y := y) (at_ := a) ha hy (j := j) hj h h0
  have eP : dtP n es m ys y sh = if dtB n es m ys y sh then (prL n es m ys).getD (plS (prL n es m ys) ys sh).toNat ([], 0) else ([], 0) := rfl
  have eN : dtB n es m ys y sh = (prB n es m ys y && (decide (0 ≤ sh) && (decide (sh < (ys.length : Int) - 1) && decide (0 ≤ plS (prL n es m ys) ys sh)))) := rfl
  generalize prL n es m ys = L at *
  generalize prI n es m ys y = I at *
  generalize prB n es m ys y = B at *
  generalize dtP n es m ys y sh = P at *
  generalize dtB n es m ys y sh = N at *
  have HB0 := Lib.hid hb0
  have HXP := Lib.hid hxp
  have HXR := Lib.hid hxr
  have HT := Lib.hid ht
  have HPA := Lib.hid hpa
  have HLM := Lib.hid hLm
  have HDA := Lib.hid hda
  have HAT := Lib.hid hat
  clear hb0 hxp hxr hpa hs ht hLm hda hat
  cases B
  · have hI0 := hneg rfl
    have d0 : decide (I < 0) = true := decide_eq_true hI0
    clear hneg
    have hN : N = false := by rw [eN]; rfl
    have hP : P = ([], 0) := by rw [eP, hN]; rfl
    subst hN hP
    clear eN eP
    go_enter Tryz.func16, Tryz.ntmps16
    go_wp2_with fail
    generalize (((w.alloc (.cells #[.int .i64 n, .slice ad es.length cap] 35)).alloc (.cells #[.slice ad2 ys.length c2, .int .i64 y] 30)).alloc (.cells #[.slice none 0 0, .int .i64 0] 30)) = w0 at HB0 HXP HXR ⊢
    refine (HPA.out _ HB0.out).mono ?_
    rintro e w1 ⟨v, qs, rfl, hp, hi, hb1⟩
    have hr := HXR.out.keep hb1
    have x0 := hr.cell 0
    have x1 := hr.cell 1
    have s0 := hr.frozen 0
    have s1 := hr.frozen 1
    have hrp := HXP.out.keep hb1
    have y0 := hrp.cell 0
    simp only [List.getElem?_toArray, List.getElem?_cons_succ, List.getElem?_cons_zero] at x0 x1 y0
    have H1 := Lib.hid (bel_trans HB0.out hb1)
    clear hp hi hb1 hr hrp
    go_wp2
    try simp only [Exit.inBlock, Exit.then]
    refine bodyPost_ret (v := .tuple #[.agg #[.slice none 0 0, .int .i64 0], .bool false]) ?_ rfl ?_
    · rw [results_cell_tmp rfl]
      go_simp
    exact OnePost.nil ((H1.out.setCell (by show w.heap.size ≤ w.heap.size + 1 + 1; omega) _).setCell (by show w.heap.size ≤ w.heap.size + 1 + 1; omega) _)
  · obtain ⟨a0, hI, hal, hay⟩ := HAT.out rfl
    subst hI
    have d0 : decide ((a0 : Int) < 0) = false := decide_eq_false (by omega)
    have HAY := Lib.hid hay
    clear hneg hay
    by_cases h1 : sh < 0
    · have d1 : decide (sh < 0) = true := decide_eq_true h1
      have hN : N = false := by rw [eN]; rw [decide_eq_false (show ¬ 0 ≤ sh by omega)]; rfl
      have hP : P = ([], 0) := by rw [eP, hN]; rfl
      subst hN hP
      clear eN eP
      go_enter Tryz.func16, Tryz.ntmps16
      go_wp2_with fail
      generalize (((w.alloc (.cells #[.int .i64 n, .slice ad es.length cap] 35)).alloc (.cells #[.slice ad2 ys.length c2, .int .i64 y] 30)).alloc (.cells #[.slice none 0 0, .int .i64 0] 30)) = w0 at HB0 HXP HXR ⊢
      refine (HPA.out _ HB0.out).mono ?_
      rintro e w1 ⟨v, qs, rfl, hp, hi, hb1⟩
      have hr := HXR.out.keep hb1
      have x0 := hr.cell 0
      have x1 := hr.cell 1
      have s0 := hr.frozen 0
      have s1 := hr.frozen 1
      have hrp := HXP.out.keep hb1
      have y0 := hrp.cell 0
      simp only [List.getElem?_toArray, List.getElem?_cons_succ, List.getElem?_cons_zero] at x0 x1 y0
      have H1 := Lib.hid (bel_trans HB0.out hb1)
      clear hp hi hb1 hr hrp
      go_wp2
      try simp only [Exit.inBlock, Exit.then]
      refine bodyPost_ret (v := .tuple #[.agg #[.slice none 0 0, .int .i64 0], .bool false]) ?_ rfl ?_
      · rw [results_cell_tmp rfl]
        go_simp
      exact OnePost.nil ((H1.out.setCell (by show w.heap.size ≤ w.heap.size + 1 + 1; omega) _).setCell (by show w.heap.size ≤ w.heap.size + 1 + 1; omega) _)
    · have d1 : decide (sh < 0) = false := decide_eq_false h1
      by_cases h2 : (ys.length : Int) ≤ sh
      · have d2 : decide (sh ≥ (ys.length : Int)) = true := decide_eq_true h2
        have hN : N = false := by rw [eN]; rw [decide_eq_false (show ¬ sh < (ys.length : Int) - 1 by omega)]; simp
        have hP : P = ([], 0) := by rw [eP, hN]; rfl
        subst hN hP
        clear eN eP
        go_enter Tryz.func16, Tryz.ntmps16
        go_wp2_with fail
        generalize (((w.alloc (.cells #[.int .i64 n, .slice ad es.length cap] 35)).alloc (.cells #[.slice ad2 ys.length c2, .int .i64 y] 30)).alloc (.cells #[.slice none 0 0, .int .i64 0] 30)) = w0 at HB0 HXP HXR ⊢
        refine (HPA.out _ HB0.out).mono ?_
        rintro e w1 ⟨v, qs, rfl, hp, hi, hb1⟩
        have hr := HXR.out.keep hb1
        have x0 := hr.cell 0
        have x1 := hr.cell 1
        have s0 := hr.frozen 0
        have s1 := hr.frozen 1
        have hrp := HXP.out.keep hb1
        have y0 := hrp.cell 0
        simp only [List.getElem?_toArray, List.getElem?_cons_succ, List.getElem?_cons_zero] at x0 x1 y0
        have H1 := Lib.hid (bel_trans HB0.out hb1)
        clear hp hi hb1 hr hrp
        go_wp2
        try simp only [Exit.inBlock, Exit.then]
        refine bodyPost_ret (v := .tuple #[.agg #[.slice none 0 0, .int .i64 0], .bool false]) ?_ rfl ?_
        · rw [results_cell_tmp rfl]
          go_simp
        exact OnePost.nil ((H1.out.setCell (by show w.heap.size ≤ w.heap.size + 1 + 1; omega) _).setCell (by show w.heap.size ≤ w.heap.size + 1 + 1; omega) _)
      · have d2 : decide (sh ≥ (ys.length : Int)) = false := decide_eq_false (by omega)
        have h0 : 0 ≤ sh := by omega
        have hge : sh ≤ (ys.length : Int) - 1 := by omega
        rw [decide_eq_true h0] at eN
        have EN := Lib.hid eN
        have EP := Lib.hid eP
        clear eN eP
        go_enter Tryz.func16, Tryz.ntmps16
        go_wp2_with fail
        generalize (((w.alloc (.cells #[.int .i64 n, .slice ad es.length cap] 35)).alloc (.cells #[.slice ad2 ys.length c2, .int .i64 y] 30)).alloc (.cells #[.slice none 0 0, .int .i64 0] 30)) = w0 at HB0 HXP HXR ⊢
        refine (HPA.out _ HB0.out).mono ?_
        rintro e w1 ⟨v, qs, rfl, hp, hi, hb1⟩
        have hr := HXR.out.keep hb1
        have x0 := hr.cell 0
        have x1 := hr.cell 1
        have s0 := hr.frozen 0
        have s1 := hr.frozen 1
        have hrp := HXP.out.keep hb1
        have y0 := hrp.cell 0
        simp only [List.getElem?_toArray, List.getElem?_cons_succ, List.getElem?_cons_zero] at x0 x1 y0
        have hm := hi (by trivial)
        have hqn : qs.length = L.length := by rw [← hm, List.length_map]
        obtain ⟨g, vc, hv, hgb, hgl, hcap⟩ := own_pos hp.own (by omega)
        subst hv
        have hFE : ∀ j, j < qs.length → eqS ys sh (fQ qs j) = true → (sh < (ys.length : Int) - 1 → j ≠ a0) ∧ (sh = (ys.length : Int) - 1 → j = a0) := fun j hj h => by
          have e : L.getD j ([], 0) = fQ qs j := by rw [← hm]; exact ppGetD qs j
          exact HDA.out a0 hal HAY.out j (by omega) (by rw [e]; exact h) h0
        have HFE := Lib.hid hFE
        have hlq : ∀ q ∈ qs, q.zs.length ≤ 13 := fun q hq => by
          have h1 : q.p ∈ L := by rw [← hm]; exact List.mem_map_of_mem hq
          exact HLM.out _ h1
        have HLQ := Lib.hid hlq
        have hq4 : qs.length ≤ 400 := by omega
        have qw : IntKind.i64.wrap (sh + 1) = sh + 1 := by rw [IntKind.wrap_i64]; omega
        have H1 := Lib.hid (And.intro (bel_trans HB0.out hb1) (And.intro hr (And.intro hrp (And.intro hp hm))))
        have hw0 := HB0.out.size
        have hgr : g ≠ w.heap.size + 1 + 1 := by have := HXR.out.lt; omega
        clear hp hi hb1 hr hrp hm hFE hlq x0 x1 s0 s1
        go_wp2
        go_loopw [12] (fun cc wr => ∃ k : Nat, k ≤ qs.length ∧ cc = .int .i64 k ∧ Hid (Below w1.heap.size w1 wr ∧ ∀ j, j < k → eqS ys sh (fQ qs j) = true → j = a0)) (fun cc _ => qs.length - (intOf cc).toNat)
        case atStart => exact ⟨0, Nat.zero_le _, rfl, Lib.hid ⟨Below.refl _ _, fun j hj => absurd hj (Nat.not_lt_zero _)⟩⟩
        case round =>
          obtain ⟨k, hk, rfl, HR⟩ := hrel
          by_cases hlt : k < qs.length
          · have hlt' : (k : Int) < qs.length := by omega
            have hlt2 : ¬ ((qs.length : Int) ≤ k) := by omega
            have hlt3 : ¬ ((k : Int) < 0) := by omega
            have hpr := H1.out.2.2.2.1.keep HR.out.1
            obtain ⟨c0, c1⟩ := cellsP_get hpr hlt
            have hrow := hpr.row _ (getD_memP hlt)
            have hq13 := HLQ.out _ (getD_memP hlt)
            have hglr : g < wr.heap.size := Nat.lt_of_lt_of_le hgl HR.out.1.size
            obtain ⟨a1, s1', e1⟩ := own_slice hrow.1
            have hsh := fun W (h : Below wr.heap.size wr W) => l11Shares (qs.getD k ppZ).zs ys (qs.getD k ppZ).v (.slice ad2 ys.length c2) W ((own_row hrow.1).keep h) (HT.out.keep (bel_trans H1.out.1 (bel_trans HR.out.1 h))) (by omega) (by omega)
            have hD0 : eqS ys sh (fQ qs k) = decide ((shr (qs.getD k ppZ).zs ys : Int) = sh + 1) := rfl
            have hfq : fQ qs k = (qs.getD k ppZ).p := rfl
            have hb2 := HR.out.1
            have hrp := H1.out.2.2.1.keep hb2
            generalize hqq : qs.getD k ppZ = q at *
            rw [e1] at c0 hsh
            generalize hSH : (shr q.zs ys : Int) = SH at hsh hD0
            have FF : Hid (∀ w', Below wr.heap.size wr w' → w'.cell? ⟨w.heap.size + 1, 0, none⟩ = some (.slice ad2 ys.length c2) ∧ w'.cell? ⟨w.heap.size + 1, 1, none⟩ = some (.int .i64 y) ∧ w'.cell? ⟨g, k * 2, none⟩ = some (.slice a1 q.zs.length s1') ∧ w'.cell? ⟨g, k * 2 + 1, none⟩ = some (.int .i64 q.x)) := Lib.hid (fun w' h => by
              have hk2 := hrp.keep h
              exact ⟨by simpa using hk2.cell 0, by simpa using hk2.cell 1, (h.cell (p := ⟨g, _, none⟩) hglr).trans c0, (h.cell (p := ⟨g, _, none⟩) hglr).trans c1⟩)
            have hD1 : (SH == sh + 1) = decide (SH = sh + 1) := by by_cases h : SH = sh + 1 <;> simp [h]
            have HROW := Lib.hid (And.intro hrow (And.intro hfq e1))
            have HSH := Lib.hid hsh
            clear hrow hfq e1 hsh c0 c1 hb2 hrp hpr hqq hSH
            cases hD : decide (SH = sh + 1)
            · rw [hD] at hD0 hD1
              have HD0 := Lib.hid hD0
              clear hD0
              go_wp2_with fail
              refine wp_region_below (by kernel_rfl) (by kernel_rfl) ?_
              repeat (go_big_quiet_step ((intro hw; first | with_reducible rfl | (obtain ⟨f0, f1, f2, f3⟩ := FF.out _ hw; simp only [f0, f1, f2, f3, Result.andThen]; first | exact ⟨trivial, rfl⟩ | exact ⟨rfl, rfl⟩) | (with_reducible exact quietB (HSH.out _ hw) hw))))
              refine wpQuiet_nil ?_
              intro w5 hw5
              go_wp2
              refine ⟨⟨k + 1, by omega, rfl, Lib.hid ⟨bel_trans HR.out.1 hw5, fun j hj h => ?_⟩⟩, ?_⟩
              · by_cases e : j = k
                · subst e; rw [HD0.out] at h; cases h
                · exact HR.out.2 j (by omega) h
              · show qs.length - ((k : Int) + 1).toNat < qs.length - (k : Int).toNat
                omega
            · rw [hD] at hD0 hD1
              have HD0 := Lib.hid hD0
              clear hD0
              by_cases hka : k = a0
              · have n1 : ((k : Int) != (a0 : Int)) = false := by simp [hka]
                have n2 : (k != a0) = false := by simp [hka]
                have n3 : decide (k = a0) = true := decide_eq_true hka
                have n4 : (k == a0) = true := by simp [hka]
                have HKA := Lib.hid hka
                clear hka
                go_wp2_with fail
                refine wp_region_below (by kernel_rfl) (by kernel_rfl) ?_
                repeat (go_big_quiet_step ((intro hw; first | with_reducible rfl | (obtain ⟨f0, f1, f2, f3⟩ := FF.out _ hw; simp only [f0, f1, f2, f3, Result.andThen]; first | exact ⟨trivial, rfl⟩ | exact ⟨rfl, rfl⟩) | (with_reducible exact quietB (HSH.out _ hw) hw))))
                refine wpQuiet_nil ?_
                intro w5 hw5
                go_wp2
                refine ⟨⟨k + 1, by omega, rfl, Lib.hid ⟨bel_trans HR.out.1 hw5, fun j hj h => ?_⟩⟩, ?_⟩
                · by_cases e : j = k
                  · rw [e]; exact HKA.out
                  · exact HR.out.2 j (by omega) h
                · show qs.length - ((k : Int) + 1).toNat < qs.length - (k : Int).toNat
                  omega
              · have hlast : sh < (ys.length : Int) - 1 := by
                  by_cases h : sh = (ys.length : Int) - 1
                  · exact absurd ((HFE.out k hlt HD0.out).2 h) hka
                  · omega
                have hpl : plS L ys sh = k := by
                  rw [← H1.out.2.2.2.2]
                  exact plS_hit hlt HD0.out (fun j hj => by
                    cases h : eqS ys sh (fQ qs j) with
                    | false => rfl
                    | true => exact absurd (HR.out.2 j hj h) ((HFE.out j (by omega) h).1 hlast))
                have hN : N = true := by rw [EN.out, hpl, decide_eq_true hlast, decide_eq_true (show (0 : Int) ≤ k by omega)]; rfl
                have hP : P = q.p := by
                  rw [EP.out, hN, hpl, Int.toNat_natCast, ← H1.out.2.2.2.2, ← HROW.out.2.1]
                  exact ppGetD qs k
                subst hN
                have HPQ := Lib.hid hP
                have n1 : ((k : Int) != (a0 : Int)) = true := by simp; omega
                have n2 : (k != a0) = true := by simp; omega
                have n3 : decide (k = a0) = false := decide_eq_false hka
                have n4 : (k == a0) = false := by simp; omega
                have hrow := HROW.out.1
                have e1 := HROW.out.2.2
                have hcp := fun W (h : Below wr.heap.size wr W) => l11Copy q.x q.zs q.v W ((own_row hrow.1).keep h) hrow.2 (by omega)
                rw [e1] at hcp
                have HCP := Lib.hid hcp
                have hpos := hrow.2
                clear hP hpl hrow e1 hcp
                go_wp2_with fail
                refine wp_region_below (by kernel_rfl) (by kernel_rfl) ?_
                repeat (go_big_quiet_step ((intro hw; first | with_reducible rfl | (obtain ⟨f0, f1, f2, f3⟩ := FF.out _ hw; simp only [f0, f1, f2, f3, Result.andThen]; first | exact ⟨trivial, rfl⟩ | exact ⟨rfl, rfl⟩) | (with_reducible exact quietB (HSH.out _ hw) hw))))
                refine wpQuiet_nil ?_
                intro w5 hw5
                obtain ⟨f0, f1, f2, f3⟩ := FF.out _ hw5
                have hw1 := H1.out.1.size
                have hw15 := (bel_trans HR.out.1 hw5).size
                have hw15' := hw5.size
                have hw15'' := HR.out.1.size
                have hbx := H1.out.2.1.lt
                go_wp2_with fail
                refine (HCP.out _ hw5).mono ?_
                rintro e w6 ⟨v2, rfl, ho2, hb6⟩
                obtain ⟨va2, vc2, hv2⟩ := own_slice ho2
                subst hv2
                have hB6 := bel_trans (bel_trans HR.out.1 hw5) hb6
                have hr := H1.out.2.1.keep hB6
                have x0 := hr.cell 0
                have x1 := hr.cell 1
                have s0 := hr.frozen 0
                have s1 := hr.frozen 1
                simp only [List.getElem?_toArray, List.getElem?_cons_succ, List.getElem?_cons_zero] at x0 x1
                have H2 := Lib.hid (And.intro ho2 (And.intro hr (bel_trans H1.out.1 hB6)))
                clear ho2 hb6 hr hB6 f0 f1 f2 f3
                go_wp2
                try simp only [Exit.inBlock, Exit.then]
                refine bodyPost_ret (v := .tuple #[.agg #[.slice va2 q.zs.length vc2, .int .i64 q.x], .bool true]) ?_ rfl ?_
                · rw [results_cell_tmp rfl]
                  go_simp
                rw [HPQ.out]
                exact OnePost.of (q := ⟨.slice va2 q.zs.length vc2, q.zs, q.x⟩) (base := w5.heap.size) ⟨(H2.out.2.1.set 0 _).own (H2.out.2.1.own H2.out.1 (by decide)) (by decide), hpos⟩ (by omega) rfl ((H2.out.2.2.setCell (by show w.heap.size ≤ w.heap.size + 1 + 1; omega) _).setCell (by show w.heap.size ≤ w.heap.size + 1 + 1; omega) _)
          · have hge2 : k = qs.length := by omega
            subst hge2
            have hN : N = false := by
              rw [EN.out]
              by_cases hlast : sh < (ys.length : Int) - 1
              · have hpl : plS L ys sh = -1 := by
                  rw [← H1.out.2.2.2.2]
                  exact plS_none (fun j hj => by
                    cases h : eqS ys sh (fQ qs j) with
                    | false => rfl
                    | true => exact absurd (HR.out.2 j hj h) ((HFE.out j (by omega) h).1 hlast))
                rw [hpl]
                simp
              · rw [decide_eq_false hlast]
                simp
            have hP : P = ([], 0) := by rw [EP.out, hN]; rfl
            subst hN hP
            have hr := H1.out.2.1.keep HR.out.1
            have x0 := hr.cell 0
            have x1 := hr.cell 1
            have s0 := hr.frozen 0
            have s1 := hr.frozen 1
            simp only [List.getElem?_toArray, List.getElem?_cons_succ, List.getElem?_cons_zero] at x0 x1
            have H9 := Lib.hid (bel_trans H1.out.1 HR.out.1)
            clear hr
            go_wp2
            try simp only [Exit.inBlock, Exit.then]
            refine bodyPost_ret (v := .tuple #[.agg #[.slice none 0 0, .int .i64 0], .bool false]) ?_ rfl ?_
            · rw [results_cell_tmp rfl]
              go_simp
            exact OnePost.nil ((H9.out.setCell (by show w.heap.size ≤ w.heap.size + 1 + 1; omega) _).setCell (by show w.heap.size ≤ w.heap.size + 1 + 1; omega) _)
end Go.Proofs.YtneapbggnnndhaaGreat
