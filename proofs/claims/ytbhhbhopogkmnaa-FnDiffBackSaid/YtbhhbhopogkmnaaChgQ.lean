/- Changes that lead from one list of edges to another: they do, they are few, and they are the fewest (mathematics). -/
import Derived.Test.YtbhhbhopogkmnaaChgL
import Derived.Test.YtbhhbhopogkmnaaEdgeM
namespace Go.Proofs.Ytbhhbhopogkmnaa
open Go.RowKit Go.BigFrame Go.Deep
set_option linter.unusedVariables false
set_option linter.unusedSimpArgs false

/-- Changes made one after the other. -/
def runC (n : Int) (o : Option (List Ed)) (cs : List Ch) : Option (List Ed) := cs.foldl (fun o c => o.bind (fun x => apG n x c)) o
theorem runC_app (n : Int) (o : Option (List Ed)) (cs ds : List Ch) : runC n o (cs ++ ds) = runC n (runC n o cs) ds := by unfold runC; rw [List.foldl_append]
theorem runC_none (n : Int) (cs : List Ch) : runC n none cs = none := by
  induction cs with
  | nil => rfl
  | cons c cs ih => exact ih
theorem apT_run (n : Int) (es : List Ed) (cs : List Ch) : apT n es cs cs.length = runC n (some es) cs := by unfold apT runC; rw [List.take_length]
theorem apT_take (n : Int) (es : List Ed) (cs : List Ch) (k : Nat) : apT n es cs k = runC n (some es) (cs.take k) := rfl
theorem apT_takeAll (n : Int) (es : List Ed) (cs : List Ch) (k : Nat) : apT n es (cs.take k) (cs.take k).length = apT n es cs k := by rw [apT_run]; rfl
theorem apT_drop {n : Int} {es m : List Ed} {cs : List Ch} {k : Nat} (h : apT n es cs k = some m) : apT n m (cs.drop k) (cs.drop k).length = apT n es cs cs.length := by
  rw [apT_run, apT_run]
  conv => rhs; rw [← List.take_append_drop k cs, runC_app]
  rw [apT_take] at h
  rw [h]
theorem apT_some {n : Int} {es r : List Ed} {cs : List Ch} (h : apT n es cs cs.length = some r) (k : Nat) (hk : k ≤ cs.length) : ∃ m, apT n es cs k = some m := by
  cases hm : apT n es cs k with
  | some m => exact ⟨m, rfl⟩
  | none => rw [apT_none hm _ hk] at h; cases h
/-- The same ends. -/
def sameE (d e : Ed) : Prop := d.1 = e.1 ∧ d.2.1 = e.2.1
def endsE (d : Ed) : Int × Int := (d.1, d.2.1)
theorem endsE_iff {d e : Ed} : endsE d = endsE e ↔ sameE d e := by unfold endsE sameE; simp
theorem hasE_iff {es : List Ed} {d : Ed} : hasE es d = true ↔ ∃ e ∈ es, sameE e d := by
  unfold hasE sameE
  rw [List.any_eq_true]
  simp [eBe]
theorem edLt_ne {d e : Ed} (h : EdLt d e) : ¬ sameE d e := by unfold EdLt at h; unfold sameE; omega

theorem cutsRun {n : Int} : ∀ (ds es : List Ed), gVal n es = true → (∀ d ∈ ds, d ∈ es) → ds.Pairwise (fun d e => ¬ sameE d e) →
    ∃ r, runC n (some es) (ds.map cutC) = some r ∧ gVal n r = true ∧ ∀ x, x ∈ r ↔ x ∈ es ∧ ∀ d ∈ ds, ¬ sameE x d
  | [], es, hg, _, _ => ⟨es, rfl, hg, fun x => by simp⟩
  | d :: ds, es, hg, hin, hp => by
    rw [List.pairwise_cons] at hp
    have hd : d ∈ es := hin d (by simp)
    have hf : fdE es d.1 d.2.1 = true := (fdE_iff hg _ _).2 ⟨d, hd, rfl, rfl⟩
    have hk : kB n es d.1 d.2.1 = true := by unfold kB; rw [hg, hf]; rfl
    have hs : apG n es (cutC d) = some (kL es d.1 d.2.1) := by unfold cutC; rw [apG_cut, if_pos hk]
    have he := cutL_val hg hf
    obtain ⟨r, h1, h2, h3⟩ := cutsRun ds (kL es d.1 d.2.1) (gVal_kL hk) (fun e hem => by
      rw [← he, cutL_mem]
      exact ⟨hin e (by simp [hem]), fun h => hp.1 e hem ⟨h.1.symm, h.2.symm⟩⟩) hp.2
    refine ⟨r, ?_, h2, fun x => ?_⟩
    · show runC n ((some es).bind fun x => apG n x (cutC d)) (ds.map cutC) = some r
      rw [Option.bind_some, hs]; exact h1
    · rw [h3, ← he, cutL_mem]
      constructor
      · rintro ⟨⟨a1, a2⟩, a3⟩
        refine ⟨a1, fun e hem => ?_⟩
        rcases List.mem_cons.1 hem with rfl | hem
        · exact a2
        · exact a3 e hem
      · rintro ⟨a1, a2⟩
        exact ⟨⟨a1, a2 d (by simp)⟩, fun e hem => a2 e (by simp [hem])⟩
theorem nodup_len {α : Type} [DecidableEq α] : ∀ (l m : List α), l.Nodup → (∀ x ∈ l, x ∈ m) → l.length ≤ m.length
  | [], m, _, _ => Nat.zero_le _
  | a :: l, m, hn, hs => by
    rw [List.nodup_cons] at hn
    have ha : a ∈ m := hs a (by simp)
    have := nodup_len l (m.erase a) hn.2 (fun x hx => by
      have hxa : x ≠ a := fun e => hn.1 (e ▸ hx)
      exact (List.mem_erase_of_ne hxa).2 (hs x (by simp [hx])))
    rw [List.length_erase_of_mem ha] at this
    have hpos : 0 < m.length := List.length_pos_of_mem ha
    simp only [List.length_cons]
    omega
theorem ends_nodup {r : List Ed} (h : r.Pairwise EdLt) : (r.map endsE).Nodup := by
  unfold List.Nodup
  rw [List.pairwise_map]
  exact h.imp (fun hlt => by rw [Ne, endsE_iff]; exact edLt_ne hlt)
theorem sorted_len {r b : List Ed} (h : r.Pairwise EdLt) (hs : ∀ x ∈ r, ∃ y ∈ b, sameE x y) : r.length ≤ b.length := by
  have := nodup_len (r.map endsE) (b.map endsE) (ends_nodup h) (fun x hx => by
    obtain ⟨d, hd, rfl⟩ := List.mem_map.1 hx
    obtain ⟨y, hy, he⟩ := hs d hd
    exact List.mem_map.2 ⟨y, hy, (endsE_iff.2 he).symm⟩)
  simpa using this
theorem putsRun {n : Int} {b : List Ed} (hb : gVal n b = true) : ∀ (ds es : List Ed), gVal n es = true → (∀ d ∈ ds, d ∈ b) → ds.Pairwise (fun d e => ¬ sameE d e) → (∀ x ∈ es, ∃ y ∈ b, sameE x y) →
    ∃ r, runC n (some es) (ds.map putC) = some r ∧ gVal n r = true ∧ ∀ x, x ∈ r ↔ x ∈ ds ∨ (x ∈ es ∧ ∀ d ∈ ds, ¬ sameE x d)
  | [], es, hg, _, _, _ => ⟨es, rfl, hg, fun x => by simp⟩
  | d :: ds, es, hg, hin, hp, hes => by
    rw [List.pairwise_cons] at hp
    have hd : d ∈ b := hin d (by simp)
    have hins : ∀ x ∈ pL es d, ∃ y ∈ b, sameE x y := fun x hx => by
      rcases (pL_iff hg d x).1 hx with rfl | ⟨h1, _⟩
      · exact ⟨x, hd, rfl, rfl⟩
      · exact hes x h1
    have hlen : (pL es d).length ≤ 40 := Nat.le_trans (sorted_len (pL_sorted hg d) hins) (gVal_iff.1 hb).1.2.2
    have hk : putB n es d = true := putB_iff.2 ⟨hg, fits_of hb hd, hlen⟩
    have hs : apG n es (putC d) = some (pL es d) := by unfold putC; rw [apG_put, if_pos hk]
    obtain ⟨r, h1, h2, h3⟩ := putsRun hb ds (pL es d) (gVal_pL hk) (fun e he => hin e (by simp [he])) hp.2 hins
    refine ⟨r, ?_, h2, fun x => ?_⟩
    · show runC n ((some es).bind fun x => apG n x (putC d)) (ds.map putC) = some r
      rw [Option.bind_some, hs]; exact h1
    · rw [h3, pL_iff hg]
      constructor
      · rintro (a1 | ⟨a1 | ⟨a1, a2⟩, a3⟩)
        · exact .inl (by simp [a1])
        · exact .inl (by simp [a1])
        · refine .inr ⟨a1, fun e hem => ?_⟩
          rcases List.mem_cons.1 hem with rfl | hem
          · exact a2
          · exact a3 e hem
      · rintro (a1 | ⟨a1, a2⟩)
        · rcases List.mem_cons.1 a1 with rfl | a1
          · exact .inr ⟨.inl rfl, fun e hem h => hp.1 e hem h⟩
          · exact .inl a1
        · exact .inr ⟨.inr ⟨a1, a2 d (by simp)⟩, fun e hem => a2 e (by simp [hem])⟩
theorem filter_apart {es : List Ed} (h : es.Pairwise EdLt) (p : Ed → Bool) : (es.filter p).Pairwise (fun d e => ¬ sameE d e) := (h.sublist (List.filter_sublist ..)).imp edLt_ne
/-- The changes from one list to another lead there. -/
theorem apply_diff {n : Int} {a b : List Ed} (ha : gVal n a = true) (hb : gVal n b = true) : apT n a (dfL a b) (dfL a b).length = some b := by
  rw [apT_run]
  unfold dfL dfC dfP
  rw [runC_app]
  obtain ⟨r1, h1, h2, h3⟩ := cutsRun (a.filter (fun d => !(hasE b d))) a ha (fun d hd => (List.mem_filter.1 hd).1) (filter_apart (sorted_of ha) _)
  rw [h1]
  have h4 : ∀ x, x ∈ r1 ↔ x ∈ a ∧ hasE b x = true := fun x => by
    rw [h3]
    constructor
    · rintro ⟨k1, k2⟩
      refine ⟨k1, ?_⟩
      cases hx : hasE b x
      · exact absurd ⟨rfl, rfl⟩ (k2 x (List.mem_filter.2 ⟨k1, by rw [hx]; rfl⟩))
      · rfl
    · rintro ⟨k1, k2⟩
      refine ⟨k1, fun d hd hs => ?_⟩
      have hd2 := (List.mem_filter.1 hd).2
      obtain ⟨e, he, hse⟩ := hasE_iff.1 k2
      have : hasE b d = true := hasE_iff.2 ⟨e, he, hse.1.trans hs.1, hse.2.trans hs.2⟩
      rw [this] at hd2; cases hd2
  obtain ⟨r2, k1, k2, k3⟩ := putsRun hb (b.filter (fun d => !(isE a d))) r1 h2 (fun d hd => (List.mem_filter.1 hd).1) (filter_apart (sorted_of hb) _) (fun x hx => by
    obtain ⟨e, he, hse⟩ := hasE_iff.1 ((h4 x).1 hx).2
    exact ⟨e, he, hse.1.symm, hse.2.symm⟩)
  rw [k1]
  congr 1
  refine sorted_ext _ _ (sorted_of k2) (sorted_of hb) (fun x => ?_)
  rw [k3]
  constructor
  · rintro (m1 | ⟨m1, m2⟩)
    · exact (List.mem_filter.1 m1).1
    · obtain ⟨p1, p2⟩ := (h4 x).1 m1
      obtain ⟨y, hy, hsy⟩ := hasE_iff.1 p2
      by_cases hya : y ∈ a
      · have := ends_unique ha hya p1 hsy
        rw [← this]; exact hy
      · exact absurd ⟨hsy.1.symm, hsy.2.symm⟩ (m2 y (List.mem_filter.2 ⟨hy, by simp [isE, hya]⟩))
  · intro hx
    by_cases hxa : x ∈ a
    · refine .inr ⟨(h4 x).2 ⟨hxa, hasE_iff.2 ⟨x, hx, rfl, rfl⟩⟩, fun d hd hs => ?_⟩
      have hd2 := List.mem_filter.1 hd
      have := ends_unique hb hx hd2.1 hs
      rw [← this] at hd2
      simp [isE, hxa] at hd2
    · exact .inl (List.mem_filter.2 ⟨hx, by simp [isE, hxa]⟩)

/-! how many they are -/
def endsC (c : Ch) : Int × Int := (c.2.1, c.2.2.1)
theorem dfL_mem {a b : List Ed} {c : Ch} : c ∈ dfL a b ↔ (∃ d ∈ a, hasE b d = false ∧ c = cutC d) ∨ (∃ d ∈ b, d ∉ a ∧ c = putC d) := by
  unfold dfL dfC dfP
  rw [List.mem_append, List.mem_map, List.mem_map]
  constructor
  · rintro (⟨d, hd, rfl⟩ | ⟨d, hd, rfl⟩)
    · have := List.mem_filter.1 hd
      exact .inl ⟨d, this.1, by simpa using this.2, rfl⟩
    · have := List.mem_filter.1 hd
      exact .inr ⟨d, this.1, by simpa [isE] using this.2, rfl⟩
  · rintro (⟨d, hd, h, rfl⟩ | ⟨d, hd, h, rfl⟩)
    · exact .inl ⟨d, List.mem_filter.2 ⟨hd, by simp [h]⟩, rfl⟩
    · exact .inr ⟨d, List.mem_filter.2 ⟨hd, by simp [isE, h]⟩, rfl⟩
theorem dfL_nodup {n : Int} {a b : List Ed} (ha : gVal n a = true) (hb : gVal n b = true) : ((dfL a b).map endsC).Nodup := by
  unfold dfL dfC dfP
  rw [List.map_append, List.map_map, List.map_map]
  unfold List.Nodup
  rw [List.pairwise_append]
  refine ⟨?_, ?_, ?_⟩
  · exact ends_nodup ((sorted_of ha).sublist (List.filter_sublist (p := fun d => !(hasE b d))))
  · exact ends_nodup ((sorted_of hb).sublist (List.filter_sublist (p := fun d => !(isE a d))))
  · intro x hx y hy e
    obtain ⟨d, hd, rfl⟩ := List.mem_map.1 hx
    obtain ⟨f, hf, rfl⟩ := List.mem_map.1 hy
    have h1 := (List.mem_filter.1 hd).2
    have h2 := (List.mem_filter.1 hf).1
    have he : endsE d = endsE f := e
    rw [endsE_iff] at he
    have : hasE b d = true := hasE_iff.2 ⟨f, h2, he.1.symm, he.2.symm⟩
    rw [this] at h1; cases h1
/-- What no change touches stays. -/
theorem runC_far {n : Int} {p : Int × Int} : ∀ (cs : List Ch) (es r : List Ed), gVal n es = true → runC n (some es) cs = some r → (∀ c ∈ cs, endsC c ≠ p) → ∀ x, endsE x = p → (x ∈ r ↔ x ∈ es)
  | [], es, r, _, h, _, x, _ => by injection h with h; rw [h]
  | c :: cs, es, r, hg, h, hf, x, hx => by
    have h' : runC n (apG n es c) cs = some r := h
    cases hc : apG n es c with
    | none => rw [hc, runC_none] at h'; cases h'
    | some m =>
      rw [hc] at h'
      have ih := runC_far cs m r (apG_val hc) h' (fun d hd => hf d (by simp [hd])) x hx
      rw [ih]
      have hne := hf c (by simp)
      have hxc : ¬ (x.1 = c.2.1 ∧ x.2.1 = c.2.2.1) := fun e => hne (by rw [← hx]; unfold endsC endsE; rw [e.1, e.2])
      obtain ⟨u, d⟩ := c
      unfold apG at hc
      cases u
      · simp only [Bool.false_eq_true, if_false] at hc
        split at hc
        · injection hc with hc
          rw [← hc, pL_iff hg]
          constructor
          · rintro (e | ⟨e, _⟩)
            · exact absurd ⟨by rw [e], by rw [e]⟩ hxc
            · exact e
          · intro e
            exact .inr ⟨e, hxc⟩
        · cases hc
      · simp only [if_true] at hc
        split at hc
        · rename_i hk
          injection hc with hc
          have hk2 := hk.2
          unfold kB at hk2
          rw [Bool.and_eq_true] at hk2
          rw [← hc, ← cutL_val hg hk2.2, cutL_mem]
          exact ⟨fun e => e.1, fun e => ⟨e, hxc⟩⟩
        · cases hc
theorem net_few {n : Int} {es r : List Ed} {cs : List Ch} (hg : gVal n es = true) (h : runC n (some es) cs = some r) (hr : gVal n r = true) : (dfL es r).length ≤ cs.length ∧ (dfL r es).length ≤ cs.length := by
  have touch : ∀ d : Ed, ¬ (d ∈ r ↔ d ∈ es) → endsE d ∈ cs.map endsC := fun d hd => by
    apply Classical.byContradiction
    intro hn
    exact hd (runC_far cs es r hg h (fun c hc e => hn (List.mem_map.2 ⟨c, hc, e⟩)) d rfl)
  constructor
  · have := nodup_len ((dfL es r).map endsC) (cs.map endsC) (dfL_nodup hg hr) (fun x hx => by
      obtain ⟨c, hc, rfl⟩ := List.mem_map.1 hx
      rcases dfL_mem.1 hc with ⟨d, hd, hh, rfl⟩ | ⟨d, hd, hh, rfl⟩
      · refine touch d (fun e => ?_)
        have := hasE_iff.2 ⟨d, e.2 hd, rfl, rfl⟩
        rw [hh] at this; cases this
      · exact touch d (fun e => hh (e.1 hd)))
    simpa using this
  · have := nodup_len ((dfL r es).map endsC) (cs.map endsC) (dfL_nodup hr hg) (fun x hx => by
      obtain ⟨c, hc, rfl⟩ := List.mem_map.1 hx
      rcases dfL_mem.1 hc with ⟨d, hd, hh, rfl⟩ | ⟨d, hd, hh, rfl⟩
      · refine touch d (fun e => ?_)
        have := hasE_iff.2 ⟨d, e.1 hd, rfl, rfl⟩
        rw [hh] at this; cases this
      · exact touch d (fun e => hh (e.2 hd)))
    simpa using this
theorem diff_back_le {n : Int} {a b : List Ed} (ha : gVal n a = true) (hb : gVal n b = true) : (dfL b a).length ≤ (dfL a b).length := by
  have := nodup_len ((dfL b a).map endsC) ((dfL a b).map endsC) (dfL_nodup hb ha) (fun x hx => by
    obtain ⟨c, hc, rfl⟩ := List.mem_map.1 hx
    rcases dfL_mem.1 hc with ⟨d, hd, hh, rfl⟩ | ⟨d, hd, hh, rfl⟩
    · refine List.mem_map.2 ⟨putC d, dfL_mem.2 (.inr ⟨d, hd, fun e => ?_, rfl⟩), rfl⟩
      have := hasE_iff.2 ⟨d, e, rfl, rfl⟩
      rw [hh] at this; cases this
    · cases hy : hasE b d
      · exact List.mem_map.2 ⟨cutC d, dfL_mem.2 (.inl ⟨d, hd, hy, rfl⟩), rfl⟩
      · obtain ⟨y, hyb, hs⟩ := hasE_iff.1 hy
        refine List.mem_map.2 ⟨putC y, dfL_mem.2 (.inr ⟨y, hyb, fun e => ?_, rfl⟩), ?_⟩
        · have := ends_unique ha e hd hs
          rw [this] at hyb; exact hh hyb
        · show (y.1, y.2.1) = (d.1, d.2.1)
          rw [hs.1, hs.2])
  simpa using this
theorem diff_back {n : Int} {a b : List Ed} (ha : gVal n a = true) (hb : gVal n b = true) : (dfL b a).length = (dfL a b).length := Nat.le_antisymm (diff_back_le ha hb) (diff_back_le hb ha)
theorem diff_self (a : List Ed) : dfL a a = [] := by
  apply List.eq_nil_iff_forall_not_mem.2
  intro c hc
  rcases dfL_mem.1 hc with ⟨d, hd, hh, rfl⟩ | ⟨d, hd, hh, rfl⟩
  · have := hasE_iff.2 ⟨d, hd, rfl, rfl⟩
    rw [hh] at this; cases this
  · exact hh hd
theorem diff_nil {n : Int} {a b : List Ed} (ha : gVal n a = true) (hb : gVal n b = true) : dfL a b = [] ↔ a = b := by
  constructor
  · intro h
    have := apply_diff ha hb
    rw [h] at this
    have h0 : apT n a [] ([] : List Ch).length = some a := apT_zero n a []
    rw [h0] at this
    injection this
  · rintro rfl; exact diff_self a
/-- Changes that can be made: their net changes can be, and lead to the same. -/
theorem net_ok {n : Int} {es : List Ed} {cs : List Ch} (h : apB n es cs = true) : apB n es (dfL es (apR n es cs)) = true ∧ apR n es (dfL es (apR n es cs)) = apR n es cs ∧ (dfL es (apR n es cs)).length ≤ cs.length := by
  obtain ⟨h1, h2, h3⟩ := apB_out h
  have hv := apR_val h
  have hd := apply_diff h2 hv
  have hf := (net_few h2 (by rw [← apT_run]; exact h3) hv).1
  have hb : apB n es (dfL es (apR n es cs)) = true := apB_some (by omega) h2 hd
  exact ⟨hb, apR_yes hb hd, hf⟩
theorem undo_ok {n : Int} {es : List Ed} {cs : List Ch} (h : apB n es cs = true) : apB n (apR n es cs) (dfL (apR n es cs) es) = true ∧ apR n (apR n es cs) (dfL (apR n es cs) es) = es ∧ (dfL (apR n es cs) es).length ≤ cs.length := by
  obtain ⟨h1, h2, h3⟩ := apB_out h
  have hv := apR_val h
  have hd := apply_diff hv h2
  have hf := (net_few h2 (by rw [← apT_run]; exact h3) hv).2
  have hb : apB n (apR n es cs) (dfL (apR n es cs) es) = true := apB_some (by omega) hv hd
  exact ⟨hb, apR_yes hb hd, hf⟩
theorem parts_ok {n : Int} {es : List Ed} {cs : List Ch} (h : apB n es cs = true) {k : Nat} (hk : k ≤ cs.length) : apB n es (cs.take k) = true ∧ apB n (apR n es (cs.take k)) (cs.drop k) = true ∧ apR n (apR n es (cs.take k)) (cs.drop k) = apR n es cs := by
  obtain ⟨h1, h2, h3⟩ := apB_out h
  obtain ⟨m, hm⟩ := apT_some h3 k hk
  have hm2 : apT n es (cs.take k) (cs.take k).length = some m := by rw [apT_takeAll]; exact hm
  have hb : apB n es (cs.take k) = true := apB_some (by rw [List.length_take]; omega) h2 hm2
  have hr : apR n es (cs.take k) = m := apR_yes hb hm2
  have hd := apT_drop hm
  rw [h3] at hd
  have hb2 : apB n m (cs.drop k) = true := apB_some (by rw [List.length_drop]; omega) (apT_val h2 cs _ _ hm) hd
  rw [hr]
  exact ⟨hb, hb2, apR_yes hb2 hd⟩
end Go.Proofs.Ytbhhbhopogkmnaa
