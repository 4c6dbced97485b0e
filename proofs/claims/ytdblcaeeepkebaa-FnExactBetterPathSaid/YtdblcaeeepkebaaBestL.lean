/- Settling nodes, the best one first: what comes out (mathematics). -/
import Derived.Test.YtdblcaeeepkebaaBestI
import Derived.Test.YtdblcaeeepkebaaBestV
namespace Go.Proofs.Ytdblcaeeepkebaa
set_option linter.unusedVariables false
set_option linter.unusedSimpArgs false

theorem getD_app_l {l k : List Int} {i : Nat} (h : i < l.length) (d : Int) : (l ++ k).getD i d = l.getD i d := by
  simp [List.getD, List.getElem?_append, h]
theorem getD_app_r {l : List Int} {x d : Int} : (l ++ [x]).getD l.length d = x := by
  simp [List.getD]
theorem getD_mem {l : List Int} {i : Nat} (h : i < l.length) (d : Int) : l.getD i d ∈ l := by
  rw [show l.getD i d = l[i] by simp [List.getD, h]]
  exact List.getElem_mem h

/-- What looking from a node at a row of edges does. -/
structure Sc (m : Int) (N i : Nat) (l : List Ed) (st st' : St) : Prop where
  ok : StOk m N st'
  done : st'.done = st.done
  ord : st'.ord = st.ord
  keep : ∀ j, j < N → st.done.getD j true = true → st'.vals.getD j 0 = st.vals.getD j 0 ∧ st'.par.getD j 0 = st.par.getD j 0
  le : ∀ j, j < N → mBet m (st.vals.getD j 0) (st'.vals.getD j 0) = false
  give : ∀ e ∈ l, e.1 = (i : Int) → st.done.getD e.2.1.toNat true = false → mBet m (vGive m st.vals e) (st'.vals.getD e.2.1.toNat 0) = false
  how : ∀ j, j < N → (st'.vals.getD j 0 = st.vals.getD j 0 ∧ st'.par.getD j 0 = st.par.getD j 0) ∨ ∃ e ∈ l, e.1 = (i : Int) ∧ e.2.1.toNat = j ∧ st.done.getD j true = false ∧ st'.vals.getD j 0 = vGive m st.vals e ∧ st'.par.getD j 0 = (i : Int) ∧ st'.vals.getD j 0 ≠ mNone m
  looks : st.looks ≤ st'.looks ∧ st'.looks ≤ st.looks + ((l.countP (fun e => decide (e.1 = (i : Int))) : Nat) : Int)
theorem bet_ne_none {m a b : Int} (hb : mIn m b = true) (h : mBet m a b = true) : a ≠ mNone m := by
  intro e
  rw [e, none_worst hb] at h
  cases h
theorem sc_nil {m : Int} {N i : Nat} {st : St} (hm : mKind m = true) (h : StOk m N st) : Sc m N i [] st st :=
  ⟨h, rfl, rfl, fun _ _ _ => ⟨rfl, rfl⟩, fun _ _ => le_refl' hm, (fun e he => by cases he), fun _ _ => .inl ⟨rfl, rfl⟩, (by simp)⟩
theorem sc_one {m : Int} {N i : Nat} {st : St} {e : Ed} (hm : mKind m = true) (h : StOk m N st) (hi : i < N) (hd : st.done.getD i true = true)
    (he : (0 ≤ e.1 ∧ e.1.toNat < N) ∧ (0 ≤ e.2.1 ∧ e.2.1.toNat < N) ∧ mWeight e.2.2 = true) : Sc m N i [e] st (stLook m i st e) := by
  have hok : StOk m N (stLook m i st e) := stLook_ok hm h he.1.2 he.2.2
  unfold stLook at hok ⊢
  by_cases hl : isLook (i : Int) st e = true
  · rw [if_pos hl] at hok ⊢
    unfold isLook at hl
    rw [Bool.and_eq_true, decide_eq_true_eq] at hl
    obtain ⟨h1, h2⟩ := hl
    have h2' : st.done.getD e.2.1.toNat true = false := by simpa using h2
    have hc : ([e].countP (fun e => decide (e.1 = (i : Int)))) = 1 := by simp [h1]
    unfold stFollow at hok ⊢
    by_cases hb : stBetter m (stTick st) e = true
    · rw [if_pos hb] at hok ⊢
      have hb' : mBet m (vGive m st.vals e) (st.vals.getD e.2.1.toNat 0) = true := hb
      have hgv : ∀ j, j < N → (st.vals.set e.2.1.toNat (vGive m st.vals e)).getD j 0 = if e.2.1.toNat = j then vGive m st.vals e else st.vals.getD j 0 := fun j hj => getD_set _ _ _ _ (by rw [h.vals]; exact hj)
      have hgp : ∀ j, j < N → (st.par.set e.2.1.toNat e.1).getD j 0 = if e.2.1.toNat = j then e.1 else st.par.getD j 0 := fun j hj => getD_set _ _ _ _ (by rw [h.par]; exact hj)
      have hne : vGive m st.vals e ≠ mNone m := bet_ne_none (h.all _ (by rw [h.vals]; exact he.2.1.2)) hb'
      refine ⟨hok, rfl, rfl, fun j hj hjd => ?_, fun j hj => ?_, fun e' he' _ _ => ?_, fun j hj => ?_, ?_⟩
      · have hn : ¬ e.2.1.toNat = j := by intro q; subst q; rw [h2'] at hjd; cases hjd
        refine ⟨?_, ?_⟩
        · show (st.vals.set e.2.1.toNat (vGive m st.vals e)).getD j 0 = _
          rw [hgv j hj, if_neg hn]
        · show (st.par.set e.2.1.toNat e.1).getD j 0 = _
          rw [hgp j hj, if_neg hn]
      · show mBet m _ ((st.vals.set e.2.1.toNat (vGive m st.vals e)).getD j 0) = false
        rw [hgv j hj]
        split
        · rename_i q; subst q; exact lt_le hm hb'
        · exact le_refl' hm
      · rw [List.mem_singleton.1 he']
        show mBet m _ ((st.vals.set e.2.1.toNat (vGive m st.vals e)).getD e.2.1.toNat 0) = false
        rw [hgv _ he.2.1.2, if_pos rfl]
        exact le_refl' hm
      · by_cases q : e.2.1.toNat = j
        · refine .inr ⟨e, List.mem_singleton.2 rfl, h1, q, by rw [← q]; exact h2', ?_, ?_, ?_⟩
          · show (st.vals.set e.2.1.toNat (vGive m st.vals e)).getD j 0 = _
            rw [hgv j hj, if_pos q]
          · show (st.par.set e.2.1.toNat e.1).getD j 0 = _
            rw [hgp j hj, if_pos q, h1]
          · show (st.vals.set e.2.1.toNat (vGive m st.vals e)).getD j 0 ≠ _
            rw [hgv j hj, if_pos q]
            exact hne
        · refine .inl ⟨?_, ?_⟩
          · show (st.vals.set e.2.1.toNat (vGive m st.vals e)).getD j 0 = _
            rw [hgv j hj, if_neg q]
          · show (st.par.set e.2.1.toNat e.1).getD j 0 = _
            rw [hgp j hj, if_neg q]
      · rw [hc]
        show st.looks ≤ st.looks + 1 ∧ st.looks + 1 ≤ st.looks + ((1 : Nat) : Int)
        omega
    · rw [if_neg hb] at hok ⊢
      have hb' : mBet m (vGive m st.vals e) (st.vals.getD e.2.1.toNat 0) = false := by
        rw [Bool.not_eq_true] at hb; exact hb
      refine ⟨hok, rfl, rfl, fun j hj hjd => ⟨rfl, rfl⟩, fun j hj => le_refl' hm, fun e' he' _ _ => ?_, fun j hj => .inl ⟨rfl, rfl⟩, ?_⟩
      · rw [List.mem_singleton.1 he']; exact hb'
      · rw [hc]
        show st.looks ≤ st.looks + 1 ∧ st.looks + 1 ≤ st.looks + ((1 : Nat) : Int)
        omega
  · rw [if_neg hl] at hok ⊢
    refine ⟨h, rfl, rfl, fun j hj hjd => ⟨rfl, rfl⟩, fun j hj => le_refl' hm, fun e' he' h1 h2 => ?_, fun j hj => .inl ⟨rfl, rfl⟩, ?_⟩
    · rw [List.mem_singleton.1 he'] at h1 h2 ⊢
      exact absurd (show isLook (i : Int) st e = true by unfold isLook; rw [h1, h2]; simp) hl
    · omega
theorem Sc.trans {m : Int} {N i : Nat} {l l' : List Ed} {st st1 st2 : St} (hm : mKind m = true) (hi : i < N) (hd : st.done.getD i true = true) (hl : ∀ e ∈ l', e.2.1.toNat < N) (hl0 : ∀ e ∈ l, e.2.1.toNat < N)
    (h1 : Sc m N i l st st1) (h2 : Sc m N i l' st1 st2) : Sc m N i (l ++ l') st st2 := by
  have hg : ∀ e : Ed, e.1 = (i : Int) → vGive m st1.vals e = vGive m st.vals e := by
    intro e he
    unfold vGive
    rw [he, Int.toNat_natCast, (h1.keep i hi hd).1]
  refine ⟨h2.ok, h2.done.trans h1.done, h2.ord.trans h1.ord, fun j hj hjd => ?_, fun j hj => le_trans' hm (h2.le j hj) (h1.le j hj), fun e he he1 he2 => ?_, fun j hj => ?_, ?_⟩
  · have a := h1.keep j hj hjd
    have b := h2.keep j hj (by rw [h1.done]; exact hjd)
    exact ⟨b.1.trans a.1, b.2.trans a.2⟩
  · rcases List.mem_append.1 he with q | q
    · exact le_trans' hm (h2.le _ (hl0 e q)) (h1.give e q he1 he2)
    · have := h2.give e q he1 (by rw [h1.done]; exact he2)
      rwa [hg e he1] at this
  · rcases h2.how j hj with ⟨a, b⟩ | ⟨e, q1, q2, q3, q4, q5, q6, q7⟩
    · rcases h1.how j hj with ⟨c, d⟩ | ⟨e, q1, q2, q3, q4, q5, q6, q7⟩
      · exact .inl ⟨a.trans c, b.trans d⟩
      · exact .inr ⟨e, List.mem_append.2 (.inl q1), q2, q3, q4, a.trans q5, b.trans q6, by rw [a]; exact q7⟩
    · exact .inr ⟨e, List.mem_append.2 (.inr q1), q2, q3, by rw [← h1.done]; exact q4, by rw [q5, hg e q2], q6, q7⟩
  · have a := h1.looks
    have b := h2.looks
    rw [List.countP_append]
    omega
theorem sc_scan {m : Int} {N i : Nat} (hm : mKind m = true) (hi : i < N) : ∀ (l : List Ed) (st : St), StOk m N st → st.done.getD i true = true → eAll N l → Sc m N i l st (stScan m i l st)
  | [], st, h, _, _ => sc_nil hm h
  | e :: l, st, h, hd, he => by
    have h1 := sc_one (e := e) hm h hi hd (he e (List.mem_cons_self ..))
    have h2 := sc_scan hm hi l _ h1.ok (by rw [h1.done]; exact hd) (fun e' h' => he e' (List.mem_cons_of_mem _ h'))
    exact h1.trans hm hi hd (fun e' h' => (he e' (List.mem_cons_of_mem _ h')).2.1.2) (fun e' h' => by rw [List.mem_singleton.1 h']; exact (he e (List.mem_cons_self ..)).2.1.2) h2

/-- The edges from settled nodes, but those from x. -/
def lkB (x : Int) (done : List Bool) (e : Ed) : Bool := decide (e.1 ≠ x) && done.getD e.1.toNat true
theorem countP_two {α : Type} (p q r : α → Bool) : ∀ (l : List α), (∀ x ∈ l, p x = true → q x = false ∧ r x = true) → (∀ x ∈ l, q x = true → r x = true) → l.countP p + l.countP q ≤ l.countP r
  | [], _, _ => by simp
  | x :: l, h1, h2 => by
    have ih := countP_two p q r l (fun y hy => h1 y (List.mem_cons_of_mem _ hy)) (fun y hy => h2 y (List.mem_cons_of_mem _ hy))
    have a := h1 x (List.mem_cons_self ..)
    have b := h2 x (List.mem_cons_self ..)
    simp only [List.countP_cons]
    cases hp : p x
    · cases hq : q x
      · simp; omega
      · rw [b hq]; simp; omega
    · obtain ⟨c, d⟩ := a hp
      rw [c, d]; simp; omega
/-- What holds whenever a node is to be settled (x = -1), or when one has been and its edges are not looked at yet (x the node). -/
structure DjI (m : Int) (N a : Nat) (es : List Ed) (x : Int) (st : St) : Prop where
  ok : StOk m N st
  mem : ∀ i, i < N → (st.done.getD i true = true ↔ (i : Int) ∈ st.ord)
  rng : ∀ y ∈ st.ord, 0 ≤ y ∧ y.toNat < N
  nodup : st.ord.Nodup
  low : ∀ i, i < N → mBet m (st.vals.getD i 0) ((vRt m N es a).getD i 0) = false
  src : st.vals.getD a 0 = mOne m
  sep : ∀ i j, i < N → j < N → st.done.getD i true = true → st.done.getD j true = false → mBet m (st.vals.getD j 0) (st.vals.getD i 0) = false
  tight : ∀ e ∈ es, e.1 ≠ x → st.done.getD e.1.toNat true = true → mBet m (vGive m st.vals e) (st.vals.getD e.2.1.toNat 0) = false
  some : ∀ i, i < N → st.done.getD i true = true → st.vals.getD i 0 ≠ mNone m
  mono : ∀ k, k + 1 < st.ord.length → mBet m (st.vals.getD (st.ord.getD (k + 1) 0).toNat 0) (st.vals.getD (st.ord.getD k 0).toNat 0) = false
  looks : 0 ≤ st.looks ∧ st.looks ≤ ((es.countP (lkB x st.done) : Nat) : Int)
  par0 : st.par.getD a 0 = -1
  parN : ∀ j, j < N → j ≠ a → st.vals.getD j 0 ≠ mNone m → ∃ e ∈ es, e.2.1.toNat = j ∧ e.1 = st.par.getD j 0 ∧ st.vals.getD j 0 = vGive m st.vals e ∧ st.par.getD j 0 ∈ st.ord
  parO : ∀ k, k < st.ord.length → 1 ≤ k → st.par.getD (st.ord.getD k 0).toNat 0 ∈ st.ord.take k
  head : st.ord.getD 0 (a : Int) = a
  last : ∀ i : Nat, x = (i : Int) → i < N → ∀ j, j < N → st.done.getD j true = true → mBet m (st.vals.getD i 0) (st.vals.getD j 0) = false
  init : st.ord = [] → ∀ j, j < N → j ≠ a → st.vals.getD j 0 = mNone m
section
variable {m : Int} {N a : Nat} {es : List Ed} {st : St}
theorem dj_start (hm : mKind m = true) (he : eAll N es) (ha : a < N) : DjI m N a es (-1) (bf0 m N a) := by
  have hv : ∀ j, j < N → (bf0 m N a).vals.getD j 0 = if (j : Int) = a then mOne m else mNone m := fun j hj => vStart_at m N a (by rw [Int.toNat_natCast]; exact hj)
  have hd : ∀ j, j < N → (bf0 m N a).done.getD j true = false := by
    intro j hj
    show (List.replicate N false).getD j true = false
    simp [List.getD, hj]
  have hp : ∀ j, j < N → (bf0 m N a).par.getD j 0 = -1 := by
    intro j hj
    show (List.replicate N (-1)).getD j 0 = -1
    simp [List.getD, hj]
  have heN : eAll ((N : Int)).toNat es := by rw [Int.toNat_natCast]; exact he
  have hrt : ∀ i, i < N → mIn m ((vRt m N es a).getD i 0) = true := fun i hi => vRt_in hm heN a (by rw [Int.toNat_natCast]; exact hi)
  have hsr := vRt_src (n := N) hm heN (a := a) (by omega) (by rw [Int.toNat_natCast, Int.toNat_natCast]; exact ha)
  rw [Int.toNat_natCast] at hsr
  refine ⟨⟨by simp [bf0], by simp [bf0, vStart_length], by simp [bf0], vStart_all hm⟩, fun i hi => ?_, (fun y hy => by cases hy), List.nodup_nil, fun i hi => ?_, ?_, fun i j hi _ h => ?_, fun e hein _ h => ?_, fun i hi h => ?_, (fun k hk => by simp [bf0] at hk), ?_, hp a ha, fun j hj hja hn => ?_, (fun k hk => by simp [bf0] at hk), rfl, (fun i q => by omega), fun _ j hj hja => ?_⟩
  · rw [hd i hi]; simp [bf0]
  · rw [hv i hi]
    split
    · rename_i q
      have : i = a := by omega
      rw [this, hsr]; exact le_refl' hm
    · exact none_worst (hrt i hi)
  · rw [hv a ha, if_pos rfl]
  · rw [hd i hi] at h; cases h
  · rw [hd _ (he e hein).1.2] at h; cases h
  · rw [hd i hi] at h; cases h
  · refine ⟨Int.le_refl _, ?_⟩
    show (0 : Int) ≤ _
    omega
  · rw [hv j hj, if_neg (by omega)] at hn; exact absurd rfl hn
  · rw [hv j hj, if_neg (by omega)]
theorem dj_mark (hm : mKind m = true) (he : eAll N es) (ha : a < N) (h : DjI m N a es (-1) st) {i : Nat} (hi : i < N) (hok : okN m st.vals st.done i = true) (hmin : ∀ j, j < N → okN m st.vals st.done j = true → mBet m (st.vals.getD j 0) (st.vals.getD i 0) = false) :
    DjI m N a es i (stMark i st) := by
  have hd0 : st.done.getD i true = false := okN_lt hok
  have hvn : st.vals.getD i 0 ≠ mNone m := by
    intro q
    unfold okN at hok
    rw [q] at hok
    simp at hok
  have hD : ∀ j, j < N → (stMark i st).done.getD j true = if i = j then true else st.done.getD j true := fun j hj => getD_set_b _ _ _ (by rw [h.ok.done]; exact hj)
  have hni : (i : Int) ∉ st.ord := fun q => by rw [(h.mem i hi).2 q] at hd0; cases hd0
  have hallj : ∀ j, j < N → st.done.getD j true = false → mBet m (st.vals.getD j 0) (st.vals.getD i 0) = false := by
    intro j hj hjd
    by_cases q : st.vals.getD j 0 = mNone m
    · rw [q]; exact none_worst (h.ok.all i (by rw [h.ok.vals]; exact hi))
    · exact hmin j hj (by unfold okN; rw [hjd, decide_eq_false q]; rfl)
  have hmem : ∀ k, k < st.ord.length → st.ord.getD k 0 ∈ st.ord := fun k hk => getD_mem hk 0
  have hOl : ∀ k, k < st.ord.length → (stMark i st).ord.getD k 0 = st.ord.getD k 0 := fun k hk => getD_app_l hk 0
  have hOr : (stMark i st).ord.getD st.ord.length 0 = i := getD_app_r
  have hlen : (stMark i st).ord.length = st.ord.length + 1 := by simp [stMark]
  have hdn : ∀ y ∈ st.ord, st.done.getD y.toNat true = true := by
    intro y hy
    obtain ⟨y0, y1⟩ := h.rng y hy
    exact (h.mem y.toNat y1).2 (by rw [show ((y.toNat : Nat) : Int) = y by omega]; exact hy)
  refine ⟨stMark_ok h.ok i, fun j hj => ?_, fun y hy => ?_, ?_, h.low, h.src, fun j k hj hk hjd hkd => ?_, fun e hein hx hed => ?_, fun j hj hjd => ?_, fun k hk => ?_, ?_, h.par0, fun j hj hja hn => ?_, fun k hk h1 => ?_, ?_, fun i' q hi' j hj hjd => ?_, fun q => ?_⟩
  · rw [hD j hj]
    show _ ↔ (j : Int) ∈ st.ord ++ [(i : Int)]
    rw [List.mem_append, List.mem_singleton]
    by_cases q : i = j
    · rw [if_pos q]; subst q; simp
    · rw [if_neg q, h.mem j hj]
      constructor
      · exact .inl
      · rintro (r | r)
        · exact r
        · exact absurd (by omega) q
  · rcases List.mem_append.1 hy with q | q
    · exact h.rng y q
    · rw [List.mem_singleton.1 q]; exact ⟨by omega, by rw [Int.toNat_natCast]; exact hi⟩
  · show (st.ord ++ [(i : Int)]).Nodup
    rw [List.nodup_append]
    refine ⟨h.nodup, by simp, fun y hy z hz => ?_⟩
    rw [List.mem_singleton.1 hz]
    intro q; subst q; exact hni hy
  · rw [hD j hj] at hjd
    rw [hD k hk] at hkd
    have hkd' : st.done.getD k true = false := by
      split at hkd
      · cases hkd
      · exact hkd
    show mBet m (st.vals.getD k 0) (st.vals.getD j 0) = false
    by_cases q : i = j
    · rw [← q]; exact hallj k hk hkd'
    · rw [if_neg q] at hjd; exact h.sep j k hj hk hjd hkd'
  · have hee := he e hein
    rw [hD _ hee.1.2, if_neg (by omega)] at hed
    exact h.tight e hein (by omega) hed
  · rw [hD j hj] at hjd
    show st.vals.getD j 0 ≠ _
    by_cases q : i = j
    · rw [← q]; exact hvn
    · rw [if_neg q] at hjd; exact h.some j hj hjd
  · rw [hlen] at hk
    show mBet m (st.vals.getD _ 0) (st.vals.getD _ 0) = false
    rw [hOl k (by omega)]
    by_cases q : k + 1 < st.ord.length
    · rw [hOl (k + 1) q]; exact h.mono k q
    · rw [show k + 1 = st.ord.length by omega, hOr, Int.toNat_natCast]
      have hy := hmem k (by omega)
      obtain ⟨y0, y1⟩ := h.rng _ hy
      exact h.sep _ i y1 hi (hdn _ hy) hd0
  · refine ⟨h.looks.1, Int.le_trans h.looks.2 ?_⟩
    have : es.countP (lkB (-1) st.done) ≤ es.countP (lkB i (stMark i st).done) := by
      apply List.countP_mono_left
      intro e hein hp
      have hee := he e hein
      unfold lkB at hp ⊢
      rw [Bool.and_eq_true] at hp
      have hne : ¬ e.1 = (i : Int) := by
        intro q
        rw [q, Int.toNat_natCast, hd0] at hp
        exact absurd hp.2 (by decide)
      rw [hD _ hee.1.2, if_neg (by omega), hp.2, decide_eq_true hne]
      rfl
    show _ ≤ ((es.countP (lkB i (stMark i st).done) : Nat) : Int)
    omega
  · obtain ⟨e, p1, p2, p3, p4, p5⟩ := h.parN j hj hja hn
    exact ⟨e, p1, p2, p3, p4, List.mem_append.2 (.inl p5)⟩
  · rw [hlen] at hk
    show st.par.getD _ 0 ∈ (st.ord ++ [(i : Int)]).take k
    rw [List.take_append_of_le_length (by omega)]
    by_cases q : k < st.ord.length
    · rw [hOl k q]; exact h.parO k q h1
    · have hkl : k = st.ord.length := by omega
      subst hkl
      rw [hOr, Int.toNat_natCast, List.take_length]
      by_cases r : i = a
      · exfalso
        have hy := hmem 0 (by omega)
        have hh := h.head
        rw [show st.ord.getD 0 (a : Int) = st.ord.getD 0 0 by simp [List.getD, show 0 < st.ord.length by omega]] at hh
        rw [hh, ← r] at hy
        exact hni hy
      · exact (h.parN i hi r hvn).choose_spec.2.2.2.2
  · show (st.ord ++ [(i : Int)]).getD 0 (a : Int) = a
    by_cases q : st.ord = []
    · rw [q]
      show (i : Int) = a
      by_cases r : i = a
      · omega
      · exact absurd (h.init q i hi r) hvn
    · have hl : 0 < st.ord.length := List.length_pos_iff.2 q
      rw [getD_app_l hl]; exact h.head
  · have e0 : i' = i := by omega
    subst e0
    rw [hD j hj] at hjd
    show mBet m (st.vals.getD i' 0) (st.vals.getD j 0) = false
    by_cases r : i' = j
    · rw [← r]; exact le_refl' hm
    · rw [if_neg r] at hjd; exact h.sep j i' hj hi hjd hd0
  · simp [stMark] at q
theorem dj_scan (hm : mKind m = true) (he : eAll N es) (ha : a < N) {i : Nat} (hi : i < N) (h : DjI m N a es i st) (hd : st.done.getD i true = true) {st' : St} (s : Sc m N i es st st') : DjI m N a es (-1) st' := by
  have heN : eAll ((N : Int)).toNat es := by rw [Int.toNat_natCast]; exact he
  have hrt : ∀ i, i < N → mIn m ((vRt m N es a).getD i 0) = true := fun i hi => vRt_in hm heN a (by rw [Int.toNat_natCast]; exact hi)
  have hin : ∀ i, i < N → mIn m (st.vals.getD i 0) = true := fun i hi => h.ok.all i (by rw [h.ok.vals]; exact hi)
  have hadone : st.ord ≠ [] := fun q => by have := (h.mem i hi).1 hd; rw [q] at this; cases this
  have hgk : ∀ e ∈ es, st.done.getD e.1.toNat true = true → vGive m st'.vals e = vGive m st.vals e := by
    intro e hein hed
    unfold vGive
    rw [(s.keep _ (he e hein).1.2 hed).1]
  have hdn : ∀ y ∈ st.ord, st.done.getD y.toNat true = true ∧ y.toNat < N := by
    intro y hy
    obtain ⟨y0, y1⟩ := h.rng y hy
    exact ⟨(h.mem y.toNat y1).2 (by rw [show ((y.toNat : Nat) : Int) = y by omega]; exact hy), y1⟩
  have hda : st.done.getD a true = true := by
    have hl : 0 < st.ord.length := List.length_pos_iff.2 hadone
    have hh := h.head
    have hy := getD_mem hl 0
    rw [show st.ord.getD 0 (a : Int) = st.ord.getD 0 0 by simp [List.getD, hl]] at hh
    rw [hh] at hy
    simpa using (hdn _ hy).1
  refine ⟨s.ok, (fun j hj => by rw [s.done, s.ord]; exact h.mem j hj), (fun y hy => by rw [s.ord] at hy; exact h.rng y hy), (by rw [s.ord]; exact h.nodup), fun j hj => ?_, (by rw [(s.keep a ha hda).1]; exact h.src), fun j k hj hk hjd hkd => ?_, fun e hein _ hed => ?_, fun j hj hjd => ?_, fun k hk => ?_, ?_, (by rw [(s.keep a ha hda).2]; exact h.par0), fun j hj hja hn => ?_, fun k hk h1 => ?_, (by rw [s.ord]; exact h.head), (fun i' q => by omega), fun q => absurd (s.ord ▸ q) hadone⟩
  · rcases s.how j hj with ⟨q, _⟩ | ⟨e, q1, q2, q3, q4, q5, q6, q7⟩
    · rw [q]; exact h.low j hj
    · rw [q5]
      have hee := he e q1
      have h1 := vRt_st (n := N) hm heN (a := a) (by omega) (by rw [Int.toNat_natCast, Int.toNat_natCast]; exact ha) e q1
      rw [q3] at h1
      refine le_trans' hm h1 ?_
      unfold vGive
      exact join_mono hm (hrt _ hee.1.2) (hin _ hee.1.2) (mEdge_in hm hee.2.2) (h.low _ hee.1.2)
  · rw [s.done] at hjd hkd
    rw [(s.keep j hj hjd).1]
    rcases s.how k hk with ⟨q, _⟩ | ⟨e, q1, q2, q3, q4, q5, q6, q7⟩
    · rw [q]; exact h.sep j k hj hk hjd hkd
    · -- the value that edge e gives is not better than that of i, the last one
      rw [q5]
      have hee := he e q1
      have e1 : e.1.toNat = i := by omega
      have h1 : mBet m (vGive m st.vals e) (st.vals.getD i 0) = false := by
        unfold vGive
        rw [e1]
        exact join_worse hm (hin i hi) (mEdge_in hm hee.2.2)
      exact le_trans' hm (h.last i rfl hi j hj hjd) h1
  · rw [s.done] at hed
    rw [hgk e hein hed]
    by_cases q : e.1 = (i : Int)
    · cases hto : st.done.getD e.2.1.toNat true
      · exact s.give e hein q hto
      · rw [(s.keep _ (he e hein).2.1.2 hto).1]
        have hee := he e hein
        have e1 : e.1.toNat = i := by omega
        have h1 : mBet m (vGive m st.vals e) (st.vals.getD i 0) = false := by
          unfold vGive
          rw [e1]
          exact join_worse hm (hin i hi) (mEdge_in hm hee.2.2)
        exact le_trans' hm (h.last i rfl hi _ hee.2.1.2 hto) h1
    · exact le_trans' hm (s.le _ (he e hein).2.1.2) (h.tight e hein q hed)
  · rw [s.done] at hjd
    rw [(s.keep j hj hjd).1]; exact h.some j hj hjd
  · rw [s.ord] at hk ⊢
    have y1 := hdn _ (getD_mem (show k < st.ord.length by omega) 0)
    have y2 := hdn _ (getD_mem hk 0)
    rw [(s.keep _ y1.2 y1.1).1, (s.keep _ y2.2 y2.1).1]
    exact h.mono k hk
  · refine ⟨Int.le_trans h.looks.1 s.looks.1, Int.le_trans s.looks.2 ?_⟩
    have h2 := h.looks.2
    have : es.countP (lkB i st.done) + es.countP (fun e => decide (e.1 = (i : Int))) ≤ es.countP (lkB (-1) st'.done) := by
      rw [s.done]
      apply countP_two
      · intro e hein hp
        unfold lkB at hp ⊢
        rw [Bool.and_eq_true, decide_eq_true_eq] at hp
        have := (he e hein).1.1
        exact ⟨decide_eq_false hp.1, by rw [hp.2, decide_eq_true (by omega)]; rfl⟩
      · intro e hein hp
        have hp' : e.1 = (i : Int) := by simpa using hp
        unfold lkB
        rw [hp', Int.toNat_natCast, hd, decide_eq_true (by omega)]; rfl
    omega
  · have hpo : ∀ j, j < N → st.par.getD j 0 ∈ st.ord → st.par.getD j 0 ∈ st'.ord := fun j _ q => by rw [s.ord]; exact q
    rcases s.how j hj with ⟨q, q'⟩ | ⟨e, q1, q2, q3, q4, q5, q6, q7⟩
    · rw [q] at hn
      obtain ⟨e, p1, p2, p3, p4, p5⟩ := h.parN j hj hja hn
      refine ⟨e, p1, p2, by rw [q']; exact p3, ?_, by rw [q', s.ord]; exact p5⟩
      rw [q, p4, hgk e p1]
      rw [p3]
      exact (hdn _ p5).1
    · refine ⟨e, q1, q3, by rw [q6]; exact q2, ?_, ?_⟩
      · rw [q5, hgk e q1]
        rw [q2, Int.toNat_natCast]; exact hd
      · rw [q6, s.ord]; exact (h.mem i hi).1 hd
  · rw [s.ord] at hk ⊢
    have y2 := hdn _ (getD_mem hk 0)
    rw [(s.keep _ y2.2 y2.1).2]
    exact h.parO k hk h1
theorem eLess_le {x y : En} (hm : mKind m = true) (h : eLess m x y = false) : mBet m x.2 y.2 = false := by
  unfold eLess at h
  split at h
  · rename_i q; rw [q]; exact le_refl' hm
  · exact h
/-- One round of a run. -/
theorem nx_cases (hm : mKind m = true) (st : St) : (nxF m st.vals st.done = -1 ∧ ∀ j, j < st.vals.length → okN m st.vals st.done j = false) ∨
    ∃ i : Nat, nxF m st.vals st.done = i ∧ i < st.vals.length ∧ okN m st.vals st.done i = true ∧ ∀ j, j < st.vals.length → okN m st.vals st.done j = true → mBet m (st.vals.getD j 0) (st.vals.getD i 0) = false := by
  rcases nxK_spec hm st.vals st.done st.vals.length with ⟨h1, h2⟩ | ⟨i, h1, h2, h3, h4⟩
  · exact .inl ⟨h1, h2⟩
  · exact .inr ⟨i, h1, h2, h3, fun j hj hjo => eLess_le hm (h4 j hj hjo)⟩
theorem run_stop {t : Int} {f : Nat} (h : nxF m st.vals st.done = -1) : stRun m t es (f + 1) st = st := by
  rw [stRun, if_pos (by omega)]
theorem run_hit {t : Int} {f i : Nat} (h : nxF m st.vals st.done = i) (q : (i : Int) = t) : stRun m t es (f + 1) st = stMark i st := by
  rw [stRun, if_neg (by omega), if_pos (by omega), h, Int.toNat_natCast]
theorem run_go {t : Int} {f i : Nat} (h : nxF m st.vals st.done = i) (q : (i : Int) ≠ t) : stRun m t es (f + 1) st = stRun m t es f (stScan m i es (stMark i st)) := by
  rw [stRun, if_neg (by omega), if_neg (by omega), h, Int.toNat_natCast]
/-- What is settled stays so. -/
structure Ext (N : Nat) (st R : St) : Prop where
  ord : ∃ l, R.ord = st.ord ++ l
  looks : st.looks ≤ R.looks
  keep : ∀ j, j < N → st.done.getD j true = true → R.done.getD j true = true ∧ R.vals.getD j 0 = st.vals.getD j 0 ∧ R.par.getD j 0 = st.par.getD j 0
theorem Ext.refl (N : Nat) (st : St) : Ext N st st := ⟨⟨[], by simp⟩, Int.le_refl _, fun _ _ h => ⟨h, rfl, rfl⟩⟩
theorem Ext.trans {N : Nat} {a b c : St} (h : Ext N a b) (k : Ext N b c) : Ext N a c := by
  obtain ⟨l, hl⟩ := h.ord
  obtain ⟨l', hl'⟩ := k.ord
  refine ⟨⟨l ++ l', by rw [hl', hl, List.append_assoc]⟩, Int.le_trans h.looks k.looks, fun j hj hd => ?_⟩
  obtain ⟨p1, p2, p3⟩ := h.keep j hj hd
  obtain ⟨q1, q2, q3⟩ := k.keep j hj p1
  exact ⟨q1, q2.trans p2, q3.trans p3⟩
theorem ext_mark (h : StOk m N st) (i : Nat) : Ext N st (stMark i st) := by
  refine ⟨⟨_, rfl⟩, Int.le_refl _, fun j hj hd => ⟨?_, rfl, rfl⟩⟩
  show (st.done.set i true).getD j true = true
  rw [getD_set_b _ _ _ (by rw [h.done]; exact hj), hd]
  simp
theorem ext_sc {i : Nat} {l : List Ed} {st' : St} (s : Sc m N i l st st') : Ext N st st' :=
  ⟨⟨[], by rw [s.ord, List.append_nil]⟩, s.looks.1, fun j hj hd => ⟨by rw [s.done]; exact hd, s.keep j hj hd⟩⟩
theorem mark_done (h : StOk m N st) {i : Nat} (hi : i < N) : (stMark i st).done.getD i true = true := by
  show (st.done.set i true).getD i true = true
  rw [getD_set_b _ _ _ (by rw [h.done]; exact hi), if_pos rfl]
theorem dj_step (hm : mKind m = true) (he : eAll N es) (ha : a < N) (h : DjI m N a es (-1) st) {i : Nat} (hi : i < st.vals.length) (hok : okN m st.vals st.done i = true) (hmin : ∀ j, j < st.vals.length → okN m st.vals st.done j = true → mBet m (st.vals.getD j 0) (st.vals.getD i 0) = false) :
    i < N ∧ DjI m N a es i (stMark i st) ∧ DjI m N a es (-1) (stScan m i es (stMark i st)) ∧ Ext N (stMark i st) (stScan m i es (stMark i st)) ∧ nd (stScan m i es (stMark i st)).done + 1 = nd st.done ∧ (stScan m i es (stMark i st)).ord = st.ord ++ [(i : Int)] := by
  have hiN : i < N := by rw [← h.ok.vals]; exact hi
  have h1 := dj_mark hm he ha h hiN hok (fun j hj => hmin j (by rw [h.ok.vals]; exact hj))
  have hs := sc_scan hm hiN es _ h1.ok (mark_done h.ok hiN) he
  refine ⟨hiN, h1, dj_scan hm he ha hiN h1 (mark_done h.ok hiN) hs, ext_sc hs, ?_, hs.ord⟩
  rw [hs.done]
  exact nd_set _ _ (okN_lt hok)
theorem dj_run (hm : mKind m = true) (he : eAll N es) (ha : a < N) : ∀ (f : Nat) (st : St), DjI m N a es (-1) st → DjI m N a es (-1) (stRun m (-1) es f st) ∧ Ext N st (stRun m (-1) es f st) ∧ (nd st.done < f → ∀ i, i < N → okN m (stRun m (-1) es f st).vals (stRun m (-1) es f st).done i = false)
  | 0, st, h => ⟨h, Ext.refl _ _, fun q => absurd q (Nat.not_lt_zero _)⟩
  | f + 1, st, h => by
    rcases nx_cases hm st with ⟨h1, h2⟩ | ⟨i, h0, h1, h2, h3⟩
    · rw [run_stop h1]
      exact ⟨h, Ext.refl _ _, fun _ i hi => h2 i (by rw [h.ok.vals]; exact hi)⟩
    · rw [run_go h0 (by omega)]
      obtain ⟨s1, s2, s3, s4, s5, s6⟩ := dj_step hm he ha h h1 h2 h3
      obtain ⟨r1, r2, r3⟩ := dj_run hm he ha f _ s3
      exact ⟨r1, ((ext_mark h.ok i).trans s4).trans r2, fun hf => r3 (by omega)⟩
/-- A run that reaches a target, and one to the end. -/
theorem run_target (hm : mKind m = true) (he : eAll N es) (ha : a < N) (t : Int) : ∀ (f : Nat) (st : St), DjI m N a es (-1) st → t ∉ st.ord →
    (stRun m t es f st = stRun m (-1) es f st ∧ t ∉ (stRun m t es f st).ord) ∨
      ∃ (st0 : St) (i : Nat), t = i ∧ i < N ∧ DjI m N a es i (stMark i st0) ∧ stRun m t es f st = stMark i st0 ∧ Ext N (stMark i st0) (stRun m (-1) es f st) ∧ t ∉ st0.ord
  | 0, st, h, ht => .inl ⟨rfl, ht⟩
  | f + 1, st, h, ht => by
    rcases nx_cases hm st with ⟨h1, h2⟩ | ⟨i, h0, h1, h2, h3⟩
    · rw [run_stop h1, run_stop h1]; exact .inl ⟨rfl, ht⟩
    · obtain ⟨s1, s2, s3, s4, s5, s6⟩ := dj_step hm he ha h h1 h2 h3
      rw [run_go (t := -1) h0 (by omega)]
      by_cases q : (i : Int) = t
      · rw [run_hit h0 q]
        exact .inr ⟨st, i, q.symm, s1, s2, rfl, s4.trans (dj_run hm he ha f _ s3).2.1, ht⟩
      · rw [run_go h0 q]
        refine run_target hm he ha t f _ s3 ?_
        rw [s6, List.mem_append, List.mem_singleton]
        rintro (w | w)
        · exact ht w
        · exact q w.symm
/-- A whole run: its facts. -/
structure BfF (m : Int) (N a : Nat) (es : List Ed) (R : St) : Prop where
  dj : DjI m N a es (-1) R
  vals : R.vals = vRt m N es a
  full : ∀ i, i < N → (R.done.getD i true = true ↔ R.vals.getD i 0 ≠ mNone m)
theorem bf_full (hm : mKind m = true) (he : eAll N es) (ha : a < N) : BfF m N a es (bfR m (-1) es N a) := by
  obtain ⟨h1, h2, h3⟩ := dj_run hm he ha (N + 1) (bf0 m N a) (dj_start hm he ha)
  have h4 := h3 (by show nd (List.replicate N false) < N + 1; rw [nd_rep]; omega)
  have heN : eAll ((N : Int)).toNat es := by rw [Int.toNat_natCast]; exact he
  change DjI m N a es (-1) (bfR m (-1) es N a) at h1
  change ∀ i, i < N → okN m (bfR m (-1) es N a).vals (bfR m (-1) es N a).done i = false at h4
  generalize bfR m (-1) es N a = R at h1 h4
  have hin : ∀ i, i < N → mIn m (R.vals.getD i 0) = true := fun i hi => h1.ok.all i (by rw [h1.ok.vals]; exact hi)
  have hfull : ∀ i, i < N → (R.done.getD i true = true ↔ R.vals.getD i 0 ≠ mNone m) := by
    intro i hi
    refine ⟨h1.some i hi, fun q => ?_⟩
    have h := h4 i hi
    unfold okN at h
    rw [decide_eq_false q] at h
    cases hd : R.done.getD i true
    · rw [hd] at h; cases h
    · rfl
  have hst : vSt m es R.vals := by
    intro e hein
    have hee := he e hein
    cases hd : R.done.getD e.1.toNat true
    · have hv : R.vals.getD e.1.toNat 0 = mNone m := by
        apply Classical.byContradiction
        intro q
        rw [(hfull _ hee.1.2).2 q] at hd; cases hd
      unfold vGive
      rw [hv, join_none hm (mEdge_in hm hee.2.2)]
      exact none_worst (hin _ hee.2.1.2)
    · exact h1.tight e hein (by have := hee.1.1; omega) hd
  refine ⟨h1, ?_, hfull⟩
  apply eq_of_at
  · rw [h1.ok.vals, vRt_length, Int.toNat_natCast]
  · intro i hi
    rw [h1.ok.vals] at hi
    have hb := vBest (n := N) hm heN h1.ok.all (by rw [h1.ok.vals, Int.toNat_natCast]) hst (a := a) (by omega) (by rw [Int.toNat_natCast, Int.toNat_natCast]; exact ha) (by rw [Int.toNat_natCast]; exact h1.src) (i := i) (by rw [Int.toNat_natCast]; exact hi)
    exact le_anti hm hb (h1.low i hi)
/-- What is asked of a run up to a target. -/
theorem bf_target (hm : mKind m = true) (he : eAll N es) (ha : a < N) {t : Nat} (ht : t < N) :
    (bfR m t es N a).vals.getD t 0 = (vRt m N es a).getD t 0 ∧ (∃ l, (bfR m (-1) es N a).ord = (bfR m t es N a).ord ++ l) ∧ (bfR m t es N a).looks ≤ (bfR m (-1) es N a).looks ∧
      StOk m N (bfR m t es N a) ∧ (∀ y ∈ (bfR m t es N a).ord, 0 ≤ y ∧ y.toNat < N) ∧ (bfR m t es N a).ord.Nodup ∧ 0 ≤ (bfR m t es N a).looks ∧
      (((bfR m t es N a).vals.getD t 0 ≠ mNone m ∧ ∃ l, (bfR m t es N a).ord = l ++ [(t : Int)]) ∨ ((bfR m t es N a).vals.getD t 0 = mNone m ∧ (t : Int) ∉ (bfR m t es N a).ord)) ∧ (bfR m t es N a).ord ≠ [] := by
  have hF := bf_full hm he ha
  have hne : (bfR m (-1) es N a).ord ≠ [] := by
    intro q
    have h1 : (bfR m (-1) es N a).done.getD a true = true := (hF.full a ha).2 (by rw [hF.dj.src]; exact fun w => by rcases mKind_cases hm with rfl | rfl | rfl | rfl | rfl <;> simp [mOne, mNone] at w)
    have := (hF.dj.mem a ha).1 h1
    rw [q] at this; cases this
  rcases run_target hm he ha (t : Int) (N + 1) (bf0 m N a) (dj_start hm he ha) (by simp [bf0]) with ⟨h1, h2⟩ | ⟨st0, i, h1, h2, h3, h4, h5, h6⟩
  · change bfR m t es N a = bfR m (-1) es N a at h1
    change (t : Int) ∉ (bfR m t es N a).ord at h2
    rw [h1] at h2 ⊢
    have hvn : (bfR m (-1) es N a).vals.getD t 0 = mNone m := by
      apply Classical.byContradiction
      intro q
      exact h2 ((hF.dj.mem t ht).1 ((hF.full t ht).2 q))
    exact ⟨by rw [hF.vals], ⟨[], by simp⟩, Int.le_refl _, hF.dj.ok, hF.dj.rng, hF.dj.nodup, hF.dj.looks.1, .inr ⟨hvn, h2⟩, hne⟩
  · have e0 : t = i := by omega
    subst e0
    change bfR m t es N a = stMark t st0 at h4
    change Ext N (stMark t st0) (bfR m (-1) es N a) at h5
    have hd : (stMark t st0).done.getD t true = true := (h3.mem t ht).2 (by show (t : Int) ∈ st0.ord ++ [(t : Int)]; simp)
    rw [h4]
    refine ⟨?_, h5.ord, h5.looks, h3.ok, h3.rng, h3.nodup, h3.looks.1, .inl ⟨h3.some t ht hd, _, rfl⟩, by simp [stMark]⟩
    rw [← (h5.keep t ht hd).2.1, hF.vals]
theorem bf_self (hm : mKind m = true) (he : eAll N es) (ha : a < N) : bfR m a es N a = stMark a (bf0 m N a) := by
  have hv : ∀ j, j < N → (bf0 m N a).vals.getD j 0 = if (j : Int) = a then mOne m else mNone m := fun j hj => vStart_at m N a (by rw [Int.toNat_natCast]; exact hj)
  have hd : ∀ j, j < N → (bf0 m N a).done.getD j true = false := by
    intro j hj
    show (List.replicate N false).getD j true = false
    simp [List.getD, hj]
  have hlen : (bf0 m N a).vals.length = N := by simp [bf0, vStart_length]
  have hon : mOne m ≠ mNone m := fun w => by rcases mKind_cases hm with rfl | rfl | rfl | rfl | rfl <;> simp [mOne, mNone] at w
  show stRun m a es (N + 1) (bf0 m N a) = _
  rcases nx_cases hm (bf0 m N a) with ⟨h1, h2⟩ | ⟨i, h0, h1, h2, h3⟩
  · have := h2 a (by rw [hlen]; exact ha)
    unfold okN at this
    rw [hd a ha, hv a ha, if_pos rfl, decide_eq_false hon] at this
    cases this
  · rw [hlen] at h1
    have hia : i = a := by
      apply Classical.byContradiction
      intro q
      unfold okN at h2
      rw [hv i h1, if_neg (by omega), decide_eq_true rfl] at h2
      simp at h2
    subst hia
    exact run_hit h0 rfl
end
theorem nodup_sub : ∀ (l k : List Int), l.Nodup → (∀ x ∈ l, x ∈ k) → l.length ≤ k.length
  | [], _, _, _ => by simp
  | x :: l, k, hd, h => by
    obtain ⟨h1, h2⟩ := List.nodup_cons.1 hd
    have h3 := nodup_sub l (k.erase x) h2 (fun y hy => (List.mem_erase_of_ne (fun e => by rw [e] at hy; exact h1 hy)).2 (h y (List.mem_cons_of_mem _ hy)))
    have h4 := List.length_erase_of_mem (h x (List.mem_cons_self ..))
    have h5 := List.length_pos_of_mem (h x (List.mem_cons_self ..))
    simp only [List.length_cons]
    omega
theorem ints_len {N : Nat} {l : List Int} (h : l.Nodup) (hr : ∀ y ∈ l, 0 ≤ y ∧ y.toNat < N) : l.length ≤ N := by
  have := nodup_sub l ((List.range N).map (fun i : Nat => (i : Int))) h (fun y hy => by
    obtain ⟨h0, h1⟩ := hr y hy
    exact List.mem_map.2 ⟨y.toNat, List.mem_range.2 h1, by omega⟩)
  simpa using this
theorem bf_lens (n m a : Int) (es : List Ed) (xs : List Int) (t : Int) (ha : a ∈ xs) :
    (bfV (onOk n es m xs) (bfR m t es n.toNat a.toNat)).ord.length ≤ 4194304 ∧ (bfV (onOk n es m xs) (bfR m t es n.toNat a.toNat)).par.length ≤ 4194304 ∧ (bfV (onOk n es m xs) (bfR m t es n.toNat a.toNat)).vals.length ≤ 4194304 := by
  unfold bfV
  split
  · rename_i h
    have hp := onOk_parts h
    have hn := gVal_n hp.1
    have hea := eAll_of hp.1
    have hA := hp.2.1 a ha
    rcases run_target (m := m) (N := n.toNat) (a := a.toNat) hp.2.2 hea (by omega) t (n.toNat + 1) (bf0 m n.toNat a.toNat) (dj_start hp.2.2 hea (by omega)) (by simp [bf0]) with ⟨h1, h2⟩ | ⟨st0, i, h1, h2, h3, h4, h5, h6⟩
    · have hF := bf_full (m := m) (N := n.toNat) (a := a.toNat) hp.2.2 hea (by omega)
      change bfR m t es n.toNat a.toNat = bfR m (-1) es n.toNat a.toNat at h1
      rw [h1]
      have hl := ints_len hF.dj.nodup hF.dj.rng
      have h8 := hF.dj.ok
      rw [h8.par, h8.vals]
      omega
    · change bfR m t es n.toNat a.toNat = stMark i st0 at h4
      rw [h4]
      have hl := ints_len h3.nodup h3.rng
      rw [h3.ok.par, h3.ok.vals]
      omega
  · simp
end Go.Proofs.Ytdblcaeeepkebaa
