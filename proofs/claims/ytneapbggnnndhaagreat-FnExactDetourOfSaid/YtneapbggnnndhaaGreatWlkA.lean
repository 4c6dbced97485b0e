/- Simple paths: mathematics. All rows of different nodes that edges lead along, found depth first; no more than one above 400. -/
import Derived.Test.YtneapbggnnndhaaGreatEndV
import Derived.Test.YtneapbggnnndhaaGreatFind3
namespace Go.Proofs.YtneapbggnnndhaaGreat
set_option linter.unusedVariables false
set_option linter.unusedSimpArgs false

abbrev Pt := List Int × Int
/-- The last node of a row. -/
def lst (nodes : List Int) : Int := nodes.getD (nodes.length - 1) 0
/-- Does an edge lead on? -/
def pwG (nodes : List Int) (e : Ed) : Bool := decide (e.1 = lst nodes) && !(decide (e.2.1 ∈ nodes))
def pwS (m : Int) (nodes : List Int) (v : Int) (rec : List Int → Int → List Pt → List Pt) (out : List Pt) (e : Ed) : List Pt :=
  if out.length ≤ 400 ∧ pwG nodes e = true then rec (nodes ++ [e.2.1]) (mJoin m v (mEdge m e.2.2)) out else out
def pw (m : Int) (es : List Ed) (tgt : Int) : Nat → List Int → Int → List Pt → List Pt
  | 0, _, _, out => out
  | f + 1, nodes, v, out => if lst nodes = tgt then out ++ [(nodes, v)] else es.foldl (pwS m nodes v (pw m es tgt f)) out
/-- How many nodes are not in a row. -/
def pwM (n : Int) (nodes : List Int) : Nat := (List.range n.toNat).countP fun (i : Nat) => !(decide ((i : Int) ∈ nodes))
theorem pwM_le (n : Int) (nodes : List Int) : pwM n nodes ≤ n.toNat := by
  unfold pwM
  have := List.countP_le_length (p := fun (i : Nat) => !(decide ((i : Int) ∈ nodes))) (l := List.range n.toNat)
  simpa using this
theorem countP_lt {p q : Nat → Bool} {l : List Nat} (h : ∀ x ∈ l, p x = true → q x = true) {y : Nat} (hy : y ∈ l) (h1 : q y = true) (h2 : p y = false) : l.countP p < l.countP q := by
  induction l with
  | nil => cases hy
  | cons a l ih =>
    have hle : l.countP p ≤ l.countP q := List.countP_mono_left (fun x hx => h x (List.mem_cons_of_mem _ hx))
    rcases List.mem_cons.1 hy with rfl | hy
    · rw [List.countP_cons, List.countP_cons, h1, h2]
      simp
      omega
    · have := ih (fun x hx => h x (List.mem_cons_of_mem _ hx)) hy
      rw [List.countP_cons, List.countP_cons]
      have ha := h a (List.mem_cons_self ..)
      cases hp : p a <;> cases hq : q a <;> simp_all <;> omega
theorem pwM_lt {n t : Int} {nodes : List Int} (h0 : 0 ≤ t) (h1 : t < n) (h2 : t ∉ nodes) : pwM n (nodes ++ [t]) < pwM n nodes := by
  unfold pwM
  refine countP_lt (fun x _ hx => ?_) (y := t.toNat) (by simp; omega) ?_ ?_
  · simp at hx ⊢
    exact hx.1
  · simp [Int.toNat_of_nonneg h0, h2]
  · simp [Int.toNat_of_nonneg h0]
theorem lst_snoc (nodes : List Int) (t : Int) : lst (nodes ++ [t]) = t := by
  unfold lst
  simp [List.getD]
theorem pwS_not {m v : Int} {nodes : List Int} {rec : List Int → Int → List Pt → List Pt} {out : List Pt} {e : Ed} (h : pwG nodes e = false) : pwS m nodes v rec out e = out := by
  unfold pwS
  rw [if_neg]
  rw [h]
  simp
theorem pwS_full {m v : Int} {nodes : List Int} {rec : List Int → Int → List Pt → List Pt} {out : List Pt} {e : Ed} (h : ¬ out.length ≤ 400) : pwS m nodes v rec out e = out := by
  unfold pwS
  rw [if_neg (fun hh => h hh.1)]
theorem pwS_go {m v : Int} {nodes : List Int} {rec : List Int → Int → List Pt → List Pt} {out : List Pt} {e : Ed} (h1 : out.length ≤ 400) (h : pwG nodes e = true) : pwS m nodes v rec out e = rec (nodes ++ [e.2.1]) (mJoin m v (mEdge m e.2.2)) out := by
  unfold pwS
  rw [if_pos ⟨h1, h⟩]
theorem pwF_not {m v : Int} {nodes : List Int} {rec : List Int → Int → List Pt → List Pt} : ∀ (es : List Ed) (out : List Pt), (∀ e ∈ es, pwG nodes e = false) → es.foldl (pwS m nodes v rec) out = out
  | [], out, _ => rfl
  | e :: es, out, h => by
    rw [List.foldl_cons, pwS_not (h e (List.mem_cons_self ..))]
    exact pwF_not es out (fun x hx => h x (List.mem_cons_of_mem _ hx))
theorem pwF_full {m v : Int} {nodes : List Int} {rec : List Int → Int → List Pt → List Pt} : ∀ (es : List Ed) (out : List Pt), ¬ out.length ≤ 400 → es.foldl (pwS m nodes v rec) out = out
  | [], out, _ => rfl
  | e :: es, out, h => by
    rw [List.foldl_cons, pwS_full h]
    exact pwF_full es out h
/-- The fold up to an edge. -/
def pwP (m : Int) (es : List Ed) (nodes : List Int) (v : Int) (rec : List Int → Int → List Pt → List Pt) (out : List Pt) (k : Nat) : List Pt := (es.take k).foldl (pwS m nodes v rec) out
theorem pwP_step {m v : Int} {es : List Ed} {nodes : List Int} {rec : List Int → Int → List Pt → List Pt} {out : List Pt} {k : Nat} (hk : k < es.length) : pwP m es nodes v rec out (k + 1) = pwS m nodes v rec (pwP m es nodes v rec out k) (es.getD k (0, 0, 0)) := by
  unfold pwP
  rw [List.take_add_one, List.foldl_append]
  simp [hk, List.getD]
theorem pwP_all {m v : Int} {es : List Ed} {nodes : List Int} {rec : List Int → Int → List Pt → List Pt} {out : List Pt} {k : Nat} (hk : es.length ≤ k) : pwP m es nodes v rec out k = es.foldl (pwS m nodes v rec) out := by
  unfold pwP
  rw [List.take_of_length_le hk]
theorem pwP_full {m v : Int} {es : List Ed} {nodes : List Int} {rec : List Int → Int → List Pt → List Pt} {out : List Pt} {k : Nat} (h : ¬ (pwP m es nodes v rec out k).length ≤ 400) : es.foldl (pwS m nodes v rec) out = pwP m es nodes v rec out k := by
  conv => lhs; rw [← List.take_append_drop k es, List.foldl_append]
  exact pwF_full _ _ h
/-- The part of the edges that lead from a node. -/
def eFr (es : List Ed) (x : Int) : List Ed := (es.drop (lbE es x 0)).take (lbE es (x + 1) 0 - lbE es x 0)
theorem lbE_mono {n : Int} {es : List Ed} (hg : gVal n es = true) (x : Int) : lbE es x 0 ≤ lbE es (x + 1) 0 := by
  by_cases h : lbE es x 0 ≤ lbE es (x + 1) 0
  · exact h
  · have hl : lbE es (x + 1) 0 < lbE es x 0 := by omega
    have h1 := lbE_lt hl
    have h2 := lbE_stop (Nat.lt_of_lt_of_le hl (lbE_le es x 0))
    rw [eLt_iff] at h1
    have : eLt (x + 1) 0 (es.getD (lbE es (x + 1) 0) (0, 0, 0)) = true := by rw [eLt_iff]; omega
    rw [h2] at this
    cases this
theorem eFr_fold {n : Int} {es : List Ed} (hg : gVal n es = true) {m v : Int} {nodes : List Int} {rec : List Int → Int → List Pt → List Pt} (out : List Pt) : (eFr es (lst nodes)).foldl (pwS m nodes v rec) out = es.foldl (pwS m nodes v rec) out := by
  have hmono := lbE_mono hg (lst nodes)
  have hle := lbE_le es (lst nodes + 1) 0
  have e0 : es = es.take (lbE es (lst nodes) 0) ++ (eFr es (lst nodes) ++ es.drop (lbE es (lst nodes + 1) 0)) := by
    unfold eFr
    conv => lhs; rw [← List.take_append_drop (lbE es (lst nodes) 0) es]
    congr 1
    conv => lhs; rw [← List.take_append_drop (lbE es (lst nodes + 1) 0 - lbE es (lst nodes) 0) (es.drop (lbE es (lst nodes) 0))]
    rw [List.drop_drop]
    congr 2
    omega
  conv => rhs; rw [e0, List.foldl_append, List.foldl_append]
  rw [pwF_not (es.take (lbE es (lst nodes) 0)), pwF_not (es.drop (lbE es (lst nodes + 1) 0))]
  · intro e he
    obtain ⟨i, hi, rfl⟩ := List.getElem_of_mem he
    rw [List.length_drop] at hi
    rw [List.getElem_drop]
    have hi2 : lbE es (lst nodes + 1) 0 + i < es.length := by omega
    have h2 : eLt (lst nodes + 1) 0 (es.getD (lbE es (lst nodes + 1) 0 + i) (0, 0, 0)) = false := by
      cases h3 : eLt (lst nodes + 1) 0 (es.getD (lbE es (lst nodes + 1) 0 + i) (0, 0, 0)) with
      | false => rfl
      | true =>
        have := gVal_mono hg (lst nodes + 1) 0 (lbE es (lst nodes + 1) 0) _ (Nat.le_add_right _ i) hi2 h3
        rw [lbE_stop (by omega)] at this
        cases this
    have h4 : (es.getD (lbE es (lst nodes + 1) 0 + i) (0, 0, 0)) = es[lbE es (lst nodes + 1) 0 + i] := by simp [List.getD, hi2]
    rw [h4] at h2
    have h5 : ¬ eLt (lst nodes + 1) 0 es[lbE es (lst nodes + 1) 0 + i] = true := by rw [h2]; decide
    rw [eLt_iff] at h5
    unfold pwG
    rw [decide_eq_false (by omega), Bool.false_and]
  · intro e he
    obtain ⟨i, hi, rfl⟩ := List.getElem_of_mem he
    rw [List.length_take] at hi
    rw [List.getElem_take]
    have hi2 : i < es.length := by omega
    have h2 := lbE_lt (es := es) (a := lst nodes) (b := 0) (i := i) (by omega)
    have hf := gVal_fits hg hi2
    have h4 : (es.getD i (0, 0, 0)) = es[i] := by simp [List.getD, hi2]
    rw [h4] at h2 hf
    rw [eLt_iff] at h2
    simp [eFits] at hf
    unfold pwG
    rw [decide_eq_false (by omega), Bool.false_and]
theorem eFr_len (es : List Ed) (x : Int) : (eFr es x).length ≤ es.length := by
  unfold eFr
  rw [List.length_take, List.length_drop]
  omega
theorem eFr_mem {es : List Ed} {x : Int} {e : Ed} (h : e ∈ eFr es x) : e ∈ es := List.mem_of_mem_drop (List.mem_of_mem_take h)
theorem eFr_from {n : Int} {es : List Ed} (hg : gVal n es = true) {x : Int} {k : Nat} (hk : k < (eFr es x).length) : ((eFr es x).getD k (0, 0, 0)).1 = x := by
  have hl : (eFr es x).length ≤ lbE es (x + 1) 0 - lbE es x 0 := by unfold eFr; rw [List.length_take]; omega
  have hk2 : lbE es x 0 + k < es.length := by unfold eFr at hk; rw [List.length_take, List.length_drop] at hk; omega
  have e0 : (eFr es x).getD k (0, 0, 0) = es.getD (lbE es x 0 + k) (0, 0, 0) := by
    unfold eFr at hk ⊢
    rw [List.length_take, List.length_drop] at hk
    simp only [List.getD_eq_getElem?_getD]
    rw [List.getElem?_take, if_pos (by omega), List.getElem?_drop]
  rw [e0]
  have h1 := lbE_lt (es := es) (a := x + 1) (b := 0) (i := lbE es x 0 + k) (by omega)
  have h2 : eLt x 0 (es.getD (lbE es x 0 + k) (0, 0, 0)) = false := by
    cases h3 : eLt x 0 (es.getD (lbE es x 0 + k) (0, 0, 0)) with
    | false => rfl
    | true =>
      have := gVal_mono hg x 0 (lbE es x 0) _ (Nat.le_add_right _ k) hk2 h3
      rw [lbE_stop (by omega)] at this
      cases this
  have hf := gVal_fits hg hk2
  generalize (es.getD (lbE es x 0 + k) (0, 0, 0)) = e at h1 h2 hf ⊢
  rw [eLt_iff] at h1
  have h5 : ¬ eLt x 0 e = true := by rw [h2]; decide
  rw [eLt_iff] at h5
  simp [eFits] at hf
  omega
/-- What the search finds: what there was, and rows that are not long, with valid values; never more than 401. -/
theorem pwF_ind {m v : Int} {nodes : List Int} {rec : List Int → Int → List Pt → List Pt} (C : List Pt → Prop) : ∀ (es : List Ed) (out : List Pt), C out → (∀ out e, e ∈ es → C out → out.length ≤ 400 → pwG nodes e = true → C (rec (nodes ++ [e.2.1]) (mJoin m v (mEdge m e.2.2)) out)) → C (es.foldl (pwS m nodes v rec) out)
  | [], out, h, _ => h
  | e :: es, out, h, hs => by
    rw [List.foldl_cons]
    refine pwF_ind C es _ ?_ (fun o e' he' => hs o e' (List.mem_cons_of_mem _ he'))
    unfold pwS
    split
    · rename_i hc
      exact hs out e (List.mem_cons_self ..) h hc.1 hc.2
    · exact h
theorem pw_len {m : Int} {es : List Ed} {tgt : Int} : ∀ (f : Nat) (nodes : List Int) (v : Int) (out : List Pt), out.length ≤ 400 → (pw m es tgt f nodes v out).length ≤ 401
  | 0, _, _, out, h => by simp only [pw]; omega
  | f + 1, nodes, v, out, h => by
    simp only [pw]
    split
    · simp; omega
    · exact pwF_ind (fun o => o.length ≤ 401) es out (by omega) (fun o e _ _ h1 _ => pw_len f _ _ o h1)
theorem pwP_len {m v : Int} {es : List Ed} {tgt : Int} {f : Nat} {fs : List Ed} {nodes : List Int} {out : List Pt} {k : Nat} (h : out.length ≤ 400) : (pwP m fs nodes v (pw m es tgt f) out k).length ≤ 401 :=
  pwF_ind (fun o => o.length ≤ 401) _ out (by omega) (fun o e _ _ h1 _ => pw_len f _ _ o h1)
/-- What is a path found for some kind: no node twice, from the source along edges to the target. -/
theorem pw_mem {m n : Int} {es : List Ed} {tgt : Int} (hm : mKind m = true) (hg : gVal n es = true) : ∀ (f : Nat) (nodes : List Int) (v : Int) (out : List Pt), mIn m v = true → ∀ p ∈ pw m es tgt f nodes v out, p ∈ out ∨ (p.1.length < nodes.length + f ∧ nodes.length ≤ p.1.length ∧ mIn m p.2 = true)
  | 0, _, _, out, hv, p, hp => .inl hp
  | f + 1, nodes, v, out, hv, p, hp => by
    simp only [pw] at hp
    split at hp
    · rcases List.mem_append.1 hp with hp | hp
      · exact .inl hp
      · simp at hp
        subst hp
        exact .inr ⟨by simp only; omega, Nat.le_refl _, hv⟩
    · refine pwF_ind (fun o => ∀ p ∈ o, p ∈ out ∨ (p.1.length < nodes.length + (f + 1) ∧ nodes.length ≤ p.1.length ∧ mIn m p.2 = true)) es out (fun p hp => .inl hp) ?_ p hp
      intro o e he hC _ hgo p hp
      obtain ⟨i, hi, rfl⟩ := List.getElem_of_mem he
      have hf := gVal_fits hg hi
      have h4 : (es.getD i (0, 0, 0)) = es[i] := by simp [List.getD, hi]
      rw [h4] at hf
      simp [eFits] at hf
      rcases pw_mem hm hg f _ _ o (mJoin_in hm hv (mEdge_in hm (by simp [mWeight]; omega))) p hp with h | h
      · exact hC p h
      · rw [List.length_append] at h
        simp at h
        exact .inr ⟨by omega, by omega, h.2.2⟩
theorem pwG_edge {n : Int} {es : List Ed} (hg : gVal n es = true) {e : Ed} (he : e ∈ es) : (0 ≤ e.2.1 ∧ e.2.1 < n) ∧ mWeight e.2.2 = true := by
  obtain ⟨i, hi, rfl⟩ := List.getElem_of_mem he
  have hf := gVal_fits hg hi
  have h4 : (es.getD i (0, 0, 0)) = es[i] := by simp [List.getD, hi]
  rw [h4] at hf
  simp [eFits] at hf
  refine ⟨⟨by omega, by omega⟩, by simp [mWeight]; omega⟩

/-- All simple paths between two nodes. -/
def spL (m : Int) (es : List Ed) (a b : Int) : List Pt := pw m es b 13 [a] (mOne m) []
end Go.Proofs.YtneapbggnnndhaaGreat
