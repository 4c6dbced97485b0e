/- Regions that draw their order: by what holds between their operations; and where all operations but the last one are quiet: one walk serves every order. -/
import Derived.Test.YtdpbmenjangpaaaBase
import Derived.StillTailTactics
import Derived.StillTail
import Derived.Deep.Quiet
namespace Go.Proofs.Ytdpbmenjangpaaa
set_option linter.unusedVariables false
set_option linter.unusedSimpArgs false

/-- Every operation waits for earlier ones only. -/
def fwdB8 (ops : Array Oper) : Bool := (List.range ops.size).all fun i => match ops[i]? with
  | some o => o.after.all fun e => !Region.binds .any e || decide (e.on < i)
  | none => true
theorem ready_nil8 {ops : Array Oper} {L : Array Bool} (hf : fwdB8 ops = true) (hs : L.size = ops.size) (h0 : Region.ready .any ops L = []) : ∀ i, i < ops.size → L.getD i true = true := by
  intro i
  induction i using Nat.strongRecOn with
  | _ i ih =>
    intro hi
    cases hc : L.getD i true with
    | true => rfl
    | false =>
      have ho : ops[i]? = some ops[i] := Array.getElem?_eq_getElem hi
      have hm : i ∈ Region.ready .any ops L := by
        refine mem_ready.2 ⟨hc, _, ho, fun e he hbd => ?_⟩
        have h1 := List.all_eq_true.1 hf i (List.mem_range.2 hi)
        simp only [ho] at h1
        have h2 := Array.all_eq_true_iff_forall_mem.1 h1 e he
        have h3 : e.on < i := by simpa [hbd] using h2
        have h4 := ih e.on h3 (by omega)
        have h5 : e.on < L.size := by omega
        simpa [h5] using h4
      rw [h0] at hm
      cases hm
section
variable {P : Program} {ops : Array Oper} {Q : Exit → Act → World → Prop}
theorem wpAny_inv8 (I : Array Bool → Act → World → Prop) (hf : fwdB8 ops = true)
    (hstep : ∀ L a w, L.size = ops.size → I L a w → ∀ i o, ops[i]? = some o → L.getD i true = false → (∀ e ∈ o.after, Region.binds .any e = true → L.getD e.on false = true) → wpOp P ops Q i (fun a' w' => I (L.setIfInBounds i true) a' w') a w)
    (hend : ∀ L a w, L.size = ops.size → I L a w → (∀ i, i < ops.size → L.getD i true = true) → Q .normal a w) :
    ∀ (fuel : Nat) (L : Array Bool) (a : Act) (w : World), L.size = ops.size → (List.range ops.size).countP (fun i => !L.getD i true) ≤ fuel → I L a w → wpAny P .any ops Q fuel L a w
  | 0, L, a, w, hs, hc, hI => by
    have hz : (List.range ops.size).countP (fun i => !L.getD i true) = 0 := by omega
    have hall : ∀ i, i < ops.size → L.getD i true = true := fun i hi => by
      have := List.countP_eq_zero.1 hz i (List.mem_range.2 hi)
      simpa using this
    refine ⟨?_, hend L a w hs hI hall⟩
    cases hr : Region.ready .any ops L with
    | nil => rfl
    | cons x xs =>
      have hx : x ∈ Region.ready .any ops L := by rw [hr]; exact List.mem_cons_self
      obtain ⟨h1, o, h2, _⟩ := mem_ready.1 hx
      have := hall x (Array.getElem?_eq_some_iff.1 h2).1
      rw [h1] at this
      cases this
  | fuel + 1, L, a, w, hs, hc, hI => by
    refine ⟨fun h => hend L a w hs hI (ready_nil8 hf hs h), fun i hi => ?_⟩
    obtain ⟨h1, o, h2, h3⟩ := mem_ready.1 hi
    have hlt : i < ops.size := (Array.getElem?_eq_some_iff.1 h2).1
    refine wpOp_mono (fun a' w' h' => wpAny_inv8 I hf hstep hend fuel _ a' w' (by simpa using hs) ?_ h') (hstep L a w hs hI i o h2 h1 h3)
    have hle : (List.range ops.size).countP (fun j => !(L.setIfInBounds i true).getD j true) + 1 ≤ (List.range ops.size).countP (fun j => !L.getD j true) := by
      have key : ∀ (l : List Nat), i ∈ l → l.countP (fun j => !(L.setIfInBounds i true).getD j true) + 1 ≤ l.countP (fun j => !L.getD j true) ∧ True := by
        intro l
        have hge : ∀ l : List Nat, l.countP (fun j => !(L.setIfInBounds i true).getD j true) ≤ l.countP (fun j => !L.getD j true) := by
          intro l
          refine List.countP_mono_left (fun j _ hj => ?_)
          by_cases e : i = j
          · subst e; rw [h1]; rfl
          · rw [getD_set_ne true e] at hj; exact hj
        induction l with
        | nil => intro h; cases h
        | cons x xs ih =>
          intro h
          refine ⟨?_, trivial⟩
          rw [List.countP_cons, List.countP_cons]
          have hx : (if (!(L.setIfInBounds i true).getD x true) = true then 1 else 0) ≤ (if (!L.getD x true) = true then 1 else 0 : Nat) := by
            by_cases e : i = x
            · subst e; rw [h1]; split <;> simp
            · rw [getD_set_ne true e]; exact Nat.le_refl _
          rcases List.mem_cons.1 h with e | e
          · have h5 := hge xs
            have hlL : i < L.size := by omega
            have h6 : (L.setIfInBounds i true).getD x true = true := by rw [← e]; simp [hlL]
            have h7 : L.getD x true = false := by rw [← e]; exact h1
            have e6 : (if (!(L.setIfInBounds i true).getD x true) = true then 1 else 0 : Nat) = 0 := by rw [h6]; rfl
            have e7 : (if (!L.getD x true) = true then 1 else 0 : Nat) = 1 := by rw [h7]; rfl
            rw [e6, e7]
            omega
          · have := (ih e).1
            omega
      exact (key _ (List.mem_range.2 hlt)).1
    omega

/-- **A region that draws its order**: what holds at first, is kept by each operation that may come up, and tells at the end what is wanted. -/
theorem wp_region_inv8 {id : Nat} {a : Act} {w : World} (I : Array Bool → Act → World → Prop) (hm : P.follows .mixedOrders = true) (hf : fwdB8 ops = true)
    (h0 : I (Array.replicate ops.size false) a { w with drawn := w.drawn + 1 })
    (hstep : ∀ L a w, L.size = ops.size → I L a w → ∀ i o, ops[i]? = some o → L.getD i true = false → (∀ e ∈ o.after, Region.binds .any e = true → L.getD e.on false = true) → wpOp P ops Q i (fun a' w' => I (L.setIfInBounds i true) a' w') a w)
    (hend : ∀ L a w, L.size = ops.size → I L a w → (∀ i, i < ops.size → L.getD i true = true) → Q .normal a w) : (Code.region id ops true).wp P Q a w :=
  wp_region_any hm (wpAny_inv8 I hf hstep hend ops.size _ a _ (by simp) (by
    have := List.countP_le_length (p := fun i => !(Array.replicate ops.size false).getD i true) (l := List.range ops.size)
    simpa using this) h0)
end

/-- An operation of no effect in the place of another one. -/
def idle (o : Oper) : Oper := { o with op := .move (.const undef), dst := none, guard := none }
/-- The same region, its last operation of no effect. -/
def headOps (ops : Array Oper) (n : Nat) (o : Oper) : Array Oper := ops.setIfInBounds n (idle o)
def plainB (ops : Array Oper) : Bool := ops.all fun o => o.guard.isNone
section
variable {P : Program} {ops : Array Oper} {Q : Exit → Act → World → Prop} {C : World → Prop}
theorem head_ne {n i : Nat} {o : Oper} (h : n ≠ i) : (headOps ops n o)[i]? = ops[i]? := by simp [headOps, Array.getElem?_setIfInBounds_ne h]
theorem head_eq {n : Nat} {o : Oper} (h : n < ops.size) : (headOps ops n o)[n]? = some (idle o) := by simp [headOps, h]
theorem head_ready {n i : Nat} {o oi : Oper} {L : Array Bool} (hn : ops[n]? = some o) (hi : ops[i]? = some oi) (hl : L.getD i true = false) (hd : ∀ e ∈ oi.after, Region.binds .any e = true → L.getD e.on false = true) : i ∈ Region.ready .any (headOps ops n o) L := by
  by_cases e : n = i
  · subst e
    have he : oi = o := Option.some.inj (hi.symm.trans hn)
    subst he
    exact mem_ready.2 ⟨hl, _, head_eq (Array.getElem?_eq_some_iff.1 hn).1, hd⟩
  · exact mem_ready.2 ⟨hl, oi, by rw [head_ne e]; exact hi, hd⟩
/-- **All operations but the last are quiet in a class of worlds**: one walk of the lexical order, then the last operation, in whatever world of the class. -/
theorem wp_region_quiet_last {id : Nat} {a : Act} {w : World} {l : List Oper} (n : Nat) (o : Oper) (hsz : l.length = n + 1) (hn : l.toArray[n]? = some o) (hm : P.follows .mixedOrders = true) (hf : fwdB8 l.toArray = true)
    (hg : plainB l.toArray = true) (hs : Region.sinkB .any l.toArray n = true) (hB : Region.lexB .any (headOps l.toArray n o) = true) (hC : C { w with drawn := w.drawn + 1 })
    (h : wpQuiet P (headOps l.toArray n o) C (fun a' => ∀ w', C w' → wpList P l.toArray Q [o] a' w') (headOps l.toArray n o).toList a) : (Code.region id l.toArray true).wp P Q a w := by
  have hsz' : l.toArray.size = n + 1 := by simpa using hsz
  have hchain : Region.chainB .any l.toArray n = true := by
    unfold Region.chainB
    rw [List.all_eq_true]
    intro t ht
    have := List.mem_range.1 ht
    have h2 : t ≤ n := by omega
    simp [h2]
  have hguard : ∀ (i : Nat) oi, l.toArray[i]? = some oi → oi.guard = none := fun i oi hi => by
    have := Array.all_eq_true_iff_forall_mem.1 hg oi (Array.mem_of_getElem? hi)
    simpa using this
  simp only [Region.lexB, Bool.and_eq_true] at hB
  have hq0 := wpAnyQ_lex (C := C) (md := .any) hB.1 (headOps l.toArray n o).toList 0 (Array.replicate (headOps l.toArray n o).size false) a (by simp) (by simpa using hB.2) h
  refine wp_region_inv8 (fun L a' w' => (C w' ∧ HeadInv .any l.toArray n L ∧ ∃ fuel, wpAnyQ P .any (headOps l.toArray n o) C (fun a' => ∀ w', C w' → wpList P l.toArray Q [o] a' w') fuel L a') ∨ ((∀ i, i < l.toArray.size → L.getD i true = true) ∧ Q .normal a' w')) hm hf ?_ ?_ ?_
  · refine .inl ⟨hC, ⟨by simp, fun j oj _ hl => (by rw [getD_replicate_false] at hl; cases hl), fun t ht ht2 => getD_in (by simpa using ht2) (getD_replicate_false _ _)⟩, (headOps l.toArray n o).toList.length, ?_⟩
    have : (headOps l.toArray n o).size = l.toArray.size := by simp [headOps]
    rw [this] at hq0
    exact hq0
  · intro L a' w' hL hI i oi hoi hl hd
    rcases hI with ⟨hCw, hinv, fuel, hq⟩ | ⟨hall, _⟩
    · have hir := head_ready (n := n) hn hoi hl hd
      cases fuel with
      | zero =>
        have h1 := hq.1
        rw [h1] at hir
        cases hir
      | succ f =>
        have hqi := hq.2 i hir
        by_cases e : n = i
        · subst e
          have heo : oi = o := Option.some.inj (hoi.symm.trans hn)
          subst heo
          have hnr : n ∈ Region.ready .any l.toArray L := mem_ready.2 ⟨hl, _, hoi, hd⟩
          have hbefore : ∀ j, j < n → L.getD j true = true := fun j hj => by
            cases hc : L.getD j true with
            | true => rfl
            | false => exact absurd hnr (tail_waits hs hchain (by omega) hinv _ j rfl hj hc n (Nat.le_refl _))
          have hafter : ∀ j, j < l.toArray.size → (L.setIfInBounds n true).getD j true = true := fun j hj => by
            by_cases ej : n = j
            · subst ej
              have hlt : n < L.size := by omega
              simp [hlt]
            · rw [getD_set_ne true ej]
              exact hbefore j (by omega)
          have hnone : Region.ready .any (headOps l.toArray n oi) (L.setIfInBounds n true) = [] := by
            cases hr : Region.ready .any (headOps l.toArray n oi) (L.setIfInBounds n true) with
            | nil => rfl
            | cons x xs =>
              have hx : x ∈ Region.ready .any (headOps l.toArray n oi) (L.setIfInBounds n true) := by rw [hr]; exact List.mem_cons_self
              obtain ⟨h1, o1, h2, _⟩ := mem_ready.1 hx
              have hxl : x < l.toArray.size := by have := (Array.getElem?_eq_some_iff.1 h2).1; simpa [headOps] using this
              rw [hafter x hxl] at h1
              cases h1
          unfold qOp at hqi
          rw [head_eq (by omega)] at hqi
          simp only at hqi
          have hQa : ∀ w', C w' → wpList P l.toArray Q [oi] a' w' := by
            have hw : Region.wanted (idle oi) (yielded (headOps l.toArray n oi) a'.tmps) = true := by simp [Region.wanted, idle]
            rw [if_pos hw] at hqi
            obtain ⟨v, _, hk⟩ := hqi
            cases f with
            | zero => exact hk.2
            | succ f => exact hk.1 hnone
          unfold wpOp
          rw [hoi]
          have hw : Region.wanted oi (yielded l.toArray a'.tmps) = true := by simp [Region.wanted, hguard _ _ hoi]
          simp only [hw, if_true]
          have h9 := hQa w' hCw
          unfold wpList at h9
          rw [if_pos hw] at h9
          rcases h9 with h9 | h9
          · exact .inl (Oper.wp_mono (fun a'' w'' hk => .inr ⟨hafter, hk⟩) h9)
          · exact .inr h9
        · have hlt : i < n := by have := (Array.getElem?_eq_some_iff.1 hoi).1; omega
          have hir2 : i ∈ Region.ready .any l.toArray L := mem_ready.2 ⟨hl, _, hoi, hd⟩
          unfold qOp at hqi
          rw [head_ne e, hoi] at hqi
          have hw1 : Region.wanted oi (yielded (headOps l.toArray n o) a'.tmps) = true := by simp [Region.wanted, hguard _ _ hoi]
          have hw : Region.wanted oi (yielded l.toArray a'.tmps) = true := by simp [Region.wanted, hguard _ _ hoi]
          simp only [hw1, if_true] at hqi
          unfold wpOp
          rw [hoi]
          simp only [hw, if_true]
          exact .inl (Oper.wp_of_quiet hCw (fun a'' w'' hc hk => .inl ⟨hc, hinv.set hir2 hlt, f, hk⟩) hqi)
    · have := hall i (Array.getElem?_eq_some_iff.1 hoi).1
      rw [hl] at this
      cases this
  · intro L a' w' hL hI hall
    rcases hI with ⟨hCw, hinv, fuel, hq⟩ | ⟨_, hQ⟩
    · have := hinv.tail n (Nat.le_refl _) (by omega)
      rw [hall n (by omega)] at this
      cases this
    · exact hQ
/-- The same with the operations written out. -/
theorem wp_region_last {id : Nat} {a : Act} {w : World} {l : List Oper} (n : Nat) (o : Oper) (hsz : l.length = n + 1) (hn : l.toArray[n]? = some o) (hm : P.follows .mixedOrders = true) (hf : fwdB8 l.toArray = true)
    (hg : plainB l.toArray = true) (hs : Region.sinkB .any l.toArray n = true) (hB : Region.lexB .any (l.set n (idle o)).toArray = true) (hC : C { w with drawn := w.drawn + 1 })
    (h : wpQuiet P (l.set n (idle o)).toArray C (fun a' => ∀ w', C w' → wpList P l.toArray Q [o] a' w') (l.set n (idle o)) a) : (Code.region id l.toArray true).wp P Q a w := by
  have e : headOps l.toArray n o = (l.set n (idle o)).toArray := by simp [headOps]
  refine wp_region_quiet_last n o hsz hn hm hf hg hs (by rw [e]; exact hB) hC ?_
  rw [e]
  exact h
end
end Go.Proofs.Ytdpbmenjangpaaa
