/- A search in memory; reach, follow. -/
import Derived.Test.YtlmhccjppmhdbaaHeapP
import Derived.Test.YtlmhccjppmhdbaaBestM
import Derived.Test.YtlmhccjppmhdbaaBetter
import Derived.Test.YtlmhccjppmhdbaaKeptI
namespace Go.Proofs.Ytlmhccjppmhdbaa
open Go.RowKit Go.BigFrame Go.Deep
set_option linter.unusedVariables false
set_option linter.unusedSimpArgs false

/-- A block of integers, or of truth values, at whose beginning a list lies. -/
def IR (w : World) (b : Nat) (zs : List Int) : Prop := ∃ cur, w.heap[b]? = some (.cells cur 3 (0, 0)) ∧ ∀ i, i < zs.length → cur[i]? = some (.int .i64 (zs.getD i 0))
def BR (w : World) (b : Nat) (bs : List Bool) : Prop := ∃ cur, w.heap[b]? = some (.cells cur 4 (0, 0)) ∧ ∀ i, i < bs.length → cur[i]? = some (.bool (bs.getD i true))
section
variable {w w' : World} {b X i : Nat} {zs : List Int} {bs : List Bool} {u : Value}
theorem IR.lt (h : IR w b zs) : b < w.heap.size := by obtain ⟨cur, h1, _⟩ := h; exact (Array.getElem?_eq_some_iff.1 h1).1
theorem IR.cell (h : IR w b zs) (hi : i < zs.length) : w.cell? ⟨b, i, none⟩ = some (.int .i64 (zs.getD i 0)) ∧ w.frozen? ⟨b, i, none⟩ = false := by
  obtain ⟨cur, h1, h2⟩ := h
  exact ⟨by simp [World.cell?, h1, h2 i hi], by simp [World.frozen?, h1]⟩
theorem IR.row (h : IR w b zs) (cap : Nat) : Row w (.slice (some ⟨b, 0, none⟩) zs.length cap) zs :=
  ⟨_, cap, rfl, .inr ⟨b, 0, rfl, h.lt, fun i hi => by rw [Nat.zero_add]; exact (h.cell hi).1⟩⟩
theorem IR.keep (h : IR w b zs) (k : Below w.heap.size w w') : IR w' b zs := by
  obtain ⟨cur, h1, h2⟩ := h
  exact ⟨cur, (k.block b (Array.getElem?_eq_some_iff.1 h1).1).trans h1, h2⟩
theorem IR.other (h : IR w b zs) (hne : b ≠ X) : IR (w.setCell ⟨X, i, none⟩ u) b zs := by
  obtain ⟨cur, h1, h2⟩ := h
  exact ⟨cur, (Below.heap_setCell w ⟨X, i, none⟩ u b hne).trans h1, h2⟩
theorem IR.set (h : IR w b zs) (hi : i < zs.length) (x : Int) : IR (w.setCell ⟨b, i, none⟩ (.int .i64 x)) b (zs.set i x) := by
  obtain ⟨cur, h1, h2⟩ := h
  refine ⟨cur.setIfInBounds i (.int .i64 x), by simp [World.setCell, Array.getElem?_modify, h1], fun j hj => ?_⟩
  rw [List.length_set] at hj
  have hc : i < cur.size := by
    have := h2 i hi
    exact (Array.getElem?_eq_some_iff.1 this).1
  rw [getD_set _ _ _ _ hj, Array.getElem?_setIfInBounds]
  by_cases e : i = j
  · rw [if_pos e, if_pos e, if_pos hc]
  · rw [if_neg e, if_neg e]; exact h2 j hj
theorem IR.cha {A : TypeId → Prop} {base : Nat} (h : IR w b zs) (c : ChaT A base w w') (hA : ¬ A 3) : IR w' b zs := by
  obtain ⟨cur, h1, h2⟩ := h
  refine ⟨cur, ?_, h2⟩
  rw [c.block b (Array.getElem?_eq_some_iff.1 h1).1 (fun ⟨_, cs', t', ht, hh⟩ => ?_)]
  · exact h1
  · rw [h1] at hh
    simp at hh
    exact hA (hh.2 ▸ ht)
theorem IR.ne {B : Nat} {t : TypeId} {cs : Array Value} (h : IR w b zs) (k : Box w B t cs) (ht : t ≠ 3) : B ≠ b := by
  intro e
  obtain ⟨cur, h1, _⟩ := h
  unfold Box at k
  rw [e, h1] at k
  simp at k
  exact ht k.2.symm
theorem BR.lt (h : BR w b bs) : b < w.heap.size := by obtain ⟨cur, h1, _⟩ := h; exact (Array.getElem?_eq_some_iff.1 h1).1
theorem BR.cell (h : BR w b bs) (hi : i < bs.length) : w.cell? ⟨b, i, none⟩ = some (.bool (bs.getD i true)) ∧ w.frozen? ⟨b, i, none⟩ = false := by
  obtain ⟨cur, h1, h2⟩ := h
  exact ⟨by simp [World.cell?, h1, h2 i hi], by simp [World.frozen?, h1]⟩
theorem BR.keep (h : BR w b bs) (k : Below w.heap.size w w') : BR w' b bs := by
  obtain ⟨cur, h1, h2⟩ := h
  exact ⟨cur, (k.block b (Array.getElem?_eq_some_iff.1 h1).1).trans h1, h2⟩
theorem BR.other (h : BR w b bs) (hne : b ≠ X) : BR (w.setCell ⟨X, i, none⟩ u) b bs := by
  obtain ⟨cur, h1, h2⟩ := h
  exact ⟨cur, (Below.heap_setCell w ⟨X, i, none⟩ u b hne).trans h1, h2⟩
theorem BR.set (h : BR w b bs) (hi : i < bs.length) : BR (w.setCell ⟨b, i, none⟩ (.bool true)) b (bs.set i true) := by
  obtain ⟨cur, h1, h2⟩ := h
  refine ⟨cur.setIfInBounds i (.bool true), by simp [World.setCell, Array.getElem?_modify, h1], fun j hj => ?_⟩
  rw [List.length_set] at hj
  have hc : i < cur.size := (Array.getElem?_eq_some_iff.1 (h2 i hi)).1
  rw [getD_set_b _ _ _ hj, Array.getElem?_setIfInBounds]
  by_cases e : i = j
  · rw [if_pos e, if_pos e, if_pos hc]
  · rw [if_neg e, if_neg e]; exact h2 j hj
theorem BR.cha {A : TypeId → Prop} {base : Nat} (h : BR w b bs) (c : ChaT A base w w') (hA : ¬ A 4) : BR w' b bs := by
  obtain ⟨cur, h1, h2⟩ := h
  refine ⟨cur, ?_, h2⟩
  rw [c.block b (Array.getElem?_eq_some_iff.1 h1).1 (fun ⟨_, cs', t', ht, hh⟩ => ?_)]
  · exact h1
  · rw [h1] at hh
    simp at hh
    exact hA (hh.2 ▸ ht)
theorem BR.ne {B : Nat} {t : TypeId} {cs : Array Value} (h : BR w b bs) (k : Box w B t cs) (ht : t ≠ 4) : B ≠ b := by
  intro e
  obtain ⟨cur, h1, _⟩ := h
  unfold Box at k
  rw [e, h1] at k
  simp at k
  exact ht k.2.symm
theorem IR.neB (h : IR w b zs) (k : BR w X bs) : b ≠ X := by
  intro e
  obtain ⟨cur, h1, _⟩ := h
  obtain ⟨cur2, h2, _⟩ := k
  rw [← e, h1] at h2
  simp at h2
end
theorem own_set_ne {w : World} {base sz n X i : Nat} {e : TypeId} {v u : Value} {xs : List Value} (h : w.ownsRow base e sz v n xs) (hne : v.ownBlock ≠ some X) : (w.setCell ⟨X, i, none⟩ u).ownsRow base e sz v n xs :=
  h.kept (row := some X) ⟨rfl, rfl, rfl, by simp, fun k hk hkn => Below.heap_setCell w ⟨X, i, none⟩ u k (fun e => hkn (by simp only at e; rw [e]))⟩ (.inr hne)
theorem own_ne {w : World} {base sz n X : Nat} {e t : TypeId} {v : Value} {xs : List Value} {cs : Array Value} (h : w.ownsRow base e sz v n xs) (hX : w.heap[X]? = some (.cells cs t (0, 0))) (hne : e ≠ t) : v.ownBlock ≠ some X := by
  intro hv
  rcases h.2 with ⟨rfl, _⟩ | ⟨g, cap, cur, rfl, _, hgg, _⟩
  · simp [Value.ownBlock] at hv
  · simp [Value.ownBlock] at hv
    subst hv
    rw [hX] at hgg
    simp at hgg
    exact hne hgg.2.symm
theorem own_ne_lo {w : World} {base sz n X : Nat} {e : TypeId} {v : Value} {xs : List Value} (h : w.ownsRow base e sz v n xs) (hX : X < base) : v.ownBlock ≠ some X := by
  intro hv
  have := (h.lt X hv).1
  omega
theorem own_cha {A : TypeId → Prop} {base lo : Nat} {w w' : World} {e : TypeId} {u : Value} {sz k : Nat} {xs : List Value} (h : ChaT A base w w') (ho : w.ownsRow lo e sz u k xs) (hA : ¬ A e) : w'.ownsRow lo e sz u k xs := by
  refine ⟨ho.1, ?_⟩
  rcases ho.2 with h0 | ⟨g, cap, cur, rfl, hbg, hgg, rest⟩
  · exact .inl h0
  · refine .inr ⟨g, cap, cur, rfl, hbg, ?_, rest⟩
    rw [h.block g (Array.getElem?_eq_some_iff.1 hgg).1 (fun ⟨hb, cs', t', ht, hh⟩ => ?_)]
    · exact hgg
    · rw [hgg] at hh
      simp at hh
      exact hA (hh.2 ▸ ht)
/-- The types that a search changes. -/
def AS (t : TypeId) : Prop := AF t ∨ t = 3 ∨ t = 4
theorem af_int : ¬ AF 3 := by unfold AF; decide
theorem af_bool : ¬ AF 4 := by unfold AF; decide
/-- A search in memory. -/
structure SInv (W0 : World) (B : Nat) (m : Int) (N : Nat) (s : Value) (st : St) (ents : List En) (P cp V cv S cs lo : Nat) (w : World) (ov ev : Value) : Prop where
  fro : Fro w W0.heap.size B ov (.slice (some ⟨P, 0, none⟩) N cp) (.slice (some ⟨V, 0, none⟩) N cv) (.int .i64 st.looks) (opsV m) s (.slice (some ⟨S, 0, none⟩) N cs) (opsV m) ev ents
  own : w.ownsRow lo 3 1 ov st.ord.length (st.ord.map (Value.int .i64))
  par : IR w P st.par
  vals : IR w V st.vals
  done : BR w S st.done
  ne : P ≠ V
  hlo : P < lo ∧ V < lo ∧ lo ≤ w.heap.size
  hb : W0.heap.size ≤ P ∧ W0.heap.size ≤ V ∧ W0.heap.size ≤ S ∧ W0.heap.size ≤ lo
  bel : Below W0.heap.size W0 w
  ok : StOk m N st
section
variable {W0 : World} {B : Nat} {m : Int} {N : Nat} {s : Value} {st : St} {ents : List En} {P cp V cv S cs lo : Nat} {w w' : World} {ov ev : Value}
theorem SInv.keep (h : SInv W0 B m N s st ents P cp V cv S cs lo w ov ev) (b : Below w.heap.size w w') : SInv W0 B m N s st ents P cp V cv S cs lo w' ov ev :=
  ⟨h.fro.keep b, own_keep h.own b, h.par.keep b, h.vals.keep b, h.done.keep b, h.ne, ⟨h.hlo.1, h.hlo.2.1, Nat.le_trans h.hlo.2.2 b.size⟩, h.hb, bel_trans h.bel b, h.ok⟩
theorem SInv.cells (h : SInv W0 B m N s st ents P cp V cv S cs lo w ov ev) : (w.cell? ⟨B, 0, none⟩ = some ov ∧ w.cell? ⟨B, 1, none⟩ = some (.slice (some ⟨P, 0, none⟩) N cp) ∧ w.cell? ⟨B, 2, none⟩ = some (.slice (some ⟨V, 0, none⟩) N cv) ∧ w.cell? ⟨B, 3, none⟩ = some (.int .i64 st.looks) ∧ w.cell? ⟨B, 4, none⟩ = some (opsV m) ∧ w.cell? ⟨B, 5, none⟩ = some s ∧ w.cell? ⟨B, 6, none⟩ = some (.slice (some ⟨S, 0, none⟩) N cs)) ∧ B < w.heap.size :=
  ⟨⟨by simpa using h.fro.box.cell 0, by simpa using h.fro.box.cell 1, by simpa using h.fro.box.cell 2, by simpa using h.fro.box.cell 3, by simpa using h.fro.box.cell 4, by simpa using h.fro.box.cell 5, by simpa using h.fro.box.cell 6⟩, h.fro.box.lt⟩
end
set_option maxRecDepth 20000 in
set_option maxHeartbeats 4000000 in
theorem reach {W0 : World} {B : Nat} {m : Int} {N : Nat} {s : Value} {st : St} {ents : List En} {P cp V cv S cs lo : Nat} {w : World} {ov ev : Value} (hm : mKind m = true) (h : SInv W0 B m N s st ents P cp V cv S cs lo w ov ev) (hl : ents.length ≤ 1000000) (hh : hOk m ents.length ents) {i : Nat} (hi : i < N) (x p : Int) (hx : mIn m x = true) :
    Calls Try.prog 94 #[.pointer (some ⟨B, 0, none⟩), .int .i64 i, .int .i64 x, .int .i64 p] w fun e w' => e = .returned (.tuple #[]) ∧ (∃ ents' ev', SInv W0 B m N s { st with vals := st.vals.set i x, par := st.par.set i p } ents' P cp V cv S cs lo w' ov ev' ∧ ents'.length = ents.length + 1 ∧ hOk m ents'.length ents' ∧ ∀ y, y ∈ ents' ↔ y ∈ ents ∨ y = ((i : Int), x)) ∧ ChaT AS W0.heap.size w w' := by
  obtain ⟨⟨x0, x1, x2, x3, x4, x5, x6⟩, hB⟩ := h.cells
  obtain ⟨v0, v1⟩ := h.vals.cell (i := i) (by rw [h.ok.vals]; exact hi)
  obtain ⟨p0, p1⟩ := h.par.cell (i := i) (by rw [h.ok.par]; exact hi)
  have hi' : (i : Int) < N := by omega
  have nBV := h.vals.ne h.fro.box (by decide)
  have nBP := h.par.ne h.fro.box (by decide)
  have h2 : SInv W0 B m N s { st with vals := st.vals.set i x, par := st.par.set i p } ents P cp V cv S cs lo ((w.setCell ⟨V, i, none⟩ (.int .i64 x)).setCell ⟨P, i, none⟩ (.int .i64 p)) ov ev := by
    obtain ⟨cv0, hv0, _⟩ := id h.vals
    obtain ⟨cp0, hp0, _⟩ := id h.par
    have hn1 := own_ne h.fro.own hv0 (by decide)
    have hn2 := own_ne h.fro.own hp0 (by decide)
    have hn3 := own_ne_lo h.own h.hlo.2.1
    have hn4 := own_ne_lo h.own h.hlo.1
    refine ⟨⟨(h.fro.box.setOther nBV _ _).setOther nBP _ _, own_set_ne (own_set_ne h.fro.own hn1) hn2, h.fro.hB, by simpa using h.fro.hb⟩, own_set_ne (own_set_ne h.own hn3) hn4, ?_, ?_, (h.done.other (fun e => h.vals.neB h.done e.symm)).other (fun e => h.par.neB h.done e.symm), h.ne, by simpa using h.hlo, h.hb, (h.bel.setCell h.hb.2.1 _).setCell h.hb.1 _, ⟨by simp [h.ok.par], by simp [h.ok.vals], h.ok.done, ?_⟩⟩
    · exact (h.par.other h.ne).set (by rw [h.ok.par]; exact hi) p
    · exact (h.vals.set (by rw [h.ok.vals]; exact hi) x).other (fun e => h.ne e.symm)
    · intro j hj
      simp only [List.length_set] at hj
      rw [getD_set _ _ _ _ hj]
      split
      · exact hx
      · exact h.ok.all j hj
  have hc2 : ChaT AS W0.heap.size w ((w.setCell ⟨V, i, none⟩ (.int .i64 x)).setCell ⟨P, i, none⟩ (.int .i64 p)) := by
    obtain ⟨cv0, hv0, _⟩ := id h.vals
    obtain ⟨cp0, hp0, _⟩ := h.par.other (i := i) (u := .int .i64 x) h.ne
    exact (ChaT.set hv0 h.hb.2.1 (.inr (.inl rfl)) i _).trans (ChaT.set hp0 h.hb.1 (.inr (.inl rfl)) i _)
  have hpu := heapPush hm h2.fro hl hh (i : Int) x
  have H2 := Lib.hid (And.intro h2 hc2)
  have HPU := Lib.hid hpu
  have q0 : (w.setCell ⟨V, i, none⟩ (.int .i64 x)).cell? ⟨B, 1, none⟩ = some (.slice (some ⟨P, 0, none⟩) N cp) := by
    have := (h.fro.box.setOther nBV i (.int .i64 x)).cell 1
    simpa using this
  have q1 : (w.setCell ⟨V, i, none⟩ (.int .i64 x)).cell? ⟨P, i, none⟩ = some (.int .i64 (st.par.getD i 0)) := ((h.par.other (i := i) (u := .int .i64 x) h.ne).cell (by rw [h.ok.par]; exact hi)).1
  have q2 : (w.setCell ⟨V, i, none⟩ (.int .i64 x)).frozen? ⟨P, i, none⟩ = false := ((h.par.other (i := i) (u := .int .i64 x) h.ne).cell (by rw [h.ok.par]; exact hi)).2
  clear h h2 hc2 hpu
  go_enter Try.func94, Try.ntmps94
  go_wp2_with fail
  refine (HPU.out).mono ?_
  rintro e w2 ⟨rfl, ⟨ev', es', hf, hn, hh2, hi2⟩, hc⟩
  have H3 := Lib.hid (And.intro hf (And.intro hn (And.intro hh2 (And.intro hi2 hc))))
  clear hf hn hh2 hi2 hc q0 q1 q2
  go_wp2
  go_end0
  obtain ⟨hf, hn, hh2, hi2, hc⟩ := H3.out
  obtain ⟨h2, hc2⟩ := H2.out
  refine ⟨rfl, ⟨es', ev', ?_, hn, hh2, hi2⟩, hc2.trans (hc.mono (fun t ht => .inl ht))⟩
  exact ⟨hf, own_cha hc h2.own af_int, h2.par.cha hc af_int, h2.vals.cha hc af_int, h2.done.cha hc af_bool, h2.ne, ⟨h2.hlo.1, h2.hlo.2.1, Nat.le_trans h2.hlo.2.2 hc.size⟩, h2.hb, hc.bel h2.fro.hb (Nat.le_refl _) h2.bel, h2.ok⟩

/-- A search in memory, whose heap holds what waits. -/
structure FInv (W0 : World) (B : Nat) (m : Int) (N : Nat) (s : Value) (st : St) (ents : List En) (P cp V cv S cs lo : Nat) (w : World) (ov ev : Value) : Prop where
  inv : SInv W0 B m N s st ents P cp V cv S cs lo w ov ev
  heap : hOk m ents.length ents
  wait : Waits m N st ents
theorem FInv.keep {W0 : World} {B : Nat} {m : Int} {N : Nat} {s : Value} {st : St} {ents : List En} {P cp V cv S cs lo : Nat} {w w' : World} {ov ev : Value} (h : FInv W0 B m N s st ents P cp V cv S cs lo w ov ev) (b : Below w.heap.size w w') : FInv W0 B m N s st ents P cp V cv S cs lo w' ov ev := ⟨h.inv.keep b, h.heap, h.wait⟩
set_option maxRecDepth 20000 in
set_option maxHeartbeats 8000000 in
theorem follow {W0 : World} {B : Nat} {m : Int} {N : Nat} {s : Value} {st : St} {ents : List En} {P cp V cv S cs lo : Nat} {w : World} {ov ev : Value} (hm : mKind m = true) (h : FInv W0 B m N s st ents P cp V cv S cs lo w ov ev) (hl : ents.length ≤ 1000000) {F T : Nat} {z : Int} (hF : F < N) (hT : T < N) (hz : mWeight z = true) (hN : N ≤ 1048576) :
    Calls Try.prog 132 #[.pointer (some ⟨B, 0, none⟩), .agg #[.int .i64 F, .int .i64 T, .int .i64 z]] w fun e w' => e = .returned (.tuple #[]) ∧ (∃ ents' ev', FInv W0 B m N s (stFollow m st ((F : Int), (T : Int), z)) ents' P cp V cv S cs lo w' ov ev' ∧ ents'.length ≤ ents.length + 1) ∧ ChaT AS W0.heap.size w w' := by
  obtain ⟨⟨x0, x1, x2, x3, x4, x5, x6⟩, hB⟩ := h.inv.cells
  obtain ⟨Tt, rv, fn, fe, fb, fo, fj, rn, re, rb, ro, rj, D⟩ := disp hm
  have hval := D.val
  have hn1 := D.mb.run
  have hn2 := D.mb.ahead
  have hn3 := D.mb.enter
  obtain ⟨G, hG⟩ : ∃ G, G = vGive m st.vals ((F : Int), (T : Int), z) := ⟨_, rfl⟩
  obtain ⟨Z, hZ⟩ : ∃ Z, Z = st.vals.getD T 0 := ⟨_, rfl⟩
  have HC := Lib.hid (D.cb G Z)
  clear D
  have hb0 : Below w.heap.size w (w.alloc (.cells #[.int .i64 F, .int .i64 T, .int .i64 z] 88)) := (Below.refl _ _).alloc (Nat.le_refl _) _
  have K0 := Lib.hid (And.intro hb0 (Box.new w 88 #[.int .i64 F, .int .i64 T, .int .i64 z]))
  have hev := fun w' (hb : Below w.heap.size w w') => edgeValue m st.vals (.slice (some ⟨V, 0, none⟩) N cv) F T z w' hm (by have := (h.inv.vals.keep hb).row cv; rw [h.inv.ok.vals] at this; exact this) (by rw [h.inv.ok.vals]; exact hF) (by rw [h.inv.ok.vals]; omega) h.inv.ok.all hz
  rw [hval, ← hG] at hev
  have HEV := Lib.hid hev
  have fx : ∀ w', Below w.heap.size w w' → Box w' w.heap.size 88 #[.int .i64 F, .int .i64 T, .int .i64 z] → w'.cell? ⟨B, 2, none⟩ = some (.slice (some ⟨V, 0, none⟩) N cv) ∧ w'.cell? ⟨B, 4, none⟩ = some (.iface Tt rv) ∧ w'.cell? ⟨V, T, none⟩ = some (.int .i64 Z) ∧ w'.cell? ⟨w.heap.size, 0, none⟩ = some (.int .i64 F) ∧ w'.cell? ⟨w.heap.size, 1, none⟩ = some (.int .i64 T) ∧ w'.cell? ⟨w.heap.size, 2, none⟩ = some (.int .i64 z) := by
    intro w' hb hbx
    refine ⟨(hb.cell (p := ⟨B, _, none⟩) hB).trans x2, ?_, ?_, by simpa using hbx.cell 0, by simpa using hbx.cell 1, by simpa using hbx.cell 2⟩
    · rw [← hval]; exact (hb.cell (p := ⟨B, _, none⟩) hB).trans x4
    · rw [hZ]; exact (hb.cell (p := ⟨V, _, none⟩) h.inv.vals.lt).trans (h.inv.vals.cell (by rw [h.inv.ok.vals]; exact hT)).1
  have FX := Lib.hid fx
  have hGi : mIn m G = true := by rw [hG]; exact give_in hm h.inv.ok.all (by simp only [Int.toNat_natCast]; rw [h.inv.ok.vals]; exact hF) hz
  have hbe : stBetter m st ((F : Int), (T : Int), z) = mBet m G Z := by unfold stBetter; rw [← hG, hZ, Int.toNat_natCast]
  have HH := Lib.hid h
  have HG := Lib.hid hG
  have HVAL := Lib.hid hval
  have hT' : (T : Int) < N := by omega
  clear h hb0 hev fx hval x0 x1 x2 x3 x4 x5 x6 hG hZ
  unfold stFollow
  rw [hbe]
  have HBE := Lib.hid hbe
  clear hbe
  generalize mBet m G Z = Bb at HC HBE ⊢
  cases Bb
  · rw [if_neg (by decide)]
    go_enter Try.func132, Try.ntmps132
    go_wp2_with fail
    generalize (w.alloc (.cells #[.int .i64 F, .int .i64 T, .int .i64 z] 88)) = w0 at K0 ⊢
    refine wp_region_below (by kernel_rfl) (by kernel_rfl) ?_
    repeat (go_big_quiet_step ((intro hw; first | with_reducible rfl | (obtain ⟨f0, f1, f2, f3, f4, f5⟩ := FX.out _ (bel_trans K0.out.1 hw) (K0.out.2.keep hw); simp only [f0, f1, f2, f3, f4, f5, Result.andThen]; first | exact ⟨trivial, rfl⟩ | exact ⟨rfl, rfl⟩) | (go_at_call 136; with_reducible exact quietB (HEV.out _ (bel_trans K0.out.1 hw)) hw))))
    refine wpQuiet_nil ?_
    intro w1 hw1
    have K1 := Lib.hid (And.intro (bel_trans K0.out.1 hw1) (K0.out.2.keep hw1))
    clear hw1
    go_wp2_with fail
    refine wp_region_below (by kernel_rfl) (by kernel_rfl) ?_
    repeat (go_big_quiet_step ((intro hw; first | with_reducible rfl | (obtain ⟨f0, f1, f2, f3, f4, f5⟩ := FX.out _ (bel_trans K1.out.1 hw) (K1.out.2.keep hw); simp only [f0, f1, f2, f3, f4, f5, Result.andThen]; first | exact ⟨trivial, rfl⟩ | exact ⟨rfl, rfl⟩) | (with_reducible exact quietB (HC.out _) hw))))
    refine wpQuiet_nil ?_
    intro w2 hw2
    have K2 := Lib.hid (And.intro (bel_trans K1.out.1 hw2) (K1.out.2.keep hw2))
    clear hw2
    go_wp2
    go_end0
    exact ⟨rfl, ⟨ents, ev, HH.out.keep K2.out.1, Nat.le_succ _⟩, ChaT.of_below K2.out.1⟩
  · rw [if_pos rfl]
    have hre := fun w' (hb : Below w.heap.size w w') => reach hm (HH.out.inv.keep hb) hl HH.out.heap hT G (F : Int) hGi
    have HRE := Lib.hid hre
    clear hre
    go_enter Try.func132, Try.ntmps132
    go_wp2_with fail
    generalize (w.alloc (.cells #[.int .i64 F, .int .i64 T, .int .i64 z] 88)) = w0 at K0 ⊢
    refine wp_region_below (by kernel_rfl) (by kernel_rfl) ?_
    repeat (go_big_quiet_step ((intro hw; first | with_reducible rfl | (obtain ⟨f0, f1, f2, f3, f4, f5⟩ := FX.out _ (bel_trans K0.out.1 hw) (K0.out.2.keep hw); simp only [f0, f1, f2, f3, f4, f5, Result.andThen]; first | exact ⟨trivial, rfl⟩ | exact ⟨rfl, rfl⟩) | (go_at_call 136; with_reducible exact quietB (HEV.out _ (bel_trans K0.out.1 hw)) hw))))
    refine wpQuiet_nil ?_
    intro w1 hw1
    have K1 := Lib.hid (And.intro (bel_trans K0.out.1 hw1) (K0.out.2.keep hw1))
    clear hw1
    go_wp2_with fail
    refine wp_region_below (by kernel_rfl) (by kernel_rfl) ?_
    repeat (go_big_quiet_step ((intro hw; first | with_reducible rfl | (obtain ⟨f0, f1, f2, f3, f4, f5⟩ := FX.out _ (bel_trans K1.out.1 hw) (K1.out.2.keep hw); simp only [f0, f1, f2, f3, f4, f5, Result.andThen]; first | exact ⟨trivial, rfl⟩ | exact ⟨rfl, rfl⟩) | (with_reducible exact quietB (HC.out _) hw))))
    refine wpQuiet_nil ?_
    intro w2 hw2
    have K2 := Lib.hid (And.intro (bel_trans K1.out.1 hw2) (K1.out.2.keep hw2))
    clear hw2
    obtain ⟨y0, y1, y2, y3, y4, y5⟩ := FX.out _ K2.out.1 K2.out.2
    go_wp2_with (go_at_call 94; (with_reducible refine (HRE.out _ K2.out.1).mono ?_); rintro e w3 ⟨rfl, ⟨ents', ev', hinv, hlen, hheap, hmem⟩, hch⟩)
    go_end0
    refine ⟨rfl, ⟨ents', ev', ⟨?_, hheap, ?_⟩, by omega⟩, (ChaT.of_below K2.out.1).trans hch⟩
    · have e : stTake m st ((F : Int), (T : Int), z) = { st with vals := st.vals.set T G, par := st.par.set T (F : Int) } := by unfold stTake; rw [← HG.out]; rfl
      rw [e]; exact hinv
    · exact waits_take hm HH.out.inv.ok HH.out.wait (by simpa using hF) ⟨by simp, by simpa using hT⟩ hz HBE.out (fun y => by rw [hmem y, ← HG.out])
end Go.Proofs.Ytlmhccjppmhdbaa
