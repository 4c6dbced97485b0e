/- Plain mathematics of measures of paths: nothing of the program is imported. More of the measures' mathematics. What every part of these proofs uses: worlds that have grown, regions over them, slices of integers that read as lists. -/
import Derived.WalkKit
import Derived.Test.YtlgjcofpdaljnaaProg
import Derived.ProofKit
import Derived.OpenShut
import Derived.WalkLawsBesides
import Derived.WalkSpells
import Derived.Outline
import Derived.Deep.QuietTactic
import Derived.BigQuiet
import Derived.Lib.Hide
import Derived.StillTailTactics
namespace Go.Proofs.Ytlgjcofpdaljnaa
set_option linter.unusedVariables false
set_option linter.unusedSimpArgs false

/-- The measure of no path. -/
def mNone (m : Int) : Int := if m = 2 ∨ m = 4 then 0 else 100000
/-- The measure of a path without edges. -/
def mOne (m : Int) : Int := if m = 2 then 100000 else if m = 4 then 1 else 0
/-- Is a better than b? -/
def mBet (m a b : Int) : Bool := if m = 2 ∨ m = 4 then decide (b < a) else decide (a < b)
/-- The measure of an edge. -/
def mEdge (m w : Int) : Int := if m = 4 ∨ m = 5 then 1 else w
/-- Two paths, one behind the other. -/
def mJoin (m a b : Int) : Int := if m = 1 ∨ m = 5 then min (a + b) 100000 else if m = 3 then max a b else min a b
/-- A kind of measures. -/
def mKind (m : Int) : Bool := decide (1 ≤ m) && decide (m ≤ 5)
/-- Is v between the measures of no path and of the empty path? -/
def mIn (m v : Int) : Bool := !(mBet m (mNone m) v) && !(mBet m v (mOne m))
/-- A measure of a kind. -/
def mIs (m v : Int) : Bool := mKind m && mIn m v
/-- A weight. -/
def mWeight (w : Int) : Bool := decide (1 ≤ w) && decide (w ≤ 999)

theorem mKind_cases {m : Int} (h : mKind m = true) : m = 1 ∨ m = 2 ∨ m = 3 ∨ m = 4 ∨ m = 5 := by
  simp [mKind] at h
  omega
theorem mKind_not {m : Int} (h : mKind m = false) : m < 1 ∨ 5 < m := by
  simp [mKind] at h
  omega

/-! what the exported functions answer -/
def rNo (m : Int) : Int := if mKind m = true then mNone m else 0
def rEmpty (m : Int) : Int := if mKind m = true then mOne m else 0
def bEdge (m w : Int) : Bool := mKind m && mWeight w
def rEdge (m w : Int) : Int := if bEdge m w = true then mEdge m w else 0
def bTwo (m a b : Int) : Bool := mIs m a && mIs m b
def mBest (m a b : Int) : Int := if mBet m b a = true then b else a
def rBest (m a b : Int) : Int := if bTwo m a b = true then mBest m a b else 0
def bBet (m a b : Int) : Bool := bTwo m a b && mBet m a b
def rExt (m a b : Int) : Int := if bTwo m a b = true then mJoin m a b else 0
def mPath (m : Int) (v : Int) (ws : List Int) : Int := ws.foldl (fun v w => mJoin m v (mEdge m w)) v
def bPath (m : Int) (ws : List Int) : Bool := mKind m && (decide (ws.length ≤ 50) && ws.all mWeight)
def rPath (m : Int) (ws : List Int) : Int := if bPath m ws = true then mPath m (mOne m) ws else 0

theorem mIn_low {m v : Int} (hm : mKind m = true) (h : mIn m v = true) : 0 ≤ v ∧ v ≤ 100000 := by
  rcases mKind_cases hm with rfl | rfl | rfl | rfl | rfl <;> simp [mIn, mBet, mNone, mOne] at h <;> omega
theorem bTwo_of {m a b : Int} (h : bTwo m a b = true) : mKind m = true ∧ mIn m a = true ∧ mIn m b = true := by
  simp [bTwo, mIs] at h
  exact ⟨h.1.1, h.1.2, h.2.2⟩
theorem bTwo_not {m a b : Int} (hm : mKind m = true) (h : bTwo m a b = false) : [a, b].all (mIn m) = false := by
  simp only [bTwo, mIs, hm, Bool.true_and] at h
  simpa using h
theorem bTwo_yes {m a b : Int} (h : bTwo m a b = true) : [a, b].all (mIn m) = true := by
  have := bTwo_of h
  simp [this.2.1, this.2.2]
theorem bTwo_kind {m a b : Int} (hm : mKind m = false) : bTwo m a b = false := by simp [bTwo, mIs, hm]
end Go.Proofs.Ytlgjcofpdaljnaa
namespace Go.Proofs.Ytlgjcofpdaljnaa
open Go.RowKit
set_option linter.unusedVariables false
set_option linter.unusedSimpArgs false

theorem mEdge_in {m x : Int} (hm : mKind m = true) (h : mWeight x = true) : mIn m (mEdge m x) = true := by
  simp [mWeight] at h
  rcases mKind_cases hm with rfl | rfl | rfl | rfl | rfl <;> simp [mIn, mBet, mNone, mOne, mEdge] <;> omega

theorem mJoin_in {m a b : Int} (hm : mKind m = true) (ha : mIn m a = true) (hb : mIn m b = true) : mIn m (mJoin m a b) = true := by
  rcases mKind_cases hm with rfl | rfl | rfl | rfl | rfl <;> simp [mIn, mBet, mNone, mOne, mJoin] at * <;> omega

theorem mOne_in {m : Int} (hm : mKind m = true) : mIn m (mOne m) = true := by
  rcases mKind_cases hm with rfl | rfl | rfl | rfl | rfl <;> decide

theorem bTwo_mk {m a b : Int} (hm : mKind m = true) (ha : mIn m a = true) (hb : mIn m b = true) : bTwo m a b = true := by simp [bTwo, mIs, hm, ha, hb]

end Go.Proofs.Ytlgjcofpdaljnaa
namespace Go.Proofs.Ytlgjcofpdaljnaa
open Go.RowKit
set_option linter.unusedVariables false
set_option linter.unusedSimpArgs false

theorem bel_trans {W w w' : World} (h : Below W.heap.size W w) (k : Below w.heap.size w w') : Below W.heap.size W w' := h.trans (k.mono h.size)

/-- A region that draws its order, over worlds that have grown. -/
theorem wp_region_below {P : Program} {id : Nat} {Q : Exit → Act → World → Prop} {a : Act} {w : World} {l : List Oper} (hm : P.follows .mixedOrders = true) (hB : Region.lexB .any l.toArray = true)
    (h : wpQuiet P l.toArray (fun w' => Below w.heap.size w w') (fun a' => ∀ w', Below w.heap.size w w' → Q .normal a' w') l a) : (Code.region id l.toArray true).wp P Q a w :=
  wp_region_quiet (C := fun w' => Below w.heap.size w w') hm hB ((Below.refl _ _).drew) (by simpa using h)
/-- A contract in a region over worlds that have grown. -/
theorem quietB {P : Program} {f : FuncId} {args : Array Value} {W w : World} {v : Value} (h : Calls P f args w fun e w' => e = .returned v ∧ Below w.heap.size w w') (hb : Below W.heap.size W w) :
    Calls P f args w fun e w'' => e = .returned v ∧ Below W.heap.size W w'' := h.mono fun _ _ ⟨he, hb'⟩ => ⟨he, bel_trans hb hb'⟩

theorem still_of_quiet {P : Program} {o : Oper} {a : Act} {w : World} {K : Act → Prop} (h : o.quiet P a (fun w' => w' = w) K) : o.still P a w K := by
  obtain ⟨v, hv, hk⟩ := h
  have h1 := hv w rfl
  unfold Oper.quietAt at h1
  unfold Oper.still
  revert h1
  generalize (execOp a.eval o).run P w = r
  intro h1
  match r, h1 with
  | .ok (.value u) w', h => obtain ⟨rfl, rfl⟩ := h; exact ⟨rfl, hk⟩
  | .ok .skip w', h => obtain ⟨rfl, rfl⟩ := h; exact ⟨rfl, hk⟩
  | .ok (.enter f args) w', h => obtain ⟨rfl, hc⟩ := h; exact ⟨rfl, v, hc, hk⟩
theorem wpStill_of_quiet {P : Program} {ops : Array Oper} {w : World} {Q : Act → Prop} : ∀ {l : List Oper} {a : Act}, wpQuiet P ops (fun w' => w' = w) Q l a → wpStill P ops w Q l a
  | [], _, h => h
  | o :: rest, a, h => by
    unfold wpQuiet at h
    refine wpStill_step fun K hK => ?_
    split at h
    · rename_i hw
      rw [if_pos hw]
      exact still_of_quiet (Oper.quiet_mono (fun a ha => hK a (wpStill_of_quiet ha)) h)
    · rename_i hw
      rw [if_neg hw]
      exact hK _ (wpStill_of_quiet h)
/-- A region that draws its order, whose operations but the last ones leave the world alone. -/
theorem wp_region_tail {P : Program} {id : Nat} {Q : Exit → Act → World → Prop} {a : Act} {w : World} {l : List Oper} (n : Nat) (hm : P.follows .mixedOrders = true) (hB : Region.lexTailB .any l.toArray n = true)
    (h : wpQuiet P l.toArray (fun w' => w' = w.drew) (fun a' => wpList P l.toArray Q (l.drop n) a' w.drew) (l.take n) a) : (Code.region id l.toArray true).wp P Q a w := wp_region_still_tail n hm hB (wpStill_of_quiet h)

/-- A slice of integers that reads as a list. -/
def Row (w : World) (s : Value) (zs : List Int) : Prop :=
  ∃ a cap, s = .slice a zs.length cap ∧ (zs = [] ∨ ∃ b off, a = some ⟨b, off, none⟩ ∧ b < w.heap.size ∧ ∀ i, i < zs.length → w.cell? ⟨b, off + i, none⟩ = some (.int .i64 (zs.getD i 0)))
theorem getD_of {zs : List Int} {k : Nat} (h : k < zs.length) : zs.getD k 0 = zs[k] := by simp [List.getD, h]
theorem all_snoc (p : Int → Bool) (zs : List Int) (k : Nat) (h : k < zs.length) : (zs.take (k + 1)).all p = ((zs.take k).all p && p (zs.getD k 0)) := by
  rw [List.take_succ_eq_append_getElem h, List.all_append, getD_of h]; simp
theorem all_false (p : Int → Bool) (zs : List Int) (k : Nat) (h : k < zs.length) (hf : p (zs.getD k 0) = false) : zs.all p = false := by
  rw [getD_of h] at hf
  apply Bool.eq_false_iff.2
  intro ha
  rw [List.all_eq_true] at ha
  rw [ha _ (List.getElem_mem h)] at hf
  cases hf

end Go.Proofs.Ytlgjcofpdaljnaa
