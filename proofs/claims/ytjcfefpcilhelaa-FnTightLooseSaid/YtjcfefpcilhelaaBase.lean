/- What every part of these proofs uses: worlds that have grown, regions over them, slices of integers that read as lists. -/
import Derived.Test.YtjcfefpcilhelaaProg
import Derived.WalkKit
import Derived.ProofKit
import Derived.OpenShut
import Derived.WalkLawsBesides
import Derived.WalkSpells
import Derived.Outline
import Derived.Deep.QuietTactic
import Derived.BigQuiet
import Derived.Lib.Hide
import Derived.StillTailTactics
namespace Go.Proofs.Ytjcfefpcilhelaa
open Go.RowKit
set_option linter.unusedVariables false
set_option linter.unusedSimpArgs false

theorem bel_trans {W w w' : World} (h : Below W.heap.size W w) (k : Below w.heap.size w w') : Below W.heap.size W w' := h.trans (k.mono h.size)

/-- A region that draws its order, over worlds that have grown. -/
theorem wp_region_below {P : Program} {id : Nat} {Q : Exit → Act → World → Prop} {a : Act} {w : World} {l : List Oper} (hm : P.follows .mixedOrders = true) (hB : Region.lexB .any l.toArray = true)
    (h : wpQuiet P l.toArray (fun w' => Below w.heap.size w w') (fun a' => ∀ w', Below w.heap.size w w' → Q .normal a' w') l a) : (Code.region id l.toArray true).wp P Q a w :=
  wp_region_quiet (C := fun w' => Below w.heap.size w w') hm hB ((Below.refl _ _).drew) (by simpa using h)
/-- A contract in a region over worlds that have grown. -/
theorem quietB {P : Program} {f : FuncId} {args : Array Value} {W w : World} {v : Value} (h : Calls P f args w fun e w' => e = .returned v ∧ Below w.heap.size w w') (hb : Below W.heap.size W w) :
    Calls P f args w fun e w'' => e = .returned v ∧ Below W.heap.size W w'' := h.mono fun _ _ ⟨he, hb'⟩ => ⟨he, bel_trans hb hb'⟩

theorem still_of_quiet {P : Program} {o : Oper} {a : Act} {w : World} {K : Act → Prop} (h : o.quiet P a (fun w' => w' = w) K) : o.still P a w K := by
  obtain ⟨v, hv, hk⟩ := h
  have h1 := hv w rfl
  unfold Oper.quietAt at h1
  unfold Oper.still
  revert h1
  generalize (execOp a.eval o).run P w = r
  intro h1
  match r, h1 with
  | .ok (.value u) w', h => obtain ⟨rfl, rfl⟩ := h; exact ⟨rfl, hk⟩
  | .ok .skip w', h => obtain ⟨rfl, rfl⟩ := h; exact ⟨rfl, hk⟩
  | .ok (.enter f args) w', h => obtain ⟨rfl, hc⟩ := h; exact ⟨rfl, v, hc, hk⟩
theorem wpStill_of_quiet {P : Program} {ops : Array Oper} {w : World} {Q : Act → Prop} : ∀ {l : List Oper} {a : Act}, wpQuiet P ops (fun w' => w' = w) Q l a → wpStill P ops w Q l a
  | [], _, h => h
  | o :: rest, a, h => by
    unfold wpQuiet at h
    refine wpStill_step fun K hK => ?_
    split at h
    · rename_i hw
      rw [if_pos hw]
      exact still_of_quiet (Oper.quiet_mono (fun a ha => hK a (wpStill_of_quiet ha)) h)
    · rename_i hw
      rw [if_neg hw]
      exact hK _ (wpStill_of_quiet h)
/-- A region that draws its order, whose operations but the last ones leave the world alone. -/
theorem wp_region_tail {P : Program} {id : Nat} {Q : Exit → Act → World → Prop} {a : Act} {w : World} {l : List Oper} (n : Nat) (hm : P.follows .mixedOrders = true) (hB : Region.lexTailB .any l.toArray n = true)
    (h : wpQuiet P l.toArray (fun w' => w' = w.drew) (fun a' => wpList P l.toArray Q (l.drop n) a' w.drew) (l.take n) a) : (Code.region id l.toArray true).wp P Q a w := wp_region_still_tail n hm hB (wpStill_of_quiet h)

/-- A slice of integers that reads as a list. -/
def Row (w : World) (s : Value) (zs : List Int) : Prop :=
  ∃ a cap, s = .slice a zs.length cap ∧ (zs = [] ∨ ∃ b off, a = some ⟨b, off, none⟩ ∧ b < w.heap.size ∧ ∀ i, i < zs.length → w.cell? ⟨b, off + i, none⟩ = some (.int .i64 (zs.getD i 0)))
theorem getD_of {zs : List Int} {k : Nat} (h : k < zs.length) : zs.getD k 0 = zs[k] := by simp [List.getD, h]
theorem all_snoc (p : Int → Bool) (zs : List Int) (k : Nat) (h : k < zs.length) : (zs.take (k + 1)).all p = ((zs.take k).all p && p (zs.getD k 0)) := by
  rw [List.take_succ_eq_append_getElem h, List.all_append, getD_of h]; simp
theorem all_false (p : Int → Bool) (zs : List Int) (k : Nat) (h : k < zs.length) (hf : p (zs.getD k 0) = false) : zs.all p = false := by
  rw [getD_of h] at hf
  apply Bool.eq_false_iff.2
  intro ha
  rw [List.all_eq_true] at ha
  rw [ha _ (List.getElem_mem h)] at hf
  cases hf

end Go.Proofs.Ytjcfefpcilhelaa
