/- Copies of rows of numbers, to be written into. What an edge gives, and the better one of two, in the program. A round of relaxing: in the program. RelaxAll: in the program. -/
import Derived.Test.YtneapbggnnndhaaGreatVStartT
import Derived.Lib.SliceRun
import Derived.Test.YtneapbggnnndhaaGreatDisp
import Derived.Test.YtneapbggnnndhaaGreatEndV
import Derived.Test.YtneapbggnnndhaaGreatVEdges
import Derived.Deep.RegionHeld3
namespace Go.Proofs.YtneapbggnnndhaaGreat
open Go.RowKit Go.BigFrame Go.Deep
set_option linter.unusedVariables false
set_option linter.unusedSimpArgs false

/-- A row that can be written. -/
def Wr (w : World) (b off : Nat) (zs : List Int) : Prop := b < w.heap.size ∧ ∀ i, i < zs.length → w.cell? ⟨b, off + i, none⟩ = some (.int .i64 (zs.getD i 0)) ∧ w.frozen? ⟨b, off + i, none⟩ = false
theorem Wr.keep {w w' : World} {b off : Nat} {zs : List Int} (h : Wr w b off zs) (hb : Below w.heap.size w w') : Wr w' b off zs :=
  ⟨Nat.lt_of_lt_of_le h.1 hb.size, fun i hi => ⟨(hb.cell (p := ⟨b, _, none⟩) h.1).trans (h.2 i hi).1, (hb.frozen (p := ⟨b, _, none⟩) h.1).trans (h.2 i hi).2⟩⟩
theorem Wr.set {w : World} {b off : Nat} {zs : List Int} (h : Wr w b off zs) {k : Nat} (hk : k < zs.length) (x : Int) : Wr (w.setCell ⟨b, off + k, none⟩ (.int .i64 x)) b off (zs.set k x) := by
  refine ⟨by simpa using h.1, fun i hi => ?_⟩
  rw [List.length_set] at hi
  obtain ⟨h1, h2⟩ := h.2 i hi
  constructor
  · rw [getD_set _ _ _ _ hi]
    by_cases e : k = i
    · subst e
      rw [if_pos rfl, World.cell?_setCell_same _ _ _ h1]
    · have ne : (⟨b, off + k, none⟩ : Addr) ≠ ⟨b, off + i, none⟩ := by intro h; injection h with _ h _; omega
      rw [if_neg e, World.cell?_setCell_other _ _ _ _ ne, h1]
  · rw [World.frozen?_setCell]; exact h2
theorem Wr.own {w w' : World} {b off cap : Nat} {zs : List Int} (h : Wr w' b off zs) (hb : w.heap.size ≤ b) : OwnV w w' (.slice (some ⟨b, off, none⟩) zs.length cap) zs :=
  ⟨_, cap, rfl, .inr ⟨b, off, rfl, hb, h.1, Nat.le_refl _, fun i hi => ⟨(h.2 i (by omega)).1, fun _ => (h.2 i (by omega)).2⟩⟩⟩
theorem OwnV.wr {w w' : World} {v : Value} {zs : List Int} (h : OwnV w w' v zs) (h0 : 0 < zs.length) : ∃ b off cap, v = .slice (some ⟨b, off, none⟩) zs.length cap ∧ w.heap.size ≤ b ∧ Wr w' b off zs := by
  obtain ⟨a, cap, rfl, h | ⟨b, off, rfl, h1, h2, h3, hc⟩⟩ := h
  · omega
  · exact ⟨b, off, cap, rfl, h1, Nat.lt_of_lt_of_le h2 h3, fun i hi => ⟨(hc i (by omega)).1, (hc i (by omega)).2 rfl⟩⟩
theorem Wr.row {w : World} {b off cap : Nat} {zs : List Int} (h : Wr w b off zs) : Row w (.slice (some ⟨b, off, none⟩) zs.length cap) zs := ⟨_, cap, rfl, .inr ⟨b, off, rfl, h.1, fun i hi => (h.2 i hi).1⟩⟩
theorem row_news {w : World} {b off : Nat} {zs : List Int} (hc : ∀ i, i < zs.length → w.cell? ⟨b, off + i, none⟩ = some (.int .i64 (zs.getD i 0))) : ∀ j u, (zs.map (Value.int .i64))[j]? = some u → w.cell? ((⟨b, off, none⟩ : Addr).add j) = some u := by
  intro j u hj
  have hjn : j < zs.length := by
    have := (List.getElem?_eq_some_iff.1 hj).1
    simpa using this
  have e : (zs.map (Value.int .i64))[j]? = some (Value.int .i64 (zs.getD j 0)) := by simp [List.getD, hjn]
  rw [e] at hj
  injection hj with hj
  rw [← hj, ← hc j hjn, Go.WideShapes.add_plain]

set_option maxRecDepth 20000 in
set_option maxHeartbeats 1000000 in
theorem clone (zs : List Int) (s : Value) (w : World) (hr : Row w s zs) (h0 : 0 < zs.length) (hl : zs.length ≤ 1048576) :
    Calls Tryz.prog 76 #[s] w fun e w' => ∃ v, e = .returned v ∧ OwnV w w' v zs ∧ okS v ∧ Below w.heap.size w w' := by
  obtain ⟨a, cap, rfl, hz⟩ := hr
  rcases hz with hz | ⟨b, off, rfl, hb, hc⟩
  · rw [hz] at h0; simp at h0
  have hnews := row_news (fun i hi => (Lib.cell?_alloc_some (.cells #[] 3) (hc i hi)))
  have HN := Lib.hid hnews
  obtain ⟨i0, hi, hz0, hz1, hz2⟩ := info_parts info_int2
  have HI := Lib.hid (And.intro hi (And.intro hz0 (And.intro hz1 hz2)))
  have hown0 : (w.alloc (.cells #[] 3)).ownsRow w.heap.size 3 1 (.slice (some ⟨w.heap.size, 0, none⟩) 0 0) 0 [] := World.ownsRow_made w #[] 0 (Nat.le_refl _) (by unfold maxLen; omega) rfl
  have HO := Lib.hid hown0
  have hall : ∀ u ∈ zs.map (Value.int .i64), u.oneCell' = true := by intro u hu; obtain ⟨x, _, rfl⟩ := List.mem_map.1 hu; rfl
  have HALL := Lib.hid hall
  have hq : ∀ w, (binOp .eql 25 (.slice (some ⟨b, off, none⟩) zs.length cap) (.slice none 0 0)).run Tryz.prog w = .ok (.bool false) w := fun w => Lib.run_eql_slice_nil w _ _ (some ⟨b, off, none⟩) zs.length cap 0 0 Tryz.underlying25
  clear hown0 hc hnews hi hz0 hz1 hz2 hall
  go_enter Tryz.func76, Tryz.ntmps76
  obtain ⟨hi, hz0, hz1, hz2⟩ := HI.out
  go_wp2_with (at_builtin; refine wpList_append_own _ rfl _ _ 25 rfl w.heap.size 3 i0 (.int .i64 0) 1 8 Tryz.underlying25 hi hz0 hz1 hz2 rfl (by decide) _ _ _ rfl HO.out ⟨b, off, none⟩ zs.length cap (zs.map (Value.int .i64)) rfl ?c1 HN.out HALL.out ?c3 ?c4 ?c5 ?_)
  case c1 => simp
  case c3 => unfold maxLen; omega
  case c4 => omega
  case c5 => simp
  intro v' w6 hown6 hgrow6 _
  have hown7 : w6.ownsRow w.heap.size 3 1 v' zs.length (zs.map (Value.int .i64)) := by simpa using hown6
  have H7 := Lib.hid hown7
  have hB : Below w.heap.size w w6 := ((Below.refl _ w).alloc (Nat.le_refl _) _).grown hgrow6 (by simp) (by intro k hk; simp [Value.ownBlock] at hk; omega)
  clear hown6 hown7 hgrow6 hi hz0 hz1 hz2
  go_wp2
  go_ret
  exact ⟨v', rfl, OwnV.of H7.out (Nat.le_refl _), own_ok H7.out, hB⟩

end Go.Proofs.YtneapbggnnndhaaGreat
namespace Go.Proofs.YtneapbggnnndhaaGreat
open Go.RowKit Go.BigFrame Go.Deep
set_option linter.unusedVariables false
set_option linter.unusedSimpArgs false

end Go.Proofs.YtneapbggnnndhaaGreat
namespace Go.Proofs.YtneapbggnnndhaaGreat
open Go.RowKit Go.BigFrame Go.Deep
set_option linter.unusedVariables false
set_option linter.unusedSimpArgs false

/-- The values so far, when k edges are done. -/
def vMid (m : Int) (es : List Ed) (zs : List Int) (k : Nat) : List Int := (es.take k).foldl (vUp m zs) zs
theorem vMid_len (m : Int) (es : List Ed) (zs : List Int) (k : Nat) : (vMid m es zs k).length = zs.length := vFold_length m zs _ zs
theorem vMid_all (m : Int) (es : List Ed) (zs : List Int) : vMid m es zs es.length = vRelax m es zs := by unfold vMid vRelax; rw [List.take_length]
theorem vMid_succ (m : Int) (es : List Ed) (zs : List Int) {k X Y : Nat} {z : Int} (hk : k < es.length) (he : ((X : Int), (Y : Int), z) = es.getD k (0, 0, 0)) :
    vMid m es zs (k + 1) = (vMid m es zs k).set Y (mBest m ((vMid m es zs k).getD Y 0) (vGive m zs ((X : Int), (Y : Int), z))) := by
  unfold vMid
  rw [vFold_snoc m zs zs es k hk, ← he]
  unfold vUp
  simp only [Int.toNat_natCast]

end Go.Proofs.YtneapbggnnndhaaGreat
namespace Go.Proofs.YtneapbggnnndhaaGreat
open Go.RowKit Go.BigFrame Go.Deep
set_option linter.unusedVariables false
set_option linter.unusedSimpArgs false

def rxM (n : Int) (es : List Ed) (m a : Int) (zs : List Int) : Int := if vVal n es m a zs = true then m else 0
def rxA (n : Int) (es : List Ed) (m a : Int) (zs : List Int) : Int := if vVal n es m a zs = true then a else 0
def rxL (n : Int) (es : List Ed) (m a : Int) (zs : List Int) : List Int := if vVal n es m a zs = true then vRelax m es zs else []
theorem vVal_pts {n : Int} {es : List Ed} {m a : Int} {zs : List Int} (h : vVal n es m a zs = true) : gVal n es = true ∧ (0 ≤ a ∧ a < n) ∧ (zs.length : Int) = n ∧ mKind m = true ∧ zs.all (mIn m) = true := by
  simp only [vVal, vFit, mAll, Bool.and_eq_true, decide_eq_true_eq] at h
  exact ⟨h.1.1, h.1.2.1, h.1.2.2, h.2.1, h.2.2⟩
theorem vAll_of {m : Int} {zs : List Int} (h : zs.all (mIn m) = true) : vAll m zs := by
  intro i hi
  rw [getD_of hi]
  exact List.all_eq_true.1 h _ (List.getElem_mem hi)
/-- What relaxing needs. -/
theorem vVal_use {n : Int} {es : List Ed} {m a : Int} {zs : List Int} (h : vVal n es m a zs = true) : mKind m = true ∧ 0 < zs.length ∧ zs.length ≤ 12 ∧ es.length ≤ 40 ∧ vAll m zs ∧ eAll zs.length es := by
  have hp := vVal_pts h
  have hn := gVal_n hp.1
  have he := eAll_of hp.1
  rw [show n.toNat = zs.length by omega] at he
  exact ⟨hp.2.2.2.1, by omega, by omega, hn.2.2, vAll_of hp.2.2.2.2, he⟩

end Go.Proofs.YtneapbggnnndhaaGreat
