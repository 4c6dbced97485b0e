/- Copies of rows of numbers, to be written into. What an edge gives, and the better one of two, in the program. A round of relaxing: in the program. RelaxAll: in the program. -/
import Derived.Test.YtdlnekfifogcaaaVStartT
import Derived.Lib.SliceRun
import Derived.Test.YtdlnekfifogcaaaDisp
import Derived.Test.YtdlnekfifogcaaaEndV
import Derived.Test.YtdlnekfifogcaaaVEdges
import Derived.Deep.RegionHeld3
namespace Go.Proofs.Ytdlnekfifogcaaa
open Go.RowKit Go.BigFrame Go.Deep
set_option linter.unusedVariables false
set_option linter.unusedSimpArgs false

/-- A row that can be written. -/
def Wr (w : World) (b off : Nat) (zs : List Int) : Prop := b < w.heap.size ∧ ∀ i, i < zs.length → w.cell? ⟨b, off + i, none⟩ = some (.int .i64 (zs.getD i 0)) ∧ w.frozen? ⟨b, off + i, none⟩ = false
theorem Wr.keep {w w' : World} {b off : Nat} {zs : List Int} (h : Wr w b off zs) (hb : Below w.heap.size w w') : Wr w' b off zs :=
  ⟨Nat.lt_of_lt_of_le h.1 hb.size, fun i hi => ⟨(hb.cell (p := ⟨b, _, none⟩) h.1).trans (h.2 i hi).1, (hb.frozen (p := ⟨b, _, none⟩) h.1).trans (h.2 i hi).2⟩⟩
theorem Wr.set {w : World} {b off : Nat} {zs : List Int} (h : Wr w b off zs) {k : Nat} (hk : k < zs.length) (x : Int) : Wr (w.setCell ⟨b, off + k, none⟩ (.int .i64 x)) b off (zs.set k x) := by
  refine ⟨by simpa using h.1, fun i hi => ?_⟩
  rw [List.length_set] at hi
  obtain ⟨h1, h2⟩ := h.2 i hi
  constructor
  · rw [getD_set _ _ _ _ hi]
    by_cases e : k = i
    · subst e
      rw [if_pos rfl, World.cell?_setCell_same _ _ _ h1]
    · have ne : (⟨b, off + k, none⟩ : Addr) ≠ ⟨b, off + i, none⟩ := by intro h; injection h with _ h _; omega
      rw [if_neg e, World.cell?_setCell_other _ _ _ _ ne, h1]
  · rw [World.frozen?_setCell]; exact h2
theorem Wr.own {w w' : World} {b off cap : Nat} {zs : List Int} (h : Wr w' b off zs) (hb : w.heap.size ≤ b) : OwnV w w' (.slice (some ⟨b, off, none⟩) zs.length cap) zs :=
  ⟨_, cap, rfl, .inr ⟨b, off, rfl, hb, h.1, Nat.le_refl _, fun i hi => ⟨(h.2 i (by omega)).1, fun _ => (h.2 i (by omega)).2⟩⟩⟩
theorem OwnV.wr {w w' : World} {v : Value} {zs : List Int} (h : OwnV w w' v zs) (h0 : 0 < zs.length) : ∃ b off cap, v = .slice (some ⟨b, off, none⟩) zs.length cap ∧ w.heap.size ≤ b ∧ Wr w' b off zs := by
  obtain ⟨a, cap, rfl, h | ⟨b, off, rfl, h1, h2, h3, hc⟩⟩ := h
  · omega
  · exact ⟨b, off, cap, rfl, h1, Nat.lt_of_lt_of_le h2 h3, fun i hi => ⟨(hc i (by omega)).1, (hc i (by omega)).2 rfl⟩⟩
theorem Wr.row {w : World} {b off cap : Nat} {zs : List Int} (h : Wr w b off zs) : Row w (.slice (some ⟨b, off, none⟩) zs.length cap) zs := ⟨_, cap, rfl, .inr ⟨b, off, rfl, h.1, fun i hi => (h.2 i hi).1⟩⟩
theorem row_news {w : World} {b off : Nat} {zs : List Int} (hc : ∀ i, i < zs.length → w.cell? ⟨b, off + i, none⟩ = some (.int .i64 (zs.getD i 0))) : ∀ j u, (zs.map (Value.int .i64))[j]? = some u → w.cell? ((⟨b, off, none⟩ : Addr).add j) = some u := by
  intro j u hj
  have hjn : j < zs.length := by
    have := (List.getElem?_eq_some_iff.1 hj).1
    simpa using this
  have e : (zs.map (Value.int .i64))[j]? = some (Value.int .i64 (zs.getD j 0)) := by simp [List.getD, hjn]
  rw [e] at hj
  injection hj with hj
  rw [← hj, ← hc j hjn, Go.WideShapes.add_plain]

end Go.Proofs.Ytdlnekfifogcaaa
namespace Go.Proofs.Ytdlnekfifogcaaa
open Go.RowKit Go.BigFrame Go.Deep
set_option linter.unusedVariables false
set_option linter.unusedSimpArgs false

set_option maxRecDepth 20000 in
set_option maxHeartbeats 2000000 in
theorem edgeValue (m : Int) (zs : List Int) (s : Value) (F : Nat) (y z : Int) (w : World) (hm : mKind m = true) (hr : Row w s zs) (hF : F < zs.length) (hl : zs.length ≤ 1048576) (hv : vAll m zs) (hw : mWeight z = true) :
    Calls Try.prog 115 #[opsV m, s, .agg #[.int .i64 F, .int .i64 y, .int .i64 z]] w fun e w' => e = .returned (.int .i64 (vGive m zs (F, y, z))) ∧ Below w.heap.size w w' := by
  obtain ⟨T, rv, fn, fe, fb, fo, fj, rn, re, rb, ro, rj, D⟩ := disp hm
  rw [D.val]
  have ho1 := D.mo.run
  have ho2 := D.mo.ahead
  have ho3 := D.mo.enter
  have hj1 := D.mj.run
  have hj2 := D.mj.ahead
  have hj3 := D.mj.enter
  obtain ⟨a, cap, rfl, hz⟩ := hr
  rcases hz with hz | ⟨b, off, rfl, hb, hc⟩
  · rw [hz] at hF; simp at hF
  obtain ⟨x, hx⟩ : ∃ x, x = zs.getD F 0 := ⟨_, rfl⟩
  have h1 := hc F hF
  rw [← hx] at h1
  have hxi : mIn m x = true := by rw [hx]; exact hv F hF
  have hco := D.co z
  have hcj := fun w => D.cj x (mEdge m z) w hxi (mEdge_in hm hw)
  have e0 : vGive m zs ((F : Int), y, z) = mJoin m x (mEdge m z) := by unfold vGive; rw [hx]; rfl
  rw [e0]
  have HCO := Lib.hid hco
  have HCJ := Lib.hid hcj
  have hF' : (F : Int) < zs.length := by omega
  have ff : ∀ w', Below (w.alloc (.cells #[.int .i64 F, .int .i64 y, .int .i64 z] 69)).heap.size (w.alloc (.cells #[.int .i64 F, .int .i64 y, .int .i64 z] 69)) w' →
      w'.cell? ⟨b, off + F, none⟩ = some (.int .i64 x) ∧ w'.cell? ⟨w.heap.size, 0, none⟩ = some (.int .i64 F) ∧ w'.cell? ⟨w.heap.size, 2, none⟩ = some (.int .i64 z) ∧ Below w.heap.size w w' := by
    intro w' h
    have hB := bel_trans ((Below.refl _ w).alloc (Nat.le_refl _) (.cells #[.int .i64 F, .int .i64 y, .int .i64 z] 69)) h
    exact ⟨(hB.cell (p := ⟨b, _, none⟩) hb).trans h1, (h.cell (p := ⟨_, _, none⟩) (by simp)).trans (by go_simp), (h.cell (p := ⟨_, _, none⟩) (by simp)).trans (by go_simp), hB⟩
  have FF := Lib.hid ff
  have HD := Lib.hid D
  clear D hc h1 hx hxi hco hcj e0 ff hv
  go_enter Try.func115, Try.ntmps115
  go_wp2
  generalize (w.alloc (.cells #[.int .i64 F, .int .i64 y, .int .i64 z] 69)) = W1 at FF ⊢
  refine wp_region_below (by kernel_rfl) (by kernel_rfl) ?_
  repeat (go_big_quiet_step ((intro hw1; first | with_reducible rfl | (obtain ⟨f0, f1, f2, -⟩ := FF.out _ hw1; simp only [f0, f1, f2, Result.andThen]; first | exact ⟨trivial, rfl⟩ | exact ⟨rfl, rfl⟩) | (with_reducible exact quietB (HCO.out _) hw1) | (with_reducible exact quietB (HCJ.out _) hw1))))
  refine wpQuiet_nil ?_
  intro w2 hw2
  obtain ⟨-, -, -, hB⟩ := FF.out _ hw2
  go_wp2
  go_ret
  exact ⟨rfl, hB⟩
end Go.Proofs.Ytdlnekfifogcaaa
namespace Go.Proofs.Ytdlnekfifogcaaa
open Go.RowKit Go.BigFrame Go.Deep
set_option linter.unusedVariables false
set_option linter.unusedSimpArgs false

/-- The values so far, when k edges are done. -/
def vMid (m : Int) (es : List Ed) (zs : List Int) (k : Nat) : List Int := (es.take k).foldl (vUp m zs) zs
theorem vMid_len (m : Int) (es : List Ed) (zs : List Int) (k : Nat) : (vMid m es zs k).length = zs.length := vFold_length m zs _ zs
theorem vMid_all (m : Int) (es : List Ed) (zs : List Int) : vMid m es zs es.length = vRelax m es zs := by unfold vMid vRelax; rw [List.take_length]
theorem vMid_succ (m : Int) (es : List Ed) (zs : List Int) {k X Y : Nat} {z : Int} (hk : k < es.length) (he : ((X : Int), (Y : Int), z) = es.getD k (0, 0, 0)) :
    vMid m es zs (k + 1) = (vMid m es zs k).set Y (mBest m ((vMid m es zs k).getD Y 0) (vGive m zs ((X : Int), (Y : Int), z))) := by
  unfold vMid
  rw [vFold_snoc m zs zs es k hk, ← he]
  unfold vUp
  simp only [Int.toNat_natCast]

end Go.Proofs.Ytdlnekfifogcaaa
namespace Go.Proofs.Ytdlnekfifogcaaa
open Go.RowKit Go.BigFrame Go.Deep
set_option linter.unusedVariables false
set_option linter.unusedSimpArgs false

def rxM (n : Int) (es : List Ed) (m a : Int) (zs : List Int) : Int := if vVal n es m a zs = true then m else 0
def rxA (n : Int) (es : List Ed) (m a : Int) (zs : List Int) : Int := if vVal n es m a zs = true then a else 0
def rxL (n : Int) (es : List Ed) (m a : Int) (zs : List Int) : List Int := if vVal n es m a zs = true then vRelax m es zs else []
theorem vVal_pts {n : Int} {es : List Ed} {m a : Int} {zs : List Int} (h : vVal n es m a zs = true) : gVal n es = true ∧ (0 ≤ a ∧ a < n) ∧ (zs.length : Int) = n ∧ mKind m = true ∧ zs.all (mIn m) = true := by
  simp only [vVal, vFit, mAll, Bool.and_eq_true, decide_eq_true_eq] at h
  exact ⟨h.1.1, h.1.2.1, h.1.2.2, h.2.1, h.2.2⟩
theorem vAll_of {m : Int} {zs : List Int} (h : zs.all (mIn m) = true) : vAll m zs := by
  intro i hi
  rw [getD_of hi]
  exact List.all_eq_true.1 h _ (List.getElem_mem hi)
/-- What relaxing needs. -/
theorem vVal_use {n : Int} {es : List Ed} {m a : Int} {zs : List Int} (h : vVal n es m a zs = true) : mKind m = true ∧ 0 < zs.length ∧ zs.length ≤ 12 ∧ es.length ≤ 40 ∧ vAll m zs ∧ eAll zs.length es := by
  have hp := vVal_pts h
  have hn := gVal_n hp.1
  have he := eAll_of hp.1
  rw [show n.toNat = zs.length by omega] at he
  exact ⟨hp.2.2.2.1, by omega, by omega, hn.2.2, vAll_of hp.2.2.2.2, he⟩

end Go.Proofs.Ytdlnekfifogcaaa
