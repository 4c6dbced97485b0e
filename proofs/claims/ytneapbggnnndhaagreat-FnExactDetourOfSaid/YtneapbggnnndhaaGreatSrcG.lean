/- Slices of paths as the laws see them: what the search hands back. -/
import Derived.Test.YtneapbggnnndhaaGreatSrcA
namespace Go.Proofs.YtneapbggnnndhaaGreat
open Go.RowKit Go.BigFrame Go.Deep Go.ChangeShapes Go.WideShapes Go.Joins
set_option linter.unusedVariables false
set_option linter.unusedSimpArgs false

def psL (ps : List Pt) : Nat → Nat := fun i => (ps.getD i ([], 0)).1.length
/-- How many numbers a list of paths has. -/
def ptP (ps : List Pt) : Nat := pt (psL ps) ps.length
/-- Paths that are marked. -/
def OwnPm (w : World) (lo hi : Nat) (s : Value) (ps : List Pt) : Prop := OwnPF w lo hi s ps.length (psL ps) (pkC 1 (psL ps) (fun i => cellI (ps.getD i ([], 0)).1) ps.length) (pkX 1 (psL ps) (fun i => (ps.getD i ([], 0)).2) ps.length)
section
variable {w w' : World} {lo hi l h : Nat} {s : Value} {ps : List Pt}
theorem OwnPs.chg (r : OwnPs w lo hi s ps) (c : Chg l h w w') (d : h ≤ lo ∨ hi ≤ l) : OwnPs w' lo hi s ps := OwnPF.chg r c d
theorem OwnPs.keep (r : OwnPs w lo hi s ps) (b : Below w.heap.size w w') : OwnPs w' lo hi s ps := OwnPF.keep r b
theorem OwnPs.wider (r : OwnPs w lo hi s ps) (h1 : l ≤ lo) (h2 : hi ≤ h) (h3 : h ≤ w.heap.size) : OwnPs w l h s ps := OwnPF.wider r h1 h2 h3
theorem OwnPm.chg (r : OwnPm w lo hi s ps) (c : Chg l h w w') (d : h ≤ lo ∨ hi ≤ l) : OwnPm w' lo hi s ps := OwnPF.chg r c d
theorem OwnPm.keep (r : OwnPm w lo hi s ps) (b : Below w.heap.size w w') : OwnPm w' lo hi s ps := OwnPF.keep r b
theorem OwnPm.wider (r : OwnPm w lo hi s ps) (h1 : l ≤ lo) (h2 : hi ≤ h) (h3 : h ≤ w.heap.size) : OwnPm w l h s ps := OwnPF.wider r h1 h2 h3
end
theorem ptP_le {ps : List Pt} (h1 : ps.length ≤ 400) (h2 : ∀ i, i < ps.length → (ps.getD i ([], 0)).1.length ≤ 13) : ptP ps ≤ 5600 := by
  have := pt_bound (L := psL ps) (M := 13) (N := ps.length) h2
  unfold ptP
  omega
def ppZ : PP := ⟨.slice none 0 0, [], 0⟩
theorem ppGetD (qs : List PP) (i : Nat) : (qs.map PP.p).getD i ([], 0) = (qs.getD i ppZ).p := by
  by_cases h : i < qs.length
  · simp [List.getD, h]
  · simp [List.getD, show qs.length ≤ i by omega, ppZ, PP.p]
theorem PRow.inR {w : World} {base : Nat} {q : PP} (h : PRow w base q) {k : Nat} (hk : q.v.ownBlock = some k) : InR true w k (k + 1) q.v q.zs.length 1 (cellI q.zs) := by
  obtain ⟨g, c, e, h1, h2, h3⟩ := own_pos h.1 h.2
  have hg := h.1
  rw [e] at hk hg ⊢
  simp [Value.ownBlock] at hk
  subst hk
  refine ⟨_, c, rfl, .inr ⟨g, 0, rfl, Nat.le_refl _, Nat.lt_succ_self _, h2, fun i hi => ?_⟩⟩
  have := own_cell hg (j := i) (u := cellI q.zs i) (by simp [cellI, List.getD, show i < q.zs.length by omega])
  rw [Nat.zero_add]
  exact ⟨this.1, fun _ => this.2⟩
/-- Paths of one's own are what the laws ask for. -/
theorem Pths.ownPs {w : World} {base : Nat} {v : Value} {qs : List PP} (h : Pths w base v qs) : OwnPs w base w.heap.size v (qs.map PP.p) := by
  unfold OwnPs
  by_cases h0 : qs.length = 0
  · left
    obtain ⟨a, c, e⟩ := own_slice h.own
    exact ⟨by rw [List.length_map]; exact h0, a, c, by rw [e, h0]⟩
  · right
    obtain ⟨g, cap, e, hb, hg, hcap⟩ := own_pos h.own (by omega)
    have hown := h.own
    rw [e] at hown
    have hat : ∀ i, i < qs.length → qs.getD i ppZ ∈ qs := fun i hi => by simp [List.getD, hi]
    have hblk : ∀ i, i < qs.length → ∃ k, (qs.getD i ppZ).v.ownBlock = some k ∧ base ≤ k ∧ k < w.heap.size := fun i hi => (h.row _ (hat i hi)).blk
    refine ⟨g, cap, fun i => (qs.getD i ppZ).v, fun i => ((qs.getD i ppZ).v.ownBlock).getD 0, by rw [e, List.length_map], ⟨⟨hb, hg, Nat.le_refl _⟩, fun i hi => ?_, fun i hi => ?_, fun i hi => ?_, fun i j hi hj hne => ?_⟩⟩
    · rw [List.length_map] at hi
      obtain ⟨c1, c2⟩ := cellsP_at hi
      have d1 := own_cell hown c1
      have d2 := own_cell hown c2
      rw [ppGetD]
      have e1 : qs.getD i ppZ = qs[i] := by simp [List.getD, hi]
      rw [e1]
      exact ⟨d1.1, d2.1, d2.2⟩
    · rw [List.length_map] at hi
      obtain ⟨k, hk, _⟩ := hblk i hi
      rw [ppGetD, hk]
      exact (h.row _ (hat i hi)).inR hk
    · rw [List.length_map] at hi
      obtain ⟨k, hk, h1, h2⟩ := hblk i hi
      rw [hk]
      refine ⟨h1, h2, fun e2 => ?_⟩
      rcases own_types (h.row _ (hat i hi)).1 hown (by decide) with h3 | h3
      · rw [hk] at h3; cases h3
      · rw [hk] at h3
        exact h3 (by simp only [Option.getD_some] at e2; rw [e2]; rfl)
    · rw [List.length_map] at hi hj
      obtain ⟨k, hk, _⟩ := hblk i hi
      obtain ⟨k2, hk2, _⟩ := hblk j hj
      rw [hk, hk2]
      intro e2
      simp only [Option.getD_some] at e2
      have e3 : qs.getD i ppZ = qs[i] := by simp [List.getD, hi]
      have e4 : qs.getD j ppZ = qs[j] := by simp [List.getD, hj]
      rcases Nat.lt_or_gt_of_ne hne with h5 | h5
      · exact (List.pairwise_iff_getElem.1 h.dis i j hi hj h5) (by rw [← e3, ← e4, hk, hk2, e2])
      · exact (List.pairwise_iff_getElem.1 h.dis j i hj hi h5) (by rw [← e3, ← e4, hk, hk2, e2])
end Go.Proofs.YtneapbggnnndhaaGreat
