/- Matrices at the laws: arguments whose blocks are older than the call, results in variables. -/
import Derived.Test.YtjpikbbpmbeckaaMatW
import Derived.Test.YtjpikbbpmbeckaaBel
import Derived.Test.YtjpikbbpmbeckaaBoxes
import Derived.Deep.CutRange
import Derived.Deep.RegionHeld3
namespace Go.Proofs.Ytjpikbbpmbeckaa
open Go.RowKit Go.BigFrame Go.Deep
set_option linter.unusedVariables false
set_option linter.unusedSimpArgs false
set_option linter.unnecessarySimpa false

/-- A grid whose blocks lie between two numbers. -/
def GridIn (w : World) (lo hi : Nat) (s : Value) (zss : List (List Int)) : Prop :=
  ∃ a cap, s = .slice a zss.length cap ∧ (zss = [] ∨ ∃ (b off : Nat) (T : Nat → Value), a = some ⟨b, off, none⟩ ∧ (lo ≤ b ∧ b < hi ∧ hi ≤ w.heap.size) ∧ ∀ i, i < zss.length → w.cell? ⟨b, off + i, none⟩ = some (T i) ∧ InR false w lo hi (T i) (zss.getD i []).length 1 (cellI (zss.getD i [])))
section
variable {w w' : World} {lo hi l h : Nat} {s : Value} {zss : List (List Int)}
theorem GridIn.of (g : Grid w s zss) : GridIn w 0 w.heap.size s zss := by
  obtain ⟨a, cap, rfl, hz⟩ := g
  refine ⟨a, cap, rfl, ?_⟩
  rcases hz with hz | ⟨b, off, T, rfl, hb, hc⟩
  · exact .inl hz
  · exact .inr ⟨b, off, T, rfl, ⟨Nat.zero_le _, hb, Nat.le_refl _⟩, fun i hi => ⟨(hc i hi).1, InR.of_row (hc i hi).2⟩⟩
theorem GridIn.grid (g : GridIn w lo hi s zss) : Grid w s zss := by
  obtain ⟨a, cap, rfl, hz⟩ := g
  refine ⟨a, cap, rfl, ?_⟩
  rcases hz with hz | ⟨b, off, T, rfl, hb, hc⟩
  · exact .inl hz
  · exact .inr ⟨b, off, T, rfl, by omega, fun i hi => ⟨(hc i hi).1, InR.rowI (hc i hi).2⟩⟩
theorem GridIn.chg (g : GridIn w lo hi s zss) (c : Chg l h w w') (d : h ≤ lo ∨ hi ≤ l) : GridIn w' lo hi s zss := by
  obtain ⟨a, cap, rfl, hz⟩ := g
  refine ⟨a, cap, rfl, ?_⟩
  rcases hz with hz | ⟨b, off, T, rfl, hb, hc⟩
  · exact .inl hz
  · exact .inr ⟨b, off, T, rfl, ⟨hb.1, hb.2.1, Nat.le_trans hb.2.2 c.size⟩, fun i hi => ⟨(c.cell (p := ⟨b, off + i, none⟩) (by simp only; omega) (by simp only; omega)).trans (hc i hi).1, (hc i hi).2.chg c d⟩⟩
theorem GridIn.keep (g : GridIn w lo hi s zss) (b : Below w.heap.size w w') : GridIn w' lo hi s zss := g.chg (l := 0) (h := 0) (Chg.of_below b) (by omega)
end
theorem tl_lt (z : List (List Int)) : tl z = 0 ∨ 1 ≤ z.length := by
  rcases z with _ | ⟨a, z⟩
  · exact .inl rfl
  · exact .inr (by simp)
/-- A small grid. -/
def Sm (z : List (List Int)) : Prop := z.length ≤ 12 ∧ ∀ i, i < z.length → (z.getD i []).length ≤ 12
theorem Sm.tl {z : List (List Int)} (h : Sm z) : tl z ≤ 144 := by
  have := flat_bound z 12 h.2
  have h1 := h.1
  unfold Go.Proofs.Ytjpikbbpmbeckaa.tl
  omega
theorem Sm.rows {z : List (List Int)} (h : Sm z) : ∀ i, i < z.length → (z.getD i []).length ≤ 4194304 := fun i hi => by have := h.2 i hi; omega
theorem Sq.sm {m : Int} {N : Nat} {z : List (List Int)} (h : Sq m N z) (hN : N ≤ 12) : Sm z := ⟨by rw [h.1]; exact hN, fun i hi => by rw [(h.2 i (by rw [← h.1]; exact hi)).1]; exact hN⟩
theorem rL_sm {B : Bool} {L : List (List Int)} (h : B = true → Sm L) : Sm (rL B L) := by
  cases B
  · exact ⟨by show ([] : List (List Int)).length ≤ 12; decide, fun i hi => absurd hi (Nat.not_lt_zero _)⟩
  · exact h rfl
theorem mVal_n {m : Int} {z : List (List Int)} (h : mVal m z = true) : 1 ≤ z.length ∧ z.length ≤ 12 := ⟨(mSq_parts (mVal_parts h).1).1, (mSq_parts (mVal_parts h).1).2.1⟩
theorem tmL_sm {m m2 : Int} {z z2 : List (List Int)} (h : tOk m z m2 z2 = true) : Sm (tmL m z z2 z.length) := by
  unfold tOk at h
  rw [Bool.and_eq_true] at h
  have hn := mVal_n h.1
  exact ⟨by rw [tmL_len]; exact hn.2, fun i hi => by rw [tmL_len] at hi; rw [tmL_at _ _ _ _ hi, tmRow_len]; exact hn.2⟩
theorem clOut_sm {m : Int} {z : List (List Int)} (h : mVal m z = true) : Sm (clOut m z z.length) := (clOut_sq (mVal_parts h).2.1 (sq_of_val h) _ (Nat.le_refl _)).sm (mVal_n h).2

/-- A matrix in a variable that is new since w: its box at p, its grid between lo and hi. -/
def BoxInM (w wx : World) (M : Int) (ls : List (List Int)) (p : Value) : Prop :=
  ∃ (g : Nat) (va : Option Addr) (vc lo hi : Nat), p = .pointer (some ⟨g, 0, none⟩) ∧ (wx.cell? ⟨g, 0, none⟩ = some (.int .i64 M) ∧ wx.cell? ⟨g, 1, none⟩ = some (.slice va ls.length vc)) ∧
    OwnG wx lo hi (.slice va ls.length vc) ls ∧ (w.heap.size ≤ g ∧ g < wx.heap.size) ∧ (w.heap.size ≤ lo ∧ hi ≤ wx.heap.size) ∧ (g < lo ∨ hi ≤ g) ∧ Below w.heap.size w wx
theorem box_endM {w wB wC : World} {T : TypeId} {M : Int} {ls : List (List Int)} {v : Value} (hb : Below w.heap.size w wB) (hc : Below wB.heap.size wB wC) (ho : OwnG wC wB.heap.size wC.heap.size v ls) :
    BoxInM w (wC.alloc (.cells #[.int .i64 M, v] T)) M ls (.pointer (some ⟨wC.heap.size, 0, none⟩)) := by
  obtain ⟨a, c, rfl⟩ := ho.slice
  have hB := Box.new wC T #[.int .i64 M, .slice a ls.length c]
  have h1 := hb.size
  have h2 := hc.size
  exact ⟨_, a, c, wB.heap.size, wC.heap.size, rfl, ⟨by simpa using hB.cell 0, by simpa using hB.cell 1⟩, ho.keep ((Below.refl _ _).alloc (Nat.le_refl _) _), ⟨by omega, by simp⟩, ⟨h1, by simp⟩, .inr (Nat.le_refl _), b_alloc (bel_trans hb hc) _⟩
theorem box_midM {w x wB wC : World} {T : TypeId} {M M0 : Int} {ls : List (List Int)} {v v0 : Value} (hx : Below w.heap.size w x) (hb : Below (x.alloc (.cells #[.int .i64 M0, v0] T)).heap.size (x.alloc (.cells #[.int .i64 M0, v0] T)) wB)
    (hc : Below wB.heap.size wB wC) (ho : OwnG wC wB.heap.size wC.heap.size v ls) :
    BoxInM w ((wC.setCell ⟨x.heap.size, 0, none⟩ (.int .i64 M)).setCell ⟨x.heap.size, 1, none⟩ v) M ls (.pointer (some ⟨x.heap.size, 0, none⟩)) := by
  obtain ⟨a, c, rfl⟩ := ho.slice
  have hB := ((((Box.new x T #[.int .i64 M0, v0]).keep hb).keep hc).set 0 (.int .i64 M)).set 1 (.slice a ls.length c)
  have h0 := hx.size
  have h1 := hb.size
  have h2 := hc.size
  have h3 : x.heap.size + 1 ≤ wB.heap.size := by simpa using h1
  have hk : Chg x.heap.size (x.heap.size + 1) wC ((wC.setCell ⟨x.heap.size, 0, none⟩ (.int .i64 M)).setCell ⟨x.heap.size, 1, none⟩ (.slice a ls.length c)) := ((Chg.refl _ _ _).setCell (by simp) (by simp) _).setCell (by simp) (by simp) _
  exact ⟨_, a, c, wB.heap.size, wC.heap.size, rfl, ⟨by simpa using hB.cell 0, by simpa using hB.cell 1⟩, ho.chg hk (.inl h3), ⟨h0, hB.lt⟩, ⟨by omega, hk.size⟩, .inl (by omega), bel_chg (bel_trans (bel_trans hx ((Below.refl _ _).alloc (Nat.le_refl _) _)) (bel_trans hb hc)) hk h0⟩
end Go.Proofs.Ytjpikbbpmbeckaa
