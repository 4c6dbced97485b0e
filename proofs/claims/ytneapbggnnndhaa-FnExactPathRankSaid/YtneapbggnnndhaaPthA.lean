/- Slices of paths: read, compared, marked and held by the laws. -/
import Derived.Test.YtneapbggnnndhaaPathF
import Derived.Test.YtneapbggnnndhaaChaT
import Derived.Test.YtneapbggnnndhaaWlkA
namespace Go.Proofs.Ytneapbggnnndhaa
open Go.RowKit Go.BigFrame Go.Deep Go.ChangeShapes Go.WideShapes Go.Joins
set_option linter.unusedVariables false
set_option linter.unusedSimpArgs false

theorem Chg.wideP {lo hi l h : Nat} {w w' : World} (c : Chg l h w w') (h1 : lo ≤ l) (h2 : h ≤ hi) : Chg lo hi w w' := ⟨c.os, c.tape, c.output, c.size, fun k hk hd => c.block k hk (by omega)⟩
/-- A slice of paths reads as a list. -/
def PRd (w : World) (s : Value) (ps : List Pt) : Prop :=
  ∃ a cap, s = .slice a ps.length cap ∧ (ps = [] ∨ ∃ (b off : Nat) (T : Nat → Value), a = some ⟨b, off, none⟩ ∧ b < w.heap.size ∧ ∀ i, i < ps.length → w.cell? ⟨b, off + i * 2, none⟩ = some (T i) ∧ w.cell? ⟨b, off + i * 2 + 1, none⟩ = some (.int .i64 (ps.getD i ([], 0)).2) ∧ Row w (T i) (ps.getD i ([], 0)).1)
theorem PRd.keep {w w' : World} {s : Value} {ps : List Pt} (h : PRd w s ps) (hb : Below w.heap.size w w') : PRd w' s ps := by
  obtain ⟨a, cap, rfl, h⟩ := h
  refine ⟨a, cap, rfl, ?_⟩
  rcases h with h | ⟨b, off, T, rfl, hlt, hc⟩
  · exact .inl h
  · exact .inr ⟨b, off, T, rfl, Nat.lt_of_lt_of_le hlt hb.size, fun i hi => ⟨by rw [hb.cell (p := ⟨b, off + i * 2, none⟩) hlt]; exact (hc i hi).1, by rw [hb.cell (p := ⟨b, off + i * 2 + 1, none⟩) hlt]; exact (hc i hi).2.1, (hc i hi).2.2.keep hb⟩⟩
theorem PRd.nil (w : World) (a : Option Addr) (c : Nat) : PRd w (.slice a 0 c) [] := ⟨a, c, rfl, .inl rfl⟩

/-- Paths, each with its row in a block of its own, all between two numbers, all to be written: L lengths, C nodes, X values. -/
structure PAt (w : World) (lo hi g : Nat) (T : Nat → Value) (B : Nat → Nat) (N : Nat) (L : Nat → Nat) (C : Nat → Nat → Value) (X : Nat → Int) : Prop where
  place : lo ≤ g ∧ g < hi ∧ hi ≤ w.heap.size
  cell : ∀ i, i < N → w.cell? ⟨g, i * 2, none⟩ = some (T i) ∧ w.cell? ⟨g, i * 2 + 1, none⟩ = some (.int .i64 (X i)) ∧ w.frozen? ⟨g, i * 2 + 1, none⟩ = false
  row : ∀ i, i < N → InR true w (B i) (B i + 1) (T i) (L i) 1 (C i)
  blk : ∀ i, i < N → lo ≤ B i ∧ B i < hi ∧ B i ≠ g
  dis : ∀ i j, i < N → j < N → i ≠ j → B i ≠ B j
/-- A slice of paths between two numbers. -/
def OwnPF (w : World) (lo hi : Nat) (s : Value) (N : Nat) (L : Nat → Nat) (C : Nat → Nat → Value) (X : Nat → Int) : Prop :=
  (N = 0 ∧ ∃ a c, s = .slice a 0 c) ∨ ∃ (g cap : Nat) (T : Nat → Value) (B : Nat → Nat), s = .slice (some ⟨g, 0, none⟩) N cap ∧ PAt w lo hi g T B N L C X
section
variable {w w' : World} {lo hi l h g N : Nat} {T : Nat → Value} {B : Nat → Nat} {s : Value} {L : Nat → Nat} {C : Nat → Nat → Value} {X : Nat → Int}
theorem PAt.chg (r : PAt w lo hi g T B N L C X) (c : Chg l h w w') (d : h ≤ lo ∨ hi ≤ l) : PAt w' lo hi g T B N L C X := by
  have hp := r.place
  refine ⟨⟨hp.1, hp.2.1, Nat.le_trans hp.2.2 c.size⟩, fun i hi => ?_, fun i hi => (r.row i hi).chg c ?_, r.blk, r.dis⟩
  · rw [c.cell (p := ⟨g, i * 2, none⟩) (by simp only; omega) (by simp only; omega), c.cell (p := ⟨g, i * 2 + 1, none⟩) (by simp only; omega) (by simp only; omega), c.frozen (p := ⟨g, i * 2 + 1, none⟩) (by simp only; omega) (by simp only; omega)]
    exact r.cell i hi
  · have := r.blk i hi
    omega
theorem PAt.keep (r : PAt w lo hi g T B N L C X) (b : Below w.heap.size w w') : PAt w' lo hi g T B N L C X := r.chg (l := 0) (h := 0) (Chg.of_below b) (by omega)
theorem OwnPF.chg (r : OwnPF w lo hi s N L C X) (c : Chg l h w w') (d : h ≤ lo ∨ hi ≤ l) : OwnPF w' lo hi s N L C X := by
  rcases r with r | ⟨g, cap, T, B, e, r⟩
  · exact .inl r
  · exact .inr ⟨g, cap, T, B, e, r.chg c d⟩
theorem OwnPF.keep (r : OwnPF w lo hi s N L C X) (b : Below w.heap.size w w') : OwnPF w' lo hi s N L C X := r.chg (l := 0) (h := 0) (Chg.of_below b) (by omega)
theorem OwnPF.wider (r : OwnPF w lo hi s N L C X) (h1 : l ≤ lo) (h2 : hi ≤ h) (h3 : h ≤ w.heap.size) : OwnPF w l h s N L C X := by
  rcases r with r | ⟨g, cap, T, B, e, r⟩
  · exact .inl r
  · have hp := r.place
    exact .inr ⟨g, cap, T, B, e, ⟨⟨by omega, by omega, h3⟩, r.cell, r.row, fun i hi => by have := r.blk i hi; omega, r.dis⟩⟩
theorem OwnPF.slice (r : OwnPF w lo hi s N L C X) : ∃ a c, s = .slice a N c := by
  rcases r with ⟨rfl, a, c, rfl⟩ | ⟨g, cap, T, B, rfl, _⟩
  · exact ⟨_, _, rfl⟩
  · exact ⟨_, _, rfl⟩
/-- One path is written over. -/
theorem PAt.setOne {L' : Nat → Nat} {C' : Nat → Nat → Value} {X' : Nat → Int} (r : PAt w lo hi g T B N L C X) {k : Nat} (hk : k < N) (c : Chg (B k) (B k + 1) w w') (x : Int)
    (hk2 : InR true w' (B k) (B k + 1) (T k) (L' k) 1 (C' k)) (hx : X' k = x) (ho : ∀ i, i < N → i ≠ k → L' i = L i ∧ C' i = C i ∧ X' i = X i) : PAt (w'.setCell ⟨g, k * 2 + 1, none⟩ (.int .i64 x)) lo hi g T B N L' C' X' := by
  have hp := r.place
  have hkb := r.blk k hk
  have hs := c.size
  have cc : ∀ i, i < N → w'.cell? ⟨g, i * 2, none⟩ = some (T i) ∧ w'.cell? ⟨g, i * 2 + 1, none⟩ = some (.int .i64 (X i)) ∧ w'.frozen? ⟨g, i * 2 + 1, none⟩ = false := fun i hi => by
    rw [c.cell (p := ⟨g, i * 2, none⟩) (by simp only; omega) (by simp only; omega), c.cell (p := ⟨g, i * 2 + 1, none⟩) (by simp only; omega) (by simp only; omega), c.frozen (p := ⟨g, i * 2 + 1, none⟩) (by simp only; omega) (by simp only; omega)]
    exact r.cell i hi
  have hset : Chg g (g + 1) w' (w'.setCell ⟨g, k * 2 + 1, none⟩ (.int .i64 x)) := Chg.setCell (p := ⟨g, k * 2 + 1, none⟩) (Chg.refl g (g + 1) w') (Nat.le_refl g) (Nat.lt_succ_self g) _
  refine ⟨⟨hp.1, hp.2.1, Nat.le_trans hp.2.2 (Nat.le_trans hs hset.size)⟩, fun i hi => ?_, fun i hi => ?_, r.blk, r.dis⟩
  · obtain ⟨c1, c2, c3⟩ := cc i hi
    refine ⟨?_, ?_, by rw [World.frozen?_setCell]; exact c3⟩
    · rw [World.cell?_setCell_other _ _ _ _ (by intro e; injection e with _ e _; omega)]
      exact c1
    · by_cases e : i = k
      · subst e
        rw [World.cell?_setCell_same _ _ _ c2, hx]
      · rw [World.cell?_setCell_other _ _ _ _ (by intro e; injection e with _ e _; omega), (ho i hi e).2.2]
        exact c2
  · have hib := r.blk i hi
    refine InR.chg ?_ hset (by omega)
    by_cases e : i = k
    · subst e; exact hk2
    · obtain ⟨e1, e2, -⟩ := ho i hi e
      rw [e1, e2]
      refine (r.row i hi).chg c ?_
      have := r.dis i k hi hk e
      omega
end
/-- Paths as a list. -/
def OwnPs (w : World) (lo hi : Nat) (s : Value) (ps : List Pt) : Prop := OwnPF w lo hi s ps.length (fun i => (ps.getD i ([], 0)).1.length) (fun i => cellI (ps.getD i ([], 0)).1) (fun i => (ps.getD i ([], 0)).2)
theorem OwnPs.read {w : World} {lo hi : Nat} {s : Value} {ps : List Pt} (h : OwnPs w lo hi s ps) : PRd w s ps := by
  rcases h with ⟨h0, a, c, rfl⟩ | ⟨g, cap, T, B, rfl, r⟩
  · exact ⟨a, c, by rw [h0], .inl (List.length_eq_zero_iff.1 h0)⟩
  · have hp := r.place
    refine ⟨_, cap, rfl, .inr ⟨g, 0, T, rfl, by omega, fun i hi => ?_⟩⟩
    obtain ⟨c1, c2, -⟩ := r.cell i hi
    exact ⟨by rw [Nat.zero_add]; exact c1, by rw [Nat.zero_add]; exact c2, (r.row i hi).ints⟩

/-- How many numbers the first i paths have. -/
def pt (L : Nat → Nat) : Nat → Nat
  | 0 => 0
  | i + 1 => pt L i + L i + 1
theorem pt_mono (L : Nat → Nat) (i : Nat) : ∀ j, pt L i ≤ pt L (i + j)
  | 0 => Nat.le_refl _
  | j + 1 => by
    have := pt_mono L i j
    rw [Nat.add_succ]
    simp only [pt]
    omega
theorem pt_le (L : Nat → Nat) {i N : Nat} (h : i ≤ N) : pt L i ≤ pt L N := by
  have := pt_mono L i (N - i)
  rwa [Nat.add_sub_cancel' h] at this
theorem pt_bound {L : Nat → Nat} {M : Nat} : ∀ {N : Nat}, (∀ i, i < N → L i ≤ M) → pt L N ≤ N * (M + 1)
  | 0, _ => by simp [pt]
  | N + 1, h => by
    have := pt_bound (L := L) (M := M) (N := N) (fun i hi => h i (by omega))
    have := h N (by omega)
    rw [Nat.succ_mul]
    simp only [pt]
    omega
def pkC (k : Nat) (L : Nat → Nat) (C : Nat → Nat → Value) (i : Nat) (j : Nat) : Nat → Value := if j < i then marked ((k + pt L j : Nat) : Int) else C j
def pkX (k : Nat) (L : Nat → Nat) (X : Nat → Int) (i : Nat) (j : Nat) : Int := if j < i then ((k + pt L j + L j : Nat) : Int) else X j

set_option maxHeartbeats 2000000 in
theorem markPathS (k : Nat) (w : World) (lo hi : Nat) (s : Value) (N : Nat) (L : Nat → Nat) (C : Nat → Nat → Value) (X : Nat → Int) (h : OwnPF w lo hi s N L C X) (hn : N ≤ 4194304) (hn2 : pt L N ≤ 4194304) (hk : k ≤ 1048576) :
    Calls Try.prog 32 #[s, .int .i64 (k : Int)] w fun e w' => e = .returned (.int .i64 ((k + pt L N : Nat) : Int)) ∧ OwnPF w' lo hi s N L (pkC k L C N) (pkX k L X N) ∧ Chg lo hi w w' := by
  rcases h with ⟨rfl, a, c, rfl⟩ | ⟨g, cap, T, B, rfl, hat⟩
  · go_enter Try.func32, Try.ntmps32
    go_wp2
    go_loopw [5, 1] (fun c d wr => c = .int .i64 0 ∧ d = .int .i64 (k : Int) ∧ wr = w) (fun c _ _ => 0)
    case atStart => exact ⟨rfl, rfl, rfl⟩
    case round =>
      obtain ⟨rfl, rfl, rfl⟩ := hrel
      go_wp2
      go_ret
      exact ⟨by simp [pt], .inl ⟨rfl, a, c, rfl⟩, Chg.refl _ _ _⟩
  have HA := Lib.hid hat
  have hplace := hat.place
  clear hat
  go_enter Try.func32, Try.ntmps32
  go_wp2
  go_loopw [5, 1] (fun c d wr => ∃ i : Nat, i ≤ N ∧ c = .int .i64 i ∧ d = .int .i64 ((k + pt L i : Nat) : Int) ∧ PAt wr lo hi g T B N L (pkC k L C i) (pkX k L X i) ∧ Chg lo hi w wr) (fun c _ _ => N - (intOf c).toNat)
  case atStart => exact ⟨0, Nat.zero_le _, rfl, rfl, by have := HA.out; unfold pkC pkX; simpa using this, Chg.refl _ _ _⟩
  case round =>
    obtain ⟨i, hile, rfl, rfl, hgr, hchg⟩ := hrel
    have hws := hchg.size
    have HG := Lib.hid hgr
    clear hgr
    by_cases hlt : i < N
    · have hlt' : (i : Int) < N := by omega
      have c0 := (HG.out.cell i hlt).1
      have r0 := HG.out.row i hlt
      have hle := pt_le L (show i + 1 ≤ N by omega)
      simp only [pt] at hle
      have hbl := HG.out.blk i hlt
      obtain ⟨n, hne⟩ : ∃ n, n = L i := ⟨_, rfl⟩
      rw [← hne] at hle r0
      have hcall := markIntS (k + pt L i) wr (B i) (B i + 1) n (T i) _ r0 (by omega) (by omega)
      have HC := Lib.hid hcall
      have HNE := Lib.hid hne
      obtain ⟨u, hu⟩ : ∃ u, u = T i := ⟨_, rfl⟩
      rw [← hu] at c0
      have HC2 : Hid (Calls Try.prog 20 #[u, .int .i64 ((k + pt L i : Nat) : Int)] wr fun e w' => e = .returned (.int .i64 ((k + pt L i + n : Nat) : Int)) ∧ InR true w' (B i) (B i + 1) (T i) n 1 (marked (k + pt L i : Nat)) ∧ Chg (B i) (B i + 1) wr w') := Lib.hid (by rw [hu]; exact HC.out)
      obtain ⟨q, hq⟩ : ∃ q, q = k + pt L i := ⟨_, rfl⟩
      have hqn : q + n ≤ 5242880 := by omega
      rw [← hq] at HC2 ⊢
      have HQ := Lib.hid hq
      clear HC hcall hle r0 hne hu hq
      go_wp2_with (go_at_call 20; refine HC2.out.mono ?_; rintro e w2 ⟨rfl, hin, hch⟩; have HIN := Lib.hid hin; have HCH := Lib.hid hch; clear hin hch; have d0 := (HCH.out.cell (p := ⟨g, i * 2 + 1, none⟩) (by simp only; omega) (by simp only; omega)).trans (HG.out.cell i hlt).2.1; have d1 := (HCH.out.frozen (p := ⟨g, i * 2 + 1, none⟩) (by simp only; omega) (by simp only; omega)).trans (HG.out.cell i hlt).2.2)
      have hnew : PAt (w2.setCell ⟨g, i * 2 + 1, none⟩ (.int .i64 ((q + n : Nat) : Int))) lo hi g T B N L (pkC k L C (i + 1)) (pkX k L X (i + 1)) := by
        refine HG.out.setOne hlt HCH.out _ ?_ ?_ ?_
        · unfold pkC
          rw [if_pos (Nat.lt_succ_self _), ← HNE.out, ← HQ.out]
          exact HIN.out
        · unfold pkX
          rw [if_pos (Nat.lt_succ_self _), ← HNE.out, ← HQ.out]
        · intro j hj hne
          refine ⟨rfl, ?_, ?_⟩
          · unfold pkC
            by_cases h1 : j < i
            · rw [if_pos h1, if_pos (by omega)]
            · rw [if_neg h1, if_neg (by omega)]
          · unfold pkX
            by_cases h1 : j < i
            · rw [if_pos h1, if_pos (by omega)]
            · rw [if_neg h1, if_neg (by omega)]
      have HNW := Lib.hid hnew
      clear hnew d0 d1
      go_roundw
      case rel => exact ⟨i + 1, by omega, by go_num, by have h1 := HNE.out; have h2 := HQ.out; simp only [pt]; go_num, HNW.out, (hchg.trans (HCH.out.wideP hbl.1 (by omega))).setCell (by simp only; omega) (by simp only; omega) _⟩
      case measure => simp [intOf]; omega
    · have hke : i = N := by omega
      have hkk : ¬ ((i : Int) < N) := by omega
      have HK := Lib.hid hke
      clear hke
      go_wp2
      go_ret
      have hf := HG.out
      rw [HK.out] at hf
      exact ⟨by first | rfl | (rw [HK.out]; rfl), .inr ⟨g, cap, T, B, rfl, hf⟩, hchg⟩

set_option maxHeartbeats 2000000 in
theorem heldPathS (k : Nat) (w : World) (lo hi : Nat) (s : Value) (N : Nat) (L : Nat → Nat) (C : Nat → Nat → Value) (X : Nat → Int) (h : OwnPF w lo hi s N L (pkC k L C N) (pkX k L X N)) (hn : N ≤ 4194304) (hn2 : pt L N ≤ 4194304) (hk : k ≤ 1048576) :
    Calls Try.prog 33 #[s, .int .i64 (k : Int)] w fun e w' => e = .returned (.int .i64 ((k + pt L N : Nat) : Int)) ∧ Below w.heap.size w w' := by
  rcases h with ⟨rfl, a, c, rfl⟩ | ⟨g, cap, T, B, rfl, hat⟩
  · go_enter Try.func33, Try.ntmps33
    go_wp2
    go_loopw [5, 1] (fun c d wr => c = .int .i64 0 ∧ d = .int .i64 (k : Int) ∧ wr = w) (fun c _ _ => 0)
    case atStart => exact ⟨rfl, rfl, rfl⟩
    case round =>
      obtain ⟨rfl, rfl, rfl⟩ := hrel
      go_wp2
      go_ret
      exact ⟨by simp [pt], Below.refl _ _⟩
  have HA := Lib.hid hat
  have hplace := hat.place
  clear hat
  go_enter Try.func33, Try.ntmps33
  go_wp2
  go_loopw [5, 1] (fun c d wr => ∃ i : Nat, i ≤ N ∧ c = .int .i64 i ∧ d = .int .i64 ((k + pt L i : Nat) : Int) ∧ Below w.heap.size w wr) (fun c _ _ => N - (intOf c).toNat)
  case atStart => exact ⟨0, Nat.zero_le _, rfl, rfl, Below.refl _ _⟩
  case round =>
    obtain ⟨i, hile, rfl, rfl, hbel⟩ := hrel
    by_cases hlt : i < N
    · have hlt' : (i : Int) < N := by omega
      have hG := HA.out.keep hbel
      have c0 := (hG.cell i hlt).1
      have c1 := (hG.cell i hlt).2.1
      have r0 := hG.row i hlt
      have hgl : g < wr.heap.size := by have := hG.place; omega
      have hle := pt_le L (show i + 1 ≤ N by omega)
      simp only [pt] at hle
      unfold pkC at r0
      unfold pkX at c1
      rw [if_pos hlt] at r0 c1
      obtain ⟨n, hne⟩ : ∃ n, n = L i := ⟨_, rfl⟩
      rw [← hne] at hle r0 c1
      have hcall := heldIntS (k + pt L i) true wr (B i) (B i + 1) n (T i) r0 (by omega) (by omega)
      have hneg : decide (((k + pt L i + n : Nat) : Int) < 0) = false := decide_eq_false (by omega)
      obtain ⟨u, hu⟩ : ∃ u, u = T i := ⟨_, rfl⟩
      rw [← hu] at c0 hcall
      obtain ⟨q, hq⟩ : ∃ q, q = k + pt L i := ⟨_, rfl⟩
      have hqn : q + n ≤ 5242880 := by omega
      rw [← hq] at hcall hneg c1 ⊢
      have HC := Lib.hid hcall
      have HQ := Lib.hid hq
      have HNE := Lib.hid hne
      have C1 := Lib.hid c1
      clear hcall hle r0 hne hu hq hG c1
      go_wp2_with (go_at_call 21; refine HC.out.mono ?_; rintro e w2 ⟨rfl, hb2⟩; have d1 := (hb2.cell (p := ⟨g, i * 2 + 1, none⟩) hgl).trans C1.out)
      go_roundw
      case rel => exact ⟨i + 1, by omega, by go_num, by have h1 := HNE.out; have h2 := HQ.out; simp only [pt]; go_num, bel_trans hbel hb2⟩
      case measure => simp [intOf]; omega
    · have hke : i = N := by omega
      have hkk : ¬ ((i : Int) < N) := by omega
      have HK := Lib.hid hke
      clear hke
      go_wp2
      go_ret
      exact ⟨by first | rfl | (rw [HK.out]; rfl), hbel⟩

set_option maxHeartbeats 2000000 in
theorem eqPathS (ps : List Pt) (s t : Value) (w : World) (hs : PRd w s ps) (ht : PRd w t ps) (hl : ps.length ≤ 4194304) (hl2 : ∀ i, i < ps.length → (ps.getD i ([], 0)).1.length ≤ 1048576) :
    Calls Try.prog 31 #[s, t] w fun e w' => e = .returned (.bool true) ∧ Below w.heap.size w w' := by
  obtain ⟨a, cap, rfl, hz0⟩ := hs
  have hz := Lib.hid hz0
  obtain ⟨a2, cap2, rfl, hy0⟩ := ht
  have hy := Lib.hid hy0
  have HL2 := Lib.hid hl2
  clear hz0 hy0 hl2
  go_enter Try.func31, Try.ntmps31
  go_wp2
  go_loopw [5] (fun c wr => ∃ k : Nat, k ≤ ps.length ∧ c = .int .i64 k ∧ Below w.heap.size w wr) (fun c _ => ps.length - (intOf c).toNat)
  case atStart => exact ⟨0, Nat.zero_le _, rfl, Below.refl _ _⟩
  case round =>
    obtain ⟨k, hk, rfl, hbel⟩ := hrel
    by_cases hlt : k < ps.length
    · have hlt' : (k : Int) < ps.length := by omega
      rcases hz.out with h0 | ⟨b, off, T, rfl, hb, hc⟩
      · rw [h0] at hlt; simp at hlt
      rcases hy.out with h0 | ⟨b2, off2, T2, rfl, hb2, hc2⟩
      · rw [h0] at hlt; simp at hlt
      obtain ⟨h1, h3, r1⟩ := hc k hlt
      obtain ⟨h2, h4, r2⟩ := hc2 k hlt
      have hl3 := HL2.out k hlt
      obtain ⟨zs, hzs⟩ : ∃ zs, zs = (ps.getD k ([], 0)).1 := ⟨_, rfl⟩
      obtain ⟨x, hx⟩ : ∃ x, x = (ps.getD k ([], 0)).2 := ⟨_, rfl⟩
      rw [← hzs] at r1 r2 hl3
      rw [← hx] at h3 h4
      have hcall : ∀ w', Below wr.heap.size wr w' → Calls Try.prog 26 #[.agg #[T k, .int .i64 x], .agg #[T2 k, .int .i64 x]] w' fun e w'' => e = .returned (.bool true) ∧ Below w'.heap.size w' w'' := fun w' h => eqPath x zs _ _ w' (r1.keep (bel_trans hbel h)) (r2.keep (bel_trans hbel h)) hl3
      obtain ⟨u1, hu1⟩ : ∃ u, u = T k := ⟨_, rfl⟩
      obtain ⟨u2, hu2⟩ : ∃ u, u = T2 k := ⟨_, rfl⟩
      rw [← hu1, ← hu2] at hcall
      rw [← hu1] at h1
      rw [← hu2] at h2
      have ff : ∀ w', Below wr.heap.size wr w' → w'.cell? ⟨b, off + k * 2, none⟩ = some u1 ∧ w'.cell? ⟨b, off + k * 2 + 1, none⟩ = some (.int .i64 x) ∧ w'.cell? ⟨b2, off2 + k * 2, none⟩ = some u2 ∧ w'.cell? ⟨b2, off2 + k * 2 + 1, none⟩ = some (.int .i64 x) := by
        intro w' h
        have hB := bel_trans hbel h
        exact ⟨(hB.cell (p := ⟨b, _, none⟩) hb).trans h1, (hB.cell (p := ⟨b, _, none⟩) hb).trans h3, (hB.cell (p := ⟨b2, _, none⟩) hb2).trans h2, (hB.cell (p := ⟨b2, _, none⟩) hb2).trans h4⟩
      have FF := Lib.hid ff
      have HC := Lib.hid hcall
      clear hc hc2 h1 h2 h3 h4 ff hcall r1 r2 hzs hu1 hu2 hl3 hx
      go_wp2
      refine wp_region_below (by kernel_rfl) (by kernel_rfl) ?_
      repeat (go_big_quiet_step ((intro hw; first | with_reducible rfl | (obtain ⟨f0, f1, g0, g1⟩ := FF.out _ hw; simp only [f0, f1, g0, g1, Result.andThen]; first | exact ⟨trivial, rfl⟩ | exact ⟨rfl, rfl⟩) | (go_at_call 26; exact quietB (HC.out _ hw) hw))))
      refine wpQuiet_nil ?_
      intro w1 hw1
      go_wp2
      go_roundw
      case rel => first | exact ⟨k + 1, by omega, by go_num, bel_trans hbel hw1⟩ | ((repeat apply Exists.intro); exact ⟨⟨k + 1, by omega, by go_num, bel_trans hbel hw1⟩, rfl⟩)
      case measure => simp [intOf]; omega
    · have hke : k = ps.length := by omega
      have hkk : ¬ ((k : Int) < ps.length) := by omega
      have HK := Lib.hid hke
      clear hke
      go_wp2
      go_ret
      exact ⟨rfl, hbel⟩
end Go.Proofs.Ytneapbggnnndhaa
