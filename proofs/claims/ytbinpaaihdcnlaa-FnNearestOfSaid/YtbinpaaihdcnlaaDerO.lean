/- The nearest sources: mathematics; nearest of the program. -/
import Derived.Test.YtbinpaaihdcnlaaDerF
import Derived.Deep.RegionHeld3
namespace Go.Proofs.Ytbinpaaihdcnlaa
open Go.RowKit Go.BigFrame Go.Deep
set_option linter.unusedVariables false
set_option linter.unusedSimpArgs false
set_option linter.unnecessarySimpa false

/-- The values from a source. -/
def vwS (m : Int) (es : List Ed) (N : Nat) (x : Int) : List Int := vIter m es N (vStart m N x)
/-- The best value at a node from several sources, and the first source that gives it. -/
def nrS (m : Int) (es : List Ed) (N i : Nat) (p : Int × Int) (x : Int) : Int × Int := if mBet m ((vwS m es N x).getD i 0) p.1 = true then ((vwS m es N x).getD i 0, x) else p
def nrAt (m : Int) (es : List Ed) (N i : Nat) (ss : List Int) : Int × Int := ss.foldl (nrS m es N i) (mNone m, -1)
theorem nrAt_snoc (m : Int) (es : List Ed) (N i : Nat) (ss : List Int) {k : Nat} (h : k < ss.length) : nrAt m es N i (ss.take (k + 1)) = nrS m es N i (nrAt m es N i (ss.take k)) (ss.getD k 0) := by
  rw [take_snoc ss 0 h]
  unfold nrAt
  rw [List.foldl_append]
  rfl
/-- What lies at a node while the source k is looked at, up to the node j. -/
def nrM (m : Int) (es : List Ed) (N : Nat) (ss : List Int) (k j i : Nat) : Int × Int := nrAt m es N i (ss.take (if i < j then k + 1 else k))
theorem nrM_zero (m : Int) (es : List Ed) (N : Nat) (ss : List Int) (k i : Nat) : nrM m es N ss k 0 i = nrAt m es N i (ss.take k) := by simp [nrM]
theorem nrM_done (m : Int) (es : List Ed) (N : Nat) (ss : List Int) (k : Nat) {i : Nat} (h : i < N) : nrM m es N ss k N i = nrAt m es N i (ss.take (k + 1)) := by simp [nrM, h]
theorem nrM_at (m : Int) (es : List Ed) (N : Nat) (ss : List Int) (k j : Nat) : nrM m es N ss k j j = nrAt m es N j (ss.take k) := by simp [nrM]
theorem nrM_succ (m : Int) (es : List Ed) (N : Nat) (ss : List Int) (k j i : Nat) : nrM m es N ss k (j + 1) i = if i = j then nrAt m es N j (ss.take (k + 1)) else nrM m es N ss k j i := by
  unfold nrM
  by_cases h : i = j
  · subst h; rw [if_pos (by omega), if_pos rfl]
  · rw [if_neg h]
    by_cases h2 : i < j
    · rw [if_pos (by omega), if_pos h2]
    · rw [if_neg (by omega), if_neg h2]
def nrV (m : Int) (es : List Ed) (N : Nat) (ss : List Int) : List Int := (List.range N).map (fun i => (nrAt m es N i ss).1)
def nrO (m : Int) (es : List Ed) (N : Nat) (ss : List Int) : List Int := (List.range N).map (fun i => (nrAt m es N i ss).2)
theorem nrV_len (m : Int) (es : List Ed) (N : Nat) (ss : List Int) : (nrV m es N ss).length = N := by simp [nrV]
theorem nrO_len (m : Int) (es : List Ed) (N : Nat) (ss : List Int) : (nrO m es N ss).length = N := by simp [nrO]

/-- A row of N cells from a block's beginning on, which can be written. -/
def RowF (w : World) (g N : Nat) (q : Nat → Int) : Prop := g < w.heap.size ∧ ∀ i, i < N → w.cell? ⟨g, i, none⟩ = some (.int .i64 (q i)) ∧ w.frozen? ⟨g, i, none⟩ = false
theorem RowF.keep {w w' : World} {g N : Nat} {q : Nat → Int} (h : RowF w g N q) (hb : Below w.heap.size w w') : RowF w' g N q :=
  ⟨Nat.lt_of_lt_of_le h.1 hb.size, fun i hi => ⟨(hb.cell (p := ⟨g, i, none⟩) h.1).trans (h.2 i hi).1, (hb.frozen (p := ⟨g, i, none⟩) h.1).trans (h.2 i hi).2⟩⟩
theorem RowF.congr {w : World} {g N : Nat} {q r : Nat → Int} (h : RowF w g N q) (e : ∀ i, i < N → q i = r i) : RowF w g N r := ⟨h.1, fun i hi => by rw [← e i hi]; exact h.2 i hi⟩
theorem RowF.set {w : World} {g N j : Nat} {q : Nat → Int} (h : RowF w g N q) (hj : j < N) (v : Int) : RowF (w.setCell ⟨g, j, none⟩ (.int .i64 v)) g N (fun i => if i = j then v else q i) := by
  refine ⟨by rw [World.size_setCell]; exact h.1, fun i hi => ?_⟩
  show (w.setCell ⟨g, j, none⟩ (.int .i64 v)).cell? ⟨g, i, none⟩ = some (.int .i64 (if i = j then v else q i)) ∧ _
  refine ⟨?_, by rw [World.frozen?_setCell]; exact (h.2 i hi).2⟩
  by_cases e : i = j
  · subst e
    rw [if_pos rfl]
    exact World.cell?_setCell_same _ _ _ (h.2 i hi).1
  · rw [if_neg e, World.cell?_setCell_other _ _ _ _ (by simpa using fun q => e q.symm)]
    exact (h.2 i hi).1
theorem RowF.setOther {w : World} {g g' N j : Nat} {q : Nat → Int} (h : RowF w g N q) (hne : g ≠ g') (v : Value) : RowF (w.setCell ⟨g', j, none⟩ v) g N q := by
  have hb : (w.setCell ⟨g', j, none⟩ v).heap[g]? = w.heap[g]? := Below.heap_setCell w ⟨g', j, none⟩ v g hne
  exact ⟨by rw [World.size_setCell]; exact h.1, fun i hi => ⟨(World.cell?_of_block (a := ⟨g, i, none⟩) hb).trans (h.2 i hi).1, (World.frozen?_of_block (a := ⟨g, i, none⟩) hb).trans (h.2 i hi).2⟩⟩
theorem rowIs_lt0 {w : World} {b : Nat} {t : TypeId} {n : Nat} {f : Nat → Value} (h : w.rowIs b t n f) : b < w.heap.size := h.lt
theorem RowF.of_rowIs {w : World} {g N : Nat} {zs : List Int} (h : w.rowIs g 3 N (cellI zs)) : RowF w g N (fun i => zs.getD i 0) := ⟨rowIs_lt0 h, fun i hi => ⟨h.cell hi, h.frozen i⟩⟩
theorem RowF.inR {w : World} {g N lo hi cap : Nat} {q : Nat → Int} {zs : List Int} (h : RowF w g N q) (hl : zs.length = N) (e : ∀ i, i < N → q i = zs.getD i 0) (h1 : lo ≤ g) (h2 : g < hi) (h3 : hi ≤ w.heap.size) : InR true w lo hi (.slice (some ⟨g, 0, none⟩) zs.length cap) zs.length 1 (cellI zs) := by
  refine ⟨some ⟨g, 0, none⟩, cap, rfl, .inr ⟨g, 0, rfl, h1, h2, h3, fun i hi => ?_⟩⟩
  have := h.2 i (by omega)
  rw [Nat.zero_add]
  refine ⟨?_, fun _ => this.2⟩
  unfold cellI
  rw [← e i (by omega)]
  exact this.1

def RowZ (w : World) (b off N : Nat) (Z : List Int) : Prop := b < w.heap.size ∧ ∀ i, i < N → w.cell? ⟨b, off + i, none⟩ = some (.int .i64 (Z.getD i 0))
theorem RowZ.keep {w w' : World} {b off N : Nat} {Z : List Int} (h : RowZ w b off N Z) (hb : Below w.heap.size w w') : RowZ w' b off N Z := ⟨Nat.lt_of_lt_of_le h.1 hb.size, fun i hi => (hb.cell (p := ⟨b, off + i, none⟩) h.1).trans (h.2 i hi)⟩
theorem RowZ.setOther {w : World} {b off N g j : Nat} {Z : List Int} (h : RowZ w b off N Z) (hne : b ≠ g) (v : Value) : RowZ (w.setCell ⟨g, j, none⟩ v) b off N Z := by
  have hb : (w.setCell ⟨g, j, none⟩ v).heap[b]? = w.heap[b]? := Below.heap_setCell w ⟨g, j, none⟩ v b hne
  exact ⟨by rw [World.size_setCell]; exact h.1, fun i hi => (World.cell?_of_block (a := ⟨b, off + i, none⟩) hb).trans (h.2 i hi)⟩

set_option maxRecDepth 20000 in
set_option maxHeartbeats 8000000 in
theorem nearest (m : Int) (es : List Ed) (N : Nat) (ss : List Int) (s t : Value) (w : World) (hm : mKind m = true) (hs : RowE w s es) (ht : Row w t ss) (hl : es.length ≤ 1048576) (h1 : 1 ≤ N) (h12 : N ≤ 12) (he : eAll N es) (hr : ∀ x ∈ ss, 0 ≤ x ∧ x < N) (hl2 : ss.length ≤ 281474976710656) :
    Calls Try.prog 64 #[opsV m, .agg #[.int .i64 N, s], t] w fun e w' => ∃ V P cv cp, e = .returned (.tuple #[.slice (some ⟨V, 0, none⟩) N cv, .slice (some ⟨P, 0, none⟩) N cp]) ∧ RowF w' V N (fun i => (nrAt m es N i ss).1) ∧ RowF w' P N (fun i => (nrAt m es N i ss).2) ∧ (w.heap.size ≤ V ∧ V < P) ∧ Below w.heap.size w w' := by
  obtain ⟨ad, cap, rfl, hz0⟩ := id hs
  obtain ⟨at0, ct, rfl, hz1⟩ := id ht
  clear hz0
  have hz := Lib.hid hz1
  obtain ⟨T, rv, fn, fe, fb, fo, fj, rn, re, rb, ro, rj, D⟩ := disp hm
  have hval := D.val
  have hn1 := D.mn.run
  have hn2 := D.mn.ahead
  have hn3 := D.mn.enter
  have hq1 := D.mb.run
  have hq2 := D.mb.ahead
  have hq3 := D.mb.enter
  have HN := Lib.hid D.cn
  have HCBA := Lib.hid D.cb
  have hrep := fun g cap w h h' => repeat1 (mNone m) N h1 h12 g cap w h h'
  have HR := Lib.hid hrep
  have hrep2 := fun g cap w h h' => repeat1 (-1) N h1 h12 g cap w h h'
  have HR2 := Lib.hid hrep2
  have hrv := fun (A : Nat) w' (h : Below w.heap.size w w') (hA : A < N) => rightValues m es N A _ w' hm (hs.keep h) hl hA h12 he
  have K0 : Hid (Below w.heap.size w (w.alloc (.cells #[.int .i64 N, .slice ad es.length cap] 25)) ∧ Box (w.alloc (.cells #[.int .i64 N, .slice ad es.length cap] 25)) w.heap.size 25 #[.int .i64 N, .slice ad es.length cap]) := Lib.hid ⟨(Below.refl _ _).alloc (Nat.le_refl _) _, Box.new w _ _⟩
  rw [hval] at hrv
  have HRV := Lib.hid hrv
  have HVAL := Lib.hid hval
  have HRR := Lib.hid hr
  rw [hval]
  clear hs ht hrep hrep2 hval hrv hr he hz1 D
  go_enter Try.func64, Try.ntmps64
  go_wp2_with fail
  generalize (w.alloc (.cells #[.int .i64 N, .slice ad es.length cap] 25)) = W0 at K0 ⊢
  have fx : ∀ w', Below W0.heap.size W0 w' → w'.cell? ⟨w.heap.size, 0, none⟩ = some (.int .i64 N) ∧ w'.cell? ⟨w.heap.size, 1, none⟩ = some (.slice ad es.length cap) := fun w' h => ⟨by simpa using (K0.out.2.keep h).cell 0, by simpa using (K0.out.2.keep h).cell 1⟩
  have FX := Lib.hid fx
  clear fx
  go_region_held3 (fun w' : World => w'.cell? ⟨w.heap.size, 0, none⟩ = some (.int .i64 N) ∧ w'.cell? ⟨w.heap.size, 1, none⟩ = some (.slice ad es.length cap)) (first | (with_reducible exact FX.out _ ((Below.refl _ _).drew)) | (with_reducible exact FX.out _ (bel_trans ((Below.refl _ _).drew) hbA)) | exact FX.out _ ((bel_trans ((Below.refl _ _).drew) hbA).alloc (by have := hbA.size; simp at this; omega) _) | exact FX.out _ (bel_trans ((bel_trans ((Below.refl _ _).drew) hbA).alloc (by have := hbA.size; simp at this; omega) _) hbB)) (first | (with_reducible refine (HN.out _).mono ?_; rintro e wA ⟨rfl, hbA⟩) | (go_at_call 104; refine (HR.out _ _ _ (by go_simp) (by simp)).mono ?_; rintro e wB ⟨vB, rfl, hnB, hbB⟩))
  have K1 := Lib.hid (bel_trans ((bel_trans ((Below.refl W0.heap.size W0).drew) hbA).alloc (by have := hbA.size; simp at this; omega) (.cells #[.int .i64 (mNone m)] 3)) hbB)
  obtain ⟨V, cv, rfl, hVl, hVi⟩ := hnB
  have hV0 : W0.heap.size ≤ V := by have := hbA.size; simp at this hVl; omega
  simp only [List.length_replicate] at hVi ⊢
  have HV := Lib.hid (And.intro hV0 (RowF.of_rowIs hVi))
  obtain ⟨x0, x1⟩ := FX.out _ (K1.out.alloc K1.out.size (.cells #[.int .i64 (-1)] 3))
  clear hbA hbB hVl hV0 hVi
  go_wp2_with (go_at_call 104; refine (HR2.out _ _ _ (by go_simp) (by simp)).mono ?_; rintro e wC ⟨vC, rfl, hnC, hbC⟩)
  have K2 := Lib.hid (bel_trans (K1.out.alloc K1.out.size (.cells #[.int .i64 (-1)] 3)) hbC)
  have HV2 := Lib.hid (HV.out.2.keep (bel_trans ((Below.refl _ _).alloc (Nat.le_refl _) (.cells #[.int .i64 (-1)] 3)) hbC))
  obtain ⟨P, cp, rfl, hPl, hPi⟩ := hnC
  simp only [List.length_replicate] at hPi
  have HP := Lib.hid (And.intro hPl (RowF.of_rowIs hPi))
  clear x0 x1 hbC hPl hPi
  have HVP : Hid (w.heap.size < V ∧ V < P) := Lib.hid (by
    have h1 := HV.out.1
    have h2 := K0.out.2.lt
    have h3 := HV.out.2.1
    have h4 := HP.out.1.1
    simp at h4
    exact ⟨by omega, by omega⟩)
  have HCV : Hid (N ≤ (List.replicate N (mNone m)).length ∧ N ≤ (List.replicate N (-1 : Int)).length) := Lib.hid ⟨by simp, by simp⟩
  have HBX : Hid (Box wC w.heap.size 25 #[.int .i64 N, .slice ad es.length cap]) := Lib.hid (K0.out.2.keep K2.out)
  have HBC : Hid (Below w.heap.size w wC) := Lib.hid (bel_trans K0.out.1 K2.out)
  have HV3 : Hid (RowF wC V N (fun i => (nrAt m es N i (ss.take 0)).1)) := Lib.hid (HV2.out.congr (fun i hi => by simp [List.getD, hi, nrAt]))
  have HP3 : Hid (RowF wC P N (fun i => (nrAt m es N i (ss.take 0)).2)) := Lib.hid (HP.out.2.congr (fun i hi => by simp [List.getD, hi, nrAt]))
  try simp only [List.length_replicate]
  go_wp2_with fail
  go_loopw [28] (fun c wr => ∃ k : Nat, k ≤ ss.length ∧ c = .int .i64 k ∧ Below w.heap.size w wr ∧ Box wr w.heap.size 25 #[.int .i64 N, .slice ad es.length cap] ∧ RowF wr V N (fun i => (nrAt m es N i (ss.take k)).1) ∧ RowF wr P N (fun i => (nrAt m es N i (ss.take k)).2)) (fun c _ => ss.length - (intOf c).toNat)
  case atStart => exact ⟨0, Nat.zero_le _, rfl, HBC.out, HBX.out, HV3.out, HP3.out⟩
  case round =>
    obtain ⟨k, hk, rfl, hbel, hbx, hrV, hrP⟩ := hrel
    have HL := Lib.hid (And.intro hbel (And.intro hbx (And.intro hrV hrP)))
    have x0 : wr.cell? ⟨w.heap.size, 0, none⟩ = some (.int .i64 N) := by simpa using hbx.cell 0
    have x1 : wr.cell? ⟨w.heap.size, 1, none⟩ = some (.slice ad es.length cap) := by simpa using hbx.cell 1
    clear hbel hbx hrV hrP
    by_cases hlt : k < ss.length
    · have hlt' : (k : Int) < ss.length := by omega
      rcases hz.out with h0 | ⟨b, off, rfl, hb, hc⟩
      · rw [h0] at hlt; simp at hlt
      obtain ⟨x, hx⟩ : ∃ x, x = ss.getD k 0 := ⟨_, rfl⟩
      have hxr : 0 ≤ x ∧ x < N := HRR.out x (by rw [hx]; simp [List.getD, hlt])
      obtain ⟨X, rfl⟩ := Int.eq_ofNat_of_zero_le hxr.1
      have hXN : X < N := by omega
      have h1c := (HL.out.1.cell (p := ⟨b, off + k, none⟩) hb).trans (hc k hlt)
      rw [← hx] at h1c
      have hrvX := fun w' h => HRV.out X w' h hXN
      obtain ⟨Z, hZ⟩ : ∃ Z, Z = vIter m es N (vStart m N X) := ⟨_, rfl⟩
      rw [← hZ] at hrvX
      have HRX := Lib.hid hrvX
      have HZ := Lib.hid hZ
      have HX := Lib.hid hx
      have HZL : Hid (Z.length = N) := Lib.hid (by rw [hZ, vIter_length, vStart_length, Int.toNat_natCast])
      clear hc hx hrvX hZ hxr
      go_wp2_with (go_at_call 70; (with_reducible refine (HRX.out _ HL.out.1).mono ?_); rintro e w2 ⟨u, r, rfl, hown, hoku, hrr, hb2⟩; obtain ⟨ua, uc, rfl⟩ := hown.slice; clear hoku hrr)
      have hN0 : 0 < Z.length := by have := HZL.out; omega
      obtain ⟨bz, oz, cz, hue, hbz, hcz⟩ := (InR.rowI hown).at hN0
      injection hue with hue1 _ hue3
      subst hue1 hue3
      have hbzlo : wr.heap.size ≤ bz := by
        obtain ⟨a9, c9, he9, hz9⟩ := id hown
        injection he9 with e1 e2 e3
        subst e1
        rcases hz9 with h9 | ⟨b9, o9, h9, k1, k2, k3, kc⟩
        · omega
        · injection h9 with h9
          injection h9 with h9 h10
          omega
      have HNE : Hid (bz ≠ V ∧ bz ≠ P) := Lib.hid ⟨by have := HL.out.2.2.1.1; omega, by have := HL.out.2.2.2.1; omega⟩
      have HRZ : Hid (RowZ w2 bz oz N Z) := Lib.hid ⟨hbz, fun i hi => hcz i (by have := HZL.out; omega)⟩
      have HM : Hid (Below w.heap.size w w2 ∧ Box w2 w.heap.size 25 #[.int .i64 N, .slice ad es.length cap] ∧ RowF w2 V N (fun i => (nrM m es N ss k 0 i).1) ∧ RowF w2 P N (fun i => (nrM m es N ss k 0 i).2)) := Lib.hid ⟨bel_trans HL.out.1 hb2, HL.out.2.1.keep hb2, (HL.out.2.2.1.keep hb2).congr (fun i _ => by rw [nrM_zero]), (HL.out.2.2.2.keep hb2).congr (fun i _ => by rw [nrM_zero])⟩
      have hZlen : Z.length = N := HZL.out
      rw [hZlen]
      clear hown hbz hcz hb2 hbzlo hN0 hZlen x0 x1 h1c
      go_loopw [41] (fun c wr => ∃ j : Nat, j ≤ N ∧ c = .int .i64 j ∧ Below w.heap.size w wr ∧ Box wr w.heap.size 25 #[.int .i64 N, .slice ad es.length cap] ∧ RowF wr V N (fun i => (nrM m es N ss k j i).1) ∧ RowF wr P N (fun i => (nrM m es N ss k j i).2) ∧ RowZ wr bz oz N Z) (fun c _ => N - (intOf c).toNat)
      case atStart => exact ⟨0, Nat.zero_le _, rfl, HM.out.1, HM.out.2.1, HM.out.2.2.1, HM.out.2.2.2, HRZ.out⟩
      case round =>
        obtain ⟨j, hj, rfl, hbel, hbx, hrV, hrP, hrZ⟩ := hrel
        have HQ := Lib.hid (And.intro hbel (And.intro hbx (And.intro hrV (And.intro hrP hrZ))))
        by_cases hjl : j < N
        · have hjl' : (j : Int) < N := by omega
          obtain ⟨z, hzz⟩ : ∃ z, z = Z.getD j 0 := ⟨_, rfl⟩
          have hcz := hrZ.2 j hjl
          rw [← hzz] at hcz
          obtain ⟨y, hyy⟩ : ∃ y, y = (nrAt m es N j (ss.take k)).1 := ⟨_, rfl⟩
          have hcy : wr.cell? ⟨V, j, none⟩ = some (.int .i64 (nrM m es N ss k j j).1) := (hrV.2 j hjl).1
          rw [nrM_at, ← hyy] at hcy
          have hbV : V < wr.heap.size := hrV.1
          have FF : Hid (∀ w'', Below wr.heap.size wr w'' → w''.cell? ⟨V, j, none⟩ = some (.int .i64 y)) := Lib.hid (fun w'' h => (h.cell (p := ⟨V, _, none⟩) hbV).trans hcy)
          have hcb := HCBA.out z y
          have hst := nrAt_snoc m es N j ss hlt
          rw [← HX.out, show nrS m es N j (nrAt m es N j (ss.take k)) (X : Int) = if mBet m z y = true then (z, (X : Int)) else nrAt m es N j (ss.take k) by unfold nrS vwS; rw [← HZ.out, ← hzz, ← hyy]] at hst
          generalize mBet m z y = B at hcb hst
          have HCB := Lib.hid hcb
          have hsu := nrM_succ m es N ss k j
          have HSU := Lib.hid hsu
          clear hbel hbx hrV hrP hrZ hzz hyy hcy hcb hsu hbV
          cases B
          · rw [if_neg (by decide)] at hst
            have HSAME : Hid (∀ i, nrM m es N ss k (j + 1) i = nrM m es N ss k j i) := Lib.hid (fun i => by
              rw [HSU.out i]
              by_cases e : i = j
              · subst e; rw [if_pos rfl, hst, nrM_at]
              · rw [if_neg e])
            clear hst
            go_wp2_with fail
            refine wp_region_below (by kernel_rfl) (by kernel_rfl) ?_
            repeat (go_big_quiet_step ((intro hw; first | with_reducible rfl | (have f0 := FF.out _ hw; simp only [f0, Result.andThen]; first | exact ⟨trivial, rfl⟩ | exact ⟨rfl, rfl⟩) | (with_reducible exact quietB (HCB.out _) hw))))
            refine wpQuiet_nil ?_
            intro w3 hw3
            have H3 := Lib.hid hw3
            clear hw3
            go_wp2
            go_roundw
            case rel => first | exact ⟨j + 1, by omega, by go_num, bel_trans HQ.out.1 H3.out, HQ.out.2.1.keep H3.out, (HQ.out.2.2.1.keep H3.out).congr (fun i _ => by rw [HSAME.out i]), (HQ.out.2.2.2.1.keep H3.out).congr (fun i _ => by rw [HSAME.out i]), HQ.out.2.2.2.2.keep H3.out⟩ | ((repeat apply Exists.intro); exact ⟨⟨j + 1, by omega, by go_num, bel_trans HQ.out.1 H3.out, HQ.out.2.1.keep H3.out, (HQ.out.2.2.1.keep H3.out).congr (fun i _ => by rw [HSAME.out i]), (HQ.out.2.2.2.1.keep H3.out).congr (fun i _ => by rw [HSAME.out i]), HQ.out.2.2.2.2.keep H3.out⟩, rfl⟩)
            case measure => simp [intOf]; omega
          · rw [if_pos rfl] at hst
            have HNEW : Hid (∀ i, nrM m es N ss k (j + 1) i = if i = j then (z, (X : Int)) else nrM m es N ss k j i) := Lib.hid (fun i => by rw [HSU.out i, hst])
            clear hst
            go_wp2_with fail
            refine wp_region_below (by kernel_rfl) (by kernel_rfl) ?_
            repeat (go_big_quiet_step ((intro hw; first | with_reducible rfl | (have f0 := FF.out _ hw; simp only [f0, Result.andThen]; first | exact ⟨trivial, rfl⟩ | exact ⟨rfl, rfl⟩) | (with_reducible exact quietB (HCB.out _) hw))))
            refine wpQuiet_nil ?_
            intro w3 hw3
            have hV3 := HQ.out.2.2.1.keep hw3
            have hP3 := HQ.out.2.2.2.1.keep hw3
            have v1 := (hV3.2 j hjl).1
            have v2 := (hV3.2 j hjl).2
            have v3 := (hP3.2 j hjl).1
            have v4 := (hP3.2 j hjl).2
            have hVP := HVP.out
            have hPV : ¬ P = V := by omega
            have hVP2 : ¬ V = P := by omega
            have HV4 : Hid (RowF ((w3.setCell ⟨V, j, none⟩ (.int .i64 z)).setCell ⟨P, j, none⟩ (.int .i64 X)) V N (fun i => (nrM m es N ss k (j + 1) i).1)) := Lib.hid (((hV3.set hjl z).setOther (by omega) _).congr (fun i _ => by rw [HNEW.out i]; by_cases e : i = j <;> simp [e]))
            have HP4 : Hid (RowF ((w3.setCell ⟨V, j, none⟩ (.int .i64 z)).setCell ⟨P, j, none⟩ (.int .i64 X)) P N (fun i => (nrM m es N ss k (j + 1) i).2)) := Lib.hid (((hP3.setOther (g' := V) (j := j) (by omega) (.int .i64 z)).set hjl (X : Int)).congr (fun i _ => by rw [HNEW.out i]; by_cases e : i = j <;> simp [e]))
            have HZ4 : Hid (RowZ ((w3.setCell ⟨V, j, none⟩ (.int .i64 z)).setCell ⟨P, j, none⟩ (.int .i64 X)) bz oz N Z) := Lib.hid (((HQ.out.2.2.2.2.keep hw3).setOther HNE.out.1 _).setOther HNE.out.2 _)
            have HB4 : Hid (Below w.heap.size w ((w3.setCell ⟨V, j, none⟩ (.int .i64 z)).setCell ⟨P, j, none⟩ (.int .i64 X))) := Lib.hid (((bel_trans HQ.out.1 hw3).setCell (by simp only; omega) _).setCell (by simp only; omega) _)
            have HX4 : Hid (Box ((w3.setCell ⟨V, j, none⟩ (.int .i64 z)).setCell ⟨P, j, none⟩ (.int .i64 X)) w.heap.size 25 #[.int .i64 N, .slice ad es.length cap]) := Lib.hid (((HQ.out.2.1.keep hw3).setOther (by omega) _ _).setOther (by omega) _ _)
            clear hV3 hP3 hw3 hVP
            go_wp2
            go_roundw
            case rel => first | exact ⟨j + 1, by omega, by go_num, HB4.out, HX4.out, HV4.out, HP4.out, HZ4.out⟩ | ((repeat apply Exists.intro); exact ⟨⟨j + 1, by omega, by go_num, HB4.out, HX4.out, HV4.out, HP4.out, HZ4.out⟩, rfl⟩)
            case measure => simp [intOf]; omega
        · have hke : N = j := by omega
          have hkk : ¬ ((j : Int) < N) := by omega
          clear hbel hbx hrV hrP hrZ
          subst hke
          go_wp2
          go_roundw
          case rel => first | exact ⟨k + 1, by omega, by go_num, HQ.out.1, HQ.out.2.1, HQ.out.2.2.1.congr (fun i hi => by rw [nrM_done m es N ss k hi]), HQ.out.2.2.2.1.congr (fun i hi => by rw [nrM_done m es N ss k hi])⟩ | ((repeat apply Exists.intro); exact ⟨⟨k + 1, by omega, by go_num, HQ.out.1, HQ.out.2.1, HQ.out.2.2.1.congr (fun i hi => by rw [nrM_done m es N ss k hi]), HQ.out.2.2.2.1.congr (fun i hi => by rw [nrM_done m es N ss k hi])⟩, rfl⟩)
          case measure => simp [intOf]; omega
    · have hke : k = ss.length := by omega
      have hkk : ¬ ((k : Int) < ss.length) := by omega
      have htk : ss.take k = ss := by rw [hke, List.take_length]
      rw [htk] at HL
      have HKE := Lib.hid hke
      clear hke htk
      go_wp2
      go_ret2
      first | exact ⟨V, P, _, _, rfl, HL.out.2.2.1, HL.out.2.2.2, ⟨by have := HVP.out; omega, HVP.out.2⟩, HL.out.1⟩ | exact ⟨V, P, ⟨_, _, rfl⟩, HL.out.2.2.1, HL.out.2.2.2, ⟨by have := HVP.out; omega, HVP.out.2⟩, HL.out.1⟩
end Go.Proofs.Ytbinpaaihdcnlaa
