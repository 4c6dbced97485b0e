/- Is a view one of a graph: in the program. Is a view one of a graph: in the model. -/
import Derived.Test.YtlgjcofpdaljnaaImpl
import Derived.Test.YtlgjcofpdaljnaaGraph3
import Derived.Test.YtlgjcofpdaljnaaRowAt
import Derived.Test.YtlgjcofpdaljnaaVEdges
import Derived.Test.YtlgjcofpdaljnaaSpec
namespace Go.Proofs.Ytlgjcofpdaljnaa
open Go.RowKit Go.BigFrame
set_option linter.unusedVariables false
set_option linter.unusedSimpArgs false

/-- Does a view fit a graph, but for its values? -/
def vFit (n : Int) (es : List Ed) (a : Int) (zs : List Int) : Bool := gVal n es && ((decide (0 ≤ a) && decide (a < n)) && decide ((zs.length : Int) = n))
/-- Are all of them measures? -/
def mAll (m : Int) (zs : List Int) : Bool := mKind m && zs.all (mIn m)
/-- Is a view one of a graph? -/
def vVal (n : Int) (es : List Ed) (m a : Int) (zs : List Int) : Bool := vFit n es a zs && mAll m zs

theorem opsAll (m : Int) (zs : List Int) (s : Value) (w : World) (hr : Row w s zs) (hl : zs.length ≤ 281474976710656) :
    Calls Try.prog 43 #[.int .i64 m, s] w fun e w' => e = .returned (.tuple #[opsR m (mAll m zs), .bool (mAll m zs)]) ∧ Below w.heap.size w w' := by
  unfold mAll
  cases hm : mKind m
  · rw [Bool.false_and]
    exact opsFor_no m hm s w
  · rw [Bool.true_and]
    exact opsFor_any hm zs s w hr hl

set_option maxHeartbeats 1000000 in
theorem opsOfView (n m a : Int) (es : List Ed) (zs : List Int) (s t : Value) (w : World) (hs : RowE w s es) (ht : Row w t zs) (hl : es.length ≤ 281474976710656) (hl2 : zs.length ≤ 281474976710656) :
    Calls Try.prog 37 #[.agg #[.int .i64 n, s], .agg #[.int .i64 m, .int .i64 a, t]] w fun e w' => e = .returned (.tuple #[opsR m (vVal n es m a zs), .bool (vVal n es m a zs)]) ∧ Below w.heap.size w w' := by
  have hB : ∀ (A B : Obj), Below w.heap.size w ((w.alloc A).alloc B) := fun A B => ((Below.refl _ _).alloc (Nat.le_refl _) _).alloc (by simp) _
  have hg := fun A B => graphValid n es s ((w.alloc A).alloc B) (hs.keep (hB A B)) hl
  have hn := fun w => hasNode n a s w
  have ho := fun w' (h : Below w.heap.size w w') => opsAll m zs t w' (ht.keep h) hl2
  obtain ⟨ad, cap, rfl, hz0⟩ := hs
  obtain ⟨ad2, cap2, rfl, hy0⟩ := ht
  clear hz0 hy0
  unfold vVal vFit
  generalize gVal n es = G at hg ⊢
  generalize (decide (0 ≤ a) && decide (a < n)) = D at hn ⊢
  generalize mAll m zs = M at ho ⊢
  have HG := Lib.hid hg
  have HN := Lib.hid hn
  have HO := Lib.hid ho
  have HB := Lib.hid hB
  clear hg hn ho hB
  cases G
  · rw [Bool.false_and, Bool.false_and]
    go_enter Try.func37, Try.ntmps37
    go_wp2_with (go_at_call 60; refine (HG.out _ _).mono ?_; rintro e w1 ⟨rfl, hb1⟩)
    go_ret2
    exact ⟨rfl, bel_trans (HB.out _ _) hb1⟩
  rw [Bool.true_and]
  cases D
  · rw [Bool.false_and, Bool.false_and]
    go_enter Try.func37, Try.ntmps37
    go_wp2_with (first | (go_at_call 60; refine (HG.out _ _).mono ?_; rintro e w1 ⟨rfl, hb1⟩; have x0 := hb1.cell (p := ⟨w.heap.size, 0, none⟩) (by simp <;> omega); have x1 := hb1.cell (p := ⟨w.heap.size, 1, none⟩) (by simp <;> omega); have y1 := hb1.cell (p := ⟨w.heap.size + 1, 1, none⟩) (by simp <;> omega)) | (go_at_call 83; refine (HN.out _).mono ?_; rintro e w2 ⟨rfl, hb2⟩))
    go_ret2
    exact ⟨rfl, bel_trans (bel_trans (HB.out _ _) hb1) hb2⟩
  rw [Bool.true_and]
  by_cases hlen : (zs.length : Int) = n
  rotate_left
  · have d1 : decide ((zs.length : Int) = n) = false := by simpa using hlen
    have d2 : ((zs.length : Int) == n) = false := by simpa using hlen
    have d3 : ((zs.length : Int) != n) = true := by simpa using hlen
    rw [d1, Bool.false_and]
    go_enter Try.func37, Try.ntmps37
    go_wp2_with (first | (go_at_call 60; refine (HG.out _ _).mono ?_; rintro e w1 ⟨rfl, hb1⟩; have x0 := hb1.cell (p := ⟨w.heap.size, 0, none⟩) (by simp <;> omega); have x1 := hb1.cell (p := ⟨w.heap.size, 1, none⟩) (by simp <;> omega); have y1 := hb1.cell (p := ⟨w.heap.size + 1, 1, none⟩) (by simp <;> omega); have y2 := hb1.cell (p := ⟨w.heap.size + 1, 2, none⟩) (by simp <;> omega)) | (go_at_call 83; refine (HN.out _).mono ?_; rintro e w2 ⟨rfl, hb2⟩; have p0 := hb2.cell (p := ⟨w.heap.size, 0, none⟩) (Nat.lt_of_lt_of_le (by simp <;> omega) hb1.size); have p2 := hb2.cell (p := ⟨w.heap.size + 1, 2, none⟩) (Nat.lt_of_lt_of_le (by simp <;> omega) hb1.size)))
    go_ret2
    exact ⟨rfl, bel_trans (bel_trans (HB.out _ _) hb1) hb2⟩
  have d1 : decide ((zs.length : Int) = n) = true := by simpa using hlen
  have d2 : ((zs.length : Int) == n) = true := by simpa using hlen
  have d3 : ((zs.length : Int) != n) = false := by simpa using hlen
  rw [d1, Bool.true_and]
  clear hlen
  go_enter Try.func37, Try.ntmps37
  go_wp2_with (first | (go_at_call 60; refine (HG.out _ _).mono ?_; rintro e w1 ⟨rfl, hb1⟩; have x0 := hb1.cell (p := ⟨w.heap.size, 0, none⟩) (by simp <;> omega); have x1 := hb1.cell (p := ⟨w.heap.size, 1, none⟩) (by simp <;> omega); have y0 := hb1.cell (p := ⟨w.heap.size + 1, 0, none⟩) (by simp <;> omega); have y1 := hb1.cell (p := ⟨w.heap.size + 1, 1, none⟩) (by simp <;> omega); have y2 := hb1.cell (p := ⟨w.heap.size + 1, 2, none⟩) (by simp <;> omega)) | (go_at_call 83; refine (HN.out _).mono ?_; rintro e w2 ⟨rfl, hb2⟩; have p0 := hb2.cell (p := ⟨w.heap.size, 0, none⟩) (Nat.lt_of_lt_of_le (by simp <;> omega) hb1.size); have p1 := hb2.cell (p := ⟨w.heap.size + 1, 0, none⟩) (Nat.lt_of_lt_of_le (by simp <;> omega) hb1.size); have p2 := hb2.cell (p := ⟨w.heap.size + 1, 2, none⟩) (Nat.lt_of_lt_of_le (by simp <;> omega) hb1.size)) | (go_at_call 43; refine (HO.out _ (bel_trans (bel_trans (HB.out _ _) hb1) hb2)).mono ?_; rintro e w3 ⟨rfl, hb3⟩))
  go_ret2
  exact ⟨rfl, bel_trans (bel_trans (bel_trans (HB.out _ _) hb1) hb2) hb3⟩

theorem viewValid (n m a : Int) (es : List Ed) (zs : List Int) (s t : Value) (w : World) (hs : RowE w s es) (ht : Row w t zs) (hl : es.length ≤ 281474976710656) (hl2 : zs.length ≤ 281474976710656) :
    Calls Try.prog 24 #[.agg #[.int .i64 n, s], .agg #[.int .i64 m, .int .i64 a, t]] w fun e w' => e = .returned (.bool (vVal n es m a zs)) ∧ Below w.heap.size w w' := by
  have hB : ∀ (A B : Obj), Below w.heap.size w ((w.alloc A).alloc B) := fun A B => ((Below.refl _ _).alloc (Nat.le_refl _) _).alloc (by simp) _
  have ho := fun A B => opsOfView n m a es zs s t ((w.alloc A).alloc B) (hs.keep (hB A B)) (ht.keep (hB A B)) hl hl2
  obtain ⟨ad, cap, rfl, hz0⟩ := hs
  obtain ⟨ad2, cap2, rfl, hy0⟩ := ht
  clear hz0 hy0
  generalize vVal n es m a zs = V at ho ⊢
  have HO := Lib.hid ho
  have HB := Lib.hid hB
  clear ho hB
  go_enter Try.func24, Try.ntmps24
  go_wp2_with (go_at_call 37; refine (HO.out _ _).mono ?_; rintro e w1 ⟨rfl, hb1⟩)
  go_ret
  exact ⟨rfl, bel_trans (HB.out _ _) hb1⟩
end Go.Proofs.Ytlgjcofpdaljnaa
namespace Go.Proofs.Ytlgjcofpdaljnaa
open Go.RowKit Go.BigFrame
set_option linter.unusedVariables false
set_option linter.unusedSimpArgs false

theorem calls_below {f : FuncId} {args : Array Value} {w : World} {v : Value} (h : Calls Try.prog f args w fun e w' => e = .returned v ∧ w = w') : Calls Try.prog f args w fun e w' => e = .returned v ∧ Below w.heap.size w w' :=
  h.mono fun e w' ⟨he, hw⟩ => ⟨he, hw ▸ Below.refl _ _⟩

set_option maxHeartbeats 2000000 in
theorem sViewValid (n m a : Int) (es : List Ed) (zs : List Int) (s t : Value) (w : World) (hs : RowE w s es) (ht : Row w t zs) (hl : es.length ≤ 281474976710656) (hl2 : zs.length ≤ 281474976710656) :
    Calls Try.prog 41 #[.agg #[.int .i64 n, s], .agg #[.int .i64 m, .int .i64 a, t]] w fun e w' => e = .returned (.bool (vVal n es m a zs)) ∧ Below w.heap.size w w' := by
  have hB : ∀ (A B : Obj), Below w.heap.size w ((w.alloc A).alloc B) := fun A B => ((Below.refl _ _).alloc (Nat.le_refl _) _).alloc (by simp) _
  have hg := fun A B => sGraphValid n es s ((w.alloc A).alloc B) (hs.keep (hB A B)) hl
  have hk := fun w => sKind m w
  obtain ⟨ad, cap, rfl, hz0⟩ := hs
  obtain ⟨ad2, cap2, rfl, hy0⟩ := ht
  have hy := Lib.hid hy0
  clear hz0 hy0
  obtain ⟨G, hG⟩ : ∃ G, G = gVal n es := ⟨_, rfl⟩
  rw [← hG] at hg
  obtain ⟨K, hK⟩ : ∃ K, K = mKind m := ⟨_, rfl⟩
  rw [← hK] at hk
  have HG := Lib.hid hg
  have HK := Lib.hid hk
  have HB := Lib.hid hB
  have QG := Lib.hid hG
  have QK := Lib.hid hK
  clear hg hk hB hG hK
  cases G
  · have e0 : vVal n es m a zs = false := by unfold vVal vFit; rw [← QG.out]; rfl
    rw [e0]
    clear e0
    go_enter Try.func41, Try.ntmps41
    go_wp2_with (first | (go_at_call 85; refine (HG.out _ _).mono ?_; rintro e w1 ⟨rfl, hb1⟩; have x0 := hb1.cell (p := ⟨w.heap.size, 0, none⟩) (by simp <;> omega); have y0 := hb1.cell (p := ⟨w.heap.size + 1, 0, none⟩) (by simp <;> omega); have y1 := hb1.cell (p := ⟨w.heap.size + 1, 1, none⟩) (by simp <;> omega); have y2 := hb1.cell (p := ⟨w.heap.size + 1, 2, none⟩) (by simp <;> omega)) | (go_at_call 86; refine (HK.out _).mono ?_; rintro e w2 ⟨rfl, rfl⟩))
    go_ret
    exact ⟨rfl, bel_trans (HB.out _ _) hb1⟩
  cases K
  · have e0 : vVal n es m a zs = false := by unfold vVal mAll; rw [← QK.out]; simp
    rw [e0]
    clear e0
    go_enter Try.func41, Try.ntmps41
    go_wp2_with (first | (go_at_call 85; refine (HG.out _ _).mono ?_; rintro e w1 ⟨rfl, hb1⟩; have x0 := hb1.cell (p := ⟨w.heap.size, 0, none⟩) (by simp <;> omega); have y0 := hb1.cell (p := ⟨w.heap.size + 1, 0, none⟩) (by simp <;> omega); have y1 := hb1.cell (p := ⟨w.heap.size + 1, 1, none⟩) (by simp <;> omega); have y2 := hb1.cell (p := ⟨w.heap.size + 1, 2, none⟩) (by simp <;> omega)) | (go_at_call 86; refine (HK.out _).mono ?_; rintro e w2 ⟨rfl, rfl⟩))
    go_ret
    exact ⟨rfl, bel_trans (HB.out _ _) hb1⟩
  by_cases h1 : a < 0
  · have e0 : vVal n es m a zs = false := by unfold vVal vFit; simp; omega
    rw [e0]
    clear e0
    go_enter Try.func41, Try.ntmps41
    go_wp2_with (first | (go_at_call 85; refine (HG.out _ _).mono ?_; rintro e w1 ⟨rfl, hb1⟩; have x0 := hb1.cell (p := ⟨w.heap.size, 0, none⟩) (by simp <;> omega); have y0 := hb1.cell (p := ⟨w.heap.size + 1, 0, none⟩) (by simp <;> omega); have y1 := hb1.cell (p := ⟨w.heap.size + 1, 1, none⟩) (by simp <;> omega); have y2 := hb1.cell (p := ⟨w.heap.size + 1, 2, none⟩) (by simp <;> omega)) | (go_at_call 86; refine (HK.out _).mono ?_; rintro e w2 ⟨rfl, rfl⟩))
    go_ret
    exact ⟨rfl, bel_trans (HB.out _ _) hb1⟩
  by_cases h2 : n ≤ a
  · have e0 : vVal n es m a zs = false := by unfold vVal vFit; simp; omega
    rw [e0]
    clear e0
    go_enter Try.func41, Try.ntmps41
    go_wp2_with (first | (go_at_call 85; refine (HG.out _ _).mono ?_; rintro e w1 ⟨rfl, hb1⟩; have x0 := hb1.cell (p := ⟨w.heap.size, 0, none⟩) (by simp <;> omega); have y0 := hb1.cell (p := ⟨w.heap.size + 1, 0, none⟩) (by simp <;> omega); have y1 := hb1.cell (p := ⟨w.heap.size + 1, 1, none⟩) (by simp <;> omega); have y2 := hb1.cell (p := ⟨w.heap.size + 1, 2, none⟩) (by simp <;> omega)) | (go_at_call 86; refine (HK.out _).mono ?_; rintro e w2 ⟨rfl, rfl⟩))
    go_ret
    exact ⟨rfl, bel_trans (HB.out _ _) hb1⟩
  by_cases h3 : (zs.length : Int) = n
  rotate_left
  · have e0 : vVal n es m a zs = false := by unfold vVal vFit; simp [h3]
    rw [e0]
    have d1 : decide ((zs.length : Int) = n) = false := by simpa using h3
    have d2 : ((zs.length : Int) == n) = false := by simpa using h3
    have d3 : ((zs.length : Int) != n) = true := by simpa using h3
    clear e0
    go_enter Try.func41, Try.ntmps41
    go_wp2_with (first | (go_at_call 85; refine (HG.out _ _).mono ?_; rintro e w1 ⟨rfl, hb1⟩; have x0 := hb1.cell (p := ⟨w.heap.size, 0, none⟩) (by simp <;> omega); have y0 := hb1.cell (p := ⟨w.heap.size + 1, 0, none⟩) (by simp <;> omega); have y1 := hb1.cell (p := ⟨w.heap.size + 1, 1, none⟩) (by simp <;> omega); have y2 := hb1.cell (p := ⟨w.heap.size + 1, 2, none⟩) (by simp <;> omega)) | (go_at_call 86; refine (HK.out _).mono ?_; rintro e w2 ⟨rfl, rfl⟩))
    go_ret
    exact ⟨rfl, bel_trans (HB.out _ _) hb1⟩
  have e0 : vVal n es m a zs = zs.all (mIn m) := by
    unfold vVal vFit mAll
    rw [← QG.out, ← QK.out]
    have : decide (0 ≤ a) = true := by simp; omega
    have : decide (a < n) = true := by simp; omega
    simp [*]
  rw [e0]
  clear e0
  have d2 : ((zs.length : Int) == n) = true := by simpa using h3
  have d3 : ((zs.length : Int) != n) = false := by simpa using h3
  have hm := QK.out.symm
  have his := fun x w => sIs hm x w
  have HIS := Lib.hid his
  have HM := Lib.hid hm
  clear h3 hm his
  go_enter Try.func41, Try.ntmps41
  go_wp2_with (first | (go_at_call 85; refine (HG.out _ _).mono ?_; rintro e w1 ⟨rfl, hb1⟩; have x0 := hb1.cell (p := ⟨w.heap.size, 0, none⟩) (by simp <;> omega); have y0 := hb1.cell (p := ⟨w.heap.size + 1, 0, none⟩) (by simp <;> omega); have y1 := hb1.cell (p := ⟨w.heap.size + 1, 1, none⟩) (by simp <;> omega); have y2 := hb1.cell (p := ⟨w.heap.size + 1, 2, none⟩) (by simp <;> omega)) | (go_at_call 86; refine (HK.out _).mono ?_; rintro e w2 ⟨rfl, rfl⟩))
  have hbel1 := bel_trans (HB.out _ _) hb1
  have hsz1 : w.heap.size + 1 < w1.heap.size := Nat.lt_of_lt_of_le (by simp) hb1.size
  have q0 : w1.cell? ⟨w.heap.size + 1, 0, none⟩ = some (.int .i64 m) := by rw [y0]; go_simp
  have q2 : w1.cell? ⟨w.heap.size + 1, 2, none⟩ = some (.slice ad2 zs.length cap2) := by rw [y2]; go_simp
  clear x0 y0 y1 y2
  go_loopw [5] (fun c wr => ∃ k : Nat, k ≤ zs.length ∧ c = .int .i64 k ∧ (zs.take k).all (mIn m) = true ∧ Below w.heap.size w wr ∧ (wr.cell? ⟨w.heap.size + 1, 0, none⟩ = some (.int .i64 m) ∧ wr.cell? ⟨w.heap.size + 1, 2, none⟩ = some (.slice ad2 zs.length cap2) ∧ w.heap.size + 1 < wr.heap.size)) (fun c _ => zs.length - (intOf c).toNat)
  case atStart => exact ⟨0, Nat.zero_le _, rfl, rfl, hbel1, q0, q2, hsz1⟩
  case round =>
    obtain ⟨k, hk, rfl, hall, hbel, hx0, hx1, hsz⟩ := hrel
    have HA := Lib.hid hall
    clear hall q0 q2 hbel1 hsz1
    by_cases hlt : k < zs.length
    · have hlt' : (k : Int) < zs.length := by omega
      rcases hy.out with h0 | ⟨b, off, rfl, hb, hc⟩
      · rw [h0] at hlt; simp at hlt
      obtain ⟨x, hx⟩ : ∃ x, x = zs.getD k 0 := ⟨_, rfl⟩
      have h1 := hc k hlt
      rw [← hx] at h1
      have ff : ∀ w', Below wr.heap.size wr w' → w'.cell? ⟨b, off + k, none⟩ = some (.int .i64 x) ∧ w'.cell? ⟨w.heap.size + 1, 0, none⟩ = some (.int .i64 m) ∧ w'.cell? ⟨w.heap.size + 1, 2, none⟩ = some (.slice (some ⟨b, off, none⟩) zs.length cap2) := by
        intro w' h
        have hB := bel_trans hbel h
        exact ⟨(hB.cell (p := ⟨b, _, none⟩) hb).trans h1, (h.cell (p := ⟨_, _, none⟩) hsz).trans hx0, (h.cell (p := ⟨_, _, none⟩) hsz).trans hx1⟩
      have FF := Lib.hid ff
      have hsn := all_snoc (mIn m) zs k hlt
      have HS := Lib.hid hsn
      have HX := Lib.hid hx
      have hcon := fun w => calls_below (HIS.out x w)
      clear hc h1 ff hx hsn
      obtain ⟨I, hI⟩ : ∃ I, I = mIn m x := ⟨_, rfl⟩
      rw [← hI] at hcon
      have HC := Lib.hid hcon
      have HI := Lib.hid hI
      clear hcon hI
      cases I
      · go_wp2
        refine wp_region_below (by kernel_rfl) (by kernel_rfl) ?_
        repeat (go_big_quiet_step ((intro hw; first | with_reducible rfl | (obtain ⟨f0, x0, x1⟩ := FF.out _ hw; simp only [f0, x0, x1, Result.andThen]; first | exact ⟨trivial, rfl⟩ | exact ⟨rfl, rfl⟩) | (go_at_call 49; exact quietB (HC.out _) hw))))
        refine wpQuiet_nil ?_
        intro w2 hw2
        go_wp2
        have hf := all_false (mIn m) zs k hlt (by rw [← HX.out]; exact HI.out.symm)
        rw [hf]
        go_ret
        exact ⟨rfl, bel_trans hbel hw2⟩
      · go_wp2
        refine wp_region_below (by kernel_rfl) (by kernel_rfl) ?_
        repeat (go_big_quiet_step ((intro hw; first | with_reducible rfl | (obtain ⟨f0, x0, x1⟩ := FF.out _ hw; simp only [f0, x0, x1, Result.andThen]; first | exact ⟨trivial, rfl⟩ | exact ⟨rfl, rfl⟩) | (go_at_call 49; exact quietB (HC.out _) hw))))
        refine wpQuiet_nil ?_
        intro w2 hw2
        obtain ⟨-, x0, x1⟩ := FF.out _ hw2
        go_wp2
        go_roundw
        case rel => first | exact ⟨k + 1, by omega, by go_num, by rw [HS.out, HA.out, ← HX.out, ← HI.out]; rfl, bel_trans hbel hw2, x0, x1, Nat.lt_of_lt_of_le hsz hw2.size⟩ | ((repeat apply Exists.intro); exact ⟨⟨k + 1, by omega, by go_num, by rw [HS.out, HA.out, ← HX.out, ← HI.out]; rfl, bel_trans hbel hw2, x0, x1, Nat.lt_of_lt_of_le hsz hw2.size⟩, rfl⟩)
        case measure => simp [intOf]; omega
    · have hke : k = zs.length := by omega
      have hkk : ¬ ((k : Int) < zs.length) := by omega
      have hall' : zs.all (mIn m) = true := by have := HA.out; rw [hke, List.take_length] at this; exact this
      have HA2 := Lib.hid hall'
      clear hke hall'
      go_wp2
      rw [HA2.out]
      go_ret
      exact ⟨rfl, hbel⟩
end Go.Proofs.Ytlgjcofpdaljnaa
