/- SimplePaths of the model. -/
import Derived.Test.YtneapbggnnndhaaGreatSrcE
namespace Go.Proofs.YtneapbggnnndhaaGreat
open Go.RowKit Go.BigFrame Go.Deep Go.ChangeShapes Go.WideShapes Go.Joins
set_option linter.unusedVariables false
set_option linter.unusedSimpArgs false

theorem walkAll {W0 : World} {m n tgt : Int} {es : List Ed} {s : Value} (hm : mKind m = true) (hg : gVal n es = true) (hr : RowE W0 s es) : ∀ f, WalkP W0 m n tgt es s f
  | 0 => fun nodes v qs vn vo w _ _ _ _ _ h => absurd h (Nat.not_lt_zero _)
  | f + 1 => walkStep hm hg hr (walkAll hm hg hr f)
theorem pths_empty (w : World) (base : Nat) (hb : base ≤ w.heap.size) : Pths (w.alloc (.cells #[] 30)) base (.slice (some ⟨w.heap.size, 0, none⟩) 0 0) [] :=
  ⟨World.ownsRow_made w #[] 0 hb (by unfold maxLen; omega) rfl, (fun q hq => absurd hq (List.not_mem_nil)), List.Pairwise.nil⟩
theorem pths_empty1 (w : World) (A : Obj) (base : Nat) (hb : base ≤ w.heap.size) : Pths ((w.alloc A).alloc (.cells #[] 30)) base (.slice (some ⟨w.heap.size + 1, 0, none⟩) 0 0) [] := by
  have := pths_empty (w.alloc A) base (by simp; omega)
  simpa using this
theorem pths_low {w : World} {base base' : Nat} {v : Value} {qs : List PP} (h : Pths w base v qs) (hb : base' ≤ base) : Pths w base' v qs :=
  ⟨own_low5 h.own hb, fun q hq => ⟨own_low5 (h.row q hq).1 hb, (h.row q hq).2⟩, h.dis⟩
theorem own_one (w : World) (a : Int) : (w.alloc (.cells #[.int .i64 a] 3)).ownsRow 0 3 1 (.slice (some ⟨w.heap.size, 0, none⟩) 1 1) 1 [.int .i64 a] :=
  ⟨rfl, .inr ⟨w.heap.size, 1, #[.int .i64 a], rfl, Nat.zero_le _, blk_alloc_new _ _, Nat.le_refl _, by unfold maxLen; omega, rfl, rfl⟩⟩
theorem own_one1 (w : World) (A : Obj) (a : Int) : ((w.alloc A).alloc (.cells #[.int .i64 a] 3)).ownsRow 0 3 1 (.slice (some ⟨w.heap.size + 1, 0, none⟩) 1 1) 1 [.int .i64 a] := by
  have := own_one (w.alloc A) a
  simpa using this

set_option maxRecDepth 20000 in
set_option maxHeartbeats 4000000 in
theorem l11All (n m a b : Int) (es : List Ed) (s : Value) (w : World) (hs : RowE w s es) (hl : es.length ≤ 1048576) (hon : onOk n es m [a, b] = true) :
    Calls Tryz.prog 35 #[.agg #[.int .i64 n, s], .int .i64 m, .int .i64 a, .int .i64 b] w fun e w' => ∃ v qs, e = .returned (.tuple #[v, .bool (decide ((spL m es a b).length ≤ 400))]) ∧ Pths w' w.heap.size v qs ∧ qs.map PP.p = spL m es a b ∧ Below w.heap.size w w' := by
  have hp := onOk_parts hon
  have hn12 := gVal_n hp.1
  obtain ⟨ad, cap, rfl, hz⟩ := id hs
  have hb0 : Below w.heap.size w (w.alloc (.cells #[.int .i64 n, .slice ad es.length cap] 35)) := (Below.refl _ _).alloc (Nat.le_refl _) _
  have HX := Lib.hid (Box.new w 35 #[.int .i64 n, .slice ad es.length cap])
  have HB0 := Lib.hid hb0
  have hwk := fun vn vo w' (h : Below w.heap.size w w') (h1 : w'.ownsRow 0 3 1 vn 1 [.int .i64 a]) (h2 : Pths w' w.heap.size vo []) => walkAll (tgt := b) hp.2.2 hp.1 hs 13 [a] (mOne m) [] vn vo w' h h1 h2 (by simp) (fun x hx => by simp at hx; subst hx; exact hp.2.1 _ (List.mem_cons_self ..)) (by have := pwM_le n [a]; omega) (by simp) (by simp) (mOne_in hp.2.2)
  have hspl : pw m es b 13 [a] (mOne m) (([] : List PP).map PP.p) = spL m es a b := rfl
  rw [hspl] at hwk
  have hone := fun W => sOne hp.2.2 W
  have HWK := Lib.hid hwk
  have HONE := Lib.hid hone
  clear hwk hone hspl hb0 hz hs hp hon hn12
  go_enter Tryz.func35, Tryz.ntmps35
  go_wp2
  generalize (w.alloc (.cells #[.int .i64 n, .slice ad es.length cap] 35)) = w1 at HX HB0 ⊢
  have x0 : w1.cell? ⟨w.heap.size, 0, none⟩ = some (.int .i64 n) := by simpa using HX.out.cell 0
  have x1 : w1.cell? ⟨w.heap.size, 1, none⟩ = some (.slice ad es.length cap) := by simpa using HX.out.cell 1
  have hwl : w.heap.size < w1.heap.size := HX.out.lt
  have hwl' : w.heap.size ≤ w1.heap.size := by omega
  have hold : ∀ w' : World, Below w1.heap.size w1 w' → (w'.cell? ⟨w.heap.size, 0, none⟩ = some (.int .i64 n) ∧ w'.cell? ⟨w.heap.size, 1, none⟩ = some (.slice ad es.length cap)) := fun w' h => ⟨by simpa using (HX.out.keep h).cell 0, by simpa using (HX.out.keep h).cell 1⟩
  have hold2 : ∀ (w8 w9 : World), Below w1.heap.size w1 w8 → ChaT AP w.heap.size w8 w9 → (w9.cell? ⟨w.heap.size, 0, none⟩ = some (.int .i64 n) ∧ w9.cell? ⟨w.heap.size, 1, none⟩ = some (.slice ad es.length cap)) := fun w8 w9 h k => ⟨by simpa using (k.box (HX.out.keep h) (.inl (by unfold AP; decide))).cell 0, by simpa using (k.box (HX.out.keep h) (.inl (by unfold AP; decide))).cell 1⟩
  have hap : Hid (Below w1.heap.size w1 ((w1.alloc (.cells #[.int .i64 a] 3)).alloc (.cells #[] 30)).drew ∧ Below w1.heap.size w1 ((w1.alloc (.cells #[] 30)).alloc (.cells #[.int .i64 a] 3)).drew ∧ Below w1.heap.size w1 (w1.alloc (.cells #[.int .i64 a] 3)).drew ∧ Below w1.heap.size w1 (w1.alloc (.cells #[] 30)).drew) := Lib.hid ⟨((((Below.refl w1.heap.size w1).alloc (Nat.le_refl _) (.cells #[.int .i64 a] 3)).alloc (by simp) (.cells #[] 30)).drew), ((((Below.refl w1.heap.size w1).alloc (Nat.le_refl _) (.cells #[] 30)).alloc (by simp) (.cells #[.int .i64 a] 3)).drew), (((Below.refl w1.heap.size w1).alloc (Nat.le_refl _) (.cells #[.int .i64 a] 3)).drew), (((Below.refl w1.heap.size w1).alloc (Nat.le_refl _) (.cells #[] 30)).drew)⟩
  have hwa := HWK.out (.slice (some ⟨w1.heap.size, 0, none⟩) 1 1) (.slice (some ⟨w1.heap.size + 1, 0, none⟩) 0 0) _ (bel_trans HB0.out hap.out.1) ((own_one w1 a).alloc _) ((pths_empty1 w1 _ _ hwl').keep ((Below.refl _ _).drew))
  have hwb := HWK.out (.slice (some ⟨w1.heap.size + 1, 0, none⟩) 1 1) (.slice (some ⟨w1.heap.size, 0, none⟩) 0 0) _ (bel_trans HB0.out hap.out.2.1) (own_one1 w1 _ a) (((pths_empty w1 _ hwl').keep ((Below.refl _ _).alloc (Nat.le_refl _) (.cells #[.int .i64 a] 3))).keep ((Below.refl _ _).drew))
  have HOLD := Lib.hid hold
  have HOLD2 := Lib.hid hold2
  have HWA := Lib.hid hwa
  have HWB := Lib.hid hwb
  clear hold hold2 hwa hwb x0 x1
  go_region_held3 (fun w' : World => w'.cell? ⟨w.heap.size, 0, none⟩ = some (.int .i64 n) ∧ w'.cell? ⟨w.heap.size, 1, none⟩ = some (.slice ad es.length cap)) (first | with_reducible exact HOLD.out _ ((Below.refl _ _).drew) | with_reducible exact HOLD2.out _ _ hap.out.1 hch9 | with_reducible exact HOLD2.out _ _ hap.out.2.1 hch9 | with_reducible exact HOLD.out _ hap.out.2.2.1 | with_reducible exact HOLD.out _ hap.out.2.2.2 | with_reducible exact HOLD.out _ hap.out.1 | with_reducible exact HOLD.out _ hap.out.2.1) (first | (go_at_call 45; (with_reducible refine (HONE.out _).mono ?_); rintro e w8 ⟨rfl, rfl⟩) | (go_at_call 44; (with_reducible refine HWA.out.mono ?_); rintro e w9 ⟨v9, qs9, rfl, hp9, hmap9, hch9⟩) | (go_at_call 44; (with_reducible refine HWB.out.mono ?_); rintro e w9 ⟨v9, qs9, rfl, hp9, hmap9, hch9⟩))
  all_goals
    have hfin : Below w.heap.size w w9 := by first | exact hch9.bel (Nat.le_trans hwl' hap.out.1.size) (Nat.le_refl _) (bel_trans HB0.out hap.out.1) | exact hch9.bel (Nat.le_trans hwl' hap.out.2.1.size) (Nat.le_refl _) (bel_trans HB0.out hap.out.2.1)
    obtain ⟨va, vc, hva⟩ := own_slice hp9.own
    subst hva
    have HF := Lib.hid (And.intro hp9 (And.intro hmap9 hfin))
    have hlen9 : qs9.length = (spL m es a b).length := by rw [← hmap9, List.length_map]
    have HLN := Lib.hid hlen9
    clear hp9 hmap9 hch9 hfin hlen9
    go_wp2
    go_ret2
    refine ⟨.slice va qs9.length vc, qs9, ?_, HF.out.1, HF.out.2.1, HF.out.2.2⟩
    rw [← HLN.out]
    show Ending.returned (.tuple #[.slice va qs9.length vc, .bool (decide ((qs9.length : Int) ≤ 400))]) = _
    have hd : decide ((qs9.length : Int) ≤ 400) = decide (qs9.length ≤ 400) := decide_eq_decide.2 (by omega)
    rw [hd]

end Go.Proofs.YtneapbggnnndhaaGreat
