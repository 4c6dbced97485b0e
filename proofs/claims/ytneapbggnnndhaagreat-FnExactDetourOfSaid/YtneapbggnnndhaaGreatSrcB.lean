/- The search for simple paths, of the program: an edge farther, and all paths that begin with some nodes. -/
import Derived.Test.YtneapbggnnndhaaGreatSrcA
import Derived.Test.YtneapbggnnndhaaGreatDisp
namespace Go.Proofs.YtneapbggnnndhaaGreat
open Go.RowKit Go.BigFrame Go.Deep Go.ChangeShapes Go.WideShapes Go.Joins
set_option linter.unusedVariables false
set_option linter.unusedSimpArgs false

/-- What stays the same in a search. -/
structure SEnv (W0 : World) (m n tgt : Int) (es : List Ed) (ops ed : Value) : Prop where
  hm : mKind m = true
  hg : gVal n es = true
  row : RowE W0 ed es
  ok : okS ed
  ops : ops = opsV m
/-- What a search leaves: whether there are not too many, and the paths found. -/
def SPost (W0 : World) (B : Nat) (ops : Value) (n : Int) (ed : Value) (tgt : Int) (nodes : List Int) (w : World) (out : List Pt) (e : Ending) (w' : World) : Prop :=
  e = .returned (.bool (decide (out.length ≤ 400))) ∧ (∃ qs vn vf, Srch w' W0.heap.size B ops n ed tgt nodes qs vn vf ∧ qs.map PP.p = out) ∧ ChaT AS W0.heap.size w w'
def GoOnP (W0 : World) (m n tgt : Int) (es : List Ed) (ops ed : Value) (B f : Nat) : Prop :=
  ∀ (nodes : List Int) (v : Int) (qs : List PP) (vn vf : Value) (w : World), Srch w W0.heap.size B ops n ed tgt nodes qs vn vf → Below W0.heap.size W0 w → 0 < nodes.length → (∀ x ∈ nodes, 0 ≤ x ∧ x < n) → pwM n nodes < f → nodes.length + f ≤ 1000 → qs.length ≤ 400 → mIn m v = true →
    Calls Tryz.prog 61 #[.pointer (some ⟨B, 0, none⟩), .int .i64 v] w (SPost W0 B ops n ed tgt nodes w (pw m es tgt f nodes v (qs.map PP.p)))

set_option maxRecDepth 20000 in
set_option maxHeartbeats 4000000 in
theorem goAlong {W0 : World} {m n tgt : Int} {es : List Ed} {ops ed : Value} {B f : Nat} (hE : SEnv W0 m n tgt es ops ed) (hgo : GoOnP W0 m n tgt es ops ed B f) (nodes : List Int) (x y z v : Int) (qs : List PP) (vn vf : Value) (w : World)
    (hs : Srch w W0.heap.size B ops n ed tgt nodes qs vn vf) (hW : Below W0.heap.size W0 w) (h0 : 0 < nodes.length) (hN : ∀ x ∈ nodes, 0 ≤ x ∧ x < n) (hy : 0 ≤ y ∧ y < n) (hz : mWeight z = true) (hf : pwM n (nodes ++ [y]) < f) (hl : nodes.length + f + 1 ≤ 1000) (hq : qs.length ≤ 400) (hv : mIn m v = true) :
    Calls Tryz.prog 79 #[.pointer (some ⟨B, 0, none⟩), .agg #[.int .i64 x, .int .i64 y, .int .i64 z], .int .i64 v] w (SPost W0 B ops n ed tgt nodes w (pw m es tgt f (nodes ++ [y]) (mJoin m v (mEdge m z)) (qs.map PP.p))) := by
  obtain ⟨T, rv, fn, fe, fb, fo, fj, rn, re, rb, ro, rj, D⟩ := disp hE.hm
  have hops : ops = .iface T rv := hE.ops.trans D.val
  subst hops
  have ho1 := D.mo.run
  have ho2 := D.mo.ahead
  have ho3 := D.mo.enter
  have hj1 := D.mj.run
  have hj2 := D.mj.ahead
  have hj3 := D.mj.enter
  have HCO := Lib.hid (fun w => D.co z w)
  have HCJ := Lib.hid (fun w => D.cj v (mEdge m z) w hv (mEdge_in hE.hm hz))
  have hval : mIn m (mJoin m v (mEdge m z)) = true := mJoin_in hE.hm hv (mEdge_in hE.hm hz)
  have hN2 : ∀ q ∈ nodes ++ [y], 0 ≤ q ∧ q < n := by
    intro q hq
    rcases List.mem_append.1 hq with h | h
    · exact hN q h
    · simp at h
      subst h
      exact hy
  have hcall := fun vn' w' h k => hgo (nodes ++ [y]) (mJoin m v (mEdge m z)) qs vn' vf w' h k (by simp) hN2 hf (by simp; omega) hq hval
  generalize pw m es tgt f (nodes ++ [y]) (mJoin m v (mEdge m z)) (qs.map PP.p) = OUT at hcall ⊢
  generalize mJoin m v (mEdge m z) = J at HCJ hcall
  generalize mEdge m z = E at HCO HCJ
  have HCALL := Lib.hid hcall
  clear D hcall hval hf hgo hE hN hN2 hv hz
  obtain ⟨va, vc, rfl⟩ := own_slice hs.nod
  have hb0 : Below w.heap.size w (w.alloc (.cells #[.int .i64 x, .int .i64 y, .int .i64 z] 67)) := (Below.refl _ _).alloc (Nat.le_refl _) _
  have HF := Lib.hid (And.intro (hs.keep hb0) (And.intro hb0 (bel_trans hW hb0)))
  have HX := Lib.hid (Box.new w 67 #[.int .i64 x, .int .i64 y, .int .i64 z])
  obtain ⟨i0, hi, hz0, hz1, hz2⟩ := info_parts info_int2
  have HW0 := Lib.hid hW
  clear hs hb0 hW
  go_enter Tryz.func79, Tryz.ntmps79
  go_wp2
  generalize (w.alloc (.cells #[.int .i64 x, .int .i64 y, .int .i64 z] 67)) = w1 at HF HX ⊢
  obtain ⟨⟨x0, x1, x2, x3, x4, x5⟩, hB⟩ := HF.out.1.cells
  have y1 : w1.cell? ⟨w.heap.size, 1, none⟩ = some (.int .i64 y) := by simpa using HX.out.cell 1
  have hxg : ∀ A w6, World.grownBy ((w1.alloc A).drew) w6 (Value.slice va nodes.length vc).ownBlock → w6.cell? ⟨B, 4, none⟩ = some (.slice va nodes.length vc) ∧ w6.frozen? ⟨B, 4, none⟩ = false := fun A w6 h => by
    have h1 := Box.grown (w := (w1.alloc A).drew) (HF.out.1.box.alloc A) h (own_drew (HF.out.1.nod.alloc A)) (by decide)
    exact ⟨by simpa [sC] using h1.cell 4, h1.frozen 4⟩
  have HXG := Lib.hid hxg
  have hbw : W0.heap.size ≤ w1.heap.size := HF.out.2.2.size
  clear hxg
  go_region_law (first | (refine step_append_lies _ rfl (.tmp 12) (.tmp 15) 25 rfl W0.heap.size 3 i0 (.int .i64 0) 1 8 Tryz.underlying25 hi hz0 hz1 hz2 rfl (by decide) _ _ _ rfl (own_drew (HF.out.1.nod.alloc _)) ⟨w1.heap.size, 0, none⟩ 1 1 [.int .i64 y] rfl rfl (cells_new1 _ _ _) (by simp [Value.oneCell']) (by decide) (by unfold maxLen; omega) (by omega) (by simp; omega) (w1.heap.size + 1) (by simp) ?_; intro g cap6 w6 hown6 hgrow6 hat6 hlt6; have HX6 := Lib.hid (HXG.out _ _ hgrow6); have x46 := HX6.out.1; have f46 := HX6.out.2))
  all_goals
    have hpush := (HF.out.1.keep (((Below.refl _ _).alloc (Nat.le_refl _) (.cells #[.int .i64 y] 3)).drew)).push hgrow6 hown6 (by rcases hat6 with h | h; exact .inl h; exact .inr (by simp; omega))
    have hcha := (ChaT.of_below (A := AS) (base := W0.heap.size) (bel_trans HF.out.2.1 (((Below.refl _ _).alloc (Nat.le_refl _) (.cells #[.int .i64 y] 3)).drew))).trans hpush.2
    have hbx := hpush.2.box (((HX.out.alloc (.cells #[.int .i64 y] 3)).drew)) (.inl (by rintro (h | h | h) <;> exact absurd h (by decide)))
    have HS := Lib.hid (And.intro hpush.1 (And.intro hcha hbx))
    clear hpush hcha hbx hown6 hgrow6 hat6 hlt6 x46 f46 HX6
    go_wp2_with fail
    generalize (w6.setCell ⟨B, 4, none⟩ (.slice (some ⟨g, 0, none⟩) (nodes.length + 1) cap6)) = w7 at HS ⊢
    have hW7 : Hid (Below W0.heap.size W0 w7) := Lib.hid (HS.out.2.1.bel HW0.out.size (Nat.le_refl _) HW0.out)
    have hbb := HS.out.1.cells
    have hbe := HS.out.2.2.lt
    have hold : ∀ w' : World, Below w7.heap.size w7 w' → (w'.cell? ⟨B, 0, none⟩ = some (.iface T rv) ∧ w'.cell? ⟨w.heap.size, 2, none⟩ = some (.int .i64 z)) := fun w' h => ⟨(h.cell (p := ⟨B, 0, none⟩) hbb.2).trans hbb.1.1, (h.cell (p := ⟨w.heap.size, 2, none⟩) hbe).trans (by simpa using HS.out.2.2.cell 2)⟩
    have hold2 : ∀ (w8 w9 : World) (qs9 : List PP) (vn9 vf9 : Value), Below w7.heap.size w7 w8 → Srch w9 W0.heap.size B (.iface T rv) n ed tgt (nodes ++ [y]) qs9 vn9 vf9 → ChaT AS W0.heap.size w8 w9 → (w9.cell? ⟨B, 0, none⟩ = some (.iface T rv) ∧ w9.cell? ⟨w.heap.size, 2, none⟩ = some (.int .i64 z)) := fun w8 w9 qs9 vn9 vf9 h1 h2 h3 => ⟨h2.cells.1.1, by simpa using (h3.box (HS.out.2.2.keep h1) (.inl (by rintro (h | h | h) <;> exact absurd h (by decide)))).cell 2⟩
    have hc4 : ∀ w', Below w7.heap.size w7 w' → Calls Tryz.prog 61 #[.pointer (some ⟨B, 0, none⟩), .int .i64 J] w' (SPost W0 B (.iface T rv) n ed tgt (nodes ++ [y]) w' OUT) := fun w' h => HCALL.out _ w' (HS.out.1.keep h) (bel_trans hW7.out h)
    have HOLD := Lib.hid hold
    have HOLD2 := Lib.hid hold2
    have HC4 := Lib.hid hc4
    clear hold hold2 hc4 hbb hbe x0 x1 x2 x3 x4 x5 y1
    go_region_held3 (fun w' : World => w'.cell? ⟨B, 0, none⟩ = some (.iface T rv) ∧ w'.cell? ⟨w.heap.size, 2, none⟩ = some (.int .i64 z)) (first | with_reducible exact HOLD2.out _ _ _ _ _ (bel_trans (bel_trans ((Below.refl _ _).drew) hb8) hb9) hsr hch | with_reducible exact HOLD.out _ ((Below.refl _ _).drew) | with_reducible exact HOLD.out _ (bel_trans ((Below.refl _ _).drew) hb8) | with_reducible exact HOLD.out _ (bel_trans (bel_trans ((Below.refl _ _).drew) hb8) hb9)) (first | ((with_reducible refine (HCO.out _).mono ?_); rintro e w8 ⟨rfl, hb8⟩) | ((with_reducible refine (HCJ.out _).mono ?_); rintro e w9 ⟨rfl, hb9⟩) | (go_at_call 61; (with_reducible refine (HC4.out _ (bel_trans (bel_trans ((Below.refl _ _).drew) hb8) hb9)).mono ?_); rintro e w10 ⟨rfl, ⟨qs9, vn9, vf9, hsr, hmap⟩, hch⟩))
    have HCH := Lib.hid ((HS.out.2.1.trans (ChaT.of_below (bel_trans (bel_trans ((Below.refl _ _).drew) hb8) hb9))).trans hch)
    obtain ⟨g9, c9, hvn, hbg9, hgl9, hcap9⟩ := own_pos hsr.nod (by simp)
    subst hvn
    have hln : (nodes ++ [y]).length = nodes.length + 1 := by simp
    rw [hln] at hsr hcap9
    have hpop := (hsr.keep ((Below.refl _ _).drew)).pop
    have HP := Lib.hid hpop
    have HM := Lib.hid hmap
    have x4 : w10.cell? ⟨B, 4, none⟩ = some (.slice (some ⟨g9, 0, none⟩) (nodes.length + 1) c9) := hsr.cells.1.2.2.2.2.1
    have x4d : w10.drew.cell? ⟨B, 4, none⟩ = some (.slice (some ⟨g9, 0, none⟩) (nodes.length + 1) c9) := x4
    have f4d : w10.drew.frozen? ⟨B, 4, none⟩ = false := hsr.box.frozen 4
    have hsub : ((nodes.length + 1 : Nat) : Int) - 1 = nodes.length := by omega
    have hc9 : ¬ c9 = 0 := by omega
    have hlc9 : (nodes.length : Int) ≤ c9 := by omega
    have hlc9' : nodes.length ≤ c9 := by omega
    clear hpop hmap hsr hch hb8 hb9 hln hbg9 hgl9 hcap9
    go_wp2_with fail
    refine wp_region_tail 12 (by kernel_rfl) (by kernel_rfl) ?_
    simp only [List.take_succ_cons, List.take_zero, List.drop_succ_cons, List.drop_zero]
    repeat (go_big_quiet_step (fail))
    refine wpQuiet_nil ?_
    go_wp2
    go_ret
    exact (show _ ∧ _ ∧ _ from ⟨rfl, ⟨qs9, _, vf9, HP.out.1, HM.out⟩, (HCH.out.trans (ChaT.of_below ((Below.refl _ _).drew))).trans HP.out.2⟩)
end Go.Proofs.YtneapbggnnndhaaGreat
