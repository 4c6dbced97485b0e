/- The steps of changes: for each change an interface value. -/
import Derived.Test.YtbhhbhopogkmnaaChgE
import Derived.Test.YtbhhbhopogkmnaaCopyG
import Derived.Test.YtbhhbhopogkmnaaPutT
import Derived.Laws.EntriesVeiled
namespace Go.Proofs.Ytbhhbhopogkmnaa
open Go.RowKit Go.BigFrame Go.Deep
set_option linter.unusedVariables false
set_option linter.unusedSimpArgs false

/-- The step of a change. -/
def stepV (c : Ch) : Value := if c.1 = true then .iface 104 (.agg #[.int .i64 c.2.1, .int .i64 c.2.2.1]) else .iface 102 (.agg #[.int .i64 c.2.1, .int .i64 c.2.2.1, .int .i64 c.2.2.2])
/-- Does a list have steps? -/
def stB (cs : List Ch) : Bool := decide (cs.length ≤ 60) && cs.all chOk
def partS (cs : List Ch) (k : Nat) : Nat → Value := fun i => if i < k then stepV (cs.getD i chZ) else .nilIface
theorem partS_step (cs : List Ch) (k i : Nat) : partS cs (k + 1) i = if i = k then stepV (cs.getD k chZ) else partS cs k i := by
  unfold partS
  by_cases e : i = k
  · subst e; rw [if_pos (by omega), if_pos rfl]
  · rw [if_neg e]
    by_cases h : i < k
    · rw [if_pos h, if_pos (by omega)]
    · rw [if_neg h, if_neg (by omega)]
/-- The steps of a list in memory that is new since a world. -/
def StepsAt (w w' : World) (v : Value) (cs : List Ch) : Prop :=
  ∃ g cap, v = .slice (some ⟨g, 0, none⟩) cs.length cap ∧ w.heap.size ≤ g ∧ w'.rowIs g 77 cs.length (fun i => stepV (cs.getD i chZ))
theorem StepsAt.keep {w w1 w2 : World} {v : Value} {cs : List Ch} (h : StepsAt w w1 v cs) (hb : Below w1.heap.size w1 w2) : StepsAt w w2 v cs := by
  obtain ⟨g, cap, e, h1, h2⟩ := h
  exact ⟨g, cap, e, h1, h2.of_block (hb.block _ h2.lt)⟩
theorem StepsAt.at {w w1 : World} {v : Value} {cs : List Ch} (h : StepsAt w w1 v cs) : ∃ g cap, v = .slice (some ⟨g, 0, none⟩) cs.length cap ∧ w.heap.size ≤ g ∧ g < w1.heap.size ∧ ∀ i, i < cs.length → w1.cell? ⟨g, i, none⟩ = some (stepV (cs.getD i chZ)) := by
  obtain ⟨g, cap, e, h1, h2⟩ := h
  exact ⟨g, cap, e, h1, h2.lt, fun i hi => h2.cell hi⟩
theorem info_step : (Try.prog.info? 77).map (fun i => (i.zero, i.size, i.bytes)) = some (some .nilIface, 1, 16) := by kernel_rfl
theorem all_ok_snoc (cs : List Ch) {k : Nat} (hk : k < cs.length) : (cs.take (k + 1)).all chOk = ((cs.take k).all chOk && chOk (cs.getD k chZ)) := by
  have e : cs.getD k chZ = cs[k] := by simp [List.getD, hk]
  rw [List.take_succ_eq_append_getElem hk, List.all_append, e]; simp
theorem all_ok_bad (cs : List Ch) {k : Nat} (hk : k < cs.length) (h : chOk (cs.getD k chZ) = false) : cs.all chOk = false := by
  have e : cs.getD k chZ = cs[k] := by simp [List.getD, hk]
  rw [e] at h
  apply Bool.eq_false_iff.2
  intro ha
  rw [List.all_eq_true] at ha
  rw [ha _ (List.getElem_mem hk)] at h
  cases h

set_option maxRecDepth 20000 in
set_option maxHeartbeats 2000000 in
theorem stepsOf (cs : List Ch) (s : Value) (w : World) (hs : RowCh w s cs) (hl : cs.length ≤ 1048576) :
    Calls Try.prog 44 #[s] w fun e w' => ∃ v, e = .returned (.tuple #[v, .bool (stB cs)]) ∧ (stB cs = true → StepsAt w w' v cs) ∧ Below w.heap.size w w' := by
  have hS := Lib.hid hs
  obtain ⟨a, cap, rfl⟩ := hs.slice
  clear hs
  by_cases h60 : cs.length ≤ 60
  rotate_left
  · have hgt : (60 : Int) < cs.length := by omega
    have hst : stB cs = false := by simp [stB, h60]
    rw [hst]
    go_enter Try.func44, Try.ntmps44
    go_wp2
    go_ret2
    exact ⟨_, rfl, fun h => (by cases h), Below.refl _ _⟩
  have hngt : ¬ ((60 : Int) < cs.length) := by omega
  have hmk := run_make_row' (P := Try.prog) 71 77 .nilIface 16 Try.underlying71 info_step rfl .i64 .i64 cs.length (by omega) (by omega)
  have H60 := Lib.hid h60
  obtain ⟨B, hB0⟩ : ∃ B, B = stB cs := ⟨_, rfl⟩
  rw [← hB0]
  have HBB := Lib.hid hB0
  clear hB0
  go_enter Try.func44, Try.ntmps44
  go_wp2
  clear hmk
  go_loopw [15] (fun c wr => ∃ k : Nat, k ≤ cs.length ∧ c = .int .i64 k ∧ (cs.take k).all chOk = true ∧ wr.rowIs w.heap.size 77 cs.length (partS cs k) ∧ Below w.heap.size w wr) (fun c _ => cs.length - (intOf c).toNat)
  case atStart => exact ⟨0, Nat.zero_le _, rfl, rfl, (World.rowIs_made w _ _ _).congr (fun i _ => by simp [partS]), (Below.refl _ _).alloc (Nat.le_refl _) _⟩
  case round =>
    obtain ⟨k, hk, rfl, hall, hrow, hbel⟩ := hrel
    have HA := Lib.hid hall
    clear hall
    by_cases hlt : k < cs.length
    · have hlt' : (k : Int) < cs.length := by omega
      obtain ⟨b, off, cap', he, hb, hc⟩ := hS.out.at hlt
      injection he with he1 he2 he3
      subst he1 he3
      obtain ⟨u, x, y, z, hx⟩ : ∃ u x y z, (u, x, y, z) = cs.getD k chZ := ⟨_, _, _, _, rfl⟩
      obtain ⟨c0, c1, c2, c3⟩ := hc k hlt
      rw [← hbel.cell (p := ⟨b, _, none⟩) hb, ← hx] at c0 c1 c2 c3
      simp only at c0 c1 c2 c3
      have HX := Lib.hid hx
      have hbA : Below wr.heap.size wr (wr.alloc (.cells #[.bool u, .int .i64 x, .int .i64 y, .int .i64 z] 51)) := (Below.refl _ _).alloc (Nat.le_refl _) _
      have HR := Lib.hid hrow
      have HB := Lib.hid hbel
      have HB2 := Lib.hid (bel_trans hbel hbA)
      have hsn := all_ok_snoc cs hlt
      rw [HA.out, Bool.true_and, ← hx] at hsn
      have hpt := partS_step cs k
      rw [← hx] at hpt
      have hbad := fun h => all_ok_bad cs hlt h
      rw [← hx] at hbad
      have s0 : wr.cell? ⟨w.heap.size, k, none⟩ = some (partS cs k k) := hrow.cell hlt
      have f0 : wr.frozen? ⟨w.heap.size, k, none⟩ = false := hrow.frozen k
      have hlt0 : w.heap.size < wr.heap.size := hrow.lt
      have HSN := Lib.hid hsn
      have HPT := Lib.hid hpt
      have HBAD := Lib.hid hbad
      clear hc hx hrow hbel hbA hsn hpt hbad
      cases u
      · go_wp2
        go_roundw
        case rel => exact ⟨k + 1, by omega, by go_num, by rw [HSN.out]; rfl, ((HR.out.set k _).congr (fun i hi => by rw [HPT.out]; rfl)).of_block (Below.block ((Below.refl _ _).alloc (Nat.le_refl _) _) _ (by simp; exact HR.out.lt)), (HB.out.setCell (Nat.le_refl _) _).alloc (by simp; exact HB.out.size) _⟩
        case measure => simp [intOf]; omega
      · by_cases hz : z = 0
        · subst hz
          go_wp2
          go_roundw
          case rel => exact ⟨k + 1, by omega, by go_num, by rw [HSN.out]; rfl, ((HR.out.set k _).congr (fun i hi => by rw [HPT.out]; rfl)).of_block (Below.block ((Below.refl _ _).alloc (Nat.le_refl _) _) _ (by simp; exact HR.out.lt)), (HB.out.setCell (Nat.le_refl _) _).alloc (by simp; exact HB.out.size) _⟩
          case measure => simp [intOf]; omega
        · have hz2 : (z == 0) = false := by simpa using hz
          have hst : stB cs = false := by
            unfold stB
            rw [HBAD.out (by simp [chOk, hz]), Bool.and_false]
          have HST := Lib.hid (HBB.out.trans hst)
          clear hst
          go_wp2
          go_ret2
          exact ⟨.slice none 0 0, (by rw [HST.out]; rfl), fun h => (by rw [HST.out] at h; cases h), HB2.out⟩
    · have hke : k = cs.length := by omega
      have hkk : ¬ ((k : Int) < cs.length) := by omega
      have hst : stB cs = true := by
        have := HA.out
        rw [hke, List.take_length] at this
        simp [stB, H60.out, this]
      have HST := Lib.hid (HBB.out.trans hst)
      have HK := Lib.hid hke
      have HRW := Lib.hid hrow
      clear hke hst hrow
      go_wp2
      go_ret2
      exact ⟨.slice (some ⟨w.heap.size, 0, none⟩) cs.length cs.length, (by rw [HST.out]; rfl), fun _ => ⟨_, _, rfl, Nat.le_refl _, HRW.out.congr (fun i hi => by unfold partS; rw [if_pos (by rw [HK.out]; exact hi)])⟩, hbel⟩

/-! a step made in a graph -/
def aB (n : Int) (es : List Ed) (c : Ch) : Bool := (apG n es c).isSome
def aN (n : Int) (es : List Ed) (c : Ch) : Int := if aB n es c = true then n else 0
def aL (n : Int) (es : List Ed) (c : Ch) : List Ed := (apG n es c).getD []
theorem apG_is {n : Int} {es : List Ed} {c : Ch} : apG n es c = if aB n es c = true then some (aL n es c) else none := by
  unfold aB aL
  cases apG n es c <;> rfl
theorem a_cut {n : Int} {es : List Ed} {x y : Int} : aB n es (true, (x, y, 0)) = kB n es x y ∧ aN n es (true, (x, y, 0)) = kN n es x y ∧ aL n es (true, (x, y, 0)) = kR n es x y := by
  unfold aN aB aL kN kR
  rw [apG_cut]
  cases kB n es x y <;> simp
theorem a_put {n : Int} {es : List Ed} {e : Ed} : aB n es (false, e) = putB n es e ∧ aN n es (false, e) = putN n es e ∧ aL n es (false, e) = putL n es e := by
  unfold aN aB aL putN putL
  rw [apG_put]
  cases putB n es e <;> simp

set_option maxRecDepth 20000 in
theorem putMake (n : Int) (es : List Ed) (x y z : Int) (s : Value) (w : World) (hs : RowE w s es) (hok : okS s) (hl : es.length ≤ 1048576) :
    Calls Try.prog 144 #[.agg #[.int .i64 x, .int .i64 y, .int .i64 z], .agg #[.int .i64 n, s]] w fun e w' => ∃ v, e = .returned (.tuple #[.agg #[.int .i64 (putN n es (x, y, z)), v], .bool (putB n es (x, y, z))]) ∧ OwnE w w' v (putL n es (x, y, z)) ∧ okS v ∧ Below w.heap.size w w' := by
  obtain ⟨ad, cap, rfl, hz0⟩ := id hs
  clear hz0
  obtain ⟨W, hW⟩ : ∃ W, W = (((w.alloc (.cells #[.int .i64 x, .int .i64 y, .int .i64 z] 102)).alloc (.cells #[.int .i64 n, .slice ad es.length cap] 34)).alloc (.cells #[.int .i64 0, .slice none 0 0] 34)) := ⟨_, rfl⟩
  have hbW : Below w.heap.size w W := by rw [hW]; exact (((Below.refl _ _).alloc (Nat.le_refl _) _).alloc (by simp) _).alloc (by simp; omega) _
  have hsz : W.heap.size = w.heap.size + 3 := by rw [hW]; simp
  have hp := putEdge n es x y z _ W (hs.keep hbW) hok hl
  have hres : ∀ w', Below W.heap.size W w' → w'.cell? ⟨w.heap.size + 2, 0, none⟩ = some (.int .i64 0) ∧ w'.cell? ⟨w.heap.size + 2, 1, none⟩ = some (.slice none 0 0) ∧ w'.frozen? ⟨w.heap.size + 2, 0, none⟩ = false ∧ w'.frozen? ⟨w.heap.size + 2, 1, none⟩ = false := fun w' h =>
    ⟨(h.cell (p := ⟨w.heap.size + 2, 0, none⟩) (by simp only; omega)).trans (by rw [hW]; go_simp), (h.cell (p := ⟨w.heap.size + 2, 1, none⟩) (by simp only; omega)).trans (by rw [hW]; go_simp), (h.frozen (p := ⟨w.heap.size + 2, 0, none⟩) (by simp only; omega)).trans (by rw [hW]; go_simp), (h.frozen (p := ⟨w.heap.size + 2, 1, none⟩) (by simp only; omega)).trans (by rw [hW]; go_simp)⟩
  generalize putN n es (x, y, z) = N at hp ⊢
  generalize putB n es (x, y, z) = B at hp ⊢
  generalize putL n es (x, y, z) = L at hp ⊢
  have HP := Lib.hid hp
  have HRES := Lib.hid hres
  have HBW := Lib.hid hbW
  have HSZ := Lib.hid hsz
  have q0 : W.cell? ⟨w.heap.size + 1, 0, none⟩ = some (.int .i64 n) := by rw [hW]; go_simp
  have q1 : W.cell? ⟨w.heap.size + 1, 1, none⟩ = some (.slice ad es.length cap) := by rw [hW]; go_simp
  have q2 : W.cell? ⟨w.heap.size, 0, none⟩ = some (.int .i64 x) := by rw [hW]; go_simp
  have q3 : W.cell? ⟨w.heap.size, 1, none⟩ = some (.int .i64 y) := by rw [hW]; go_simp
  have q4 : W.cell? ⟨w.heap.size, 2, none⟩ = some (.int .i64 z) := by rw [hW]; go_simp
  clear hp hres hbW hsz hs hok
  go_enter Try.func144, Try.ntmps144
  go_wp2_with fail
  rw [← hW]
  clear hW
  go_wp2_with (go_at_call 146; refine HP.out.mono ?_; rintro e w3 ⟨v3, rfl, hown3, hok3, hb3⟩; obtain ⟨va, vc, hva, hz9⟩ := id hown3; subst hva; obtain ⟨k0, k1, l0, l1⟩ := HRES.out _ hb3; have HWN := Lib.hid hown3; have HOK := Lib.hid hok3; clear hown3 hz9 hok3)
  try simp only [Exit.inBlock, Exit.then]
  refine bodyPost_ret (v := .tuple #[.agg #[.int .i64 N, .slice va L.length vc], .bool B]) ?_ rfl ?_
  · rw [results_cell_tmp rfl]
    go_simp
  have h1 := HSZ.out
  have hch : Chg (w.heap.size + 2) (w.heap.size + 3) w3 ((w3.setCell ⟨w.heap.size + 2, 0, none⟩ (.int .i64 N)).setCell ⟨w.heap.size + 2, 1, none⟩ (.slice va L.length vc)) := ((Chg.refl _ _ _).setCell (by simp only; omega) (by simp only; omega) _).setCell (by simp only; omega) (by simp only; omega) _
  exact ⟨_, rfl, (InR.chg HWN.out hch (.inl (by omega))).wider (by omega) hch.size (Nat.le_refl _), HOK.out, bel_chg (bel_trans HBW.out hb3) hch (by omega)⟩

set_option maxRecDepth 20000 in
theorem cutMake (n : Int) (es : List Ed) (x y : Int) (s : Value) (w : World) (hs : RowE w s es) (hok : okS s) (hl : es.length ≤ 1048576) :
    Calls Try.prog 149 #[.agg #[.int .i64 x, .int .i64 y], .agg #[.int .i64 n, s]] w fun e w' => ∃ v, e = .returned (.tuple #[.agg #[.int .i64 (kN n es x y), v], .bool (kB n es x y)]) ∧ OwnE w w' v (kR n es x y) ∧ okS v ∧ Below w.heap.size w w' := by
  obtain ⟨ad, cap, rfl, hz0⟩ := id hs
  clear hz0
  obtain ⟨W, hW⟩ : ∃ W, W = (((w.alloc (.cells #[.int .i64 x, .int .i64 y] 104)).alloc (.cells #[.int .i64 n, .slice ad es.length cap] 34)).alloc (.cells #[.int .i64 0, .slice none 0 0] 34)) := ⟨_, rfl⟩
  have hbW : Below w.heap.size w W := by rw [hW]; exact (((Below.refl _ _).alloc (Nat.le_refl _) _).alloc (by simp) _).alloc (by simp; omega) _
  have hsz : W.heap.size = w.heap.size + 3 := by rw [hW]; simp
  have hp := cutEdge n es x y _ W (hs.keep hbW) hok hl
  have hres : ∀ w', Below W.heap.size W w' → w'.cell? ⟨w.heap.size + 2, 0, none⟩ = some (.int .i64 0) ∧ w'.cell? ⟨w.heap.size + 2, 1, none⟩ = some (.slice none 0 0) ∧ w'.frozen? ⟨w.heap.size + 2, 0, none⟩ = false ∧ w'.frozen? ⟨w.heap.size + 2, 1, none⟩ = false := fun w' h =>
    ⟨(h.cell (p := ⟨w.heap.size + 2, 0, none⟩) (by simp only; omega)).trans (by rw [hW]; go_simp), (h.cell (p := ⟨w.heap.size + 2, 1, none⟩) (by simp only; omega)).trans (by rw [hW]; go_simp), (h.frozen (p := ⟨w.heap.size + 2, 0, none⟩) (by simp only; omega)).trans (by rw [hW]; go_simp), (h.frozen (p := ⟨w.heap.size + 2, 1, none⟩) (by simp only; omega)).trans (by rw [hW]; go_simp)⟩
  generalize kN n es x y = N at hp ⊢
  generalize kB n es x y = B at hp ⊢
  generalize kR n es x y = L at hp ⊢
  have HP := Lib.hid hp
  have HRES := Lib.hid hres
  have HBW := Lib.hid hbW
  have HSZ := Lib.hid hsz
  have q0 : W.cell? ⟨w.heap.size + 1, 0, none⟩ = some (.int .i64 n) := by rw [hW]; go_simp
  have q1 : W.cell? ⟨w.heap.size + 1, 1, none⟩ = some (.slice ad es.length cap) := by rw [hW]; go_simp
  have q2 : W.cell? ⟨w.heap.size, 0, none⟩ = some (.int .i64 x) := by rw [hW]; go_simp
  have q3 : W.cell? ⟨w.heap.size, 1, none⟩ = some (.int .i64 y) := by rw [hW]; go_simp
  clear hp hres hbW hsz hs hok
  go_enter Try.func149, Try.ntmps149
  go_wp2_with fail
  rw [← hW]
  clear hW
  go_wp2_with (go_at_call 151; refine HP.out.mono ?_; rintro e w3 ⟨v3, rfl, hown3, hok3, hb3⟩; obtain ⟨va, vc, hva, hz9⟩ := id hown3; subst hva; obtain ⟨k0, k1, l0, l1⟩ := HRES.out _ hb3; have HWN := Lib.hid hown3; have HOK := Lib.hid hok3; clear hown3 hz9 hok3)
  try simp only [Exit.inBlock, Exit.then]
  refine bodyPost_ret (v := .tuple #[.agg #[.int .i64 N, .slice va L.length vc], .bool B]) ?_ rfl ?_
  · rw [results_cell_tmp rfl]
    go_simp
  have h1 := HSZ.out
  have hch : Chg (w.heap.size + 2) (w.heap.size + 3) w3 ((w3.setCell ⟨w.heap.size + 2, 0, none⟩ (.int .i64 N)).setCell ⟨w.heap.size + 2, 1, none⟩ (.slice va L.length vc)) := ((Chg.refl _ _ _).setCell (by simp only; omega) (by simp only; omega) _).setCell (by simp only; omega) (by simp only; omega) _
  exact ⟨_, rfl, (InR.chg HWN.out hch (.inl (by omega))).wider (by omega) hch.size (Nat.le_refl _), HOK.out, bel_chg (bel_trans HBW.out hb3) hch (by omega)⟩

/-- A step whose method is known: where the table leads, and what the call answers. -/
structure StepD (c : Ch) (T : TypeId) (rv : Value) (F : FuncId) : Prop where
  val : stepV c = .iface T rv
  run : ∀ w, (method 320 T rv "loop.example/graphviews/impl.makeInGraph").run Try.prog w = .ok (F, rv) w
  ahead : ∀ w, (nilAhead 320 T rv "loop.example/graphviews/impl.makeInGraph").run Try.prog w = .ok (some false) w
  enter : ∀ args w, (callFunc F args).run Try.prog w = .ok (.enter F args) w
  call : ∀ n es s w, RowE w s es → okS s → es.length ≤ 1048576 → Calls Try.prog F #[rv, .agg #[.int .i64 n, s]] w fun e w' => ∃ v, e = .returned (.tuple #[.agg #[.int .i64 (aN n es c), v], .bool (aB n es c)]) ∧ OwnE w w' v (aL n es c) ∧ okS v ∧ Below w.heap.size w w'
theorem stepD {c : Ch} (h : chOk c = true) : ∃ T rv F, StepD c T rv F := by
  obtain ⟨u, x, y, z⟩ := c
  cases u
  · refine ⟨_, _, 144, ⟨rfl, fun w => by kernel_rfl, fun w => by kernel_rfl, fun args w => by kernel_rfl, fun n es s w hs hok hl => ?_⟩⟩
    rw [a_put.1, a_put.2.1, a_put.2.2]
    exact putMake n es x y z s w hs hok hl
  · have hz : z = 0 := by simpa [chOk] using h
    subst hz
    refine ⟨_, _, 149, ⟨rfl, fun w => by kernel_rfl, fun w => by kernel_rfl, fun args w => by kernel_rfl, fun n es s w hs hok hl => ?_⟩⟩
    rw [a_cut.1, a_cut.2.1, a_cut.2.2]
    exact cutMake n es x y s w hs hok hl
end Go.Proofs.Ytbhhbhopogkmnaa
