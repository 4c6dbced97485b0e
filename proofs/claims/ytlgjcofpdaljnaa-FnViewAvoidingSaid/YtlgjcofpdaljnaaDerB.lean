/- The edges or the nodes for which a function holds (edgesWhere, nodesWhere); leaveOut; WithoutNodes. -/
import Derived.Test.YtlgjcofpdaljnaaDerA
import Derived.Test.YtlgjcofpdaljnaaNext
namespace Go.Proofs.Ytlgjcofpdaljnaa
open Go.RowKit Go.BigFrame Go.Deep
set_option linter.unusedVariables false
set_option linter.unusedSimpArgs false

/-- What is asked of a function of edges: in every world that has grown out of one it tells of each edge what it should, and writes into nothing. -/
def KeepsE (k : FuncId) (lb : Array Value) (p : Ed → Bool) (es : List Ed) (W : World) : Prop :=
  ∀ (w' : World) (x y z : Int), Below W.heap.size W w' → (x, y, z) ∈ es → Calls Try.prog k (#[.agg #[.int .i64 x, .int .i64 y, .int .i64 z]] ++ lb) w' fun e w'' => e = .returned (.bool (p (x, y, z))) ∧ Below w'.heap.size w' w''
/-- The same of a function of nodes. -/
def KeepsI (k : FuncId) (lb : Array Value) (p : Int → Bool) (N : Nat) (W : World) : Prop :=
  ∀ (w' : World) (i : Nat), Below W.heap.size W w' → i < N → Calls Try.prog k (#[.int .i64 i] ++ lb) w' fun e w'' => e = .returned (.bool (p (i : Int))) ∧ Below w'.heap.size w' w''

set_option maxRecDepth 20000 in
set_option maxHeartbeats 4000000 in
theorem edgesWhere (n : Int) (es : List Ed) (s : Value) (kf : FuncId) (lb : Array Value) (p : Ed → Bool) (w : World) (eg : ∀ args w, (callFunc kf args).run Try.prog w = .ok (.enter kf args) w) (hk : KeepsE kf lb p es w) (hs : RowE w s es) (hl : es.length ≤ 1048576) :
    Calls Try.prog 71 #[.agg #[.int .i64 n, s], .func (.func kf) #[] lb] w fun e w' => ∃ v, e = .returned (.agg #[.int .i64 n, v]) ∧ OwnE w w' v (es.filter p) ∧ okS v ∧ Below w.heap.size w w' := by
  obtain ⟨ad, cap, rfl, hz0⟩ := hs
  have hz := Lib.hid hz0
  obtain ⟨i0, hi, hz0', hz1, hz2⟩ := info_parts info_edge
  have HI : Hid (Try.prog.info? 67 = some i0 ∧ i0.zero = some (.agg #[.int .i64 0, .int .i64 0, .int .i64 0]) ∧ i0.size = 3 ∧ i0.bytes = 24) := Lib.hid ⟨hi, hz0', hz1, hz2⟩
  have HK := Lib.hid hk
  clear hz0 hi hz0' hz1 hz2 hk
  go_enter Try.func71, Try.ntmps71
  go_wp2
  go_loopw [14] (fun c wr => ∃ k : Nat, k ≤ es.length ∧ c = .int .i64 k ∧ Below w.heap.size w wr ∧ (∃ v, BoxG wr (w.heap.size + 1 + 1) 25 n v ∧ wr.ownsRow w.heap.size 67 3 v ((es.take k).filter p).length (cellsE ((es.take k).filter p))) ∧ BoxG wr (w.heap.size + 1) 25 0 (.slice none 0 0)) (fun c _ => es.length - (intOf c).toNat)
  case atStart => exact ⟨0, Nat.zero_le _, rfl, (((Below.refl _ _).alloc (Nat.le_refl _) _).alloc (by simp) _).alloc (by simp; omega) _, ⟨_, by have := BoxG.new ((w.alloc (Obj.cells #[.int .i64 n, .slice ad es.length cap] 25)).alloc (Obj.cells #[.int .i64 0, .slice none 0 0] 25)) 25 n (.slice none 0 0); simpa using this, World.ownsRow_nil _ _ _ _⟩, by have := (BoxG.new (w.alloc (Obj.cells #[.int .i64 n, .slice ad es.length cap] 25)) 25 0 (.slice none 0 0)).alloc (Obj.cells #[.int .i64 n, .slice none 0 0] 25); simpa using this⟩
  case round =>
    obtain ⟨k, hk, rfl, hbel, ⟨v, hbx, hown⟩, hbr⟩ := hrel
    have HX := Lib.hid hbx
    have HO := Lib.hid hown
    have HR := Lib.hid hbr
    have HL := Lib.hid hbel
    clear hbx hown hbr
    by_cases hlt : k < es.length
    · have hlt' : (k : Int) < es.length := by omega
      rcases hz.out with h0 | ⟨b0, off, rfl, hb, hc⟩
      · rw [h0] at hlt; simp at hlt
      obtain ⟨x, y, z, hx⟩ : ∃ x y z, (x, y, z) = es.getD k (0, 0, 0) := ⟨_, _, _, rfl⟩
      have h1 := hc k hlt
      rw [← hx] at h1
      simp only at h1
      have c0 := (hbel.cell (p := ⟨b0, off + k * 3, none⟩) hb).trans h1.1
      have c1 := (hbel.cell (p := ⟨b0, off + k * 3 + 1, none⟩) hb).trans h1.2.1
      have c2 := (hbel.cell (p := ⟨b0, off + k * 3 + 2, none⟩) hb).trans h1.2.2
      have hmem : (x, y, z) ∈ es := by rw [hx]; simp [List.getD, hlt]
      have hkk := fun w' h => HK.out w' x y z h hmem
      have ht := filter_takeE p es hlt
      rw [← hx] at ht
      have hln : ((es.take k).filter p).length ≤ k := Nat.le_trans (filter_lenE _ _) (by simp; omega)
      have hwr := hbel.size
      clear hc h1 hx hmem hbel
      obtain ⟨Bp, hBp⟩ : ∃ B, B = p (x, y, z) := ⟨_, rfl⟩
      rw [← hBp] at hkk ht
      have HKK := Lib.hid hkk
      have hb0 : Below wr.heap.size wr (wr.alloc (.cells #[.int .i64 x, .int .i64 y, .int .i64 z] 67)) := (Below.refl _ _).alloc (Nat.le_refl _) _
      have HB0 := Lib.hid hb0
      have HE := Lib.hid (Box.new wr 67 #[.int .i64 x, .int .i64 y, .int .i64 z])
      clear hkk hBp hb0
      cases Bp
      · rw [if_neg (by decide), List.append_nil] at ht
        have HT := Lib.hid ht
        clear ht
        go_wp2_with fail
        refine (HKK.out _ (bel_trans HL.out HB0.out)).mono ?_
        rintro e w1 ⟨rfl, hb1⟩
        have HB1 := Lib.hid (bel_trans HB0.out hb1)
        clear hb1
        go_wp2_with fail
        go_roundw
        case rel => first | exact ⟨k + 1, by omega, by go_num, bel_trans HL.out HB1.out, ⟨v, HX.out.keep HB1.out, by rw [HT.out]; exact own_keep3 HO.out HB1.out⟩, HR.out.keep HB1.out⟩ | ((repeat apply Exists.intro); exact ⟨⟨k + 1, by omega, by go_num, bel_trans HL.out HB1.out, ⟨v, HX.out.keep HB1.out, by rw [HT.out]; exact own_keep3 HO.out HB1.out⟩, HR.out.keep HB1.out⟩, rfl⟩)
        case measure => simp [intOf]; omega
      · rw [if_pos rfl] at ht
        have HT := Lib.hid ht
        clear ht
        obtain ⟨hi, hz0, hz1, hz2⟩ := HI.out
        go_wp2_with fail
        refine (HKK.out _ (bel_trans HL.out HB0.out)).mono ?_
        rintro e w1 ⟨rfl, hb1⟩
        have e0 : w1.cell? ⟨wr.heap.size, 0, none⟩ = some (.int .i64 x) := by simpa using (HE.out.keep hb1).cell 0
        have e1 : w1.cell? ⟨wr.heap.size, 1, none⟩ = some (.int .i64 y) := by simpa using (HE.out.keep hb1).cell 1
        have e2 : w1.cell? ⟨wr.heap.size, 2, none⟩ = some (.int .i64 z) := by simpa using (HE.out.keep hb1).cell 2
        have HB1 := Lib.hid (bel_trans HB0.out hb1)
        clear hb1
        obtain ⟨-, k1, -, k3, -⟩ := (HX.out.keep HB1.out).cells
        go_wp2_with (at_builtin; refine wpList_append_own _ rfl (.tmp 22) (.tmp 24) 23 rfl w.heap.size 67 i0 (.agg #[.int .i64 0, .int .i64 0, .int .i64 0]) 3 24 Try.underlying23 hi hz0 hz1 hz2 rfl (by decide) _ _ _ rfl ((own_keep3 HO.out HB1.out).alloc _) ⟨w1.heap.size, 0, none⟩ 1 1 [.int .i64 x, .int .i64 y, .int .i64 z] rfl rfl ?c1 ?c2 ?c3 ?c4 ?c5 ?_)
        case c1 => exact cells_new3 _ _ _ _ _
        case c2 => simp [Value.oneCell']
        case c3 => unfold maxLen; omega
        case c4 => omega
        case c5 => have := (bel_trans HL.out HB1.out).size; simp; omega
        intro v' w6 hown6 hgrow6 _
        obtain ⟨va, vc, rfl⟩ := own_slice hown6
        have HX6 : Hid (BoxG w6 (w.heap.size + 1 + 1) 25 n v) := Lib.hid (BoxG.grown ((HX.out.keep HB1.out).alloc _) hgrow6 ((own_keep3 HO.out HB1.out).alloc _) (by decide))
        have HR6 : Hid (BoxG w6 (w.heap.size + 1) 25 0 (.slice none 0 0)) := Lib.hid (BoxG.grown ((HR.out.keep HB1.out).alloc _) hgrow6 ((own_keep3 HO.out HB1.out).alloc _) (by decide))
        have HB6 : Hid (Below w.heap.size w w6) := Lib.hid (((bel_trans HL.out HB1.out).alloc (bel_trans HL.out HB1.out).size _).grown hgrow6 (by have := (bel_trans HL.out HB1.out).size; simp; omega) (fun q hq => ((own_keep3 HO.out HB1.out).lt q hq).1))
        have H6 := Lib.hid hown6
        obtain ⟨-, y1, -, y3, -⟩ := HX6.out.cells
        clear hown6 hgrow6 hi hz0 hz1 hz2 k1 k3
        go_wp2
        go_roundw
        case rel => first | exact ⟨k + 1, by omega, by go_num, HB6.out.setCell (by simp; omega) _, ⟨_, HX6.out.set _, own_more H6.out HT.out HX6.out (by decide) _⟩, HR6.out.setOther (by omega) 1 _⟩ | ((repeat apply Exists.intro); exact ⟨⟨k + 1, by omega, by go_num, HB6.out.setCell (by simp; omega) _, ⟨_, HX6.out.set _, own_more H6.out HT.out HX6.out (by decide) _⟩, HR6.out.setOther (by omega) 1 _⟩, rfl⟩)
        case measure => simp [intOf]; omega
    · have hke : k = es.length := by omega
      have hkk : ¬ ((k : Int) < es.length) := by omega
      have ht : es.take k = es := by rw [hke, List.take_length]
      rw [ht] at HO
      have HKE := Lib.hid hke
      clear hke ht
      obtain ⟨va, vc, rfl⟩ := own_slice HO.out
      obtain ⟨x0, x1, x2, x3, x4⟩ := HX.out.cells
      obtain ⟨r0, r1, r2, r3, r4⟩ := HR.out.cells
      go_wp2
      try simp only [Exit.inBlock, Exit.then]
      refine bodyPost_ret (v := .agg #[.int .i64 n, .slice va (es.filter p).length vc]) ?_ rfl ?_
      · rw [results_cell1 rfl]
        go_simp
      exact ⟨_, rfl, OwnE.of (own_setCell (HR.out.set0 n) (own_setCell HR.out HO.out (by decide)) (by decide)) (Nat.le_refl _), own_ok HO.out, (hbel.setCell (by simp) _).setCell (by simp) _⟩

set_option maxHeartbeats 4000000 in
theorem nodesWhere (N : Nat) (s : Value) (kf : FuncId) (lb : Array Value) (p : Int → Bool) (w : World) (eg : ∀ args w, (callFunc kf args).run Try.prog w = .ok (.enter kf args) w) (hk : KeepsI kf lb p N w) (hN : N ≤ 1048576) :
    Calls Try.prog 47 #[.agg #[.int .i64 N, s], .func (.func kf) #[] lb] w fun e w' => ∃ v, e = .returned v ∧ OwnI w w' v (nwL N p) ∧ Below w.heap.size w w' := by
  obtain ⟨i0, hi, hz0', hz1, hz2⟩ := info_parts info_int2
  have HI : Hid (Try.prog.info? 3 = some i0 ∧ i0.zero = some (.int .i64 0) ∧ i0.size = 1 ∧ i0.bytes = 8) := Lib.hid ⟨hi, hz0', hz1, hz2⟩
  have HK := Lib.hid hk
  clear hi hz0' hz1 hz2 hk
  go_enter Try.func47, Try.ntmps47
  go_wp2
  go_loopw [9, 5] (fun c v wr => ∃ k : Nat, k ≤ N ∧ c = .int .i64 k ∧ Below w.heap.size w wr ∧ wr.ownsRow w.heap.size 3 1 v (nwL k p).length ((nwL k p).map (Value.int .i64))) (fun c _ _ => N - (intOf c).toNat)
  case atStart => exact ⟨0, Nat.zero_le _, rfl, (Below.refl _ _).alloc (Nat.le_refl _) _, World.ownsRow_nil _ _ _ _⟩
  case round =>
    obtain ⟨k, hk, rfl, hbel, hown⟩ := hrel
    have HO := Lib.hid hown
    have HL := Lib.hid hbel
    clear hown
    by_cases hlt : k < N
    · have hlt' : (k : Int) < N := by omega
      have hkk := fun w' h => HK.out w' k h hlt
      have ht := nwL_succ k p
      have hln := nwL_len k p
      have hwr := hbel.size
      obtain ⟨Bp, hBp⟩ : ∃ B, B = p (k : Int) := ⟨_, rfl⟩
      rw [← hBp] at hkk ht
      have HKK := Lib.hid hkk
      clear hkk hBp hbel
      cases Bp
      · rw [if_neg (by decide), List.append_nil] at ht
        have HT := Lib.hid ht
        clear ht
        go_wp2_with fail
        refine (HKK.out _ HL.out).mono ?_
        rintro e w1 ⟨rfl, hb1⟩
        have HB1 := Lib.hid hb1
        clear hb1
        go_wp2_with fail
        go_roundw
        case rel => first | exact ⟨k + 1, by omega, by go_num, bel_trans HL.out HB1.out, by rw [HT.out]; exact own_keep HO.out HB1.out⟩ | ((repeat apply Exists.intro); exact ⟨⟨k + 1, by omega, by go_num, bel_trans HL.out HB1.out, by rw [HT.out]; exact own_keep HO.out HB1.out⟩, rfl⟩)
        case measure => simp [intOf]; omega
      · rw [if_pos rfl] at ht
        have HT := Lib.hid ht
        clear ht
        obtain ⟨hi, hz0, hz1, hz2⟩ := HI.out
        go_wp2_with fail
        refine (HKK.out _ HL.out).mono ?_
        rintro e w1 ⟨rfl, hb1⟩
        have HB1 := Lib.hid hb1
        clear hb1
        go_wp2_with (at_builtin; refine wpList_append_own _ rfl (.tmp 15) (.tmp 17) 26 rfl w.heap.size 3 i0 (.int .i64 0) 1 8 Try.underlying26 hi hz0 hz1 hz2 rfl (by decide) _ _ _ rfl ((own_keep HO.out HB1.out).alloc _) ⟨w1.heap.size, 0, none⟩ 1 1 [.int .i64 (k : Int)] rfl rfl ?c1 ?c2 ?c3 ?c4 ?c5 ?_)
        case c1 => exact fun j u hj => by simpa using cell_one_new w1 (.int .i64 (k : Int)) 3 j u hj
        case c2 => simp [Value.oneCell']
        case c3 => unfold maxLen; omega
        case c4 => omega
        case c5 => have := (bel_trans HL.out HB1.out).size; simp; omega
        intro v' w6 hown6 hgrow6 _
        have hown6' : w6.ownsRow w.heap.size 3 1 v' (nwL (k + 1) p).length ((nwL (k + 1) p).map (Value.int .i64)) := by rw [HT.out]; simpa using hown6
        have H7 := Lib.hid hown6'
        have H8 : Hid (Below w.heap.size w w6) := Lib.hid (((bel_trans HL.out HB1.out).alloc (bel_trans HL.out HB1.out).size _).grown hgrow6 (by have := (bel_trans HL.out HB1.out).size; simp; omega) (fun q hq => ((own_keep HO.out HB1.out).lt q hq).1))
        clear hown6 hown6' hgrow6 hi hz0 hz1 hz2
        go_wp2
        go_roundw
        case rel => first | exact ⟨k + 1, by omega, by go_num, H8.out, H7.out⟩ | ((repeat apply Exists.intro); exact ⟨⟨k + 1, by omega, by go_num, H8.out, H7.out⟩, rfl⟩)
        case measure => simp [intOf]; omega
    · have hke : k = N := by omega
      have hkk : ¬ ((k : Int) < N) := by omega
      rw [hke] at HO
      have HKE := Lib.hid hke
      clear hke
      go_wp2
      go_ret
      exact ⟨_, rfl, OwnI.of HO.out (by omega), hbel⟩

/-- The function that leaveOut hands over. -/
theorem keeps_leaveOut (es : List Ed) (ns : List Int) (s : Value) (B : Nat) (W : World) (hB : B < W.heap.size) (hc : W.cell? ⟨B, 0, none⟩ = some s) (hr : Row W s ns) (hl : ns.length ≤ 281474976710656) :
    KeepsE 94 #[.pointer (some ⟨B, 0, none⟩)] (woP ns) es W := by
  intro w' x y z hb hm
  have hh := fun (v : Int) w'' (h : Below W.heap.size W w'') => containsI ns v s w'' (hr.keep h) hl
  have hc1 : (w'.alloc (.cells #[.int .i64 x, .int .i64 y, .int .i64 z] 67)).cell? ⟨B, 0, none⟩ = some s := ((hb.alloc hb.size _).cell (p := ⟨B, 0, none⟩) hB).trans hc
  have h0 := hh x
  have h1 := hh y
  unfold woP
  rw [show decide ((x, y, z).1 ∈ ns) = inL ns x from rfl, show decide ((x, y, z).2.1 ∈ ns) = inL ns y from rfl]
  generalize inL ns x = P at h0 ⊢
  generalize inL ns y = Q at h1 ⊢
  have H0 := Lib.hid h0
  have H1 := Lib.hid h1
  have HB := Lib.hid hb
  have HCC := Lib.hid (And.intro hB hc)
  have HE := Lib.hid (Box.new w' 67 #[.int .i64 x, .int .i64 y, .int .i64 z])
  have hb0 : Below w'.heap.size w' (w'.alloc (.cells #[.int .i64 x, .int .i64 y, .int .i64 z] 67)) := (Below.refl _ _).alloc (Nat.le_refl _) _
  have HB0 := Lib.hid hb0
  clear h0 h1 hh hb0 hm hr hl hb hc hB
  show Calls _ _ #[.agg #[.int .i64 x, .int .i64 y, .int .i64 z], .pointer (some ⟨B, 0, none⟩)] _ _
  cases P
  · go_enter Try.func94, Try.ntmps94
    go_wp2_with (go_at_call 51; first | (with_reducible refine (H0.out _ (bel_trans HB.out HB0.out)).mono ?_; rintro e w1 ⟨rfl, hb1⟩; have HB1 := Lib.hid (bel_trans HB0.out hb1); have y1 : w1.cell? ⟨w'.heap.size, 1, none⟩ = some (.int .i64 y) := (by simpa using (HE.out.keep hb1).cell 1); have y2 : w1.cell? ⟨B, 0, none⟩ = some s := ((bel_trans HB.out HB1.out).cell (p := ⟨B, 0, none⟩) HCC.out.1).trans HCC.out.2; clear hb1) | (with_reducible refine (H1.out _ (bel_trans HB.out HB1.out)).mono ?_; rintro e w2 ⟨rfl, hb2⟩))
    go_ret
    exact ⟨rfl, bel_trans HB1.out hb2⟩
  · go_enter Try.func94, Try.ntmps94
    go_wp2_with (go_at_call 51; (with_reducible refine (H0.out _ (bel_trans HB.out HB0.out)).mono ?_); rintro e w1 ⟨rfl, hb1⟩)
    go_ret
    exact ⟨rfl, bel_trans HB0.out hb1⟩
end Go.Proofs.Ytlgjcofpdaljnaa
