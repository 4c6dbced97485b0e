/- Settling nodes, in the model. Settling nodes, in the model: memory, and all of it. BestFirst and StopAt, in the model. Settling nodes, the best one first: what comes out (mathematics). -/
import Derived.Test.YtbhhbhopogkmnaaBestI
import Derived.Test.YtbhhbhopogkmnaaVStartT
import Derived.Test.YtbhhbhopogkmnaaSpec
import Derived.Test.YtbhhbhopogkmnaaRelaxJ
import Derived.Test.YtbhhbhopogkmnaaEndV
namespace Go.Proofs.Ytbhhbhopogkmnaa
open Go.RowKit Go.BigFrame Go.Deep
set_option linter.unusedVariables false
set_option linter.unusedSimpArgs false

theorem row_atT {w : World} {s : Value} {zs : List Int} (h : Row w s zs) {i : Nat} (hi : i < zs.length) : ∃ b off cap, s = .slice (some ⟨b, off, none⟩) zs.length cap ∧ b < w.heap.size ∧ ∀ j, j < zs.length → w.cell? ⟨b, off + j, none⟩ = some (.int .i64 (zs.getD j 0)) := by
  obtain ⟨a, cap, rfl, h⟩ := h
  rcases h with h | ⟨b, off, rfl, hb, hc⟩
  · rw [h] at hi; simp at hi
  · exact ⟨b, off, cap, rfl, hb, hc⟩

set_option maxRecDepth 20000 in
set_option maxHeartbeats 8000000 in
theorem l4Next {m : Int} (hm : mKind m = true) {N S cs : Nat} {vals : List Int} {done : List Bool} {v : Value} {w : World} (hv : Row w v vals) (hd : BR w S done) (hvl : vals.length = N) (hdl : done.length = N) (hN : N ≤ 1048576) :
    Calls Try.prog 104 #[.int .i64 m, v, .slice (some ⟨S, 0, none⟩) N cs] w fun e w' => e = .returned (.int .i64 (nxF m vals done)) ∧ Below w.heap.size w w' := by
  obtain ⟨va, vc, rfl, hz⟩ := id hv
  clear hz
  rw [hvl]
  have HV := Lib.hid hv
  have HD := Lib.hid hd
  have HL := Lib.hid (And.intro hvl hdl)
  have hno := fun w' => calls_below (sNone hm w')
  have HNO := Lib.hid hno
  have hbt := fun a b w' => calls_below (sBet hm a b w')
  have HBT := Lib.hid hbt
  clear hv hd hno hbt hvl hdl
  go_enter Try.func104, Try.ntmps104
  go_wp2
  go_loopw [7, 8] (fun b c wr => ∃ k : Nat, k ≤ N ∧ c = .int .i64 k ∧ b = .int .i64 (nxK m vals done k) ∧ Hid (Below w.heap.size w wr)) (fun _ c _ => N - (intOf c).toNat)
  case atStart => exact ⟨0, Nat.zero_le _, rfl, rfl, Lib.hid (Below.refl _ _)⟩
  case round =>
    obtain ⟨k, hk, rfl, rfl, HB⟩ := hrel
    by_cases hlt : k < N
    · have hlt' : (k : Int) < N := by omega
      have hlv : k < vals.length := by rw [HL.out.1]; exact hlt
      obtain ⟨vb, vo, vc2, hve, hvb, hvc⟩ := row_atT HV.out hlv
      rw [HL.out.1] at hve
      injection hve with hva _ hvc2
      subst hva hvc2
      obtain ⟨D, hD⟩ : ∃ D, D = done.getD k true := ⟨_, rfl⟩
      obtain ⟨Z, hZ⟩ : ∃ Z, Z = vals.getD k 0 := ⟨_, rfl⟩
      have h1 := hvc k hlv
      have h2 := (HD.out.cell (i := k) (by rw [HL.out.2]; exact hlt)).1
      rw [← hZ] at h1
      rw [← hD] at h2
      have hns : nxK m vals done (k + 1) = if okN m vals done k = true then (if (decide (nxK m vals done k < 0) || mBet m (vals.getD k 0) (vals.getD (nxK m vals done k).toNat 0)) = true then (k : Int) else nxK m vals done k) else nxK m vals done k := rfl
      have hok : okN m vals done k = (!D && !(decide (Z = mNone m))) := by unfold okN; rw [hD, hZ]
      rw [hok, ← hZ] at hns
      have hsp := nxK_spec hm vals done k
      obtain ⟨b, hb⟩ : ∃ b, b = nxK m vals done k := ⟨_, rfl⟩
      rw [← hb] at hns hsp ⊢
      have HBB := Lib.hid hb
      have HDD := Lib.hid (And.intro hD hZ)
      clear hb hok hD hZ
      have fx : ∀ w', Below w.heap.size w w' → w'.cell? ⟨vb, vo + k, none⟩ = some (.int .i64 Z) ∧ w'.cell? ⟨S, k, none⟩ = some (.bool D) := fun w' h => ⟨(h.cell (p := ⟨vb, _, none⟩) hvb).trans h1, (h.cell (p := ⟨S, _, none⟩) HD.out.lt).trans h2⟩
      have FX := Lib.hid fx
      have HVC := Lib.hid hvc
      clear fx h1 h2 hvc
      cases D
      rotate_left
      · rw [show (!true && !(decide (Z = mNone m))) = false by simp, if_neg (by decide)] at hns
        have HNS := Lib.hid hns
        clear hns hsp
        go_wp2_with fail
        refine wp_region_below (by kernel_rfl) (by kernel_rfl) ?_
        repeat (go_big_quiet_step ((intro hw; first | with_reducible rfl | (obtain ⟨f0, f1⟩ := FX.out _ (bel_trans HB.out hw); simp only [f0, f1, Result.andThen]; first | exact ⟨trivial, rfl⟩ | exact ⟨rfl, rfl⟩) | (go_at_call 89; exact quietB (HNO.out _) hw))))
        refine wpQuiet_nil ?_
        intro wa hwa
        have Kwa := Lib.hid (bel_trans HB.out hwa)
        clear hwa
        go_wp2
        go_roundw
        case rel => first | exact ⟨k + 1, by omega, by go_num, by rw [HNS.out], Kwa⟩ | ((repeat apply Exists.intro); exact ⟨⟨k + 1, by omega, by go_num, by rw [HNS.out], Kwa⟩, rfl⟩)
        case measure => simp [intOf]; omega
      by_cases hzn : Z = mNone m
      · have d1 : (Z == mNone m) = true := by simpa using hzn
        rw [show (!false && !(decide (Z = mNone m))) = false by rw [decide_eq_true hzn]; rfl, if_neg (by decide)] at hns
        have HNS := Lib.hid hns
        have HZN := Lib.hid hzn
        clear hns hsp hzn
        go_wp2_with fail
        refine wp_region_below (by kernel_rfl) (by kernel_rfl) ?_
        repeat (go_big_quiet_step ((intro hw; first | with_reducible rfl | (obtain ⟨f0, f1⟩ := FX.out _ (bel_trans HB.out hw); simp only [f0, f1, Result.andThen]; first | exact ⟨trivial, rfl⟩ | exact ⟨rfl, rfl⟩) | (go_at_call 89; exact quietB (HNO.out _) hw))))
        refine wpQuiet_nil ?_
        intro wa hwa
        have Kwa := Lib.hid (bel_trans HB.out hwa)
        clear hwa
        go_wp2
        go_roundw
        case rel => first | exact ⟨k + 1, by omega, by go_num, by rw [HNS.out], Kwa⟩ | ((repeat apply Exists.intro); exact ⟨⟨k + 1, by omega, by go_num, by rw [HNS.out], Kwa⟩, rfl⟩)
        case measure => simp [intOf]; omega
      have d1 : (Z == mNone m) = false := by simpa using hzn
      rw [show (!false && !(decide (Z = mNone m))) = true by rw [decide_eq_false hzn]; rfl, if_pos rfl] at hns
      have HZN := Lib.hid hzn
      clear hzn
      rcases hsp with ⟨hb1, -⟩ | ⟨j, hbj, hj1, hj2, -⟩
      · have d2 : decide (b < 0) = true := decide_eq_true (by omega)
        rw [d2, Bool.true_or, if_pos rfl] at hns
        have HNS := Lib.hid hns
        have HB1 := Lib.hid hb1
        clear hns hb1
        go_wp2_with fail
        refine wp_region_below (by kernel_rfl) (by kernel_rfl) ?_
        repeat (go_big_quiet_step ((intro hw; first | with_reducible rfl | (obtain ⟨f0, f1⟩ := FX.out _ (bel_trans HB.out hw); simp only [f0, f1, Result.andThen]; first | exact ⟨trivial, rfl⟩ | exact ⟨rfl, rfl⟩) | (go_at_call 89; exact quietB (HNO.out _) hw))))
        refine wpQuiet_nil ?_
        intro wa hwa
        have Kwa := Lib.hid (bel_trans HB.out hwa)
        clear hwa
        go_wp2_with fail
        refine wp_region_below (by kernel_rfl) (by kernel_rfl) ?_
        repeat (go_big_quiet_step ((intro hw; first | with_reducible rfl | (obtain ⟨f0, f1⟩ := FX.out _ (bel_trans Kwa.out hw); simp only [f0, f1, Result.andThen]; first | exact ⟨trivial, rfl⟩ | exact ⟨rfl, rfl⟩) | (go_at_call 105; exact quietB (HBT.out _ _ _) hw))))
        refine wpQuiet_nil ?_
        intro wb hwb
        have Kwb := Lib.hid (bel_trans Kwa.out hwb)
        clear hwb
        go_wp2
        go_roundw
        case rel => first | exact ⟨k + 1, by omega, by go_num, by rw [HNS.out], Kwb⟩ | ((repeat apply Exists.intro); exact ⟨⟨k + 1, by omega, by go_num, by rw [HNS.out], Kwb⟩, rfl⟩)
        case measure => simp [intOf]; omega
      · subst hbj
        have d2 : decide ((j : Int) < 0) = false := decide_eq_false (by omega)
        rw [d2, Bool.false_or, Int.toNat_natCast] at hns
        obtain ⟨Y, hY⟩ : ∃ Y, Y = vals.getD j 0 := ⟨_, rfl⟩
        rw [← hY] at hns
        have hcj := HVC.out j (by rw [HL.out.1]; omega)
        rw [← hY] at hcj
        have hj' : (j : Int) < N := by omega
        have fj : ∀ w', Below w.heap.size w w' → w'.cell? ⟨vb, vo + j, none⟩ = some (.int .i64 Y) := fun w' h => (h.cell (p := ⟨vb, _, none⟩) hvb).trans hcj
        have FJ := Lib.hid fj
        have hbt2 := fun w' => HBT.out Z Y w'
        obtain ⟨Bt, hBt⟩ : ∃ Bt, Bt = mBet m Z Y := ⟨_, rfl⟩
        rw [← hBt] at hns hbt2
        have HBT := Lib.hid (fun (a b : Int) w' => hbt2 w')
        have HY := Lib.hid (And.intro hY hBt)
        clear fj hcj hY hBt hbt2
        cases Bt
        · rw [if_neg (by decide)] at hns
          have HNS := Lib.hid hns
          clear hns
          go_wp2_with fail
          refine wp_region_below (by kernel_rfl) (by kernel_rfl) ?_
          repeat (go_big_quiet_step ((intro hw; first | with_reducible rfl | (obtain ⟨f0, f1⟩ := FX.out _ (bel_trans HB.out hw); simp only [f0, f1, Result.andThen]; first | exact ⟨trivial, rfl⟩ | exact ⟨rfl, rfl⟩) | (go_at_call 89; exact quietB (HNO.out _) hw))))
          refine wpQuiet_nil ?_
          intro wa hwa
          have Kwa := Lib.hid (bel_trans HB.out hwa)
          clear hwa
          go_wp2_with fail
          refine wp_region_below (by kernel_rfl) (by kernel_rfl) ?_
          repeat (go_big_quiet_step ((intro hw; first | with_reducible rfl | (obtain ⟨f0, f1⟩ := FX.out _ (bel_trans Kwa.out hw); have f2 := FJ.out _ (bel_trans Kwa.out hw); simp only [f0, f1, f2, Result.andThen]; first | exact ⟨trivial, rfl⟩ | exact ⟨rfl, rfl⟩) | (go_at_call 105; exact quietB (HBT.out 0 0 _) hw))))
          refine wpQuiet_nil ?_
          intro wb hwb
          have Kwb := Lib.hid (bel_trans Kwa.out hwb)
          clear hwb
          go_wp2
          go_roundw
          case rel => first | exact ⟨k + 1, by omega, by go_num, by rw [HNS.out], Kwb⟩ | ((repeat apply Exists.intro); exact ⟨⟨k + 1, by omega, by go_num, by rw [HNS.out], Kwb⟩, rfl⟩)
          case measure => simp [intOf]; omega
        · rw [if_pos rfl] at hns
          have HNS := Lib.hid hns
          clear hns
          go_wp2_with fail
          refine wp_region_below (by kernel_rfl) (by kernel_rfl) ?_
          repeat (go_big_quiet_step ((intro hw; first | with_reducible rfl | (obtain ⟨f0, f1⟩ := FX.out _ (bel_trans HB.out hw); simp only [f0, f1, Result.andThen]; first | exact ⟨trivial, rfl⟩ | exact ⟨rfl, rfl⟩) | (go_at_call 89; exact quietB (HNO.out _) hw))))
          refine wpQuiet_nil ?_
          intro wa hwa
          have Kwa := Lib.hid (bel_trans HB.out hwa)
          clear hwa
          go_wp2_with fail
          refine wp_region_below (by kernel_rfl) (by kernel_rfl) ?_
          repeat (go_big_quiet_step ((intro hw; first | with_reducible rfl | (obtain ⟨f0, f1⟩ := FX.out _ (bel_trans Kwa.out hw); have f2 := FJ.out _ (bel_trans Kwa.out hw); simp only [f0, f1, f2, Result.andThen]; first | exact ⟨trivial, rfl⟩ | exact ⟨rfl, rfl⟩) | (go_at_call 105; exact quietB (HBT.out 0 0 _) hw))))
          refine wpQuiet_nil ?_
          intro wb hwb
          have Kwb := Lib.hid (bel_trans Kwa.out hwb)
          clear hwb
          go_wp2
          go_roundw
          case rel => first | exact ⟨k + 1, by omega, by go_num, by rw [HNS.out], Kwb⟩ | ((repeat apply Exists.intro); exact ⟨⟨k + 1, by omega, by go_num, by rw [HNS.out], Kwb⟩, rfl⟩)
          case measure => simp [intOf]; omega
    · have hkk : ¬ ((k : Int) < N) := by omega
      have hke : k = N := by omega
      have HKE := Lib.hid hke
      clear hke
      go_wp2
      go_ret
      have hfin : nxK m vals done k = nxF m vals done := by unfold nxF; rw [HL.out.1, HKE.out]
      exact ⟨congrArg (fun z => Ending.returned (Value.int .i64 z)) hfin, HB.out⟩
end Go.Proofs.Ytbhhbhopogkmnaa
namespace Go.Proofs.Ytbhhbhopogkmnaa
open Go.RowKit Go.BigFrame Go.Deep
set_option linter.unusedVariables false
set_option linter.unusedSimpArgs false

/-- append to an empty slice without room lies in new memory. -/
theorem append_zero {P : Program} {w : World} (lo : Nat) (t ty e : TypeId) (i : TypeInfo) (z : Value) (size bytes : Nat) (ht : P.underlying t = some (.slice e)) (hi : P.info? e = some i) (hz : i.zero = some z)
    (hsize : i.size = size) (hby : i.bytes = bytes) (hzs : z.cells.size = size) (hsz : 0 < size) (b : Addr)
    (a : Addr) (m c : Nat) (news : List Value) (hl : news.length = m * size) (hnews : ∀ j u, news[j]? = some u → w.cell? (a.add j) = some u) (h1 : ∀ u ∈ news, u.oneCell' = true)
    (h63 : m ≤ 1000000) (hbytes : bytes ≤ 1000000) (hlo : lo ≤ w.heap.size) (hm : 0 < m) :
    ∃ v' w', (Builtin.append_ #[t, t] ty #[.slice (some b) 0 0, .slice (some a) m c]).run P w = .ok v' w' ∧ w'.ownsRow lo e size v' m news ∧ w.grownBy w' none := by
  have hmb : m * bytes ≤ 1000000 * 1000000 := Nat.mul_le_mul h63 hbytes
  obtain ⟨v', w', hr, h2, h3, _⟩ := run_append_own (P := P) w lo t ty e i z size bytes ht hi hz hsize hby hzs hsz (.slice none 0 0) 0 [] (World.ownsRow_nil w lo e size) a m c news hl hnews h1 (by unfold maxLen; omega) (by rw [Nat.zero_add]; omega) hlo
  refine ⟨v', w', ?_, by simpa using h2, h3⟩
  have h4 := run_append_nil (P := P) w t ty e i z ht hi hz a m c news (by rw [hsize]; exact hl) hnews hm (by omega) (by rw [hby]; omega)
  have h5 := run_append_grow (P := P) w t ty e i z ht hi hz b 0 0 [] (by simp) (by simp) a m c news (by rw [hsize]; exact hl) hnews (by omega) (by omega) (by rw [hby]; exact growslice_fits (by omega) (by rw [Nat.zero_add]; omega))
  rw [h5, ← hr, h4]
  simp
/-- A slice of the call's own, or an empty one without room. -/
def OrdS (w : World) (lo : Nat) (v : Value) (xs : List Int) : Prop := (xs = [] ∧ ∃ b, v = .slice (some b) 0 0) ∨ w.ownsRow lo 3 1 v xs.length (xs.map (Value.int .i64))
theorem OrdS.slice {w : World} {lo : Nat} {v : Value} {xs : List Int} (h : OrdS w lo v xs) : ∃ a c, v = .slice a xs.length c := by
  rcases h with ⟨rfl, b, rfl⟩ | h
  · exact ⟨_, _, rfl⟩
  · exact own_slice h
theorem OrdS.keep {w w' : World} {lo : Nat} {v : Value} {xs : List Int} (h : OrdS w lo v xs) (k : Below w.heap.size w w') : OrdS w' lo v xs := h.imp id (fun h => own_keep h k)
theorem OrdS.set {w : World} {lo X i : Nat} {v u : Value} {xs : List Int} (h : OrdS w lo v xs) (hX : X < lo) : OrdS (w.setCell ⟨X, i, none⟩ u) lo v xs := h.imp id (fun h => own_set_ne h (own_ne_lo h hX))
theorem wpList_append_ord {P : Program} {w : World} {ops : Array Oper} {rest : List Oper} {o : Oper} {a : Act} {Q : Exit → Act → World → Prop} (hgd : o.guard = none) (s x : Operand) (t : TypeId)
    (ho : o.op = .call { callee := .builtin .append, args := #[s, x], argTypes := #[t, t] })
    (lo : Nat) (i : TypeInfo) (ht : P.underlying t = some (.slice 3)) (hi : P.info? 3 = some i) (hz : i.zero = some (.int .i64 0)) (hsize : i.size = 1) (hby : i.bytes = 8)
    (v : Value) (xs : List Int) (hs : a.eval s = v) (hown : OrdS w lo v xs) (ad : Addr) (c : Nat) (y : Int) (hx : a.eval x = .slice (some ad) 1 c) (hnews : ∀ j u, [Value.int .i64 y][j]? = some u → w.cell? (ad.add j) = some u)
    (h63 : xs.length ≤ 1000000) (hlo : lo ≤ w.heap.size)
    (h : ∀ v' w', w'.ownsRow lo 3 1 v' (xs ++ [y]).length ((xs ++ [y]).map (Value.int .i64)) → (∃ row, w.grownBy w' row ∧ ∀ k, row = some k → lo ≤ k) → wpList P ops Q rest (a.put o.dst v') w') : wpList P ops Q (o :: rest) a w := by
  rcases hown with ⟨rfl, b, rfl⟩ | hown
  · refine wpList_plain hgd fun _ hK => ?_
    obtain ⟨v', w', hr, h2, h3⟩ := append_zero (P := P) lo t o.type 3 i (.int .i64 0) 1 8 ht hi hz hsize hby rfl (by decide) b ad 1 c [.int .i64 y] rfl hnews (by simp [Value.oneCell']) (by omega) (by omega) hlo (by decide)
    unfold Oper.wp execOp
    simp only [ho, resolve, invoke, builtin, Sem.run_bind, Sem.run_pure, Result.andThen_ok, List.map_toArray, List.map_cons, List.map_nil, hs, hx, hr]
    exact hK _ _ (h v' w' (by simpa using h2) ⟨none, h3, fun k hk => by cases hk⟩)
  · refine wpList_append_own w hgd s x t ho lo 3 i (.int .i64 0) 1 8 ht hi hz hsize hby rfl (by decide) v xs.length _ hs hown ad 1 c [.int .i64 y] hx rfl hnews (by simp [Value.oneCell']) (by unfold maxLen; omega) (by omega) hlo (fun v' w' h2 h3 _ => h v' w' (by simpa using h2) ⟨_, h3, fun k hk => (hown.lt k hk).1⟩)

/-- What the model has reached, in memory. -/
structure SpI (W0 : World) (OB S : Nat) (m : Int) (N : Nat) (st : St) (Pb pc Vb Vo vc lb lo : Nat) (w : World) (ov : Value) : Prop where
  box : Box w OB 85 #[ov, .slice (some ⟨Pb, 0, none⟩) N pc, .slice (some ⟨Vb, Vo, none⟩) N vc, .int .i64 st.looks]
  ord : OrdS w lo ov st.ord
  par : IR w Pb st.par
  vals : Wr w Vb Vo st.vals
  done : BR w S st.done
  hlo : Pb < lo ∧ Vb < lo ∧ OB < lo ∧ S < lo ∧ lo ≤ w.heap.size
  hlb : Vb < lb ∧ lb ≤ Pb ∧ lb ≤ OB ∧ lb ≤ S
  hb : W0.heap.size ≤ Vb
  bel : Below W0.heap.size W0 w
  ok : StOk m N st
section
variable {W0 : World} {OB S : Nat} {m : Int} {N : Nat} {st : St} {Pb pc Vb Vo vc lb lo : Nat} {w w' : World} {ov : Value}
theorem Wr.setOther {w : World} {b off X i : Nat} {zs : List Int} {u : Value} (h : Wr w b off zs) (hne : b ≠ X) : Wr (w.setCell ⟨X, i, none⟩ u) b off zs := by
  have c : Chg X (X + 1) w (w.setCell ⟨X, i, none⟩ u) := (Chg.refl _ _ _).setCell (by simp) (by simp) _
  have d : b < X ∨ X + 1 ≤ b := by omega
  exact ⟨Nat.lt_of_lt_of_le h.1 c.size, fun i hi => ⟨(c.cell (p := ⟨b, _, none⟩) h.1 d).trans (h.2 i hi).1, (c.frozen (p := ⟨b, _, none⟩) h.1 d).trans (h.2 i hi).2⟩⟩
theorem SpI.keep (h : SpI W0 OB S m N st Pb pc Vb Vo vc lb lo w ov) (b : Below w.heap.size w w') : SpI W0 OB S m N st Pb pc Vb Vo vc lb lo w' ov :=
  ⟨h.box.keep b, h.ord.keep b, h.par.keep b, h.vals.keep b, h.done.keep b, ⟨h.hlo.1, h.hlo.2.1, h.hlo.2.2.1, h.hlo.2.2.2.1, Nat.le_trans h.hlo.2.2.2.2 b.size⟩, h.hlb, h.hb, bel_trans h.bel b, h.ok⟩
theorem SpI.tick (h : SpI W0 OB S m N st Pb pc Vb Vo vc lb lo w ov) : SpI W0 OB S m N (stTick st) Pb pc Vb Vo vc lb lo (w.setCell ⟨OB, 3, none⟩ (.int .i64 (st.looks + 1))) ov := by
  have nP := h.par.ne h.box (by decide)
  have nS := h.done.ne h.box (by decide)
  refine ⟨h.box.set 3 _, h.ord.set h.hlo.2.2.1, h.par.other (fun e => nP e.symm), h.vals.setOther (by have := h.hlb; omega), h.done.other (fun e => nS e.symm), by simpa using h.hlo, h.hlb, h.hb, h.bel.setCell (by have := h.hlb; have := h.hb; simp only; omega) _, stTick_ok h.ok⟩
theorem SpI.take (h : SpI W0 OB S m N st Pb pc Vb Vo vc lb lo w ov) {i : Nat} (hi : i < N) (x p : Int) (hx : mIn m x = true) : SpI W0 OB S m N { st with vals := st.vals.set i x, par := st.par.set i p } Pb pc Vb Vo vc lb lo ((w.setCell ⟨Vb, Vo + i, none⟩ (.int .i64 x)).setCell ⟨Pb, i, none⟩ (.int .i64 p)) ov := by
  have nP := h.par.ne h.box (by decide)
  have hl := h.hlb
  have hlo := h.hlo
  have nVP : Vb ≠ Pb := by omega
  refine ⟨(h.box.setOther (by omega) _ _).setOther nP _ _, (h.ord.set hlo.2.1).set hlo.1, (h.par.other (by omega)).set (by rw [h.ok.par]; exact hi) p, (h.vals.set (by rw [h.ok.vals]; exact hi) x).setOther nVP, (h.done.other (by omega)).other (fun e => h.par.neB h.done e.symm), by simpa using h.hlo, h.hlb, h.hb, (h.bel.setCell h.hb _).setCell (by have := h.hb; simp only; omega) _, ⟨by simp [h.ok.par], by simp [h.ok.vals], h.ok.done, ?_⟩⟩
  intro j hj
  simp only [List.length_set] at hj
  rw [getD_set _ _ _ _ hj]
  split
  · exact hx
  · exact h.ok.all j hj
theorem SpI.settle (h : SpI W0 OB S m N st Pb pc Vb Vo vc lb lo w ov) {i : Nat} (hi : i < N) : SpI W0 OB S m N { st with done := st.done.set i true } Pb pc Vb Vo vc lb lo (w.setCell ⟨S, i, none⟩ (.bool true)) ov := by
  have nS := h.done.ne h.box (by decide)
  have hl := h.hlb
  refine ⟨h.box.setOther nS _ _, h.ord.set h.hlo.2.2.2.1, h.par.other (h.par.neB h.done), h.vals.setOther (by omega), h.done.set (by rw [h.ok.done]; exact hi), by simpa using h.hlo, h.hlb, h.hb, h.bel.setCell (by have := h.hb; simp only; omega) _, ⟨h.ok.par, h.ok.vals, by simp [h.ok.done], h.ok.all⟩⟩
theorem SpI.order {w6 : World} {v' : Value} {x : Int} (h : SpI W0 OB S m N st Pb pc Vb Vo vc lb lo w ov) (hg : ∃ row, w.grownBy w6 row ∧ ∀ k, row = some k → lo ≤ k) (ho : w6.ownsRow lo 3 1 v' (st.ord ++ [x]).length ((st.ord ++ [x]).map (Value.int .i64))) :
    SpI W0 OB S m N { st with ord := st.ord ++ [x] } Pb pc Vb Vo vc lb lo (w6.setCell ⟨OB, 0, none⟩ v') v' := by
  obtain ⟨row, hg, hr⟩ := hg
  have hl := h.hlb
  have hlo := h.hlo
  have hblk : ∀ k, k < lo → w6.heap[k]? = w.heap[k]? := fun k hk => hg.block k (by omega) (fun e => by have := hr k e.symm; omega)
  have hbx : Box w6 OB 85 #[ov, .slice (some ⟨Pb, 0, none⟩) N pc, .slice (some ⟨Vb, Vo, none⟩) N vc, .int .i64 st.looks] := (hblk OB hlo.2.2.1).trans h.box
  have hbel : Below lo w w6 := ⟨hg.os, hg.tape, hg.output, hg.size, fun k hk => hblk k hk⟩
  have hP : IR w6 Pb st.par := by
    obtain ⟨cur, h1, h2⟩ := h.par
    exact ⟨cur, (hblk Pb hlo.1).trans h1, h2⟩
  have hS : BR w6 S st.done := by
    obtain ⟨cur, h1, h2⟩ := h.done
    exact ⟨cur, (hblk S hlo.2.2.2.1).trans h1, h2⟩
  have hV : Wr w6 Vb Vo st.vals := ⟨Nat.lt_of_lt_of_le h.vals.1 hg.size, fun i hi => ⟨(hbel.cell (p := ⟨Vb, _, none⟩) hlo.2.1).trans (h.vals.2 i hi).1, (hbel.frozen (p := ⟨Vb, _, none⟩) hlo.2.1).trans (h.vals.2 i hi).2⟩⟩
  have nP := hP.ne hbx (by decide)
  have nS := hS.ne hbx (by decide)
  have hsz := hg.size
  refine ⟨hbx.set 0 _, (OrdS.set (.inr ho) hlo.2.2.1), hP.other (fun e => nP e.symm), hV.setOther (by omega), hS.other (fun e => nS e.symm), by simp; omega, h.hlb, h.hb, (h.bel.trans (hbel.mono (by have := h.hb; omega))).setCell (by have := h.hb; simp only; omega) _, ⟨h.ok.par, h.ok.vals, h.ok.done, h.ok.all⟩⟩
end
/-- The parents as they are laid out. -/
structure FilI (W0 : World) (OB S N : Nat) (Vb Vo vc lP : Nat) (vals : List Int) (ordv : Value) (k : Nat) (w : World) (pv : Value) : Prop where
  box : Box w OB 85 #[ordv, pv, .slice (some ⟨Vb, Vo, none⟩) N vc, .int .i64 0]
  own : w.ownsRow lP 3 1 pv k (List.replicate k (.int .i64 (-1)))
  vals : Wr w Vb Vo vals
  done : BR w S (List.replicate N false)
  bel : Below W0.heap.size W0 w
  hlo : lP ≤ w.heap.size
  hb : W0.heap.size ≤ Vb ∧ W0.heap.size ≤ OB ∧ Vb < lP ∧ OB < lP ∧ S < lP ∧ Vb ≠ OB ∧ S ≠ OB
section
variable {W0 : World} {OB S N : Nat} {Vb Vo vc lP : Nat} {vals : List Int} {ordv : Value} {k : Nat} {w : World} {pv : Value}
theorem FilI.app (h : FilI W0 OB S N Vb Vo vc lP vals ordv k w pv) {A : Obj} {w6 : World} {v' : Value} (hg : (w.alloc A).grownBy w6 pv.ownBlock) (ho : w6.ownsRow lP 3 1 v' (k + 1) (List.replicate (k + 1) (.int .i64 (-1)))) :
    FilI W0 OB S N Vb Vo vc lP vals ordv (k + 1) (w6.setCell ⟨OB, 1, none⟩ v') v' := by
  have hb0 : Below w.heap.size w (w.alloc A) := (Below.refl _ _).alloc (Nat.le_refl _) _
  obtain ⟨b1, b2, b3, b4, b5, b6, b7⟩ := h.hb
  have hlo := h.hlo
  have hblk : ∀ j, j < lP → w6.heap[j]? = w.heap[j]? := fun j hj => (hg.block j (by simp; omega) (fun e => by have := (h.own.lt j e.symm).1; omega)).trans (hb0.block j (by omega))
  have hsz : w.heap.size + 1 ≤ w6.heap.size := by have := hg.size; simpa using this
  have hbel : Below lP w w6 := ⟨hg.os.trans hb0.os, hg.tape.trans hb0.tape, hg.output.trans hb0.output, by omega, fun j hj => hblk j hj⟩
  have hbx : Box w6 OB 85 #[ordv, pv, .slice (some ⟨Vb, Vo, none⟩) N vc, .int .i64 0] := (hblk OB b4).trans h.box
  have hS : BR w6 S (List.replicate N false) := by
    obtain ⟨cur, h1, h2⟩ := h.done
    exact ⟨cur, (hblk S b5).trans h1, h2⟩
  have hV : Wr w6 Vb Vo vals := ⟨by have := h.vals.1; omega, fun i hi => ⟨(hbel.cell (p := ⟨Vb, _, none⟩) b3).trans (h.vals.2 i hi).1, (hbel.frozen (p := ⟨Vb, _, none⟩) b3).trans (h.vals.2 i hi).2⟩⟩
  have hB6 : Below W0.heap.size W0 w6 := h.bel.trans (hbel.mono (by omega))
  exact ⟨hbx.set 1 _, own_set_ne ho (own_ne_lo ho b4), hV.setOther b6, hS.other b7, hB6.setCell b2 _, by simp; omega, h.hb⟩
theorem own_ir {x : Int} (h : w.ownsRow lP 3 1 pv k (List.replicate k (.int .i64 x))) (hk : 0 < k) : ∃ g cap, pv = .slice (some ⟨g, 0, none⟩) k cap ∧ lP ≤ g ∧ g < w.heap.size ∧ IR w g (List.replicate k x) := by
  obtain ⟨g, cap, rfl, h1, h2, _⟩ := own_pos h hk
  obtain ⟨_, cs, hcs⟩ := own_heap h
  refine ⟨g, cap, rfl, h1, h2, cs, hcs, fun i hi => ?_⟩
  have hi' : i < k := by simpa using hi
  have hc := (own_cell h (j := i) (u := .int .i64 x) (by simp [List.getElem?_replicate, hi'])).1
  have e : (List.replicate k x).getD i 0 = x := by simp [List.getD, hi']
  rw [e]
  unfold World.cell? at hc
  simpa [hcs] using hc
theorem vStart_in {m : Int} (hm : mKind m = true) {N src : Nat} : vAll m (vStart m N src) := by
  intro i hi
  rw [vStart_length, Int.toNat_natCast] at hi
  rw [vStart_at m N src (by rw [Int.toNat_natCast]; exact hi)]
  split
  · exact mOne_in hm
  · exact mNone_in hm
theorem FilI.spI {m : Int} {src lb : Nat} {b : Addr} (hm : mKind m = true) (h : FilI W0 OB S N Vb Vo vc lP (vStart m N src) (.slice (some b) 0 0) N w pv) (hN : 0 < N) (hl : Vb < lb ∧ lb ≤ OB ∧ lb ≤ S ∧ lb ≤ lP) : ∃ Pb pc, SpI W0 OB S m N (bf0 m N src) Pb pc Vb Vo vc lb w.heap.size w (.slice (some b) 0 0) := by
  obtain ⟨Pb, pc, rfl, h1, h2, h3⟩ := own_ir h.own hN
  obtain ⟨b1, b2, b3, b4, b5, b6, b7⟩ := h.hb
  have hlo := h.hlo
  exact ⟨Pb, pc, h.box, .inl ⟨rfl, b, rfl⟩, h3, h.vals, h.done, ⟨h2, by omega, by omega, by omega, Nat.le_refl _⟩, ⟨hl.1, by omega, hl.2.1, hl.2.2.1⟩, b1, h.bel, ⟨by simp [bf0], by simp [bf0, vStart_length], by simp [bf0], vStart_in hm⟩⟩
end
/-- A run of the model, ahead of a round. -/
structure RunI (W0 : World) (OB S : Nat) (m : Int) (N : Nat) (es : List Ed) (target : Int) (R : St) (Pb pc Vb Vo vc lb lo : Nat) (w : World) (st : St) (f : Nat) (ov : Value) : Prop where
  nd : nd st.done ≤ f
  run : R = stRun m target es (f + 1) st
  sp : SpI W0 OB S m N st Pb pc Vb Vo vc lb lo w ov
  looks : 0 ≤ st.looks ∧ st.looks ≤ 40 * st.ord.length
  ord : st.ord.length + Go.Proofs.Ytbhhbhopogkmnaa.nd st.done = N
theorem SpI.blk {W0 : World} {OB S : Nat} {m : Int} {N : Nat} {st : St} {Pb pc Vb Vo vc lb lo : Nat} {w w6 : World} {ov : Value} (h : SpI W0 OB S m N st Pb pc Vb Vo vc lb lo w ov) (hg : ∃ row, w.grownBy w6 row ∧ ∀ k, row = some k → lo ≤ k) : Box w6 OB 85 #[ov, .slice (some ⟨Pb, 0, none⟩) N pc, .slice (some ⟨Vb, Vo, none⟩) N vc, .int .i64 st.looks] ∧ Below W0.heap.size W0 w6 := by
  obtain ⟨row, hg, hr⟩ := hg
  have hlo := h.hlo
  have hblk : ∀ k, k < lo → w6.heap[k]? = w.heap[k]? := fun k hk => hg.block k (by omega) (fun e => by have := hr k e.symm; omega)
  have hbel : Below lo w w6 := ⟨hg.os, hg.tape, hg.output, hg.size, fun k hk => hblk k hk⟩
  exact ⟨(hblk OB (by omega)).trans h.box, h.bel.trans (hbel.mono (by have := h.hb; omega))⟩
theorem SpI.len {W0 : World} {OB S : Nat} {m : Int} {N : Nat} {st : St} {Pb pc Vb Vo vc lb lo : Nat} {w : World} {ov : Value} (h : SpI W0 OB S m N st Pb pc Vb Vo vc lb lo w ov) : lenAt OB 0 w = st.ord.length := by
  obtain ⟨a, c, rfl⟩ := h.ord.slice
  exact lenAt_of (by simpa using h.box.cell 0)
theorem OrdS.inR {w : World} {lo c : Nat} {a : Option Addr} {xs : List Int} (h : OrdS w lo (.slice a xs.length c) xs) : InR true w lo w.heap.size (.slice a xs.length c) xs.length 1 (cellI xs) := by
  rcases h with ⟨rfl, b, hb⟩ | h
  · exact ⟨_, _, rfl, .inl rfl⟩
  · obtain ⟨a, cap, he, hz⟩ := InR.of_own h
    refine ⟨a, cap, he, ?_⟩
    rcases hz with h0 | ⟨b, off, rfl, k1, k2, k3, hc⟩
    · exact .inl h0
    · refine .inr ⟨b, off, rfl, k1, k2, k3, fun i hi => ⟨?_, (hc i hi).2⟩⟩
      rw [(hc i hi).1]
      have hi2 : i < xs.length := by omega
      simp [List.getD, hi2, cellI]
theorem Wr.inR {w : World} {b off : Nat} {zs : List Int} (h : Wr w b off zs) (cap : Nat) : InR true w b (b + 1) (.slice (some ⟨b, off, none⟩) zs.length cap) zs.length 1 (cellI zs) :=
  ⟨_, cap, rfl, .inr ⟨b, off, rfl, Nat.le_refl _, Nat.lt_succ_self _, h.1, fun i hi => ⟨(h.2 i (by omega)).1, fun _ => (h.2 i (by omega)).2⟩⟩⟩
theorem SpI.ends {W0 w wr : World} {OB S : Nat} {m : Int} {N : Nat} {R : St} {Pb pc Vb Vo vc lb lo oc : Nat} {oa : Option Addr} (h : SpI W0 OB S m N R Pb pc Vb Vo vc lb lo wr (.slice oa R.ord.length oc)) (hW : W0.heap.size = w.heap.size + 1 + 1) (hb : Below w.heap.size w W0) (u0 u1 u2 u3 : Value) (hu0 : u0 = .slice oa R.ord.length oc) (hu1 : u1 = .slice (some ⟨Pb, 0, none⟩) N pc) (hu2 : u2 = .slice (some ⟨Vb, Vo, none⟩) N vc) :
    R3 true true ((((wr.setCell ⟨w.heap.size + 1, 0, none⟩ u0).setCell ⟨w.heap.size + 1, 1, none⟩ u1).setCell ⟨w.heap.size + 1, 2, none⟩ u2).setCell ⟨w.heap.size + 1, 3, none⟩ u3) w.heap.size ((((wr.setCell ⟨w.heap.size + 1, 0, none⟩ u0).setCell ⟨w.heap.size + 1, 1, none⟩ u1).setCell ⟨w.heap.size + 1, 2, none⟩ u2).setCell ⟨w.heap.size + 1, 3, none⟩ u3).heap.size u0 u1 u2 R.ord.length R.par.length R.vals.length (cellI R.ord) (cellI R.par) (cellI R.vals) ∧ Below w.heap.size w ((((wr.setCell ⟨w.heap.size + 1, 0, none⟩ u0).setCell ⟨w.heap.size + 1, 1, none⟩ u1).setCell ⟨w.heap.size + 1, 2, none⟩ u2).setCell ⟨w.heap.size + 1, 3, none⟩ u3) := by
  have hch : Chg (w.heap.size + 1) (w.heap.size + 2) wr ((((wr.setCell ⟨w.heap.size + 1, 0, none⟩ u0).setCell ⟨w.heap.size + 1, 1, none⟩ u1).setCell ⟨w.heap.size + 1, 2, none⟩ u2).setCell ⟨w.heap.size + 1, 3, none⟩ u3) := ((((Chg.refl _ _ _).setCell (by simp only; omega) (by simp only; omega) _).setCell (by simp only; omega) (by simp only; omega) _).setCell (by simp only; omega) (by simp only; omega) _).setCell (by simp only; omega) (by simp only; omega) _
  have hbw : Below w.heap.size w wr := hb.trans (h.bel.mono (by omega))
  refine ⟨?_, bel_chg hbw hch (by omega)⟩
  have hO := h.ord.inR
  have hP := h.par.inR pc
  have hV := h.vals.inR vc
  have e1 : R.par.length = N := h.ok.par
  have e2 : R.vals.length = N := h.ok.vals
  rw [e1] at hP ⊢
  rw [e2] at hV ⊢
  have hPl := h.par.lt
  have hVl := h.vals.1
  have hsz := hch.size
  obtain ⟨a1, a2, a3, a4, a5⟩ := h.hlo
  obtain ⟨b1, b2, b3, b4⟩ := h.hlb
  have b5 := h.hb
  subst hu0 hu1 hu2
  exact ⟨_, _, _, _, _, _, ⟨hO.chg hch (.inl (by omega)), hP.chg hch (.inl (by omega)), hV.chg hch (.inl (by omega))⟩, by simp; omega, fun _ => by omega⟩
theorem getD_lt {zs : List Int} {k : Nat} (h : k < zs.length) : zs[k]?.getD 0 = zs.getD k 0 := rfl
set_option maxRecDepth 20000 in
set_option maxHeartbeats 16000000 in
theorem l4Run {m : Int} {N src : Nat} {es : List Ed} {s : Value} {w : World} (target : Int) (hm : mKind m = true) (hs : RowE w s es) (hg : gVal N es = true) (hsrc : src < N) :
    Calls Try.prog 80 #[.agg #[.int .i64 N, s], .int .i64 m, .int .i64 src, .int .i64 target] w fun e w' => ∃ a b c, e = .returned (.agg #[a, b, c, .int .i64 (bfR m target es N src).looks]) ∧ R3 true true w' w.heap.size w'.heap.size a b c (bfR m target es N src).ord.length (bfR m target es N src).par.length (bfR m target es N src).vals.length (cellI (bfR m target es N src).ord) (cellI (bfR m target es N src).par) (cellI (bfR m target es N src).vals) ∧ Below w.heap.size w w' := by
  obtain ⟨g1, g2, g3, _⟩ := gVal_parts hg
  have hea : eAll N es := by have := eAll_of hg; simpa using this
  obtain ⟨sa, sc, rfl, hs2⟩ := id hs
  clear hs2
  have hbG : Below w.heap.size w ((w.alloc (.cells #[.int .i64 N, .slice sa es.length sc] 34)).alloc (.cells #[.slice none 0 0, .slice none 0 0, .slice none 0 0, .int .i64 0] 85)) := ((Below.refl _ _).alloc (Nat.le_refl _) _).alloc (by simp) _
  have hB1 : Box ((w.alloc (.cells #[.int .i64 N, .slice sa es.length sc] 34)).alloc (.cells #[.slice none 0 0, .slice none 0 0, .slice none 0 0, .int .i64 0] 85)) w.heap.size 34 #[.int .i64 N, .slice sa es.length sc] := (Box.new w _ _).alloc _
  have hB2 : Box ((w.alloc (.cells #[.int .i64 N, .slice sa es.length sc] 34)).alloc (.cells #[.slice none 0 0, .slice none 0 0, .slice none 0 0, .int .i64 0] 85)) (w.heap.size + 1) 85 #[.slice none 0 0, .slice none 0 0, .slice none 0 0, .int .i64 0] := by
    have := Box.new (w.alloc (.cells #[.int .i64 N, .slice sa es.length sc] 34)) 85 #[.slice none 0 0, .slice none 0 0, .slice none 0 0, .int .i64 0]
    simpa using this
  have hsz : ((w.alloc (.cells #[.int .i64 N, .slice sa es.length sc] 34)).alloc (.cells #[.slice none 0 0, .slice none 0 0, .slice none 0 0, .int .i64 0] 85)).heap.size = w.heap.size + 1 + 1 := by simp
  have K0 := Lib.hid (And.intro hbG (And.intro hB1 (And.intro hB2 hsz)))
  have HS := Lib.hid (hs.keep hbG)
  have HG := Lib.hid (And.intro hg hea)
  have hls := fun w' => l3Start m N src hm (by omega) hsrc sa es.length sc w'
  have HLS := Lib.hid hls
  have hmk := run_make_row' (P := Try.prog) 140 4 (.bool false) 1 Try.underlying140 info_bool rfl .i64 .i64 N (by omega) (by omega)
  clear hs hg hea hls hbG hB1 hB2 hsz
  go_enter Try.func80, Try.ntmps80
  go_wp2_with fail
  generalize ((w.alloc (.cells #[.int .i64 N, .slice sa es.length sc] 34)).alloc (.cells #[.slice none 0 0, .slice none 0 0, .slice none 0 0, .int .i64 0] 85)) = W0 at K0 HS ⊢
  have fx : ∀ w', Below W0.heap.size W0 w' → w'.cell? ⟨w.heap.size, 0, none⟩ = some (.int .i64 N) ∧ w'.cell? ⟨w.heap.size, 1, none⟩ = some (.slice sa es.length sc) := fun w' h => ⟨by simpa using (K0.out.2.1.keep h).cell 0, by simpa using (K0.out.2.1.keep h).cell 1⟩
  have FX := Lib.hid fx
  have hGW : w.heap.size + 2 ≤ W0.heap.size := by have := K0.out.2.2.2; omega
  clear fx
  refine (HLS.out _).mono ?_
  rintro e w1 ⟨v, rfl, hown, hok, hb1⟩
  obtain ⟨Vb, Vo, vc, rfl, hVb, hVw⟩ := OwnV.wr hown (by rw [vStart_length]; omega)
  rw [vStart_length, Int.toNat_natCast] at *
  obtain ⟨x0, x1⟩ := FX.out _ hb1
  have hz1 := hb1.size
  have HV1 := Lib.hid (And.intro hVb (And.intro hVw hb1))
  clear hown hok hVb hVw
  have x0' : ∀ A B C, (((w1.alloc A).alloc B).alloc C).cell? ⟨w.heap.size, 0, none⟩ = some (.int .i64 N) := fun A B C => (FX.out _ (((hb1.alloc hz1 A).alloc (by simp; omega) B).alloc (by simp; omega) C)).1
  go_wp2_with fail
  have hW3 : ∀ A B, FilI W0 (w1.heap.size + 1 + 1) (w1.heap.size + 1 + 1 + 1) N Vb Vo vc (w1.heap.size + 1 + 1 + 1 + 1) (vStart m N src) (.slice (some ⟨w1.heap.size + 1, 0, none⟩) 0 0) 0 ((((w1.alloc A).alloc B).alloc (.cells #[.slice (some ⟨w1.heap.size + 1, 0, none⟩) 0 0, .slice none 0 0, .slice (some ⟨Vb, Vo, none⟩) N vc, .int .i64 0] 85)).alloc (.cells (madeCells #[.bool false] N) 4)) (.slice none 0 0) := by
    intro A B
    obtain ⟨v1, v2, v3⟩ := HV1.out
    have v4 := v2.1
    have hbx := (Box.new ((w1.alloc A).alloc B) 85 #[.slice (some ⟨w1.heap.size + 1, 0, none⟩) 0 0, .slice none 0 0, .slice (some ⟨Vb, Vo, none⟩) N vc, .int .i64 0]).alloc (.cells (madeCells #[.bool false] N) 4)
    have hbr := BR.made (((w1.alloc A).alloc B).alloc (.cells #[.slice (some ⟨w1.heap.size + 1, 0, none⟩) 0 0, .slice none 0 0, .slice (some ⟨Vb, Vo, none⟩) N vc, .int .i64 0] 85)) N
    have hk : Below w1.heap.size w1 ((((w1.alloc A).alloc B).alloc (.cells #[.slice (some ⟨w1.heap.size + 1, 0, none⟩) 0 0, .slice none 0 0, .slice (some ⟨Vb, Vo, none⟩) N vc, .int .i64 0] 85)).alloc (.cells (madeCells #[.bool false] N) 4)) := ((((Below.refl _ _).alloc (Nat.le_refl _) _).alloc (by simp) _).alloc (by simp; omega) _).alloc (by simp; omega) _
    exact ⟨by simpa using hbx, World.ownsRow_nil _ _ _ _, v2.keep hk, by simpa using hbr, bel_trans v3 hk, by simp, ⟨v1, by omega, by omega, by omega, by omega, by omega, by omega⟩⟩
  have hW3' := hW3 (.cells #[.int .i64 m, .int .i64 src, .slice (some ⟨Vb, Vo, none⟩) N vc] 25) (.cells #[] 3)
  have H3 := Lib.hid hW3'
  clear hW3 hW3' x0' x0 x1
  generalize ((((w1.alloc (.cells #[.int .i64 m, .int .i64 src, .slice (some ⟨Vb, Vo, none⟩) N vc] 25)).alloc (.cells #[] 3)).alloc (.cells #[.slice (some ⟨w1.heap.size + 1, 0, none⟩) 0 0, .slice none 0 0, .slice (some ⟨Vb, Vo, none⟩) N vc, .int .i64 0] 85)).alloc (.cells (madeCells #[.bool false] N) 4)) = W3 at H3 ⊢
  obtain ⟨i0, hi, hz0, hz1, hz2⟩ := info_parts info_int2
  have HI0 := Lib.hid (And.intro hi (And.intro hz0 (And.intro hz1 hz2)))
  clear hi hz0 hz1 hz2
  go_loopw [12] (fun c wr => ∃ (k : Nat) (pv : Value), k ≤ N ∧ c = .int .i64 k ∧ Hid (FilI W0 (w1.heap.size + 1 + 1) (w1.heap.size + 1 + 1 + 1) N Vb Vo vc (w1.heap.size + 1 + 1 + 1 + 1) (vStart m N src) (.slice (some ⟨w1.heap.size + 1, 0, none⟩) 0 0) k wr pv)) (fun c _ => N - (intOf c).toNat)
  case atStart => exact ⟨0, _, Nat.zero_le _, rfl, H3⟩
  case round =>
    obtain ⟨k, pv, hk, rfl, HI⟩ := hrel
    obtain ⟨x0, x1⟩ := FX.out _ HI.out.bel
    by_cases hlt : k < N
    · have hlt' : (k : Int) < N := by omega
      obtain ⟨pa, pc, rfl⟩ := own_slice HI.out.own
      have y1 : wr.cell? ⟨w1.heap.size + 1 + 1, 1, none⟩ = some (.slice pa k pc) := by simpa using HI.out.box.cell 1
      obtain ⟨hi, hz0, hz1, hz2⟩ := HI0.out
      go_wp2_with (at_builtin; refine wpList_append_own _ rfl (.tmp 35) (.tmp 36) 23 rfl (w1.heap.size + 1 + 1 + 1 + 1) 3 i0 (.int .i64 0) 1 8 Try.underlying23 hi hz0 hz1 hz2 rfl (by decide) _ _ _ rfl (HI.out.own.alloc _) ⟨wr.heap.size, 0, none⟩ 1 1 [.int .i64 (-1)] rfl rfl ?c1 ?c2 ?c3 ?c4 ?c5 ?_)
      case c1 => exact cell_one_new _ _ _
      case c2 => simp [Value.oneCell']
      case c3 => unfold maxLen; omega
      case c4 => omega
      case c5 => have := HI.out.hlo; simp; omega
      intro v' w6 hown6 hgrow6 _
      have hown7 : w6.ownsRow (w1.heap.size + 1 + 1 + 1 + 1) 3 1 v' (k + 1) (List.replicate (k + 1) (.int .i64 (-1))) := by rw [List.replicate_succ']; exact hown6
      obtain ⟨va6, vc6, rfl⟩ := own_slice hown7
      have H7 := Lib.hid (HI.out.app hgrow6 hown7)
      have b6 := Box.grown (HI.out.box.alloc _) hgrow6 (HI.out.own.alloc _) (by decide)
      have f6 : w6.frozen? ⟨w1.heap.size + 1 + 1, 1, none⟩ = false := b6.frozen 1
      have x6 : w6.cell? ⟨w1.heap.size + 1 + 1, 1, none⟩ = some (.slice pa k pc) := by simpa using b6.cell 1
      clear b6
      clear hown6 hown7 hgrow6 hi hz0 hz1 hz2
      go_wp2_with fail
      go_roundw
      case rel => first | exact ⟨k + 1, _, by omega, by go_num, H7⟩ | ((repeat apply Exists.intro); exact ⟨⟨k + 1, _, by omega, by go_num, H7⟩, rfl⟩)
      case measure => simp [intOf]; omega
    · have hke : N = k := by omega
      have hkk : ¬ ((k : Int) < N) := by omega
      subst hke
      have hsp := HI.out.spI (lb := w1.heap.size) hm (by omega) ⟨HV1.out.2.1.1, by omega, by omega, by omega⟩
      obtain ⟨Pb, pc, hsp⟩ := hsp
      obtain ⟨R, hR⟩ : ∃ R, R = bfR m target es N src := ⟨_, rfl⟩
      have hrun : RunI W0 (w1.heap.size + 1 + 1) (w1.heap.size + 1 + 1 + 1) m N es target R Pb pc Vb Vo vc w1.heap.size wr.heap.size wr (bf0 m N src) N (.slice (some ⟨w1.heap.size + 1, 0, none⟩) 0 0) := ⟨Nat.le_of_eq (nd_rep N), hR, hsp, ⟨Int.le_refl _, Int.le_refl _⟩, by show 0 + nd (List.replicate N false) = N; rw [nd_rep]; omega⟩
      have HRUN := Lib.hid hrun
      have HR := Lib.hid hR
      have hlo0 : w1.heap.size + 1 + 1 + 1 + 1 ≤ wr.heap.size := HI.out.hlo
      obtain ⟨lo, hlo⟩ : ∃ lo, lo = wr.heap.size := ⟨_, rfl⟩
      rw [← hlo] at HRUN hlo0
      clear hkk hlt hk hsp hrun HI hR hlo
      go_wp2_with fail
      go_loopw [] (fun wr => ∃ (st : St) (f : Nat) (ov : Value), Hid (RunI W0 (w1.heap.size + 1 + 1) (w1.heap.size + 1 + 1 + 1) m N es target R Pb pc Vb Vo vc w1.heap.size lo wr st f ov)) (fun wr => N - lenAt (w1.heap.size + 1 + 1) 0 wr)
      case atStart => exact ⟨_, _, _, HRUN⟩
      case round =>
        obtain ⟨st, f, ov, HI⟩ := hrel
        obtain ⟨oa, oc, hov⟩ := HI.out.sp.ord.slice
        subst hov
        have y0 : wr.cell? ⟨w1.heap.size + 1 + 1, 0, none⟩ = some (.slice oa st.ord.length oc) := by simpa using HI.out.sp.box.cell 0
        have y2 : wr.cell? ⟨w1.heap.size + 1 + 1, 2, none⟩ = some (.slice (some ⟨Vb, Vo, none⟩) N vc) := by simpa using HI.out.sp.box.cell 2
        have hrow := HI.out.sp.vals.row (cap := vc)
        rw [HI.out.sp.ok.vals] at hrow
        have hln := l4Next hm (cs := N) hrow HI.out.sp.done HI.out.sp.ok.vals HI.out.sp.ok.done (by omega)
        have hcell4 : ∀ w', SpI W0 (w1.heap.size + 1 + 1) (w1.heap.size + 1 + 1 + 1) m N st Pb pc Vb Vo vc w1.heap.size lo w' (.slice oa st.ord.length oc) → (w'.cell? ⟨w1.heap.size + 1 + 1, 0, none⟩ = some (.slice oa st.ord.length oc) ∧ w'.cell? ⟨w1.heap.size + 1 + 1, 1, none⟩ = some (.slice (some ⟨Pb, 0, none⟩) N pc) ∧ w'.cell? ⟨w1.heap.size + 1 + 1, 2, none⟩ = some (.slice (some ⟨Vb, Vo, none⟩) N vc) ∧ w'.cell? ⟨w1.heap.size + 1 + 1, 3, none⟩ = some (.int .i64 st.looks)) ∧ (w'.cell? ⟨w.heap.size + 1, 0, none⟩ = some (.slice none 0 0) ∧ w'.cell? ⟨w.heap.size + 1, 1, none⟩ = some (.slice none 0 0) ∧ w'.cell? ⟨w.heap.size + 1, 2, none⟩ = some (.slice none 0 0) ∧ w'.cell? ⟨w.heap.size + 1, 3, none⟩ = some (.int .i64 0)) ∧ (w'.frozen? ⟨w.heap.size + 1, 0, none⟩ = false ∧ w'.frozen? ⟨w.heap.size + 1, 1, none⟩ = false ∧ w'.frozen? ⟨w.heap.size + 1, 2, none⟩ = false ∧ w'.frozen? ⟨w.heap.size + 1, 3, none⟩ = false) := fun w' h => by
          have hres := K0.out.2.2.1.keep h.bel
          exact ⟨⟨by simpa using h.box.cell 0, by simpa using h.box.cell 1, by simpa using h.box.cell 2, by simpa using h.box.cell 3⟩, ⟨by simpa using hres.cell 0, by simpa using hres.cell 1, by simpa using hres.cell 2, by simpa using hres.cell 3⟩, ⟨hres.frozen 0, hres.frozen 1, hres.frozen 2, hres.frozen 3⟩⟩
        have HC4 := Lib.hid hcell4
        clear hrow hcell4
        rcases nxF_ok (vals := st.vals) (done := st.done) hm with hnx | ⟨k, hnx, hk1, hk2⟩
        · rw [hnx] at hln
          have HLN := Lib.hid hln
          have HNX := Lib.hid hnx
          clear hln hnx
          go_wp2_with (go_at_call 104; (with_reducible refine (HLN.out).mono ?_); rintro e w2 ⟨rfl, hb2⟩; have H2 := Lib.hid (HI.out.sp.keep hb2); obtain ⟨⟨z0, z1, z2, z3⟩, ⟨r0, r1, r2, r3⟩, ⟨f0, f1, f2, f3⟩⟩ := HC4.out _ H2.out; clear hb2)
          refine bodyPost_ret (v := .agg #[.slice oa R.ord.length oc, .slice (some ⟨Pb, 0, none⟩) N pc, .slice (some ⟨Vb, Vo, none⟩) N vc, .int .i64 R.looks]) ?_ rfl ?_
          · have e1 := HI.out.run
            rw [stRun_stop HNX.out] at e1
            rw [results_cell1 rfl, e1]
            go_simp
          · have e1 := HI.out.run
            rw [stRun_stop HNX.out] at e1
            have hR := HR.out
            rw [← hR]
            have hE := H2.out
            rw [← e1] at hE ⊢
            exact ⟨_, _, _, rfl, hE.ends K0.out.2.2.2 K0.out.1 _ _ _ _ rfl rfl rfl⟩
        · have hdk := okN_lt hk2
          have hndk := nd_set st.done k hdk
          have hkN : k < N := by rw [← HI.out.sp.ok.vals]; exact hk1
          rw [hnx] at hln
          have HLN := Lib.hid hln
          have HNX := Lib.hid (And.intro hnx (And.intro hdk hndk))
          have hkN' : (k : Int) < N := by omega
          have hd1 : decide ((k : Int) < 0) = false := decide_eq_false (by omega)
          have hol : st.ord.length ≤ 12 := by have := HI.out.ord; omega
          have hlo9 := HI.out.sp.hlo.2.2.2.2
          obtain ⟨hi, hz0, hz1, hz2⟩ := HI0.out
          clear hln hnx hk1 hk2 hdk hndk
          go_wp2_with (first | (go_at_call 104; (with_reducible refine (HLN.out).mono ?_); rintro e w2 ⟨rfl, hb2⟩; have H2 := Lib.hid (HI.out.sp.keep hb2); obtain ⟨⟨z0, z1, z2, z3⟩, -, -⟩ := HC4.out _ H2.out; obtain ⟨s0, s1⟩ := H2.out.done.cell (i := k) (by rw [H2.out.ok.done]; exact hkN); have hst := H2.out.settle hkN; have H5 := Lib.hid (hst.keep ((Below.refl _ _).alloc (Nat.le_refl _) (.cells #[.int .i64 (k : Int)] 3))); clear hst hb2) | (at_builtin; refine wpList_append_ord rfl (.tmp 51) (.tmp 53) 23 rfl lo i0 Try.underlying23 hi hz0 hz1 hz2 (.slice oa st.ord.length oc) st.ord rfl (H5.out.ord) ⟨w2.heap.size, 0, none⟩ 1 (k : Int) rfl ?c1 ?c2 ?c3 ?_))
          case c1 =>
            intro j u h
            have := cell_one_new (w2.setCell ⟨w1.heap.size + 1 + 1 + 1, k, none⟩ (.bool true)) (.int .i64 (k : Int)) 3 j u h
            simpa using this
          case c2 => omega
          case c3 => exact H5.out.hlo.2.2.2.2
          intro v' w6 hown6 row6 hg6 hr6
          have hgrow6 : ∃ row, World.grownBy ((w2.setCell ⟨w1.heap.size + 1 + 1 + 1, k, none⟩ (.bool true)).alloc (.cells #[.int .i64 (k : Int)] 3)) w6 row ∧ ∀ k, row = some k → lo ≤ k := ⟨row6, hg6, hr6⟩
          have hown7 : w6.ownsRow lo 3 1 v' (st.ord ++ [(k : Int)]).length ((st.ord ++ [(k : Int)]).map (Value.int .i64)) := by simpa using hown6
          obtain ⟨va6, vc6, hv'⟩ := own_slice hown7
          rw [show (st.ord ++ [(k : Int)]).length = st.ord.length + 1 by simp] at hv'
          subst hv'
          clear hg6 hr6 hown6
          obtain ⟨b6, hbel6⟩ := H5.out.blk hgrow6
          have hor : SpI W0 (w1.heap.size + 1 + 1) (w1.heap.size + 1 + 1 + 1) m N (stMark k st) Pb pc Vb Vo vc w1.heap.size lo (w6.setCell ⟨w1.heap.size + 1 + 1, 0, none⟩ (.slice va6 (st.ord.length + 1) vc6)) (.slice va6 (st.ord.length + 1) vc6) := H5.out.order hgrow6 hown7
          have H7 := Lib.hid hor
          have x60 : w6.cell? ⟨w1.heap.size + 1 + 1, 0, none⟩ = some (.slice oa st.ord.length oc) := by simpa using b6.cell 0
          have x61 : w6.cell? ⟨w1.heap.size + 1 + 1, 1, none⟩ = some (.slice (some ⟨Pb, 0, none⟩) N pc) := by simpa using b6.cell 1
          have x62 : w6.cell? ⟨w1.heap.size + 1 + 1, 2, none⟩ = some (.slice (some ⟨Vb, Vo, none⟩) N vc) := by simpa using b6.cell 2
          have x63 : w6.cell? ⟨w1.heap.size + 1 + 1, 3, none⟩ = some (.int .i64 st.looks) := by simpa using b6.cell 3
          have f60 : w6.frozen? ⟨w1.heap.size + 1 + 1, 0, none⟩ = false := b6.frozen 0
          have H6 := Lib.hid hbel6
          clear hor b6 hown7 hgrow6 hi hz0 hz1 hz2 hbel6 z0 z1 z2 z3 s0 s1 y0 y2
          by_cases hkt : (k : Int) = target
          · have d2 : ((k : Int) == target) = true := by simpa using hkt
            have hres := K0.out.2.2.1.keep H6.out
            have r0 : w6.cell? ⟨w.heap.size + 1, 0, none⟩ = some (.slice none 0 0) := by simpa using hres.cell 0
            have r1 : w6.cell? ⟨w.heap.size + 1, 1, none⟩ = some (.slice none 0 0) := by simpa using hres.cell 1
            have r2 : w6.cell? ⟨w.heap.size + 1, 2, none⟩ = some (.slice none 0 0) := by simpa using hres.cell 2
            have r3 : w6.cell? ⟨w.heap.size + 1, 3, none⟩ = some (.int .i64 0) := by simpa using hres.cell 3
            have f0 := hres.frozen 0
            have f1 := hres.frozen 1
            have f2 := hres.frozen 2
            have f3 := hres.frozen 3
            have nOR : (w1.heap.size + 1 + 1 = w.heap.size + 1) = False := by have h1 := HV1.out.2.2.size; have h2 := K0.out.2.2.2; simp; omega
            have nRO : (w.heap.size + 1 = w1.heap.size + 1 + 1) = False := by have h1 := HV1.out.2.2.size; have h2 := K0.out.2.2.2; simp; omega
            have HKT := Lib.hid hkt
            clear hkt hres
            go_wp2_with fail
            have e1 := HI.out.run
            rw [← HKT.out, stRun_hit HNX.out.1] at e1
            have hml : (stMark k st).ord.length = st.ord.length + 1 := by simp [stMark]
            have hlk : (stMark k st).looks = st.looks := rfl
            refine bodyPost_ret (v := .agg #[.slice va6 (st.ord.length + 1) vc6, .slice (some ⟨Pb, 0, none⟩) N pc, .slice (some ⟨Vb, Vo, none⟩) N vc, .int .i64 R.looks]) ?_ rfl ?_
            · rw [results_cell1 rfl, e1, hlk]
              go_simp
            · have hR := HR.out
              rw [← hR]
              have hE := H7.out
              rw [← hml, ← e1] at hE ⊢
              exact ⟨_, _, _, rfl, hE.ends K0.out.2.2.2 K0.out.1 _ _ _ _ rfl rfl rfl⟩
          · have d2 : ((k : Int) == target) = false := by simpa using hkt
            have HKT := Lib.hid hkt
            have hlen := HI.out.sp.len
            have HLEN := Lib.hid hlen
            obtain ⟨st1, hst1⟩ : ∃ q, q = stMark k st := ⟨_, rfl⟩
            rw [← hst1] at H7
            have HST1 := Lib.hid hst1
            clear hkt hlen hst1
            go_wp2_with fail
            clear x60 x61 x62 x63 f60
            generalize (w6.setCell ⟨w1.heap.size + 1 + 1, 0, none⟩ (.slice va6 (st.ord.length + 1) vc6)) = w7 at H7 ⊢
            go_loopw [14] (fun c wr => ∃ (k3 : Nat), k3 ≤ es.length ∧ c = .int .i64 k3 ∧ Hid (SpI W0 (w1.heap.size + 1 + 1) (w1.heap.size + 1 + 1 + 1) m N (stScan m (k : Int) (es.take k3) st1) Pb pc Vb Vo vc w1.heap.size lo wr (.slice va6 (st.ord.length + 1) vc6))) (fun c _ => es.length - (intOf c).toNat)
            case atStart => exact ⟨0, Nat.zero_le _, rfl, H7⟩
            case round =>
              obtain ⟨k3, hk3, rfl, HJ⟩ := hrel
              obtain ⟨x0, x1⟩ := FX.out _ HJ.out.bel
              by_cases hlt3 : k3 < es.length
              · have hlt3' : (k3 : Int) < es.length := by omega
                obtain ⟨sb, so, sc2, hse, hsb, hsc⟩ := rowE_atB HS.out hlt3
                injection hse with hsa _ hsc2
                subst hsa hsc2
                have hst := stScan_snoc m (k : Int) es st1 hlt3
                have hlk := stScan_looks m (k : Int) (es.take k3) st1
                rw [List.length_take] at hlk
                obtain ⟨q, hq⟩ : ∃ q, q = stScan m (k : Int) (es.take k3) st1 := ⟨_, rfl⟩
                rw [← hq] at hst hlk
                have hJ := HJ.out
                rw [← hq] at hJ
                have HJ2 := Lib.hid hJ
                obtain ⟨x, y, z, hx⟩ : ∃ x y z, (x, y, z) = es.getD k3 (0, 0, 0) := ⟨_, _, _, rfl⟩
                have hee := HG.out.2 _ (List.getElem_mem hlt3)
                rw [show es[k3] = es.getD k3 (0, 0, 0) by simp [List.getD, hlt3]] at hee
                have h1 := hsc k3 hlt3
                rw [← hx] at h1 hee hst
                simp only at h1 hee
                obtain ⟨X, rfl⟩ : ∃ X : Nat, x = X := ⟨x.toNat, by omega⟩
                obtain ⟨Y, rfl⟩ : ∃ Y : Nat, y = Y := ⟨y.toNat, by omega⟩
                obtain ⟨⟨-, hX⟩, ⟨-, hY⟩, hz⟩ := hee
                rw [Int.toNat_natCast] at hX hY
                have c0 := (hJ.bel.cell (p := ⟨sb, so + k3 * 3, none⟩) hsb).trans h1.1
                have c1 := (hJ.bel.cell (p := ⟨sb, so + k3 * 3 + 1, none⟩) hsb).trans h1.2.1
                have c2 := (hJ.bel.cell (p := ⟨sb, so + k3 * 3 + 2, none⟩) hsb).trans h1.2.2
                obtain ⟨Dn, hDn⟩ : ∃ d, d = q.done.getD Y true := ⟨_, rfl⟩
                have hd0 := (hJ.done.cell (i := Y) (by rw [hJ.ok.done]; exact hY)).1
                rw [← hDn] at hd0
                have hd0' : ∀ A, (wr.alloc A).cell? ⟨w1.heap.size + 1 + 1 + 1, Y, none⟩ = some (.bool Dn) := fun A => (((Below.refl _ _).alloc (Nat.le_refl _) A).cell (p := ⟨w1.heap.size + 1 + 1 + 1, _, none⟩) hJ.done.lt).trans hd0
                have hlk0 : ∀ A, (wr.alloc A).cell? ⟨w1.heap.size + 1 + 1, 3, none⟩ = some (.int .i64 q.looks) := fun A => by simpa using (hJ.box.alloc A).cell 3
                have hlf0 : ∀ A, (wr.alloc A).frozen? ⟨w1.heap.size + 1 + 1, 3, none⟩ = false := fun A => (hJ.box.alloc A).frozen 3
                have hY' : (Y : Int) < N := by omega
                have HQ := Lib.hid hq
                have HX := Lib.hid hx
                have HDN := Lib.hid hDn
                have HSTT := Lib.hid hst
                have hl12 := HI.out.looks
                have hst1l : st1.looks = st.looks := by rw [HST1.out]; rfl
                have hq0 : 0 ≤ q.looks := by omega
                have hq1 : q.looks ≤ 1000000 := by omega
                clear h1 hsc hq hx hDn hst hJ hlk hl12 hst1l hd0
                by_cases hxa : k = X
                · subst hxa
                  have d1 : ((k : Int) != (k : Int)) = false := by simp
                  cases Dn
                  · have hb0 : Below wr.heap.size wr (wr.alloc (.cells #[.int .i64 k, .int .i64 Y, .int .i64 z] 49)) := (Below.refl _ _).alloc (Nat.le_refl _) _
                    have nBE : wr.heap.size ≠ w1.heap.size + 1 + 1 := by have := HJ2.out.box.lt; omega
                    have H8 := Lib.hid (HJ2.out.keep hb0).tick
                    have K8 := Lib.hid ((Box.new wr 49 #[.int .i64 k, .int .i64 Y, .int .i64 z]).setOther nBE 3 (.int .i64 (q.looks + 1)))
                    clear hb0
                    go_wp2_with fail
                    obtain ⟨U, hU⟩ : ∃ U, U = q.vals.getD k 0 := ⟨_, rfl⟩
                    obtain ⟨Z, hZ⟩ : ∃ Z, Z = q.vals.getD Y 0 := ⟨_, rfl⟩
                    obtain ⟨G, hG⟩ : ∃ G, G = mJoin m U (mEdge m z) := ⟨_, rfl⟩
                    have hvl := HJ2.out.ok.vals
                    have hUi : mIn m U = true := by rw [hU]; exact HJ2.out.ok.all k (by omega)
                    have hgi : vGive m q.vals ((k : Int), (Y : Int), z) = G := by unfold vGive; rw [hG, hU, Int.toNat_natCast]
                    have hGi : mIn m G = true := by rw [← hgi]; exact give_in hm HJ2.out.ok.all (by simp only [Int.toNat_natCast]; omega) hz
                    have hse1 := fun w' => calls_below (sEdge hm z w')
                    have hsj1 := fun w' => calls_below (sJoin (bTwo_mk hm hUi (mEdge_in hm hz)) w')
                    rw [← hG] at hsj1
                    have hbt1 := fun w' => sBet hm G Z w'
                    have hlook : stLook m (k : Int) q ((k : Int), (Y : Int), z) = if mBet m G Z = true then { stTick q with vals := q.vals.set Y G, par := q.par.set Y (k : Int) } else stTick q := by
                      unfold stLook
                      rw [if_pos (by unfold isLook; simp only [Int.toNat_natCast]; rw [← HDN.out]; simp)]
                      unfold stFollow stBetter stTake
                      rw [show vGive m (stTick q).vals ((k : Int), (Y : Int), z) = G from hgi]
                      simp only [Int.toNat_natCast]
                      rw [show (stTick q).vals.getD Y 0 = Z from hZ.symm]
                      rfl
                    generalize ((wr.alloc (.cells #[.int .i64 (k : Int), .int .i64 (Y : Int), .int .i64 z] 49)).setCell ⟨w1.heap.size + 1 + 1, 3, none⟩ (.int .i64 (q.looks + 1))) = w8 at H8 K8 ⊢
                    have fx : ∀ w', Below w8.heap.size w8 w' → w'.cell? ⟨w1.heap.size + 1 + 1, 1, none⟩ = some (.slice (some ⟨Pb, 0, none⟩) N pc) ∧ w'.cell? ⟨w1.heap.size + 1 + 1, 2, none⟩ = some (.slice (some ⟨Vb, Vo, none⟩) N vc) ∧ w'.cell? ⟨Vb, Vo + k, none⟩ = some (.int .i64 U) ∧ w'.cell? ⟨Vb, Vo + Y, none⟩ = some (.int .i64 Z) ∧ w'.cell? ⟨wr.heap.size, 1, none⟩ = some (.int .i64 Y) ∧ w'.cell? ⟨wr.heap.size, 2, none⟩ = some (.int .i64 z) := fun w' h => by
                      have h8 := H8.out.keep h
                      have k8 := K8.out.keep h
                      exact ⟨by simpa using h8.box.cell 1, by simpa using h8.box.cell 2, by rw [hU]; exact (h8.vals.2 k (by show k < q.vals.length; omega)).1, by rw [hZ]; exact (h8.vals.2 Y (by show Y < q.vals.length; omega)).1, by simpa using k8.cell 1, by simpa using k8.cell 2⟩
                    have FX8 := Lib.hid fx
                    have HSE1 := Lib.hid hse1
                    have HSJ1 := Lib.hid hsj1
                    have HBT1 := Lib.hid hbt1
                    have HLOOK := Lib.hid hlook
                    have HGI := Lib.hid hGi
                    clear fx hse1 hsj1 hbt1 hlook hU hZ hG hUi hgi hGi hvl
                    refine wp_region_below (by kernel_rfl) (by kernel_rfl) ?_
                    repeat (go_big_quiet_step ((intro hw; first | with_reducible rfl | (obtain ⟨f0, f1, f2, f3, f4, f5⟩ := FX8.out _ hw; simp only [f0, f1, f2, f3, f4, f5, Result.andThen]; first | exact ⟨trivial, rfl⟩ | exact ⟨rfl, rfl⟩) | (go_at_call 91; exact quietB (HSE1.out _) hw) | (go_at_call 90; exact quietB (HSJ1.out _) hw))))
                    refine wpQuiet_nil ?_
                    intro w9 hw9
                    have K9 := Lib.hid hw9
                    obtain ⟨y1, y2, y3, y4, y5, y6⟩ := FX8.out _ hw9
                    have h9 := H8.out.keep hw9
                    have H9 := Lib.hid h9
                    have fV := (h9.vals.2 Y (by rw [h9.ok.vals]; exact hY)).2
                    have hpY := h9.par.cell (i := Y) (by rw [h9.ok.par]; exact hY)
                    have nPO := h9.par.ne h9.box (by decide)
                    have nVO : Vb ≠ w1.heap.size + 1 + 1 := by have := h9.hlb; omega
                    have nVP : Vb ≠ Pb := by have := h9.hlb; omega
                    have nVE : wr.heap.size ≠ Vb := by have := HJ2.out.vals.1; omega
                    have v1 : ∀ u, (w9.setCell ⟨Vb, Vo + Y, none⟩ u).cell? ⟨w1.heap.size + 1 + 1, 1, none⟩ = some (.slice (some ⟨Pb, 0, none⟩) N pc) := fun u => by simpa using (h9.box.setOther (fun e => nVO e.symm) (Vo + Y) u).cell 1
                    have v2 : ∀ u, (w9.setCell ⟨Vb, Vo + Y, none⟩ u).cell? ⟨wr.heap.size, 1, none⟩ = some (.int .i64 Y) := fun u => by simpa using ((K8.out.keep hw9).setOther nVE (Vo + Y) u).cell 1
                    obtain ⟨pY, hpY'⟩ : ∃ p, p = (stTick q).par.getD Y 0 := ⟨_, rfl⟩
                    have v3 : ∀ u, (w9.setCell ⟨Vb, Vo + Y, none⟩ u).cell? ⟨Pb, Y, none⟩ = some (.int .i64 pY) := fun u => by rw [hpY']; exact ((h9.par.other (X := Vb) (fun e => nVP e.symm)).cell (by rw [h9.ok.par]; exact hY)).1
                    have v4 := hpY.2
                    clear hw9 h9 hpY hpY'
                    cases hbb : mBet m G Z
                    · rw [hbb] at HBT1 HLOOK
                      have hrel2 : Hid (SpI W0 (w1.heap.size + 1 + 1) (w1.heap.size + 1 + 1 + 1) m N (stScan m (k : Int) (es.take (k3 + 1)) st1) Pb pc Vb Vo vc w1.heap.size lo w9 (.slice va6 (st.ord.length + 1) vc6)) := Lib.hid (by
                        rw [HSTT.out, HLOOK.out]
                        exact H9.out)
                      go_wp2_with (go_at_call 105; (with_reducible refine (HBT1.out _).mono ?_); rintro e wB ⟨rfl, rfl⟩)
                      go_roundw
                      case rel => first | exact ⟨k3 + 1, by omega, by go_num, hrel2⟩ | ((repeat apply Exists.intro); exact ⟨⟨k3 + 1, by omega, by go_num, hrel2⟩, rfl⟩)
                      case measure => simp [intOf]; omega
                    · rw [hbb] at HBT1 HLOOK
                      have hrel2 : Hid (SpI W0 (w1.heap.size + 1 + 1) (w1.heap.size + 1 + 1 + 1) m N (stScan m (k : Int) (es.take (k3 + 1)) st1) Pb pc Vb Vo vc w1.heap.size lo ((w9.setCell ⟨Vb, Vo + Y, none⟩ (.int .i64 G)).setCell ⟨Pb, Y, none⟩ (.int .i64 k)) (.slice va6 (st.ord.length + 1) vc6)) := Lib.hid (by
                        rw [HSTT.out, HLOOK.out]
                        exact H9.out.take hY G (k : Int) HGI.out)
                      go_wp2_with (go_at_call 105; (with_reducible refine (HBT1.out _).mono ?_); rintro e wB ⟨rfl, rfl⟩)
                      go_roundw
                      case rel => first | exact ⟨k3 + 1, by omega, by go_num, hrel2⟩ | ((repeat apply Exists.intro); exact ⟨⟨k3 + 1, by omega, by go_num, hrel2⟩, rfl⟩)
                      case measure => simp [intOf]; omega
                  · have HNL : Hid (stLook m (k : Int) q ((k : Int), (Y : Int), z) = q) := Lib.hid (by
                      unfold stLook
                      rw [if_neg]
                      unfold isLook
                      simp only [Int.toNat_natCast]
                      rw [← HDN.out]
                      simp)
                    have hrel2 : Hid (SpI W0 (w1.heap.size + 1 + 1) (w1.heap.size + 1 + 1 + 1) m N (stScan m (k : Int) (es.take (k3 + 1)) st1) Pb pc Vb Vo vc w1.heap.size lo (wr.alloc (.cells #[.int .i64 k, .int .i64 Y, .int .i64 z] 49)) (.slice va6 (st.ord.length + 1) vc6)) := Lib.hid (by
                      rw [HSTT.out, HNL.out]
                      exact HJ2.out.keep ((Below.refl _ _).alloc (Nat.le_refl _) _))
                    go_wp2_with fail
                    go_roundw
                    case rel => first | exact ⟨k3 + 1, by omega, by go_num, hrel2⟩ | ((repeat apply Exists.intro); exact ⟨⟨k3 + 1, by omega, by go_num, hrel2⟩, rfl⟩)
                    case measure => simp [intOf]; omega
                · have d1 : ((X : Int) != (k : Int)) = true := by simp; omega
                  have HNL : Hid (stLook m (k : Int) q ((X : Int), (Y : Int), z) = q) := Lib.hid (by
                    unfold stLook
                    rw [if_neg]
                    unfold isLook
                    rw [decide_eq_false (show ¬ ((X : Int) = (k : Int)) by omega)]
                    simp)
                  have hrel2 : Hid (SpI W0 (w1.heap.size + 1 + 1) (w1.heap.size + 1 + 1 + 1) m N (stScan m (k : Int) (es.take (k3 + 1)) st1) Pb pc Vb Vo vc w1.heap.size lo (wr.alloc (.cells #[.int .i64 X, .int .i64 Y, .int .i64 z] 49)) (.slice va6 (st.ord.length + 1) vc6)) := Lib.hid (by
                    rw [HSTT.out, HNL.out]
                    exact HJ2.out.keep ((Below.refl _ _).alloc (Nat.le_refl _) _))
                  go_wp2_with fail
                  go_roundw
                  case rel => first | exact ⟨k3 + 1, by omega, by go_num, hrel2⟩ | ((repeat apply Exists.intro); exact ⟨⟨k3 + 1, by omega, by go_num, hrel2⟩, rfl⟩)
                  case measure => simp [intOf]; omega
              · have hke : es.length = k3 := by omega
                have hkk : ¬ ((k3 : Int) < es.length) := by omega
                have HKE := Lib.hid hke
                have hfin : Hid (∃ f', RunI W0 (w1.heap.size + 1 + 1) (w1.heap.size + 1 + 1 + 1) m N es target R Pb pc Vb Vo vc w1.heap.size lo wr (stScan m (k : Int) es st1) f' (.slice va6 (st.ord.length + 1) vc6) ∧ N - lenAt (w1.heap.size + 1 + 1) 0 wr < N - st.ord.length) := Lib.hid (by
                  have hJ := HJ.out
                  rw [← HKE.out, List.take_length] at hJ
                  have e1 := HI.out.run
                  obtain ⟨f', hf'⟩ : ∃ f', f = f' + 1 := ⟨f - 1, by have := HI.out.nd; have := HNX.out.2.2; omega⟩
                  rw [hf', stRun_go HNX.out.1 HKT.out, ← HST1.out] at e1
                  have hor1 : st1.ord.length = st.ord.length + 1 := by rw [HST1.out]; simp [stMark]
                  have hor2 : (stScan m (k : Int) es st1).ord.length = st.ord.length + 1 := by rw [stScan_ord, hor1]
                  have hnd2 : nd (stScan m (k : Int) es st1).done + 1 = nd st.done := by rw [stScan_done, HST1.out]; exact HNX.out.2.2
                  have hlk2 := stScan_looks m (k : Int) es st1
                  have hlk3 : st1.looks = st.looks := by rw [HST1.out]; rfl
                  have h1 := HI.out.nd
                  have h2 := HI.out.looks
                  have h3 := HI.out.ord
                  have h4 := hJ.len
                  exact ⟨f', ⟨by omega, e1, hJ, by rw [hor2]; omega, by rw [hor2]; omega⟩, by rw [h4, hor2]; omega⟩)
                clear hke
                go_wp2
                go_roundw
                case rel =>
                  obtain ⟨f', h1, -⟩ := hfin.out
                  first | exact ⟨_, _, _, Lib.hid h1⟩ | ((repeat apply Exists.intro); exact ⟨⟨_, _, _, Lib.hid h1⟩, rfl⟩)
                case measure =>
                  obtain ⟨f', -, h1⟩ := hfin.out
                  rw [HLEN.out]
                  exact h1
end Go.Proofs.Ytbhhbhopogkmnaa
namespace Go.Proofs.Ytbhhbhopogkmnaa
open Go.RowKit Go.BigFrame Go.Deep
set_option linter.unusedVariables false
set_option linter.unusedSimpArgs false

theorem onOk_snd (n : Int) (es : List Ed) (m a b : Int) : onOk n es m [a, b] = (onOk n es m [a] && inN n b) := by
  unfold onOk
  simp only [List.all_cons, List.all_nil, Bool.and_true]
  cases gVal n es <;> cases inN n a <;> cases inN n b <;> cases mKind m <;> rfl
set_option maxRecDepth 20000 in
set_option maxHeartbeats 8000000 in
theorem sBestFirst (n m a : Int) (es : List Ed) (s : Value) (w : World) (hs : RowE w s es) (hl : es.length ≤ 281474976710656) :
    Calls Try.prog 56 #[.agg #[.int .i64 n, s], .int .i64 m, .int .i64 a] w fun e w' => ∃ p q r, e = .returned (.tuple #[.agg #[p, q, r, .int .i64 (bfV (onOk n es m [a]) (bfR m (-1) es n.toNat a.toNat)).looks], .bool (onOk n es m [a])]) ∧ R3 true true w' w.heap.size w'.heap.size p q r (bfV (onOk n es m [a]) (bfR m (-1) es n.toNat a.toNat)).ord.length (bfV (onOk n es m [a]) (bfR m (-1) es n.toNat a.toNat)).par.length (bfV (onOk n es m [a]) (bfR m (-1) es n.toNat a.toNat)).vals.length (cellI (bfV (onOk n es m [a]) (bfR m (-1) es n.toNat a.toNat)).ord) (cellI (bfV (onOk n es m [a]) (bfR m (-1) es n.toNat a.toNat)).par) (cellI (bfV (onOk n es m [a]) (bfR m (-1) es n.toNat a.toNat)).vals) ∧ Below w.heap.size w w' := by
  have hB : ∀ (A B : Obj), Below w.heap.size w ((w.alloc A).alloc B) := fun A B => ((Below.refl _ _).alloc (Nat.le_refl _) _).alloc (by simp) _
  have ho := fun A B => l3Right n m a es s _ (hs.keep (hB A B)) hl
  have hR := Lib.hid hs
  obtain ⟨ad, cap, rfl, hz0⟩ := hs
  clear hz0
  have HB := Lib.hid hB
  obtain ⟨G, hG⟩ : ∃ G, G = onOk n es m [a] := ⟨_, rfl⟩
  rw [← hG] at ho ⊢
  have HO := Lib.hid ho
  have QG := Lib.hid hG
  clear ho hB hG
  cases G
  · unfold bfV
    rw [if_neg (by decide)]
    go_enter Try.func56, Try.ntmps56
    go_wp2_with (go_at_call 79; (with_reducible refine (HO.out _ _).mono ?_); rintro e w1 ⟨rfl, hb1⟩; have x0 := hb1.cell (p := ⟨w.heap.size + 1, 0, none⟩) (by simp <;> omega); have x1 := hb1.cell (p := ⟨w.heap.size + 1, 1, none⟩) (by simp <;> omega); have x2 := hb1.cell (p := ⟨w.heap.size + 1, 2, none⟩) (by simp <;> omega); have x3 := hb1.cell (p := ⟨w.heap.size + 1, 3, none⟩) (by simp <;> omega); have f0 := hb1.frozen (p := ⟨w.heap.size + 1, 0, none⟩) (by simp <;> omega); have f1 := hb1.frozen (p := ⟨w.heap.size + 1, 1, none⟩) (by simp <;> omega); have f2 := hb1.frozen (p := ⟨w.heap.size + 1, 2, none⟩) (by simp <;> omega); have f3 := hb1.frozen (p := ⟨w.heap.size + 1, 3, none⟩) (by simp <;> omega); have y0 := hb1.cell (p := ⟨w.heap.size, 0, none⟩) (by simp <;> omega); have y1 := hb1.cell (p := ⟨w.heap.size, 1, none⟩) (by simp <;> omega))
    try simp only [Exit.inBlock, Exit.then]
    refine bodyPost_ret (v := .tuple #[.agg #[.slice none 0 0, .slice none 0 0, .slice none 0 0, .int .i64 0], .bool false]) ?_ rfl ?_
    · rw [results_cell_tmp rfl]
      go_simp
    have hbw := bel_trans (HB.out _ _) hb1
    exact ⟨_, _, _, rfl, R3.nil' _ (by have := hbw.size; simp; omega), (((hbw.setCell (by simp) _).setCell (by simp) _).setCell (by simp) _).setCell (by simp) _⟩
  · unfold bfV
    rw [if_pos rfl]
    have hp := onOk_parts QG.out.symm
    obtain ⟨g1, g2, g3, _⟩ := gVal_parts hp.1
    have ha := hp.2.1 a (by simp)
    have hm := hp.2.2
    obtain ⟨N, rfl⟩ := Int.eq_ofNat_of_zero_le (show 0 ≤ n by omega)
    obtain ⟨A, rfl⟩ := Int.eq_ofNat_of_zero_le ha.1
    rw [Int.toNat_natCast, Int.toNat_natCast]
    have hst := fun w' (h : Below w.heap.size w w') => l4Run (N := N) (src := A) (-1) hm (hR.out.keep h) hp.1 (by omega)
    generalize bfR m (-1) es N A = R at hst ⊢
    have HST := Lib.hid hst
    clear hst hp ha
    go_enter Try.func56, Try.ntmps56
    go_wp2_with (first | (go_at_call 79; (with_reducible refine (HO.out _ _).mono ?_); rintro e w1 ⟨rfl, hb1⟩; have x0 := hb1.cell (p := ⟨w.heap.size + 1, 0, none⟩) (by simp <;> omega); have x1 := hb1.cell (p := ⟨w.heap.size + 1, 1, none⟩) (by simp <;> omega); have x2 := hb1.cell (p := ⟨w.heap.size + 1, 2, none⟩) (by simp <;> omega); have x3 := hb1.cell (p := ⟨w.heap.size + 1, 3, none⟩) (by simp <;> omega); have f0 := hb1.frozen (p := ⟨w.heap.size + 1, 0, none⟩) (by simp <;> omega); have f1 := hb1.frozen (p := ⟨w.heap.size + 1, 1, none⟩) (by simp <;> omega); have f2 := hb1.frozen (p := ⟨w.heap.size + 1, 2, none⟩) (by simp <;> omega); have f3 := hb1.frozen (p := ⟨w.heap.size + 1, 3, none⟩) (by simp <;> omega); have y0 := hb1.cell (p := ⟨w.heap.size, 0, none⟩) (by simp <;> omega); have y1 := hb1.cell (p := ⟨w.heap.size, 1, none⟩) (by simp <;> omega)) | (go_at_call 80; (with_reducible refine (HST.out _ (bel_trans (HB.out _ _) hb1)).mono ?_); rintro e w2 ⟨p, q, r, rfl, hr3, hb2⟩; have HR3 := Lib.hid hr3; obtain ⟨pa, pc, qa, qc, ra, rc, rfl, rfl, rfl⟩ := hr3.slices; have z0 := (hb2.cell (p := ⟨w.heap.size + 1, 0, none⟩) (by have := hb1.size; simp at this; simp only; omega)).trans x0; have z1 := (hb2.cell (p := ⟨w.heap.size + 1, 1, none⟩) (by have := hb1.size; simp at this; simp only; omega)).trans x1; have z2 := (hb2.cell (p := ⟨w.heap.size + 1, 2, none⟩) (by have := hb1.size; simp at this; simp only; omega)).trans x2; have z3 := (hb2.cell (p := ⟨w.heap.size + 1, 3, none⟩) (by have := hb1.size; simp at this; simp only; omega)).trans x3; have g0 := (hb2.frozen (p := ⟨w.heap.size + 1, 0, none⟩) (by have := hb1.size; simp at this; simp only; omega)).trans f0; have g1 := (hb2.frozen (p := ⟨w.heap.size + 1, 1, none⟩) (by have := hb1.size; simp at this; simp only; omega)).trans f1; have g2 := (hb2.frozen (p := ⟨w.heap.size + 1, 2, none⟩) (by have := hb1.size; simp at this; simp only; omega)).trans f2; have g3 := (hb2.frozen (p := ⟨w.heap.size + 1, 3, none⟩) (by have := hb1.size; simp at this; simp only; omega)).trans f3))
    try simp only [Exit.inBlock, Exit.then]
    refine bodyPost_ret (v := .tuple #[.agg #[.slice pa R.ord.length pc, .slice qa R.par.length qc, .slice ra R.vals.length rc, .int .i64 R.looks], .bool true]) ?_ rfl ?_
    · rw [results_cell_tmp rfl]
      go_simp
    have hbw := bel_trans (HB.out _ _) hb1
    have hs1 : w.heap.size + 2 ≤ w1.heap.size := by have h2 := hb1.size; simp at h2; omega
    have hs2 := hb2.size
    have hch : ∀ x y z u, Chg (w.heap.size + 1) (w.heap.size + 2) w2 ((((w2.setCell ⟨w.heap.size + 1, 0, none⟩ x).setCell ⟨w.heap.size + 1, 1, none⟩ y).setCell ⟨w.heap.size + 1, 2, none⟩ z).setCell ⟨w.heap.size + 1, 3, none⟩ u) := fun x y z u => ((((Chg.refl _ _ _).setCell (by simp only; omega) (by simp only; omega) _).setCell (by simp only; omega) (by simp only; omega) _).setCell (by simp only; omega) (by simp only; omega) _).setCell (by simp only; omega) (by simp only; omega) _
    refine ⟨_, _, _, rfl, ?_, bel_chg (bel_trans hbw hb2) (hch _ _ _ _) (by omega)⟩
    exact (R3.chg HR3.out (hch _ _ _ _) (.inl (by omega))).wider (by omega) (hch _ _ _ _).size (Nat.le_refl _)

end Go.Proofs.Ytbhhbhopogkmnaa
namespace Go.Proofs.Ytbhhbhopogkmnaa
set_option linter.unusedVariables false
set_option linter.unusedSimpArgs false

theorem getD_app_l {l k : List Int} {i : Nat} (h : i < l.length) (d : Int) : (l ++ k).getD i d = l.getD i d := by
  simp [List.getD, List.getElem?_append, h]
theorem getD_app_r {l : List Int} {x d : Int} : (l ++ [x]).getD l.length d = x := by
  simp [List.getD]
theorem getD_mem {l : List Int} {i : Nat} (h : i < l.length) (d : Int) : l.getD i d ∈ l := by
  rw [show l.getD i d = l[i] by simp [List.getD, h]]
  exact List.getElem_mem h

/-- What looking from a node at a row of edges does. -/
structure Sc (m : Int) (N i : Nat) (l : List Ed) (st st' : St) : Prop where
  ok : StOk m N st'
  done : st'.done = st.done
  ord : st'.ord = st.ord
  keep : ∀ j, j < N → st.done.getD j true = true → st'.vals.getD j 0 = st.vals.getD j 0 ∧ st'.par.getD j 0 = st.par.getD j 0
  le : ∀ j, j < N → mBet m (st.vals.getD j 0) (st'.vals.getD j 0) = false
  give : ∀ e ∈ l, e.1 = (i : Int) → st.done.getD e.2.1.toNat true = false → mBet m (vGive m st.vals e) (st'.vals.getD e.2.1.toNat 0) = false
  how : ∀ j, j < N → (st'.vals.getD j 0 = st.vals.getD j 0 ∧ st'.par.getD j 0 = st.par.getD j 0) ∨ ∃ e ∈ l, e.1 = (i : Int) ∧ e.2.1.toNat = j ∧ st.done.getD j true = false ∧ st'.vals.getD j 0 = vGive m st.vals e ∧ st'.par.getD j 0 = (i : Int) ∧ st'.vals.getD j 0 ≠ mNone m
  looks : st.looks ≤ st'.looks ∧ st'.looks ≤ st.looks + ((l.countP (fun e => decide (e.1 = (i : Int))) : Nat) : Int)
theorem bet_ne_none {m a b : Int} (hb : mIn m b = true) (h : mBet m a b = true) : a ≠ mNone m := by
  intro e
  rw [e, none_worst hb] at h
  cases h
theorem sc_nil {m : Int} {N i : Nat} {st : St} (hm : mKind m = true) (h : StOk m N st) : Sc m N i [] st st :=
  ⟨h, rfl, rfl, fun _ _ _ => ⟨rfl, rfl⟩, fun _ _ => le_refl' hm, (fun e he => by cases he), fun _ _ => .inl ⟨rfl, rfl⟩, (by simp)⟩
theorem sc_one {m : Int} {N i : Nat} {st : St} {e : Ed} (hm : mKind m = true) (h : StOk m N st) (hi : i < N) (hd : st.done.getD i true = true)
    (he : (0 ≤ e.1 ∧ e.1.toNat < N) ∧ (0 ≤ e.2.1 ∧ e.2.1.toNat < N) ∧ mWeight e.2.2 = true) : Sc m N i [e] st (stLook m i st e) := by
  have hok : StOk m N (stLook m i st e) := stLook_ok hm h he.1.2 he.2.2
  unfold stLook at hok ⊢
  by_cases hl : isLook (i : Int) st e = true
  · rw [if_pos hl] at hok ⊢
    unfold isLook at hl
    rw [Bool.and_eq_true, decide_eq_true_eq] at hl
    obtain ⟨h1, h2⟩ := hl
    have h2' : st.done.getD e.2.1.toNat true = false := by simpa using h2
    have hc : ([e].countP (fun e => decide (e.1 = (i : Int)))) = 1 := by simp [h1]
    unfold stFollow at hok ⊢
    by_cases hb : stBetter m (stTick st) e = true
    · rw [if_pos hb] at hok ⊢
      have hb' : mBet m (vGive m st.vals e) (st.vals.getD e.2.1.toNat 0) = true := hb
      have hgv : ∀ j, j < N → (st.vals.set e.2.1.toNat (vGive m st.vals e)).getD j 0 = if e.2.1.toNat = j then vGive m st.vals e else st.vals.getD j 0 := fun j hj => getD_set _ _ _ _ (by rw [h.vals]; exact hj)
      have hgp : ∀ j, j < N → (st.par.set e.2.1.toNat e.1).getD j 0 = if e.2.1.toNat = j then e.1 else st.par.getD j 0 := fun j hj => getD_set _ _ _ _ (by rw [h.par]; exact hj)
      have hne : vGive m st.vals e ≠ mNone m := bet_ne_none (h.all _ (by rw [h.vals]; exact he.2.1.2)) hb'
      refine ⟨hok, rfl, rfl, fun j hj hjd => ?_, fun j hj => ?_, fun e' he' _ _ => ?_, fun j hj => ?_, ?_⟩
      · have hn : ¬ e.2.1.toNat = j := by intro q; subst q; rw [h2'] at hjd; cases hjd
        refine ⟨?_, ?_⟩
        · show (st.vals.set e.2.1.toNat (vGive m st.vals e)).getD j 0 = _
          rw [hgv j hj, if_neg hn]
        · show (st.par.set e.2.1.toNat e.1).getD j 0 = _
          rw [hgp j hj, if_neg hn]
      · show mBet m _ ((st.vals.set e.2.1.toNat (vGive m st.vals e)).getD j 0) = false
        rw [hgv j hj]
        split
        · rename_i q; subst q; exact lt_le hm hb'
        · exact le_refl' hm
      · rw [List.mem_singleton.1 he']
        show mBet m _ ((st.vals.set e.2.1.toNat (vGive m st.vals e)).getD e.2.1.toNat 0) = false
        rw [hgv _ he.2.1.2, if_pos rfl]
        exact le_refl' hm
      · by_cases q : e.2.1.toNat = j
        · refine .inr ⟨e, List.mem_singleton.2 rfl, h1, q, by rw [← q]; exact h2', ?_, ?_, ?_⟩
          · show (st.vals.set e.2.1.toNat (vGive m st.vals e)).getD j 0 = _
            rw [hgv j hj, if_pos q]
          · show (st.par.set e.2.1.toNat e.1).getD j 0 = _
            rw [hgp j hj, if_pos q, h1]
          · show (st.vals.set e.2.1.toNat (vGive m st.vals e)).getD j 0 ≠ _
            rw [hgv j hj, if_pos q]
            exact hne
        · refine .inl ⟨?_, ?_⟩
          · show (st.vals.set e.2.1.toNat (vGive m st.vals e)).getD j 0 = _
            rw [hgv j hj, if_neg q]
          · show (st.par.set e.2.1.toNat e.1).getD j 0 = _
            rw [hgp j hj, if_neg q]
      · rw [hc]
        show st.looks ≤ st.looks + 1 ∧ st.looks + 1 ≤ st.looks + ((1 : Nat) : Int)
        omega
    · rw [if_neg hb] at hok ⊢
      have hb' : mBet m (vGive m st.vals e) (st.vals.getD e.2.1.toNat 0) = false := by
        rw [Bool.not_eq_true] at hb; exact hb
      refine ⟨hok, rfl, rfl, fun j hj hjd => ⟨rfl, rfl⟩, fun j hj => le_refl' hm, fun e' he' _ _ => ?_, fun j hj => .inl ⟨rfl, rfl⟩, ?_⟩
      · rw [List.mem_singleton.1 he']; exact hb'
      · rw [hc]
        show st.looks ≤ st.looks + 1 ∧ st.looks + 1 ≤ st.looks + ((1 : Nat) : Int)
        omega
  · rw [if_neg hl] at hok ⊢
    refine ⟨h, rfl, rfl, fun j hj hjd => ⟨rfl, rfl⟩, fun j hj => le_refl' hm, fun e' he' h1 h2 => ?_, fun j hj => .inl ⟨rfl, rfl⟩, ?_⟩
    · rw [List.mem_singleton.1 he'] at h1 h2 ⊢
      exact absurd (show isLook (i : Int) st e = true by unfold isLook; rw [h1, h2]; simp) hl
    · omega
theorem Sc.trans {m : Int} {N i : Nat} {l l' : List Ed} {st st1 st2 : St} (hm : mKind m = true) (hi : i < N) (hd : st.done.getD i true = true) (hl : ∀ e ∈ l', e.2.1.toNat < N) (hl0 : ∀ e ∈ l, e.2.1.toNat < N)
    (h1 : Sc m N i l st st1) (h2 : Sc m N i l' st1 st2) : Sc m N i (l ++ l') st st2 := by
  have hg : ∀ e : Ed, e.1 = (i : Int) → vGive m st1.vals e = vGive m st.vals e := by
    intro e he
    unfold vGive
    rw [he, Int.toNat_natCast, (h1.keep i hi hd).1]
  refine ⟨h2.ok, h2.done.trans h1.done, h2.ord.trans h1.ord, fun j hj hjd => ?_, fun j hj => le_trans' hm (h2.le j hj) (h1.le j hj), fun e he he1 he2 => ?_, fun j hj => ?_, ?_⟩
  · have a := h1.keep j hj hjd
    have b := h2.keep j hj (by rw [h1.done]; exact hjd)
    exact ⟨b.1.trans a.1, b.2.trans a.2⟩
  · rcases List.mem_append.1 he with q | q
    · exact le_trans' hm (h2.le _ (hl0 e q)) (h1.give e q he1 he2)
    · have := h2.give e q he1 (by rw [h1.done]; exact he2)
      rwa [hg e he1] at this
  · rcases h2.how j hj with ⟨a, b⟩ | ⟨e, q1, q2, q3, q4, q5, q6, q7⟩
    · rcases h1.how j hj with ⟨c, d⟩ | ⟨e, q1, q2, q3, q4, q5, q6, q7⟩
      · exact .inl ⟨a.trans c, b.trans d⟩
      · exact .inr ⟨e, List.mem_append.2 (.inl q1), q2, q3, q4, a.trans q5, b.trans q6, by rw [a]; exact q7⟩
    · exact .inr ⟨e, List.mem_append.2 (.inr q1), q2, q3, by rw [← h1.done]; exact q4, by rw [q5, hg e q2], q6, q7⟩
  · have a := h1.looks
    have b := h2.looks
    rw [List.countP_append]
    omega
theorem sc_scan {m : Int} {N i : Nat} (hm : mKind m = true) (hi : i < N) : ∀ (l : List Ed) (st : St), StOk m N st → st.done.getD i true = true → eAll N l → Sc m N i l st (stScan m i l st)
  | [], st, h, _, _ => sc_nil hm h
  | e :: l, st, h, hd, he => by
    have h1 := sc_one (e := e) hm h hi hd (he e (List.mem_cons_self ..))
    have h2 := sc_scan hm hi l _ h1.ok (by rw [h1.done]; exact hd) (fun e' h' => he e' (List.mem_cons_of_mem _ h'))
    exact h1.trans hm hi hd (fun e' h' => (he e' (List.mem_cons_of_mem _ h')).2.1.2) (fun e' h' => by rw [List.mem_singleton.1 h']; exact (he e (List.mem_cons_self ..)).2.1.2) h2

/-- The edges from settled nodes, but those from x. -/
def lkB (x : Int) (done : List Bool) (e : Ed) : Bool := decide (e.1 ≠ x) && done.getD e.1.toNat true
theorem countP_two {α : Type} (p q r : α → Bool) : ∀ (l : List α), (∀ x ∈ l, p x = true → q x = false ∧ r x = true) → (∀ x ∈ l, q x = true → r x = true) → l.countP p + l.countP q ≤ l.countP r
  | [], _, _ => by simp
  | x :: l, h1, h2 => by
    have ih := countP_two p q r l (fun y hy => h1 y (List.mem_cons_of_mem _ hy)) (fun y hy => h2 y (List.mem_cons_of_mem _ hy))
    have a := h1 x (List.mem_cons_self ..)
    have b := h2 x (List.mem_cons_self ..)
    simp only [List.countP_cons]
    cases hp : p x
    · cases hq : q x
      · simp; omega
      · rw [b hq]; simp; omega
    · obtain ⟨c, d⟩ := a hp
      rw [c, d]; simp; omega
/-- What holds whenever a node is to be settled (x = -1), or when one has been and its edges are not looked at yet (x the node). -/
structure DjI (m : Int) (N a : Nat) (es : List Ed) (x : Int) (st : St) : Prop where
  ok : StOk m N st
  mem : ∀ i, i < N → (st.done.getD i true = true ↔ (i : Int) ∈ st.ord)
  rng : ∀ y ∈ st.ord, 0 ≤ y ∧ y.toNat < N
  nodup : st.ord.Nodup
  low : ∀ i, i < N → mBet m (st.vals.getD i 0) ((vRt m N es a).getD i 0) = false
  src : st.vals.getD a 0 = mOne m
  sep : ∀ i j, i < N → j < N → st.done.getD i true = true → st.done.getD j true = false → mBet m (st.vals.getD j 0) (st.vals.getD i 0) = false
  tight : ∀ e ∈ es, e.1 ≠ x → st.done.getD e.1.toNat true = true → mBet m (vGive m st.vals e) (st.vals.getD e.2.1.toNat 0) = false
  some : ∀ i, i < N → st.done.getD i true = true → st.vals.getD i 0 ≠ mNone m
  mono : ∀ k, k + 1 < st.ord.length → mBet m (st.vals.getD (st.ord.getD (k + 1) 0).toNat 0) (st.vals.getD (st.ord.getD k 0).toNat 0) = false
  looks : 0 ≤ st.looks ∧ st.looks ≤ ((es.countP (lkB x st.done) : Nat) : Int)
  par0 : st.par.getD a 0 = -1
  parN : ∀ j, j < N → j ≠ a → st.vals.getD j 0 ≠ mNone m → ∃ e ∈ es, e.2.1.toNat = j ∧ e.1 = st.par.getD j 0 ∧ st.vals.getD j 0 = vGive m st.vals e ∧ st.par.getD j 0 ∈ st.ord
  parO : ∀ k, k < st.ord.length → 1 ≤ k → st.par.getD (st.ord.getD k 0).toNat 0 ∈ st.ord.take k
  head : st.ord.getD 0 (a : Int) = a
  last : ∀ i : Nat, x = (i : Int) → i < N → ∀ j, j < N → st.done.getD j true = true → mBet m (st.vals.getD i 0) (st.vals.getD j 0) = false
  init : st.ord = [] → ∀ j, j < N → j ≠ a → st.vals.getD j 0 = mNone m
section
variable {m : Int} {N a : Nat} {es : List Ed} {st : St}
theorem dj_start (hm : mKind m = true) (he : eAll N es) (ha : a < N) : DjI m N a es (-1) (bf0 m N a) := by
  have hv : ∀ j, j < N → (bf0 m N a).vals.getD j 0 = if (j : Int) = a then mOne m else mNone m := fun j hj => vStart_at m N a (by rw [Int.toNat_natCast]; exact hj)
  have hd : ∀ j, j < N → (bf0 m N a).done.getD j true = false := by
    intro j hj
    show (List.replicate N false).getD j true = false
    simp [List.getD, hj]
  have hp : ∀ j, j < N → (bf0 m N a).par.getD j 0 = -1 := by
    intro j hj
    show (List.replicate N (-1)).getD j 0 = -1
    simp [List.getD, hj]
  have heN : eAll ((N : Int)).toNat es := by rw [Int.toNat_natCast]; exact he
  have hrt : ∀ i, i < N → mIn m ((vRt m N es a).getD i 0) = true := fun i hi => vRt_in hm heN a (by rw [Int.toNat_natCast]; exact hi)
  have hsr := vRt_src (n := N) hm heN (a := a) (by omega) (by rw [Int.toNat_natCast, Int.toNat_natCast]; exact ha)
  rw [Int.toNat_natCast] at hsr
  refine ⟨⟨by simp [bf0], by simp [bf0, vStart_length], by simp [bf0], vStart_all hm⟩, fun i hi => ?_, (fun y hy => by cases hy), List.nodup_nil, fun i hi => ?_, ?_, fun i j hi _ h => ?_, fun e hein _ h => ?_, fun i hi h => ?_, (fun k hk => by simp [bf0] at hk), ?_, hp a ha, fun j hj hja hn => ?_, (fun k hk => by simp [bf0] at hk), rfl, (fun i q => by omega), fun _ j hj hja => ?_⟩
  · rw [hd i hi]; simp [bf0]
  · rw [hv i hi]
    split
    · rename_i q
      have : i = a := by omega
      rw [this, hsr]; exact le_refl' hm
    · exact none_worst (hrt i hi)
  · rw [hv a ha, if_pos rfl]
  · rw [hd i hi] at h; cases h
  · rw [hd _ (he e hein).1.2] at h; cases h
  · rw [hd i hi] at h; cases h
  · refine ⟨Int.le_refl _, ?_⟩
    show (0 : Int) ≤ _
    omega
  · rw [hv j hj, if_neg (by omega)] at hn; exact absurd rfl hn
  · rw [hv j hj, if_neg (by omega)]
theorem dj_mark (hm : mKind m = true) (he : eAll N es) (ha : a < N) (h : DjI m N a es (-1) st) {i : Nat} (hi : i < N) (hok : okN m st.vals st.done i = true) (hmin : ∀ j, j < N → okN m st.vals st.done j = true → mBet m (st.vals.getD j 0) (st.vals.getD i 0) = false) :
    DjI m N a es i (stMark i st) := by
  have hd0 : st.done.getD i true = false := okN_lt hok
  have hvn : st.vals.getD i 0 ≠ mNone m := by
    intro q
    unfold okN at hok
    rw [q] at hok
    simp at hok
  have hD : ∀ j, j < N → (stMark i st).done.getD j true = if i = j then true else st.done.getD j true := fun j hj => getD_set_b _ _ _ (by rw [h.ok.done]; exact hj)
  have hni : (i : Int) ∉ st.ord := fun q => by rw [(h.mem i hi).2 q] at hd0; cases hd0
  have hallj : ∀ j, j < N → st.done.getD j true = false → mBet m (st.vals.getD j 0) (st.vals.getD i 0) = false := by
    intro j hj hjd
    by_cases q : st.vals.getD j 0 = mNone m
    · rw [q]; exact none_worst (h.ok.all i (by rw [h.ok.vals]; exact hi))
    · exact hmin j hj (by unfold okN; rw [hjd, decide_eq_false q]; rfl)
  have hmem : ∀ k, k < st.ord.length → st.ord.getD k 0 ∈ st.ord := fun k hk => getD_mem hk 0
  have hOl : ∀ k, k < st.ord.length → (stMark i st).ord.getD k 0 = st.ord.getD k 0 := fun k hk => getD_app_l hk 0
  have hOr : (stMark i st).ord.getD st.ord.length 0 = i := getD_app_r
  have hlen : (stMark i st).ord.length = st.ord.length + 1 := by simp [stMark]
  have hdn : ∀ y ∈ st.ord, st.done.getD y.toNat true = true := by
    intro y hy
    obtain ⟨y0, y1⟩ := h.rng y hy
    exact (h.mem y.toNat y1).2 (by rw [show ((y.toNat : Nat) : Int) = y by omega]; exact hy)
  refine ⟨stMark_ok h.ok i, fun j hj => ?_, fun y hy => ?_, ?_, h.low, h.src, fun j k hj hk hjd hkd => ?_, fun e hein hx hed => ?_, fun j hj hjd => ?_, fun k hk => ?_, ?_, h.par0, fun j hj hja hn => ?_, fun k hk h1 => ?_, ?_, fun i' q hi' j hj hjd => ?_, fun q => ?_⟩
  · rw [hD j hj]
    show _ ↔ (j : Int) ∈ st.ord ++ [(i : Int)]
    rw [List.mem_append, List.mem_singleton]
    by_cases q : i = j
    · rw [if_pos q]; subst q; simp
    · rw [if_neg q, h.mem j hj]
      constructor
      · exact .inl
      · rintro (r | r)
        · exact r
        · exact absurd (by omega) q
  · rcases List.mem_append.1 hy with q | q
    · exact h.rng y q
    · rw [List.mem_singleton.1 q]; exact ⟨by omega, by rw [Int.toNat_natCast]; exact hi⟩
  · show (st.ord ++ [(i : Int)]).Nodup
    rw [List.nodup_append]
    refine ⟨h.nodup, by simp, fun y hy z hz => ?_⟩
    rw [List.mem_singleton.1 hz]
    intro q; subst q; exact hni hy
  · rw [hD j hj] at hjd
    rw [hD k hk] at hkd
    have hkd' : st.done.getD k true = false := by
      split at hkd
      · cases hkd
      · exact hkd
    show mBet m (st.vals.getD k 0) (st.vals.getD j 0) = false
    by_cases q : i = j
    · rw [← q]; exact hallj k hk hkd'
    · rw [if_neg q] at hjd; exact h.sep j k hj hk hjd hkd'
  · have hee := he e hein
    rw [hD _ hee.1.2, if_neg (by omega)] at hed
    exact h.tight e hein (by omega) hed
  · rw [hD j hj] at hjd
    show st.vals.getD j 0 ≠ _
    by_cases q : i = j
    · rw [← q]; exact hvn
    · rw [if_neg q] at hjd; exact h.some j hj hjd
  · rw [hlen] at hk
    show mBet m (st.vals.getD _ 0) (st.vals.getD _ 0) = false
    rw [hOl k (by omega)]
    by_cases q : k + 1 < st.ord.length
    · rw [hOl (k + 1) q]; exact h.mono k q
    · rw [show k + 1 = st.ord.length by omega, hOr, Int.toNat_natCast]
      have hy := hmem k (by omega)
      obtain ⟨y0, y1⟩ := h.rng _ hy
      exact h.sep _ i y1 hi (hdn _ hy) hd0
  · refine ⟨h.looks.1, Int.le_trans h.looks.2 ?_⟩
    have : es.countP (lkB (-1) st.done) ≤ es.countP (lkB i (stMark i st).done) := by
      apply List.countP_mono_left
      intro e hein hp
      have hee := he e hein
      unfold lkB at hp ⊢
      rw [Bool.and_eq_true] at hp
      have hne : ¬ e.1 = (i : Int) := by
        intro q
        rw [q, Int.toNat_natCast, hd0] at hp
        exact absurd hp.2 (by decide)
      rw [hD _ hee.1.2, if_neg (by omega), hp.2, decide_eq_true hne]
      rfl
    show _ ≤ ((es.countP (lkB i (stMark i st).done) : Nat) : Int)
    omega
  · obtain ⟨e, p1, p2, p3, p4, p5⟩ := h.parN j hj hja hn
    exact ⟨e, p1, p2, p3, p4, List.mem_append.2 (.inl p5)⟩
  · rw [hlen] at hk
    show st.par.getD _ 0 ∈ (st.ord ++ [(i : Int)]).take k
    rw [List.take_append_of_le_length (by omega)]
    by_cases q : k < st.ord.length
    · rw [hOl k q]; exact h.parO k q h1
    · have hkl : k = st.ord.length := by omega
      subst hkl
      rw [hOr, Int.toNat_natCast, List.take_length]
      by_cases r : i = a
      · exfalso
        have hy := hmem 0 (by omega)
        have hh := h.head
        rw [show st.ord.getD 0 (a : Int) = st.ord.getD 0 0 by simp [List.getD, show 0 < st.ord.length by omega]] at hh
        rw [hh, ← r] at hy
        exact hni hy
      · exact (h.parN i hi r hvn).choose_spec.2.2.2.2
  · show (st.ord ++ [(i : Int)]).getD 0 (a : Int) = a
    by_cases q : st.ord = []
    · rw [q]
      show (i : Int) = a
      by_cases r : i = a
      · omega
      · exact absurd (h.init q i hi r) hvn
    · have hl : 0 < st.ord.length := List.length_pos_iff.2 q
      rw [getD_app_l hl]; exact h.head
  · have e0 : i' = i := by omega
    subst e0
    rw [hD j hj] at hjd
    show mBet m (st.vals.getD i' 0) (st.vals.getD j 0) = false
    by_cases r : i' = j
    · rw [← r]; exact le_refl' hm
    · rw [if_neg r] at hjd; exact h.sep j i' hj hi hjd hd0
  · simp [stMark] at q
theorem dj_scan (hm : mKind m = true) (he : eAll N es) (ha : a < N) {i : Nat} (hi : i < N) (h : DjI m N a es i st) (hd : st.done.getD i true = true) {st' : St} (s : Sc m N i es st st') : DjI m N a es (-1) st' := by
  have heN : eAll ((N : Int)).toNat es := by rw [Int.toNat_natCast]; exact he
  have hrt : ∀ i, i < N → mIn m ((vRt m N es a).getD i 0) = true := fun i hi => vRt_in hm heN a (by rw [Int.toNat_natCast]; exact hi)
  have hin : ∀ i, i < N → mIn m (st.vals.getD i 0) = true := fun i hi => h.ok.all i (by rw [h.ok.vals]; exact hi)
  have hadone : st.ord ≠ [] := fun q => by have := (h.mem i hi).1 hd; rw [q] at this; cases this
  have hgk : ∀ e ∈ es, st.done.getD e.1.toNat true = true → vGive m st'.vals e = vGive m st.vals e := by
    intro e hein hed
    unfold vGive
    rw [(s.keep _ (he e hein).1.2 hed).1]
  have hdn : ∀ y ∈ st.ord, st.done.getD y.toNat true = true ∧ y.toNat < N := by
    intro y hy
    obtain ⟨y0, y1⟩ := h.rng y hy
    exact ⟨(h.mem y.toNat y1).2 (by rw [show ((y.toNat : Nat) : Int) = y by omega]; exact hy), y1⟩
  have hda : st.done.getD a true = true := by
    have hl : 0 < st.ord.length := List.length_pos_iff.2 hadone
    have hh := h.head
    have hy := getD_mem hl 0
    rw [show st.ord.getD 0 (a : Int) = st.ord.getD 0 0 by simp [List.getD, hl]] at hh
    rw [hh] at hy
    simpa using (hdn _ hy).1
  refine ⟨s.ok, (fun j hj => by rw [s.done, s.ord]; exact h.mem j hj), (fun y hy => by rw [s.ord] at hy; exact h.rng y hy), (by rw [s.ord]; exact h.nodup), fun j hj => ?_, (by rw [(s.keep a ha hda).1]; exact h.src), fun j k hj hk hjd hkd => ?_, fun e hein _ hed => ?_, fun j hj hjd => ?_, fun k hk => ?_, ?_, (by rw [(s.keep a ha hda).2]; exact h.par0), fun j hj hja hn => ?_, fun k hk h1 => ?_, (by rw [s.ord]; exact h.head), (fun i' q => by omega), fun q => absurd (s.ord ▸ q) hadone⟩
  · rcases s.how j hj with ⟨q, _⟩ | ⟨e, q1, q2, q3, q4, q5, q6, q7⟩
    · rw [q]; exact h.low j hj
    · rw [q5]
      have hee := he e q1
      have h1 := vRt_st (n := N) hm heN (a := a) (by omega) (by rw [Int.toNat_natCast, Int.toNat_natCast]; exact ha) e q1
      rw [q3] at h1
      refine le_trans' hm h1 ?_
      unfold vGive
      exact join_mono hm (hrt _ hee.1.2) (hin _ hee.1.2) (mEdge_in hm hee.2.2) (h.low _ hee.1.2)
  · rw [s.done] at hjd hkd
    rw [(s.keep j hj hjd).1]
    rcases s.how k hk with ⟨q, _⟩ | ⟨e, q1, q2, q3, q4, q5, q6, q7⟩
    · rw [q]; exact h.sep j k hj hk hjd hkd
    · -- the value that edge e gives is not better than that of i, the last one
      rw [q5]
      have hee := he e q1
      have e1 : e.1.toNat = i := by omega
      have h1 : mBet m (vGive m st.vals e) (st.vals.getD i 0) = false := by
        unfold vGive
        rw [e1]
        exact join_worse hm (hin i hi) (mEdge_in hm hee.2.2)
      exact le_trans' hm (h.last i rfl hi j hj hjd) h1
  · rw [s.done] at hed
    rw [hgk e hein hed]
    by_cases q : e.1 = (i : Int)
    · cases hto : st.done.getD e.2.1.toNat true
      · exact s.give e hein q hto
      · rw [(s.keep _ (he e hein).2.1.2 hto).1]
        have hee := he e hein
        have e1 : e.1.toNat = i := by omega
        have h1 : mBet m (vGive m st.vals e) (st.vals.getD i 0) = false := by
          unfold vGive
          rw [e1]
          exact join_worse hm (hin i hi) (mEdge_in hm hee.2.2)
        exact le_trans' hm (h.last i rfl hi _ hee.2.1.2 hto) h1
    · exact le_trans' hm (s.le _ (he e hein).2.1.2) (h.tight e hein q hed)
  · rw [s.done] at hjd
    rw [(s.keep j hj hjd).1]; exact h.some j hj hjd
  · rw [s.ord] at hk ⊢
    have y1 := hdn _ (getD_mem (show k < st.ord.length by omega) 0)
    have y2 := hdn _ (getD_mem hk 0)
    rw [(s.keep _ y1.2 y1.1).1, (s.keep _ y2.2 y2.1).1]
    exact h.mono k hk
  · refine ⟨Int.le_trans h.looks.1 s.looks.1, Int.le_trans s.looks.2 ?_⟩
    have h2 := h.looks.2
    have : es.countP (lkB i st.done) + es.countP (fun e => decide (e.1 = (i : Int))) ≤ es.countP (lkB (-1) st'.done) := by
      rw [s.done]
      apply countP_two
      · intro e hein hp
        unfold lkB at hp ⊢
        rw [Bool.and_eq_true, decide_eq_true_eq] at hp
        have := (he e hein).1.1
        exact ⟨decide_eq_false hp.1, by rw [hp.2, decide_eq_true (by omega)]; rfl⟩
      · intro e hein hp
        have hp' : e.1 = (i : Int) := by simpa using hp
        unfold lkB
        rw [hp', Int.toNat_natCast, hd, decide_eq_true (by omega)]; rfl
    omega
  · have hpo : ∀ j, j < N → st.par.getD j 0 ∈ st.ord → st.par.getD j 0 ∈ st'.ord := fun j _ q => by rw [s.ord]; exact q
    rcases s.how j hj with ⟨q, q'⟩ | ⟨e, q1, q2, q3, q4, q5, q6, q7⟩
    · rw [q] at hn
      obtain ⟨e, p1, p2, p3, p4, p5⟩ := h.parN j hj hja hn
      refine ⟨e, p1, p2, by rw [q']; exact p3, ?_, by rw [q', s.ord]; exact p5⟩
      rw [q, p4, hgk e p1]
      rw [p3]
      exact (hdn _ p5).1
    · refine ⟨e, q1, q3, by rw [q6]; exact q2, ?_, ?_⟩
      · rw [q5, hgk e q1]
        rw [q2, Int.toNat_natCast]; exact hd
      · rw [q6, s.ord]; exact (h.mem i hi).1 hd
  · rw [s.ord] at hk ⊢
    have y2 := hdn _ (getD_mem hk 0)
    rw [(s.keep _ y2.2 y2.1).2]
    exact h.parO k hk h1
theorem eLess_le {x y : En} (hm : mKind m = true) (h : eLess m x y = false) : mBet m x.2 y.2 = false := by
  unfold eLess at h
  split at h
  · rename_i q; rw [q]; exact le_refl' hm
  · exact h
/-- One round of a run. -/
theorem nx_cases (hm : mKind m = true) (st : St) : (nxF m st.vals st.done = -1 ∧ ∀ j, j < st.vals.length → okN m st.vals st.done j = false) ∨
    ∃ i : Nat, nxF m st.vals st.done = i ∧ i < st.vals.length ∧ okN m st.vals st.done i = true ∧ ∀ j, j < st.vals.length → okN m st.vals st.done j = true → mBet m (st.vals.getD j 0) (st.vals.getD i 0) = false := by
  rcases nxK_spec hm st.vals st.done st.vals.length with ⟨h1, h2⟩ | ⟨i, h1, h2, h3, h4⟩
  · exact .inl ⟨h1, h2⟩
  · exact .inr ⟨i, h1, h2, h3, fun j hj hjo => eLess_le hm (h4 j hj hjo)⟩
theorem run_stop {t : Int} {f : Nat} (h : nxF m st.vals st.done = -1) : stRun m t es (f + 1) st = st := by
  rw [stRun, if_pos (by omega)]
theorem run_hit {t : Int} {f i : Nat} (h : nxF m st.vals st.done = i) (q : (i : Int) = t) : stRun m t es (f + 1) st = stMark i st := by
  rw [stRun, if_neg (by omega), if_pos (by omega), h, Int.toNat_natCast]
theorem run_go {t : Int} {f i : Nat} (h : nxF m st.vals st.done = i) (q : (i : Int) ≠ t) : stRun m t es (f + 1) st = stRun m t es f (stScan m i es (stMark i st)) := by
  rw [stRun, if_neg (by omega), if_neg (by omega), h, Int.toNat_natCast]
/-- What is settled stays so. -/
structure Ext (N : Nat) (st R : St) : Prop where
  ord : ∃ l, R.ord = st.ord ++ l
  looks : st.looks ≤ R.looks
  keep : ∀ j, j < N → st.done.getD j true = true → R.done.getD j true = true ∧ R.vals.getD j 0 = st.vals.getD j 0 ∧ R.par.getD j 0 = st.par.getD j 0
theorem Ext.refl (N : Nat) (st : St) : Ext N st st := ⟨⟨[], by simp⟩, Int.le_refl _, fun _ _ h => ⟨h, rfl, rfl⟩⟩
theorem Ext.trans {N : Nat} {a b c : St} (h : Ext N a b) (k : Ext N b c) : Ext N a c := by
  obtain ⟨l, hl⟩ := h.ord
  obtain ⟨l', hl'⟩ := k.ord
  refine ⟨⟨l ++ l', by rw [hl', hl, List.append_assoc]⟩, Int.le_trans h.looks k.looks, fun j hj hd => ?_⟩
  obtain ⟨p1, p2, p3⟩ := h.keep j hj hd
  obtain ⟨q1, q2, q3⟩ := k.keep j hj p1
  exact ⟨q1, q2.trans p2, q3.trans p3⟩
theorem ext_mark (h : StOk m N st) (i : Nat) : Ext N st (stMark i st) := by
  refine ⟨⟨_, rfl⟩, Int.le_refl _, fun j hj hd => ⟨?_, rfl, rfl⟩⟩
  show (st.done.set i true).getD j true = true
  rw [getD_set_b _ _ _ (by rw [h.done]; exact hj), hd]
  simp
theorem ext_sc {i : Nat} {l : List Ed} {st' : St} (s : Sc m N i l st st') : Ext N st st' :=
  ⟨⟨[], by rw [s.ord, List.append_nil]⟩, s.looks.1, fun j hj hd => ⟨by rw [s.done]; exact hd, s.keep j hj hd⟩⟩
theorem mark_done (h : StOk m N st) {i : Nat} (hi : i < N) : (stMark i st).done.getD i true = true := by
  show (st.done.set i true).getD i true = true
  rw [getD_set_b _ _ _ (by rw [h.done]; exact hi), if_pos rfl]
theorem dj_step (hm : mKind m = true) (he : eAll N es) (ha : a < N) (h : DjI m N a es (-1) st) {i : Nat} (hi : i < st.vals.length) (hok : okN m st.vals st.done i = true) (hmin : ∀ j, j < st.vals.length → okN m st.vals st.done j = true → mBet m (st.vals.getD j 0) (st.vals.getD i 0) = false) :
    i < N ∧ DjI m N a es i (stMark i st) ∧ DjI m N a es (-1) (stScan m i es (stMark i st)) ∧ Ext N (stMark i st) (stScan m i es (stMark i st)) ∧ nd (stScan m i es (stMark i st)).done + 1 = nd st.done ∧ (stScan m i es (stMark i st)).ord = st.ord ++ [(i : Int)] := by
  have hiN : i < N := by rw [← h.ok.vals]; exact hi
  have h1 := dj_mark hm he ha h hiN hok (fun j hj => hmin j (by rw [h.ok.vals]; exact hj))
  have hs := sc_scan hm hiN es _ h1.ok (mark_done h.ok hiN) he
  refine ⟨hiN, h1, dj_scan hm he ha hiN h1 (mark_done h.ok hiN) hs, ext_sc hs, ?_, hs.ord⟩
  rw [hs.done]
  exact nd_set _ _ (okN_lt hok)
theorem dj_run (hm : mKind m = true) (he : eAll N es) (ha : a < N) : ∀ (f : Nat) (st : St), DjI m N a es (-1) st → DjI m N a es (-1) (stRun m (-1) es f st) ∧ Ext N st (stRun m (-1) es f st) ∧ (nd st.done < f → ∀ i, i < N → okN m (stRun m (-1) es f st).vals (stRun m (-1) es f st).done i = false)
  | 0, st, h => ⟨h, Ext.refl _ _, fun q => absurd q (Nat.not_lt_zero _)⟩
  | f + 1, st, h => by
    rcases nx_cases hm st with ⟨h1, h2⟩ | ⟨i, h0, h1, h2, h3⟩
    · rw [run_stop h1]
      exact ⟨h, Ext.refl _ _, fun _ i hi => h2 i (by rw [h.ok.vals]; exact hi)⟩
    · rw [run_go h0 (by omega)]
      obtain ⟨s1, s2, s3, s4, s5, s6⟩ := dj_step hm he ha h h1 h2 h3
      obtain ⟨r1, r2, r3⟩ := dj_run hm he ha f _ s3
      exact ⟨r1, ((ext_mark h.ok i).trans s4).trans r2, fun hf => r3 (by omega)⟩
/-- A run that reaches a target, and one to the end. -/
theorem run_target (hm : mKind m = true) (he : eAll N es) (ha : a < N) (t : Int) : ∀ (f : Nat) (st : St), DjI m N a es (-1) st → t ∉ st.ord →
    (stRun m t es f st = stRun m (-1) es f st ∧ t ∉ (stRun m t es f st).ord) ∨
      ∃ (st0 : St) (i : Nat), t = i ∧ i < N ∧ DjI m N a es i (stMark i st0) ∧ stRun m t es f st = stMark i st0 ∧ Ext N (stMark i st0) (stRun m (-1) es f st) ∧ t ∉ st0.ord
  | 0, st, h, ht => .inl ⟨rfl, ht⟩
  | f + 1, st, h, ht => by
    rcases nx_cases hm st with ⟨h1, h2⟩ | ⟨i, h0, h1, h2, h3⟩
    · rw [run_stop h1, run_stop h1]; exact .inl ⟨rfl, ht⟩
    · obtain ⟨s1, s2, s3, s4, s5, s6⟩ := dj_step hm he ha h h1 h2 h3
      rw [run_go (t := -1) h0 (by omega)]
      by_cases q : (i : Int) = t
      · rw [run_hit h0 q]
        exact .inr ⟨st, i, q.symm, s1, s2, rfl, s4.trans (dj_run hm he ha f _ s3).2.1, ht⟩
      · rw [run_go h0 q]
        refine run_target hm he ha t f _ s3 ?_
        rw [s6, List.mem_append, List.mem_singleton]
        rintro (w | w)
        · exact ht w
        · exact q w.symm
/-- A whole run: its facts. -/
structure BfF (m : Int) (N a : Nat) (es : List Ed) (R : St) : Prop where
  dj : DjI m N a es (-1) R
  vals : R.vals = vRt m N es a
  full : ∀ i, i < N → (R.done.getD i true = true ↔ R.vals.getD i 0 ≠ mNone m)
theorem bf_full (hm : mKind m = true) (he : eAll N es) (ha : a < N) : BfF m N a es (bfR m (-1) es N a) := by
  obtain ⟨h1, h2, h3⟩ := dj_run hm he ha (N + 1) (bf0 m N a) (dj_start hm he ha)
  have h4 := h3 (by show nd (List.replicate N false) < N + 1; rw [nd_rep]; omega)
  have heN : eAll ((N : Int)).toNat es := by rw [Int.toNat_natCast]; exact he
  change DjI m N a es (-1) (bfR m (-1) es N a) at h1
  change ∀ i, i < N → okN m (bfR m (-1) es N a).vals (bfR m (-1) es N a).done i = false at h4
  generalize bfR m (-1) es N a = R at h1 h4
  have hin : ∀ i, i < N → mIn m (R.vals.getD i 0) = true := fun i hi => h1.ok.all i (by rw [h1.ok.vals]; exact hi)
  have hfull : ∀ i, i < N → (R.done.getD i true = true ↔ R.vals.getD i 0 ≠ mNone m) := by
    intro i hi
    refine ⟨h1.some i hi, fun q => ?_⟩
    have h := h4 i hi
    unfold okN at h
    rw [decide_eq_false q] at h
    cases hd : R.done.getD i true
    · rw [hd] at h; cases h
    · rfl
  have hst : vSt m es R.vals := by
    intro e hein
    have hee := he e hein
    cases hd : R.done.getD e.1.toNat true
    · have hv : R.vals.getD e.1.toNat 0 = mNone m := by
        apply Classical.byContradiction
        intro q
        rw [(hfull _ hee.1.2).2 q] at hd; cases hd
      unfold vGive
      rw [hv, join_none hm (mEdge_in hm hee.2.2)]
      exact none_worst (hin _ hee.2.1.2)
    · exact h1.tight e hein (by have := hee.1.1; omega) hd
  refine ⟨h1, ?_, hfull⟩
  apply eq_of_at
  · rw [h1.ok.vals, vRt_length, Int.toNat_natCast]
  · intro i hi
    rw [h1.ok.vals] at hi
    have hb := vBest (n := N) hm heN h1.ok.all (by rw [h1.ok.vals, Int.toNat_natCast]) hst (a := a) (by omega) (by rw [Int.toNat_natCast, Int.toNat_natCast]; exact ha) (by rw [Int.toNat_natCast]; exact h1.src) (i := i) (by rw [Int.toNat_natCast]; exact hi)
    exact le_anti hm hb (h1.low i hi)
/-- What is asked of a run up to a target. -/
theorem bf_target (hm : mKind m = true) (he : eAll N es) (ha : a < N) {t : Nat} (ht : t < N) :
    (bfR m t es N a).vals.getD t 0 = (vRt m N es a).getD t 0 ∧ (∃ l, (bfR m (-1) es N a).ord = (bfR m t es N a).ord ++ l) ∧ (bfR m t es N a).looks ≤ (bfR m (-1) es N a).looks ∧
      StOk m N (bfR m t es N a) ∧ (∀ y ∈ (bfR m t es N a).ord, 0 ≤ y ∧ y.toNat < N) ∧ (bfR m t es N a).ord.Nodup ∧ 0 ≤ (bfR m t es N a).looks ∧
      (((bfR m t es N a).vals.getD t 0 ≠ mNone m ∧ ∃ l, (bfR m t es N a).ord = l ++ [(t : Int)]) ∨ ((bfR m t es N a).vals.getD t 0 = mNone m ∧ (t : Int) ∉ (bfR m t es N a).ord)) ∧ (bfR m t es N a).ord ≠ [] := by
  have hF := bf_full hm he ha
  have hne : (bfR m (-1) es N a).ord ≠ [] := by
    intro q
    have h1 : (bfR m (-1) es N a).done.getD a true = true := (hF.full a ha).2 (by rw [hF.dj.src]; exact fun w => by rcases mKind_cases hm with rfl | rfl | rfl | rfl | rfl <;> simp [mOne, mNone] at w)
    have := (hF.dj.mem a ha).1 h1
    rw [q] at this; cases this
  rcases run_target hm he ha (t : Int) (N + 1) (bf0 m N a) (dj_start hm he ha) (by simp [bf0]) with ⟨h1, h2⟩ | ⟨st0, i, h1, h2, h3, h4, h5, h6⟩
  · change bfR m t es N a = bfR m (-1) es N a at h1
    change (t : Int) ∉ (bfR m t es N a).ord at h2
    rw [h1] at h2 ⊢
    have hvn : (bfR m (-1) es N a).vals.getD t 0 = mNone m := by
      apply Classical.byContradiction
      intro q
      exact h2 ((hF.dj.mem t ht).1 ((hF.full t ht).2 q))
    exact ⟨by rw [hF.vals], ⟨[], by simp⟩, Int.le_refl _, hF.dj.ok, hF.dj.rng, hF.dj.nodup, hF.dj.looks.1, .inr ⟨hvn, h2⟩, hne⟩
  · have e0 : t = i := by omega
    subst e0
    change bfR m t es N a = stMark t st0 at h4
    change Ext N (stMark t st0) (bfR m (-1) es N a) at h5
    have hd : (stMark t st0).done.getD t true = true := (h3.mem t ht).2 (by show (t : Int) ∈ st0.ord ++ [(t : Int)]; simp)
    rw [h4]
    refine ⟨?_, h5.ord, h5.looks, h3.ok, h3.rng, h3.nodup, h3.looks.1, .inl ⟨h3.some t ht hd, _, rfl⟩, by simp [stMark]⟩
    rw [← (h5.keep t ht hd).2.1, hF.vals]
theorem bf_self (hm : mKind m = true) (he : eAll N es) (ha : a < N) : bfR m a es N a = stMark a (bf0 m N a) := by
  have hv : ∀ j, j < N → (bf0 m N a).vals.getD j 0 = if (j : Int) = a then mOne m else mNone m := fun j hj => vStart_at m N a (by rw [Int.toNat_natCast]; exact hj)
  have hd : ∀ j, j < N → (bf0 m N a).done.getD j true = false := by
    intro j hj
    show (List.replicate N false).getD j true = false
    simp [List.getD, hj]
  have hlen : (bf0 m N a).vals.length = N := by simp [bf0, vStart_length]
  have hon : mOne m ≠ mNone m := fun w => by rcases mKind_cases hm with rfl | rfl | rfl | rfl | rfl <;> simp [mOne, mNone] at w
  show stRun m a es (N + 1) (bf0 m N a) = _
  rcases nx_cases hm (bf0 m N a) with ⟨h1, h2⟩ | ⟨i, h0, h1, h2, h3⟩
  · have := h2 a (by rw [hlen]; exact ha)
    unfold okN at this
    rw [hd a ha, hv a ha, if_pos rfl, decide_eq_false hon] at this
    cases this
  · rw [hlen] at h1
    have hia : i = a := by
      apply Classical.byContradiction
      intro q
      unfold okN at h2
      rw [hv i h1, if_neg (by omega), decide_eq_true rfl] at h2
      simp at h2
    subst hia
    exact run_hit h0 rfl
end
theorem nodup_sub : ∀ (l k : List Int), l.Nodup → (∀ x ∈ l, x ∈ k) → l.length ≤ k.length
  | [], _, _, _ => by simp
  | x :: l, k, hd, h => by
    obtain ⟨h1, h2⟩ := List.nodup_cons.1 hd
    have h3 := nodup_sub l (k.erase x) h2 (fun y hy => (List.mem_erase_of_ne (fun e => by rw [e] at hy; exact h1 hy)).2 (h y (List.mem_cons_of_mem _ hy)))
    have h4 := List.length_erase_of_mem (h x (List.mem_cons_self ..))
    have h5 := List.length_pos_of_mem (h x (List.mem_cons_self ..))
    simp only [List.length_cons]
    omega
theorem ints_len {N : Nat} {l : List Int} (h : l.Nodup) (hr : ∀ y ∈ l, 0 ≤ y ∧ y.toNat < N) : l.length ≤ N := by
  have := nodup_sub l ((List.range N).map (fun i : Nat => (i : Int))) h (fun y hy => by
    obtain ⟨h0, h1⟩ := hr y hy
    exact List.mem_map.2 ⟨y.toNat, List.mem_range.2 h1, by omega⟩)
  simpa using this
theorem bf_lens (n m a : Int) (es : List Ed) (xs : List Int) (t : Int) (ha : a ∈ xs) :
    (bfV (onOk n es m xs) (bfR m t es n.toNat a.toNat)).ord.length ≤ 4194304 ∧ (bfV (onOk n es m xs) (bfR m t es n.toNat a.toNat)).par.length ≤ 4194304 ∧ (bfV (onOk n es m xs) (bfR m t es n.toNat a.toNat)).vals.length ≤ 4194304 := by
  unfold bfV
  split
  · rename_i h
    have hp := onOk_parts h
    have hn := gVal_n hp.1
    have hea := eAll_of hp.1
    have hA := hp.2.1 a ha
    rcases run_target (m := m) (N := n.toNat) (a := a.toNat) hp.2.2 hea (by omega) t (n.toNat + 1) (bf0 m n.toNat a.toNat) (dj_start hp.2.2 hea (by omega)) (by simp [bf0]) with ⟨h1, h2⟩ | ⟨st0, i, h1, h2, h3, h4, h5, h6⟩
    · have hF := bf_full (m := m) (N := n.toNat) (a := a.toNat) hp.2.2 hea (by omega)
      change bfR m t es n.toNat a.toNat = bfR m (-1) es n.toNat a.toNat at h1
      rw [h1]
      have hl := ints_len hF.dj.nodup hF.dj.rng
      have h8 := hF.dj.ok
      rw [h8.par, h8.vals]
      omega
    · change bfR m t es n.toNat a.toNat = stMark i st0 at h4
      rw [h4]
      have hl := ints_len h3.nodup h3.rng
      rw [h3.ok.par, h3.ok.vals]
      omega
  · simp
end Go.Proofs.Ytbhhbhopogkmnaa
