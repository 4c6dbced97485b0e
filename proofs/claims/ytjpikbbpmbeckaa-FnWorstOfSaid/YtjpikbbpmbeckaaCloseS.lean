/- Matrices that are closed: in the model. -/
import Derived.Test.YtjpikbbpmbeckaaCloseL
import Derived.Test.YtjpikbbpmbeckaaCopyS
namespace Go.Proofs.Ytjpikbbpmbeckaa
open Go.RowKit Go.BigFrame Go.Deep
set_option linter.unusedVariables false
set_option linter.unusedSimpArgs false

theorem Box.chgC {w w' : World} {B lo hi : Nat} {t : TypeId} {cs : Array Value} (h : Box w B t cs) (c : Chg lo hi w w') (d : B < lo ∨ hi ≤ B) : Box w' B t cs := (c.block B h.lt d).trans h
theorem quietC {P : Program} {f : FuncId} {args : Array Value} {W w : World} {v : Value} (h : Calls P f args w fun e w' => e = .returned v ∧ w = w') (hw : w = W) :
    Calls P f args w fun e w' => e = .returned v ∧ w' = W := h.mono fun _ _ ⟨he, hb⟩ => ⟨he, by rw [← hb]; exact hw⟩

set_option maxRecDepth 20000 in
set_option maxHeartbeats 4000000 in
theorem l8Close (m : Int) (z : List (List Int)) (s : Value) (w : World) (hs : Grid w s z) (hm : mKind m = true) (hsq : Sq m z.length z) (h1 : 1 ≤ z.length) (h12 : z.length ≤ 12) :
    Calls Try.prog 86 #[.agg #[.int .i64 m, s]] w fun e w' => ∃ v, e = .returned (.agg #[.int .i64 m, v]) ∧ OwnG w' w.heap.size w'.heap.size v (clOut m z z.length) ∧ Below w.heap.size w w' := by
  have hB : ∀ (A B : Obj), Below w.heap.size w ((w.alloc A).alloc B) := fun A B => ((Below.refl _ _).alloc (Nat.le_refl _) _).alloc (by simp) _
  obtain ⟨ad, cap, rfl, _⟩ := id hs
  have hcp := fun w' (h : Below w.heap.size w w') => l8Copy m z _ w' (hs.keep h) h12 (fun i hi => by have := (hsq.2 i hi).1; omega)
  have hq := fun n hn => clOut_sq hm hsq n hn
  have HQ := Lib.hid hq
  have HCP := Lib.hid hcp
  have HB := Lib.hid hB
  have HM := Lib.hid hm
  clear hs hsq hcp hq hB hm
  go_enter Try.func86, Try.ntmps86
  go_wp2_with (go_at_call 73; refine (HCP.out _ (HB.out _ _)).mono ?_; rintro e w3 ⟨v3, rfl, hown, hb3⟩; obtain ⟨g, cp, T, B, rfl, hcpp, hat⟩ := hown.at h1; have q0 := hb3.cell (p := ⟨w.heap.size, 0, none⟩) (by simp <;> omega); have q9 : w.heap.size < w3.heap.size := Nat.lt_of_lt_of_le (by simp <;> omega) hb3.size; have HAT := Lib.hid hat; have HB3 := Lib.hid hb3; clear hat hown hb3)
  have k0 := ((Box.new w 33 #[.int .i64 m, .slice ad z.length cap]).alloc (.cells #[.int .i64 0, .slice none 0 0] 33)).keep HB3.out
  have k1 : Box w3 (w.heap.size + 1) 33 #[.int .i64 0, .slice none 0 0] := by have := (Box.new (w.alloc (.cells #[.int .i64 m, .slice ad z.length cap] 33)) 33 #[.int .i64 0, .slice none 0 0]).keep HB3.out; simpa using this
  have hw3 : Below w.heap.size w w3 := bel_trans (HB.out _ _) HB3.out
  have HAT' : Hid (GridAt w3 (w.heap.size + 1 + 1) w3.heap.size g T B z) := Lib.hid (by have := HAT.out; simp only [World.size_alloc] at this; exact this)
  obtain ⟨hh, hhi⟩ : ∃ hh, hh = w3.heap.size := ⟨_, rfl⟩
  have HAT4 : Hid (GridAt (w3.alloc (.cells #[.int .i64 m, .slice (some ⟨g, 0, none⟩) z.length cp] 33)) (w.heap.size + 1 + 1) hh g T B (clOut m z 0)) := Lib.hid (by rw [hhi]; exact HAT'.out.keep ((Below.refl _ _).alloc (Nat.le_refl _) _))
  have hlh : w.heap.size + 1 + 1 ≤ hh := by have := HAT'.out.place; omega
  have HKB : Hid (Box (w3.alloc (.cells #[.int .i64 m, .slice (some ⟨g, 0, none⟩) z.length cp] 33)) w.heap.size 33 #[.int .i64 m, .slice ad z.length cap] ∧ Box (w3.alloc (.cells #[.int .i64 m, .slice (some ⟨g, 0, none⟩) z.length cp] 33)) (w.heap.size + 1) 33 #[.int .i64 0, .slice none 0 0] ∧ Box (w3.alloc (.cells #[.int .i64 m, .slice (some ⟨g, 0, none⟩) z.length cp] 33)) hh 33 #[.int .i64 m, .slice (some ⟨g, 0, none⟩) z.length cp] ∧ Below w.heap.size w (w3.alloc (.cells #[.int .i64 m, .slice (some ⟨g, 0, none⟩) z.length cp] 33))) := Lib.hid ⟨k0.alloc _, k1.alloc _, by rw [hhi]; exact Box.new _ _ _, hw3.alloc hw3.size _⟩
  clear k0 k1 hw3 HAT HAT'
  rw [← hhi]
  clear hhi q0 q9 HB3
  generalize (w3.alloc (.cells #[.int .i64 m, .slice (some ⟨g, 0, none⟩) z.length cp] 33)) = w4 at HAT4 HKB ⊢
  go_loopw [5] (fun c wr => ∃ n : Nat, n ≤ z.length ∧ c = .int .i64 n ∧ Hid (GridAt wr (w.heap.size + 1 + 1) hh g T B (clOut m z n)) ∧ Hid (Chg (w.heap.size + 1 + 1) hh w4 wr)) (fun c _ => z.length - (intOf c).toNat)
  case atStart => exact ⟨0, Nat.zero_le _, rfl, HAT4, Lib.hid (Chg.refl _ _ _)⟩
  case round =>
    obtain ⟨n, hn, rfl, HG, HC⟩ := hrel
    have ka := HKB.out.1.chgC HC.out (.inl (by omega))
    obtain ⟨xa0, xa1, -, -, xal⟩ := box2 ka
    by_cases hlt : n < z.length
    · have hlt' : (n : Int) < z.length := by omega
      obtain ⟨y, hy⟩ : ∃ y, y = clOut m z n := ⟨_, rfl⟩
      have HSQ := Lib.hid (HQ.out n hn)
      rw [← hy] at HG HSQ
      have hlast : clIn m n y z.length = clOut m z (n + 1) := by
        show _ = clIn m n (clOut m z n) (clOut m z n).length
        rw [← hy, HSQ.out.1]
      have HLA := Lib.hid hlast
      clear hy hlast ka
      go_wp2
      go_loopw [6] (fun c ws => ∃ i : Nat, i ≤ z.length ∧ c = .int .i64 i ∧ Hid (GridAt ws (w.heap.size + 1 + 1) hh g T B (clIn m n y i)) ∧ Hid (Chg (w.heap.size + 1 + 1) hh w4 ws)) (fun c _ => z.length - (intOf c).toNat)
      case atStart => exact ⟨0, Nat.zero_le _, rfl, HG, HC⟩
      case round =>
        obtain ⟨i, hi', rfl, HGI, HCI⟩ := hrel
        have ka := HKB.out.1.chgC HCI.out (.inl (by omega))
        obtain ⟨xb0, xb1, -, -, xbl⟩ := box2 ka
        clear xa0 xa1 xal
        by_cases hli : i < z.length
        · have hli' : (i : Int) < z.length := by omega
          have HGI0 : Hid (GridAt wr (w.heap.size + 1 + 1) hh g T B (clMid m n y i 0)) := Lib.hid (by rw [clMid_zero]; exact HGI.out)
          have hil := ((clIn_sq HM.out HSQ.out hlt i hi').2 i hli).1
          have HLM := Lib.hid (clMid_last m n y hil)
          clear ka hil
          go_wp2
          go_loopw [7] (fun c wt => ∃ k : Nat, k ≤ z.length ∧ c = .int .i64 k ∧ Hid (GridAt wt (w.heap.size + 1 + 1) hh g T B (clMid m n y i k)) ∧ Hid (Chg (w.heap.size + 1 + 1) hh w4 wt)) (fun c _ => z.length - (intOf c).toNat)
          case atStart => exact ⟨0, Nat.zero_le _, rfl, HGI0, HCI⟩
          case round =>
            obtain ⟨k, hk, rfl, HGK, HCK⟩ := hrel
            have ka := HKB.out.1.chgC HCK.out (.inl (by omega))
            obtain ⟨xc0, xc1, -, -, xcl⟩ := box2 ka
            clear xb0 xb1 xbl
            by_cases hlk : k < z.length
            · have hlk' : (k : Int) < z.length := by omega
              obtain ⟨hsq, hstep⟩ := clMid_step (i := i) (k := k) HM.out HSQ.out hlt hli hlk
              obtain ⟨c, hc⟩ : ∃ c, c = clMid m n y i k := ⟨_, rfl⟩
              rw [← hc] at hsq hstep HGK
              have hix : i < c.length := by rw [hsq.1]; exact hli
              have hnx : n < c.length := by rw [hsq.1]; exact hlt
              obtain ⟨hil, hiv⟩ := hsq.2 i hli
              obtain ⟨hnl, hnv⟩ := hsq.2 n hlt
              obtain ⟨oi, ci, hTi, hwi⟩ := HGK.out.wr hix (by omega)
              obtain ⟨on, cn, hTn, hwn⟩ := HGK.out.wr hnx (by omega)
              have e1 := (HGK.out.cell i hix).1
              have e2 := (HGK.out.cell n hnx).1
              rw [hTi, hil] at e1
              rw [hTn, hnl] at e2
              have e3 := hwi.2 k (by omega)
              have e4 := (hwi.2 n (by omega)).1
              have e5 := (hwn.2 k (by omega)).1
              have ha := hiv k hlk
              have hb := hiv n hlt
              have hd := hnv k hlk
              have hblk := HGK.out.blk i hix
              obtain ⟨xo0, xo1, -, -, xol⟩ := box2 (HKB.out.2.2.1.chgC HCK.out (.inr (Nat.le_refl _)))
              obtain ⟨av, hav⟩ : ∃ av, av = (c.getD i []).getD k 0 := ⟨_, rfl⟩
              obtain ⟨bv, hbv⟩ : ∃ bv, bv = (c.getD i []).getD n 0 := ⟨_, rfl⟩
              obtain ⟨dv, hdv⟩ : ∃ dv, dv = (c.getD n []).getD k 0 := ⟨_, rfl⟩
              rw [← hav, ← hbv, ← hdv] at hstep
              rw [← hav] at e3 ha
              rw [← hbv] at e4 hb
              rw [← hdv] at e5 hd
              have hset := hwi.set (k := k) (by omega) (mBest m av (mJoin m bv dv))
              have hnew : GridAt (wr.setCell ⟨B i, oi + k, none⟩ (.int .i64 (mBest m av (mJoin m bv dv)))) (w.heap.size + 1 + 1) hh g T B (clMid m n y i (k + 1)) :=
                HGK.out.keepG (k := i) (off := oi) hix hstep (by rw [List.length_set]) ⟨ci, by rw [List.length_set]; exact hTi⟩ hset (Chg.setCell (p := ⟨B i, oi + k, none⟩) (Chg.refl _ _ _) (Nat.le_refl _) (Nat.lt_succ_self _) _)
              have hchg : Chg (w.heap.size + 1 + 1) hh w4 (wr.setCell ⟨B i, oi + k, none⟩ (.int .i64 (mBest m av (mJoin m bv dv)))) := HCK.out.setCell hblk.1 hblk.2.1 _
              have HNEW := Lib.hid (And.intro hnew hchg)
              have hj := quietC (sJoin (bTwo_mk HM.out hb hd) wr.drew) rfl
              have hbe := quietC (sBest HM.out av (mJoin m bv dv) wr.drew) rfl
              have f3 := e3.2
              have e3' := e3.1
              clear hsq hstep hc hix hnx hil hiv hnl hnv hTi hwi hTn hwn ha hb hd hblk hav hbv hdv hset hnew hchg e3 ka
              go_wp2
              refine wp_region_tail 35 (by kernel_rfl) (by kernel_rfl) ?_
              simp only [List.take_succ_cons, List.take_zero, List.drop_succ_cons, List.drop_zero]
              repeat (go_big_quiet_step (first | exact hj _ | exact hbe _))
              refine wpQuiet_nil ?_
              have g3 : wr.drew.cell? ⟨B i, oi + k, none⟩ = some (.int .i64 av) := e3'
              have g4 : wr.drew.frozen? ⟨B i, oi + k, none⟩ = false := f3
              go_wp2
              go_roundw
              case rel => first | exact ⟨k + 1, by omega, by go_num, Lib.hid (HNEW.out.1.keep ((Below.refl _ _).drew)), Lib.hid (HNEW.out.2.drew)⟩ | ((repeat apply Exists.intro); exact ⟨⟨k + 1, by omega, by go_num, Lib.hid (HNEW.out.1.keep ((Below.refl _ _).drew)), Lib.hid (HNEW.out.2.drew)⟩, rfl⟩)
              case measure => simp [intOf]; omega
            · have hke : k = z.length := by omega
              have hkk : ¬ ((k : Int) < z.length) := by omega
              have HGE : Hid (GridAt wr (w.heap.size + 1 + 1) hh g T B (clIn m n y (i + 1))) := Lib.hid (by rw [← HLM.out, ← hke]; exact HGK.out)
              have HKE := Lib.hid hke
              clear hke ka
              go_wp2
              go_roundw
              case rel => exact ⟨i + 1, by omega, by go_num, HGE, HCK⟩
              case measure => simp [intOf]; omega
        · have hke : i = z.length := by omega
          have hkk : ¬ ((i : Int) < z.length) := by omega
          have HGE : Hid (GridAt wr (w.heap.size + 1 + 1) hh g T B (clOut m z (n + 1))) := Lib.hid (by rw [← HLA.out, ← hke]; exact HGI.out)
          have HKE := Lib.hid hke
          clear hke ka
          go_wp2
          go_roundw
          case rel => exact ⟨n + 1, by omega, by go_num, HGE, HCI⟩
          case measure => simp [intOf]; omega
    · have hke : n = z.length := by omega
      have hkk : ¬ ((n : Int) < z.length) := by omega
      have HKE := Lib.hid hke
      have hbs := bel_chg HKB.out.2.2.2 HC.out (by omega)
      obtain ⟨xo0, xo1, -, -, xol⟩ := box2 (HKB.out.2.2.1.chgC HC.out (.inr (Nat.le_refl _)))
      obtain ⟨xr0, xr1, xrf0, xrf1, xrl⟩ := box2 (HKB.out.2.1.chgC HC.out (.inl (by omega)))
      clear hke ka
      go_wp2
      try simp only [Exit.inBlock, Exit.then]
      refine bodyPost_ret (v := .agg #[.int .i64 m, .slice (some ⟨g, 0, none⟩) z.length cp]) ?_ rfl ?_
      · rw [results_cell1 rfl]
        go_simp
      have hG := HG.out
      rw [HKE.out] at hG
      have hch : ∀ u1 u2 : Value, Chg w.heap.size (w.heap.size + 2) wr ((wr.setCell ⟨w.heap.size + 1, 0, none⟩ u1).setCell ⟨w.heap.size + 1, 1, none⟩ u2) := fun u1 u2 => ((Chg.refl _ _ _).setCell (by simp) (by simp) _).setCell (by simp) (by simp) _
      have hp := hG.place
      refine ⟨_, rfl, ((hG.own (HQ.out _ (Nat.le_refl _)).1 hcpp).chg (hch _ _) (.inl (by omega))).wider (by omega) (by simp; omega) (Nat.le_refl _), (hbs.setCell (by simp) _).setCell (by simp) _⟩

end Go.Proofs.Ytjpikbbpmbeckaa
