/- A search: all edges of a node, the next node, all nodes. -/
import Derived.Test.YtlmhccjppmhdbaaBestW
namespace Go.Proofs.Ytlmhccjppmhdbaa
open Go.RowKit Go.BigFrame Go.Deep
set_option linter.unusedVariables false
set_option linter.unusedSimpArgs false

theorem stLook_looks (m at' : Int) (st : St) (e : Ed) : st.looks ≤ (stLook m at' st e).looks ∧ (stLook m at' st e).looks ≤ st.looks + 1 := by
  unfold stLook stFollow stTake stTick
  split
  · split <;> simp only <;> omega
  · omega
theorem stScan_looks (m at' : Int) : ∀ (es : List Ed) (st : St), st.looks ≤ (stScan m at' es st).looks ∧ (stScan m at' es st).looks ≤ st.looks + es.length
  | [], st => by simp [stScan]
  | e :: es, st => by
    have h1 := stLook_looks m at' st e
    have h2 := stScan_looks m at' es (stLook m at' st e)
    show st.looks ≤ (stScan m at' es (stLook m at' st e)).looks ∧ (stScan m at' es (stLook m at' st e)).looks ≤ _
    simp only [List.length_cons]
    omega
theorem SInv.tick {W0 : World} {B : Nat} {m : Int} {N : Nat} {s : Value} {st : St} {ents : List En} {P cp V cv S cs lo : Nat} {w : World} {ov ev : Value} (h : SInv W0 B m N s st ents P cp V cv S cs lo w ov ev) : SInv W0 B m N s (stTick st) ents P cp V cv S cs lo (w.setCell ⟨B, 3, none⟩ (.int .i64 (st.looks + 1))) ov ev ∧ ChaT AS W0.heap.size w (w.setCell ⟨B, 3, none⟩ (.int .i64 (st.looks + 1))) := by
  have nV := h.vals.ne h.fro.box (by decide)
  have nP := h.par.ne h.fro.box (by decide)
  have nS := h.done.ne h.fro.box (by decide)
  have hb := h.fro.box
  refine ⟨⟨⟨h.fro.box.set 3 _, own_set_ne h.fro.own (own_ne h.fro.own hb (by decide)), h.fro.hB, by simpa using h.fro.hb⟩, own_set_ne h.own (own_ne h.own hb (by decide)), h.par.other (fun e => nP e.symm), h.vals.other (fun e => nV e.symm), h.done.other (fun e => nS e.symm), h.ne, by simpa using h.hlo, h.hb, h.bel.setCell h.fro.hB _, stTick_ok h.ok⟩, ChaT.set hb h.fro.hB (.inl (.inl rfl)) 3 _⟩
set_option maxRecDepth 20000 in
set_option maxHeartbeats 8000000 in
theorem lookFrom {W0 : World} {B : Nat} {m : Int} {N : Nat} {s : Value} {st : St} {ents : List En} {P cp V cv S cs lo : Nat} {w : World} {ov ev : Value} {es : List Ed} (hm : mKind m = true) (h : FInv W0 B m N s st ents P cp V cv S cs lo w ov ev) (hs : RowE W0 s es) (he : eAll N es) (hl : ents.length + es.length ≤ 1000000) (hk0 : 0 ≤ st.looks) (hk1 : st.looks + es.length ≤ 1000000) (a : Nat) (hN : N ≤ 1048576) :
    Calls Try.prog 119 #[.pointer (some ⟨B, 0, none⟩), .int .i64 a] w fun e w' => e = .returned (.tuple #[]) ∧ (∃ ents' ev', FInv W0 B m N s (stScan m a es st) ents' P cp V cv S cs lo w' ov ev' ∧ ents'.length ≤ ents.length + es.length) ∧ ChaT AS W0.heap.size w w' := by
  obtain ⟨sa, sc, rfl, hs2⟩ := id hs
  clear hs2
  obtain ⟨⟨x0, x1, x2, x3, x4, x5, x6⟩, hB⟩ := h.inv.cells
  have HS := Lib.hid hs
  have HE := Lib.hid he
  have HH := Lib.hid h
  clear hs he h x0 x1 x2 x3 x4 x6
  go_enter Try.func119, Try.ntmps119
  go_wp2
  go_loopw [11] (fun c wr => ∃ (k : Nat) (en : List En) (ev' : Value), k ≤ es.length ∧ c = .int .i64 k ∧ Hid (FInv W0 B m N (.slice sa es.length sc) (stScan m a (es.take k) st) en P cp V cv S cs lo wr ov ev' ∧ en.length ≤ ents.length + k ∧ ChaT AS W0.heap.size w wr)) (fun c _ => es.length - (intOf c).toNat)
  case atStart => exact ⟨0, ents, ev, Nat.zero_le _, rfl, Lib.hid ⟨HH.out, Nat.le_refl _, ChaT.refl _ _ _⟩⟩
  case round =>
    obtain ⟨k, en, ev', hk, rfl, HI⟩ := hrel
    by_cases hlt : k < es.length
    · have hlt' : (k : Int) < es.length := by omega
      obtain ⟨sb, so, sc2, hse, hsb, hsc⟩ := HS.out.at hlt
      injection hse with hsa _ hsc2
      subst hsa hsc2
      obtain ⟨⟨y0, y1, y2, y3, y4, y5, y6⟩, hBr⟩ := HI.out.1.inv.cells
      have hst := stScan_snoc m a es st hlt
      have hlk := stScan_looks m a (es.take k) st
      rw [List.length_take] at hlk
      obtain ⟨q, hq⟩ : ∃ q, q = stScan m a (es.take k) st := ⟨_, rfl⟩
      rw [← hq] at hst hlk
      have hI := HI.out
      rw [← hq] at hI y3
      have HI2 := Lib.hid hI
      obtain ⟨x, y, z, hx⟩ : ∃ x y z, (x, y, z) = es.getD k (0, 0, 0) := ⟨_, _, _, rfl⟩
      have hee := HE.out _ (List.getElem_mem hlt)
      rw [show es[k] = es.getD k (0, 0, 0) by simp [List.getD, hlt]] at hee
      have h1 := hsc k hlt
      rw [← hx] at h1 hee hst
      simp only at h1 hee
      obtain ⟨X, rfl⟩ : ∃ X : Nat, x = X := ⟨x.toNat, by omega⟩
      obtain ⟨Y, rfl⟩ : ∃ Y : Nat, y = Y := ⟨y.toNat, by omega⟩
      obtain ⟨⟨_, hX⟩, ⟨_, hY⟩, hz⟩ := hee
      rw [Int.toNat_natCast] at hX hY
      have c0 := (hI.1.inv.bel.cell (p := ⟨sb, so + k * 3, none⟩) hsb).trans h1.1
      have c1 := (hI.1.inv.bel.cell (p := ⟨sb, so + k * 3 + 1, none⟩) hsb).trans h1.2.1
      have c2 := (hI.1.inv.bel.cell (p := ⟨sb, so + k * 3 + 2, none⟩) hsb).trans h1.2.2
      obtain ⟨Dn, hDn⟩ : ∃ d, d = q.done.getD Y true := ⟨_, rfl⟩
      have hd0 := (hI.1.inv.done.cell (i := Y) (by rw [hI.1.inv.ok.done]; exact hY)).1
      rw [← hDn] at hd0
      have hY' : (Y : Int) < N := by omega
      have hb0 : Below wr.heap.size wr (wr.alloc (.cells #[.int .i64 X, .int .i64 Y, .int .i64 z] 88)) := (Below.refl _ _).alloc (Nat.le_refl _) _
      have KE := Lib.hid (And.intro hb0 (Box.new wr 88 #[.int .i64 X, .int .i64 Y, .int .i64 z]))
      have fx : ∀ w', Below wr.heap.size wr w' → Box w' wr.heap.size 88 #[.int .i64 X, .int .i64 Y, .int .i64 z] → w'.cell? ⟨B, 3, none⟩ = some (.int .i64 q.looks) ∧ w'.cell? ⟨B, 6, none⟩ = some (.slice (some ⟨S, 0, none⟩) N cs) ∧ w'.cell? ⟨S, Y, none⟩ = some (.bool Dn) ∧ w'.cell? ⟨wr.heap.size, 0, none⟩ = some (.int .i64 X) ∧ w'.cell? ⟨wr.heap.size, 1, none⟩ = some (.int .i64 Y) ∧ w'.cell? ⟨wr.heap.size, 2, none⟩ = some (.int .i64 z) :=
        fun w' hb hbx => ⟨(hb.cell (p := ⟨B, _, none⟩) hBr).trans y3, (hb.cell (p := ⟨B, _, none⟩) hBr).trans y6, (hb.cell (p := ⟨S, _, none⟩) hI.1.inv.done.lt).trans hd0, by simpa using hbx.cell 0, by simpa using hbx.cell 1, by simpa using hbx.cell 2⟩
      have FX := Lib.hid fx
      have HQ := Lib.hid hq
      have HX := Lib.hid hx
      have HDN := Lib.hid hDn
      have HST := Lib.hid hst
      have hq0 : 0 ≤ q.looks := by omega
      have hq1 : q.looks ≤ 1000000 := by omega
      clear h1 hsc hq hx hDn hst hI HI hb0 fx hd0 y0 y1 y2 y3 y4 y5 y6 hlk
      by_cases hxa : X = a
      · subst hxa
        have d1 : ((X : Int) == X) = true := by simp
        cases Dn
        · have HLK : Hid (stLook m (X : Int) q ((X : Int), (Y : Int), z) = stFollow m (stTick q) ((X : Int), (Y : Int), z)) := Lib.hid (by
            unfold stLook
            rw [if_pos]
            unfold isLook
            simp only [Int.toNat_natCast]
            rw [← HDN.out]
            simp)
          go_wp2_with fail
          generalize (wr.alloc (.cells #[.int .i64 X, .int .i64 Y, .int .i64 z] 88)) = w1 at KE ⊢
          refine wp_region_below (by kernel_rfl) (by kernel_rfl) ?_
          repeat (go_big_quiet_step ((intro hw; first | with_reducible rfl | (obtain ⟨f0, f1, f2, f3, f4, f5⟩ := FX.out _ (bel_trans KE.out.1 hw) (KE.out.2.keep hw); simp only [f0, f1, f2, f3, f4, f5, Result.andThen]; first | exact ⟨trivial, rfl⟩ | exact ⟨rfl, rfl⟩))))
          refine wpQuiet_nil ?_
          intro w2 hw2
          have K2 := Lib.hid (And.intro (bel_trans KE.out.1 hw2) (KE.out.2.keep hw2))
          clear hw2
          obtain ⟨y0, y1, y2, y3, y4, y5⟩ := FX.out _ K2.out.1 K2.out.2
          have f3 : w2.frozen? ⟨B, 3, none⟩ = false := ((HI2.out.1.keep K2.out.1).inv.fro.box).frozen 3
          have htick := (HI2.out.1.keep K2.out.1).inv.tick
          have hft : FInv W0 B m N (.slice (some ⟨sb, so, none⟩) es.length sc) (stTick q) en P cp V cv S cs lo (w2.setCell ⟨B, 3, none⟩ (.int .i64 (q.looks + 1))) ov ev' := ⟨htick.1, HI2.out.1.heap, waits_tick HI2.out.1.wait⟩
          have hfo := follow hm hft (by have := HI2.out.2.1; omega) (F := X) (T := Y) (z := z) hX hY hz hN
          have HFO := Lib.hid hfo
          have HTK := Lib.hid htick.2
          have nBE : wr.heap.size ≠ B := by omega
          have e0 : (w2.setCell ⟨B, 3, none⟩ (.int .i64 (q.looks + 1))).cell? ⟨wr.heap.size, 0, none⟩ = some (.int .i64 X) := by simpa using (K2.out.2.setOther nBE 3 (.int .i64 (q.looks + 1))).cell 0
          have e1 : (w2.setCell ⟨B, 3, none⟩ (.int .i64 (q.looks + 1))).cell? ⟨wr.heap.size, 1, none⟩ = some (.int .i64 Y) := by simpa using (K2.out.2.setOther nBE 3 (.int .i64 (q.looks + 1))).cell 1
          have e2 : (w2.setCell ⟨B, 3, none⟩ (.int .i64 (q.looks + 1))).cell? ⟨wr.heap.size, 2, none⟩ = some (.int .i64 z) := by simpa using (K2.out.2.setOther nBE 3 (.int .i64 (q.looks + 1))).cell 2
          clear htick hft hfo
          go_wp2_with (go_at_call 132; (with_reducible refine (HFO.out).mono ?_); rintro e w3 ⟨rfl, ⟨en3, ev3, hf3, hn3⟩, hc3⟩)
          go_roundw
          case rel =>
            have hrel2 : Hid (FInv W0 B m N (.slice (some ⟨sb, so, none⟩) es.length sc) (stScan m (X : Int) (es.take (k + 1)) st) en3 P cp V cv S cs lo w3 ov ev3 ∧ en3.length ≤ ents.length + (k + 1) ∧ ChaT AS W0.heap.size w w3) := Lib.hid (by
              obtain ⟨i1, i2, i3⟩ := HI2.out
              rw [HST.out, HLK.out]
              exact ⟨hf3, by omega, ((i3.trans (ChaT.of_below K2.out.1)).trans HTK.out).trans hc3⟩)
            first | exact ⟨k + 1, en3, ev3, by omega, by go_num, hrel2⟩ | ((repeat apply Exists.intro); exact ⟨⟨k + 1, en3, ev3, by omega, by go_num, hrel2⟩, rfl⟩)
          case measure => simp [intOf]; omega
        · have HNL : Hid (stLook m (X : Int) q ((X : Int), (Y : Int), z) = q) := Lib.hid (by
            unfold stLook
            rw [if_neg]
            unfold isLook
            simp only [Int.toNat_natCast]
            rw [← HDN.out]
            simp)
          go_wp2_with fail
          generalize (wr.alloc (.cells #[.int .i64 X, .int .i64 Y, .int .i64 z] 88)) = w1 at KE ⊢
          refine wp_region_below (by kernel_rfl) (by kernel_rfl) ?_
          repeat (go_big_quiet_step ((intro hw; first | with_reducible rfl | (obtain ⟨f0, f1, f2, f3, f4, f5⟩ := FX.out _ (bel_trans KE.out.1 hw) (KE.out.2.keep hw); simp only [f0, f1, f2, f3, f4, f5, Result.andThen]; first | exact ⟨trivial, rfl⟩ | exact ⟨rfl, rfl⟩))))
          refine wpQuiet_nil ?_
          intro w2 hw2
          have K2 := Lib.hid (And.intro (bel_trans KE.out.1 hw2) (KE.out.2.keep hw2))
          clear hw2
          obtain ⟨y0, y1, y2, y3, y4, y5⟩ := FX.out _ K2.out.1 K2.out.2
          go_wp2
          go_roundw
          case rel =>
            have hrel2 : Hid (FInv W0 B m N (.slice (some ⟨sb, so, none⟩) es.length sc) (stScan m (X : Int) (es.take (k + 1)) st) en P cp V cv S cs lo w2 ov ev' ∧ en.length ≤ ents.length + (k + 1) ∧ ChaT AS W0.heap.size w w2) := Lib.hid (by
              obtain ⟨i1, i2, i3⟩ := HI2.out
              rw [HST.out, HNL.out]
              exact ⟨i1.keep K2.out.1, by omega, i3.trans (ChaT.of_below K2.out.1)⟩)
            first | exact ⟨k + 1, en, ev', by omega, by go_num, hrel2⟩ | ((repeat apply Exists.intro); exact ⟨⟨k + 1, en, ev', by omega, by go_num, hrel2⟩, rfl⟩)
          case measure => simp [intOf]; omega
      · have d1 : ((X : Int) == (a : Int)) = false := by simp; omega
        have HNL : Hid (stLook m (a : Int) q ((X : Int), (Y : Int), z) = q) := Lib.hid (by
          unfold stLook
          rw [if_neg]
          unfold isLook
          rw [decide_eq_false (show ¬ ((X : Int) = (a : Int)) by omega)]
          simp)
        have HXA := Lib.hid hxa
        clear hxa
        go_wp2_with fail
        generalize (wr.alloc (.cells #[.int .i64 X, .int .i64 Y, .int .i64 z] 88)) = w1 at KE ⊢
        refine wp_region_below (by kernel_rfl) (by kernel_rfl) ?_
        repeat (go_big_quiet_step ((intro hw; first | with_reducible rfl | (obtain ⟨f0, f1, f2, f3, f4, f5⟩ := FX.out _ (bel_trans KE.out.1 hw) (KE.out.2.keep hw); simp only [f0, f1, f2, f3, f4, f5, Result.andThen]; first | exact ⟨trivial, rfl⟩ | exact ⟨rfl, rfl⟩))))
        refine wpQuiet_nil ?_
        intro w2 hw2
        have K2 := Lib.hid (And.intro (bel_trans KE.out.1 hw2) (KE.out.2.keep hw2))
        clear hw2
        obtain ⟨y0, y1, y2, y3, y4, y5⟩ := FX.out _ K2.out.1 K2.out.2
        go_wp2
        go_roundw
        case rel =>
          have hrel2 : Hid (FInv W0 B m N (.slice (some ⟨sb, so, none⟩) es.length sc) (stScan m a (es.take (k + 1)) st) en P cp V cv S cs lo w2 ov ev' ∧ en.length ≤ ents.length + (k + 1) ∧ ChaT AS W0.heap.size w w2) := Lib.hid (by
            obtain ⟨i1, i2, i3⟩ := HI2.out
            rw [HST.out, HNL.out]
            exact ⟨i1.keep K2.out.1, by omega, i3.trans (ChaT.of_below K2.out.1)⟩)
          first | exact ⟨k + 1, en, ev', by omega, by go_num, hrel2⟩ | ((repeat apply Exists.intro); exact ⟨⟨k + 1, en, ev', by omega, by go_num, hrel2⟩, rfl⟩)
        case measure => simp [intOf]; omega
    · have hke : k = es.length := by omega
      have hkk : ¬ ((k : Int) < es.length) := by omega
      have HKE := Lib.hid hke
      clear hke
      go_wp2
      go_end0
      obtain ⟨i1, i2, i3⟩ := HI.out
      rw [HKE.out, List.take_length] at i1
      first | exact ⟨rfl, ⟨en, ⟨ev', i1⟩, by rw [← HKE.out]; exact i2⟩, i3⟩ | exact ⟨rfl, ⟨en, ev', i1, by rw [← HKE.out]; exact i2⟩, i3⟩

theorem SInv.fro2 {W0 : World} {B : Nat} {m : Int} {N : Nat} {s : Value} {st : St} {ents ents' : List En} {P cp V cv S cs lo : Nat} {w w' : World} {ov ev ev' : Value} (h2 : SInv W0 B m N s st ents P cp V cv S cs lo w ov ev) (hc : ChaT AF W0.heap.size w w')
    (hf : Fro w' W0.heap.size B ov (.slice (some ⟨P, 0, none⟩) N cp) (.slice (some ⟨V, 0, none⟩) N cv) (.int .i64 st.looks) (opsV m) s (.slice (some ⟨S, 0, none⟩) N cs) (opsV m) ev' ents') : SInv W0 B m N s st ents' P cp V cv S cs lo w' ov ev' :=
  ⟨hf, own_cha hc h2.own af_int, h2.par.cha hc af_int, h2.vals.cha hc af_int, h2.done.cha hc af_bool, h2.ne, ⟨h2.hlo.1, h2.hlo.2.1, Nat.le_trans h2.hlo.2.2 hc.size⟩, h2.hb, hc.bel h2.fro.hb (Nat.le_refl _) h2.bel, h2.ok⟩
theorem SInv.settle {W0 : World} {B : Nat} {m : Int} {N : Nat} {s : Value} {st : St} {ents : List En} {P cp V cv S cs lo : Nat} {w : World} {ov ev : Value} (h : SInv W0 B m N s st ents P cp V cv S cs lo w ov ev) {i : Nat} (hi : i < N) : SInv W0 B m N s { st with done := st.done.set i true } ents P cp V cv S cs lo (w.setCell ⟨S, i, none⟩ (.bool true)) ov ev ∧ ChaT AS W0.heap.size w (w.setCell ⟨S, i, none⟩ (.bool true)) := by
  have nS := h.done.ne h.fro.box (by decide)
  obtain ⟨c0, hc0, _⟩ := id h.done
  refine ⟨⟨⟨h.fro.box.setOther nS _ _, own_set_ne h.fro.own (own_ne h.fro.own hc0 (by decide)), h.fro.hB, by simpa using h.fro.hb⟩, own_set_ne h.own (own_ne h.own hc0 (by decide)), h.par.other (h.par.neB h.done), h.vals.other (h.vals.neB h.done), h.done.set (by rw [h.ok.done]; exact hi), h.ne, by simpa using h.hlo, h.hb, h.bel.setCell h.hb.2.2.1 _, ⟨h.ok.par, h.ok.vals, by simp [h.ok.done], h.ok.all⟩⟩, ChaT.set hc0 h.hb.2.2.1 (.inr (.inr rfl)) i _⟩
theorem own_ne_own {w : World} {b1 b2 s1 s2 n1 n2 : Nat} {e1 e2 : TypeId} {v1 v2 : Value} {x1 x2 : List Value} (h : w.ownsRow b1 e1 s1 v1 n1 x1) (k : w.ownsRow b2 e2 s2 v2 n2 x2) (hne : e1 ≠ e2) : v1.ownBlock = none ∨ v1.ownBlock ≠ v2.ownBlock := by
  rcases h.2 with ⟨rfl, _⟩ | ⟨g, cap, cur, rfl, _, hgg, _⟩
  · exact .inl rfl
  · refine .inr (fun e => ?_)
    have : v2.ownBlock ≠ some g := own_ne k hgg (fun e => hne e.symm)
    exact this (by rw [← e]; rfl)
/-- The order has grown. -/
theorem SInv.order {W0 : World} {B : Nat} {m : Int} {N : Nat} {s : Value} {st : St} {ents : List En} {P cp V cv S cs lo : Nat} {w w6 : World} {ov ev v' : Value} (h : SInv W0 B m N s st ents P cp V cv S cs lo w ov ev) {x : Int} (hg : w.grownBy w6 ov.ownBlock) (ho : w6.ownsRow lo 3 1 v' (st.ord.length + 1) (st.ord.map (Value.int .i64) ++ [.int .i64 x])) :
    SInv W0 B m N s { st with ord := st.ord ++ [x] } ents P cp V cv S cs lo (w6.setCell ⟨B, 0, none⟩ v') v' ev ∧ ChaT AS W0.heap.size w (w6.setCell ⟨B, 0, none⟩ v') := by
  have hbx : Box w6 B 125 (sC ov (.slice (some ⟨P, 0, none⟩) N cp) (.slice (some ⟨V, 0, none⟩) N cv) (.int .i64 st.looks) (opsV m) s (.slice (some ⟨S, 0, none⟩) N cs) (opsV m) ev) := h.fro.box.grown hg h.own (by decide)
  have hge : w6.ownsRow W0.heap.size 166 2 ev ents.length (cellsN ents) := h.fro.own.kept hg (own_ne_own h.fro.own h.own (by decide))
  have hir : ∀ {b : Nat} {zs : List Int}, IR w b zs → b < lo → IR w6 b zs := by
    intro b zs hb hl
    obtain ⟨cur, h1, h2⟩ := hb
    exact ⟨cur, (hg.block b (Array.getElem?_eq_some_iff.1 h1).1 (fun e => own_ne_lo h.own hl e.symm)).trans h1, h2⟩
  have hd : BR w6 S st.done := by
    obtain ⟨cur, h1, h2⟩ := id h.done
    exact ⟨cur, (hg.block S (Array.getElem?_eq_some_iff.1 h1).1 (fun e => own_ne h.own h1 (by decide) e.symm)).trans h1, h2⟩
  have hP := hir h.par h.hlo.1
  have hV := hir h.vals h.hlo.2.1
  have nP := hP.ne hbx (by decide)
  have nV := hV.ne hbx (by decide)
  have nS := hd.ne hbx (by decide)
  have hsz := hg.size
  have hbel : Below W0.heap.size W0 w6 := h.bel.grown hg h.fro.hb (fun q hq => by have := (h.own.lt q hq).1; have := h.hb.2.2.2; omega)
  have hch : ChaT AS W0.heap.size w w6 := by
    have h0 := ChaT.of_grown (A := AS) (base := lo) hg h.own (.inr (.inl rfl))
    refine ⟨h0.os, h0.tape, h0.output, h0.size, fun k hk hn => h0.block k hk (fun ⟨hb, r⟩ => hn ⟨Nat.le_trans h.hb.2.2.2 hb, r⟩)⟩
  refine ⟨⟨⟨hbx.set 0 _, own_set_ne hge (own_ne hge hbx (by decide)), h.fro.hB, by simp; have := h.fro.hb; omega⟩, ?_, hP.other (fun e => nP e.symm), hV.other (fun e => nV e.symm), hd.other (fun e => nS e.symm), h.ne, ⟨h.hlo.1, h.hlo.2.1, by simp; have := h.hlo.2.2; omega⟩, h.hb, hbel.setCell h.fro.hB _, ⟨h.ok.par, h.ok.vals, h.ok.done, h.ok.all⟩⟩, hch.trans (ChaT.set hbx h.fro.hB (.inl (.inl rfl)) 0 _)⟩
  have h1 := own_set_ne (i := 0) (u := v') ho (own_ne ho hbx (by decide))
  simpa using h1

/-- How many elements a slice in a cell has. -/
def lenAt (B o : Nat) (w : World) : Nat := match w.cell? ⟨B, o, none⟩ with | some (.slice _ n _) => n | _ => 0
theorem lenAt_of {B o n c : Nat} {a : Option Addr} {w : World} (h : w.cell? ⟨B, o, none⟩ = some (.slice a n c)) : lenAt B o w = n := by unfold lenAt; rw [h]
/-- What the next step of a search answers. -/
def NextR (W0 : World) (B : Nat) (m : Int) (N : Nat) (s : Value) (st : St) (P cp V cv S cs lo : Nat) (bnd : Nat) (w' : World) (i : Int) (ok : Bool) : Prop :=
  (ok = false ∧ i = 0 ∧ nxF m st.vals st.done = -1 ∧ ∃ ov ev, FInv W0 B m N s st [] P cp V cv S cs lo w' ov ev) ∨
  (ok = true ∧ ∃ k : Nat, i = k ∧ k < N ∧ nxF m st.vals st.done = k ∧ st.done.getD k true = false ∧ ∃ ents ov ev, FInv W0 B m N s (stMark k st) ents P cp V cv S cs lo w' ov ev ∧ ents.length ≤ bnd)
/-- A search's next step, as it ends. -/
def NextE (W0 : World) (B : Nat) (m : Int) (N : Nat) (s : Value) (st : St) (P cp V cv S cs lo : Nat) (bnd : Nat) (e : Ending) (w' : World) : Prop := ∃ i ok, e = .returned (.tuple #[.int .i64 i, .bool ok]) ∧ NextR W0 B m N s st P cp V cv S cs lo bnd w' i ok
set_option maxRecDepth 20000 in
set_option maxHeartbeats 8000000 in
theorem settleNext {W0 : World} {B : Nat} {m : Int} {N : Nat} {s : Value} {st : St} {ents : List En} {P cp V cv S cs lo : Nat} {w : World} {ov ev : Value} (hm : mKind m = true) (h : FInv W0 B m N s st ents P cp V cv S cs lo w ov ev) (hl : ents.length ≤ 1000000) (hN : N ≤ 1048576) (ho : st.ord.length ≤ 1000000) :
    Calls Try.prog 118 #[.pointer (some ⟨B, 0, none⟩)] w fun e w' => NextE W0 B m N s st P cp V cv S cs lo ents.length e w' ∧ ChaT AS W0.heap.size w w' := by
  have HH := Lib.hid h
  clear h
  go_enter Try.func118, Try.ntmps118
  go_wp2
  go_loopw [] (fun wr => ∃ (en : List En) (ev' : Value), Hid (FInv W0 B m N s st en P cp V cv S cs lo wr ov ev' ∧ en.length ≤ ents.length ∧ ChaT AS W0.heap.size w wr)) (fun wr => lenAt B 8 wr)
  case atStart => exact ⟨ents, ev, Lib.hid ⟨HH.out, Nat.le_refl _, ChaT.refl _ _ _⟩⟩
  case round =>
    obtain ⟨en, ev', HI⟩ := hrel
    have hle := frLen HI.out.1.inv.fro
    obtain ⟨⟨y0, y1, y2, y3, y4, y5, y6⟩, hB⟩ := HI.out.1.inv.cells
    cases hen : en with
    | nil =>
      rw [hen] at hle
      have HLE := Lib.hid hle
      have HEN := Lib.hid hen
      clear hle hen
      go_wp2_with (go_at_call 130; (with_reducible refine (HLE.out).mono ?_); rintro e w1 ⟨rfl, hb1⟩)
      go_ret2
      obtain ⟨i1, i2, i3⟩ := HI.out
      rw [HEN.out] at i1
      exact ⟨⟨0, false, rfl, .inl ⟨rfl, rfl, waits_end hm i1.inv.ok i1.wait, ov, ev', i1.keep hb1⟩⟩, i3.trans (ChaT.of_below hb1)⟩
    | cons e0 en0 =>
      obtain ⟨n, hn⟩ : ∃ n, en.length = n + 1 := ⟨en0.length, by rw [hen]; rfl⟩
      clear hen
      have h0 : 0 < en.length := by omega
      rw [hn] at hle
      have hpo := fun w' (hb : Below wr.heap.size wr w') => heapPop hm (HI.out.1.inv.fro.keep hb) hn (by have := HI.out.2.1; omega) HI.out.1.heap
      have hmem : en.getD 0 (0, 0) ∈ en := by
        rw [show en.getD 0 (0, 0) = en[0] by simp [List.getD, h0]]; exact List.getElem_mem h0
      obtain ⟨⟨a1, a2⟩, a3, a4, a5⟩ := HI.out.1.wait.ok _ hmem
      obtain ⟨i, hi⟩ : ∃ i : Nat, (en.getD 0 (0, 0)).1 = i := ⟨(en.getD 0 (0, 0)).1.toNat, by omega⟩
      obtain ⟨v, hv⟩ : ∃ v, v = (en.getD 0 (0, 0)).2 := ⟨_, rfl⟩
      rw [hi, Int.toNat_natCast] at a2
      rw [hi, ← hv] at hpo
      have hi' : (i : Int) < N := by omega
      have HLE := Lib.hid hle
      have HPO := Lib.hid hpo
      have HN := Lib.hid hn
      have HMI := Lib.hid (And.intro hi hv)
      have hn9 : n ≤ 1000000 := by have := HI.out.2.1; omega
      have hta := assert_reached
      obtain ⟨D, hD⟩ : ∃ D, D = st.done.getD i true := ⟨_, rfl⟩
      have HDD := Lib.hid hD
      have hgt : decide ((n : Int) + 1 > 0) = true := decide_eq_true (by omega)
      clear hle hpo hn hmem a1 a3 a4 a5 hi hv y0 y1 y2 y3 y4 y5 y6 hD h0
      cases D
      rotate_left
      · go_wp2_with (first | (go_at_call 130; (with_reducible refine (HLE.out).mono ?_); rintro e w1 ⟨rfl, hb1⟩) | (go_at_call 131; (with_reducible refine (HPO.out _ hb1).mono ?_); rintro e w2 ⟨rfl, ⟨ev2, en2, hf2, hl2, hh2, hm2⟩, hc2⟩))
        have hb3 : Below w2.heap.size w2 (w2.alloc (.cells #[.int .i64 i, .int .i64 v] 166)) := (Below.refl _ _).alloc (Nat.le_refl _) _
        have KE := Lib.hid (And.intro hb3 (Box.new w2 166 #[.int .i64 i, .int .i64 v]))
        have hS2 : SInv W0 B m N s st en2 P cp V cv S cs lo w2 ov ev2 := (HI.out.1.inv.keep hb1).fro2 hc2 hf2
        have hc2' : ChaT AS W0.heap.size wr w2 := (ChaT.of_below hb1).trans (hc2.mono (fun t ht => .inl ht))
        have H2 := Lib.hid (And.intro hS2 (And.intro hl2 (And.intro hh2 (And.intro hm2 hc2'))))
        obtain ⟨⟨y0, y1, y2, y3, y4, y5, y6⟩, hBr⟩ := hS2.cells
        have hd0 := (hS2.done.cell (i := i) (by rw [hS2.ok.done]; exact a2)).1
        rw [← HDD.out] at hd0
        have fx : ∀ w', Below w2.heap.size w2 w' → Box w' w2.heap.size 166 #[.int .i64 i, .int .i64 v] → w'.cell? ⟨B, 6, none⟩ = some (.slice (some ⟨S, 0, none⟩) N cs) ∧ w'.cell? ⟨S, i, none⟩ = some (.bool true) ∧ w'.cell? ⟨w2.heap.size, 0, none⟩ = some (.int .i64 i) :=
          fun w' hb hbx => ⟨(hb.cell (p := ⟨B, _, none⟩) hBr).trans y6, (hb.cell (p := ⟨S, _, none⟩) hS2.done.lt).trans hd0, by simpa using hbx.cell 0⟩
        have FX := Lib.hid fx
        clear hb3 hS2 hf2 hl2 hh2 hm2 hc2 hc2' hb1 hd0 fx y0 y1 y2 y3 y4 y5 y6
        generalize (w2.alloc (.cells #[.int .i64 i, .int .i64 v] 166)) = w3 at KE ⊢
        refine wp_region_below (by kernel_rfl) (by kernel_rfl) ?_
        repeat (go_big_quiet_step ((intro hw; first | with_reducible rfl | (obtain ⟨f0, f1, f2⟩ := FX.out _ (bel_trans KE.out.1 hw) (KE.out.2.keep hw); simp only [f0, f1, f2, Result.andThen]; first | exact ⟨trivial, rfl⟩ | exact ⟨rfl, rfl⟩))))
        refine wpQuiet_nil ?_
        intro w4 hw4
        have K4 := Lib.hid (And.intro (bel_trans KE.out.1 hw4) (KE.out.2.keep hw4))
        clear hw4
        obtain ⟨y0, y1, y2⟩ := FX.out _ K4.out.1 K4.out.2
        go_wp2
        go_roundw
        case rel =>
          have hrel2 : Hid (FInv W0 B m N s st en2 P cp V cv S cs lo w4 ov ev2 ∧ en2.length ≤ ents.length ∧ ChaT AS W0.heap.size w w4) := Lib.hid (by
            obtain ⟨i1, i2, i3⟩ := HI.out
            obtain ⟨j1, j2, j3, j4, j5⟩ := H2.out
            refine ⟨⟨j1.keep K4.out.1, by rw [j2]; exact j3, waits_skip i1.wait HMI.out.1 HDD.out.symm j4⟩, by have := HN.out; omega, (i3.trans j5).trans (ChaT.of_below K4.out.1)⟩)
          first | exact ⟨en2, ev2, hrel2⟩ | ((repeat apply Exists.intro); exact ⟨⟨en2, ev2, hrel2⟩, rfl⟩)
        case measure =>
          obtain ⟨j1, j2, j3, j4, j5⟩ := H2.out
          obtain ⟨va1, vc1, hv1⟩ := HI.out.1.inv.fro.slice
          obtain ⟨va2, vc2, hv2⟩ := (j1.keep K4.out.1).fro.slice
          have e1 := lenAt_of (HI.out.1.inv.fro.cells.2.1.trans (by rw [hv1]))
          have e2 := lenAt_of ((j1.keep K4.out.1).fro.cells.2.1.trans (by rw [hv2]))
          have := HN.out
          omega
      go_wp2_with (first | (go_at_call 130; (with_reducible refine (HLE.out).mono ?_); rintro e w1 ⟨rfl, hb1⟩) | (go_at_call 131; (with_reducible refine (HPO.out _ hb1).mono ?_); rintro e w2 ⟨rfl, ⟨ev2, en2, hf2, hl2, hh2, hm2⟩, hc2⟩))
      have hb3 : Below w2.heap.size w2 (w2.alloc (.cells #[.int .i64 i, .int .i64 v] 166)) := (Below.refl _ _).alloc (Nat.le_refl _) _
      have KE := Lib.hid (And.intro hb3 (Box.new w2 166 #[.int .i64 i, .int .i64 v]))
      have hS2 : SInv W0 B m N s st en2 P cp V cv S cs lo w2 ov ev2 := (HI.out.1.inv.keep hb1).fro2 hc2 hf2
      have hc2' : ChaT AS W0.heap.size wr w2 := (ChaT.of_below hb1).trans (hc2.mono (fun t ht => .inl ht))
      have H2 := Lib.hid (And.intro hS2 (And.intro hl2 (And.intro hh2 (And.intro hm2 hc2'))))
      obtain ⟨⟨y0, y1, y2, y3, y4, y5, y6⟩, hBr⟩ := hS2.cells
      have hd0 := (hS2.done.cell (i := i) (by rw [hS2.ok.done]; exact a2)).1
      rw [← HDD.out] at hd0
      have fx : ∀ w', Below w2.heap.size w2 w' → Box w' w2.heap.size 166 #[.int .i64 i, .int .i64 v] → w'.cell? ⟨B, 6, none⟩ = some (.slice (some ⟨S, 0, none⟩) N cs) ∧ w'.cell? ⟨S, i, none⟩ = some (.bool false) ∧ w'.cell? ⟨w2.heap.size, 0, none⟩ = some (.int .i64 i) :=
        fun w' hb hbx => ⟨(hb.cell (p := ⟨B, _, none⟩) hBr).trans y6, (hb.cell (p := ⟨S, _, none⟩) hS2.done.lt).trans hd0, by simpa using hbx.cell 0⟩
      have FX := Lib.hid fx
      clear hb3 hS2 hf2 hl2 hh2 hm2 hc2 hc2' hb1 hd0 fx y0 y1 y2 y3 y4 y5 y6
      generalize (w2.alloc (.cells #[.int .i64 i, .int .i64 v] 166)) = w3 at KE ⊢
      refine wp_region_below (by kernel_rfl) (by kernel_rfl) ?_
      repeat (go_big_quiet_step ((intro hw; first | with_reducible rfl | (obtain ⟨f0, f1, f2⟩ := FX.out _ (bel_trans KE.out.1 hw) (KE.out.2.keep hw); simp only [f0, f1, f2, Result.andThen]; first | exact ⟨trivial, rfl⟩ | exact ⟨rfl, rfl⟩))))
      refine wpQuiet_nil ?_
      intro w4 hw4
      have K4 := Lib.hid (And.intro (bel_trans KE.out.1 hw4) (KE.out.2.keep hw4))
      clear hw4
      obtain ⟨y0, y1, y2⟩ := FX.out _ K4.out.1 K4.out.2
      have f0 : w4.frozen? ⟨S, i, none⟩ = false := ((H2.out.1.keep K4.out.1).done.cell (by rw [H2.out.1.ok.done]; exact a2)).2
      go_wp2_with fail
      go_region
      have hst := (H2.out.1.keep K4.out.1).settle (i := i) a2
      have hlt2 := H2.out.1.done.lt
      have nE : w2.heap.size ≠ S := by omega
      have nEB : w2.heap.size ≠ B := by have := H2.out.1.fro.box.lt; omega
      have H5 := Lib.hid (And.intro (hst.1.keep ((Below.refl _ _).drew)) (And.intro (hst.2.trans (ChaT.of_below ((Below.refl _ _).drew))) (Box.drew (K4.out.2.setOther nE i (.bool true)))))
      obtain ⟨oa, oc, hov⟩ := own_slice hst.1.own
      subst hov
      clear hst hlt2 y0 y1 y2
      go_wp2_with fail
      generalize (w4.setCell ⟨S, i, none⟩ (.bool true)).drew = w5 at H5 ⊢
      obtain ⟨i0, hi, hz0, hz1, hz2⟩ := info_parts info_int2
      have x0 : w5.cell? ⟨B, 0, none⟩ = some (.slice oa st.ord.length oc) := H5.out.1.cells.1.1
      have z0 : w5.cell? ⟨w2.heap.size, 0, none⟩ = some (.int .i64 i) := by simpa using H5.out.2.2.cell 0
      have hB5 := H5.out.1.fro.box.lt
      have hxg : ∀ A w6, World.grownBy ((w5.alloc A).drew) w6 (Value.slice oa st.ord.length oc).ownBlock → (w6.cell? ⟨B, 0, none⟩ = some (.slice oa st.ord.length oc) ∧ w6.frozen? ⟨B, 0, none⟩ = false) ∧ Box w6 w2.heap.size 166 #[.int .i64 i, .int .i64 v] := fun A w6 h => by
        have h1 := Box.grown (w := (w5.alloc A).drew) (H5.out.1.fro.box.alloc A) h (own_drew (H5.out.1.own.alloc A)) (by decide)
        have h2 := Box.grown (w := (w5.alloc A).drew) (H5.out.2.2.alloc A) h (own_drew (H5.out.1.own.alloc A)) (by decide)
        exact ⟨⟨by simpa using h1.cell 0, h1.frozen 0⟩, h2⟩
      have HXG := Lib.hid hxg
      have hlo5 : lo ≤ w5.heap.size := H5.out.1.hlo.2.2
      clear hxg
      go_region_law (first | (refine step_append_own rfl (.tmp 44) (.tmp 47) 26 rfl lo 3 i0 (.int .i64 0) 1 8 Try.underlying26 hi hz0 hz1 hz2 rfl (by decide) (.slice oa st.ord.length oc) st.ord.length (st.ord.map (Value.int .i64)) rfl (own_drew (H5.out.1.own.alloc _)) ⟨w5.heap.size, 0, none⟩ 1 1 [.int .i64 i] rfl rfl (cells_new1 _ _ _) (by simp [Value.oneCell']) (by unfold maxLen; omega) (by omega) (by simp; omega) ?_; intro v' w6 hown6 hgrow6; obtain ⟨va6, vc6, rfl⟩ := own_slice hown6; have HX6 := Lib.hid (HXG.out _ _ hgrow6); have x06 := HX6.out.1.1; have f06 := HX6.out.1.2))
      all_goals
        have z6 : (w6.setCell ⟨B, 0, none⟩ (.slice va6 (st.ord.length + 1) vc6)).cell? ⟨w2.heap.size, 0, none⟩ = some (.int .i64 i) := by simpa using (HX6.out.2.setOther nEB 0 (.slice va6 (st.ord.length + 1) vc6)).cell 0
        go_wp2
        go_ret2
        obtain ⟨i1, i2, i3⟩ := HI.out
        obtain ⟨j1, j2, j3, j4, j5⟩ := H2.out
        have hbA : Below w5.heap.size w5 ((w5.alloc (.cells #[.int .i64 (i : Int)] 3)).drew) := ((Below.refl _ _).alloc (Nat.le_refl _) _).drew
        have hor := (H5.out.1.keep hbA).order (x := (i : Int)) hgrow6 hown6
        have hmn := waits_min hm i1.inv.ok i1.wait (by have := HN.out; omega) i1.heap HMI.out.1 HDD.out.symm
        have hnx := nxF_min hm (by rw [i1.inv.ok.vals]; exact hmn.1)
        refine ⟨⟨(i : Int), true, rfl, .inr ⟨rfl, i, rfl, a2, hnx, HDD.out.symm, en2, _, ev2, ⟨hor.1, by rw [j2]; exact j3, waits_mark i1.inv.ok i1.wait HMI.out.1 j4⟩, by have := HN.out; omega⟩⟩, ?_⟩
        exact (((i3.trans j5).trans (ChaT.of_below K4.out.1)).trans H5.out.2.1).trans ((ChaT.of_below hbA).trans hor.2)
end Go.Proofs.Ytlmhccjppmhdbaa
