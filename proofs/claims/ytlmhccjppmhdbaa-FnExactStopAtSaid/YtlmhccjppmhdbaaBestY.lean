/- A search: until a node is settled, or all are. -/
import Derived.Test.YtlmhccjppmhdbaaBestX
namespace Go.Proofs.Ytlmhccjppmhdbaa
open Go.RowKit Go.BigFrame Go.Deep
set_option linter.unusedVariables false
set_option linter.unusedSimpArgs false

theorem stLook_ord (m at' : Int) (st : St) (e : Ed) : (stLook m at' st e).ord = st.ord := by
  unfold stLook stFollow stTake stTick
  split
  · split <;> rfl
  · rfl
theorem stScan_ord (m at' : Int) : ∀ (es : List Ed) (st : St), (stScan m at' es st).ord = st.ord
  | [], st => rfl
  | e :: es, st => (stScan_ord m at' es _).trans (stLook_ord m at' st e)
theorem stRun_stop {m target : Int} {es : List Ed} {f : Nat} {st : St} (h : nxF m st.vals st.done = -1) : stRun m target es (f + 1) st = st := by
  rw [stRun, if_pos (by rw [h]; omega)]
theorem stRun_hit {m : Int} {es : List Ed} {f : Nat} {st : St} {k : Nat} (h : nxF m st.vals st.done = k) : stRun m (k : Int) es (f + 1) st = stMark k st := by
  rw [stRun, if_neg (by rw [h]; omega), if_pos h, h, Int.toNat_natCast]
theorem stRun_go {m target : Int} {es : List Ed} {f : Nat} {st : St} {k : Nat} (h : nxF m st.vals st.done = k) (hne : ¬ (k : Int) = target) : stRun m target es (f + 1) st = stRun m target es f (stScan m k es (stMark k st)) := by
  rw [stRun, if_neg (by rw [h]; omega), if_neg (by rw [h]; exact hne), h, Int.toNat_natCast]
/-- The measure of the loop over all nodes. -/
def suM (K B : Nat) (d : Value) (w : World) : Nat := 2 * (K - lenAt B 0 w) + (match d with | .bool true => 1 | _ => 0)
theorem SInv.len {W0 : World} {B : Nat} {m : Int} {N : Nat} {s : Value} {st : St} {ents : List En} {P cp V cv S cs lo : Nat} {w : World} {ov ev : Value} (h : SInv W0 B m N s st ents P cp V cv S cs lo w ov ev) : lenAt B 0 w = st.ord.length := by
  obtain ⟨a, c, hov⟩ := own_slice h.own
  exact lenAt_of (h.cells.1.1.trans (by rw [hov]))
/-- Where a search stands ahead of a round. -/
structure SuI (W0 : World) (B : Nat) (m : Int) (N : Nat) (s : Value) (es : List Ed) (target : Int) (P cp V cv S cs lo : Nat) (K : Nat) (R : St) (w wr : World) (i : Int) (ok : Bool) (st : St) (f bnd : Nat) : Prop where
  nd : nd st.done ≤ f
  run : R = stRun m target es (f + 1) st
  next : NextR W0 B m N s st P cp V cv S cs lo bnd wr i ok
  looks : 0 ≤ st.looks ∧ st.looks ≤ 1000 + 40 * st.ord.length
  bnd : bnd ≤ 1000 + 40 * st.ord.length
  ord : st.ord.length + Go.Proofs.Ytlmhccjppmhdbaa.nd st.done = K
  cha : ChaT AS W0.heap.size w wr
set_option maxRecDepth 20000 in
set_option maxHeartbeats 8000000 in
theorem settleUntil {W0 : World} {B : Nat} {m : Int} {N : Nat} {s : Value} {st : St} {ents : List En} {P cp V cv S cs lo : Nat} {w : World} {ov ev : Value} {es : List Ed} (hm : mKind m = true) (h : FInv W0 B m N s st ents P cp V cv S cs lo w ov ev) (hs : RowE W0 s es) (he : eAll N es) (h40 : es.length ≤ 40) (hl : ents.length ≤ 1000) (hk0 : 0 ≤ st.looks) (hk1 : st.looks ≤ 1000) (hK : st.ord.length + nd st.done ≤ 1000) (target : Int) (hN : N ≤ 1048576) :
    Calls Try.prog 95 #[.pointer (some ⟨B, 0, none⟩), .int .i64 target] w fun e w' => e = .returned (.tuple #[]) ∧ (∃ ents' ov' ev', FInv W0 B m N s (stRun m target es (nd st.done + 1) st) ents' P cp V cv S cs lo w' ov' ev') ∧ ChaT AS W0.heap.size w w' := by
  obtain ⟨R, hR⟩ : ∃ R, R = stRun m target es (nd st.done + 1) st := ⟨_, rfl⟩
  rw [← hR]
  obtain ⟨K, hKK⟩ : ∃ K, K = st.ord.length + nd st.done := ⟨_, rfl⟩
  have hsn := settleNext hm h (by omega) hN (by omega)
  have HSN := Lib.hid hsn
  have HR := Lib.hid hR
  have HKK := Lib.hid hKK
  have HS := Lib.hid hs
  have HE := Lib.hid he
  have hK9 : K ≤ 1000 := by omega
  clear h hsn hR hs he hKK
  go_enter Try.func95, Try.ntmps95
  go_wp2_with (go_at_call 118; (with_reducible refine (HSN.out).mono ?_); rintro e w1 ⟨⟨i, ok, rfl, hnr⟩, hc1⟩; have H1 := Lib.hid (And.intro hnr hc1); clear hnr hc1)
  go_loopw [4, 5] (fun c d wr => ∃ (i : Int) (ok : Bool) (st1 : St) (f bnd : Nat), c = .int .i64 i ∧ d = .bool ok ∧ Hid (SuI W0 B m N s es target P cp V cv S cs lo K R w wr i ok st1 f bnd)) (fun _ d wr => suM K B d wr)
  case atStart => exact ⟨i, ok, st, nd st.done, ents.length, rfl, rfl, Lib.hid ⟨Nat.le_refl _, HR.out, H1.out.1, ⟨hk0, by omega⟩, by omega, HKK.out.symm, H1.out.2⟩⟩
  case round =>
    obtain ⟨i, ok, st1, f, bnd, rfl, rfl, HI⟩ := hrel
    rcases HI.out.next with ⟨rfl, rfl, hn1, ov1, ev1, hf1⟩ | ⟨rfl, k, rfl, hkN, hnx, hdk, en1, ov1, ev1, hf1, hb1⟩
    · have H2 := Lib.hid (And.intro hn1 hf1)
      clear hn1 hf1
      go_wp2
      go_end0
      have e1 := HI.out.run
      rw [stRun_stop H2.out.1] at e1
      rw [e1]
      exact ⟨rfl, ⟨_, _, _, H2.out.2⟩, HI.out.cha⟩
    · have H2 := Lib.hid (And.intro hnx (And.intro hdk (And.intro hf1 hb1)))
      have hndk := nd_set st1.done k hdk
      clear hnx hdk
      by_cases hkt : (k : Int) = target
      · have d1 : ((k : Int) != target) = false := by simp; exact hkt
        have HKT := Lib.hid hkt
        clear hkt hf1 hb1
        go_wp2
        go_end0
        have e1 := HI.out.run
        rw [← HKT.out, stRun_hit H2.out.1] at e1
        rw [e1]
        exact ⟨rfl, ⟨_, _, _, H2.out.2.2.1⟩, HI.out.cha⟩
      · have d1 : ((k : Int) != target) = true := by simpa using hkt
        have e1 := HI.out.run
        obtain ⟨f', rfl⟩ : ∃ f', f = f' + 1 := ⟨f - 1, by have := HI.out.nd; omega⟩
        rw [stRun_go H2.out.1 hkt] at e1
        have hlo := HI.out.looks
        have hbn := HI.out.bnd
        have hor := HI.out.ord
        have hlf := lookFrom hm hf1 HS.out HE.out (by omega) (by show 0 ≤ st1.looks; omega) (by show st1.looks + _ ≤ _; omega) k hN
        have hsn2 := fun (w' : World) (en2 : List En) (ev2 : Value) (hf2 : FInv W0 B m N s (stScan m k es (stMark k st1)) en2 P cp V cv S cs lo w' ov1 ev2) (hl2 : en2.length ≤ en1.length + es.length) => settleNext hm hf2 (by omega) hN (by rw [stScan_ord]; simp [stMark]; omega)
        have HLF := Lib.hid hlf
        have HSN2 := Lib.hid hsn2
        have HE1 := Lib.hid e1
        have HKT := Lib.hid hkt
        clear hlf hsn2 e1 hkt hf1 hlo
        go_wp2_with (first | (go_at_call 119; (with_reducible refine (HLF.out).mono ?_); rintro e w2 ⟨rfl, ⟨en2, ev2, hf2, hl2⟩, hc2⟩; have H3 := Lib.hid (And.intro hl2 hc2)) | (go_at_call 118; (with_reducible refine (HSN2.out _ _ _ hf2 hl2).mono ?_); rintro e w3 ⟨⟨i3, ok3, rfl, hnr3⟩, hc3⟩; have H4 := Lib.hid (And.intro hnr3 hc3); clear hnr3 hc3 hf2 hl2 hc2))
        have hord2 : (stScan m (k : Int) es (stMark k st1)).ord.length = st1.ord.length + 1 := by rw [stScan_ord]; simp [stMark]
        have hnd2 : nd (stScan m (k : Int) es (stMark k st1)).done + 1 = nd st1.done := by rw [stScan_done]; exact hndk
        have hlk2 := stScan_looks m (k : Int) es (stMark k st1)
        have hlk3 : (stMark k st1).looks = st1.looks := rfl
        have HSI : Hid (SuI W0 B m N s es target P cp V cv S cs lo K R w w3 i3 ok3 (stScan m (k : Int) es (stMark k st1)) f' en2.length) := Lib.hid (by
          have hI := HI.out
          have hlo := hI.looks
          have hb2 := H2.out.2.2.2
          refine ⟨by have := hI.nd; omega, HE1.out, H4.out.1, ?_, ?_, ?_, (hI.cha.trans H3.out.2).trans H4.out.2⟩
          · rw [hord2]; rw [hlk3] at hlk2; omega
          · rw [hord2]; have := H3.out.1; omega
          · rw [hord2]; have := hI.ord; omega)
        have hmeas : suM K B (.bool ok3) w3 < suM K B (.bool true) wr := by
          have h1 := H2.out.2.2.1.inv.len
          have hml : (stMark k st1).ord.length = st1.ord.length + 1 := by simp [stMark]
          rcases H4.out.1 with ⟨rfl, _, _, ov4, ev4, hf4⟩ | ⟨rfl, k4, _, _, _, hd4, en4, ov4, ev4, hf4, _⟩
          · have h2 := hf4.inv.len
            unfold suM
            rw [h1, h2, hml, hord2]
            simp only
            omega
          · have h2 := hf4.inv.len
            have hml4 : (stMark k4 (stScan m (k : Int) es (stMark k st1))).ord.length = st1.ord.length + 2 := by simp [stMark, stScan_ord]
            unfold suM
            rw [h1, h2, hml, hml4]
            have := HI.out.ord
            have h5 := nd_set _ k4 hd4
            omega
        have HM := Lib.hid hmeas
        clear hord2 hnd2 hlk2 hlk3 hmeas
        go_roundw
        case rel => first | exact ⟨i3, ok3, _, f', _, rfl, rfl, HSI⟩ | ((repeat apply Exists.intro); exact ⟨⟨i3, ok3, _, f', _, rfl, rfl, HSI⟩, rfl⟩)
        case measure => exact HM.out
end Go.Proofs.Ytlmhccjppmhdbaa
