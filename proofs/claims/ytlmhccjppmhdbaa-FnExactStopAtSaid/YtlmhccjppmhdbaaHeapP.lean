/- container/heap over the waiting nodes: Push and Pop, whole. -/
import Derived.Test.YtlmhccjppmhdbaaHeapH
namespace Go.Proofs.Ytlmhccjppmhdbaa
open Go.RowKit Go.BigFrame Go.Deep
set_option linter.unusedVariables false
set_option linter.unusedSimpArgs false

set_option maxRecDepth 20000 in
set_option maxHeartbeats 4000000 in
theorem heapPush {m : Int} (hm : mKind m = true) {base B : Nat} {c0 c1 c2 c3 c4 c5 c6 ev : Value} {es : List En} {w : World} (h : Fro w base B c0 c1 c2 c3 c4 c5 c6 (opsV m) ev es) (hl : es.length ≤ 1000000) (hh : hOk m es.length es) (a b : Int) :
    Calls Try.prog 117 #[.iface 164 (.pointer (some ⟨B, 7, none⟩)), .iface 166 (.agg #[.int .i64 a, .int .i64 b])] w fun e w' => e = .returned (.tuple #[]) ∧ (∃ ev' es', Fro w' base B c0 c1 c2 c3 c4 c5 c6 (opsV m) ev' es' ∧ es'.length = es.length + 1 ∧ hOk m es'.length es' ∧ ∀ x, x ∈ es' ↔ x ∈ es ∨ x = (a, b)) ∧ ChaT AF base w w' := by
  obtain ⟨l1, l2, l3⟩ := mLen B
  obtain ⟨s1, s2, s3⟩ := mPush B
  have hp := frPush h (by omega) a b
  have HP := Lib.hid hp
  have HH := Lib.hid hh
  have HL := Lib.hid hl
  have hlen : (es ++ [(a, b)]).length = es.length + 1 := by simp
  have hup : HeapUp (eLess m) (es ++ [(a, b)]).length (fun k => (es ++ [(a, b)]).getD k (0, 0)) es.length := by
    rw [hlen]
    exact up_start hh (fun k hk => by simp [List.getD, List.getElem?_append_left hk])
  have HUP := Lib.hid hup
  have HLEN := Lib.hid hlen
  have hsub : (((es.length + 1 : Nat) : Int)) - 1 = (es.length : Nat) := by omega
  clear h hp hh hup hlen
  go_enter Try.func117, Try.ntmps117
  go_wp2_with fail
  refine (HP.out).mono ?_
  rintro e w1 ⟨rfl, ⟨ev1, hf1⟩, hc1⟩
  have HF1 := Lib.hid (And.intro hf1 hc1)
  have hle := frLen hf1
  rw [HLEN.out] at hle
  have HLE := Lib.hid hle
  have hu := fun w' (hb : Below w1.heap.size w1 w') => heapUp hm (hf1.keep hb) (j := es.length) (by rw [HLEN.out]; omega) (by rw [HLEN.out]; have := HL.out; omega) HUP.out
  have HU := Lib.hid hu
  clear hf1 hc1 hle hu
  go_wp2_with (first | (with_reducible refine (HLE.out).mono ?_; rintro e w2 ⟨rfl, hb2⟩) | (go_at_call 129; (with_reducible refine (HU.out _ hb2).mono ?_); rintro e w3 ⟨rfl, ⟨es', hf3, hn3, hh3, hi3⟩, hc3⟩))
  go_end0
  have hn4 : es'.length = es.length + 1 := by rw [hn3, HLEN.out]
  refine ⟨rfl, ⟨ev1, es', hf3, hn4, by rw [hn3]; exact hh3, fun x => ?_⟩, (HF1.out.2.trans (ChaT.of_below hb2)).trans hc3⟩
  have := hi3 x
  rw [inB_all, ← hn3, inB_all] at this
  rw [this]
  simp
theorem inB_pop {es : List En} {n : Nat} (hn : es.length = n + 1) (x : En) : (inB n (lsw es 0 n) x → x ∈ es) ∧ (x ∈ es → x = es.getD 0 (0, 0) ∨ inB n (lsw es 0 n) x) := by
  constructor
  · rintro ⟨k, hk, rfl⟩
    rw [lsw_get (by omega) (by omega)]
    have hmem : ∀ j, j < es.length → es.getD j (0, 0) ∈ es := fun j hj => by
      rw [show es.getD j (0, 0) = es[j] by simp [List.getD, hj]]; exact List.getElem_mem hj
    unfold swp
    split
    · exact hmem _ (by omega)
    · split
      · exact hmem _ (by omega)
      · exact hmem _ (by omega)
  · intro hx
    obtain ⟨k, hk, rfl⟩ := List.getElem_of_mem hx
    have e : es[k] = es.getD k (0, 0) := by simp [List.getD, hk]
    rw [e]
    by_cases h0 : k = 0
    · subst h0; exact .inl rfl
    · refine .inr ?_
      by_cases h1 : k = n
      · subst h1
        exact ⟨0, by omega, by rw [lsw_get (by omega) (by omega), swp_l]⟩
      · exact ⟨k, by omega, by rw [lsw_get (by omega) (by omega), swp_o _ h0 h1]⟩
set_option maxRecDepth 20000 in
set_option maxHeartbeats 4000000 in
theorem heapPop {m : Int} (hm : mKind m = true) {base B : Nat} {c0 c1 c2 c3 c4 c5 c6 ev : Value} {es : List En} {w : World} (h : Fro w base B c0 c1 c2 c3 c4 c5 c6 (opsV m) ev es) {n : Nat} (hn : es.length = n + 1) (hl : es.length ≤ 1000000) (hh : hOk m es.length es) :
    Calls Try.prog 131 #[.iface 164 (.pointer (some ⟨B, 7, none⟩))] w fun e w' => e = .returned (.iface 166 (.agg #[.int .i64 (es.getD 0 (0, 0)).1, .int .i64 (es.getD 0 (0, 0)).2])) ∧ (∃ ev' es', Fro w' base B c0 c1 c2 c3 c4 c5 c6 (opsV m) ev' es' ∧ es'.length = n ∧ hOk m n es' ∧ ∀ x, (x ∈ es' → x ∈ es) ∧ (x ∈ es → x = es.getD 0 (0, 0) ∨ x ∈ es')) ∧ ChaT AF base w w' := by
  obtain ⟨l1, l2, l3⟩ := mLen B
  obtain ⟨s1, s2, s3⟩ := mSwap B
  obtain ⟨p1, p2, p3⟩ := mPop B
  have hle := frLen h
  rw [hn] at hle hh
  have hsw := fun w' (hb : Below w.heap.size w w') => frSwap (h.keep hb) (i := 0) (j := n) (by omega) (by omega)
  rw [show ((0 : Nat) : Int) = 0 from rfl] at hsw
  have hdn : HeapDown (eLess m) n (fun k => (lsw es 0 n).getD k (0, 0)) 0 := by
    have h1 := down_start (n := n) hh
    have e : (fun k => (lsw es 0 n).getD k (0, 0)) = swp (fun k => es.getD k (0, 0)) 0 n := funext (fun k => lsw_get (by omega) (by omega) k)
    rw [e]; exact h1
  have hd := fun w' (hf : Fro w' base B c0 c1 c2 c3 c4 c5 c6 (opsV m) ev (lsw es 0 n)) => heapDown hm hf (n := n) (by rw [lsw_len]; exact hn) (by rw [lsw_len]; omega) hdn
  have HLE := Lib.hid hle
  have HSW := Lib.hid hsw
  have HD := Lib.hid hd
  have HN := Lib.hid hn
  have HL := Lib.hid hl
  have hsub : ((n + 1 : Nat) : Int) - 1 = n := by omega
  have hn9 : n ≤ 1000000 := by omega
  clear h hle hsw hd hdn hn hh hl
  go_enter Try.func131, Try.ntmps131
  go_wp2_with (first | (with_reducible refine (HLE.out).mono ?_; rintro e w1 ⟨rfl, hb1⟩) | (with_reducible refine (HSW.out _ hb1).mono ?_; rintro e w2 ⟨rfl, hf2, hc2⟩; have H2 := Lib.hid (And.intro hf2 (And.intro hc2 hb1)); clear hf2 hc2 hb1) | (go_at_call 138; (with_reducible refine (HD.out _ H2.out.1).mono ?_); rintro e w3 ⟨⟨r, rfl⟩, ⟨es3, hf3, hn3, hh3, hg3, hi3⟩, hc3⟩))
  have hpo := frPop hf3 hn3 (by have := HL.out; have := HN.out; omega)
  have e0 : es3.getD n (0, 0) = es.getD 0 (0, 0) := by rw [hg3, lsw_get (by have := HN.out; omega) (by have := HN.out; omega), swp_r]
  rw [e0] at hpo
  have HPO := Lib.hid hpo
  have H3 := Lib.hid (And.intro hn3 (And.intro hh3 (And.intro hi3 hc3)))
  clear hpo e0 hf3 hn3 hh3 hg3 hi3 hc3
  go_wp2_with (with_reducible refine (HPO.out).mono ?_; rintro e w4 ⟨rfl, ⟨ev4, hf4⟩, hc4⟩)
  go_ret
  obtain ⟨hn3, hh3, hi3, hc3⟩ := H3.out
  have htk : ∀ k, k < n → (es3.take n).getD k (0, 0) = es3.getD k (0, 0) := fun k hk => by simp [List.getD, List.getElem?_take, hk]
  have htl : (es3.take n).length = n := by simp; omega
  refine ⟨rfl, ⟨ev4, es3.take n, hf4, htl, ?_, fun x => ?_⟩, (((ChaT.of_below H2.out.2.2).trans H2.out.2.1).trans hc3).trans hc4⟩
  · intro k hk0 hk
    show eLess m ((es3.take n).getD k (0, 0)) ((es3.take n).getD ((k - 1) / 2) (0, 0)) = false
    rw [htk k hk, htk ((k - 1) / 2) (by omega)]
    exact hh3 k hk0 hk
  · have e1 : x ∈ es3.take n ↔ inB n (lsw es 0 n) x := by
      rw [← hi3 x, ← inB_all, htl]
      unfold inB
      constructor
      · rintro ⟨k, hk, h⟩; exact ⟨k, hk, by rw [← htk k hk]; exact h⟩
      · rintro ⟨k, hk, h⟩; exact ⟨k, hk, by rw [htk k hk]; exact h⟩
    rw [e1]
    exact inB_pop HN.out x
end Go.Proofs.Ytlmhccjppmhdbaa
