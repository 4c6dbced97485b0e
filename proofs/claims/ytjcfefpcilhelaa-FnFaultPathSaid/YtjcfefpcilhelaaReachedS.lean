/- ReachedNodes, in the program. ReachedNodes, in the model. -/
import Derived.Test.YtjcfefpcilhelaaNext
import Derived.Test.YtjcfefpcilhelaaDisp
import Derived.Test.YtjcfefpcilhelaaVValS
import Derived.Test.YtjcfefpcilhelaaSpec
import Derived.Test.YtjcfefpcilhelaaBoxes
namespace Go.Proofs.Ytjcfefpcilhelaa
open Go.RowKit Go.BigFrame Go.Deep
set_option linter.unusedVariables false
set_option linter.unusedSimpArgs false

/-- The first k nodes, as far as they are reached. -/
def rchK (m : Int) (zs : List Int) (k : Nat) : List Int := ((List.range k).filter (fun i => zs.getD i 0 != mNone m)).map (fun (i : Nat) => (i : Int))
def rch (m : Int) (zs : List Int) : List Int := rchK m zs zs.length
def rchV (n : Int) (es : List Ed) (m a : Int) (zs : List Int) : List Int := if vVal n es m a zs = true then rch m zs else []
theorem rchK_succ (m : Int) (zs : List Int) (k : Nat) : rchK m zs (k + 1) = rchK m zs k ++ (if (zs.getD k 0 != mNone m) = true then [(k : Int)] else []) := by
  unfold rchK
  rw [List.range_succ, List.filter_append, List.map_append]
  congr 1
  rw [List.filter_cons]
  generalize (zs.getD k 0 != mNone m) = b
  cases b <;> simp
theorem rchK_len (m : Int) (zs : List Int) (k : Nat) : (rchK m zs k).length ≤ k := by
  unfold rchK; rw [List.length_map]; exact Nat.le_trans (List.length_filter_le _ _) (by simp)

set_option maxRecDepth 20000 in
set_option maxHeartbeats 2000000 in
theorem reachedNodes (n m a : Int) (es : List Ed) (zs : List Int) (s t : Value) (w : World) (hs : RowE w s es) (ht : Row w t zs) (hl : es.length ≤ 281474976710656) (hl2 : zs.length ≤ 1048576) :
    Calls Try.prog 20 #[.agg #[.int .i64 n, s], .agg #[.int .i64 m, .int .i64 a, t]] w fun e w' => ∃ v, e = .returned v ∧ OwnI w w' v (rchV n es m a zs) ∧ Below w.heap.size w w' := by
  have hB : ∀ (A B : Obj), Below w.heap.size w ((w.alloc A).alloc B) := fun A B => ((Below.refl _ _).alloc (Nat.le_refl _) _).alloc (by simp) _
  have ho := fun A B => opsOfView n m a es zs s t ((w.alloc A).alloc B) (hs.keep (hB A B)) (ht.keep (hB A B)) hl (by omega)
  obtain ⟨ad, cap, rfl, hz0⟩ := hs
  obtain ⟨ad2, cap2, rfl, hy0⟩ := ht
  clear hz0
  have HY := Lib.hid hy0
  have HB := Lib.hid hB
  clear hy0 hB
  unfold rchV
  cases hV : vVal n es m a zs
  · rw [hV] at ho
    rw [if_neg (by decide)]
    have HO := Lib.hid ho
    clear ho hV
    go_enter Try.func20, Try.ntmps20
    go_wp2_with (go_at_call 59; refine (HO.out _ _).mono ?_; rintro e w1 ⟨rfl, hb1⟩)
    go_ret
    exact ⟨_, rfl, ⟨none, 0, rfl, .inl rfl⟩, bel_trans (HB.out _ _) hb1⟩
  rw [hV] at ho
  rw [if_pos rfl]
  have hm : mKind m = true := by
    unfold vVal mAll at hV
    simp only [Bool.and_eq_true] at hV
    exact hV.2.1
  obtain ⟨T, rv, fn, fe, fb, fo, fj, rn, re, rb, ro, rj, D⟩ := disp hm
  have e1 : opsR m true = .iface T rv := by rw [← D.val]; rfl
  rw [e1] at ho
  have hn1 := D.mn.run
  have hn2 := D.mn.ahead
  have hn3 := D.mn.enter
  have HN := Lib.hid D.cn
  have HO := Lib.hid ho
  obtain ⟨i0, hi, hz0', hz1, hz2⟩ := info_parts info_int2
  have HI : Hid (Try.prog.info? 3 = some i0 ∧ i0.zero = some (.int .i64 0) ∧ i0.size = 1 ∧ i0.bytes = 8) := Lib.hid ⟨hi, hz0', hz1, hz2⟩
  clear ho hV D e1 hi hz0' hz1 hz2
  go_enter Try.func20, Try.ntmps20
  go_wp2_with (go_at_call 59; refine (HO.out _ _).mono ?_; rintro e w1 ⟨rfl, hb1⟩; have x2 := hb1.cell (p := ⟨w.heap.size + 1, 2, none⟩) (by simp <;> omega))
  have hB1 := bel_trans (HB.out _ _) hb1
  clear x2 hb1
  go_loopw [21, 7] (fun c v wr => ∃ k : Nat, k ≤ zs.length ∧ c = .int .i64 k ∧ wr.ownsRow w.heap.size 3 1 v (rchK m zs k).length ((rchK m zs k).map (Value.int .i64)) ∧ Below w.heap.size w wr) (fun c _ _ => zs.length - (intOf c).toNat)
  case atStart => exact ⟨0, Nat.zero_le _, rfl, ⟨by simp [rchK], .inl ⟨rfl, by simp [rchK]⟩⟩, hB1⟩
  case round =>
    obtain ⟨k, hk, rfl, hown, hbel⟩ := hrel
    have HOW := Lib.hid hown
    clear hown
    by_cases hlt : k < zs.length
    · have hlt' : (k : Int) < zs.length := by omega
      rcases HY.out with h0 | ⟨b, off, rfl, hb, hc⟩
      · rw [h0] at hlt; simp at hlt
      obtain ⟨p, hp⟩ : ∃ p, p = zs.getD k 0 := ⟨_, rfl⟩
      have h1 := hc k hlt
      rw [← hp] at h1
      have c0 := (hbel.cell (p := ⟨b, off + k, none⟩) hb).trans h1
      have hst := rchK_succ m zs k
      rw [← hp] at hst
      clear hc h1 hp
      cases hpx : (p != mNone m)
      · rw [hpx, if_neg (by decide), List.append_nil] at hst
        have HT := Lib.hid hst
        have d1 : (p == mNone m) = false ∨ True := .inr trivial
        clear hst d1
        go_wp2_with (with_reducible refine (HN.out _).mono ?_; rintro e w2 ⟨rfl, hb2⟩)
        go_roundw
        case rel => first | exact ⟨k + 1, by omega, by go_num, by rw [HT.out]; exact own_keep HOW.out hb2, bel_trans hbel hb2⟩ | ((repeat apply Exists.intro); exact ⟨⟨k + 1, by omega, by go_num, by rw [HT.out]; exact own_keep HOW.out hb2, bel_trans hbel hb2⟩, rfl⟩)
        case measure => simp [intOf]; omega
      · rw [hpx, if_pos rfl] at hst
        have HT := Lib.hid hst
        have hln : (rchK m zs k).length ≤ k := rchK_len _ _ _
        clear hst
        obtain ⟨hi, hz0, hz1, hz2⟩ := HI.out
        go_wp2_with (first | (with_reducible refine (HN.out _).mono ?_; rintro e w2 ⟨rfl, hb2⟩; have HOW2 := Lib.hid (own_keep HOW.out hb2)) | (at_builtin; refine wpList_append_own _ rfl (.tmp 30) (.tmp 32) 28 rfl w.heap.size 3 i0 (.int .i64 0) 1 8 Try.underlying28 hi hz0 hz1 hz2 rfl (by decide) _ _ _ rfl (HOW2.out.alloc _) ⟨w2.heap.size, 0, none⟩ 1 1 [.int .i64 k] rfl rfl ?c1 ?c2 ?c3 ?c4 ?c5 ?_))
        case c1 => exact cell_one_new _ _ _
        case c2 => simp [Value.oneCell']
        case c3 => unfold maxLen; omega
        case c4 => omega
        case c5 => have := hbel.size; have := hb2.size; simp; omega
        intro v' w6 hown6 hgrow6 _
        have hown6' : w6.ownsRow w.heap.size 3 1 v' (rchK m zs (k + 1)).length ((rchK m zs (k + 1)).map (Value.int .i64)) := by rw [HT.out]; simpa using hown6
        have H7 := Lib.hid hown6'
        have hbel2 := bel_trans hbel hb2
        have H8 : Hid (Below w.heap.size w w6) := Lib.hid ((hbel2.alloc hbel2.size _).grown hgrow6 (by have := hbel2.size; simp; omega) (fun q hq => (HOW2.out.lt q hq).1))
        clear hown6 hown6' hgrow6 hi hz0 hz1 hz2
        go_wp2
        go_roundw
        case rel => first | exact ⟨k + 1, by omega, by go_num, H7.out, H8.out⟩ | ((repeat apply Exists.intro); exact ⟨⟨k + 1, by omega, by go_num, H7.out, H8.out⟩, rfl⟩)
        case measure => simp [intOf]; omega
    · have hke : k = zs.length := by omega
      have hkk : ¬ ((k : Int) < zs.length) := by omega
      have HK := Lib.hid hke
      clear hke
      go_wp2
      go_ret
      refine ⟨_, rfl, OwnI.of ?_ (Nat.le_refl _), hbel⟩
      rw [show rch m zs = rchK m zs k by unfold rch; rw [HK.out]]
      exact HOW.out
end Go.Proofs.Ytjcfefpcilhelaa
namespace Go.Proofs.Ytjcfefpcilhelaa
open Go.RowKit Go.BigFrame Go.Deep
set_option linter.unusedVariables false
set_option linter.unusedSimpArgs false

end Go.Proofs.Ytjcfefpcilhelaa
