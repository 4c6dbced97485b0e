/- The matrix of a graph without edges: in the model. -/
import Derived.Test.YtjpikbbpmbeckaaTimesS
import Derived.Test.YtjpikbbpmbeckaaEdgeA
namespace Go.Proofs.Ytjpikbbpmbeckaa
open Go.RowKit Go.BigFrame Go.Deep
set_option linter.unusedVariables false
set_option linter.unusedSimpArgs false

/-- What holds at each row. -/
structure EInv (w : World) (m : Int) (Z : List (List Int)) (i : Nat) (wr : World) : Prop where
  bel : Below w.heap.size w wr
  r : Box wr w.heap.size 33 #[.int .i64 0, .slice none 0 0]
  o : ∃ v, Box wr (w.heap.size + 1) 33 #[.int .i64 m, v] ∧ MkG wr w.heap.size v Z i
theorem EInv.keep {w : World} {m : Int} {Z : List (List Int)} {i : Nat} {wr wr' : World} (h : EInv w m Z i wr) (hb : Below wr.heap.size wr wr') : EInv w m Z i wr' := by
  obtain ⟨v, h1, h2⟩ := h.o
  exact ⟨bel_trans h.bel hb, h.r.keep hb, v, h1.keep hb, h2.keep hb⟩

set_option maxRecDepth 20000 in
set_option maxHeartbeats 4000000 in
theorem l8Empty (m : Int) (N : Nat) (w : World) (hm : mKind m = true) (h1 : 1 ≤ N) (h12 : N ≤ 12) :
    Calls Try.prog 72 #[.int .i64 (N : Nat), .int .i64 m] w fun e w' => ∃ v, e = .returned (.agg #[.int .i64 m, v]) ∧ OwnG w' w.heap.size w'.heap.size v (stRows m N) ∧ Below w.heap.size w w' := by
  have h1 := fun w => sOne hm w
  have h2 := fun w => sNone hm w
  have HONE := Lib.hid h1
  have HNONE := Lib.hid h2
  obtain ⟨i0, hi, hz0, hz1, hz2⟩ := info_partsI info_int2
  have HI := Lib.hid (And.intro hi (And.intro hz0 (And.intro hz1 hz2)))
  clear hi hz0 hz1 hz2 h1 h2
  obtain ⟨i1, hi, hz0, hz1, hz2⟩ := info_partsI info_ints
  have HI1 := Lib.hid (And.intro hi (And.intro hz0 (And.intro hz1 hz2)))
  clear hi hz0 hz1 hz2
  have hlen := stRows_len m N
  have hrl : ∀ i, i < N → ((stRows m N).getD i []).length = N ∧ ∀ k, k < N → ((stRows m N).getD i []).getD k 0 = if (k : Int) = i then mOne m else mNone m := fun i hi => by
    rw [stRows_at m N hi]
    exact ⟨by rw [vStart_length, Int.toNat_natCast], fun k hk => vStart_at m (N : Nat) (i : Nat) (by rw [Int.toNat_natCast]; exact hk)⟩
  obtain ⟨Z, hZ⟩ : ∃ Z, Z = stRows m N := ⟨_, rfl⟩
  rw [← hZ] at hlen hrl ⊢
  have HLEN := Lib.hid hlen
  have HRL := Lib.hid hrl
  clear hZ hlen hrl
  have hI0 : EInv w m Z 0 ((w.alloc (.cells #[.int .i64 0, .slice none 0 0] 33)).alloc (.cells #[.int .i64 m, .slice none 0 0] 33)) := by
    have k1 := Box.new (w.alloc (.cells #[.int .i64 0, .slice none 0 0] 33)) 33 #[.int .i64 m, .slice none 0 0]
    exact ⟨((Below.refl _ _).alloc (Nat.le_refl _) _).alloc (by simp) _, (Box.new w 33 #[.int .i64 0, .slice none 0 0]).alloc _, _, by simpa using k1, MkG.nil _ _ _⟩
  have HI0 := Lib.hid hI0
  clear hI0
  go_enter Try.func72, Try.ntmps72
  go_wp2
  generalize ((w.alloc (.cells #[.int .i64 0, .slice none 0 0] 33)).alloc (.cells #[.int .i64 m, .slice none 0 0] 33)) = W1 at HI0 ⊢
  go_loopw [6] (fun c wr => ∃ i : Nat, i ≤ N ∧ c = .int .i64 i ∧ Hid (EInv w m Z i wr)) (fun c _ => N - (intOf c).toNat)
  case atStart => exact ⟨0, Nat.zero_le _, rfl, HI0⟩
  case round =>
    obtain ⟨i, hile, rfl, HT⟩ := hrel
    by_cases hlt : i < N
    · have hlt' : (i : Int) < N := by omega
      have HROW := Lib.hid (HRL.out i hlt)
      obtain ⟨ws, hws⟩ : ∃ ws, ws = wr := ⟨_, rfl⟩
      subst hws
      have hown0 : (ws.alloc (.cells #[] 3)).ownsRow ws.heap.size 3 1 (.slice (some ⟨ws.heap.size, 0, none⟩) 0 0) 0 [] := World.ownsRow_made ws #[] 0 (Nat.le_refl _) (by unfold maxLen; omega) rfl
      have HOWN0 := Lib.hid hown0
      clear hown0
      go_wp2
      go_loopw [8, 7] (fun c d wk => ∃ k : Nat, k ≤ N ∧ c = .int .i64 k ∧ Hid (wk.ownsRow ws.heap.size 3 1 d k (cellsI ((Z.getD i []).take k))) ∧ Hid (Below ws.heap.size ws wk)) (fun c _ _ => N - (intOf c).toNat)
      case atStart => exact ⟨0, Nat.zero_le _, rfl, HOWN0, Lib.hid ((Below.refl _ _).alloc (Nat.le_refl _) _)⟩
      case round =>
        obtain ⟨k, hkle, rfl, HOW, HBK⟩ := hrel
        by_cases hkl : k < N
        · have hkl' : (k : Int) < N := by omega
          have htk := cellsI_take (Z.getD i []) (show k < (Z.getD i []).length by rw [HROW.out.1]; exact hkl)
          rw [HROW.out.2 k hkl] at htk
          obtain ⟨x, hx⟩ : ∃ x, x = if (k : Int) = i then mOne m else mNone m := ⟨_, rfl⟩
          rw [← hx] at htk
          have HTK := Lib.hid htk
          have hoA : (wr.alloc (.cells #[.int .i64 x] 3)).ownsRow ws.heap.size 3 1 _ k (cellsI ((Z.getD i []).take k)) := own_keepI HOW.out ((Below.refl _ _).alloc (Nat.le_refl _) _)
          have HOA := Lib.hid hoA
          have hsz : ws.heap.size ≤ (wr.alloc (.cells #[.int .i64 x] 3)).heap.size := by have h1 := HBK.out.size; simp; omega
          obtain ⟨hi, hz0, hz1, hz2⟩ := HI.out
          clear htk hoA
          by_cases he : (k : Int) = i
          · rw [if_pos he] at hx
            have d1 : decide ((i : Int) = k) = true := by simpa using he.symm
            have d2 : ((i : Int) == k) = true := by simpa using he.symm
            have hone := HONE.out
            rw [← hx] at hone
            have HC := Lib.hid hone
            clear he hone hx
            go_wp2_with (first | (go_at_call 114; refine (HC.out _).mono ?_; rintro e w4 ⟨rfl, rfl⟩) | (at_builtin; refine wpList_append_own _ rfl (.tmp 25) (.tmp 28) 23 rfl ws.heap.size 3 i0 (.int .i64 0) 1 8 Try.underlying23 hi hz0 hz1 hz2 rfl (by decide) _ _ _ rfl HOA.out ⟨wr.heap.size, 0, none⟩ 1 1 [.int .i64 x] rfl rfl (cells_new1' _ _ _) (by simp [Value.oneCell']) (by unfold maxLen; omega) (by omega) hsz ?_))
            intro v' w6 hown6 hgrow6 _
            have H6 : Hid (w6.ownsRow ws.heap.size 3 1 v' (k + 1) (cellsI ((Z.getD i []).take (k + 1)))) := Lib.hid (by rw [HTK.out]; exact hown6)
            have H7 : Hid (Below ws.heap.size ws w6) := Lib.hid ((HBK.out.alloc HBK.out.size _).grown hgrow6 hsz (fun q hq => (HOA.out.lt q hq).1))
            clear hown6 hgrow6 hi hz0 hz1 hz2
            go_wp2
            go_roundw
            case rel => exact ⟨k + 1, by omega, by go_num, H6, H7⟩
            case measure => simp [intOf]; omega
          · rw [if_neg he] at hx
            have d1 : decide ((i : Int) = k) = false := by simpa using fun h : (i : Int) = k => he h.symm
            have d2 : ((i : Int) == k) = false := by simpa using fun h : (i : Int) = k => he h.symm
            have d3 : ¬ ((i : Int) = k) := fun h => he h.symm
            have hone := HNONE.out
            rw [← hx] at hone
            have HC := Lib.hid hone
            have HD3 := Lib.hid d3
            clear he hone hx d3
            go_wp2_with (first | (go_at_call 75; refine (HC.out _).mono ?_; rintro e w4 ⟨rfl, rfl⟩) | (at_builtin; refine wpList_append_own _ rfl (.tmp 30) (.tmp 33) 23 rfl ws.heap.size 3 i0 (.int .i64 0) 1 8 Try.underlying23 hi hz0 hz1 hz2 rfl (by decide) _ _ _ rfl HOA.out ⟨wr.heap.size, 0, none⟩ 1 1 [.int .i64 x] rfl rfl (cells_new1' _ _ _) (by simp [Value.oneCell']) (by unfold maxLen; omega) (by omega) hsz ?_))
            intro v' w6 hown6 hgrow6 _
            have H6 : Hid (w6.ownsRow ws.heap.size 3 1 v' (k + 1) (cellsI ((Z.getD i []).take (k + 1)))) := Lib.hid (by rw [HTK.out]; exact hown6)
            have H7 : Hid (Below ws.heap.size ws w6) := Lib.hid ((HBK.out.alloc HBK.out.size _).grown hgrow6 hsz (fun q hq => (HOA.out.lt q hq).1))
            clear hown6 hgrow6 hi hz0 hz1 hz2
            go_wp2
            go_roundw
            case rel => exact ⟨k + 1, by omega, by go_num, H6, H7⟩
            case measure => simp [intOf]; omega
        · have hke : k = N := by omega
          have hkk : ¬ ((k : Int) < N) := by omega
          have HKE := Lib.hid hke
          obtain ⟨v, hbx, hmk⟩ := HT.out.o
          obtain ⟨xo0, xo1, -, xof, xol⟩ := box2 (hbx.keep HBK.out)
          obtain ⟨Ts, hTs⟩ := hmk.slices
          have HTS := Lib.hid hTs
          have HBX := Lib.hid hbx
          obtain ⟨da, dc, rfl⟩ := own_slice HOW.out
          have hrl : (Z.getD i []).length = N := HROW.out.1
          have hfull : wr.ownsRow ws.heap.size 3 1 (.slice da k dc) (Z.getD i []).length (cellsI (Z.getD i [])) := by
            have h1 := HOW.out
            rw [List.take_of_length_le (by omega)] at h1
            rw [hrl, ← hke]
            exact h1
          have HFU := Lib.hid hfull
          have hoA : (wr.alloc (.cells #[.slice da k dc] 23)).ownsRow w.heap.size 23 1 v i Ts := own_keepI (own_keepI hTs.own HBK.out) ((Below.refl _ _).alloc (Nat.le_refl _) _)
          have HOA := Lib.hid hoA
          have hbw := bel_trans HT.out.bel HBK.out
          have hsz : w.heap.size ≤ (wr.alloc (.cells #[.slice da k dc] 23)).heap.size := by have := hbw.size; simp; omega
          have HRLI := Lib.hid hrl
          obtain ⟨hi, hz0, hz1, hz2⟩ := HI1.out
          have i12 : i < 12 := by omega
          clear hke hbx hmk hTs hfull hoA hrl
          have hbr : ∀ w6, World.grownBy (wr.alloc (.cells #[.slice da k dc] 23)) w6 v.ownBlock → (Box w6 (w.heap.size + 1) 33 #[.int .i64 m, v] ∧ Box w6 w.heap.size 33 #[.int .i64 0, .slice none 0 0]) := fun w6 h =>
            ⟨Box.grown (w := wr.alloc (.cells #[.slice da k dc] 23)) ((HBX.out.keep HBK.out).alloc _) h HOA.out (by decide), Box.grown (w := wr.alloc (.cells #[.slice da k dc] 23)) ((HT.out.r.keep HBK.out).alloc _) h HOA.out (by decide)⟩
          have HBR := Lib.hid hbr
          clear hbr
          go_wp2_with (at_builtin; refine wpList_append_own _ rfl (.tmp 36) (.tmp 38) 31 rfl w.heap.size 23 i1 (.slice none 0 0) 1 24 Try.underlying31 hi hz0 hz1 hz2 rfl (by decide) _ _ _ rfl HOA.out ⟨wr.heap.size, 0, none⟩ 1 1 [.slice da k dc] rfl rfl (cells_new1' _ _ _) (by simp [Value.oneCell']) (by unfold maxLen; omega) (by omega) hsz ?_)
          intro v' w6 hown6 hgrow6 _
          obtain ⟨va, vc, rfl⟩ := own_slice hown6
          have hmk6 := mk_step HTS.out HBK.out HFU.out (by rw [HRLI.out]; omega) HT.out.bel.size ((Below.refl _ _).alloc (Nat.le_refl _) _) hown6 hgrow6
          obtain ⟨hX, hXr⟩ := HBR.out _ hgrow6
          have hb6 : Below w.heap.size w w6 := (hbw.alloc hbw.size _).grown hgrow6 hsz (fun q hq => (HOA.out.lt q hq).1)
          have hT6 : EInv w m Z (i + 1) (w6.setCell ⟨w.heap.size + 1, 1, none⟩ (.slice va (i + 1) vc)) :=
            ⟨hb6.setCell (by simp only; omega) _, hXr.setOther (by omega) _ _, _, by have := hX.set 1 (.slice va (i + 1) vc); simpa using this, hmk6.box hX (by decide) (by decide) _⟩
          have HT6 := Lib.hid hT6
          obtain ⟨y0, y1, -, y3, y4⟩ := box2 hX
          clear hown6 hgrow6 hi hz0 hz1 hz2 hmk6 hX hXr hb6 hT6
          go_wp2
          go_roundw
          case rel => exact ⟨i + 1, by omega, by go_num, HT6⟩
          case measure => simp [intOf]; omega
    · have hie : i = N := by omega
      have hii : ¬ ((i : Int) < N) := by omega
      have HIE := Lib.hid hie
      obtain ⟨v, hbx, hmk⟩ := HT.out.o
      obtain ⟨da, dc, rfl⟩ := hmk.slice
      obtain ⟨xo0, xo1, -, -, xol⟩ := box2 hbx
      obtain ⟨xr0, xr1, xrf0, xrf1, xrl⟩ := box2 HT.out.r
      have HMK := Lib.hid hmk
      clear hie hbx hmk
      go_wp2
      try simp only [Exit.inBlock, Exit.then]
      refine bodyPost_ret (v := .agg #[.int .i64 m, .slice da i dc]) ?_ rfl ?_
      · rw [results_cell1 rfl]
        go_simp
      have hmk2 : MkG ((wr.setCell ⟨w.heap.size, 0, none⟩ (.int .i64 m)).setCell ⟨w.heap.size, 1, none⟩ (.slice da i dc)) w.heap.size (.slice da i dc) Z i := (HMK.out.box HT.out.r (by decide) (by decide) _).box (HT.out.r.set 0 _) (by decide) (by decide) _
      refine ⟨_, rfl, ?_, (HT.out.bel.setCell (by simp) _).setCell (by simp) _⟩
      rw [show i = Z.length by rw [HLEN.out]; exact HIE.out] at hmk2 ⊢
      exact hmk2.all (fun j hj => by rw [HLEN.out] at hj; rw [(HRL.out j hj).1]; omega)
end Go.Proofs.Ytjpikbbpmbeckaa
