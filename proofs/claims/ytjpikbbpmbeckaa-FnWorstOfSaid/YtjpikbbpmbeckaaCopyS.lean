/- Matrices that are copied: in the model. -/
import Derived.Test.YtjpikbbpmbeckaaTimesS
namespace Go.Proofs.Ytjpikbbpmbeckaa
open Go.RowKit Go.BigFrame Go.Deep
set_option linter.unusedVariables false
set_option linter.unusedSimpArgs false

/-- What holds at each row. -/
structure CInv (w : World) (m : Int) (s : Value) (Z : List (List Int)) (i : Nat) (wr : World) : Prop where
  bel : Below w.heap.size w wr
  x : Box wr w.heap.size 33 #[.int .i64 m, s]
  r : Box wr (w.heap.size + 1) 33 #[.int .i64 0, .slice none 0 0]
  o : ∃ v, Box wr (w.heap.size + 1 + 1) 33 #[.int .i64 m, v] ∧ MkG wr w.heap.size v Z i
theorem CInv.keep {w : World} {m : Int} {s : Value} {Z : List (List Int)} {i : Nat} {wr wr' : World} (h : CInv w m s Z i wr) (hb : Below wr.heap.size wr wr') : CInv w m s Z i wr' := by
  obtain ⟨v, h1, h2⟩ := h.o
  exact ⟨bel_trans h.bel hb, h.x.keep hb, h.r.keep hb, v, h1.keep hb, h2.keep hb⟩

set_option maxRecDepth 20000 in
set_option maxHeartbeats 8000000 in
theorem l8Copy (m : Int) (z : List (List Int)) (s : Value) (w : World) (hs : Grid w s z) (h12 : z.length ≤ 12) (hr : ∀ i, i < z.length → 0 < (z.getD i []).length ∧ (z.getD i []).length ≤ 12) :
    Calls Try.prog 73 #[.agg #[.int .i64 m, s]] w fun e w' => ∃ v, e = .returned (.agg #[.int .i64 m, v]) ∧ OwnG w' w.heap.size w'.heap.size v z ∧ Below w.heap.size w w' := by
  obtain ⟨ad, cap, rfl, hz0⟩ := hs
  have hz := Lib.hid hz0
  have HR := Lib.hid hr
  obtain ⟨i0, hi, hz0', hz1, hz2⟩ := info_partsI info_int2
  have HI := Lib.hid (And.intro hi (And.intro hz0' (And.intro hz1 hz2)))
  clear hi hz0' hz1 hz2
  obtain ⟨i1, hi, hz0', hz1, hz2⟩ := info_partsI info_ints
  have HI1 := Lib.hid (And.intro hi (And.intro hz0' (And.intro hz1 hz2)))
  clear hi hz0' hz1 hz2 hz0 hr
  have hI0 : CInv w m (.slice ad z.length cap) z 0 (((w.alloc (.cells #[.int .i64 m, .slice ad z.length cap] 33)).alloc (.cells #[.int .i64 0, .slice none 0 0] 33)).alloc (.cells #[.int .i64 m, .slice none 0 0] 33)) := by
    have k0 := ((Box.new w 33 #[.int .i64 m, .slice ad z.length cap]).alloc (.cells #[.int .i64 0, .slice none 0 0] 33)).alloc (.cells #[.int .i64 m, .slice none 0 0] 33)
    have k1 := (Box.new (w.alloc (.cells #[.int .i64 m, .slice ad z.length cap] 33)) 33 #[.int .i64 0, .slice none 0 0]).alloc (.cells #[.int .i64 m, .slice none 0 0] 33)
    have k2 := Box.new ((w.alloc (.cells #[.int .i64 m, .slice ad z.length cap] 33)).alloc (.cells #[.int .i64 0, .slice none 0 0] 33)) 33 #[.int .i64 m, .slice none 0 0]
    exact ⟨(((Below.refl _ _).alloc (Nat.le_refl _) _).alloc (by simp) _).alloc (by simp; omega) _, k0, by simpa using k1, _, by simpa using k2, MkG.nil _ _ _⟩
  have HI0 := Lib.hid hI0
  clear hI0
  go_enter Try.func73, Try.ntmps73
  go_wp2
  generalize (((w.alloc (.cells #[.int .i64 m, .slice ad z.length cap] 33)).alloc (.cells #[.int .i64 0, .slice none 0 0] 33)).alloc (.cells #[.int .i64 m, .slice none 0 0] 33)) = W1 at HI0 ⊢
  go_loopw [4] (fun c wr => ∃ i : Nat, i ≤ z.length ∧ c = .int .i64 i ∧ Hid (CInv w m (.slice ad z.length cap) z i wr)) (fun c _ => z.length - (intOf c).toNat)
  case atStart => exact ⟨0, Nat.zero_le _, rfl, HI0⟩
  case round =>
    obtain ⟨i, hile, rfl, HT⟩ := hrel
    obtain ⟨xa0, xa1, -, -, xal⟩ := box2 HT.out.x
    by_cases hlt : i < z.length
    · have hlt' : (i : Int) < z.length := by omega
      rcases hz.out with h0 | ⟨ab, aoff, TA, rfl, hab, hac⟩
      · rw [h0] at hlt; simp at hlt
      obtain ⟨c0, r0⟩ := hac i hlt
      obtain ⟨hr0, hr1⟩ := HR.out i hlt
      obtain ⟨zs, hzs⟩ : ∃ zs, zs = z.getD i [] := ⟨_, rfl⟩
      rw [← hzs] at r0 hr0 hr1
      obtain ⟨pb, poff, pcap, hTA, hpb, hpc⟩ := r0.at (i := 0) hr0
      rw [hTA] at c0
      have hbel := HT.out.bel
      obtain ⟨v, hbx, hmk⟩ := HT.out.o
      obtain ⟨Ts, hTs⟩ := hmk.slices
      obtain ⟨va0, vc0, rfl⟩ := hmk.slice
      obtain ⟨xo0, xo1, -, xof, xol⟩ := box2 hbx
      have HTS := Lib.hid hTs
      have HBX := Lib.hid hbx
      have HZS := Lib.hid hzs
      have ck := (hbel.cell (p := ⟨ab, aoff + i, none⟩) hab).trans c0
      have hab2 : ab < wr.heap.size := Nat.lt_of_lt_of_le hab hbel.size
      have hnews : ∀ (w' : World), Below wr.heap.size wr w' → ∀ j u, (cellsI zs)[j]? = some u → w'.cell? (Addr.add ⟨pb, poff, none⟩ j) = some u := by
        intro w' h j u hu
        obtain ⟨hj, rfl⟩ := cellsI_get zs j u hu
        rw [Go.WideShapes.add_plain, (bel_trans hbel h).cell (p := ⟨pb, poff + j, none⟩) hpb]
        exact hpc j hj
      have HNW := Lib.hid hnews
      have hown0 : (wr.alloc (.cells #[] 3)).ownsRow wr.heap.size 3 1 (.slice (some ⟨wr.heap.size, 0, none⟩) 0 0) 0 [] := World.ownsRow_made wr #[] 0 (Nat.le_refl _) (by unfold maxLen; omega) rfl
      have HOWN0 := Lib.hid hown0
      have i12 : i < 12 := by omega
      obtain ⟨hi, hz0, hz1, hz2⟩ := HI.out
      obtain ⟨ki, kz0, kz1, kz2⟩ := HI1.out
      clear hac c0 r0 hTA hpc hmk hTs hbx hzs hnews hown0 hbel
      go_wp2
      have hb0 : Below wr.heap.size wr (wr.alloc (.cells #[] 3)).drew := ((Below.refl _ _).alloc (Nat.le_refl _) _).drew
      have HBB0 := Lib.hid hb0
      have hrest : ∀ (w6 : World), Below wr.heap.size wr w6 → (w6.cell? ⟨w.heap.size + 1 + 1, 0, none⟩ = some (.int .i64 m) ∧ w6.cell? ⟨w.heap.size + 1 + 1, 1, none⟩ = some (.slice va0 i vc0) ∧ w.heap.size + 1 + 1 < w6.heap.size) := fun w6 h =>
        ⟨(h.cell (p := ⟨_, 0, none⟩) xol).trans xo0, (h.cell (p := ⟨_, 1, none⟩) xol).trans xo1, Nat.lt_of_lt_of_le xol h.size⟩
      have HREST := Lib.hid hrest
      have hown7 : ∀ (w6 : World), Below wr.heap.size wr w6 → ∀ A, (w6.alloc A).ownsRow w.heap.size 23 1 (.slice va0 i vc0) i Ts := fun w6 h A => own_keepI (own_keepI HTS.out.own h) ((Below.refl _ _).alloc (Nat.le_refl _) _)
      have HOWN7 := Lib.hid hown7
      have hbr : ∀ (w6 : World), Below wr.heap.size wr w6 → ∀ A w7, World.grownBy (w6.alloc A) w7 (Value.slice va0 i vc0).ownBlock → (Box w7 (w.heap.size + 1 + 1) 33 #[.int .i64 m, .slice va0 i vc0] ∧ Box w7 w.heap.size 33 #[.int .i64 m, .slice (some ⟨ab, aoff, none⟩) z.length cap] ∧ Box w7 (w.heap.size + 1) 33 #[.int .i64 0, .slice none 0 0]) := fun w6 h A w7 hg =>
        ⟨Box.grown (w := w6.alloc A) ((HBX.out.keep h).alloc _) hg (HOWN7.out w6 h A) (by decide), Box.grown (w := w6.alloc A) ((HT.out.x.keep h).alloc _) hg (HOWN7.out w6 h A) (by decide), Box.grown (w := w6.alloc A) ((HT.out.r.keep h).alloc _) hg (HOWN7.out w6 h A) (by decide)⟩
      have HBR := Lib.hid hbr
      have hwsz : w.heap.size ≤ wr.heap.size := HT.out.bel.size
      clear hb0 hrest hown7 hbr
      go_region_law (first
        | (refine step_append_own rfl (.tmp 17) (.tmp 22) 23 rfl wr.heap.size 3 i0 (.int .i64 0) 1 8 Try.underlying23 hi hz0 hz1 hz2 rfl (by decide) _ _ _ rfl (own_drew HOWN0.out) ⟨pb, poff, none⟩ zs.length pcap (cellsI zs) rfl (cellsI_len zs) (HNW.out _ (((Below.refl _ _).alloc (Nat.le_refl _) _).drew)) (cellsI_one zs) (by unfold maxLen; omega) (by omega) (by simp) ?_; intro v6 w6 hown6 hgrow6; simp only [Nat.zero_add, List.nil_append] at hown6; obtain ⟨ra, rc, rfl⟩ := own_slice hown6; have HO6 := Lib.hid hown6; have HB6 := Lib.hid (HBB0.out.grown hgrow6 (by simp) (fun q hq => ((own_drew HOWN0.out).lt q hq).1)); obtain ⟨y0, y1, y2⟩ := HREST.out _ HB6.out; clear hown6 hgrow6)
        | (refine step_append_own rfl (.tmp 16) (.tmp 24) 31 rfl w.heap.size 23 i1 (.slice none 0 0) 1 24 Try.underlying31 ki kz0 kz1 kz2 rfl (by decide) _ _ _ rfl (HOWN7.out _ HB6.out _) ⟨w6.heap.size, 0, none⟩ 1 1 [.slice ra zs.length rc] rfl rfl (cells_new1' _ _ _) (by simp [Value.oneCell']) (by unfold maxLen; omega) (by omega) (by have := HB6.out.size; simp; omega) ?_; intro v7 w7 hown7 hgrow7; obtain ⟨va, vc, rfl⟩ := own_slice hown7; have HO7 := Lib.hid hown7; have HG7 := Lib.hid hgrow7; have HX7 := Lib.hid (HBR.out _ HB6.out _ _ hgrow7); obtain ⟨u0, u1, -, u3, u4⟩ := box2 HX7.out.1; clear hown7 hgrow7))
      all_goals go_wp2
      all_goals go_roundw
      all_goals first
        | (simp [intOf]; omega)
        | (have hmk7 := mk_step (Z := z) HTS.out HB6.out (u := .slice ra zs.length rc) (by rw [← HZS.out]; exact HO6.out) (by rw [← HZS.out]; exact hr0) hwsz ((Below.refl _ _).alloc (Nat.le_refl _) _) HO7.out HG7.out
           have hb7 : Below w.heap.size w w7 := ((bel_trans HT.out.bel HB6.out).alloc (by have := HB6.out.size; omega) (.cells #[.slice ra zs.length rc] 23)).grown HG7.out (by have := HB6.out.size; simp; omega) (fun q hq => ((HOWN7.out _ HB6.out (.cells #[.slice ra zs.length rc] 23)).lt q hq).1)
           have hT7 : CInv w m (.slice (some ⟨ab, aoff, none⟩) z.length cap) z (i + 1) (w7.setCell ⟨w.heap.size + 1 + 1, 1, none⟩ (.slice va (i + 1) vc)) :=
             ⟨hb7.setCell (by simp only; omega) _, HX7.out.2.1.setOther (by omega) _ _, HX7.out.2.2.setOther (by omega) _ _, _, by have := HX7.out.1.set 1 (.slice va (i + 1) vc); simpa using this, hmk7.box HX7.out.1 (by decide) (by decide) _⟩
           first | exact ⟨i + 1, by omega, by go_num, Lib.hid hT7⟩ | ((repeat apply Exists.intro); exact ⟨⟨i + 1, by omega, by go_num, Lib.hid hT7⟩, rfl⟩))
    · have hie : i = z.length := by omega
      have hii : ¬ ((i : Int) < z.length) := by omega
      have HIE := Lib.hid hie
      obtain ⟨v, hbx, hmk⟩ := HT.out.o
      obtain ⟨da, dc, rfl⟩ := hmk.slice
      obtain ⟨xo0, xo1, -, -, xol⟩ := box2 hbx
      obtain ⟨xr0, xr1, xrf0, xrf1, xrl⟩ := box2 HT.out.r
      have HMK := Lib.hid hmk
      clear hie hbx hmk
      go_wp2
      try simp only [Exit.inBlock, Exit.then]
      refine bodyPost_ret (v := .agg #[.int .i64 m, .slice da i dc]) ?_ rfl ?_
      · rw [results_cell1 rfl]
        go_simp
      have hmk2 : MkG ((wr.setCell ⟨w.heap.size + 1, 0, none⟩ (.int .i64 m)).setCell ⟨w.heap.size + 1, 1, none⟩ (.slice da i dc)) w.heap.size (.slice da i dc) z i := (HMK.out.box HT.out.r (by decide) (by decide) _).box (HT.out.r.set 0 _) (by decide) (by decide) _
      refine ⟨_, rfl, ?_, (HT.out.bel.setCell (by simp) _).setCell (by simp) _⟩
      rw [show i = z.length from HIE.out] at hmk2 ⊢
      exact hmk2.all (fun j hj => (HR.out j hj).1)
end Go.Proofs.Ytjpikbbpmbeckaa
