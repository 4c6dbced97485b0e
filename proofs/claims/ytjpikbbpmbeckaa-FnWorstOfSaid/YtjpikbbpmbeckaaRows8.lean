/- Grids that are copied, multiplied and closed: in the program. -/
import Derived.Test.YtjpikbbpmbeckaaImprove
namespace Go.Proofs.Ytjpikbbpmbeckaa
open Go.RowKit Go.BigFrame Go.Deep
set_option linter.unusedVariables false
set_option linter.unusedSimpArgs false

theorem Wr.inR {w : World} {b off cap : Nat} {zs : List Int} (h : Wr w b off zs) : InR true w b (b + 1) (.slice (some ⟨b, off, none⟩) zs.length cap) zs.length 1 (cellI zs) :=
  ⟨_, cap, rfl, .inr ⟨b, off, rfl, Nat.le_refl _, Nat.lt_succ_self _, h.1, fun i hi => ⟨(h.2 i (by omega)).1, fun _ => (h.2 i (by omega)).2⟩⟩⟩
/-- A row of a grid, to be written. -/
theorem GridAt.wr {w : World} {lo hi g : Nat} {T : Nat → Value} {B : Nat → Nat} {zss : List (List Int)} (h : GridAt w lo hi g T B zss) {i : Nat} (hi' : i < zss.length) (h0 : 0 < (zss.getD i []).length) :
    ∃ off cap, T i = .slice (some ⟨B i, off, none⟩) (zss.getD i []).length cap ∧ Wr w (B i) off (zss.getD i []) := by
  obtain ⟨a, cap, hT, hz⟩ := h.row i hi'
  rcases hz with hz | ⟨b, off, rfl, h1, h2, h3, hc⟩
  · omega
  · have hb : b = B i := by omega
    subst hb
    exact ⟨off, cap, hT, by omega, fun j hj => ⟨(hc j (by omega)).1, (hc j (by omega)).2 rfl⟩⟩
/-- A square grid of measures. -/
def Sq (m : Int) (N : Nat) (z : List (List Int)) : Prop := z.length = N ∧ ∀ i, i < N → (z.getD i []).length = N ∧ ∀ k, k < N → mIn m ((z.getD i []).getD k 0) = true
theorem sq_of_val {m : Int} {zss : List (List Int)} (h : mVal m zss = true) : Sq m zss.length zss :=
  ⟨rfl, fun i hi => ⟨(mSq_parts (mVal_parts h).1).2.2 i hi, fun k hk => mVal_in h hi hk⟩⟩
theorem mBest_in {m a b : Int} (ha : mIn m a = true) (hb : mIn m b = true) : mIn m (mBest m a b) = true := by
  unfold mBest
  split
  · exact hb
  · exact ha
theorem getD_setL (z : List (List Int)) (i : Nat) (r : List Int) (j : Nat) (hj : j < z.length) : (z.set i r).getD j [] = if i = j then r else z.getD j [] := by
  simp only [List.getD, List.getElem?_set, hj]
  split
  · rename_i h; subst h; simp [hj]
  · rfl
theorem gl_ext {x y : List (List Int)} (hl : x.length = y.length) (h : ∀ i, i < x.length → x.getD i [] = y.getD i []) : x = y := by
  apply List.ext_getElem hl
  intro i h1 h2
  have := h i h1
  simpa [List.getD, h1, h2] using this
theorem Sq.set {m : Int} {N : Nat} {z : List (List Int)} (h : Sq m N z) {i : Nat} {r : List Int} (hr : r.length = N) (hin : ∀ k, k < N → mIn m (r.getD k 0) = true) : Sq m N (z.set i r) := by
  refine ⟨by rw [List.length_set]; exact h.1, fun j hj => ?_⟩
  rw [getD_setL _ _ _ _ (by rw [h.1]; exact hj)]
  split
  · exact ⟨hr, hin⟩
  · exact h.2 j hj
theorem impr_in {m first : Int} {row rest : List Int} (hm : mKind m = true) (hf : mIn m first = true) (h1 : ∀ k, k < row.length → mIn m (row.getD k 0) = true) (h2 : ∀ k, k < row.length → mIn m (rest.getD k 0) = true) : ∀ k, k < row.length → mIn m ((impr m row first rest).getD k 0) = true := fun k hk => by
  rw [impr_at _ _ _ _ hk]
  exact mBest_in (h1 k hk) (mJoin_in hm hf (h2 k hk))

set_option maxRecDepth 20000 in
set_option maxHeartbeats 1000000 in
theorem copyOfRows (zss : List (List Int)) (s : Value) (w : World) (hs : Grid w s zss) (hl : zss.length ≤ 1048576) (hr : ∀ i, i < zss.length → 0 < (zss.getD i []).length ∧ (zss.getD i []).length ≤ 1048576) :
    Calls Try.prog 89 #[s] w fun e w' => ∃ v, e = .returned v ∧ OwnG w' w.heap.size w'.heap.size v zss ∧ Below w.heap.size w w' := by
  obtain ⟨a, cap, rfl, hz0⟩ := hs
  have hz := Lib.hid hz0
  have HR := Lib.hid hr
  clear hz0 hr
  have hmk := run_make_row' (P := Try.prog) 31 23 (.slice none 0 0) 24 Try.underlying31 info_ints rfl .i64 .i64 zss.length (by omega) (by omega)
  go_enter Try.func89, Try.ntmps89
  go_wp2
  clear hmk
  go_loopw [11] (fun c wr => ∃ k : Nat, k ≤ zss.length ∧ c = .int .i64 k ∧ Hid (PartG wr w.heap.size zss.length k zss) ∧ Below w.heap.size w wr) (fun c _ => zss.length - (intOf c).toNat)
  case atStart => exact ⟨0, Nat.zero_le _, rfl, Lib.hid (PartG.made w _ _), (Below.refl _ _).alloc (Nat.le_refl _) _⟩
  case round =>
    obtain ⟨k, hk, rfl, HP, hbel⟩ := hrel
    by_cases hlt : k < zss.length
    · have hlt' : (k : Int) < zss.length := by omega
      rcases hz.out with h0 | ⟨b, off, T, rfl, hb, hc⟩
      · rw [h0] at hlt; simp at hlt
      obtain ⟨c0, r0⟩ := hc k hlt
      have hck := (hbel.cell (p := ⟨b, off + k, none⟩) hb).trans c0
      have hrk := r0.keep hbel
      obtain ⟨hr0, hr1⟩ := HR.out k hlt
      obtain ⟨zs, hzs⟩ : ∃ zs, zs = zss.getD k [] := ⟨_, rfl⟩
      rw [← hzs] at hrk hr0 hr1
      have hcl := clone zs (T k) wr hrk hr0 hr1
      obtain ⟨u, hu⟩ : ∃ u, u = T k := ⟨_, rfl⟩
      rw [← hu] at hck hcl
      have HC := Lib.hid hcl
      have HZ := Lib.hid hzs
      clear hc c0 r0 hrk hzs hcl hu
      go_wp2_with (go_at_call 126; refine HC.out.mono ?_; rintro e w2 ⟨v, rfl, hown, hok, hb2⟩; have hst := (HP.out.keep hb2).cell hlt; have hfr := (HP.out.keep hb2).frozen k; obtain ⟨g2, off2, cap2, rfl, hg2, hwr⟩ := hown.wr hr0; have HW2 := Lib.hid hwr; have HOK := Lib.hid hok; clear hown hwr hok)
      have HS : Hid (PartG (w2.setCell ⟨w.heap.size, k, none⟩ (.slice (some ⟨g2, off2, none⟩) zs.length cap2)) w.heap.size zss.length (k + 1) zss) := Lib.hid (HP.out.step hb2 HW2.out.inR HOK.out hg2 HW2.out.1 HZ.out.symm)
      go_roundw
      case rel => exact ⟨k + 1, by omega, by go_num, HS, (bel_trans hbel hb2).setCell (Nat.le_refl _) _⟩
      case measure => simp [intOf]; omega
    · have hke : k = zss.length := by omega
      have hkk : ¬ ((k : Int) < zss.length) := by omega
      have HK := Lib.hid hke
      clear hke
      go_wp2
      go_ret
      exact ⟨_, rfl, PartG.all (by have := HP.out; rw [HK.out] at this; exact this) _ (Nat.le_refl _) _ (Nat.le_refl _), hbel⟩

theorem RestAt.keep {w w' : World} {b off b2 off2 : Nat} {row rest : List Int} (h : RestAt w b off row b2 off2 rest) (hb : Below w.heap.size w w') : RestAt w' b off row b2 off2 rest := by
  rcases h with ⟨h1, h2, h3⟩ | h
  · exact .inl ⟨h1, Nat.lt_of_lt_of_le h2 hb.size, fun j hj => (hb.cell (p := ⟨b2, _, none⟩) h2).trans (h3 j hj)⟩
  · exact .inr h
/-- Stage n of closing, behind i rows. -/
def clIn (m : Int) (n : Nat) (z : List (List Int)) : Nat → List (List Int)
  | 0 => z
  | i + 1 => (clIn m n z i).set i (impr m ((clIn m n z i).getD i []) (((clIn m n z i).getD i []).getD n 0) ((clIn m n z i).getD n []))
/-- The first n stages of closing. -/
def clOut (m : Int) (z : List (List Int)) : Nat → List (List Int)
  | 0 => z
  | n + 1 => clIn m n (clOut m z n) (clOut m z n).length
theorem clIn_sq {m : Int} {N n : Nat} {z : List (List Int)} (hm : mKind m = true) (h : Sq m N z) (hn : n < N) : ∀ i, i ≤ N → Sq m N (clIn m n z i)
  | 0, _ => h
  | i + 1, hi => by
    have ih := clIn_sq hm h hn i (by omega)
    have hi' : i < N := by omega
    refine ih.set (by rw [impr_len]; exact (ih.2 i hi').1) (fun k hk => ?_)
    exact impr_in hm ((ih.2 i hi').2 n hn) (fun k hk => (ih.2 i hi').2 k (by rw [← (ih.2 i hi').1]; exact hk)) (fun k hk => (ih.2 n hn).2 k (by rw [← (ih.2 i hi').1]; exact hk)) k (by rw [(ih.2 i hi').1]; exact hk)
theorem clOut_sq {m : Int} {N : Nat} {z : List (List Int)} (hm : mKind m = true) (h : Sq m N z) : ∀ n, n ≤ N → Sq m N (clOut m z n)
  | 0, _ => h
  | n + 1, hn => by
    have ih := clOut_sq hm h n (by omega)
    show Sq m N (clIn m n (clOut m z n) (clOut m z n).length)
    rw [ih.1]
    exact clIn_sq hm ih (by omega) N (Nat.le_refl _)
theorem GridAt.keepG {w w' : World} {lo hi g : Nat} {T : Nat → Value} {B : Nat → Nat} {z z' : List (List Int)} (h : GridAt w lo hi g T B z) {k off : Nat} (hk : k < z.length) {r : List Int} (hz : z' = z.set k r) (hl : r.length = (z.getD k []).length) (hT : ∃ cap, T k = .slice (some ⟨B k, off, none⟩) r.length cap) (hw : Wr w' (B k) off r) (c : Chg (B k) (B k + 1) w w') : GridAt w' lo hi g T B z' := by
  subst hz
  refine h.setRow hk c (by rw [List.length_set]) ?_ (fun i hi hne => ?_)
  · rw [getD_setL _ _ _ _ hk, if_pos rfl]
    obtain ⟨cap, hT⟩ := hT
    rw [hT]
    exact hw.inR
  · rw [getD_setL _ _ _ _ hi, if_neg (fun e => hne e.symm)]

set_option maxRecDepth 20000 in
set_option maxHeartbeats 2000000 in
theorem closeRows (m : Int) (z : List (List Int)) (N cap lo hi g : Nat) (T : Nat → Value) (B : Nat → Nat) (w : World) (hm : mKind m = true) (hsq : Sq m N z) (hN : N ≤ 12) (hG : GridAt w lo hi g T B z) :
    Calls Try.prog 124 #[opsV m, .slice (some ⟨g, 0, none⟩) N cap] w fun e w' => e = .returned (.tuple #[]) ∧ GridAt w' lo hi g T B (clOut m z N) ∧ Chg lo hi w w' := by
  have HQ := Lib.hid (fun n hn => clOut_sq hm hsq n hn)
  have hq1 := Lib.hid hsq
  have hz0 : clOut m z 0 = z := rfl
  have HZ0 := Lib.hid hz0
  have HG0 := Lib.hid hG
  have himp := fun (first : Int) (row rest : List Int) (b off cap b2 off2 cap2 : Nat) (w : World) hw hr hl hlr hf hin => improve m first row rest b off cap b2 off2 cap2 w hm hw hr hl hlr hf hin
  have HIM := Lib.hid himp
  have HM := Lib.hid hm
  obtain ⟨O, hO⟩ : ∃ O, O = opsV m := ⟨_, rfl⟩
  rw [← hO] at HIM ⊢
  clear hsq hG hz0 himp hm hO
  go_enter Try.func124, Try.ntmps124
  go_wp2
  go_loopw [9] (fun c wr => ∃ n : Nat, n ≤ N ∧ c = .int .i64 n ∧ Hid (GridAt wr lo hi g T B (clOut m z n)) ∧ Hid (Chg lo hi w wr)) (fun c _ => N - (intOf c).toNat)
  case atStart => exact ⟨0, Nat.zero_le _, rfl, HG0, Lib.hid (Chg.refl _ _ _)⟩
  case round =>
    obtain ⟨n, hn, rfl, HG, HC⟩ := hrel
    by_cases hlt : n < N
    · have hlt' : (n : Int) < N := by omega
      obtain ⟨y, hy⟩ : ∃ y, y = clOut m z n := ⟨_, rfl⟩
      have HSQ := Lib.hid (HQ.out n hn)
      rw [← hy] at HG HSQ
      have hlast : clIn m n y N = clOut m z (n + 1) := by
        show _ = clIn m n (clOut m z n) (clOut m z n).length
        rw [← hy, HSQ.out.1]
      have HLA := Lib.hid hlast
      clear hy hlast
      go_wp2
      go_loopw [14] (fun c ws => ∃ i : Nat, i ≤ N ∧ c = .int .i64 i ∧ Hid (GridAt ws lo hi g T B (clIn m n y i)) ∧ Hid (Chg lo hi w ws)) (fun c _ => N - (intOf c).toNat)
      case atStart => exact ⟨0, Nat.zero_le _, rfl, HG, HC⟩
      case round =>
        obtain ⟨i, hi', rfl, HGI, HCI⟩ := hrel
        by_cases hli : i < N
        · have hli' : (i : Int) < N := by omega
          have HS := Lib.hid (clIn_sq HM.out HSQ.out hlt i hi')
          obtain ⟨x, hx⟩ : ∃ x, x = clIn m n y i := ⟨_, rfl⟩
          have hstep : clIn m n y (i + 1) = x.set i (impr m (x.getD i []) ((x.getD i []).getD n 0) (x.getD n [])) := by rw [hx]; rfl
          rw [← hx] at HGI HS
          have hix : i < x.length := by rw [HS.out.1]; exact hli
          have hnx : n < x.length := by rw [HS.out.1]; exact hlt
          obtain ⟨hil, hiv⟩ := HS.out.2 i hli
          obtain ⟨hnl, hnv⟩ := HS.out.2 n hlt
          obtain ⟨offi, capi, hTi, hwi⟩ := HGI.out.wr hix (by omega)
          obtain ⟨offn, capn, hTn, hwn⟩ := HGI.out.wr hnx (by omega)
          have hci := (HGI.out.cell i hix).1
          have hcn := (HGI.out.cell n hnx).1
          have hblk := HGI.out.blk i hix
          have hrest : RestAt wr (B i) offi (x.getD i []) (B n) offn (x.getD n []) := by
            by_cases e : i = n
            · subst e
              rw [hTi] at hTn
              injection hTn with h1 h2 h3
              injection h1 with h1
              injection h1 with h1 h4 h5
              exact .inr ⟨rfl, h4.symm, rfl⟩
            · exact .inl ⟨fun h => HGI.out.dis i n hix hnx e h.symm, hwn.1, fun j hj => (hwn.2 j (by omega)).1⟩
          have hcall : ∀ w', Below wr.heap.size wr w' → Calls Try.prog 90 #[O, .slice (some ⟨B i, offi, none⟩) N capi, .int .i64 ((x.getD i []).getD n 0), .slice (some ⟨B n, offn, none⟩) N capn] w' fun e w'' => e = .returned (.tuple #[]) ∧ GridAt w'' lo hi g T B (clIn m n y (i + 1)) ∧ Chg lo hi w w'' := by
            intro w' h
            have hc := HIM.out ((x.getD i []).getD n 0) (x.getD i []) (x.getD n []) (B i) offi capi (B n) offn capn w' (hwi.keep h) (hrest.keep h) (by omega) (by omega) (hiv n hlt) (fun j hj => hnv j (by omega))
            rw [hil, hnl] at hc
            refine hc.mono ?_
            rintro e w'' ⟨rfl, hw2, hch⟩
            exact ⟨rfl, (HGI.out.keep h).keepG (k := i) (off := offi) hix hstep (impr_len _ _ _ _) ⟨capi, by rw [impr_len]; exact hTi⟩ hw2 hch, (HCI.out.trans (Chg.of_below h)).trans (hch.wider hblk.1 (by omega))⟩
          have hcin : wr.cell? ⟨B i, offi + n, none⟩ = some (.int .i64 ((x.getD i []).getD n 0)) := (hwi.2 n (by omega)).1
          obtain ⟨f, hf⟩ : ∃ f, f = (x.getD i []).getD n 0 := ⟨_, rfl⟩
          rw [← hf] at hcall hcin
          rw [hTi, hil] at hci
          rw [hTn, hnl] at hcn
          have HCALL := Lib.hid hcall
          have hnlt : (n : Int) < N := by omega
          clear hx hstep hil hiv hnl hnv hTi hwi hTn hwn hrest hcall hf hix hnx hblk
          go_wp2
          go_region_law (go_simp; go_at_call 90; (with_reducible refine (HCALL.out _ ((Below.refl _ _).drew)).mono ?_); rintro e wE ⟨rfl, hgE, hcE⟩; have HGE := Lib.hid hgE; have HCE := Lib.hid hcE; clear hgE hcE)
          all_goals go_wp2
          all_goals go_roundw
          all_goals first | (simp [intOf]; omega) | exact ⟨i + 1, by omega, by go_num, HGE, HCE⟩ | ((repeat apply Exists.intro); exact ⟨⟨i + 1, by omega, by go_num, HGE, HCE⟩, rfl⟩)
        · have hke : i = N := by omega
          have hkk : ¬ ((i : Int) < N) := by omega
          subst hke
          rw [HLA.out] at HGI
          go_wp2
          go_roundw
          case rel => exact ⟨n + 1, by omega, by go_num, HGI, HCI⟩
          case measure => simp [intOf]; omega
    · have hke : n = N := by omega
      have hkk : ¬ ((n : Int) < N) := by omega
      subst hke
      go_wp2
      go_end0
      exact ⟨rfl, HG.out, HC.out⟩

/-- A grid that is being made: its last row can be written over. -/
theorem PartG.last {w : World} {g N k : Nat} {zss : List (List Int)} (h : PartG w g N (k + 1) zss) (hk : k < N) (h0 : 0 < (zss.getD k []).length) :
    ∃ b off cap, w.cell? ⟨g, k, none⟩ = some (.slice (some ⟨b, off, none⟩) (zss.getD k []).length cap) ∧ Wr w b off (zss.getD k []) ∧ g < b ∧
      ∀ (w' : World) (z' : List (List Int)), Chg b (b + 1) w w' → (z'.getD k []).length = (zss.getD k []).length → Wr w' b off (z'.getD k []) → (∀ i, i < k → z'.getD i [] = zss.getD i []) → PartG w' g N (k + 1) z' := by
  obtain ⟨T, B, hr, hc, hd⟩ := h
  obtain ⟨c1, c2, c3, c4⟩ := hc k (Nat.lt_succ_self _)
  obtain ⟨a, cap, hT, hz⟩ := c1
  rcases hz with hz | ⟨b, off, rfl, h1, h2, h3, hcc⟩
  · omega
  have hb : b = B k := by omega
  subst hb
  refine ⟨B k, off, cap, by rw [hr.cell hk, if_pos (Nat.lt_succ_self _), hT], ⟨by omega, fun j hj => ⟨(hcc j (by omega)).1, (hcc j (by omega)).2 rfl⟩⟩, c3, fun w' z' ch hl hw ho => ?_⟩
  refine ⟨T, B, hr.of_block (ch.block g hr.lt (.inl c3)), fun i hi => ?_, hd⟩
  by_cases e : i = k
  · subst e
    refine ⟨?_, c2, c3, Nat.lt_of_lt_of_le c4 ch.size⟩
    rw [hT, ← hl]
    exact hw.inR
  · have hi2 : i < k := by omega
    obtain ⟨d1, d2, d3, d4⟩ := hc i hi
    rw [ho i hi2]
    have hne := hd i k hi (Nat.lt_succ_self _) e
    exact ⟨d1.chg ch (by omega), d2, d3, Nat.lt_of_lt_of_le d4 ch.size⟩

theorem PartG.congr {w : World} {g N k : Nat} {z z' : List (List Int)} (h : PartG w g N k z) (he : ∀ i, i < k → z'.getD i [] = z.getD i []) : PartG w g N k z' := by
  obtain ⟨T, B, hr, hc, hd⟩ := h
  exact ⟨T, B, hr, fun i hi => by rw [he i hi]; exact hc i hi, hd⟩
/-- A row of a product, behind j steps. -/
def tmRow (m : Int) (arow : List Int) (bz : List (List Int)) (N : Nat) : Nat → List Int
  | 0 => List.replicate N (mNone m)
  | j + 1 => impr m (tmRow m arow bz N j) (arow.getD j 0) (bz.getD j [])
/-- The product of two grids. -/
def tmL (m : Int) (az bz : List (List Int)) (N : Nat) : List (List Int) := (List.range N).map fun i => tmRow m (az.getD i []) bz N N
/-- The same, where row k is behind j steps. -/
def tmMid (m : Int) (az bz : List (List Int)) (N k j : Nat) : List (List Int) := (List.range N).map fun i => if i = k then tmRow m (az.getD i []) bz N j else tmRow m (az.getD i []) bz N N
theorem tmRow_len (m : Int) (arow : List Int) (bz : List (List Int)) (N : Nat) : ∀ j, (tmRow m arow bz N j).length = N
  | 0 => by simp [tmRow]
  | j + 1 => by show (impr _ _ _ _).length = N; rw [impr_len]; exact tmRow_len m arow bz N j
theorem tmL_len (m : Int) (az bz : List (List Int)) (N : Nat) : (tmL m az bz N).length = N := by simp [tmL]
theorem tmL_at (m : Int) (az bz : List (List Int)) (N : Nat) {i : Nat} (h : i < N) : (tmL m az bz N).getD i [] = tmRow m (az.getD i []) bz N N := by
  unfold tmL
  simp only [List.getD, List.getElem?_map, List.getElem?_range h, Option.map_some, Option.getD_some]
theorem tmMid_at (m : Int) (az bz : List (List Int)) (N k j : Nat) {i : Nat} (h : i < N) : (tmMid m az bz N k j).getD i [] = if i = k then tmRow m (az.getD i []) bz N j else tmRow m (az.getD i []) bz N N := by
  unfold tmMid
  simp only [List.getD, List.getElem?_map, List.getElem?_range h, Option.map_some, Option.getD_some]
theorem tmRow_in {m : Int} {N : Nat} {az bz : List (List Int)} (hm : mKind m = true) (ha : Sq m N az) (hb : Sq m N bz) {i : Nat} (hi : i < N) : ∀ j, j ≤ N → ∀ k, k < N → mIn m ((tmRow m (az.getD i []) bz N j).getD k 0) = true
  | 0, _, k, hk => by
    have e : (tmRow m (az.getD i []) bz N 0).getD k 0 = mNone m := by simp [tmRow, List.getD, hk]
    rw [e]; exact mNone_in hm
  | j + 1, hj, k, hk => by
    have ih := tmRow_in hm ha hb hi j (by omega)
    exact impr_in hm ((ha.2 i hi).2 j (by omega)) (fun k hk => ih k (by rwa [tmRow_len] at hk)) (fun k hk => (hb.2 j (by omega)).2 k (by rwa [tmRow_len] at hk)) k (by rw [tmRow_len]; exact hk)

set_option maxRecDepth 20000 in
set_option maxHeartbeats 4000000 in
theorem timesRows (m : Int) (az bz : List (List Int)) (N : Nat) (s t : Value) (w : World) (hm : mKind m = true) (ha : Sq m N az) (hb : Sq m N bz) (hN0 : 1 ≤ N) (hN : N ≤ 12) (hs : Grid w s az) (ht : Grid w t bz) :
    Calls Try.prog 74 #[opsV m, s, t] w fun e w' => ∃ v, e = .returned v ∧ OwnG w' w.heap.size w'.heap.size v (tmL m az bz N) ∧ Below w.heap.size w w' := by
  have himp := fun (first : Int) (row rest : List Int) (b off cap b2 off2 cap2 : Nat) (w : World) hw hr hl hlr hf hin => improve m first row rest b off cap b2 off2 cap2 w hm hw hr hl hlr hf hin
  have hrep := fun g cap w h h' => repeat1 (mNone m) N hN0 hN g cap w h h'
  obtain ⟨TT, rv, fn, fe, fb, fo, fj, rn, re, rb, ro, rj, D⟩ := disp hm
  rw [D.val] at himp ⊢
  have hn1 := D.mn.run
  have hn2 := D.mn.ahead
  have hn3 := D.mn.enter
  have HNO := Lib.hid D.cn
  have HDD := Lib.hid D
  have HIM := Lib.hid himp
  have HREP := Lib.hid hrep
  have HM := Lib.hid hm
  have HA := Lib.hid ha
  have HBQ := Lib.hid hb
  obtain ⟨aa, acap, rfl, hza⟩ := hs
  obtain ⟨ba, bcap, rfl, hzb⟩ := ht
  rw [ha.1, hb.1]
  rcases hza with h0 | ⟨ab, aoff, TA, rfl, hab, hac⟩
  · have := ha.1; rw [h0] at this; simp at this; omega
  rcases hzb with h0 | ⟨bb, boff, TB, rfl, hbb, hbc⟩
  · have := hb.1; rw [h0] at this; simp at this; omega
  rw [ha.1] at hac
  rw [hb.1] at hbc
  have HAC := Lib.hid hac
  have HBC := Lib.hid hbc
  have hmk := run_make_row' (P := Try.prog) 31 23 (.slice none 0 0) 24 Try.underlying31 info_ints rfl .i64 .i64 N (by omega) (by omega)
  clear D himp hrep hm ha hb hac hbc
  go_enter Try.func74, Try.ntmps74
  go_wp2
  clear hmk
  go_loopw [17] (fun c wr => ∃ k : Nat, k ≤ N ∧ c = .int .i64 k ∧ Hid (PartG wr w.heap.size N k (tmL m az bz N)) ∧ Below w.heap.size w wr) (fun c _ => N - (intOf c).toNat)
  case atStart => exact ⟨0, Nat.zero_le _, rfl, Lib.hid (PartG.made w _ _), (Below.refl _ _).alloc (Nat.le_refl _) _⟩
  case round =>
    obtain ⟨k, hk, rfl, HP, hbel⟩ := hrel
    by_cases hlt : k < N
    · have hlt' : (k : Int) < N := by omega
      obtain ⟨c0, r0⟩ := HAC.out k hlt
      have hal := (HA.out.2 k hlt).1
      obtain ⟨rb2, roff, rcap, hTA, hrb, hrc⟩ := r0.at (i := 0) (by omega)
      rw [hTA, hal] at c0
      rw [hal] at hrc
      have hck := (hbel.cell (p := ⟨ab, aoff + k, none⟩) hab).trans c0
      have HRC := Lib.hid hrc
      have hwlt : w.heap.size < wr.heap.size := by obtain ⟨_, _, hr, _⟩ := HP.out; exact hr.lt
      clear c0 r0 hTA hal hrc
      go_wp2_with (first | (with_reducible refine (HNO.out _).mono ?_; rintro e w1 ⟨rfl, hw1⟩) | (go_at_call 118; refine (HREP.out _ _ _ (by go_simp) (by simp)).mono ?_; rintro e w2 ⟨v2, rfl, hnew, hw2⟩; have hBB := bel_trans ((hw1.alloc hw1.size (.cells #[.int .i64 (mNone m)] 3))) hw2; have hst := (HP.out.keep hBB).cell hlt; have hfr := (HP.out.keep hBB).frozen k; have HNEW := Lib.hid hnew; obtain ⟨g2, cap2, rfl, hg2, hrow2⟩ := hnew; clear hg2 hrow2))
      have hS : PartG (w2.setCell ⟨w.heap.size, k, none⟩ (.slice (some ⟨g2, 0, none⟩) N cap2)) w.heap.size N (k + 1) (tmMid m az bz N k 0) := by
        obtain ⟨b2, k1, k2, k3, k4⟩ := HNEW.out.blk
        have h1 := HP.out.congr (z' := tmMid m az bz N k 0) (fun i hi => by rw [tmMid_at _ _ _ _ _ _ (by omega), if_neg (by omega), tmL_at _ _ _ _ (by omega)])
        have h2 := h1.step hBB k1 k2 (by have := hw1.size; simp at k3; omega) k4 (by rw [tmMid_at _ _ _ _ _ _ hlt, if_pos rfl]; rfl)
        simpa using h2
      have hB5 : Below w.heap.size w (w2.setCell ⟨w.heap.size, k, none⟩ (.slice (some ⟨g2, 0, none⟩) N cap2)) := (bel_trans hbel hBB).setCell (Nat.le_refl _) _
      have HS := Lib.hid hS
      clear hst hfr hck hS
      generalize (w2.setCell ⟨w.heap.size, k, none⟩ (.slice (some ⟨g2, 0, none⟩) N cap2)) = w5 at HS hB5 ⊢
      go_loopw [33] (fun c ws => ∃ j : Nat, j ≤ N ∧ c = .int .i64 j ∧ Hid (PartG ws w.heap.size N (k + 1) (tmMid m az bz N k j)) ∧ Below w.heap.size w ws) (fun c _ => N - (intOf c).toNat)
      case atStart => exact ⟨0, Nat.zero_le _, rfl, HS, hB5⟩
      case round =>
        obtain ⟨j, hj, rfl, HPJ, hbs⟩ := hrel
        by_cases hlj : j < N
        · have hlj' : (j : Int) < N := by omega
          have c1 := HRC.out j hlj
          have hrow := tmMid_at m az bz N k j hlt
          rw [if_pos rfl] at hrow
          have hrl := tmRow_len m (az.getD k []) bz N j
          obtain ⟨pb, poff, pcap, hpc, hpw, hpg, hpn⟩ := HPJ.out.last hlt (by rw [hrow, hrl]; omega)
          rw [hrow] at hpc hpw hpn
          rw [hrl] at hpc hpn
          obtain ⟨d0, q0⟩ := HBC.out j hlj
          have hbl := (HBQ.out.2 j hlj).1
          obtain ⟨qb, qoff, qcap, hTB, hqb, hqc⟩ := q0.at (i := 0) (by omega)
          rw [hTB, hbl] at d0
          rw [hbl] at hqc
          have hain := (HA.out.2 k hlt).2 j hlj
          obtain ⟨x, hx⟩ : ∃ x, x = (az.getD k []).getD j 0 := ⟨_, rfl⟩
          rw [← hx] at c1 hain
          have e1 := (hbs.cell (p := ⟨rb2, roff + j, none⟩) hrb).trans c1
          have e2 := (hbs.cell (p := ⟨bb, boff + j, none⟩) hbb).trans d0
          have hcall : ∀ w', Below wr.heap.size wr w' → Calls Try.prog 90 #[.iface TT rv, .slice (some ⟨pb, poff, none⟩) N pcap, .int .i64 x, .slice (some ⟨qb, qoff, none⟩) N qcap] w' fun e w'' => e = .returned (.tuple #[]) ∧ PartG w'' w.heap.size N (k + 1) (tmMid m az bz N k (j + 1)) ∧ Below w.heap.size w w'' := by
            intro w' h
            have hc := HIM.out x (tmRow m (az.getD k []) bz N j) (bz.getD j []) pb poff pcap qb qoff qcap w' (hpw.keep h) (.inl ⟨by omega, Nat.lt_of_lt_of_le hqb (Nat.le_trans hbs.size h.size), fun i hi => ((bel_trans hbs h).cell (p := ⟨qb, _, none⟩) hqb).trans (hqc i (by rw [hrl] at hi; exact hi))⟩) (by rw [hrl]; omega) (by rw [hrl]; exact hbl) hain (fun i hi => (HBQ.out.2 j hlj).2 i (by rw [hrl] at hi; exact hi))
            rw [hrl, hbl] at hc
            refine hc.mono ?_
            rintro e w'' ⟨rfl, hw2, hch⟩
            have hnx : (tmMid m az bz N k (j + 1)).getD k [] = impr m (tmRow m (az.getD k []) bz N j) x (bz.getD j []) := by rw [tmMid_at _ _ _ _ _ _ hlt, if_pos rfl, hx]; rfl
            refine ⟨rfl, hpn w'' _ ((Chg.of_below h).trans hch) (by rw [hnx, impr_len, hrl]) (by rw [hnx]; exact hw2) (fun i hi => by rw [tmMid_at _ _ _ _ _ _ (by omega), if_neg (by omega), tmMid_at _ _ _ _ _ _ (by omega), if_neg (by omega)]), bel_chg (bel_trans hbs h) hch (by omega)⟩
          have HCALL := Lib.hid hcall
          clear hx hain hcall c1 d0 hTB hqc q0 hrow hrl hpw hpn hbl
          go_wp2
          go_region_law (go_simp; go_at_call 90; (with_reducible refine (HCALL.out _ ((Below.refl _ _).drew)).mono ?_); rintro e wE ⟨rfl, hgE, hcE⟩; have HGE := Lib.hid hgE; clear hgE)
          all_goals go_wp2
          all_goals go_roundw
          all_goals first | (simp [intOf]; omega) | exact ⟨j + 1, by omega, by go_num, HGE, hcE⟩ | ((repeat apply Exists.intro); exact ⟨⟨j + 1, by omega, by go_num, HGE, hcE⟩, rfl⟩)
        · have hke : j = N := by omega
          have hkk : ¬ ((j : Int) < N) := by omega
          have HKE := Lib.hid hke
          clear hke
          have HE : Hid (PartG wr w.heap.size N (k + 1) (tmL m az bz N)) := Lib.hid (by
            have h1 := HPJ.out
            rw [HKE.out] at h1
            refine h1.congr (fun i hi => ?_)
            rw [tmMid_at _ _ _ _ _ _ (by omega), tmL_at _ _ _ _ (by omega)]
            split <;> rfl)
          go_wp2
          go_roundw
          case rel => exact ⟨k + 1, by omega, by go_num, HE, hbs⟩
          case measure => simp [intOf]; omega
    · have hke : k = N := by omega
      have hkk : ¬ ((k : Int) < N) := by omega
      subst hke
      go_wp2
      go_ret
      exact ⟨_, rfl, by have := PartG.all (zss := tmL m az bz k) (by rw [tmL_len]; exact HP.out) w.heap.size (Nat.le_refl _) k (by rw [tmL_len]; exact Nat.le_refl _); rwa [tmL_len] at this, hbel⟩
end Go.Proofs.Ytjpikbbpmbeckaa