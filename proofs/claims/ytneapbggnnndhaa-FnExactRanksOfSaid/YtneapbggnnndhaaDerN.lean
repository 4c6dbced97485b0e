/- RanksOf of the model. -/
import Derived.Test.YtneapbggnnndhaaDerM
import Derived.Test.YtneapbggnnndhaaBoxes
namespace Go.Proofs.Ytneapbggnnndhaa
open Go.RowKit Go.BigFrame Go.Deep
set_option linter.unusedVariables false
set_option linter.unusedSimpArgs false
set_option linter.unnecessarySimpa false

/-- A slice of the call's own that is not nil. -/
def OwnS (w : World) (base : Nat) (v : Value) (xs : List Int) : Prop := ∃ g cap, v = .slice (some ⟨g, 0, none⟩) xs.length cap ∧ w.ownsRow base 3 1 v xs.length (xs.map (Value.int .i64))
theorem OwnS.of {w : World} {base : Nat} {v : Value} {xs : List Int} (h : w.ownsRow base 3 1 v xs.length (xs.map (Value.int .i64))) (hn : ¬ v = .slice none 0 0) : OwnS w base v xs := by
  rcases h.2 with ⟨h1, _⟩ | ⟨g, cap, cur, h1, rest⟩
  · exact absurd h1 hn
  · exact ⟨g, cap, h1, h⟩
theorem OwnS.keep {w w' : World} {base : Nat} {v : Value} {xs : List Int} (h : OwnS w base v xs) (hb : Below w.heap.size w w') : OwnS w' base v xs := by
  obtain ⟨g, cap, h1, h2⟩ := h
  exact ⟨g, cap, h1, own_keep h2 hb⟩
theorem OwnS.lower {w : World} {base base' : Nat} {v : Value} {xs : List Int} (h : OwnS w base v xs) (hb : base' ≤ base) : OwnS w base' v xs := by
  obtain ⟨g, cap, h1, h2⟩ := h
  refine ⟨g, cap, h1, h2.1, ?_⟩
  rcases h2.2 with h3 | ⟨g', cap', cur, hv, hg, rest⟩
  · exact .inl h3
  · exact .inr ⟨g', cap', cur, hv, Nat.le_trans hb hg, rest⟩
theorem OwnS.at {w : World} {base g cap n : Nat} {xs : List Int} (h : w.ownsRow base 3 1 (.slice (some ⟨g, 0, none⟩) n cap) xs.length (xs.map (Value.int .i64))) : g < w.heap.size ∧ xs.length ≤ cap ∧ ∀ i, i < xs.length → w.cell? ⟨g, i, none⟩ = some (.int .i64 (xs.getD i 0)) := by
  refine ⟨(h.lt g rfl).2, ?_, fun i hi => ?_⟩
  · rcases h.2 with ⟨h1, _⟩ | ⟨g', cap', cur, hv, hg, hh, hc, _⟩
    · cases h1
    · injection hv with _ _ h3
      omega
  · have := h.cells (g := g) rfl i (.int .i64 (xs.getD i 0)) (by simp [List.getD, hi])
    rwa [Go.WideShapes.add_plain, Nat.zero_add] at this

set_option maxRecDepth 20000 in
set_option maxHeartbeats 8000000 in
theorem sRanksOf (n m a : Int) (es : List Ed) (zs : List Int) (s t : Value) (w : World) (hs : RowE w s es) (ht : Row w t zs) (hl : es.length ≤ 281474976710656) (hl2 : zs.length ≤ 281474976710656) :
    Calls Try.prog 11 #[.agg #[.int .i64 n, s], .agg #[.int .i64 m, .int .i64 a, t]] w fun e w' => ∃ v, e = .returned (.tuple #[v, .bool (vVal n es m a zs)]) ∧ OwnI w w' v (rkR n es m a zs) ∧ Below w.heap.size w w' := by
  obtain ⟨ad, cap, rfl, hz0⟩ := id hs
  obtain ⟨at0, ct, rfl, hz1⟩ := id ht
  clear hz0 hz1
  obtain ⟨W, hW⟩ : ∃ W, W = (((w.alloc (.cells #[.int .i64 n, .slice ad es.length cap] 34)).alloc (.cells #[.int .i64 m, .int .i64 a, .slice at0 zs.length ct] 36)).alloc (.cells #[] 3)) := ⟨_, rfl⟩
  have hbW : Below w.heap.size w W := by rw [hW]; exact (((Below.refl _ _).alloc (Nat.le_refl _) _).alloc (by simp) _).alloc (by simp; omega) _
  have hsz : W.heap.size = w.heap.size + 3 := by rw [hW]; simp
  have hvv := fun w' (h : Below W.heap.size W w') => sViewValid n m a es zs _ _ w' (hs.keep (bel_trans hbW h)) (ht.keep (bel_trans hbW h)) hl hl2
  have hres : ∀ w', Below W.heap.size W w' → w'.cell? ⟨w.heap.size, 0, none⟩ = some (.int .i64 n) ∧ w'.cell? ⟨w.heap.size, 1, none⟩ = some (.slice ad es.length cap) ∧ w'.cell? ⟨w.heap.size + 1, 0, none⟩ = some (.int .i64 m) ∧ w'.cell? ⟨w.heap.size + 1, 1, none⟩ = some (.int .i64 a) ∧ w'.cell? ⟨w.heap.size + 1, 2, none⟩ = some (.slice at0 zs.length ct) := fun w' h =>
    ⟨(h.cell (p := ⟨w.heap.size, 0, none⟩) (by simp only; omega)).trans (by rw [hW]; go_simp), (h.cell (p := ⟨w.heap.size, 1, none⟩) (by simp only; omega)).trans (by rw [hW]; go_simp), (h.cell (p := ⟨w.heap.size + 1, 0, none⟩) (by simp only; omega)).trans (by rw [hW]; go_simp), (h.cell (p := ⟨w.heap.size + 1, 1, none⟩) (by simp only; omega)).trans (by rw [hW]; go_simp), (h.cell (p := ⟨w.heap.size + 1, 2, none⟩) (by simp only; omega)).trans (by rw [hW]; go_simp)⟩
  have how : W.ownsRow w.heap.size 3 1 (.slice (some ⟨w.heap.size + 2, 0, none⟩) 0 0) 0 [] := by rw [hW]; simpa using own_empty ((w.alloc (.cells #[.int .i64 n, .slice ad es.length cap] 34)).alloc (.cells #[.int .i64 m, .int .i64 a, .slice at0 zs.length ct] 36)) 3 w.heap.size (by simp; omega)
  have HBOX : Hid (Box W w.heap.size 34 #[.int .i64 n, .slice ad es.length cap] ∧ Box W (w.heap.size + 1) 36 #[.int .i64 m, .int .i64 a, .slice at0 zs.length ct]) := Lib.hid (by
    rw [hW]
    refine ⟨((Box.new w _ _).alloc _).alloc _, ?_⟩
    have := (Box.new (w.alloc (.cells #[.int .i64 n, .slice ad es.length cap] 34)) 36 #[.int .i64 m, .int .i64 a, .slice at0 zs.length ct]).alloc (.cells #[] 3)
    simpa using this)
  have HRES := Lib.hid hres
  have HBW := Lib.hid hbW
  have HSZ := Lib.hid hsz
  have HWE := Lib.hid hW
  have HT := Lib.hid ht
  have HOW := Lib.hid how
  clear hres hbW hsz hs ht how
  unfold rkR
  obtain ⟨Gv, hG⟩ : ∃ G, G = vVal n es m a zs := ⟨_, rfl⟩
  rw [← hG] at hvv ⊢
  have HVV := Lib.hid hvv
  clear hvv
  cases Gv
  · rw [if_neg (by decide)]
    clear hG
    go_enter Try.func11, Try.ntmps11
    go_wp2_with fail
    rw [← hW]
    clear hW
    obtain ⟨j0, j1, j2, j3, j4⟩ := HRES.out _ (Below.refl _ _)
    go_wp2_with (go_at_call 40; refine (HVV.out _ (Below.refl _ _)).mono ?_; rintro e w1 ⟨rfl, hb1⟩; have HB1 := Lib.hid hb1; clear hb1 j0 j1 j2 j3 j4)
    go_ret2
    exact ⟨_, rfl, OwnI.of (own_keep (own_keep HOW.out (Below.refl _ _)) HB1.out) (Nat.le_refl _), bel_trans HBW.out HB1.out⟩
  · rw [if_pos rfl]
    have hp := vVal_pts hG.symm
    have hm := hp.2.2.2.1
    have hn := gVal_n hp.1
    obtain ⟨N, rfl⟩ := Int.eq_ofNat_of_zero_le (show 0 ≤ n by omega)
    have HZN : Hid (zs.length = N) := Lib.hid (by have := hp.2.2.1; omega)
    have h12 : N ≤ 12 := by omega
    rw [Int.toNat_natCast]
    clear hG hp hn
    obtain ⟨i0, hi, hz0', hz1, hz2⟩ := info_parts info_int2
    have HI : Hid (Try.prog.info? 3 = some i0 ∧ i0.zero = some (.int .i64 0) ∧ i0.size = 1 ∧ i0.bytes = 8) := Lib.hid ⟨hi, hz0', hz1, hz2⟩
    clear hi hz0' hz1 hz2
    go_enter Try.func11, Try.ntmps11
    go_wp2_with fail
    rw [← hW]
    clear hW
    obtain ⟨j0, j1, j2, j3, j4⟩ := HRES.out _ (Below.refl _ _)
    go_wp2_with (go_at_call 40; refine (HVV.out _ (Below.refl _ _)).mono ?_; rintro e w1 ⟨rfl, hb1⟩; have HB1 := Lib.hid hb1; clear hb1 j0 j1 j2 j3 j4)
    go_loopw [7, 6] (fun c v wr => ∃ k : Nat, k ≤ N ∧ c = .int .i64 k ∧ Below w.heap.size w wr ∧ (Box wr w.heap.size 34 #[.int .i64 N, .slice ad es.length cap] ∧ Box wr (w.heap.size + 1) 36 #[.int .i64 m, .int .i64 a, .slice at0 zs.length ct]) ∧ OwnS wr w.heap.size v (rkL (rkB m zs) k)) (fun c _ _ => N - (intOf c).toNat)
    case atStart => exact ⟨0, Nat.zero_le _, rfl, bel_trans HBW.out HB1.out, ⟨HBOX.out.1.keep HB1.out, HBOX.out.2.keep HB1.out⟩, ⟨_, _, rfl, own_keep (own_keep HOW.out (Below.refl _ _)) HB1.out⟩⟩
    case round =>
      obtain ⟨wo, rfl⟩ : ∃ wo, wo = wr := ⟨_, rfl⟩
      obtain ⟨k, hk, rfl, hbel, hbx, ⟨g, cg, rfl, hown⟩⟩ := hrel
      have hlen := rkL_len (rkB m zs) k
      have HO := Lib.hid hown
      have HL := Lib.hid hbel
      have HX := Lib.hid hbx
      have HLEN := Lib.hid hlen
      have x0 : wo.cell? ⟨w.heap.size, 0, none⟩ = some (.int .i64 N) := by simpa using hbx.1.cell 0
      obtain ⟨hg, hcg, hcell⟩ := OwnS.at hown
      rw [hlen] at hcg hcell
      have HC := Lib.hid hcell
      have hwo := hbel.size
      have hkl : (rkL (rkB m zs) k).length = k := hlen
      rw [hkl]
      clear hown hbx hlen hcell hkl
      by_cases hlt : k < N
      · have hlt' : (k : Int) < N := by omega
        have hkz : k < zs.length := by rw [HZN.out]; exact hlt
        have hkz' : (k : Int) < zs.length := by omega
        obtain ⟨bz, off, cz, hse, hbz, hcz⟩ := HT.out.at hkz
        injection hse with hsa _ hsc
        subst hsa hsc
        have HCZ := Lib.hid (And.intro hbz hcz)
        obtain ⟨x, hx⟩ : ∃ x, x = zs.getD k 0 := ⟨_, rfl⟩
        have HXX := Lib.hid hx
        clear hbz hcz hbel hx
        go_wp2
        go_loopw [8] (fun c wq => ∃ j : Nat, j ≤ k ∧ c = .int .i64 j ∧ Below wo.heap.size wo wq ∧ plc (rkB m zs) (k : Int) (rkL (rkB m zs) k) k = plc (rkB m zs) (k : Int) (rkL (rkB m zs) k) j) (fun c _ => (intOf c).toNat)
        case atStart => exact ⟨k, Nat.le_refl _, rfl, Below.refl _ _, rfl⟩
        case round =>
          obtain ⟨j, hj, rfl, hbel2, hpl⟩ := hrel
          have HB2 := Lib.hid hbel2
          have HPL := Lib.hid hpl
          clear hbel2 hpl
          by_cases hj0 : j = 0
          · have HJ0 := Lib.hid hj0
            have d0 : ¬ ((0 : Int) < (j : Int)) := by omega
            have d1 : ¬ (0 < j) := by omega
            have HST : Hid (plc (rkB m zs) (k : Int) (rkL (rkB m zs) k) k = j) := Lib.hid (HPL.out.trans (plc_stop (.inl hj0)))
            clear hj0
            go_wp2_with fail
            refine wp_region_below (by kernel_rfl) (by kernel_rfl) ?_
            repeat (go_big_quiet_step ((intro hw; first | with_reducible rfl)))
            refine wpQuiet_nil ?_
            intro w2 hw2
            have H2 := Lib.hid (bel_trans HB2.out hw2)
            clear hw2
            clear d0 d1
            by_cases hcne : cg = j
            rotate_left
            · skip
              have hcj : j ≤ cg := by omega
              have hkj' : (j : Int) ≤ k := by omega
              have hkc : k ≤ cg := by omega
              have hg2 : g < w2.heap.size := Nat.lt_of_lt_of_le hg H2.out.size
              have how1 := own_empty w2 3 wo.heap.size H2.out.size
              have HW1 := Lib.hid how1
              have HBA : Hid (Below wo.heap.size wo (w2.alloc (.cells #[] 3))) := Lib.hid (H2.out.alloc H2.out.size _)
              have hgc : ∀ q, Below wo.heap.size wo q → ∀ i, i < k → q.cell? ⟨g, i, none⟩ = some (.int .i64 ((rkL (rkB m zs) k).getD i 0)) := fun q h i hi => (h.cell (p := ⟨g, i, none⟩) hg).trans (HC.out i hi)
              have HGC := Lib.hid hgc
              have hlk := HLEN.out
              have HIX : Hid ((((rkL (rkB m zs) k).take j).map (Value.int .i64) ++ [Value.int .i64 (k : Int)]) ++ ((rkL (rkB m zs) k).drop j).map (Value.int .i64) = (rkL (rkB m zs) (k + 1)).map (Value.int .i64)) := Lib.hid (by
                show _ = (insX (rkB m zs) (k : Int) (rkL (rkB m zs) k)).map _
                unfold insX
                rw [hlk, HST.out]
                simp)
              have hl1 : (((rkL (rkB m zs) k).take j).map (Value.int .i64)).length = j * 1 := by simp; omega
              have hl2' : (((rkL (rkB m zs) k).drop j).map (Value.int .i64)).length = (k - j) * 1 := by simp; omega
              have hn1 : ∀ q, Below wo.heap.size wo q → ∀ i u, (((rkL (rkB m zs) k).take j).map (Value.int .i64))[i]? = some u → q.cell? (Addr.add ⟨g, 0, none⟩ i) = some u := fun q h i u hu => by
                have hij : i < j := by
                  have := (List.getElem?_eq_some_iff.1 hu).1
                  rw [hl1] at this
                  omega
                rw [Go.WideShapes.add_plain, Nat.zero_add, HGC.out q h i (by omega), ← hu]
                simp [List.getD, hij, show i < (rkL (rkB m zs) k).length by omega]
              have hn2 : ∀ q, Below wo.heap.size wo q → ∀ i u, (((rkL (rkB m zs) k).drop j).map (Value.int .i64))[i]? = some u → q.cell? (Addr.add ⟨g, j, none⟩ i) = some u := fun q h i u hu => by
                have hij : i < k - j := by
                  have := (List.getElem?_eq_some_iff.1 hu).1
                  rw [hl2'] at this
                  omega
                rw [Go.WideShapes.add_plain, show j + i = j + i by omega, HGC.out q h (j + i) (by omega), ← hu]
                simp [List.getD, show j + i < (rkL (rkB m zs) k).length by omega]
              have HN1 := Lib.hid hn1
              have HN2 := Lib.hid hn2
              have HL1 := Lib.hid hl1
              have HL2 := Lib.hid hl2'
              clear how1 hgc hlk hl1 hl2' hn1 hn2
              obtain ⟨hi, hz0, hz1, hz2⟩ := HI.out
              go_wp2_with (at_builtin; refine wpList_append_own _ rfl (.tmp 47) (.tmp 50) 25 rfl wo.heap.size 3 i0 (.int .i64 0) 1 8 Try.underlying25 hi hz0 hz1 hz2 rfl (by decide) _ _ _ rfl (HW1.out) ⟨g, 0, none⟩ (j) (cg) (((rkL (rkB m zs) k).take j).map (Value.int .i64)) rfl ?c0 ?c1 ?c2 ?c3 ?c4 ?c5 ?_)
              case c0 => first | exact HL1.out | (have h9 := HL1.out; simpa using h9)
              case c1 => first | exact HN1.out _ HBA.out | (have h9 := HN1.out _ H2.out; intro i u hu; have h8 := h9 i u (by simpa using hu); rw [Go.WideShapes.add_plain] at h8; simpa using h8)
              case c2 => intro u hu; first | (obtain ⟨q, -, rfl⟩ := List.mem_map.1 hu; rfl) | (obtain ⟨q, -, rfl⟩ := List.mem_map.1 (List.mem_of_mem_take hu); rfl) | (obtain ⟨q, -, rfl⟩ := List.mem_map.1 (List.mem_of_mem_drop hu); rfl) | (simp at hu; done)
              case c3 => unfold maxLen; omega
              case c4 => omega
              case c5 => have := H2.out.size; simp; omega
              intro v1 w3 hown1 hgrow1 hnn1
              have HB3 : Hid (Below wo.heap.size wo w3) := Lib.hid (HBA.out.grown hgrow1 HBA.out.size (fun q hq => (HW1.out.lt q hq).1))
              obtain ⟨va1, vc1, rfl⟩ := own_slice hown1
              have HO1 := Lib.hid hown1
              clear hown1 hgrow1 hnn1
              go_wp2_with (at_builtin; refine wpList_append_own _ rfl (.tmp 52) (.tmp 54) 25 rfl wo.heap.size 3 i0 (.int .i64 0) 1 8 Try.underlying25 hi hz0 hz1 hz2 rfl (by decide) _ _ _ rfl (HO1.out.alloc _) ⟨w3.heap.size, 0, none⟩ (1) (1) ([.int .i64 (k : Int)]) rfl ?c0 ?c1 ?c2 ?c3 ?c4 ?c5 ?_)
              case c0 => rfl
              case c1 => exact fun i u hj => by simpa using cell_one_new w3 (.int .i64 (k : Int)) 3 i u hj
              case c2 => simp [Value.oneCell']
              case c3 => unfold maxLen; omega
              case c4 => omega
              case c5 => have := HB3.out.size; simp; omega
              intro v2 w4 hown2 hgrow2 hnn2
              have HB4 : Hid (Below wo.heap.size wo w4) := Lib.hid ((HB3.out.alloc HB3.out.size _).grown hgrow2 (HB3.out.alloc HB3.out.size _).size (fun q hq => (HO1.out.lt q hq).1))
              obtain ⟨va2, vc2, rfl⟩ := own_slice hown2
              have HO2 := Lib.hid hown2
              clear hown2 hgrow2 hnn2
              go_wp2_with (at_builtin; refine wpList_append_own _ rfl (.tmp 56) (.tmp 59) 25 rfl wo.heap.size 3 i0 (.int .i64 0) 1 8 Try.underlying25 hi hz0 hz1 hz2 rfl (by decide) _ _ _ rfl (HO2.out) ⟨g, j, none⟩ (k - j) (cg - j) (((rkL (rkB m zs) k).drop j).map (Value.int .i64)) ?c6 ?c0 ?c1 ?c2 ?c3 ?c4 ?c5 ?_)
              case c6 => first | rfl | (simp; done) | (simp; omega)
              case c0 => first | exact HL2.out | (have h9 := HL2.out; simp at h9 ⊢; omega)
              case c1 => first | exact HN2.out _ HB4.out | (have h9 := HN2.out _ HB4.out; simpa using h9)
              case c2 => intro u hu; first | (obtain ⟨q, -, rfl⟩ := List.mem_map.1 hu; rfl) | (obtain ⟨q, -, rfl⟩ := List.mem_map.1 (List.mem_of_mem_take hu); rfl) | (obtain ⟨q, -, rfl⟩ := List.mem_map.1 (List.mem_of_mem_drop hu); rfl) | (simp at hu; done)
              case c3 => unfold maxLen; omega
              case c4 => omega
              case c5 => exact HB4.out.size
              intro v3 w5 hown3 hgrow3 hnn3
              have HB5 : Hid (Below wo.heap.size wo w5) := Lib.hid (HB4.out.grown hgrow3 HB4.out.size (fun q hq => (HO2.out.lt q hq).1))
              have hown3' : w5.ownsRow wo.heap.size 3 1 v3 (rkL (rkB m zs) (k + 1)).length ((rkL (rkB m zs) (k + 1)).map (Value.int .i64)) := by
                rw [← HIX.out, rkL_len]
                have e : j + 1 + (k - j) = k + 1 := by omega
                rw [e] at hown3
                first | exact hown3 | simpa using hown3
              have hnn : ¬ v3 = .slice none 0 0 := fun h => by
                have h1 := hown3'.2
                rcases h1 with ⟨-, h2⟩ | ⟨g', cap', cur, h2, -⟩
                · rw [rkL_len] at h2; omega
                · rw [h] at h2; cases h2
              have HS3 : Hid (OwnS w5 w.heap.size v3 (rkL (rkB m zs) (k + 1))) := Lib.hid ((OwnS.of hown3' hnn).lower hwo)
              have HX5 : Hid (Box w5 w.heap.size 34 #[.int .i64 N, .slice ad es.length cap] ∧ Box w5 (w.heap.size + 1) 36 #[.int .i64 m, .int .i64 a, .slice (some ⟨bz, off, none⟩) zs.length ct]) := Lib.hid ⟨HX.out.1.keep HB5.out, HX.out.2.keep HB5.out⟩
              clear hown3 hown3' hgrow3 hnn3 hnn hi hz0 hz1 hz2
              go_wp2
              go_roundw
              case rel => first | exact ⟨k + 1, by omega, by go_num, bel_trans HL.out HB5.out, HX5.out, HS3.out⟩ | ((repeat apply Exists.intro); exact ⟨⟨k + 1, by omega, by go_num, bel_trans HL.out HB5.out, HX5.out, HS3.out⟩, rfl⟩)
              case measure => simp [intOf]; omega
            · have hkj : k = j := by omega
              subst hkj
              have hkc0 : k = cg := hcne.symm
              subst hkc0
              clear hcne
              have hcj : k ≤ k := by omega
              have hkj' : (k : Int) ≤ k := by omega
              have hkc : k ≤ k := by omega
              have hg2 : g < w2.heap.size := Nat.lt_of_lt_of_le hg H2.out.size
              have how1 := own_empty w2 3 wo.heap.size H2.out.size
              have HW1 := Lib.hid how1
              have HBA : Hid (Below wo.heap.size wo (w2.alloc (.cells #[] 3))) := Lib.hid (H2.out.alloc H2.out.size _)
              have hgc : ∀ q, Below wo.heap.size wo q → ∀ i, i < k → q.cell? ⟨g, i, none⟩ = some (.int .i64 ((rkL (rkB m zs) k).getD i 0)) := fun q h i hi => (h.cell (p := ⟨g, i, none⟩) hg).trans (HC.out i hi)
              have HGC := Lib.hid hgc
              have hlk := HLEN.out
              have HIX : Hid ((((rkL (rkB m zs) k).take k).map (Value.int .i64) ++ [Value.int .i64 (k : Int)]) ++ ((rkL (rkB m zs) k).drop k).map (Value.int .i64) = (rkL (rkB m zs) (k + 1)).map (Value.int .i64)) := Lib.hid (by
                show _ = (insX (rkB m zs) (k : Int) (rkL (rkB m zs) k)).map _
                unfold insX
                rw [hlk, HST.out]
                simp)
              have hl1 : (((rkL (rkB m zs) k).take k).map (Value.int .i64)).length = k * 1 := by simp; omega
              have hl2' : (((rkL (rkB m zs) k).drop k).map (Value.int .i64)).length = (k - k) * 1 := by simp; omega
              have hn1 : ∀ q, Below wo.heap.size wo q → ∀ i u, (((rkL (rkB m zs) k).take k).map (Value.int .i64))[i]? = some u → q.cell? (Addr.add ⟨g, 0, none⟩ i) = some u := fun q h i u hu => by
                have hij : i < k := by
                  have := (List.getElem?_eq_some_iff.1 hu).1
                  rw [hl1] at this
                  omega
                rw [Go.WideShapes.add_plain, Nat.zero_add, HGC.out q h i (by omega), ← hu]
                simp [List.getD, hij, show i < (rkL (rkB m zs) k).length by omega]
              have hn2 : ∀ q, Below wo.heap.size wo q → ∀ i u, (((rkL (rkB m zs) k).drop k).map (Value.int .i64))[i]? = some u → q.cell? (Addr.add ⟨g, 0, none⟩ i) = some u := fun q h i u hu => by
                have hij : i < k - k := by
                  have := (List.getElem?_eq_some_iff.1 hu).1
                  rw [hl2'] at this
                  omega
                rw [Go.WideShapes.add_plain, show 0 + i = k + i by omega, HGC.out q h (k + i) (by omega), ← hu]
                simp [List.getD, show k + i < (rkL (rkB m zs) k).length by omega]
              have HN1 := Lib.hid hn1
              have HN2 := Lib.hid hn2
              have HL1 := Lib.hid hl1
              have HL2 := Lib.hid hl2'
              clear how1 hgc hlk hl1 hl2' hn1 hn2
              obtain ⟨hi, hz0, hz1, hz2⟩ := HI.out
              go_wp2_with (at_builtin; refine wpList_append_own _ rfl (.tmp 47) (.tmp 50) 25 rfl wo.heap.size 3 i0 (.int .i64 0) 1 8 Try.underlying25 hi hz0 hz1 hz2 rfl (by decide) _ _ _ rfl (HW1.out) ⟨g, 0, none⟩ (k) (k) (((rkL (rkB m zs) k).take k).map (Value.int .i64)) rfl ?c0 ?c1 ?c2 ?c3 ?c4 ?c5 ?_)
              case c0 => first | exact HL1.out | (have h9 := HL1.out; simpa using h9)
              case c1 => first | exact HN1.out _ HBA.out | (have h9 := HN1.out _ H2.out; intro i u hu; have h8 := h9 i u (by simpa using hu); rw [Go.WideShapes.add_plain] at h8; simpa using h8)
              case c2 => intro u hu; first | (obtain ⟨q, -, rfl⟩ := List.mem_map.1 hu; rfl) | (obtain ⟨q, -, rfl⟩ := List.mem_map.1 (List.mem_of_mem_take hu); rfl) | (obtain ⟨q, -, rfl⟩ := List.mem_map.1 (List.mem_of_mem_drop hu); rfl) | (simp at hu; done)
              case c3 => unfold maxLen; omega
              case c4 => omega
              case c5 => have := H2.out.size; simp; omega
              intro v1 w3 hown1 hgrow1 hnn1
              have HB3 : Hid (Below wo.heap.size wo w3) := Lib.hid (HBA.out.grown hgrow1 HBA.out.size (fun q hq => (HW1.out.lt q hq).1))
              obtain ⟨va1, vc1, rfl⟩ := own_slice hown1
              have HO1 := Lib.hid hown1
              clear hown1 hgrow1 hnn1
              go_wp2_with (at_builtin; refine wpList_append_own _ rfl (.tmp 52) (.tmp 54) 25 rfl wo.heap.size 3 i0 (.int .i64 0) 1 8 Try.underlying25 hi hz0 hz1 hz2 rfl (by decide) _ _ _ rfl (HO1.out.alloc _) ⟨w3.heap.size, 0, none⟩ (1) (1) ([.int .i64 (k : Int)]) rfl ?c0 ?c1 ?c2 ?c3 ?c4 ?c5 ?_)
              case c0 => rfl
              case c1 => exact fun i u hj => by simpa using cell_one_new w3 (.int .i64 (k : Int)) 3 i u hj
              case c2 => simp [Value.oneCell']
              case c3 => unfold maxLen; omega
              case c4 => omega
              case c5 => have := HB3.out.size; simp; omega
              intro v2 w4 hown2 hgrow2 hnn2
              have HB4 : Hid (Below wo.heap.size wo w4) := Lib.hid ((HB3.out.alloc HB3.out.size _).grown hgrow2 (HB3.out.alloc HB3.out.size _).size (fun q hq => (HO1.out.lt q hq).1))
              obtain ⟨va2, vc2, rfl⟩ := own_slice hown2
              have HO2 := Lib.hid hown2
              clear hown2 hgrow2 hnn2
              go_wp2_with (at_builtin; refine wpList_append_own _ rfl (.tmp 56) (.tmp 59) 25 rfl wo.heap.size 3 i0 (.int .i64 0) 1 8 Try.underlying25 hi hz0 hz1 hz2 rfl (by decide) _ _ _ rfl (HO2.out) ⟨g, 0, none⟩ (0) (0) (((rkL (rkB m zs) k).drop k).map (Value.int .i64)) ?c6 ?c0 ?c1 ?c2 ?c3 ?c4 ?c5 ?_)
              case c6 => first | rfl | (simp; done) | (simp; omega)
              case c0 => first | exact HL2.out | (have h9 := HL2.out; simp at h9 ⊢; omega)
              case c1 => first | exact HN2.out _ HB4.out | (have h9 := HN2.out _ HB4.out; simpa using h9)
              case c2 => intro u hu; first | (obtain ⟨q, -, rfl⟩ := List.mem_map.1 hu; rfl) | (obtain ⟨q, -, rfl⟩ := List.mem_map.1 (List.mem_of_mem_take hu); rfl) | (obtain ⟨q, -, rfl⟩ := List.mem_map.1 (List.mem_of_mem_drop hu); rfl) | (simp at hu; done)
              case c3 => unfold maxLen; omega
              case c4 => omega
              case c5 => exact HB4.out.size
              intro v3 w5 hown3 hgrow3 hnn3
              have HB5 : Hid (Below wo.heap.size wo w5) := Lib.hid (HB4.out.grown hgrow3 HB4.out.size (fun q hq => (HO2.out.lt q hq).1))
              have hown3' : w5.ownsRow wo.heap.size 3 1 v3 (rkL (rkB m zs) (k + 1)).length ((rkL (rkB m zs) (k + 1)).map (Value.int .i64)) := by
                rw [← HIX.out, rkL_len]
                have e : k + 1 + (0) = k + 1 := by omega
                rw [e] at hown3
                first | exact hown3 | simpa using hown3
              have hnn : ¬ v3 = .slice none 0 0 := fun h => by
                have h1 := hown3'.2
                rcases h1 with ⟨-, h2⟩ | ⟨g', cap', cur, h2, -⟩
                · rw [rkL_len] at h2; omega
                · rw [h] at h2; cases h2
              have HS3 : Hid (OwnS w5 w.heap.size v3 (rkL (rkB m zs) (k + 1))) := Lib.hid ((OwnS.of hown3' hnn).lower hwo)
              have HX5 : Hid (Box w5 w.heap.size 34 #[.int .i64 N, .slice ad es.length cap] ∧ Box w5 (w.heap.size + 1) 36 #[.int .i64 m, .int .i64 a, .slice (some ⟨bz, off, none⟩) zs.length ct]) := Lib.hid ⟨HX.out.1.keep HB5.out, HX.out.2.keep HB5.out⟩
              clear hown3 hown3' hgrow3 hnn3 hnn hi hz0 hz1 hz2
              go_wp2
              go_roundw
              case rel => first | exact ⟨k + 1, by omega, by go_num, bel_trans HL.out HB5.out, HX5.out, HS3.out⟩ | ((repeat apply Exists.intro); exact ⟨⟨k + 1, by omega, by go_num, bel_trans HL.out HB5.out, HX5.out, HS3.out⟩, rfl⟩)
              case measure => simp [intOf]; omega
          obtain ⟨p, rfl⟩ : ∃ p, j = p + 1 := ⟨j - 1, by omega⟩
          obtain ⟨y, hy⟩ : ∃ y, y = (rkL (rkB m zs) k).getD p 0 := ⟨_, rfl⟩
          have hym : 0 ≤ y ∧ y < k := rkL_mem (rkB m zs) k y (by rw [hy]; have := HLEN.out; simp [List.getD, show p < (rkL (rkB m zs) k).length by omega])
          obtain ⟨Y, rfl⟩ := Int.eq_ofNat_of_zero_le hym.1
          have hYz : Y < zs.length := by omega
          have hYz' : (Y : Int) < zs.length := by omega
          obtain ⟨z, hz⟩ : ∃ z, z = zs.getD Y 0 := ⟨_, rfl⟩
          have ff : ∀ w'', Below wr.heap.size wr w'' → w''.cell? ⟨w.heap.size + 1, 0, none⟩ = some (.int .i64 m) ∧ w''.cell? ⟨w.heap.size + 1, 2, none⟩ = some (.slice (some ⟨bz, off, none⟩) zs.length ct) ∧ w''.cell? ⟨bz, off + k, none⟩ = some (.int .i64 x) ∧ w''.cell? ⟨g, p, none⟩ = some (.int .i64 Y) ∧ w''.cell? ⟨bz, off + Y, none⟩ = some (.int .i64 z) := fun w'' h => by
            have hb := bel_trans HB2.out h
            have hbw := bel_trans HL.out hb
            exact ⟨by simpa using (HX.out.2.keep hb).cell 0, by simpa using (HX.out.2.keep hb).cell 2, (hbw.cell (p := ⟨bz, _, none⟩) HCZ.out.1).trans (by rw [HXX.out]; exact HCZ.out.2 k hkz), (hb.cell (p := ⟨g, _, none⟩) hg).trans (by rw [hy]; exact HC.out p (by omega)), (hbw.cell (p := ⟨bz, _, none⟩) HCZ.out.1).trans (by rw [hz]; exact HCZ.out.2 Y hYz)⟩
          have FF := Lib.hid ff
          have hsb : ∀ w', Calls Try.prog 41 #[.int .i64 m, .int .i64 x, .int .i64 z] w' fun e w'' => e = .returned (.bool (mBet m x z)) ∧ Below w'.heap.size w' w'' := fun w' => (sBet hm x z w').mono (by rintro e w'' ⟨h1, rfl⟩; exact ⟨h1, Below.refl _ _⟩)
          have hrb : rkB m zs (k : Int) ((rkL (rkB m zs) k).getD p 0) = mBet m x z := by rw [← hy]; unfold rkB; rw [Int.toNat_natCast, Int.toNat_natCast, ← HXX.out, ← hz]
          have hp0 : (0 : Int) < ((p + 1 : Nat) : Int) := by omega
          have hpk : p < k := by omega
          have hpk' : (p : Int) < k := by omega
          generalize mBet m x z = P at hsb hrb
          have HSB := Lib.hid hsb
          have HRB := Lib.hid hrb
          clear ff hsb hrb hy hz hj0 hym hYz
          cases P
          · have HST : Hid (plc (rkB m zs) (k : Int) (rkL (rkB m zs) k) k = p + 1) := Lib.hid (HPL.out.trans (plc_stop (.inr (by rw [Nat.add_sub_cancel]; exact HRB.out))))
            go_wp2_with fail
            refine wp_region_below (by kernel_rfl) (by kernel_rfl) ?_
            repeat (go_big_quiet_step ((intro hw; first | with_reducible rfl | (obtain ⟨f0, f1, f2, f3, f4⟩ := FF.out _ hw; simp only [f0, f1, f2, f3, f4, Result.andThen]; first | exact ⟨trivial, rfl⟩ | exact ⟨rfl, rfl⟩) | (go_at_call 41; exact quietB (HSB.out _) hw))))
            refine wpQuiet_nil ?_
            intro w2 hw2
            have H2 := Lib.hid (bel_trans HB2.out hw2)
            clear hw2
            have hpj := hj
            generalize hjp : p + 1 = j at hj HST ⊢
            clear hp0 hpk hpk' hjp hpj
            by_cases hcne : cg = j
            rotate_left
            · skip
              have hcj : j ≤ cg := by omega
              have hkj' : (j : Int) ≤ k := by omega
              have hkc : k ≤ cg := by omega
              have hg2 : g < w2.heap.size := Nat.lt_of_lt_of_le hg H2.out.size
              have how1 := own_empty w2 3 wo.heap.size H2.out.size
              have HW1 := Lib.hid how1
              have HBA : Hid (Below wo.heap.size wo (w2.alloc (.cells #[] 3))) := Lib.hid (H2.out.alloc H2.out.size _)
              have hgc : ∀ q, Below wo.heap.size wo q → ∀ i, i < k → q.cell? ⟨g, i, none⟩ = some (.int .i64 ((rkL (rkB m zs) k).getD i 0)) := fun q h i hi => (h.cell (p := ⟨g, i, none⟩) hg).trans (HC.out i hi)
              have HGC := Lib.hid hgc
              have hlk := HLEN.out
              have HIX : Hid ((((rkL (rkB m zs) k).take j).map (Value.int .i64) ++ [Value.int .i64 (k : Int)]) ++ ((rkL (rkB m zs) k).drop j).map (Value.int .i64) = (rkL (rkB m zs) (k + 1)).map (Value.int .i64)) := Lib.hid (by
                show _ = (insX (rkB m zs) (k : Int) (rkL (rkB m zs) k)).map _
                unfold insX
                rw [hlk, HST.out]
                simp)
              have hl1 : (((rkL (rkB m zs) k).take j).map (Value.int .i64)).length = j * 1 := by simp; omega
              have hl2' : (((rkL (rkB m zs) k).drop j).map (Value.int .i64)).length = (k - j) * 1 := by simp; omega
              have hn1 : ∀ q, Below wo.heap.size wo q → ∀ i u, (((rkL (rkB m zs) k).take j).map (Value.int .i64))[i]? = some u → q.cell? (Addr.add ⟨g, 0, none⟩ i) = some u := fun q h i u hu => by
                have hij : i < j := by
                  have := (List.getElem?_eq_some_iff.1 hu).1
                  rw [hl1] at this
                  omega
                rw [Go.WideShapes.add_plain, Nat.zero_add, HGC.out q h i (by omega), ← hu]
                simp [List.getD, hij, show i < (rkL (rkB m zs) k).length by omega]
              have hn2 : ∀ q, Below wo.heap.size wo q → ∀ i u, (((rkL (rkB m zs) k).drop j).map (Value.int .i64))[i]? = some u → q.cell? (Addr.add ⟨g, j, none⟩ i) = some u := fun q h i u hu => by
                have hij : i < k - j := by
                  have := (List.getElem?_eq_some_iff.1 hu).1
                  rw [hl2'] at this
                  omega
                rw [Go.WideShapes.add_plain, show j + i = j + i by omega, HGC.out q h (j + i) (by omega), ← hu]
                simp [List.getD, show j + i < (rkL (rkB m zs) k).length by omega]
              have HN1 := Lib.hid hn1
              have HN2 := Lib.hid hn2
              have HL1 := Lib.hid hl1
              have HL2 := Lib.hid hl2'
              clear how1 hgc hlk hl1 hl2' hn1 hn2
              obtain ⟨hi, hz0, hz1, hz2⟩ := HI.out
              go_wp2_with (at_builtin; refine wpList_append_own _ rfl (.tmp 47) (.tmp 50) 25 rfl wo.heap.size 3 i0 (.int .i64 0) 1 8 Try.underlying25 hi hz0 hz1 hz2 rfl (by decide) _ _ _ rfl (HW1.out) ⟨g, 0, none⟩ (j) (cg) (((rkL (rkB m zs) k).take j).map (Value.int .i64)) rfl ?c0 ?c1 ?c2 ?c3 ?c4 ?c5 ?_)
              case c0 => first | exact HL1.out | (have h9 := HL1.out; simpa using h9)
              case c1 => first | exact HN1.out _ HBA.out | (have h9 := HN1.out _ H2.out; intro i u hu; have h8 := h9 i u (by simpa using hu); rw [Go.WideShapes.add_plain] at h8; simpa using h8)
              case c2 => intro u hu; first | (obtain ⟨q, -, rfl⟩ := List.mem_map.1 hu; rfl) | (obtain ⟨q, -, rfl⟩ := List.mem_map.1 (List.mem_of_mem_take hu); rfl) | (obtain ⟨q, -, rfl⟩ := List.mem_map.1 (List.mem_of_mem_drop hu); rfl) | (simp at hu; done)
              case c3 => unfold maxLen; omega
              case c4 => omega
              case c5 => have := H2.out.size; simp; omega
              intro v1 w3 hown1 hgrow1 hnn1
              have HB3 : Hid (Below wo.heap.size wo w3) := Lib.hid (HBA.out.grown hgrow1 HBA.out.size (fun q hq => (HW1.out.lt q hq).1))
              obtain ⟨va1, vc1, rfl⟩ := own_slice hown1
              have HO1 := Lib.hid hown1
              clear hown1 hgrow1 hnn1
              go_wp2_with (at_builtin; refine wpList_append_own _ rfl (.tmp 52) (.tmp 54) 25 rfl wo.heap.size 3 i0 (.int .i64 0) 1 8 Try.underlying25 hi hz0 hz1 hz2 rfl (by decide) _ _ _ rfl (HO1.out.alloc _) ⟨w3.heap.size, 0, none⟩ (1) (1) ([.int .i64 (k : Int)]) rfl ?c0 ?c1 ?c2 ?c3 ?c4 ?c5 ?_)
              case c0 => rfl
              case c1 => exact fun i u hj => by simpa using cell_one_new w3 (.int .i64 (k : Int)) 3 i u hj
              case c2 => simp [Value.oneCell']
              case c3 => unfold maxLen; omega
              case c4 => omega
              case c5 => have := HB3.out.size; simp; omega
              intro v2 w4 hown2 hgrow2 hnn2
              have HB4 : Hid (Below wo.heap.size wo w4) := Lib.hid ((HB3.out.alloc HB3.out.size _).grown hgrow2 (HB3.out.alloc HB3.out.size _).size (fun q hq => (HO1.out.lt q hq).1))
              obtain ⟨va2, vc2, rfl⟩ := own_slice hown2
              have HO2 := Lib.hid hown2
              clear hown2 hgrow2 hnn2
              go_wp2_with (at_builtin; refine wpList_append_own _ rfl (.tmp 56) (.tmp 59) 25 rfl wo.heap.size 3 i0 (.int .i64 0) 1 8 Try.underlying25 hi hz0 hz1 hz2 rfl (by decide) _ _ _ rfl (HO2.out) ⟨g, j, none⟩ (k - j) (cg - j) (((rkL (rkB m zs) k).drop j).map (Value.int .i64)) ?c6 ?c0 ?c1 ?c2 ?c3 ?c4 ?c5 ?_)
              case c6 => first | rfl | (simp; done) | (simp; omega)
              case c0 => first | exact HL2.out | (have h9 := HL2.out; simp at h9 ⊢; omega)
              case c1 => first | exact HN2.out _ HB4.out | (have h9 := HN2.out _ HB4.out; simpa using h9)
              case c2 => intro u hu; first | (obtain ⟨q, -, rfl⟩ := List.mem_map.1 hu; rfl) | (obtain ⟨q, -, rfl⟩ := List.mem_map.1 (List.mem_of_mem_take hu); rfl) | (obtain ⟨q, -, rfl⟩ := List.mem_map.1 (List.mem_of_mem_drop hu); rfl) | (simp at hu; done)
              case c3 => unfold maxLen; omega
              case c4 => omega
              case c5 => exact HB4.out.size
              intro v3 w5 hown3 hgrow3 hnn3
              have HB5 : Hid (Below wo.heap.size wo w5) := Lib.hid (HB4.out.grown hgrow3 HB4.out.size (fun q hq => (HO2.out.lt q hq).1))
              have hown3' : w5.ownsRow wo.heap.size 3 1 v3 (rkL (rkB m zs) (k + 1)).length ((rkL (rkB m zs) (k + 1)).map (Value.int .i64)) := by
                rw [← HIX.out, rkL_len]
                have e : j + 1 + (k - j) = k + 1 := by omega
                rw [e] at hown3
                first | exact hown3 | simpa using hown3
              have hnn : ¬ v3 = .slice none 0 0 := fun h => by
                have h1 := hown3'.2
                rcases h1 with ⟨-, h2⟩ | ⟨g', cap', cur, h2, -⟩
                · rw [rkL_len] at h2; omega
                · rw [h] at h2; cases h2
              have HS3 : Hid (OwnS w5 w.heap.size v3 (rkL (rkB m zs) (k + 1))) := Lib.hid ((OwnS.of hown3' hnn).lower hwo)
              have HX5 : Hid (Box w5 w.heap.size 34 #[.int .i64 N, .slice ad es.length cap] ∧ Box w5 (w.heap.size + 1) 36 #[.int .i64 m, .int .i64 a, .slice (some ⟨bz, off, none⟩) zs.length ct]) := Lib.hid ⟨HX.out.1.keep HB5.out, HX.out.2.keep HB5.out⟩
              clear hown3 hown3' hgrow3 hnn3 hnn hi hz0 hz1 hz2
              go_wp2
              go_roundw
              case rel => first | exact ⟨k + 1, by omega, by go_num, bel_trans HL.out HB5.out, HX5.out, HS3.out⟩ | ((repeat apply Exists.intro); exact ⟨⟨k + 1, by omega, by go_num, bel_trans HL.out HB5.out, HX5.out, HS3.out⟩, rfl⟩)
              case measure => simp [intOf]; omega
            · have hkj : k = j := by omega
              subst hkj
              have hkc0 : k = cg := hcne.symm
              subst hkc0
              clear hcne
              have hcj : k ≤ k := by omega
              have hkj' : (k : Int) ≤ k := by omega
              have hkc : k ≤ k := by omega
              have hg2 : g < w2.heap.size := Nat.lt_of_lt_of_le hg H2.out.size
              have how1 := own_empty w2 3 wo.heap.size H2.out.size
              have HW1 := Lib.hid how1
              have HBA : Hid (Below wo.heap.size wo (w2.alloc (.cells #[] 3))) := Lib.hid (H2.out.alloc H2.out.size _)
              have hgc : ∀ q, Below wo.heap.size wo q → ∀ i, i < k → q.cell? ⟨g, i, none⟩ = some (.int .i64 ((rkL (rkB m zs) k).getD i 0)) := fun q h i hi => (h.cell (p := ⟨g, i, none⟩) hg).trans (HC.out i hi)
              have HGC := Lib.hid hgc
              have hlk := HLEN.out
              have HIX : Hid ((((rkL (rkB m zs) k).take k).map (Value.int .i64) ++ [Value.int .i64 (k : Int)]) ++ ((rkL (rkB m zs) k).drop k).map (Value.int .i64) = (rkL (rkB m zs) (k + 1)).map (Value.int .i64)) := Lib.hid (by
                show _ = (insX (rkB m zs) (k : Int) (rkL (rkB m zs) k)).map _
                unfold insX
                rw [hlk, HST.out]
                simp)
              have hl1 : (((rkL (rkB m zs) k).take k).map (Value.int .i64)).length = k * 1 := by simp; omega
              have hl2' : (((rkL (rkB m zs) k).drop k).map (Value.int .i64)).length = (k - k) * 1 := by simp; omega
              have hn1 : ∀ q, Below wo.heap.size wo q → ∀ i u, (((rkL (rkB m zs) k).take k).map (Value.int .i64))[i]? = some u → q.cell? (Addr.add ⟨g, 0, none⟩ i) = some u := fun q h i u hu => by
                have hij : i < k := by
                  have := (List.getElem?_eq_some_iff.1 hu).1
                  rw [hl1] at this
                  omega
                rw [Go.WideShapes.add_plain, Nat.zero_add, HGC.out q h i (by omega), ← hu]
                simp [List.getD, hij, show i < (rkL (rkB m zs) k).length by omega]
              have hn2 : ∀ q, Below wo.heap.size wo q → ∀ i u, (((rkL (rkB m zs) k).drop k).map (Value.int .i64))[i]? = some u → q.cell? (Addr.add ⟨g, 0, none⟩ i) = some u := fun q h i u hu => by
                have hij : i < k - k := by
                  have := (List.getElem?_eq_some_iff.1 hu).1
                  rw [hl2'] at this
                  omega
                rw [Go.WideShapes.add_plain, show 0 + i = k + i by omega, HGC.out q h (k + i) (by omega), ← hu]
                simp [List.getD, show k + i < (rkL (rkB m zs) k).length by omega]
              have HN1 := Lib.hid hn1
              have HN2 := Lib.hid hn2
              have HL1 := Lib.hid hl1
              have HL2 := Lib.hid hl2'
              clear how1 hgc hlk hl1 hl2' hn1 hn2
              obtain ⟨hi, hz0, hz1, hz2⟩ := HI.out
              go_wp2_with (at_builtin; refine wpList_append_own _ rfl (.tmp 47) (.tmp 50) 25 rfl wo.heap.size 3 i0 (.int .i64 0) 1 8 Try.underlying25 hi hz0 hz1 hz2 rfl (by decide) _ _ _ rfl (HW1.out) ⟨g, 0, none⟩ (k) (k) (((rkL (rkB m zs) k).take k).map (Value.int .i64)) rfl ?c0 ?c1 ?c2 ?c3 ?c4 ?c5 ?_)
              case c0 => first | exact HL1.out | (have h9 := HL1.out; simpa using h9)
              case c1 => first | exact HN1.out _ HBA.out | (have h9 := HN1.out _ H2.out; intro i u hu; have h8 := h9 i u (by simpa using hu); rw [Go.WideShapes.add_plain] at h8; simpa using h8)
              case c2 => intro u hu; first | (obtain ⟨q, -, rfl⟩ := List.mem_map.1 hu; rfl) | (obtain ⟨q, -, rfl⟩ := List.mem_map.1 (List.mem_of_mem_take hu); rfl) | (obtain ⟨q, -, rfl⟩ := List.mem_map.1 (List.mem_of_mem_drop hu); rfl) | (simp at hu; done)
              case c3 => unfold maxLen; omega
              case c4 => omega
              case c5 => have := H2.out.size; simp; omega
              intro v1 w3 hown1 hgrow1 hnn1
              have HB3 : Hid (Below wo.heap.size wo w3) := Lib.hid (HBA.out.grown hgrow1 HBA.out.size (fun q hq => (HW1.out.lt q hq).1))
              obtain ⟨va1, vc1, rfl⟩ := own_slice hown1
              have HO1 := Lib.hid hown1
              clear hown1 hgrow1 hnn1
              go_wp2_with (at_builtin; refine wpList_append_own _ rfl (.tmp 52) (.tmp 54) 25 rfl wo.heap.size 3 i0 (.int .i64 0) 1 8 Try.underlying25 hi hz0 hz1 hz2 rfl (by decide) _ _ _ rfl (HO1.out.alloc _) ⟨w3.heap.size, 0, none⟩ (1) (1) ([.int .i64 (k : Int)]) rfl ?c0 ?c1 ?c2 ?c3 ?c4 ?c5 ?_)
              case c0 => rfl
              case c1 => exact fun i u hj => by simpa using cell_one_new w3 (.int .i64 (k : Int)) 3 i u hj
              case c2 => simp [Value.oneCell']
              case c3 => unfold maxLen; omega
              case c4 => omega
              case c5 => have := HB3.out.size; simp; omega
              intro v2 w4 hown2 hgrow2 hnn2
              have HB4 : Hid (Below wo.heap.size wo w4) := Lib.hid ((HB3.out.alloc HB3.out.size _).grown hgrow2 (HB3.out.alloc HB3.out.size _).size (fun q hq => (HO1.out.lt q hq).1))
              obtain ⟨va2, vc2, rfl⟩ := own_slice hown2
              have HO2 := Lib.hid hown2
              clear hown2 hgrow2 hnn2
              go_wp2_with (at_builtin; refine wpList_append_own _ rfl (.tmp 56) (.tmp 59) 25 rfl wo.heap.size 3 i0 (.int .i64 0) 1 8 Try.underlying25 hi hz0 hz1 hz2 rfl (by decide) _ _ _ rfl (HO2.out) ⟨g, 0, none⟩ (0) (0) (((rkL (rkB m zs) k).drop k).map (Value.int .i64)) ?c6 ?c0 ?c1 ?c2 ?c3 ?c4 ?c5 ?_)
              case c6 => first | rfl | (simp; done) | (simp; omega)
              case c0 => first | exact HL2.out | (have h9 := HL2.out; simp at h9 ⊢; omega)
              case c1 => first | exact HN2.out _ HB4.out | (have h9 := HN2.out _ HB4.out; simpa using h9)
              case c2 => intro u hu; first | (obtain ⟨q, -, rfl⟩ := List.mem_map.1 hu; rfl) | (obtain ⟨q, -, rfl⟩ := List.mem_map.1 (List.mem_of_mem_take hu); rfl) | (obtain ⟨q, -, rfl⟩ := List.mem_map.1 (List.mem_of_mem_drop hu); rfl) | (simp at hu; done)
              case c3 => unfold maxLen; omega
              case c4 => omega
              case c5 => exact HB4.out.size
              intro v3 w5 hown3 hgrow3 hnn3
              have HB5 : Hid (Below wo.heap.size wo w5) := Lib.hid (HB4.out.grown hgrow3 HB4.out.size (fun q hq => (HO2.out.lt q hq).1))
              have hown3' : w5.ownsRow wo.heap.size 3 1 v3 (rkL (rkB m zs) (k + 1)).length ((rkL (rkB m zs) (k + 1)).map (Value.int .i64)) := by
                rw [← HIX.out, rkL_len]
                have e : k + 1 + (0) = k + 1 := by omega
                rw [e] at hown3
                first | exact hown3 | simpa using hown3
              have hnn : ¬ v3 = .slice none 0 0 := fun h => by
                have h1 := hown3'.2
                rcases h1 with ⟨-, h2⟩ | ⟨g', cap', cur, h2, -⟩
                · rw [rkL_len] at h2; omega
                · rw [h] at h2; cases h2
              have HS3 : Hid (OwnS w5 w.heap.size v3 (rkL (rkB m zs) (k + 1))) := Lib.hid ((OwnS.of hown3' hnn).lower hwo)
              have HX5 : Hid (Box w5 w.heap.size 34 #[.int .i64 N, .slice ad es.length cap] ∧ Box w5 (w.heap.size + 1) 36 #[.int .i64 m, .int .i64 a, .slice (some ⟨bz, off, none⟩) zs.length ct]) := Lib.hid ⟨HX.out.1.keep HB5.out, HX.out.2.keep HB5.out⟩
              clear hown3 hown3' hgrow3 hnn3 hnn hi hz0 hz1 hz2
              go_wp2
              go_roundw
              case rel => first | exact ⟨k + 1, by omega, by go_num, bel_trans HL.out HB5.out, HX5.out, HS3.out⟩ | ((repeat apply Exists.intro); exact ⟨⟨k + 1, by omega, by go_num, bel_trans HL.out HB5.out, HX5.out, HS3.out⟩, rfl⟩)
              case measure => simp [intOf]; omega
          · have HNX : Hid (plc (rkB m zs) (k : Int) (rkL (rkB m zs) k) k = plc (rkB m zs) (k : Int) (rkL (rkB m zs) k) p) := Lib.hid (HPL.out.trans (plc_go HRB.out))
            go_wp2_with fail
            refine wp_region_below (by kernel_rfl) (by kernel_rfl) ?_
            repeat (go_big_quiet_step ((intro hw; first | with_reducible rfl | (obtain ⟨f0, f1, f2, f3, f4⟩ := FF.out _ hw; simp only [f0, f1, f2, f3, f4, Result.andThen]; first | exact ⟨trivial, rfl⟩ | exact ⟨rfl, rfl⟩) | (go_at_call 41; exact quietB (HSB.out _) hw))))
            refine wpQuiet_nil ?_
            intro w2 hw2
            have H2 := Lib.hid (bel_trans HB2.out hw2)
            clear hw2
            go_wp2
            go_roundw
            case rel => first | exact ⟨p, by omega, by go_num, H2.out, HNX.out⟩ | ((repeat apply Exists.intro); exact ⟨⟨p, by omega, by go_num, H2.out, HNX.out⟩, rfl⟩)
            case measure => simp [intOf]
      · have hke : k = N := by omega
        have hkk : ¬ ((k : Int) < N) := by omega
        subst hke
        go_wp2
        go_ret2
        exact ⟨_, rfl, OwnI.of (by have := HO.out; rw [HLEN.out] at this; rw [HLEN.out]; exact this) (Nat.le_refl _), hbel⟩
end Go.Proofs.Ytneapbggnnndhaa
