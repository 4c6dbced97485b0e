/- CriticalEdges of the program. -/
import Derived.Test.YtbinpaaihdcnlaaDerG
import Derived.Laws.StructEq
namespace Go.Proofs.Ytbinpaaihdcnlaa
open Go.RowKit Go.BigFrame Go.Deep
set_option linter.unusedVariables false
set_option linter.unusedSimpArgs false
set_option linter.unnecessarySimpa false

/-- Another edge. -/
def deP (e d : Ed) : Bool := !(d.1 == e.1 && (d.2.1 == e.2.1 && d.2.2 == e.2.2))
theorem same_ends {n : Int} {es : List Ed} (h : gVal n es = true) {d e : Ed} (hd : d ∈ es) (he : e ∈ es) (h1 : d.1 = e.1) (h2 : d.2.1 = e.2.1) : d = e := by
  have hp := (gVal_iff.1 h).2.2
  rw [List.pairwise_iff_getElem] at hp
  obtain ⟨i, hi, rfl⟩ := List.getElem_of_mem hd
  obtain ⟨j, hj, rfl⟩ := List.getElem_of_mem he
  rcases Nat.lt_trichotomy i j with hij | hij | hij
  · have := hp i j hi hj hij
    unfold EdLt at this
    omega
  · subst hij; rfl
  · have := hp j i hj hi hij
    unfold EdLt at this
    omega
theorem filter_de {n : Int} {es : List Ed} (h : gVal n es = true) {e : Ed} (he : e ∈ es) : es.filter (deP e) = cutL es e.1 e.2.1 := by
  unfold cutL
  apply List.filter_congr
  intro d hd
  unfold deP
  congr 1
  by_cases h1 : d.1 = e.1 ∧ d.2.1 = e.2.1
  · have := same_ends h hd he h1.1 h1.2
    subst this
    simp [eBe]
  · rw [show eBe e.1 e.2.1 d = false by simpa [eBe] using fun q => fun r => h1 ⟨q, r⟩]
    by_cases h2 : d.1 = e.1
    · have h3 : ¬ d.2.1 = e.2.1 := fun q => h1 ⟨h2, q⟩
      simp [h2, h3]
    · simp [h2]
def ceP (m : Int) (es : List Ed) (N A : Nat) (e : Ed) : Bool := !(iSame (vIter m (cutL es e.1 e.2.1) N (vStart m N A)) (vIter m es N (vStart m N A)))
def ceR (n : Int) (es : List Ed) (m a : Int) : List Ed := if onOk n es m [a] = true then es.filter (ceP m es n.toNat a.toNat) else []
theorem ceR_len (n : Int) (es : List Ed) (m a : Int) : (ceR n es m a).length ≤ 40 := by
  unfold ceR
  split
  · rename_i h
    exact Nat.le_trans (filter_lenE _ _) (gVal_iff.1 (onOk_parts h).1).1.2.2
  · simp

theorem run_neqE (x y z x' y' z' : Int) (w : World) : (binOp .neq 71 (.agg #[.int .i64 x, .int .i64 y, .int .i64 z]) (.agg #[.int .i64 x', .int .i64 y', .int .i64 z'])).run Try.prog w = .ok (.bool (deP (x', y', z') (x, y, z))) w := by
  have u3 := Try.underlying3
  have a3 := Try.isAgg3
  have z3 := Try.sizeOf3
  have hS : Try.prog.underlying 71 = some (.struct (Try.prog.fieldsOf 71)) := by kernel_rfl
  have hp : Try.prog.stoodInHeld 71 = false := by kernel_rfl
  rw [run_neq_struct, show (10000 : Nat) = 9999 + 1 from rfl, run_equalIn_agg w 9999 71 _ _ hS hp]
  simp only [Program.fieldsOf, Try.underlying71]
  go_simp
  unfold deP
  by_cases h1 : x = x' <;> by_cases h2 : y = y' <;> by_cases h3 : z = z' <;> simp [h1, h2, h3]
theorem run_fieldG (x : Int) (a : Option Addr) (n c : Nat) (w : World) : (Instr.field 25 (.agg #[.int .i64 x, .slice a n c]) 1).run Try.prog w = .ok (.slice a n c) w := by kernel_rfl

/-- The function that leaves an edge out. -/
theorem keeps_de (es : List Ed) (x y z : Int) (B : Nat) (W : World) (hb : Box W B 71 #[.int .i64 x, .int .i64 y, .int .i64 z]) :
    KeepsE 87 #[.pointer (some ⟨B, 0, none⟩)] (deP (x, y, z)) es W := by
  intro w' p q r hw hm
  have hx := hb.keep hw
  have hE := Box.new w' 71 #[.int .i64 p, .int .i64 q, .int .i64 r]
  have hx2 := hx.alloc (.cells #[.int .i64 p, .int .i64 q, .int .i64 r] 71)
  have c0 : (w'.alloc (.cells #[.int .i64 p, .int .i64 q, .int .i64 r] 71)).cell? ⟨B, 0, none⟩ = some (.int .i64 x) := by simpa using hx2.cell 0
  have c1 : (w'.alloc (.cells #[.int .i64 p, .int .i64 q, .int .i64 r] 71)).cell? ⟨B, 1, none⟩ = some (.int .i64 y) := by simpa using hx2.cell 1
  have c2 : (w'.alloc (.cells #[.int .i64 p, .int .i64 q, .int .i64 r] 71)).cell? ⟨B, 2, none⟩ = some (.int .i64 z) := by simpa using hx2.cell 2
  have hne := run_neqE p q r x y z
  have hgd : Try.prog.eqGuardType Try.prog.depth 71 = false := by kernel_rfl
  generalize deP (x, y, z) (p, q, r) = P at hne ⊢
  have hb0 : Below w'.heap.size w' (w'.alloc (.cells #[.int .i64 p, .int .i64 q, .int .i64 r] 71)) := (Below.refl _ _).alloc (Nat.le_refl _) _
  have HB0 := Lib.hid hb0
  clear hx hE hx2 hb0 hm hb hw
  show Calls _ _ #[.agg #[.int .i64 p, .int .i64 q, .int .i64 r], .pointer (some ⟨B, 0, none⟩)] _ _
  go_enter Try.func87, Try.ntmps87
  go_wp2
  go_ret
  exact ⟨rfl, HB0.out⟩

set_option maxHeartbeats 4000000 in
theorem keeps_critical (m : Int) (es : List Ed) (N A : Nat) (s t : Value) (B1 B2 B3 B4 : Nat) (W : World) (hm : mKind m = true) (h1 : W.cell? ⟨B1, 0, none⟩ = some (.int .i64 N)) (h1' : W.cell? ⟨B1, 1, none⟩ = some s) (l1 : B1 < W.heap.size) (h2 : W.cell? ⟨B2, 0, none⟩ = some (opsV m)) (l2 : B2 < W.heap.size) (h3 : W.cell? ⟨B3, 0, none⟩ = some (.int .i64 A)) (l3 : B3 < W.heap.size) (h4 : W.cell? ⟨B4, 0, none⟩ = some t) (l4 : B4 < W.heap.size) (hs : RowE W s es) (ht : Row W t (vIter m es N (vStart m N A))) (hg : gVal N es = true) (hA : A < N) :
    KeepsE 85 #[.pointer (some ⟨B1, 0, none⟩), .pointer (some ⟨B2, 0, none⟩), .pointer (some ⟨B3, 0, none⟩), .pointer (some ⟨B4, 0, none⟩)] (ceP m es N A) es W := by
  intro w' x y z hb hmem
  obtain ⟨T, rv, fn, fe, fb, fo, fj, rn, re, rb, ro, rj, D⟩ := disp hm
  have hval := D.val
  rw [hval] at h2
  have hn := gVal_n hg
  have h40 := (gVal_parts hg).2.2.1
  obtain ⟨ad, cap, rfl, hz0⟩ := id hs
  obtain ⟨at0, ct, rfl, hz1⟩ := id ht
  have hmf : ∀ (fn : Fn) (first cap : Array Value) (w : World), (Instr.makeFunc fn first cap).run Try.prog w = .ok (.func fn first cap) w := fun _ _ _ _ => rfl
  have ff : ∀ w'', Below w'.heap.size w' w'' → w''.cell? ⟨B1, 0, none⟩ = some (.int .i64 N) ∧ w''.cell? ⟨B1, 1, none⟩ = some (.slice ad es.length cap) ∧ w''.cell? ⟨B2, 0, none⟩ = some (.iface T rv) ∧ w''.cell? ⟨B3, 0, none⟩ = some (.int .i64 A) ∧ w''.cell? ⟨B4, 0, none⟩ = some (.slice at0 (vIter m es N (vStart m N A)).length ct) := fun w'' h =>
    ⟨((bel_trans hb h).cell (p := ⟨B1, _, none⟩) l1).trans h1, ((bel_trans hb h).cell (p := ⟨B1, _, none⟩) l1).trans h1', ((bel_trans hb h).cell (p := ⟨B2, _, none⟩) l2).trans h2, ((bel_trans hb h).cell (p := ⟨B3, _, none⟩) l3).trans h3, ((bel_trans hb h).cell (p := ⟨B4, _, none⟩) l4).trans h4⟩
  have hb0 : Below w'.heap.size w' (w'.alloc (.cells #[.int .i64 x, .int .i64 y, .int .i64 z] 71)) := (Below.refl _ _).alloc (Nat.le_refl _) _
  have heg : ∀ args w, (callFunc 87 args).run Try.prog w = .ok (.enter 87 args) w := enters_of Try.func87 (by kernel_rfl) rfl
  have hew := edgesWhere N es _ _ _ (deP (x, y, z)) _ heg (keeps_de es x y z w'.heap.size _ (Box.new w' 71 #[.int .i64 x, .int .i64 y, .int .i64 z])) (hs.keep (bel_trans hb hb0)) (by omega)
  rw [filter_de hg hmem] at hew
  unfold ceP
  have hec : eAll N (cutL es x y) := by have := eAll_of (gVal_filter (fun e => !(eBe x y e)) hg); rwa [Int.toNat_natCast] at this
  have hlc : (cutL es x y).length ≤ 1048576 := Nat.le_trans (cutL_len _ _ _) (by omega)
  have hrv := fun (v : Value) w'' (h : RowE w'' v (cutL es x y)) => rightValues m (cutL es x y) N A v w'' hm h hlc hA (by omega) hec
  have hl0 : (vIter m (cutL es x y) N (vStart m N A)).length ≤ 281474976710656 := by rw [vIter_length, vStart_length]; omega
  have hl1 : (vIter m es N (vStart m N A)).length ≤ 281474976710656 := by rw [vIter_length, vStart_length]; omega
  have hie := fun (u : Value) w'' (h : Below w'.heap.size w' w'') (hu : Row w'' u (vIter m (cutL es x y) N (vStart m N A))) => intsEqual _ _ u _ w'' hu (ht.keep (bel_trans hb h)) hl0 hl1
  rw [hval] at hrv
  show Calls _ _ #[.agg #[.int .i64 x, .int .i64 y, .int .i64 z], .pointer (some ⟨B1, 0, none⟩), .pointer (some ⟨B2, 0, none⟩), .pointer (some ⟨B3, 0, none⟩), .pointer (some ⟨B4, 0, none⟩)] _ _
  simp only at hew
  generalize cutL es x y = L at hew hrv hie ⊢
  generalize vIter m L N (vStart m N A) = Y at hrv hie ⊢
  generalize vIter m es N (vStart m N A) = R at ff hie ⊢
  generalize iSame Y R = P at hie ⊢
  have FF := Lib.hid ff
  have HEW := Lib.hid hew
  have HRV := Lib.hid hrv
  have HIE := Lib.hid hie
  have HB0 := Lib.hid hb0
  obtain ⟨j0, j1, j2, j3, j4⟩ := ff _ hb0
  clear D hval h1 h1' h2 h3 h4 ff hew hrv hie hz0 hz1 hb hs ht hg hmem hec hlc hl0 hl1 heg hb0
  go_enter Try.func85, Try.ntmps85
  go_wp2_with (first | (go_at_call 86; (with_reducible refine (HEW.out).mono ?_); rintro e w1 ⟨v, rfl, hown, hokv, hb1⟩; obtain ⟨va, vc, rfl, hvz⟩ := id hown; clear hvz; have HO := Lib.hid (OwnE.rowD hown); have HB1 := Lib.hid (bel_trans HB0.out hb1); have HA1 : Hid (Below w1.heap.size w1 (w1.alloc (.cells #[.int .i64 N, .slice va L.length vc] 25))) := Lib.hid ((Below.refl _ _).alloc (Nat.le_refl _) _); clear hown hokv hb1 j0 j1 j2 j3 j4; obtain ⟨j0, j1, j2, j3, j4⟩ := FF.out _ (bel_trans HB1.out HA1.out)) | (go_at_call 70; (with_reducible refine (HRV.out _ _ (HO.out.keep HA1.out)).mono ?_); rintro e w2 ⟨u, r, rfl, hown2, hok2, hrr, hb2⟩; obtain ⟨ua, uc, rfl⟩ := hown2.slice; have HU := Lib.hid (InR.rowI hown2); have HB2 := Lib.hid (bel_trans (bel_trans HB1.out HA1.out) hb2); clear hown2 hok2 hrr hb2 j0 j1 j2 j3 j4; obtain ⟨j0, j1, j2, j3, j4⟩ := FF.out _ HB2.out) | (go_at_call 75; (with_reducible refine (HIE.out _ _ HB2.out HU.out).mono ?_); rintro e w3 ⟨rfl, hb3⟩; have HB3 := Lib.hid (bel_trans HB2.out hb3); clear hb3))
  go_ret
  exact ⟨rfl, HB3.out⟩

set_option maxHeartbeats 4000000 in
theorem criticalEdges (n m a : Int) (es : List Ed) (s : Value) (w : World) (hs : RowE w s es) (hl : es.length ≤ 281474976710656) :
    Calls Try.prog 41 #[.agg #[.int .i64 n, s], .int .i64 m, .int .i64 a] w fun e w' => ∃ v, e = .returned (.tuple #[v, .bool (onOk n es m [a])]) ∧ OwnE w w' v (ceR n es m a) ∧ Below w.heap.size w w' := by
  obtain ⟨ad, cap, rfl, hz0⟩ := id hs
  clear hz0
  have hmf : ∀ (fn : Fn) (first cap : Array Value) (w : World), (Instr.makeFunc fn first cap).run Try.prog w = .ok (.func fn first cap) w := fun _ _ _ _ => rfl
  have hfg := run_fieldG
  obtain ⟨W, hW⟩ : ∃ W, W = ((w.alloc (.cells #[.int .i64 n, .slice ad es.length cap] 25)).alloc (.cells #[.int .i64 a] 3)) := ⟨_, rfl⟩
  have hbW : Below w.heap.size w W := by rw [hW]; exact ((Below.refl _ _).alloc (Nat.le_refl _) _).alloc (by simp) _
  have hsz : W.heap.size = w.heap.size + 2 := by rw [hW]; simp
  have hres : ∀ w', Below W.heap.size W w' → w'.cell? ⟨w.heap.size, 0, none⟩ = some (.int .i64 n) ∧ w'.cell? ⟨w.heap.size, 1, none⟩ = some (.slice ad es.length cap) ∧ w'.cell? ⟨w.heap.size + 1, 0, none⟩ = some (.int .i64 a) := fun w' h =>
    ⟨(h.cell (p := ⟨w.heap.size, 0, none⟩) (by simp only; omega)).trans (by rw [hW]; go_simp), (h.cell (p := ⟨w.heap.size, 1, none⟩) (by simp only; omega)).trans (by rw [hW]; go_simp), (h.cell (p := ⟨w.heap.size + 1, 0, none⟩) (by simp only; omega)).trans (by rw [hW]; go_simp)⟩
  have har : Below W.heap.size W (W.alloc (.cells #[.int .i64 a] 3)) := (Below.refl _ _).alloc (Nat.le_refl _) _
  have hon := opsOn n m es [a] _ _ _ (hs.keep (bel_trans hbW har)) (row_one W a _) hl (by simp)
  rw [show W.heap.size = w.heap.size + 1 + 1 from hsz] at hon
  have AR := Lib.hid har
  have HRES := Lib.hid hres
  have HBW := Lib.hid hbW
  have HSZ := Lib.hid hsz
  have HWE := Lib.hid hW
  have HS := Lib.hid hs
  clear hres hbW hsz hs har
  unfold ceR
  obtain ⟨Gv, hG⟩ : ∃ G, G = onOk n es m [a] := ⟨_, rfl⟩
  rw [← hG] at hon ⊢
  cases Gv
  · rw [if_neg (by decide)]
    rw [show opsR m false = .nilIface from rfl] at hon
    have HON := Lib.hid hon
    clear hon hG
    go_enter Try.func41, Try.ntmps41
    go_wp2_with fail
    rw [← hW]
    clear hW
    obtain ⟨j0, j1, j2⟩ := HRES.out _ (Below.refl _ _)
    go_wp2_with (go_at_call 62; refine HON.out.mono ?_; rintro e w1 ⟨rfl, hb1⟩; have HB1 := Lib.hid (bel_trans AR.out hb1); clear hb1; have HOX := Lib.hid (Box.new w1 79 #[.nilIface]); have AL : Hid (Below w1.heap.size w1 (w1.alloc (.cells #[.nilIface] 79))) := Lib.hid ((Below.refl _ _).alloc (Nat.le_refl _) _); clear j0 j1 j2; obtain ⟨j0, j1, j2⟩ := HRES.out _ (bel_trans HB1.out AL.out))
    go_ret2
    exact ⟨_, rfl, ⟨none, 0, rfl, .inl rfl⟩, bel_trans HBW.out (bel_trans HB1.out AL.out)⟩
  · rw [if_pos rfl]
    have hp := onOk_parts hG.symm
    have hm := hp.2.2
    obtain ⟨T, rv, fn, fe, fb, fo, fj, rn, re, rb, ro, rj, D⟩ := disp hm
    rw [show opsR m true = opsV m from rfl, D.val] at hon
    have hn := gVal_n hp.1
    have ha := hp.2.1 a (by simp)
    have h40 := (gVal_parts hp.1).2.2.1
    have he := eAll_of hp.1
    obtain ⟨N, rfl⟩ := Int.eq_ofNat_of_zero_le (show 0 ≤ n by omega)
    obtain ⟨A, rfl⟩ := Int.eq_ofNat_of_zero_le ha.1
    have hA : A < N := by omega
    rw [Int.toNat_natCast] at he
    rw [Int.toNat_natCast, Int.toNat_natCast]
    have hrv := fun w' (h : Below W.heap.size W w') => rightValues m es N A (.slice ad es.length cap) w' hm (HS.out.keep (bel_trans HBW.out h)) (by omega) hA (by omega) he
    rw [D.val] at hrv
    obtain ⟨R, hR⟩ : ∃ R, R = vIter m es N (vStart m N A) := ⟨_, rfl⟩
    rw [← hR] at hrv
    have HVAL := Lib.hid D.val
    have HG := Lib.hid hp.1
    have HR := Lib.hid hR
    have HON := Lib.hid hon
    have HRV := Lib.hid hrv
    clear hon hG hp D hrv he hR ha
    have heg : ∀ args w, (callFunc 85 args).run Try.prog w = .ok (.enter 85 args) w := enters_of Try.func85 (by kernel_rfl) rfl
    go_enter Try.func41, Try.ntmps41
    go_wp2_with fail
    rw [← hW]
    clear hW
    obtain ⟨j0, j1, j2⟩ := HRES.out _ (Below.refl _ _)
    go_wp2_with (first | (go_at_call 62; refine HON.out.mono ?_; rintro e w1 ⟨rfl, hb1⟩; have HB1 := Lib.hid (bel_trans AR.out hb1); clear hb1; have HOX := Lib.hid (Box.new w1 79 #[.iface T rv]); have AL : Hid (Below w1.heap.size w1 (w1.alloc (.cells #[.iface T rv] 79))) := Lib.hid ((Below.refl _ _).alloc (Nat.le_refl _) _); clear j0 j1 j2; obtain ⟨j0, j1, j2⟩ := HRES.out _ (bel_trans HB1.out AL.out)) | (go_at_call 70; (with_reducible refine (HRV.out _ (bel_trans HB1.out AL.out)).mono ?_); rintro e w2 ⟨u, r, rfl, hown2, hok2, hrr, hb2⟩; obtain ⟨ua, uc, rfl⟩ := hown2.slice; have HU := Lib.hid (InR.rowI hown2); have HB2 := Lib.hid (bel_trans AL.out hb2); have HOX2 := Lib.hid (HOX.out.keep hb2); have HRX := Lib.hid (Box.new w2 26 #[.slice ua R.length uc]); have AL2 : Hid (Below w2.heap.size w2 (w2.alloc (.cells #[.slice ua R.length uc] 26))) := Lib.hid ((Below.refl _ _).alloc (Nat.le_refl _) _); clear hown2 hok2 hrr hb2; clear j0 j1 j2; obtain ⟨j0, j1, j2⟩ := HRES.out _ (bel_trans HB1.out (bel_trans HB2.out AL2.out))))
    have h1s := HB1.out.size
    have h2s := HB2.out.size
    have h3s := HOX2.out.lt
    have hsz := HSZ.out
    have hk := keeps_critical m es N A (.slice ad es.length cap) (.slice ua R.length uc) w.heap.size w1.heap.size (w.heap.size + 1) w2.heap.size (w2.alloc (.cells #[.slice ua R.length uc] 26)) hm j0 j1 (by simp; omega) (by rw [HVAL.out]; simpa using (HOX2.out.alloc (.cells #[.slice ua R.length uc] 26)).cell 0) (by simp; omega) j2 (by simp; omega) (by simpa using HRX.out.cell 0) (by simp) (HS.out.keep (bel_trans HBW.out (bel_trans HB1.out (bel_trans HB2.out AL2.out)))) (by rw [← HR.out]; exact HU.out.keep AL2.out) HG.out hA
    refine (edgesWhere N es _ _ _ _ _ heg hk (HS.out.keep (bel_trans HBW.out (bel_trans HB1.out (bel_trans HB2.out AL2.out)))) (by omega)).mono ?_
    rintro e w3 ⟨v, rfl, hown, hokv, hb3⟩
    obtain ⟨va, vc, rfl, hvz⟩ := id hown
    clear hvz
    have H3 := Lib.hid (And.intro hown hb3)
    clear hown hb3 hk hokv
    go_wp2
    go_ret2
    exact ⟨_, rfl, InR.wider H3.out.1 (bel_trans HBW.out (bel_trans HB1.out (bel_trans HB2.out AL2.out))).size (Nat.le_refl _) (Nat.le_refl _), bel_trans HBW.out (bel_trans HB1.out (bel_trans HB2.out (bel_trans AL2.out H3.out.2)))⟩
end Go.Proofs.Ytbinpaaihdcnlaa
