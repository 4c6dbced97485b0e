/- CutEdge of the program. -/
import Derived.Test.YtddpljalojcomabPutM
namespace Go.Proofs.Ytddpljalojcomab
open Go.RowKit Go.BigFrame Go.Deep
set_option linter.unusedVariables false
set_option linter.unusedSimpArgs false

/-- The edges without the one in a place. -/
def kL (es : List Ed) (a b : Int) : List Ed := es.take (lbE es a b) ++ es.drop (lbE es a b + 1)
def kB (n : Int) (es : List Ed) (a b : Int) : Bool := gVal n es && fdE es a b
def kN (n : Int) (es : List Ed) (a b : Int) : Int := if kB n es a b = true then n else 0
def kR (n : Int) (es : List Ed) (a b : Int) : List Ed := if kB n es a b = true then kL es a b else []

set_option maxRecDepth 100000 in
theorem concat2 (es1 es3 : List Ed) (s1 s3 : Value) (w : World) (h1 : RowE w s1 es1) (h3 : RowE w s3 es3) (o1 : okS s1) (o3 : okS s3) (hT : (es1 ++ es3).length ≤ 1048576) (T2 : TypeId) :
    Calls Try.prog 28 #[.slice (some ⟨w.heap.size, 0, none⟩) 2 2] (w.alloc (.cells #[s1, s3] T2)).drew
      fun e w' => ∃ v, e = .returned v ∧ OwnE w w' v (es1 ++ es3) ∧ okS v ∧ Below w.heap.size w w' := by
  obtain ⟨W, hW⟩ : ∃ W, W = (w.alloc (.cells #[s1, s3] T2)).drew := ⟨_, rfl⟩
  have hb : Below w.heap.size w W := by rw [hW]; exact ((Below.refl _ _).alloc (Nat.le_refl _) _).drew
  have hsz : W.heap.size = w.heap.size + 1 := by rw [hW]; simp
  have c0 : W.cell? ⟨w.heap.size, 0, none⟩ = some s1 := by rw [hW]; go_simp
  have c2 : W.cell? ⟨w.heap.size, 1, none⟩ = some s3 := by rw [hW]; go_simp
  rw [← hW]
  have hfl : [es1, es3].flatten = es1 ++ es3 := by simp
  have hc := concat [es1, es3] (fun k => if k = 0 then s1 else s3) w.heap.size 2 W (by omega) (by simp) (by rw [hfl]; exact hT) (by
    intro k hk
    match k, hk with
    | 0, _ => exact ⟨c0, h1.keep hb, o1⟩
    | 1, _ => exact ⟨c2, h3.keep hb, o3⟩)
  rw [hfl] at hc
  refine hc.mono ?_
  rintro e w1 ⟨v, rfl, hown, hok, hb1⟩
  exact ⟨v, rfl, hown.wider (by omega) (Nat.le_refl _) (Nat.le_refl _), hok, bel_trans hb hb1⟩

set_option maxRecDepth 100000 in
set_option maxHeartbeats 1000000 in
theorem cutCa (n : Int) (es : List Ed) (x y : Int) (b off p q cap : Nat) (w : World)
    (HV : Hid (∀ (w : World), RowE w (.slice (some ⟨b, off, none⟩) es.length cap) es → Calls Try.prog 25 #[.agg #[.int .i64 n, .slice (some ⟨b, off, none⟩) es.length cap]] w fun e w' => e = .returned (.bool true) ∧ Below w.heap.size w w'))
    (HE : Hid (∀ (w : World), RowE w (.slice (some ⟨b, off, none⟩) es.length cap) es → Calls Try.prog 27 #[.agg #[.int .i64 n, .slice (some ⟨b, off, none⟩) es.length cap], .int .i64 x, .int .i64 y] w fun e w' => e = .returned (.tuple #[.int .i64 (p : Int), .bool true]) ∧ Below w.heap.size w w'))
    (R : Hid (InR false w 0 w.heap.size (.slice (some ⟨b, off, none⟩) es.length cap) es.length 3 (cellE es))) (T1 : Hid (RowE w (.slice (some ⟨b, off, none⟩) p cap) (es.take p))) (T3 : Hid (RowE w (.slice (some ⟨b, off + q * 3, none⟩) (es.length - q) (cap - q)) (es.drop q)))
    (o1 : okS (.slice (some ⟨b, off, none⟩) p cap)) (o3 : okS (.slice (some ⟨b, off + q * 3, none⟩) (es.length - q) (cap - q))) (hT : (es.take p ++ es.drop q).length ≤ 1048576)
    (hp1 : (p : Int) ≤ cap) (hq1 : (q : Int) ≤ es.length) (hq3 : (es.length : Int) ≤ cap) (hpq : (p : Int) + 1 = q) (hle : es.length ≤ 1048576) (hcq : ¬ cap = q) :
    Calls Try.prog 16 #[.agg #[.int .i64 n, .slice (some ⟨b, off, none⟩) es.length cap], .int .i64 x, .int .i64 y] w fun e w' => ∃ v, e = .returned (.tuple #[.agg #[.int .i64 n, v], .bool true]) ∧ OwnE w w' v (es.take p ++ es.drop q) ∧ okS v ∧ Below w.heap.size w w' := by
  obtain ⟨L, hL⟩ : ∃ L, L = es.take p ++ es.drop q := ⟨_, rfl⟩
  rw [← hL]
  have HL := Lib.hid hL
  clear hL
  have hwrap : IntKind.i64.wrap (q : Int) = (q : Int) := by rw [IntKind.wrap_i64]; omega
  obtain ⟨w0, hw0⟩ : ∃ w0, w0 = w := ⟨_, rfl⟩
  subst hw0
  have H0 := Below.refl w0.heap.size w0
  have R_0 := R
  clear R
  go_enter Try.func16, Try.ntmps16
  go_wp2_with fail
  have hb1 : Below w0.heap.size w0 ((w0.alloc (.cells #[.int .i64 n, .slice (some ⟨b, off, none⟩) es.length cap] 30)).alloc (.cells #[.int .i64 0, .slice none 0 0] 30)) := ((Below.refl _ _).alloc (by simp <;> omega) _).alloc (by simp <;> omega) _
  have H1 := bel_trans H0 hb1
  have SZ1 := Lib.hid hb1.size
  have R_1 := Lib.hid (R_0.out.keep hb1)
  have qg0_1 : ((w0.alloc (.cells #[.int .i64 n, .slice (some ⟨b, off, none⟩) es.length cap] 30)).alloc (.cells #[.int .i64 0, .slice none 0 0] 30)).cell? ⟨w0.heap.size, 0, none⟩ = some (.int .i64 n) := by go_simp
  have qg1_1 : ((w0.alloc (.cells #[.int .i64 n, .slice (some ⟨b, off, none⟩) es.length cap] 30)).alloc (.cells #[.int .i64 0, .slice none 0 0] 30)).cell? ⟨w0.heap.size, 1, none⟩ = some (.slice (some ⟨b, off, none⟩) es.length cap) := by go_simp
  have zg_1 : w0.heap.size < ((w0.alloc (.cells #[.int .i64 n, .slice (some ⟨b, off, none⟩) es.length cap] 30)).alloc (.cells #[.int .i64 0, .slice none 0 0] 30)).heap.size := by simp <;> omega
  have frr0_1 : ((w0.alloc (.cells #[.int .i64 n, .slice (some ⟨b, off, none⟩) es.length cap] 30)).alloc (.cells #[.int .i64 0, .slice none 0 0] 30)).frozen? ⟨w0.heap.size + 1, 0, none⟩ = false := by go_simp
  have frr1_1 : ((w0.alloc (.cells #[.int .i64 n, .slice (some ⟨b, off, none⟩) es.length cap] 30)).alloc (.cells #[.int .i64 0, .slice none 0 0] 30)).frozen? ⟨w0.heap.size + 1, 1, none⟩ = false := by go_simp
  have qr0_1 : ((w0.alloc (.cells #[.int .i64 n, .slice (some ⟨b, off, none⟩) es.length cap] 30)).alloc (.cells #[.int .i64 0, .slice none 0 0] 30)).cell? ⟨w0.heap.size + 1, 0, none⟩ = some (.int .i64 0) := by go_simp
  have qr1_1 : ((w0.alloc (.cells #[.int .i64 n, .slice (some ⟨b, off, none⟩) es.length cap] 30)).alloc (.cells #[.int .i64 0, .slice none 0 0] 30)).cell? ⟨w0.heap.size + 1, 1, none⟩ = some (.slice none 0 0) := by go_simp
  have zr_1 : w0.heap.size + 1 < ((w0.alloc (.cells #[.int .i64 n, .slice (some ⟨b, off, none⟩) es.length cap] 30)).alloc (.cells #[.int .i64 0, .slice none 0 0] 30)).heap.size := by simp <;> omega
  generalize ((w0.alloc (.cells #[.int .i64 n, .slice (some ⟨b, off, none⟩) es.length cap] 30)).alloc (.cells #[.int .i64 0, .slice none 0 0] 30)) = w1 at hb1 H1 SZ1 R_1 frr0_1 frr1_1 qg0_1 qg1_1 qr0_1 qr1_1 zg_1 zr_1 ⊢
  have ZBg := Lib.hid zg_1
  have ZBr := Lib.hid zr_1
  clear R_0
  refine (HV.out _ R_1.out.edges).mono ?_
  rintro e w2 ⟨rfl, hb2⟩
  have H2 := bel_trans H1 hb2
  have SZ2 := Lib.hid hb2.size
  have qg0_2 := (hb2.cell (p := ⟨w0.heap.size, 0, none⟩) zg_1).trans qg0_1
  have qg1_2 := (hb2.cell (p := ⟨w0.heap.size, 1, none⟩) zg_1).trans qg1_1
  have zg_2 := Nat.lt_of_lt_of_le zg_1 hb2.size
  have qr0_2 := (hb2.cell (p := ⟨w0.heap.size + 1, 0, none⟩) zr_1).trans qr0_1
  have frr0_2 := (hb2.frozen (p := ⟨w0.heap.size + 1, 0, none⟩) zr_1).trans frr0_1
  have qr1_2 := (hb2.cell (p := ⟨w0.heap.size + 1, 1, none⟩) zr_1).trans qr1_1
  have frr1_2 := (hb2.frozen (p := ⟨w0.heap.size + 1, 1, none⟩) zr_1).trans frr1_1
  have zr_2 := Nat.lt_of_lt_of_le zr_1 hb2.size
  have R_2 := Lib.hid (R_1.out.keep hb2)
  clear R_1 qg0_1 qg1_1 zg_1 frr0_1 frr1_1 qr0_1 qr1_1 zr_1
  go_wp2_with fail
  refine (HE.out _ R_2.out.edges).mono ?_
  rintro e w3 ⟨rfl, hb3⟩
  have H3 := bel_trans H2 hb3
  have SZ3 := Lib.hid hb3.size
  have qg0_3 := (hb3.cell (p := ⟨w0.heap.size, 0, none⟩) zg_2).trans qg0_2
  have qg1_3 := (hb3.cell (p := ⟨w0.heap.size, 1, none⟩) zg_2).trans qg1_2
  have zg_3 := Nat.lt_of_lt_of_le zg_2 hb3.size
  have qr0_3 := (hb3.cell (p := ⟨w0.heap.size + 1, 0, none⟩) zr_2).trans qr0_2
  have frr0_3 := (hb3.frozen (p := ⟨w0.heap.size + 1, 0, none⟩) zr_2).trans frr0_2
  have qr1_3 := (hb3.cell (p := ⟨w0.heap.size + 1, 1, none⟩) zr_2).trans qr1_2
  have frr1_3 := (hb3.frozen (p := ⟨w0.heap.size + 1, 1, none⟩) zr_2).trans frr1_2
  have zr_3 := Nat.lt_of_lt_of_le zr_2 hb3.size
  have R_3 := Lib.hid (R_2.out.keep hb3)
  clear qg0_2 qg1_2 zg_2 qr0_2 frr0_2 qr1_2 frr1_2 zr_2 R_2
  go_wp2
  have hold : ∀ w' : World, Below w3.heap.size w3 w' → (w'.cell? ⟨w0.heap.size, 0, none⟩ = some (.int .i64 n) ∧ w'.cell? ⟨w0.heap.size, 1, none⟩ = some (.slice (some ⟨b, off, none⟩) es.length cap)) := fun w' h => ⟨(h.cell (p := ⟨w0.heap.size, 0, none⟩) zg_3).trans qg0_3, (h.cell (p := ⟨w0.heap.size, 1, none⟩) zg_3).trans qg1_3⟩
  have HOLD := Lib.hid hold
  clear hold
  have t1 := Lib.hid (T1.out.keep H3)
  have t3 := Lib.hid (T3.out.keep H3)
  have rcells : ∀ w' : World, Below w3.heap.size w3 w' → (w'.cell? ⟨w0.heap.size + 1, 0, none⟩ = some (.int .i64 0) ∧ w'.cell? ⟨w0.heap.size + 1, 1, none⟩ = some (.slice none 0 0) ∧ w'.frozen? ⟨w0.heap.size + 1, 0, none⟩ = false ∧ w'.frozen? ⟨w0.heap.size + 1, 1, none⟩ = false) := fun w' h => ⟨(h.cell (p := ⟨w0.heap.size + 1, 0, none⟩) zr_3).trans qr0_3, (h.cell (p := ⟨w0.heap.size + 1, 1, none⟩) zr_3).trans qr1_3, (h.frozen (p := ⟨w0.heap.size + 1, 0, none⟩) zr_3).trans frr0_3, (h.frozen (p := ⟨w0.heap.size + 1, 1, none⟩) zr_3).trans frr1_3⟩
  have RC := Lib.hid rcells
  clear rcells
  go_region_held3 (fun w' : World => w'.cell? ⟨w0.heap.size, 0, none⟩ = some (.int .i64 n) ∧ w'.cell? ⟨w0.heap.size, 1, none⟩ = some (.slice (some ⟨b, off, none⟩) es.length cap)) (first | exact HOLD.out _ ((Below.refl _ _).drew) | exact HOLD.out _ (((Below.refl _ _).alloc (Nat.le_refl _) _).drew) | exact HOLD.out _ hb4 | (constructor <;> go_simp)) (first | (go_at_call 28; refine (concat2 (es.take p) (es.drop q) (.slice (some ⟨b, off, none⟩) p cap) (.slice (some ⟨b, off + q * 3, none⟩) (es.length - q) (cap - q)) w3 t1.out t3.out o1 o3 hT _).mono ?_; rintro e w4 ⟨v, rfl, hown, hokv, hb4⟩; rw [← HL.out] at hown; obtain ⟨va, vc, rfl, hvz⟩ := id hown; obtain ⟨y0, y1, y2, y3⟩ := RC.out _ hb4; clear hvz))
  have H4 := bel_trans H3 hb4
  have SZ4 := Lib.hid hb4.size
  have qg0_4 := (hb4.cell (p := ⟨w0.heap.size, 0, none⟩) zg_3).trans qg0_3
  have qg1_4 := (hb4.cell (p := ⟨w0.heap.size, 1, none⟩) zg_3).trans qg1_3
  have zg_4 := Nat.lt_of_lt_of_le zg_3 hb4.size
  have qr0_4 := (hb4.cell (p := ⟨w0.heap.size + 1, 0, none⟩) zr_3).trans qr0_3
  have frr0_4 := (hb4.frozen (p := ⟨w0.heap.size + 1, 0, none⟩) zr_3).trans frr0_3
  have qr1_4 := (hb4.cell (p := ⟨w0.heap.size + 1, 1, none⟩) zr_3).trans qr1_3
  have frr1_4 := (hb4.frozen (p := ⟨w0.heap.size + 1, 1, none⟩) zr_3).trans frr1_3
  have zr_4 := Nat.lt_of_lt_of_le zr_3 hb4.size
  have R_4 := Lib.hid (R_3.out.keep hb4)
  have V_4 := Lib.hid hown
  clear hown
  clear qg0_3 qg1_3 zg_3 qr0_3 frr0_3 qr1_3 frr1_3 zr_3 R_3
  go_wp2
  try simp only [Exit.inBlock, Exit.then]
  refine bodyPost_ret (v := .tuple #[.agg #[.int .i64 n, .slice va L.length vc], .bool true]) ?_ rfl ?_
  · rw [results_cell_tmp rfl]
    go_simp
  have hch : Chg (w0.heap.size + 1) (w0.heap.size + 2) w4 ((w4.setCell ⟨w0.heap.size + 1, 0, none⟩ (.int .i64 n)).setCell ⟨w0.heap.size + 1, 1, none⟩ (.slice va L.length vc)) := ((Chg.refl _ _ _).setCell (by simp only; omega) (by simp only; omega) _).setCell (by simp only; omega) (by simp only; omega) _
  exact ⟨.slice va L.length vc, rfl, ((V_4.out.chg hch (.inl (by have := ZBr.out; have := SZ3.out; have := SZ2.out; omega))).wider (by have := SZ3.out; have := SZ2.out; have := SZ1.out; omega) (by simp) (Nat.le_refl _)), hokv, bel_chg H4 hch (by omega)⟩

set_option maxRecDepth 100000 in
set_option maxHeartbeats 1000000 in
theorem cutCb (n : Int) (es : List Ed) (x y : Int) (b off p q : Nat) (w : World)
    (HV : Hid (∀ (w : World), RowE w (.slice (some ⟨b, off, none⟩) es.length q) es → Calls Try.prog 25 #[.agg #[.int .i64 n, .slice (some ⟨b, off, none⟩) es.length q]] w fun e w' => e = .returned (.bool true) ∧ Below w.heap.size w w'))
    (HE : Hid (∀ (w : World), RowE w (.slice (some ⟨b, off, none⟩) es.length q) es → Calls Try.prog 27 #[.agg #[.int .i64 n, .slice (some ⟨b, off, none⟩) es.length q], .int .i64 x, .int .i64 y] w fun e w' => e = .returned (.tuple #[.int .i64 (p : Int), .bool true]) ∧ Below w.heap.size w w'))
    (R : Hid (InR false w 0 w.heap.size (.slice (some ⟨b, off, none⟩) es.length q) es.length 3 (cellE es))) (T1 : Hid (RowE w (.slice (some ⟨b, off, none⟩) p q) (es.take p))) (T3 : Hid (RowE w (.slice (some ⟨b, off, none⟩) (es.length - q) 0) (es.drop q)))
    (o1 : okS (.slice (some ⟨b, off, none⟩) p q)) (o3 : okS (.slice (some ⟨b, off, none⟩) (es.length - q) 0)) (hT : (es.take p ++ es.drop q).length ≤ 1048576)
    (hp1 : (p : Int) ≤ q) (hq1 : (q : Int) ≤ es.length) (hq3 : (es.length : Int) ≤ q) (hpq : (p : Int) + 1 = q) (hle : es.length ≤ 1048576) :
    Calls Try.prog 16 #[.agg #[.int .i64 n, .slice (some ⟨b, off, none⟩) es.length q], .int .i64 x, .int .i64 y] w fun e w' => ∃ v, e = .returned (.tuple #[.agg #[.int .i64 n, v], .bool true]) ∧ OwnE w w' v (es.take p ++ es.drop q) ∧ okS v ∧ Below w.heap.size w w' := by
  obtain ⟨L, hL⟩ : ∃ L, L = es.take p ++ es.drop q := ⟨_, rfl⟩
  rw [← hL]
  have HL := Lib.hid hL
  clear hL
  have hwrap : IntKind.i64.wrap (q : Int) = (q : Int) := by rw [IntKind.wrap_i64]; omega
  obtain ⟨w0, hw0⟩ : ∃ w0, w0 = w := ⟨_, rfl⟩
  subst hw0
  have H0 := Below.refl w0.heap.size w0
  have R_0 := R
  clear R
  go_enter Try.func16, Try.ntmps16
  go_wp2_with fail
  have hb1 : Below w0.heap.size w0 ((w0.alloc (.cells #[.int .i64 n, .slice (some ⟨b, off, none⟩) es.length q] 30)).alloc (.cells #[.int .i64 0, .slice none 0 0] 30)) := ((Below.refl _ _).alloc (by simp <;> omega) _).alloc (by simp <;> omega) _
  have H1 := bel_trans H0 hb1
  have SZ1 := Lib.hid hb1.size
  have R_1 := Lib.hid (R_0.out.keep hb1)
  have qg0_1 : ((w0.alloc (.cells #[.int .i64 n, .slice (some ⟨b, off, none⟩) es.length q] 30)).alloc (.cells #[.int .i64 0, .slice none 0 0] 30)).cell? ⟨w0.heap.size, 0, none⟩ = some (.int .i64 n) := by go_simp
  have qg1_1 : ((w0.alloc (.cells #[.int .i64 n, .slice (some ⟨b, off, none⟩) es.length q] 30)).alloc (.cells #[.int .i64 0, .slice none 0 0] 30)).cell? ⟨w0.heap.size, 1, none⟩ = some (.slice (some ⟨b, off, none⟩) es.length q) := by go_simp
  have zg_1 : w0.heap.size < ((w0.alloc (.cells #[.int .i64 n, .slice (some ⟨b, off, none⟩) es.length q] 30)).alloc (.cells #[.int .i64 0, .slice none 0 0] 30)).heap.size := by simp <;> omega
  have frr0_1 : ((w0.alloc (.cells #[.int .i64 n, .slice (some ⟨b, off, none⟩) es.length q] 30)).alloc (.cells #[.int .i64 0, .slice none 0 0] 30)).frozen? ⟨w0.heap.size + 1, 0, none⟩ = false := by go_simp
  have frr1_1 : ((w0.alloc (.cells #[.int .i64 n, .slice (some ⟨b, off, none⟩) es.length q] 30)).alloc (.cells #[.int .i64 0, .slice none 0 0] 30)).frozen? ⟨w0.heap.size + 1, 1, none⟩ = false := by go_simp
  have qr0_1 : ((w0.alloc (.cells #[.int .i64 n, .slice (some ⟨b, off, none⟩) es.length q] 30)).alloc (.cells #[.int .i64 0, .slice none 0 0] 30)).cell? ⟨w0.heap.size + 1, 0, none⟩ = some (.int .i64 0) := by go_simp
  have qr1_1 : ((w0.alloc (.cells #[.int .i64 n, .slice (some ⟨b, off, none⟩) es.length q] 30)).alloc (.cells #[.int .i64 0, .slice none 0 0] 30)).cell? ⟨w0.heap.size + 1, 1, none⟩ = some (.slice none 0 0) := by go_simp
  have zr_1 : w0.heap.size + 1 < ((w0.alloc (.cells #[.int .i64 n, .slice (some ⟨b, off, none⟩) es.length q] 30)).alloc (.cells #[.int .i64 0, .slice none 0 0] 30)).heap.size := by simp <;> omega
  generalize ((w0.alloc (.cells #[.int .i64 n, .slice (some ⟨b, off, none⟩) es.length q] 30)).alloc (.cells #[.int .i64 0, .slice none 0 0] 30)) = w1 at hb1 H1 SZ1 R_1 frr0_1 frr1_1 qg0_1 qg1_1 qr0_1 qr1_1 zg_1 zr_1 ⊢
  have ZBg := Lib.hid zg_1
  have ZBr := Lib.hid zr_1
  clear R_0
  refine (HV.out _ R_1.out.edges).mono ?_
  rintro e w2 ⟨rfl, hb2⟩
  have H2 := bel_trans H1 hb2
  have SZ2 := Lib.hid hb2.size
  have qg0_2 := (hb2.cell (p := ⟨w0.heap.size, 0, none⟩) zg_1).trans qg0_1
  have qg1_2 := (hb2.cell (p := ⟨w0.heap.size, 1, none⟩) zg_1).trans qg1_1
  have zg_2 := Nat.lt_of_lt_of_le zg_1 hb2.size
  have qr0_2 := (hb2.cell (p := ⟨w0.heap.size + 1, 0, none⟩) zr_1).trans qr0_1
  have frr0_2 := (hb2.frozen (p := ⟨w0.heap.size + 1, 0, none⟩) zr_1).trans frr0_1
  have qr1_2 := (hb2.cell (p := ⟨w0.heap.size + 1, 1, none⟩) zr_1).trans qr1_1
  have frr1_2 := (hb2.frozen (p := ⟨w0.heap.size + 1, 1, none⟩) zr_1).trans frr1_1
  have zr_2 := Nat.lt_of_lt_of_le zr_1 hb2.size
  have R_2 := Lib.hid (R_1.out.keep hb2)
  clear R_1 qg0_1 qg1_1 zg_1 frr0_1 frr1_1 qr0_1 qr1_1 zr_1
  go_wp2_with fail
  refine (HE.out _ R_2.out.edges).mono ?_
  rintro e w3 ⟨rfl, hb3⟩
  have H3 := bel_trans H2 hb3
  have SZ3 := Lib.hid hb3.size
  have qg0_3 := (hb3.cell (p := ⟨w0.heap.size, 0, none⟩) zg_2).trans qg0_2
  have qg1_3 := (hb3.cell (p := ⟨w0.heap.size, 1, none⟩) zg_2).trans qg1_2
  have zg_3 := Nat.lt_of_lt_of_le zg_2 hb3.size
  have qr0_3 := (hb3.cell (p := ⟨w0.heap.size + 1, 0, none⟩) zr_2).trans qr0_2
  have frr0_3 := (hb3.frozen (p := ⟨w0.heap.size + 1, 0, none⟩) zr_2).trans frr0_2
  have qr1_3 := (hb3.cell (p := ⟨w0.heap.size + 1, 1, none⟩) zr_2).trans qr1_2
  have frr1_3 := (hb3.frozen (p := ⟨w0.heap.size + 1, 1, none⟩) zr_2).trans frr1_2
  have zr_3 := Nat.lt_of_lt_of_le zr_2 hb3.size
  have R_3 := Lib.hid (R_2.out.keep hb3)
  clear qg0_2 qg1_2 zg_2 qr0_2 frr0_2 qr1_2 frr1_2 zr_2 R_2
  go_wp2
  have hold : ∀ w' : World, Below w3.heap.size w3 w' → (w'.cell? ⟨w0.heap.size, 0, none⟩ = some (.int .i64 n) ∧ w'.cell? ⟨w0.heap.size, 1, none⟩ = some (.slice (some ⟨b, off, none⟩) es.length q)) := fun w' h => ⟨(h.cell (p := ⟨w0.heap.size, 0, none⟩) zg_3).trans qg0_3, (h.cell (p := ⟨w0.heap.size, 1, none⟩) zg_3).trans qg1_3⟩
  have HOLD := Lib.hid hold
  clear hold
  have t1 := Lib.hid (T1.out.keep H3)
  have t3 := Lib.hid (T3.out.keep H3)
  have rcells : ∀ w' : World, Below w3.heap.size w3 w' → (w'.cell? ⟨w0.heap.size + 1, 0, none⟩ = some (.int .i64 0) ∧ w'.cell? ⟨w0.heap.size + 1, 1, none⟩ = some (.slice none 0 0) ∧ w'.frozen? ⟨w0.heap.size + 1, 0, none⟩ = false ∧ w'.frozen? ⟨w0.heap.size + 1, 1, none⟩ = false) := fun w' h => ⟨(h.cell (p := ⟨w0.heap.size + 1, 0, none⟩) zr_3).trans qr0_3, (h.cell (p := ⟨w0.heap.size + 1, 1, none⟩) zr_3).trans qr1_3, (h.frozen (p := ⟨w0.heap.size + 1, 0, none⟩) zr_3).trans frr0_3, (h.frozen (p := ⟨w0.heap.size + 1, 1, none⟩) zr_3).trans frr1_3⟩
  have RC := Lib.hid rcells
  clear rcells
  go_region_held3 (fun w' : World => w'.cell? ⟨w0.heap.size, 0, none⟩ = some (.int .i64 n) ∧ w'.cell? ⟨w0.heap.size, 1, none⟩ = some (.slice (some ⟨b, off, none⟩) es.length q)) (first | exact HOLD.out _ ((Below.refl _ _).drew) | exact HOLD.out _ (((Below.refl _ _).alloc (Nat.le_refl _) _).drew) | exact HOLD.out _ hb4 | (constructor <;> go_simp)) (first | (go_at_call 28; refine (concat2 (es.take p) (es.drop q) (.slice (some ⟨b, off, none⟩) p q) (.slice (some ⟨b, off, none⟩) (es.length - q) 0) w3 t1.out t3.out o1 o3 hT _).mono ?_; rintro e w4 ⟨v, rfl, hown, hokv, hb4⟩; rw [← HL.out] at hown; obtain ⟨va, vc, rfl, hvz⟩ := id hown; obtain ⟨y0, y1, y2, y3⟩ := RC.out _ hb4; clear hvz))
  have H4 := bel_trans H3 hb4
  have SZ4 := Lib.hid hb4.size
  have qg0_4 := (hb4.cell (p := ⟨w0.heap.size, 0, none⟩) zg_3).trans qg0_3
  have qg1_4 := (hb4.cell (p := ⟨w0.heap.size, 1, none⟩) zg_3).trans qg1_3
  have zg_4 := Nat.lt_of_lt_of_le zg_3 hb4.size
  have qr0_4 := (hb4.cell (p := ⟨w0.heap.size + 1, 0, none⟩) zr_3).trans qr0_3
  have frr0_4 := (hb4.frozen (p := ⟨w0.heap.size + 1, 0, none⟩) zr_3).trans frr0_3
  have qr1_4 := (hb4.cell (p := ⟨w0.heap.size + 1, 1, none⟩) zr_3).trans qr1_3
  have frr1_4 := (hb4.frozen (p := ⟨w0.heap.size + 1, 1, none⟩) zr_3).trans frr1_3
  have zr_4 := Nat.lt_of_lt_of_le zr_3 hb4.size
  have R_4 := Lib.hid (R_3.out.keep hb4)
  have V_4 := Lib.hid hown
  clear hown
  clear qg0_3 qg1_3 zg_3 qr0_3 frr0_3 qr1_3 frr1_3 zr_3 R_3
  go_wp2
  try simp only [Exit.inBlock, Exit.then]
  refine bodyPost_ret (v := .tuple #[.agg #[.int .i64 n, .slice va L.length vc], .bool true]) ?_ rfl ?_
  · rw [results_cell_tmp rfl]
    go_simp
  have hch : Chg (w0.heap.size + 1) (w0.heap.size + 2) w4 ((w4.setCell ⟨w0.heap.size + 1, 0, none⟩ (.int .i64 n)).setCell ⟨w0.heap.size + 1, 1, none⟩ (.slice va L.length vc)) := ((Chg.refl _ _ _).setCell (by simp only; omega) (by simp only; omega) _).setCell (by simp only; omega) (by simp only; omega) _
  exact ⟨.slice va L.length vc, rfl, ((V_4.out.chg hch (.inl (by have := ZBr.out; have := SZ3.out; have := SZ2.out; omega))).wider (by have := SZ3.out; have := SZ2.out; have := SZ1.out; omega) (by simp) (Nat.le_refl _)), hokv, bel_chg H4 hch (by omega)⟩

set_option maxRecDepth 100000 in
set_option maxHeartbeats 1000000 in
theorem cutEdge (n : Int) (es : List Ed) (x y : Int) (s : Value) (w : World) (hs : RowE w s es) (hok : okS s) (hl : es.length ≤ 1048576) :
    Calls Try.prog 16 #[.agg #[.int .i64 n, s], .int .i64 x, .int .i64 y] w fun e w' => ∃ v, e = .returned (.tuple #[.agg #[.int .i64 (kN n es x y), v], .bool (kB n es x y)]) ∧ OwnE w w' v (kR n es x y) ∧ okS v ∧ Below w.heap.size w w' := by
  have hl2 : es.length ≤ 281474976710656 := by omega
  obtain ⟨ad, cap, hs0, hz0⟩ := id hs
  subst hs0
  have hgv := fun w h => graphValid n es (.slice ad es.length cap) w h hl2
  have R := Lib.hid (InR.of_edges hs)
  cases hg : gVal n es
  · have e0 : kB n es x y = false := by unfold kB; rw [hg]; rfl
    have e1 : kN n es x y = 0 := by unfold kN; rw [e0]; rfl
    have e2 : kR n es x y = [] := by unfold kR; rw [e0]; rfl
    rw [e0, e1, e2]
    rw [hg] at hgv
    have HV := Lib.hid hgv
    clear hgv hz0 e0 e1 e2 hok hs
    obtain ⟨w0, hw0⟩ : ∃ w0, w0 = w := ⟨_, rfl⟩
    subst hw0
    have H0 := Below.refl w0.heap.size w0
    have R_0 := R
    clear R
    go_enter Try.func16, Try.ntmps16
    go_wp2_with fail
    have hb1 : Below w0.heap.size w0 ((w0.alloc (.cells #[.int .i64 n, .slice ad es.length cap] 30)).alloc (.cells #[.int .i64 0, .slice none 0 0] 30)) := ((Below.refl _ _).alloc (by simp <;> omega) _).alloc (by simp <;> omega) _
    have H1 := bel_trans H0 hb1
    have SZ1 := Lib.hid hb1.size
    have R_1 := Lib.hid (R_0.out.keep hb1)
    have qg0_1 : ((w0.alloc (.cells #[.int .i64 n, .slice ad es.length cap] 30)).alloc (.cells #[.int .i64 0, .slice none 0 0] 30)).cell? ⟨w0.heap.size, 0, none⟩ = some (.int .i64 n) := by go_simp
    have qg1_1 : ((w0.alloc (.cells #[.int .i64 n, .slice ad es.length cap] 30)).alloc (.cells #[.int .i64 0, .slice none 0 0] 30)).cell? ⟨w0.heap.size, 1, none⟩ = some (.slice ad es.length cap) := by go_simp
    have zg_1 : w0.heap.size < ((w0.alloc (.cells #[.int .i64 n, .slice ad es.length cap] 30)).alloc (.cells #[.int .i64 0, .slice none 0 0] 30)).heap.size := by simp <;> omega
    have frr0_1 : ((w0.alloc (.cells #[.int .i64 n, .slice ad es.length cap] 30)).alloc (.cells #[.int .i64 0, .slice none 0 0] 30)).frozen? ⟨w0.heap.size + 1, 0, none⟩ = false := by go_simp
    have frr1_1 : ((w0.alloc (.cells #[.int .i64 n, .slice ad es.length cap] 30)).alloc (.cells #[.int .i64 0, .slice none 0 0] 30)).frozen? ⟨w0.heap.size + 1, 1, none⟩ = false := by go_simp
    have qr0_1 : ((w0.alloc (.cells #[.int .i64 n, .slice ad es.length cap] 30)).alloc (.cells #[.int .i64 0, .slice none 0 0] 30)).cell? ⟨w0.heap.size + 1, 0, none⟩ = some (.int .i64 0) := by go_simp
    have qr1_1 : ((w0.alloc (.cells #[.int .i64 n, .slice ad es.length cap] 30)).alloc (.cells #[.int .i64 0, .slice none 0 0] 30)).cell? ⟨w0.heap.size + 1, 1, none⟩ = some (.slice none 0 0) := by go_simp
    have zr_1 : w0.heap.size + 1 < ((w0.alloc (.cells #[.int .i64 n, .slice ad es.length cap] 30)).alloc (.cells #[.int .i64 0, .slice none 0 0] 30)).heap.size := by simp <;> omega
    generalize ((w0.alloc (.cells #[.int .i64 n, .slice ad es.length cap] 30)).alloc (.cells #[.int .i64 0, .slice none 0 0] 30)) = w1 at hb1 H1 SZ1 R_1 frr0_1 frr1_1 qg0_1 qg1_1 qr0_1 qr1_1 zg_1 zr_1 ⊢
    have ZBg := Lib.hid zg_1
    have ZBr := Lib.hid zr_1
    clear R_0
    refine (HV.out _ R_1.out.edges).mono ?_
    rintro e w2 ⟨rfl, hb2⟩
    have H2 := bel_trans H1 hb2
    have SZ2 := Lib.hid hb2.size
    have qg0_2 := (hb2.cell (p := ⟨w0.heap.size, 0, none⟩) zg_1).trans qg0_1
    have qg1_2 := (hb2.cell (p := ⟨w0.heap.size, 1, none⟩) zg_1).trans qg1_1
    have zg_2 := Nat.lt_of_lt_of_le zg_1 hb2.size
    have qr0_2 := (hb2.cell (p := ⟨w0.heap.size + 1, 0, none⟩) zr_1).trans qr0_1
    have frr0_2 := (hb2.frozen (p := ⟨w0.heap.size + 1, 0, none⟩) zr_1).trans frr0_1
    have qr1_2 := (hb2.cell (p := ⟨w0.heap.size + 1, 1, none⟩) zr_1).trans qr1_1
    have frr1_2 := (hb2.frozen (p := ⟨w0.heap.size + 1, 1, none⟩) zr_1).trans frr1_1
    have zr_2 := Nat.lt_of_lt_of_le zr_1 hb2.size
    have R_2 := Lib.hid (R_1.out.keep hb2)
    clear R_1 qg0_1 qg1_1 zg_1 frr0_1 frr1_1 qr0_1 qr1_1 zr_1
    go_wp2
    try simp only [Exit.inBlock, Exit.then]
    refine bodyPost_ret (v := .tuple #[.agg #[.int .i64 0, .slice none 0 0], .bool false]) ?_ rfl ?_
    · rw [results_cell_tmp rfl]
      go_simp
    exact ⟨_, rfl, ownE_nil _ _, okS_nil, (H2.setCell (by have := ZBr.out; simp only; omega) _).setCell (by have := ZBr.out; simp only; omega) _⟩
  rw [hg] at hgv
  have HV := Lib.hid hgv
  have hfe := fun w h => findEdge n es x y (.slice ad es.length cap) w h hl (gVal_mono hg x y)
  cases hfd : fdE es x y
  · have e0 : kB n es x y = false := by unfold kB; rw [hfd, hg]; rfl
    have e1 : kN n es x y = 0 := by unfold kN; rw [e0]; rfl
    have e2 : kR n es x y = [] := by unfold kR; rw [e0]; rfl
    rw [e0, e1, e2]
    rw [hfd] at hfe
    have HE := Lib.hid hfe
    clear hgv hz0 e0 e1 e2 hok hs hfe
    obtain ⟨w0, hw0⟩ : ∃ w0, w0 = w := ⟨_, rfl⟩
    subst hw0
    have H0 := Below.refl w0.heap.size w0
    have R_0 := R
    clear R
    go_enter Try.func16, Try.ntmps16
    go_wp2_with fail
    have hb1 : Below w0.heap.size w0 ((w0.alloc (.cells #[.int .i64 n, .slice ad es.length cap] 30)).alloc (.cells #[.int .i64 0, .slice none 0 0] 30)) := ((Below.refl _ _).alloc (by simp <;> omega) _).alloc (by simp <;> omega) _
    have H1 := bel_trans H0 hb1
    have SZ1 := Lib.hid hb1.size
    have R_1 := Lib.hid (R_0.out.keep hb1)
    have qg0_1 : ((w0.alloc (.cells #[.int .i64 n, .slice ad es.length cap] 30)).alloc (.cells #[.int .i64 0, .slice none 0 0] 30)).cell? ⟨w0.heap.size, 0, none⟩ = some (.int .i64 n) := by go_simp
    have qg1_1 : ((w0.alloc (.cells #[.int .i64 n, .slice ad es.length cap] 30)).alloc (.cells #[.int .i64 0, .slice none 0 0] 30)).cell? ⟨w0.heap.size, 1, none⟩ = some (.slice ad es.length cap) := by go_simp
    have zg_1 : w0.heap.size < ((w0.alloc (.cells #[.int .i64 n, .slice ad es.length cap] 30)).alloc (.cells #[.int .i64 0, .slice none 0 0] 30)).heap.size := by simp <;> omega
    have frr0_1 : ((w0.alloc (.cells #[.int .i64 n, .slice ad es.length cap] 30)).alloc (.cells #[.int .i64 0, .slice none 0 0] 30)).frozen? ⟨w0.heap.size + 1, 0, none⟩ = false := by go_simp
    have frr1_1 : ((w0.alloc (.cells #[.int .i64 n, .slice ad es.length cap] 30)).alloc (.cells #[.int .i64 0, .slice none 0 0] 30)).frozen? ⟨w0.heap.size + 1, 1, none⟩ = false := by go_simp
    have qr0_1 : ((w0.alloc (.cells #[.int .i64 n, .slice ad es.length cap] 30)).alloc (.cells #[.int .i64 0, .slice none 0 0] 30)).cell? ⟨w0.heap.size + 1, 0, none⟩ = some (.int .i64 0) := by go_simp
    have qr1_1 : ((w0.alloc (.cells #[.int .i64 n, .slice ad es.length cap] 30)).alloc (.cells #[.int .i64 0, .slice none 0 0] 30)).cell? ⟨w0.heap.size + 1, 1, none⟩ = some (.slice none 0 0) := by go_simp
    have zr_1 : w0.heap.size + 1 < ((w0.alloc (.cells #[.int .i64 n, .slice ad es.length cap] 30)).alloc (.cells #[.int .i64 0, .slice none 0 0] 30)).heap.size := by simp <;> omega
    generalize ((w0.alloc (.cells #[.int .i64 n, .slice ad es.length cap] 30)).alloc (.cells #[.int .i64 0, .slice none 0 0] 30)) = w1 at hb1 H1 SZ1 R_1 frr0_1 frr1_1 qg0_1 qg1_1 qr0_1 qr1_1 zg_1 zr_1 ⊢
    have ZBg := Lib.hid zg_1
    have ZBr := Lib.hid zr_1
    clear R_0
    refine (HV.out _ R_1.out.edges).mono ?_
    rintro e w2 ⟨rfl, hb2⟩
    have H2 := bel_trans H1 hb2
    have SZ2 := Lib.hid hb2.size
    have qg0_2 := (hb2.cell (p := ⟨w0.heap.size, 0, none⟩) zg_1).trans qg0_1
    have qg1_2 := (hb2.cell (p := ⟨w0.heap.size, 1, none⟩) zg_1).trans qg1_1
    have zg_2 := Nat.lt_of_lt_of_le zg_1 hb2.size
    have qr0_2 := (hb2.cell (p := ⟨w0.heap.size + 1, 0, none⟩) zr_1).trans qr0_1
    have frr0_2 := (hb2.frozen (p := ⟨w0.heap.size + 1, 0, none⟩) zr_1).trans frr0_1
    have qr1_2 := (hb2.cell (p := ⟨w0.heap.size + 1, 1, none⟩) zr_1).trans qr1_1
    have frr1_2 := (hb2.frozen (p := ⟨w0.heap.size + 1, 1, none⟩) zr_1).trans frr1_1
    have zr_2 := Nat.lt_of_lt_of_le zr_1 hb2.size
    have R_2 := Lib.hid (R_1.out.keep hb2)
    clear R_1 qg0_1 qg1_1 zg_1 frr0_1 frr1_1 qr0_1 qr1_1 zr_1
    go_wp2_with fail
    refine (HE.out _ R_2.out.edges).mono ?_
    rintro e w3 ⟨rfl, hb3⟩
    have H3 := bel_trans H2 hb3
    have SZ3 := Lib.hid hb3.size
    have qg0_3 := (hb3.cell (p := ⟨w0.heap.size, 0, none⟩) zg_2).trans qg0_2
    have qg1_3 := (hb3.cell (p := ⟨w0.heap.size, 1, none⟩) zg_2).trans qg1_2
    have zg_3 := Nat.lt_of_lt_of_le zg_2 hb3.size
    have qr0_3 := (hb3.cell (p := ⟨w0.heap.size + 1, 0, none⟩) zr_2).trans qr0_2
    have frr0_3 := (hb3.frozen (p := ⟨w0.heap.size + 1, 0, none⟩) zr_2).trans frr0_2
    have qr1_3 := (hb3.cell (p := ⟨w0.heap.size + 1, 1, none⟩) zr_2).trans qr1_2
    have frr1_3 := (hb3.frozen (p := ⟨w0.heap.size + 1, 1, none⟩) zr_2).trans frr1_2
    have zr_3 := Nat.lt_of_lt_of_le zr_2 hb3.size
    have R_3 := Lib.hid (R_2.out.keep hb3)
    clear qg0_2 qg1_2 zg_2 qr0_2 frr0_2 qr1_2 frr1_2 zr_2 R_2
    go_wp2
    try simp only [Exit.inBlock, Exit.then]
    refine bodyPost_ret (v := .tuple #[.agg #[.int .i64 0, .slice none 0 0], .bool false]) ?_ rfl ?_
    · rw [results_cell_tmp rfl]
      go_simp
    exact ⟨_, rfl, ownE_nil _ _, okS_nil, (H3.setCell (by have := ZBr.out; simp only; omega) _).setCell (by have := ZBr.out; simp only; omega) _⟩
  have e0 : kB n es x y = true := by unfold kB; rw [hfd, hg]; rfl
  have e1 : kN n es x y = n := by unfold kN; rw [e0]; rfl
  have hlt : lbE es x y < es.length := by unfold fdE at hfd; simp at hfd; exact hfd.1
  have e2 : kR n es x y = es.take (lbE es x y) ++ es.drop (lbE es x y + 1) := by unfold kR; rw [e0]; rfl
  rw [e0, e1, e2]
  rw [hfd] at hfe
  generalize lbE es x y = p at hfe hlt ⊢
  have HE := Lib.hid hfe
  rcases hz0 with h0 | ⟨b, off, rfl, hb, hc⟩
  · rw [h0] at hlt; simp at hlt
  have hcap := (hok _ _ _ rfl).1
  have t1 : ∀ c, RowE w (.slice (some ⟨b, off, none⟩) p c) (es.take p) := fun c => rowE_take hc hb (by omega)
  obtain ⟨q, hq⟩ : ∃ q, q = p + 1 := ⟨_, rfl⟩
  have u3 := rowE_dropV (cap := cap) hc hb q hcap
  unfold dropV at u3
  have hT : (es.take p ++ es.drop q).length ≤ 1048576 := by simp; omega
  rw [← hq]
  by_cases hcq : cap = q
  · subst hcq
    rw [if_pos rfl, Nat.sub_self] at u3
    exact cutCb n es x y b off p cap w HV HE R (Lib.hid (t1 cap)) (Lib.hid u3) (okS_some (by omega)) (okS_some (by omega)) hT (by omega) (by omega) (by omega) (by omega) (by omega)
  · rw [if_neg hcq] at u3
    exact cutCa n es x y b off p q cap w HV HE R (Lib.hid (t1 cap)) (Lib.hid u3) (okS_some (by omega)) (okS_some (by omega)) hT (by omega) (by omega) (by omega) (by omega) (by omega) hcq
end Go.Proofs.Ytddpljalojcomab
