/- PutEdge of the program. -/
import Derived.Test.YtddpljalojcomabFind2
import Derived.Test.YtddpljalojcomabConcat
import Derived.Laws.ResultCell
import Derived.Deep.RegionHeld3
namespace Go.Proofs.Ytddpljalojcomab
open Go.RowKit Go.BigFrame Go.Deep
set_option linter.unusedVariables false
set_option linter.unusedSimpArgs false

/-- How many edges an edge replaces. -/
def fdN (es : List Ed) (a b : Int) : Nat := if fdE es a b = true then 1 else 0
/-- The edges with an edge in its place. -/
def pL (es : List Ed) (e : Ed) : List Ed := es.take (lbE es e.1 e.2.1) ++ e :: es.drop (lbE es e.1 e.2.1 + fdN es e.1 e.2.1)
def putB (n : Int) (es : List Ed) (e : Ed) : Bool := (gVal n es && eFits n e.1 e.2.1 e.2.2) && decide ((pL es e).length ≤ 40)
def putN (n : Int) (es : List Ed) (e : Ed) : Int := if putB n es e = true then n else 0
def putL (n : Int) (es : List Ed) (e : Ed) : List Ed := if putB n es e = true then pL es e else []

theorem ownE_nil (w w' : World) : OwnE w w' (.slice none 0 0) [] := ⟨none, 0, rfl, .inl rfl⟩
theorem okS_nil : okS (.slice none 0 0) := by
  intro a n c e
  injection e with e1 e2 e3
  subst e1 e2 e3
  exact ⟨Nat.le_refl _, (fun _ => rfl), fun x h => by cases h⟩
theorem okS_some {b off n c : Nat} (h : n ≤ c) : okS (.slice (some ⟨b, off, none⟩) n c) := by
  intro a n c e
  injection e with e1 e2 e3
  subst e1 e2 e3
  exact ⟨h, (fun h => by cases h), fun x h => by injection h with h; rw [← h]⟩
theorem rowE_take {w : World} {b off cap : Nat} {es : List Ed} (hc : ∀ i, i < es.length → w.cell? ⟨b, off + i * 3, none⟩ = some (.int .i64 (es.getD i (0, 0, 0)).1) ∧ w.cell? ⟨b, off + i * 3 + 1, none⟩ = some (.int .i64 (es.getD i (0, 0, 0)).2.1) ∧ w.cell? ⟨b, off + i * 3 + 2, none⟩ = some (.int .i64 (es.getD i (0, 0, 0)).2.2))
    (hb : b < w.heap.size) {p : Nat} (hp : p ≤ es.length) : RowE w (.slice (some ⟨b, off, none⟩) p cap) (es.take p) := by
  have hl : (es.take p).length = p := by rw [List.length_take]; omega
  refine ⟨_, cap, by rw [hl], .inr ⟨b, off, rfl, hb, fun i hi => ?_⟩⟩
  rw [hl] at hi
  have e : (es.take p).getD i (0, 0, 0) = es.getD i (0, 0, 0) := by simp [List.getD, hi]
  rw [e]
  exact hc i (by omega)
theorem rowE_drop {w : World} {b off cap : Nat} {es : List Ed} (hc : ∀ i, i < es.length → w.cell? ⟨b, off + i * 3, none⟩ = some (.int .i64 (es.getD i (0, 0, 0)).1) ∧ w.cell? ⟨b, off + i * 3 + 1, none⟩ = some (.int .i64 (es.getD i (0, 0, 0)).2.1) ∧ w.cell? ⟨b, off + i * 3 + 2, none⟩ = some (.int .i64 (es.getD i (0, 0, 0)).2.2))
    (hb : b < w.heap.size) (q : Nat) : RowE w (.slice (some ⟨b, off + q * 3, none⟩) (es.length - q) cap) (es.drop q) := by
  have hl : (es.drop q).length = es.length - q := by rw [List.length_drop]
  refine ⟨_, cap, by rw [hl], .inr ⟨b, off + q * 3, rfl, hb, fun i hi => ?_⟩⟩
  rw [hl] at hi
  have e : (es.drop q).getD i (0, 0, 0) = es.getD (q + i) (0, 0, 0) := by simp [List.getD, List.getElem?_drop]
  rw [e]
  have h := hc (q + i) (by omega)
  have e2 : off + (q + i) * 3 = off + q * 3 + i * 3 := by omega
  rw [e2] at h
  exact h

/-- What a slice from a place on is. -/
def dropV (b off len cap q : Nat) : Value := .slice (if cap = q then some ⟨b, off, none⟩ else some ⟨b, off + q * 3, none⟩) (len - q) (cap - q)
theorem rowE_dropV {w : World} {b off cap : Nat} {es : List Ed} (hc : ∀ i, i < es.length → w.cell? ⟨b, off + i * 3, none⟩ = some (.int .i64 (es.getD i (0, 0, 0)).1) ∧ w.cell? ⟨b, off + i * 3 + 1, none⟩ = some (.int .i64 (es.getD i (0, 0, 0)).2.1) ∧ w.cell? ⟨b, off + i * 3 + 2, none⟩ = some (.int .i64 (es.getD i (0, 0, 0)).2.2))
    (hb : b < w.heap.size) (q : Nat) (hcap : es.length ≤ cap) : RowE w (dropV b off es.length cap q) (es.drop q) := by
  unfold dropV
  by_cases h : cap = q
  · rw [if_pos h]
    have e : es.drop q = [] := List.drop_eq_nil_of_le (by omega)
    rw [e]
    have : es.length - q = 0 := by omega
    rw [this]
    exact ⟨_, _, rfl, .inl rfl⟩
  · rw [if_neg h]
    exact rowE_drop hc hb q
theorem okS_dropV {b off len cap q : Nat} (h : len ≤ cap) : okS (dropV b off len cap q) := by
  unfold dropV
  split <;> exact okS_some (by omega)

set_option maxRecDepth 100000 in
theorem concat3 (es1 es3 : List Ed) (x y z : Int) (s1 s3 : Value) (w : World) (h1 : RowE w s1 es1) (h3 : RowE w s3 es3) (o1 : okS s1) (o3 : okS s3) (hT : (es1 ++ (x, y, z) :: es3).length ≤ 1048576) (T1 T2 : TypeId) :
    Calls Try.prog 28 #[.slice (some ⟨w.heap.size + 1, 0, none⟩) 3 3] ((w.alloc (.cells #[.int .i64 x, .int .i64 y, .int .i64 z] T1)).alloc (.cells #[s1, .slice (some ⟨w.heap.size, 0, none⟩) 1 1, s3] T2)).drew
      fun e w' => ∃ v, e = .returned v ∧ OwnE w w' v (es1 ++ (x, y, z) :: es3) ∧ okS v ∧ Below w.heap.size w w' := by
  obtain ⟨W, hW⟩ : ∃ W, W = ((w.alloc (.cells #[.int .i64 x, .int .i64 y, .int .i64 z] T1)).alloc (.cells #[s1, .slice (some ⟨w.heap.size, 0, none⟩) 1 1, s3] T2)).drew := ⟨_, rfl⟩
  have hb : Below w.heap.size w W := by rw [hW]; exact (((Below.refl _ _).alloc (Nat.le_refl _) _).alloc (by simp) _).drew
  have hsz : W.heap.size = w.heap.size + 2 := by rw [hW]; simp
  have c0 : W.cell? ⟨w.heap.size + 1, 0, none⟩ = some s1 := by rw [hW]; go_simp
  have c1 : W.cell? ⟨w.heap.size + 1, 1, none⟩ = some (.slice (some ⟨w.heap.size, 0, none⟩) 1 1) := by rw [hW]; go_simp
  have c2 : W.cell? ⟨w.heap.size + 1, 2, none⟩ = some s3 := by rw [hW]; go_simp
  have d0 : W.cell? ⟨w.heap.size, 0, none⟩ = some (.int .i64 x) := by rw [hW]; go_simp
  have d1 : W.cell? ⟨w.heap.size, 1, none⟩ = some (.int .i64 y) := by rw [hW]; go_simp
  have d2 : W.cell? ⟨w.heap.size, 2, none⟩ = some (.int .i64 z) := by rw [hW]; go_simp
  rw [← hW]
  have hfl : [es1, [(x, y, z)], es3].flatten = es1 ++ (x, y, z) :: es3 := by simp
  have hc := concat [es1, [(x, y, z)], es3] (fun k => if k = 0 then s1 else if k = 1 then .slice (some ⟨w.heap.size, 0, none⟩) 1 1 else s3) (w.heap.size + 1) 3 W (by omega) (by simp) (by rw [hfl]; exact hT) (by
    intro k hk
    match k, hk with
    | 0, _ => exact ⟨c0, h1.keep hb, o1⟩
    | 1, _ => exact ⟨c1, ⟨some ⟨w.heap.size, 0, none⟩, 1, rfl, .inr ⟨w.heap.size, 0, rfl, by omega, fun i hi => by
        have : i = 0 := by simp at hi; omega
        subst this
        exact ⟨d0, d1, d2⟩⟩⟩, by
        intro a n c e
        injection e with e1 e2 e3
        subst e1 e2 e3
        exact ⟨Nat.le_refl _, (fun h => by cases h), fun x h => by injection h with h; rw [← h]⟩⟩
    | 2, _ => exact ⟨c2, h3.keep hb, o3⟩)
  rw [hfl] at hc
  refine hc.mono ?_
  rintro e w1 ⟨v, rfl, hown, hok, hb1⟩
  exact ⟨v, rfl, hown.wider (by omega) (Nat.le_refl _) (Nat.le_refl _), hok, bel_trans hb hb1⟩

end Go.Proofs.Ytddpljalojcomab
