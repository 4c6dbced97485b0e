/- Ways with the fewest edges: mathematics. CountBest, in the program and in the model. CountBest, in the model. -/
import Derived.Test.YtjcfefpcilhelaaEndV
import Derived.Test.YtjcfefpcilhelaaRowAt
import Derived.Test.YtjcfefpcilhelaaBoxes
import Derived.Test.YtjcfefpcilhelaaRelaxJ
import Derived.Test.YtjcfefpcilhelaaLooseM
import Derived.Test.YtjcfefpcilhelaaViewT
import Derived.Test.YtjcfefpcilhelaaFind3
import Derived.Test.YtjcfefpcilhelaaVStartT
import Derived.Deep.CutBlock
import Derived.Deep.CutRange
namespace Go.Proofs.Ytjcfefpcilhelaa
set_option linter.unusedVariables false
set_option linter.unusedSimpArgs false

/-- One edge more, in the program. -/
def cwUp (cs acc : List Int) (e : Ed) : List Int := acc.set e.2.1.toNat (IntKind.i64.wrap (acc.getD e.2.1.toNat 0 + cs.getD e.1.toNat 0))
def cw (es : List Ed) (cs : List Int) : List Int := es.foldl (cwUp cs) (List.replicate cs.length 0)
def cwIt (es : List Ed) : Nat → List Int → List Int
  | 0, cs => cs
  | k + 1, cs => cw es (cwIt es k cs)
def cStart (N a : Nat) : List Int := (List.replicate N 0).set a 1
/-- What the program answers, with k rounds left. -/
def ciR (es : List Ed) (x : Nat) : Nat → List Int → Int
  | 0, _ => 0
  | k + 1, cs => if 0 < cs.getD x 0 then cs.getD x 0 else ciR es x k (cw es cs)
/-- One edge in the model. -/
def ccUp (L : List Int) (k : Int) (acc : List Int) (e : Ed) : List Int :=
  if L.getD e.2.1.toNat 0 = k ∧ L.getD e.1.toNat 0 = k - 1 then acc.set e.2.1.toNat (IntKind.i64.wrap (acc.getD e.2.1.toNat 0 + acc.getD e.1.toNat 0)) else acc
def ccIt (L : List Int) (es : List Ed) (N a : Nat) : Nat → List Int
  | 0 => cStart N a
  | k + 1 => es.foldl (ccUp L ((k + 1 : Nat) : Int)) (ccIt L es N a k)
/-- What edges to a node bring. -/
def sm (f : Nat → Int) (v : Nat) : List Ed → Int
  | [] => 0
  | e :: l => (if e.2.1.toNat = v then f e.1.toNat else 0) + sm f v l
theorem sm_bound {f : Nat → Int} {B : Int} (v : Nat) (hB : 0 ≤ B) : ∀ (l : List Ed), (∀ e ∈ l, 0 ≤ f e.1.toNat ∧ f e.1.toNat ≤ B) → 0 ≤ sm f v l ∧ sm f v l ≤ l.length * B
  | [], _ => by simp [sm]
  | e :: l, h => by
    have h1 := sm_bound v hB l (fun x hx => h x (List.mem_cons_of_mem _ hx))
    have h2 := h e (List.mem_cons_self ..)
    have e1 : ((e :: l).length : Int) * B = l.length * B + B := by
      rw [List.length_cons]; push_cast; rw [Int.add_mul, Int.one_mul]
    rw [e1, sm]
    split <;> omega
theorem sm_mem {f : Nat → Int} {v : Nat} : ∀ (l : List Ed), (∀ e ∈ l, 0 ≤ f e.1.toNat) → ∀ e ∈ l, e.2.1.toNat = v → f e.1.toNat ≤ sm f v l
  | [], _, e, h, _ => by cases h
  | x :: l, h, e, hm, hv => by
    have hn : 0 ≤ sm f v l := by
      have : ∀ (l : List Ed), (∀ e ∈ l, 0 ≤ f e.1.toNat) → 0 ≤ sm f v l := by
        intro l
        induction l with
        | nil => intro _; simp [sm]
        | cons y l ih =>
          intro h
          have h1 := ih (fun e he => h e (List.mem_cons_of_mem _ he))
          have h2 := h y (List.mem_cons_self ..)
          rw [sm]; split <;> omega
      exact this l (fun e he => h e (List.mem_cons_of_mem _ he))
    rw [sm]
    rcases List.mem_cons.1 hm with rfl | q
    · rw [if_pos hv]; omega
    · have h1 := sm_mem l (fun e he => h e (List.mem_cons_of_mem _ he)) e q hv
      have h2 := h x (List.mem_cons_self ..)
      split <;> omega
theorem sm_pos {f : Nat → Int} {v : Nat} : ∀ (l : List Ed), 0 < sm f v l → ∃ e ∈ l, e.2.1.toNat = v ∧ 0 < f e.1.toNat
  | [], h => by simp [sm] at h
  | x :: l, h => by
    rw [sm] at h
    by_cases q : x.2.1.toNat = v ∧ 0 < f x.1.toNat
    · exact ⟨x, List.mem_cons_self .., q.1, q.2⟩
    · have : 0 < sm f v l := by
        split at h
        · rename_i r
          have : ¬ 0 < f x.1.toNat := fun s => q ⟨r, s⟩
          omega
        · omega
      obtain ⟨e, h1, h2⟩ := sm_pos l this
      exact ⟨e, List.mem_cons_of_mem _ h1, h2⟩
theorem sm_congr {f g : Nat → Int} {v : Nat} : ∀ (l : List Ed), (∀ e ∈ l, e.2.1.toNat = v → f e.1.toNat = g e.1.toNat) → sm f v l = sm g v l
  | [], _ => rfl
  | x :: l, h => by
    rw [sm, sm, sm_congr l (fun e he => h e (List.mem_cons_of_mem _ he))]
    split
    · rename_i q; rw [h x (List.mem_cons_self ..) q]
    · rfl
theorem wrap_ok {z : Int} (h0 : 0 ≤ z) (h1 : z ≤ 4611686018427387904) : IntKind.i64.wrap z = z := by rw [IntKind.wrap_i64]; omega
theorem cw_fold {N : Nat} {cs : List Int} {B : Int} (hB : 0 ≤ B) : ∀ (l : List Ed) (acc : List Int), acc.length = N → (∀ e ∈ l, e.2.1.toNat < N ∧ 0 ≤ cs.getD e.1.toNat 0 ∧ cs.getD e.1.toNat 0 ≤ B) → (∀ v, v < N → 0 ≤ acc.getD v 0 ∧ acc.getD v 0 + l.length * B ≤ 4611686018427387904) →
    (l.foldl (cwUp cs) acc).length = N ∧ ∀ v, v < N → (l.foldl (cwUp cs) acc).getD v 0 = acc.getD v 0 + sm (fun u => cs.getD u 0) v l
  | [], acc, hl, _, _ => ⟨hl, fun v hv => by simp [sm]⟩
  | e :: l, acc, hl, he, ha => by
    have h1 := he e (List.mem_cons_self ..)
    have e1 : ((e :: l).length : Int) * B = l.length * B + B := by
      rw [List.length_cons]; push_cast; rw [Int.add_mul, Int.one_mul]
    have hlb : 0 ≤ (l.length : Int) * B := Int.mul_nonneg (by omega) hB
    have h2 := ha _ h1.1
    rw [e1] at h2
    have hw : IntKind.i64.wrap (acc.getD e.2.1.toNat 0 + cs.getD e.1.toNat 0) = acc.getD e.2.1.toNat 0 + cs.getD e.1.toNat 0 := wrap_ok (by omega) (by omega)
    have hup : ∀ v, v < N → (cwUp cs acc e).getD v 0 = acc.getD v 0 + (if e.2.1.toNat = v then cs.getD e.1.toNat 0 else 0) := by
      intro v hv
      unfold cwUp
      rw [hw, getD_set _ _ _ _ (by omega)]
      split
      · rename_i q; rw [q]
      · omega
    have hl2 : (cwUp cs acc e).length = N := by unfold cwUp; rw [List.length_set, hl]
    obtain ⟨h3, h4⟩ := cw_fold hB l (cwUp cs acc e) hl2 (fun x hx => he x (List.mem_cons_of_mem _ hx)) (fun v hv => by
      have h5 := ha v hv
      rw [e1] at h5
      rw [hup v hv]
      split <;> omega)
    refine ⟨h3, fun v hv => ?_⟩
    rw [List.foldl_cons, h4 v hv, hup v hv, sm]
    omega
theorem cc_fold {N : Nat} {L acc0 : List Int} {k B : Int} (hB : 0 ≤ B) (hg : ∀ u, u < N → L.getD u 0 = k - 1 → 0 ≤ acc0.getD u 0 ∧ acc0.getD u 0 ≤ B) : ∀ (l : List Ed) (acc : List Int), acc.length = N → (∀ e ∈ l, e.1.toNat < N ∧ e.2.1.toNat < N) → (∀ u, u < N → L.getD u 0 = k - 1 → acc.getD u 0 = acc0.getD u 0) → (∀ v, v < N → L.getD v 0 = k → 0 ≤ acc.getD v 0 ∧ acc.getD v 0 + l.length * B ≤ 4611686018427387904) →
    (l.foldl (ccUp L k) acc).length = N ∧ ∀ v, v < N → (l.foldl (ccUp L k) acc).getD v 0 = if L.getD v 0 = k then acc.getD v 0 + sm (fun u => if L.getD u 0 = k - 1 then acc0.getD u 0 else 0) v l else acc.getD v 0
  | [], acc, hl, _, _, _ => ⟨hl, fun v hv => by simp [sm]⟩
  | e :: l, acc, hl, he, hu, ha => by
    have h1 := he e (List.mem_cons_self ..)
    have e1 : ((e :: l).length : Int) * B = l.length * B + B := by
      rw [List.length_cons]; push_cast; rw [Int.add_mul, Int.one_mul]
    have hlb : 0 ≤ (l.length : Int) * B := Int.mul_nonneg (by omega) hB
    have hup : ∀ v, v < N → (ccUp L k acc e).getD v 0 = if L.getD v 0 = k then acc.getD v 0 + (if e.2.1.toNat = v then (if L.getD e.1.toNat 0 = k - 1 then acc0.getD e.1.toNat 0 else 0) else 0) else acc.getD v 0 := by
      intro v hv
      unfold ccUp
      by_cases q : L.getD e.2.1.toNat 0 = k ∧ L.getD e.1.toNat 0 = k - 1
      · rw [if_pos q]
        have h2 := ha _ h1.2 q.1
        rw [e1] at h2
        have h3 := hu _ h1.1 q.2
        have h4 := hg _ h1.1 q.2
        rw [h3, wrap_ok (by omega) (by omega), getD_set _ _ _ _ (by omega), if_pos q.2]
        by_cases r : e.2.1.toNat = v
        · rw [if_pos r, if_pos r, ← r, if_pos q.1]
        · rw [if_neg r, if_neg r]
          split <;> omega
      · rw [if_neg q]
        by_cases r : L.getD v 0 = k
        · rw [if_pos r]
          by_cases s : e.2.1.toNat = v
          · rw [if_pos s, if_neg (fun t => q ⟨by rw [s]; exact r, t⟩)]; omega
          · rw [if_neg s]; omega
        · rw [if_neg r]
    have hl2 : (ccUp L k acc e).length = N := by unfold ccUp; split; rw [List.length_set, hl]; exact hl
    obtain ⟨h3, h4⟩ := cc_fold hB hg l (ccUp L k acc e) hl2 (fun x hx => he x (List.mem_cons_of_mem _ hx)) (fun u hu1 hu2 => by
      rw [hup u hu1, if_neg (by omega)]
      exact hu u hu1 hu2) (fun v hv hk => by
      have h5 := ha v hv hk
      rw [e1] at h5
      rw [hup v hv, if_pos hk]
      split
      · split
        · rename_i r s
          have := hg _ h1.1 s
          omega
        · omega
      · omega)
    refine ⟨h3, fun v hv => ?_⟩
    rw [List.foldl_cons, h4 v hv, hup v hv, sm]
    by_cases r : L.getD v 0 = k
    · rw [if_pos r, if_pos r, if_pos r]; omega
    · rw [if_neg r, if_neg r, if_neg r]

def bd : Nat → Int
  | 0 => 1
  | k + 1 => 40 * bd k
theorem bd_le {k : Nat} (hk : k ≤ 11) : 1 ≤ bd k ∧ bd k ≤ 419430400000000000 := by
  obtain rfl | rfl | rfl | rfl | rfl | rfl | rfl | rfl | rfl | rfl | rfl | rfl : k = 0 ∨ k = 1 ∨ k = 2 ∨ k = 3 ∨ k = 4 ∨ k = 5 ∨ k = 6 ∨ k = 7 ∨ k = 8 ∨ k = 9 ∨ k = 10 ∨ k = 11 := by omega
  all_goals decide
section
variable {N a : Nat} {es : List Ed}
theorem cStart_at {v : Nat} (hv : v < N) : (cStart N a).getD v 0 = if a = v then 1 else 0 := by
  unfold cStart
  rw [getD_set _ _ _ _ (by simpa using hv)]
  split
  · rfl
  · simp [List.getD, hv]
theorem cStart_length : (cStart N a).length = N := by unfold cStart; simp
theorem cwUp_length (cs acc : List Int) (e : Ed) : (cwUp cs acc e).length = acc.length := by unfold cwUp; simp
theorem cwF_length (cs : List Int) : ∀ (l : List Ed) (acc : List Int), (l.foldl (cwUp cs) acc).length = acc.length
  | [], _ => rfl
  | e :: l, acc => by rw [List.foldl_cons, cwF_length cs l, cwUp_length]
theorem cw_length (cs : List Int) : (cw es cs).length = cs.length := by unfold cw; rw [cwF_length, List.length_replicate]
theorem cwIt_length (cs : List Int) : ∀ k, (cwIt es k cs).length = cs.length
  | 0 => rfl
  | k + 1 => by rw [cwIt, cw_length, cwIt_length cs k]
theorem cwIt_comm (cs : List Int) : ∀ k, cwIt es k (cw es cs) = cw es (cwIt es k cs)
  | 0 => rfl
  | k + 1 => by rw [cwIt, cwIt_comm cs k, cwIt]
/-- One round's counts. -/
theorem cw_at {cs : List Int} {B : Int} (hB : 0 ≤ B) (h40 : es.length ≤ 40) (hB2 : 40 * B ≤ 4611686018427387904) (hl : cs.length = N) (he : eAll N es) (hc : ∀ v, v < N → 0 ≤ cs.getD v 0 ∧ cs.getD v 0 ≤ B) {v : Nat} (hv : v < N) :
    (cw es cs).getD v 0 = sm (fun u => cs.getD u 0) v es ∧ 0 ≤ (cw es cs).getD v 0 ∧ (cw es cs).getD v 0 ≤ 40 * B := by
  have hz : ∀ v, v < N → (List.replicate cs.length (0 : Int)).getD v 0 = 0 := fun v hv => by
    rw [hl]; simp [List.getD, hv]
  have hle : (es.length : Int) * B ≤ 40 * B := Int.mul_le_mul_of_nonneg_right (by omega) hB
  have h := (cw_fold (cs := cs) hB es (List.replicate cs.length 0) (by rw [List.length_replicate, hl]) (fun e hein => ⟨(he e hein).2.1.2, hc _ (he e hein).1.2⟩) (fun v hv => by
    rw [hz v hv]; omega)).2 v hv
  have e1 : (cw es cs).getD v 0 = sm (fun u => cs.getD u 0) v es := by
    unfold cw; rw [h, hz v hv]; omega
  have hb := sm_bound (f := fun u => cs.getD u 0) v hB es (fun e hein => hc _ (he e hein).1.2)
  rw [e1]
  exact ⟨rfl, hb.1, by omega⟩
/-- The numbers of walks. -/
theorem wk_bound (h40 : es.length ≤ 40) (he : eAll N es) : ∀ k, k ≤ 11 → ∀ v, v < N → 0 ≤ (cwIt es k (cStart N a)).getD v 0 ∧ (cwIt es k (cStart N a)).getD v 0 ≤ bd k
  | 0, _, v, hv => by
    show 0 ≤ (cStart N a).getD v 0 ∧ (cStart N a).getD v 0 ≤ 1
    rw [cStart_at hv]; split <;> omega
  | k + 1, hk, v, hv => by
    have h1 := wk_bound h40 he k (by omega)
    have h2 := bd_le (show k ≤ 11 by omega)
    have h3 := bd_le hk
    have h4 : bd (k + 1) = 40 * bd k := rfl
    have := cw_at (B := bd k) (by omega) h40 (by omega) (by rw [cwIt_length, cStart_length]) he h1 hv
    rw [h4]
    exact this.2
theorem wk_succ (h40 : es.length ≤ 40) (he : eAll N es) {k : Nat} (hk : k + 1 ≤ 11) {v : Nat} (hv : v < N) : (cwIt es (k + 1) (cStart N a)).getD v 0 = sm (fun u => (cwIt es k (cStart N a)).getD u 0) v es := by
  have h1 := wk_bound (a := a) h40 he k (by omega)
  have h2 := bd_le (show k ≤ 11 by omega)
  have h3 := bd_le hk
  have h4 : bd (k + 1) = 40 * bd k := rfl
  exact (cw_at (B := bd k) (by omega) h40 (by omega) (by rw [cwIt_length, cStart_length]) he h1 hv).1
/-- What is known of the numbers of edges. -/
structure HopL (N a : Nat) (es : List Ed) (L : List Int) : Prop where
  low : ∀ v, v < N → 0 ≤ L.getD v 0
  src : L.getD a 0 = 0
  st : ∀ e ∈ es, L.getD e.2.1.toNat 0 ≤ L.getD e.1.toNat 0 + 1
  pos : ∀ v, v < N → L.getD v 0 < 100000 → L.getD v 0 + 1 ≤ N ∧ 0 < (cwIt es (L.getD v 0).toNat (cStart N a)).getD v 0
theorem wk_le (h40 : es.length ≤ 40) (he : eAll N es) {L : List Int} (hL : HopL N a es L) : ∀ k : Nat, k ≤ 11 → ∀ v, v < N → 0 < (cwIt es k (cStart N a)).getD v 0 → L.getD v 0 ≤ k
  | 0, _, v, hv, h => by
    rw [show cwIt es 0 (cStart N a) = cStart N a from rfl, cStart_at hv] at h
    split at h
    · rename_i q; rw [← q, hL.src]; omega
    · omega
  | k + 1, hk, v, hv, h => by
    rw [wk_succ h40 he hk hv] at h
    obtain ⟨e, h1, h2, h3⟩ := sm_pos es h
    have h4 := wk_le h40 he hL k (by omega) _ (he e h1).1.2 h3
    have h5 := hL.st e h1
    rw [h2] at h5
    omega
theorem cc_inv (h40 : es.length ≤ 40) (h12 : N ≤ 12) (he : eAll N es) {L : List Int} (hL : HopL N a es L) : ∀ k : Nat, k + 1 ≤ N → (ccIt L es N a k).length = N ∧ ∀ v, v < N → (ccIt L es N a k).getD v 0 = if L.getD v 0 ≤ k then (cwIt es (L.getD v 0).toNat (cStart N a)).getD v 0 else 0
  | 0, hk => by
    refine ⟨cStart_length, fun v hv => ?_⟩
    show (cStart N a).getD v 0 = _
    have h0 := hL.low v hv
    by_cases q : L.getD v 0 ≤ ((0 : Nat) : Int)
    · rw [if_pos q, show (L.getD v 0).toNat = 0 by omega]; rfl
    · rw [if_neg q, cStart_at hv, if_neg]
      intro r
      have := hL.src
      rw [r] at this
      omega
  | k + 1, hk => by
    obtain ⟨h1, h2⟩ := cc_inv h40 h12 he hL k (by omega)
    have hb := wk_bound (a := a) h40 he k (by omega)
    have h3 := bd_le (show k ≤ 11 by omega)
    have h4 := bd_le (show k + 1 ≤ 11 by omega)
    have h5 : bd (k + 1) = 40 * bd k := rfl
    have hle : (es.length : Int) * bd k ≤ 40 * bd k := Int.mul_le_mul_of_nonneg_right (by omega) (by omega)
    have h6 := cc_fold (N := N) (L := L) (acc0 := ccIt L es N a k) (k := ((k + 1 : Nat) : Int)) (B := bd k) (by omega)
      (fun u hu q => by rw [h2 u hu, if_pos (by omega), show (L.getD u 0).toNat = k by omega]; exact hb u hu) es (ccIt L es N a k) h1 (fun e hein => ⟨(he e hein).1.2, (he e hein).2.1.2⟩) (fun _ _ _ => rfl)
      (fun v hv q => by rw [h2 v hv, if_neg (by omega)]; omega)
    refine ⟨h6.1, fun v hv => ?_⟩
    show (es.foldl (ccUp L ((k + 1 : Nat) : Int)) (ccIt L es N a k)).getD v 0 = _
    rw [h6.2 v hv, h2 v hv]
    by_cases q : L.getD v 0 = ((k + 1 : Nat) : Int)
    · rw [if_pos q, if_neg (by omega), if_pos (by omega), q, show (((k + 1 : Nat) : Int)).toNat = k + 1 by omega, wk_succ h40 he (by omega) hv, Int.zero_add]
      refine sm_congr es (fun e hein hev => ?_)
      have hf := (he e hein).1.2
      have hst := hL.st e hein
      rw [hev] at hst
      by_cases r : L.getD e.1.toNat 0 = ((k + 1 : Nat) : Int) - 1
      · rw [if_pos r, h2 _ hf, if_pos (by omega), show (L.getD e.1.toNat 0).toNat = k by omega]
      · rw [if_neg r]
        have h7 := (hb _ hf).1
        by_cases s : 0 < (cwIt es k (cStart N a)).getD e.1.toNat 0
        · have := wk_le h40 he hL k (by omega) _ hf s
          omega
        · omega
    · rw [if_neg q]
      by_cases r : L.getD v 0 ≤ (k : Int)
      · rw [if_pos r, if_pos (by omega)]
      · rw [if_neg r, if_neg (by omega)]
theorem ci_go (es : List Ed) (x : Nat) : ∀ (j k : Nat) (cs : List Int), (∀ i, i < j → (cwIt es i cs).getD x 0 ≤ 0) → j ≤ k → ciR es x k cs = ciR es x (k - j) (cwIt es j cs)
  | 0, k, cs, _, _ => rfl
  | j + 1, 0, cs, _, h => by omega
  | j + 1, k + 1, cs, h, hk => by
    have h0 := h 0 (by omega)
    have h0' : ¬ 0 < cs.getD x 0 := by
      have : cwIt es 0 cs = cs := rfl
      rw [this] at h0; omega
    rw [ciR, if_neg h0', ci_go es x j k (cw es cs) (fun i hi => by
      rw [cwIt_comm]; exact h (i + 1) (by omega)) (by omega), cwIt_comm, show k + 1 - (j + 1) = k - j by omega]
    rfl
/-- Both count the same. -/
theorem count_eq (h40 : es.length ≤ 40) (h12 : N ≤ 12) (he : eAll N es) {L : List Int} (hL : HopL N a es L) {x : Nat} (hx : x < N) : ciR es x N (cStart N a) = (ccIt L es N a (N - 1)).getD x 0 := by
  have h1 := (cc_inv h40 h12 he hL (N - 1) (by omega)).2 x hx
  rw [h1]
  have h0 := hL.low x hx
  have hneg : ∀ i : Nat, i < N → (i : Int) < L.getD x 0 → (cwIt es i (cStart N a)).getD x 0 ≤ 0 := fun i hi hlt => by
    by_cases q : 0 < (cwIt es i (cStart N a)).getD x 0
    · have := wk_le h40 he hL i (by omega) x hx q
      omega
    · omega
  by_cases q : L.getD x 0 ≤ ((N - 1 : Nat) : Int)
  · rw [if_pos q, ci_go es x (L.getD x 0).toNat N _ (fun i hi => hneg i (by omega) (by omega)) (by omega)]
    have hp := (hL.pos x hx (by omega)).2
    obtain ⟨r, hr⟩ : ∃ r, N - (L.getD x 0).toNat = r + 1 := ⟨N - (L.getD x 0).toNat - 1, by omega⟩
    rw [hr, ciR, if_pos hp]
  · rw [if_neg q, ci_go es x N N _ (fun i hi => hneg i hi (by omega)) (Nat.le_refl _), Nat.sub_self]
    rfl
/-- The right numbers of edges. -/
theorem hop_rt (h12 : N ≤ 12) (h40 : es.length ≤ 40) (he : eAll N es) (ha : a < N) : HopL N a es (vRt 5 N es a) := by
  have hm : mKind 5 = true := by decide
  have heN : eAll ((N : Int)).toNat es := by rw [Int.toNat_natCast]; exact he
  have hall := vRt_all (n := N) hm heN a
  have hlen : (vRt 5 N es a).length = N := by rw [vRt_length, Int.toNat_natCast]
  have hlow : ∀ v, v < N → 0 ≤ (vRt 5 N es a).getD v 0 ∧ (vRt 5 N es a).getD v 0 ≤ 100000 := fun v hv => by
    have h := mIn_low hm (hall v (by rw [hlen]; exact hv))
    exact h
  have hst := vRt_st (n := N) hm heN (a := (a : Int)) (by omega) (by omega)
  refine ⟨fun v hv => (hlow v hv).1, ?_, fun e hein => ?_, ?_⟩
  · have := vRt_src (n := N) hm heN (a := (a : Int)) (by omega) (by omega)
    rw [Int.toNat_natCast] at this
    rw [this]; rfl
  · have h1 := hst e hein
    have h2 := hlow _ (he e hein).1.2
    have h3 := hlow _ (he e hein).2.1.2
    unfold vGive at h1
    simp [mBet, mJoin, mEdge] at h1
    simp only [List.getD] at *
    omega
  · have key : ∀ k v, k < N → v < N → (vIter 5 es k (vStart 5 N a)).getD v 0 < 100000 → (vIter 5 es k (vStart 5 N a)).getD v 0 ≤ k ∧ 0 < (cwIt es ((vIter 5 es k (vStart 5 N a)).getD v 0).toNat (cStart N a)).getD v 0 := by
      intro k
      induction k with
      | zero =>
        intro v _ hv h
        rw [show vIter 5 es 0 (vStart 5 N a) = vStart 5 N a from rfl, vStart_at 5 N a (by omega)] at h ⊢
        by_cases q : (v : Int) = a
        · rw [if_pos q] at h ⊢
          refine ⟨by simp [mOne], ?_⟩
          show 0 < (cStart N a).getD v 0
          rw [cStart_at hv, if_pos (by omega)]; omega
        · rw [if_neg q] at h
          simp [mNone] at h
      | succ k ih =>
        intro v hk hv h
        have hA := vIter_all (es := es) hm (vStart_all (n := N) (src := a) hm) (by rw [vStart_length]; exact heN) k
        have hl2 : (vIter 5 es k (vStart 5 N a)).length = N := by rw [vIter_length, vStart_length, Int.toNat_natCast]
        have h2 := ((vFold_at hm hA es _ rfl (by rw [hl2]; exact he) hA).2 v (by rw [hl2]; exact hv)).2.2
        have e1 : vIter 5 es (k + 1) (vStart 5 N a) = es.foldl (vUp 5 (vIter 5 es k (vStart 5 N a))) (vIter 5 es k (vStart 5 N a)) := rfl
        rw [e1] at h ⊢
        rcases h2 with h2 | ⟨e, hein, hev, h2⟩
        · rw [h2] at h ⊢
          obtain ⟨h3, h4⟩ := ih v (by omega) hv h
          exact ⟨by omega, h4⟩
        · rw [h2] at h ⊢
          have hf := (he e hein).1.2
          have hin := mIn_low hm (hA e.1.toNat (by rw [hl2]; exact hf))
          have hin1 : 0 ≤ (vIter 5 es k (vStart 5 N a)).getD e.1.toNat 0 ∧ (vIter 5 es k (vStart 5 N a)).getD e.1.toNat 0 ≤ 100000 := hin
          have eg : vGive 5 (vIter 5 es k (vStart 5 N a)) e = min ((vIter 5 es k (vStart 5 N a)).getD e.1.toNat 0 + 1) 100000 := by
            unfold vGive mJoin mEdge
            simp
          rw [eg] at h ⊢
          have hlt : (vIter 5 es k (vStart 5 N a)).getD e.1.toNat 0 < 100000 := by omega
          obtain ⟨h3, h4⟩ := ih e.1.toNat (by omega) hf hlt
          have e2 : min ((vIter 5 es k (vStart 5 N a)).getD e.1.toNat 0 + 1) 100000 = (vIter 5 es k (vStart 5 N a)).getD e.1.toNat 0 + 1 := by omega
          rw [e2]
          refine ⟨by omega, ?_⟩
          have e3 : ((vIter 5 es k (vStart 5 N a)).getD e.1.toNat 0 + 1).toNat = ((vIter 5 es k (vStart 5 N a)).getD e.1.toNat 0).toNat + 1 := by omega
          rw [e3, wk_succ h40 he (by omega) hv]
          have hb := wk_bound (a := a) h40 he ((vIter 5 es k (vStart 5 N a)).getD e.1.toNat 0).toNat (by omega)
          have := sm_mem (f := fun u => (cwIt es ((vIter 5 es k (vStart 5 N a)).getD e.1.toNat 0).toNat (cStart N a)).getD u 0) es (fun x hx => (hb _ (he x hx).1.2).1) e hein hev
          omega
    intro v hv h
    have e0 : vRt 5 N es a = vIter 5 es (N - 1) (vStart 5 N a) := by
      unfold vRt
      rw [Int.toNat_natCast]
      have := vEnd (n := N) (src := (a : Int)) hm heN (by omega) (by omega) (k := N - 1) (by omega)
      rw [show N - 1 + 1 = N by omega] at this
      exact this
    rw [e0] at h ⊢
    obtain ⟨h3, h4⟩ := key (N - 1) v (by omega) hv h
    exact ⟨by omega, h4⟩
end
end Go.Proofs.Ytjcfefpcilhelaa
namespace Go.Proofs.Ytjcfefpcilhelaa
open Go.RowKit Go.BigFrame Go.Deep
set_option linter.unusedVariables false
set_option linter.unusedSimpArgs false

theorem Wr.madeC (w : World) (N : Nat) : Wr (w.alloc (.cells (madeCells #[.int .i64 0] N) 3)) w.heap.size 0 (List.replicate N 0) := by
  obtain ⟨c, h1, h2, h3⟩ := World.rowIs_made w (.int .i64 0) N 3
  have hs : w.heap.size < (w.alloc (.cells (madeCells #[.int .i64 0] N) 3)).heap.size := by simp
  generalize (w.alloc (.cells (madeCells #[.int .i64 0] N) 3)) = W at h1 hs ⊢
  refine ⟨hs, fun i hi => ?_⟩
  have hi' : i < N := by simpa using hi
  have e : (List.replicate N (0 : Int)).getD i 0 = 0 := by simp [List.getD, hi']
  rw [e, Nat.zero_add]
  exact ⟨by simp [World.cell?, h1, h3 i hi'], by simp [World.frozen?, h1]⟩
theorem cwT_succ (es : List Ed) (cs : List Int) {k : Nat} (hk : k < es.length) : (es.take (k + 1)).foldl (cwUp cs) (List.replicate cs.length 0) = cwUp cs ((es.take k).foldl (cwUp cs) (List.replicate cs.length 0)) (es.getD k (0, 0, 0)) := by
  rw [List.take_succ_eq_append_getElem hk, List.foldl_append]
  simp [List.getD, hk]
theorem ccT_succ (L : List Int) (l : Int) (es : List Ed) (cs : List Int) {k : Nat} (hk : k < es.length) : (es.take (k + 1)).foldl (ccUp L l) cs = ccUp L l ((es.take k).foldl (ccUp L l) cs) (es.getD k (0, 0, 0)) := by
  rw [List.take_succ_eq_append_getElem hk, List.foldl_append]
  simp [List.getD, hk]
theorem ccUp_length (L : List Int) (k : Int) (acc : List Int) (e : Ed) : (ccUp L k acc e).length = acc.length := by unfold ccUp; split; simp; rfl
theorem ccF_length (L : List Int) (k : Int) : ∀ (l : List Ed) (acc : List Int), (l.foldl (ccUp L k) acc).length = acc.length
  | [], _ => rfl
  | e :: l, acc => by rw [List.foldl_cons, ccF_length L k l, ccUp_length]
theorem ccIt_length (L : List Int) (es : List Ed) (N a : Nat) : ∀ k, (ccIt L es N a k).length = N
  | 0 => cStart_length
  | k + 1 => by rw [ccIt, ccF_length, ccIt_length L es N a k]
theorem ccUp_at (L : List Int) (k : Int) (acc : List Int) (x y z : Int) : ccUp L k acc (x, y, z) = if L.getD y.toNat 0 = k ∧ L.getD x.toNat 0 = k - 1 then acc.set y.toNat (IntKind.i64.wrap (acc.getD y.toNat 0 + acc.getD x.toNat 0)) else acc := rfl
/-- What is answered. -/
def cbB (n : Int) (es : List Ed) (a x : Int) : Bool := gVal n es && inN n a && inN n x
def cbN (n : Int) (es : List Ed) (a x : Int) : Int := if cbB n es a x = true then ciR es x.toNat n.toNat (cStart n.toNat a.toNat) else 0

set_option maxRecDepth 20000 in
set_option maxHeartbeats 4000000 in
theorem countsOfLonger (es : List Ed) (cs : List Int) (s t : Value) (w : World) (hs : RowE w s es) (ht : Row w t cs) (hl : es.length ≤ 1048576) (hl2 : cs.length ≤ 1048576) (h0 : 0 < cs.length) (he : eAll cs.length es) :
    Calls Try.prog 81 #[s, t] w fun e w' => ∃ b, e = .returned (.slice (some ⟨b, 0, none⟩) cs.length cs.length) ∧ w.heap.size ≤ b ∧ Wr w' b 0 (cw es cs) ∧ Below w.heap.size w w' := by
  obtain ⟨ad, cap, rfl, hz0⟩ := hs
  obtain ⟨tb, tq, tc, rfl, htb, htc⟩ := ht.at h0
  have HZ := Lib.hid hz0
  have HT := Lib.hid (And.intro htb htc)
  have HE := Lib.hid he
  obtain ⟨S, hS⟩ : ∃ S, S = w.heap.size := ⟨_, rfl⟩
  have hst : Wr (w.alloc (.cells (madeCells #[.int .i64 0] cs.length) 3)) S 0 ((es.take 0).foldl (cwUp cs) (List.replicate cs.length 0)) := by rw [hS]; exact Wr.madeC w cs.length
  have HST := Lib.hid (And.intro hst ((Below.refl _ w).alloc (Nat.le_refl _) (.cells (madeCells #[.int .i64 0] cs.length) 3)))
  have HSS := Lib.hid hS
  clear hz0 htb htc ht he hst
  have hmk := run_make_row' (P := Try.prog) 28 3 (.int .i64 0) 8 Try.underlying28 info_int2 rfl .i64 .i64 cs.length (by omega) (by omega)
  go_enter Try.func81, Try.ntmps81
  go_wp2
  clear hmk
  rw [← HSS.out]
  generalize (w.alloc (.cells (madeCells #[.int .i64 0] cs.length) 3)) = W1 at HST ⊢
  clear hS
  go_loopw [13] (fun c wr => ∃ k : Nat, k ≤ es.length ∧ c = .int .i64 k ∧ Hid (Wr wr S 0 ((es.take k).foldl (cwUp cs) (List.replicate cs.length 0)) ∧ Below w.heap.size w wr)) (fun c _ => es.length - (intOf c).toNat)
  case atStart => exact ⟨0, Nat.zero_le _, rfl, HST⟩
  case round =>
    obtain ⟨k, hk, rfl, H⟩ := hrel
    by_cases hlt : k < es.length
    · have hlt' : (k : Int) < es.length := by omega
      rcases HZ.out with h00 | ⟨b, off, rfl, hb, hc⟩
      · rw [h00] at hlt; simp at hlt
      obtain ⟨x, y, z, hx⟩ : ∃ x y z, (x, y, z) = es.getD k (0, 0, 0) := ⟨_, _, _, rfl⟩
      obtain ⟨X, Y, rfl, rfl, hX, hY, hwz⟩ := edge_nat HE.out hlt hx
      have h1 := hc k hlt
      rw [← hx] at h1
      simp only at h1
      have c0 := (H.out.2.cell (p := ⟨b, off + k * 3, none⟩) hb).trans h1.1
      have c1 := (H.out.2.cell (p := ⟨b, off + k * 3 + 1, none⟩) hb).trans h1.2.1
      have c2 := (H.out.2.cell (p := ⟨b, off + k * 3 + 2, none⟩) hb).trans h1.2.2
      have hsc := cwT_succ es cs hlt
      rw [← hx] at hsc
      have hml : ((es.take k).foldl (cwUp cs) (List.replicate cs.length 0)).length = cs.length := by rw [cwF_length, List.length_replicate]
      obtain ⟨M, hM⟩ : ∃ M, M = (es.take k).foldl (cwUp cs) (List.replicate cs.length 0) := ⟨_, rfl⟩
      rw [← hM] at hsc hml H
      unfold cwUp at hsc
      obtain ⟨p, hp⟩ : ∃ p, p = M.getD Y 0 := ⟨_, rfl⟩
      obtain ⟨r, hr⟩ : ∃ r, r = cs.getD X 0 := ⟨_, rfl⟩
      obtain ⟨q, hq⟩ : ∃ q, q = IntKind.i64.wrap (p + r) := ⟨_, rfl⟩
      have hsc2 : (es.take (k + 1)).foldl (cwUp cs) (List.replicate cs.length 0) = M.set Y q := by rw [hq, hp, hr]; exact hsc
      have hwr : IntKind.i64.wrap (p + r) = q := hq.symm
      have hYc : Y < M.length := by omega
      have hcp := H.out.1.2 Y hYc
      rw [← hp, Nat.zero_add] at hcp
      have hcr := (H.out.2.cell (p := ⟨tb, tq + X, none⟩) HT.out.1).trans (by rw [HT.out.2 X hX, ← hr])
      have hYl : (Y : Int) < cs.length := by omega
      have hXl : (X : Int) < cs.length := by omega
      have hSl := H.out.1.1
      have htl : tb < wr.heap.size := Nat.lt_of_lt_of_le HT.out.1 H.out.2.size
      have hff : (wr.alloc (.cells #[.int .i64 X, .int .i64 Y, .int .i64 z] 36)).cell? ⟨wr.heap.size, 0, none⟩ = some (.int .i64 X) ∧ (wr.alloc (.cells #[.int .i64 X, .int .i64 Y, .int .i64 z] 36)).cell? ⟨wr.heap.size, 1, none⟩ = some (.int .i64 Y) ∧ (wr.alloc (.cells #[.int .i64 X, .int .i64 Y, .int .i64 z] 36)).cell? ⟨S, Y, none⟩ = some (.int .i64 p) ∧ (wr.alloc (.cells #[.int .i64 X, .int .i64 Y, .int .i64 z] 36)).frozen? ⟨S, Y, none⟩ = false ∧ (wr.alloc (.cells #[.int .i64 X, .int .i64 Y, .int .i64 z] 36)).cell? ⟨tb, tq + X, none⟩ = some (.int .i64 r) :=
        have hb := (Below.refl _ wr).alloc (Nat.le_refl _) (.cells #[.int .i64 X, .int .i64 Y, .int .i64 z] 36)
        ⟨by go_simp, by go_simp, (hb.cell (p := ⟨S, _, none⟩) hSl).trans hcp.1, (hb.frozen (p := ⟨S, _, none⟩) hSl).trans hcp.2, (hb.cell (p := ⟨tb, _, none⟩) htl).trans hcr⟩
      have HN : Hid (Wr ((wr.alloc (.cells #[.int .i64 X, .int .i64 Y, .int .i64 z] 36)).setCell ⟨S, Y, none⟩ (.int .i64 q)) S 0 ((es.take (k + 1)).foldl (cwUp cs) (List.replicate cs.length 0)) ∧ Below w.heap.size w ((wr.alloc (.cells #[.int .i64 X, .int .i64 Y, .int .i64 z] 36)).setCell ⟨S, Y, none⟩ (.int .i64 q))) := Lib.hid (by
        have h2 := (H.out.1.keep ((Below.refl _ wr).alloc (Nat.le_refl _) (.cells #[.int .i64 X, .int .i64 Y, .int .i64 z] 36))).set hYc q
        rw [Nat.zero_add] at h2
        exact ⟨by rw [hsc2]; exact h2, (H.out.2.alloc H.out.2.size _).setCell (by rw [HSS.out]; exact Nat.le_refl _) _⟩)
      have HFF := Lib.hid hff
      clear hc h1 hx hsc hsc2 hml hM hp hr hq hcp hcr hff hwz
      go_wp2
      generalize (wr.alloc (.cells #[.int .i64 X, .int .i64 Y, .int .i64 z] 36)) = W2 at HN HFF ⊢
      clear c0 c1 c2
      obtain ⟨f0, f1, f2, f3, f4⟩ := HFF.out
      have HND := Lib.hid (And.intro (HN.out.1.keep ((Below.refl _ _).drew)) HN.out.2.drew)
      go_region
      all_goals go_wp2
      all_goals go_roundw
      all_goals first | (simp [intOf]; omega) | exact ⟨k + 1, by omega, by go_num, HN⟩ | exact ⟨k + 1, by omega, by go_num, HND⟩ | ((repeat apply Exists.intro); exact ⟨⟨k + 1, by omega, by go_num, HND⟩, rfl⟩)
    · have hke : k = es.length := by omega
      have hkk : ¬ ((k : Int) < es.length) := by omega
      have HK := Lib.hid hke
      clear hke
      go_wp2
      go_ret
      refine ⟨S, rfl, by rw [HSS.out]; exact Nat.le_refl _, ?_, H.out.2⟩
      have h := H.out.1
      rw [HK.out, List.take_length] at h
      exact h

theorem rowN {w : World} {b : Nat} {zs : List Int} {N cap : Nat} (hl : zs.length = N) (h : Row w (.slice (some ⟨b, 0, none⟩) zs.length cap) zs) : Row w (.slice (some ⟨b, 0, none⟩) N cap) zs := by rw [← hl]; exact h

set_option maxRecDepth 20000 in
set_option maxHeartbeats 4000000 in
theorem countBest (n a x : Int) (es : List Ed) (s : Value) (w : World) (hs : RowE w s es) (hl : es.length ≤ 281474976710656) :
    Calls Try.prog 36 #[.agg #[.int .i64 n, s], .int .i64 a, .int .i64 x] w fun e w' => e = .returned (.tuple #[.int .i64 (cbN n es a x), .bool (cbB n es a x)]) ∧ Below w.heap.size w w' := by
  have hv := fun w' (h : Below w.heap.size w w') => graphValid n es s w' (hs.keep h) hl
  have hh := fun (y : Int) w' => hasNode n y s w'
  have hS := Lib.hid hs
  obtain ⟨ad, cap, rfl, hz0⟩ := hs
  have K0 := Lib.hid (And.intro ((Below.refl _ w).alloc (Nat.le_refl _) (.cells #[.int .i64 n, .slice ad es.length cap] 25)) (Box.new w 25 #[.int .i64 n, .slice ad es.length cap]))
  clear hz0
  unfold cbN cbB
  have e1 : ∀ y, (decide (0 ≤ y) && decide (y < n)) = inN n y := fun _ => rfl
  simp only [e1] at hh
  clear e1
  have h1 := fun w' => hh a w'
  have h2 := fun w' => hh x w'
  clear hh
  cases hG : gVal n es
  · rw [hG] at hv
    have HV := Lib.hid hv
    rw [Bool.false_and, Bool.false_and, if_neg (by decide)]
    clear hv hG h1 h2
    go_enter Try.func36, Try.ntmps36
    go_wp2_with fail
    generalize (w.alloc (.cells #[.int .i64 n, .slice ad es.length cap] 25)) = w0 at K0 ⊢
    have x0 : w0.cell? ⟨w.heap.size, 0, none⟩ = some (.int .i64 n) := by simpa using K0.out.2.cell 0
    have x1 : w0.cell? ⟨w.heap.size, 1, none⟩ = some (.slice ad es.length cap) := by simpa using K0.out.2.cell 1
    go_wp2_with (go_at_call 76; (with_reducible refine (HV.out _ K0.out.1).mono ?_); rintro e w1 ⟨rfl, hb1⟩; have K1 := Lib.hid (And.intro (bel_trans K0.out.1 hb1) (K0.out.2.keep hb1)); clear x0 x1 hb1; have x0 : w1.cell? ⟨w.heap.size, 0, none⟩ = some (.int .i64 n) := (by simpa using K1.out.2.cell 0); have x1 : w1.cell? ⟨w.heap.size, 1, none⟩ = some (.slice ad es.length cap) := (by simpa using K1.out.2.cell 1))
    go_ret2
    exact ⟨rfl, K1.out.1⟩
  rw [hG] at hv
  have HV := Lib.hid hv
  cases hA : inN n a
  · rw [hA] at h1
    have H1 := Lib.hid h1
    rw [Bool.and_false, Bool.false_and, if_neg (by decide)]
    clear hv hG h1 h2 hA
    go_enter Try.func36, Try.ntmps36
    go_wp2_with fail
    generalize (w.alloc (.cells #[.int .i64 n, .slice ad es.length cap] 25)) = w0 at K0 ⊢
    have x0 : w0.cell? ⟨w.heap.size, 0, none⟩ = some (.int .i64 n) := by simpa using K0.out.2.cell 0
    have x1 : w0.cell? ⟨w.heap.size, 1, none⟩ = some (.slice ad es.length cap) := by simpa using K0.out.2.cell 1
    go_wp2_with (first | (go_at_call 76; (with_reducible refine (HV.out _ K0.out.1).mono ?_); rintro e w1 ⟨rfl, hb1⟩; have K1 := Lib.hid (And.intro (bel_trans K0.out.1 hb1) (K0.out.2.keep hb1)); clear x0 x1 hb1; have x0 : w1.cell? ⟨w.heap.size, 0, none⟩ = some (.int .i64 n) := (by simpa using K1.out.2.cell 0); have x1 : w1.cell? ⟨w.heap.size, 1, none⟩ = some (.slice ad es.length cap) := (by simpa using K1.out.2.cell 1)) | (go_at_call 67; (with_reducible refine (H1.out _).mono ?_); rintro e w2 ⟨rfl, hb2⟩; have K2 := Lib.hid (And.intro (bel_trans K1.out.1 hb2) (K1.out.2.keep hb2)); clear x0 x1 hb2; have x0 : w2.cell? ⟨w.heap.size, 0, none⟩ = some (.int .i64 n) := (by simpa using K2.out.2.cell 0); have x1 : w2.cell? ⟨w.heap.size, 1, none⟩ = some (.slice ad es.length cap) := (by simpa using K2.out.2.cell 1)))
    go_ret2
    exact ⟨rfl, K2.out.1⟩
  rw [hA] at h1
  have H1 := Lib.hid h1
  cases hX : inN n x
  · rw [hX] at h2
    have H2 := Lib.hid h2
    rw [Bool.and_false, if_neg (by decide)]
    clear hv hG h1 h2 hA hX
    go_enter Try.func36, Try.ntmps36
    go_wp2_with fail
    generalize (w.alloc (.cells #[.int .i64 n, .slice ad es.length cap] 25)) = w0 at K0 ⊢
    have x0 : w0.cell? ⟨w.heap.size, 0, none⟩ = some (.int .i64 n) := by simpa using K0.out.2.cell 0
    have x1 : w0.cell? ⟨w.heap.size, 1, none⟩ = some (.slice ad es.length cap) := by simpa using K0.out.2.cell 1
    go_wp2_with (first | (go_at_call 76; (with_reducible refine (HV.out _ K0.out.1).mono ?_); rintro e w1 ⟨rfl, hb1⟩; have K1 := Lib.hid (And.intro (bel_trans K0.out.1 hb1) (K0.out.2.keep hb1)); clear x0 x1 hb1; have x0 : w1.cell? ⟨w.heap.size, 0, none⟩ = some (.int .i64 n) := (by simpa using K1.out.2.cell 0); have x1 : w1.cell? ⟨w.heap.size, 1, none⟩ = some (.slice ad es.length cap) := (by simpa using K1.out.2.cell 1)) | (go_at_call 67; (with_reducible refine (H1.out _).mono ?_); rintro e w2 ⟨rfl, hb2⟩; have K2 := Lib.hid (And.intro (bel_trans K1.out.1 hb2) (K1.out.2.keep hb2)); clear x0 x1 hb2; have x0 : w2.cell? ⟨w.heap.size, 0, none⟩ = some (.int .i64 n) := (by simpa using K2.out.2.cell 0); have x1 : w2.cell? ⟨w.heap.size, 1, none⟩ = some (.slice ad es.length cap) := (by simpa using K2.out.2.cell 1)) | (go_at_call 67; (with_reducible refine (H2.out _).mono ?_); rintro e w3 ⟨rfl, hb3⟩; have K3 := Lib.hid (And.intro (bel_trans K2.out.1 hb3) (K2.out.2.keep hb3)); clear x0 x1 hb3; have x0 : w3.cell? ⟨w.heap.size, 0, none⟩ = some (.int .i64 n) := (by simpa using K3.out.2.cell 0); have x1 : w3.cell? ⟨w.heap.size, 1, none⟩ = some (.slice ad es.length cap) := (by simpa using K3.out.2.cell 1)))
    go_ret2
    exact ⟨rfl, K3.out.1⟩
  rw [hX] at h2
  have H2 := Lib.hid h2
  rw [Bool.and_self, Bool.and_self, if_pos rfl]
  have ha2 : 0 ≤ a ∧ a < n := by unfold inN at hA; simpa using hA
  have hx2 : 0 ≤ x ∧ x < n := by unfold inN at hX; simpa using hX
  obtain ⟨g1, g2, g3, _⟩ := gVal_parts hG
  have hea := eAll_of hG
  obtain ⟨N, rfl⟩ : ∃ N : Nat, n = N := ⟨n.toNat, by omega⟩
  obtain ⟨A0, rfl⟩ : ∃ A0 : Nat, a = A0 := ⟨a.toNat, by omega⟩
  obtain ⟨X0, rfl⟩ : ∃ X0 : Nat, x = X0 := ⟨x.toNat, by omega⟩
  rw [Int.toNat_natCast] at hea
  rw [Int.toNat_natCast, Int.toNat_natCast, Int.toNat_natCast]
  have hlen : ∀ r, (cwIt es r (cStart N A0)).length = N := fun r => by rw [cwIt_length, cStart_length]
  have hco := fun r u w' (h : Below w.heap.size w w') (hu : Row w' u (cwIt es r (cStart N A0))) => countsOfLonger es (cwIt es r (cStart N A0)) (.slice ad es.length cap) u w' (hS.out.keep h) hu (by omega) (by rw [hlen]; omega) (by rw [hlen]; omega) (by rw [hlen]; exact hea)
  simp only [hlen] at hco
  have HCO := Lib.hid hco
  have HLN := Lib.hid hlen
  have HAX := Lib.hid (And.intro (show A0 < N by omega) (show X0 < N by omega))
  obtain ⟨R, hR⟩ : ∃ R, R = ciR es X0 N (cStart N A0) := ⟨_, rfl⟩
  rw [← hR]
  have HRR := Lib.hid hR
  have hAl : (A0 : Int) < N := by omega
  have hXl : (X0 : Int) < N := by omega
  have hN0 : ¬ ((N : Int) < 0) := by omega
  clear hv hG h1 h2 hA hX hea hlen hco hR ha2 hx2 g1
  have hmk := run_make_row' (P := Try.prog) 28 3 (.int .i64 0) 8 Try.underlying28 info_int2 rfl .i64 .i64 N (by omega) (by omega)
  go_enter Try.func36, Try.ntmps36
  go_wp2_with fail
  generalize (w.alloc (.cells #[.int .i64 N, .slice ad es.length cap] 25)) = w0 at K0 ⊢
  have x0 : w0.cell? ⟨w.heap.size, 0, none⟩ = some (.int .i64 N) := by simpa using K0.out.2.cell 0
  have x1 : w0.cell? ⟨w.heap.size, 1, none⟩ = some (.slice ad es.length cap) := by simpa using K0.out.2.cell 1
  go_upto_region 4 with (first | (go_at_call 76; (with_reducible refine (HV.out _ K0.out.1).mono ?_); rintro e w1 ⟨rfl, hb1⟩; have K1 := Lib.hid (And.intro (bel_trans K0.out.1 hb1) (K0.out.2.keep hb1)); clear x0 x1 hb1; have x0 : w1.cell? ⟨w.heap.size, 0, none⟩ = some (.int .i64 N) := (by simpa using K1.out.2.cell 0); have x1 : w1.cell? ⟨w.heap.size, 1, none⟩ = some (.slice ad es.length cap) := (by simpa using K1.out.2.cell 1)) | (go_at_call 67; (with_reducible refine (H1.out _).mono ?_); rintro e w2 ⟨rfl, hb2⟩; have K2 := Lib.hid (And.intro (bel_trans K1.out.1 hb2) (K1.out.2.keep hb2)); clear x0 x1 hb2; have x0 : w2.cell? ⟨w.heap.size, 0, none⟩ = some (.int .i64 N) := (by simpa using K2.out.2.cell 0); have x1 : w2.cell? ⟨w.heap.size, 1, none⟩ = some (.slice ad es.length cap) := (by simpa using K2.out.2.cell 1)) | (go_at_call 67; (with_reducible refine (H2.out _).mono ?_); rintro e w3 ⟨rfl, hb3⟩; have K3 := Lib.hid (And.intro (bel_trans K2.out.1 hb3) (K2.out.2.keep hb3)); clear x0 x1 hb3; have x0 : w3.cell? ⟨w.heap.size, 0, none⟩ = some (.int .i64 N) := (by simpa using K3.out.2.cell 0); have x1 : w3.cell? ⟨w.heap.size, 1, none⟩ = some (.slice ad es.length cap) := (by simpa using K3.out.2.cell 1)))
  clear hmk
  have hws : Wr (w3.alloc (.cells (madeCells #[.int .i64 0] N) 3)) w3.heap.size 0 (List.replicate N 0) := Wr.madeC w3 N
  have hw2 := hws.set (k := A0) (by simpa using HAX.out.1) 1
  rw [Nat.zero_add] at hw2
  have HW := Lib.hid (And.intro hw2 (And.intro ((K3.out.1.alloc K3.out.1.size (.cells (madeCells #[.int .i64 0] N) 3)).setCell (p := ⟨w3.heap.size, A0, none⟩) K3.out.1.size (.int .i64 1)) ((K3.out.2.alloc (.cells (madeCells #[.int .i64 0] N) 3)).setOther (B' := w3.heap.size) (by have := K3.out.2.lt; omega) A0 (.int .i64 1))))
  have hsz3 := K3.out.2.lt
  have m0 : (w3.alloc (.cells (madeCells #[.int .i64 0] N) 3)).cell? ⟨w3.heap.size, A0, none⟩ = some (.int .i64 0) := by
    have h := (hws.2 A0 (by simpa using HAX.out.1)).1
    rw [Nat.zero_add] at h
    rw [h]
    simp [List.getD, HAX.out.1]
  have m1 : (w3.alloc (.cells (madeCells #[.int .i64 0] N) 3)).frozen? ⟨w3.heap.size, A0, none⟩ = false := by
    have h := (hws.2 A0 (by simpa using HAX.out.1)).2
    rwa [Nat.zero_add] at h
  clear hws hw2 x1
  go_wp2_with fail
  clear m0 m1 x0
  have heq : (w3.alloc (.cells (madeCells #[.int .i64 0] N) 3)).setCell ⟨w3.heap.size, A0, none⟩ (.int .i64 1) = w3.alloc (.cells ((madeCells #[.int .i64 0] N).setIfInBounds A0 (.int .i64 1)) 3) := by go_simp
  rw [heq] at HW
  clear heq
  generalize (w3.alloc (.cells ((madeCells #[.int .i64 0] N).setIfInBounds A0 (.int .i64 1)) 3)) = W5 at HW ⊢
  obtain ⟨S, hS⟩ : ∃ S, S = w3.heap.size := ⟨_, rfl⟩
  rw [← hS] at HW ⊢
  clear hS
  go_loopw [8, 32] (fun v c wr => ∃ (r b : Nat), r ≤ N ∧ v = .slice (some ⟨b, 0, none⟩) N N ∧ c = .int .i64 r ∧ Hid (Wr wr b 0 (cwIt es r (cStart N A0)) ∧ Below w.heap.size w wr ∧ Box wr w.heap.size 25 #[.int .i64 N, .slice ad es.length cap]) ∧ Hid (R = ciR es X0 (N - r) (cwIt es r (cStart N A0)))) (fun _ c _ => N - (intOf c).toNat)
  case atStart => exact ⟨0, S, Nat.zero_le _, rfl, rfl, Lib.hid (And.intro (show Wr W5 S 0 (cwIt es 0 (cStart N A0)) from HW.out.1) HW.out.2), HRR⟩
  case round =>
    obtain ⟨r, b, hr, rfl, rfl, H, HQ⟩ := hrel
    have x0 : wr.cell? ⟨w.heap.size, 0, none⟩ = some (.int .i64 N) := by simpa using H.out.2.2.cell 0
    have x1 : wr.cell? ⟨w.heap.size, 1, none⟩ = some (.slice ad es.length cap) := by simpa using H.out.2.2.cell 1
    by_cases hlt : r < N
    · have hlt' : (r : Int) < N := by omega
      obtain ⟨y, hy⟩ : ∃ y, y = (cwIt es r (cStart N A0)).getD X0 0 := ⟨_, rfl⟩
      have hcy := (H.out.1.2 X0 (by rw [HLN.out]; exact HAX.out.2)).1
      rw [← hy, Nat.zero_add] at hcy
      have hci : ciR es X0 (N - r) (cwIt es r (cStart N A0)) = if 0 < y then y else ciR es X0 (N - (r + 1)) (cwIt es (r + 1) (cStart N A0)) := by
        obtain ⟨q, hq⟩ : ∃ q, N - r = q + 1 := ⟨N - r - 1, by omega⟩
        rw [hq, ciR, ← hy, show N - (r + 1) = q by omega]
        rfl
      have HCI := Lib.hid hci
      clear hci hy
      by_cases h0 : 0 < y
      · have HY : Hid (R = y) := Lib.hid (by rw [HQ.out, HCI.out, if_pos h0])
        go_wp2
        go_ret2
        refine ⟨?_, H.out.2.1⟩
        rw [HY.out]
        first | rfl | (go_simp; done) | (simp; done)
      · have HY : Hid (R = ciR es X0 (N - (r + 1)) (cwIt es (r + 1) (cStart N A0))) := Lib.hid (by rw [HQ.out, HCI.out, if_neg h0])
        go_wp2_with (go_at_call 81; (with_reducible refine (HCO.out r _ _ H.out.2.1 (rowN (HLN.out r) (H.out.1.row (cap := N)))).mono ?_); rintro e w6 ⟨b6, rfl, hb6, hw6, hbel6⟩; have H6 := Lib.hid (And.intro hw6 (And.intro (bel_trans H.out.2.1 hbel6) (H.out.2.2.keep hbel6))); clear hw6 hbel6 x0 x1)
        go_roundw
        all_goals first | (simp [intOf]; omega) | exact ⟨r + 1, b6, by omega, rfl, by go_num, H6, HY⟩ | ((repeat apply Exists.intro); exact ⟨⟨r + 1, b6, by omega, rfl, by go_num, H6, HY⟩, rfl⟩)
    · have hkk : ¬ ((r : Int) < N) := by omega
      have HY : Hid (R = 0) := Lib.hid (by rw [HQ.out, show N - r = 0 by omega]; rfl)
      go_wp2
      go_ret2
      refine ⟨?_, H.out.2.1⟩
      rw [HY.out]
      first | rfl | (go_simp; done) | (simp; done)

end Go.Proofs.Ytjcfefpcilhelaa
namespace Go.Proofs.Ytjcfefpcilhelaa
open Go.RowKit Go.BigFrame Go.Deep
set_option linter.unusedVariables false
set_option linter.unusedSimpArgs false

theorem setMade (w : World) (A N : Nat) : (w.alloc (.cells (madeCells #[.int .i64 0] N) 3)).setCell ⟨w.heap.size, A, none⟩ (.int .i64 1) = w.alloc (.cells ((madeCells #[.int .i64 0] N).setIfInBounds A (.int .i64 1)) 3) := by go_simp
set_option maxRecDepth 20000 in
set_option maxHeartbeats 8000000 in
theorem sCountBest (n a x : Int) (es : List Ed) (s : Value) (w : World) (hs : RowE w s es) (hl : es.length ≤ 281474976710656) :
    Calls Try.prog 37 #[.agg #[.int .i64 n, s], .int .i64 a, .int .i64 x] w fun e w' => e = .returned (.tuple #[.int .i64 (cbN n es a x), .bool (cbB n es a x)]) ∧ Below w.heap.size w w' := by
  have hv := fun w' (h : Below w.heap.size w w') => l3Right n 5 a es s w' (hs.keep h) hl
  have hS := Lib.hid hs
  obtain ⟨ad, cap, rfl, hz0⟩ := hs
  have HZ := Lib.hid hz0
  have K0 := Lib.hid (And.intro ((Below.refl _ w).alloc (Nat.le_refl _) (.cells #[.int .i64 n, .slice ad es.length cap] 25)) (Box.new w 25 #[.int .i64 n, .slice ad es.length cap]))
  clear hz0
  unfold cbN cbB
  have e5 : onOk n es 5 [a] = (gVal n es && inN n a) := by unfold onOk; simp [inN, mKind]
  rw [← e5]
  cases hG : onOk n es 5 [a]
  · rw [hG] at hv
    have HV := Lib.hid hv
    rw [Bool.false_and, if_neg (by decide)]
    clear hv hG e5
    go_enter Try.func37, Try.ntmps37
    go_wp2_with fail
    generalize (w.alloc (.cells #[.int .i64 n, .slice ad es.length cap] 25)) = w0 at K0 ⊢
    have x0 : w0.cell? ⟨w.heap.size, 0, none⟩ = some (.int .i64 n) := by simpa using K0.out.2.cell 0
    have x1 : w0.cell? ⟨w.heap.size, 1, none⟩ = some (.slice ad es.length cap) := by simpa using K0.out.2.cell 1
    go_wp2_with (go_at_call 57; (with_reducible refine (HV.out _ K0.out.1).mono ?_); rintro e w1 ⟨rfl, hb1⟩; have K1 := Lib.hid (And.intro (bel_trans K0.out.1 hb1) (K0.out.2.keep hb1)); clear x0 x1 hb1; have x0 : w1.cell? ⟨w.heap.size, 0, none⟩ = some (.int .i64 n) := (by simpa using K1.out.2.cell 0); have x1 : w1.cell? ⟨w.heap.size, 1, none⟩ = some (.slice ad es.length cap) := (by simpa using K1.out.2.cell 1))
    go_ret2
    exact ⟨rfl, K1.out.1⟩
  rw [hG] at hv e5
  have HV := Lib.hid hv
  by_cases hx0 : x < 0
  · have e6 : inN n x = false := by unfold inN; rw [decide_eq_false (by omega)]; rfl
    rw [e6, Bool.and_false, if_neg (by decide)]
    clear hv hG e5 e6
    go_enter Try.func37, Try.ntmps37
    go_wp2_with fail
    generalize (w.alloc (.cells #[.int .i64 n, .slice ad es.length cap] 25)) = w0 at K0 ⊢
    have x0 : w0.cell? ⟨w.heap.size, 0, none⟩ = some (.int .i64 n) := by simpa using K0.out.2.cell 0
    have x1 : w0.cell? ⟨w.heap.size, 1, none⟩ = some (.slice ad es.length cap) := by simpa using K0.out.2.cell 1
    go_wp2_with (go_at_call 57; (with_reducible refine (HV.out _ K0.out.1).mono ?_); rintro e w1 ⟨rfl, hb1⟩; have K1 := Lib.hid (And.intro (bel_trans K0.out.1 hb1) (K0.out.2.keep hb1)); clear x0 x1 hb1; have x0 : w1.cell? ⟨w.heap.size, 0, none⟩ = some (.int .i64 n) := (by simpa using K1.out.2.cell 0); have x1 : w1.cell? ⟨w.heap.size, 1, none⟩ = some (.slice ad es.length cap) := (by simpa using K1.out.2.cell 1))
    go_ret2
    exact ⟨rfl, K1.out.1⟩
  by_cases hx1 : n ≤ x
  · have e6 : inN n x = false := by unfold inN; rw [decide_eq_false (show ¬ (x < n) by omega), Bool.and_false]
    rw [e6, Bool.and_false, if_neg (by decide)]
    clear hv hG e5 e6
    go_enter Try.func37, Try.ntmps37
    go_wp2_with fail
    generalize (w.alloc (.cells #[.int .i64 n, .slice ad es.length cap] 25)) = w0 at K0 ⊢
    have x0 : w0.cell? ⟨w.heap.size, 0, none⟩ = some (.int .i64 n) := by simpa using K0.out.2.cell 0
    have x1 : w0.cell? ⟨w.heap.size, 1, none⟩ = some (.slice ad es.length cap) := by simpa using K0.out.2.cell 1
    go_wp2_with (go_at_call 57; (with_reducible refine (HV.out _ K0.out.1).mono ?_); rintro e w1 ⟨rfl, hb1⟩; have K1 := Lib.hid (And.intro (bel_trans K0.out.1 hb1) (K0.out.2.keep hb1)); clear x0 x1 hb1; have x0 : w1.cell? ⟨w.heap.size, 0, none⟩ = some (.int .i64 n) := (by simpa using K1.out.2.cell 0); have x1 : w1.cell? ⟨w.heap.size, 1, none⟩ = some (.slice ad es.length cap) := (by simpa using K1.out.2.cell 1))
    go_ret2
    exact ⟨rfl, K1.out.1⟩
  have e6 : inN n x = true := by unfold inN; rw [decide_eq_true (by omega), decide_eq_true (show x < n by omega)]; rfl
  rw [e6, Bool.and_self, if_pos rfl]
  have hp := onOk_parts hG
  have ha2 := hp.2.1 a (by simp)
  obtain ⟨g1, g2, g3, _⟩ := gVal_parts hp.1
  have hea := eAll_of hp.1
  obtain ⟨N, rfl⟩ : ∃ N : Nat, n = N := ⟨n.toNat, by omega⟩
  obtain ⟨A0, rfl⟩ : ∃ A0 : Nat, a = A0 := ⟨a.toNat, by omega⟩
  obtain ⟨X0, rfl⟩ : ∃ X0 : Nat, x = X0 := ⟨x.toNat, by omega⟩
  rw [Int.toNat_natCast] at hea
  rw [Int.toNat_natCast, Int.toNat_natCast, Int.toNat_natCast]
  have hcq := count_eq (a := A0) (by omega) (by omega) hea (hop_rt (a := A0) (by omega) (by omega) hea (by omega)) (show X0 < N by omega)
  rw [hcq]
  have hr := fun w' (h : Below w.heap.size w w') => l3View 5 es N A0 (.slice ad es.length cap) w' (by decide) (hS.out.keep h) (by omega) (by omega) (by omega) hea
  have e7 : vIter 5 es N (vStart 5 N A0) = vRt 5 N es A0 := by unfold vRt; rw [Int.toNat_natCast]
  have hlen : (vRt 5 N es A0).length = N := by rw [vRt_length, Int.toNat_natCast]
  rw [e7] at hr
  obtain ⟨L, hL⟩ : ∃ L, L = vRt 5 N es A0 := ⟨_, rfl⟩
  rw [← hL] at hr hlen ⊢
  have HR := Lib.hid hr
  have hcl : ∀ r, (ccIt L es N A0 r).length = N := fun r => ccIt_length L es N A0 r
  have HCL := Lib.hid hcl
  have HE := Lib.hid hea
  have HLN := Lib.hid hlen
  have HAX := Lib.hid (And.intro (show A0 < N by omega) (show X0 < N by omega))
  obtain ⟨R, hR⟩ : ∃ R, R = (ccIt L es N A0 (N - 1)).getD X0 0 := ⟨_, rfl⟩
  rw [← hR]
  have HRR := Lib.hid hR
  have hAl : (A0 : Int) < N := by omega
  have hXl : (X0 : Int) < N := by omega
  have hN0 : ¬ ((N : Int) < 0) := by omega
  have HN1 : Hid (1 ≤ N) := Lib.hid (by omega)
  clear hv hG hea hlen hcl hR hr hL e7 e5 e6 hcq hp ha2 g1
  have hmk := run_make_row' (P := Try.prog) 28 3 (.int .i64 0) 8 Try.underlying28 info_int2 rfl .i64 .i64 N (by omega) (by omega)
  go_enter Try.func37, Try.ntmps37
  go_wp2_with fail
  generalize (w.alloc (.cells #[.int .i64 N, .slice ad es.length cap] 25)) = w0 at K0 ⊢
  have x0 : w0.cell? ⟨w.heap.size, 0, none⟩ = some (.int .i64 N) := by simpa using K0.out.2.cell 0
  have x1 : w0.cell? ⟨w.heap.size, 1, none⟩ = some (.slice ad es.length cap) := by simpa using K0.out.2.cell 1
  go_upto_region 5 with (first | (go_at_call 57; (with_reducible refine (HV.out _ K0.out.1).mono ?_); rintro e w1 ⟨rfl, hb1⟩; have K1 := Lib.hid (And.intro (bel_trans K0.out.1 hb1) (K0.out.2.keep hb1)); clear x0 x1 hb1; have x0 : w1.cell? ⟨w.heap.size, 0, none⟩ = some (.int .i64 N) := (by simpa using K1.out.2.cell 0); have x1 : w1.cell? ⟨w.heap.size, 1, none⟩ = some (.slice ad es.length cap) := (by simpa using K1.out.2.cell 1)) | (go_at_call 58; (with_reducible refine (HR.out _ K1.out.1).mono ?_); rintro e w2 ⟨u, rfl, hou, hok, hb2⟩; obtain ⟨ub, uo, uc, rfl, hub, huc⟩ := (InR.rowI hou).at (i := 0) (by have := HN1.out; have := HLN.out; omega); have HU := Lib.hid (And.intro hub huc); have K2 := Lib.hid (And.intro (bel_trans K1.out.1 hb2) (K1.out.2.keep hb2)); clear x0 x1 hou hok hb2 hub huc; have x0 : w2.cell? ⟨w.heap.size, 0, none⟩ = some (.int .i64 N) := (by simpa using K2.out.2.cell 0); have hz2 := K2.out.2.lt))
  clear hmk x0 hz2
  have b4 := Box.new w2 30 #[.int .i64 5, .int .i64 A0, .slice (some ⟨ub, uo, none⟩) L.length uc]
  have h24 : Below w2.heap.size w2 ((w2.alloc (.cells #[.int .i64 5, .int .i64 A0, .slice (some ⟨ub, uo, none⟩) L.length uc] 30)).alloc (.cells (madeCells #[.int .i64 0] N) 3)) := ((Below.refl _ w2).alloc (Nat.le_refl _) _).alloc (by simp) _
  have hws : Wr ((w2.alloc (.cells #[.int .i64 5, .int .i64 A0, .slice (some ⟨ub, uo, none⟩) L.length uc] 30)).alloc (.cells (madeCells #[.int .i64 0] N) 3)) (w2.alloc (.cells #[.int .i64 5, .int .i64 A0, .slice (some ⟨ub, uo, none⟩) L.length uc] 30)).heap.size 0 (List.replicate N 0) := Wr.madeC (w2.alloc (.cells #[.int .i64 5, .int .i64 A0, .slice (some ⟨ub, uo, none⟩) L.length uc] 30)) N
  have hw2 := hws.set (k := A0) (by simpa using HAX.out.1) 1
  rw [Nat.zero_add] at hw2
  have hrd : ∀ w', Below (w2.alloc (.cells #[.int .i64 5, .int .i64 A0, .slice (some ⟨ub, uo, none⟩) L.length uc] 30)).heap.size ((w2.alloc (.cells #[.int .i64 5, .int .i64 A0, .slice (some ⟨ub, uo, none⟩) L.length uc] 30)).alloc (.cells (madeCells #[.int .i64 0] N) 3)) w' → (w'.cell? ⟨w.heap.size, 0, none⟩ = some (.int .i64 N) ∧ w'.cell? ⟨w.heap.size, 1, none⟩ = some (.slice ad es.length cap) ∧ w'.cell? ⟨w2.heap.size, 2, none⟩ = some (.slice (some ⟨ub, uo, none⟩) L.length uc)) ∧ Below w.heap.size w w' ∧ ∀ j, j < L.length → w'.cell? ⟨ub, uo + j, none⟩ = some (.int .i64 (L.getD j 0)) := fun w' h => by
    have h5 : Below w2.heap.size w2 w' := h24.trans (h.mono (by simp))
    have q1 := K2.out.2.keep h5
    have q2 : Box w' w2.heap.size 30 #[.int .i64 5, .int .i64 A0, .slice (some ⟨ub, uo, none⟩) L.length uc] := (h.block _ (by simp)).trans ((b4.alloc _))
    exact ⟨⟨by simpa using q1.cell 0, by simpa using q1.cell 1, by simpa using q2.cell 2⟩, bel_trans K2.out.1 h5, fun j hj => (h5.cell (p := ⟨ub, _, none⟩) HU.out.1).trans (HU.out.2 j hj)⟩
  have hst : Below (w2.alloc (.cells #[.int .i64 5, .int .i64 A0, .slice (some ⟨ub, uo, none⟩) L.length uc] 30)).heap.size ((w2.alloc (.cells #[.int .i64 5, .int .i64 A0, .slice (some ⟨ub, uo, none⟩) L.length uc] 30)).alloc (.cells (madeCells #[.int .i64 0] N) 3)) (((w2.alloc (.cells #[.int .i64 5, .int .i64 A0, .slice (some ⟨ub, uo, none⟩) L.length uc] 30)).alloc (.cells (madeCells #[.int .i64 0] N) 3)).setCell ⟨(w2.alloc (.cells #[.int .i64 5, .int .i64 A0, .slice (some ⟨ub, uo, none⟩) L.length uc] 30)).heap.size, A0, none⟩ (.int .i64 1)) := (Below.refl (w2.alloc (.cells #[.int .i64 5, .int .i64 A0, .slice (some ⟨ub, uo, none⟩) L.length uc] 30)).heap.size ((w2.alloc (.cells #[.int .i64 5, .int .i64 A0, .slice (some ⟨ub, uo, none⟩) L.length uc] 30)).alloc (.cells (madeCells #[.int .i64 0] N) 3))).setCell (p := ⟨(w2.alloc (.cells #[.int .i64 5, .int .i64 A0, .slice (some ⟨ub, uo, none⟩) L.length uc] 30)).heap.size, A0, none⟩) (Nat.le_refl _) _
  have HRD := Lib.hid hrd
  have HST := Lib.hid (And.intro hst hw2)
  clear hst hw2 hrd h24 b4
  have m0 : ((w2.alloc (.cells #[.int .i64 5, .int .i64 A0, .slice (some ⟨ub, uo, none⟩) L.length uc] 30)).alloc (.cells (madeCells #[.int .i64 0] N) 3)).cell? ⟨w2.heap.size + 1, A0, none⟩ = some (.int .i64 0) := by
    have hC2 : (w2.alloc (.cells #[.int .i64 5, .int .i64 A0, .slice (some ⟨ub, uo, none⟩) L.length uc] 30)).heap.size = w2.heap.size + 1 := by simp
    have h := (hws.2 A0 (by simpa using HAX.out.1)).1
    rw [Nat.zero_add, hC2] at h
    rw [h]
    simp [List.getD, HAX.out.1]
  have m1 : ((w2.alloc (.cells #[.int .i64 5, .int .i64 A0, .slice (some ⟨ub, uo, none⟩) L.length uc] 30)).alloc (.cells (madeCells #[.int .i64 0] N) 3)).frozen? ⟨w2.heap.size + 1, A0, none⟩ = false := by
    have hC2 : (w2.alloc (.cells #[.int .i64 5, .int .i64 A0, .slice (some ⟨ub, uo, none⟩) L.length uc] 30)).heap.size = w2.heap.size + 1 := by simp
    have h := (hws.2 A0 (by simpa using HAX.out.1)).2
    rwa [Nat.zero_add, hC2] at h
  go_wp2_with fail
  clear m0 m1 hws
  obtain ⟨V, hV⟩ : ∃ V, V = w2.heap.size := ⟨_, rfl⟩
  obtain ⟨C, hC⟩ : ∃ C, C = (w2.alloc (.cells #[.int .i64 5, .int .i64 A0, .slice (some ⟨ub, uo, none⟩) L.length uc] 30)).heap.size := ⟨_, rfl⟩
  have hC2 : (w2.alloc (.cells #[.int .i64 5, .int .i64 A0, .slice (some ⟨ub, uo, none⟩) L.length uc] 30)).heap.size = w2.heap.size + 1 := by simp
  have HVC : Hid (C = V + 1) := Lib.hid (by rw [hC, hV, hC2])
  have HVL : Hid (V = w2.heap.size) := Lib.hid hV
  rw [← hC] at HRD HST
  rw [← hV] at HRD
  obtain ⟨W5, hW5⟩ : ∃ W5, W5 = ((w2.alloc (.cells #[.int .i64 5, .int .i64 A0, .slice (some ⟨ub, uo, none⟩) L.length uc] 30)).alloc (.cells (madeCells #[.int .i64 0] N) 3)) := ⟨_, rfl⟩
  obtain ⟨W6, hW6⟩ : ∃ W6, W6 = W5.setCell ⟨C, A0, none⟩ (.int .i64 1) := ⟨_, rfl⟩
  rw [← hW5] at HRD HST
  rw [← hW6] at HST
  have hfr : (((w2.alloc (.cells #[.int .i64 5, .int .i64 A0, .slice (some ⟨ub, uo, none⟩) L.length uc] 30)).alloc (.cells (madeCells #[.int .i64 0] N) 3))).setCell ⟨w2.heap.size + 1, A0, none⟩ (.int .i64 1) = W6 := by rw [hW6, hW5, hC, hC2]
  have heq : (((w2.alloc (.cells #[.int .i64 5, .int .i64 A0, .slice (some ⟨ub, uo, none⟩) L.length uc] 30)).alloc (.cells (madeCells #[.int .i64 0] N) 3))).setCell ⟨w2.heap.size + 1, A0, none⟩ (.int .i64 1) = ((w2.alloc (.cells #[.int .i64 5, .int .i64 A0, .slice (some ⟨ub, uo, none⟩) L.length uc] 30))).alloc (.cells ((madeCells #[.int .i64 0] N).setIfInBounds A0 (.int .i64 1)) 3) := by
    have h := setMade (w2.alloc (.cells #[.int .i64 5, .int .i64 A0, .slice (some ⟨ub, uo, none⟩) L.length uc] 30)) A0 N
    rw [hC2] at h
    exact h
  rw [heq] at hfr
  clear heq
  first | rw [hfr] | skip
  have eV : w2.heap.size = V := hV.symm
  have eC : w2.heap.size + 1 = C := by rw [hC, hC2]
  first | rw [eC] | skip
  first | rw [eV] | skip
  clear hfr hW5 hW6 hC hC2 hV eV eC
  go_loopw [10] (fun c wr => ∃ k : Nat, 1 ≤ k ∧ k ≤ N ∧ c = .int .i64 k ∧ Hid (Wr wr C 0 (ccIt L es N A0 (k - 1)) ∧ Below C W5 wr)) (fun c _ => N - (intOf c).toNat)
  case atStart => exact ⟨1, Nat.le_refl _, HN1.out, rfl, Lib.hid ⟨HST.out.2, HST.out.1⟩⟩
  case round =>
    obtain ⟨k, hk1, hk, rfl, H⟩ := hrel
    obtain ⟨⟨x0, x1, y2⟩, -, -⟩ := HRD.out _ H.out.2
    by_cases hlt : k < N
    · have hlt' : (k : Int) < N := by omega
      obtain ⟨M0, hM0⟩ : ∃ M0, M0 = ccIt L es N A0 (k - 1) := ⟨_, rfl⟩
      have hM1 : es.foldl (ccUp L (k : Int)) M0 = ccIt L es N A0 k := by
        obtain ⟨j, rfl⟩ : ∃ j, k = j + 1 := ⟨k - 1, by omega⟩
        rw [hM0]; rfl
      have hM2 : M0.length = N := by rw [hM0]; exact HCL.out _
      rw [← hM0] at H
      have HM := Lib.hid (And.intro hM1 hM2)
      clear hM0 hM1 hM2
      go_wp2
      clear x0 x1 y2
      obtain ⟨w9, hw9⟩ : ∃ w9, w9 = wr := ⟨_, rfl⟩
      rw [← hw9] at H ⊢
      clear hw9
      go_loopw [11] (fun c wr => ∃ i : Nat, i ≤ es.length ∧ c = .int .i64 i ∧ Hid (Wr wr C 0 ((es.take i).foldl (ccUp L (k : Int)) M0) ∧ Below C W5 wr)) (fun c _ => es.length - (intOf c).toNat)
      case atStart => exact ⟨0, Nat.zero_le _, rfl, H⟩
      case round =>
        obtain ⟨i, hi, rfl, H2⟩ := hrel
        obtain ⟨⟨x0, x1, y2⟩, hbw, hLc⟩ := HRD.out _ H2.out.2
        by_cases hie : i < es.length
        · have hie' : (i : Int) < es.length := by omega
          rcases HZ.out with h00 | ⟨b, off, rfl, hb, hc⟩
          · rw [h00] at hie; simp at hie
          obtain ⟨ex, ey, z, hx⟩ : ∃ x y z, (x, y, z) = es.getD i (0, 0, 0) := ⟨_, _, _, rfl⟩
          obtain ⟨X, Y, rfl, rfl, hX, hY, hwz⟩ := edge_nat HE.out hie hx
          have h1 := hc i hie
          rw [← hx] at h1
          simp only at h1
          have c0 := (hbw.cell (p := ⟨b, off + i * 3, none⟩) hb).trans h1.1
          have c1 := (hbw.cell (p := ⟨b, off + i * 3 + 1, none⟩) hb).trans h1.2.1
          have c2 := (hbw.cell (p := ⟨b, off + i * 3 + 2, none⟩) hb).trans h1.2.2
          have hsc := ccT_succ L (k : Int) es M0 hie
          rw [← hx] at hsc
          have hml : ((es.take i).foldl (ccUp L (k : Int)) M0).length = N := by rw [ccF_length]; exact HM.out.2
          obtain ⟨M, hM⟩ : ∃ M, M = (es.take i).foldl (ccUp L (k : Int)) M0 := ⟨_, rfl⟩
          rw [← hM] at hsc hml H2
          rw [ccUp_at, Int.toNat_natCast, Int.toNat_natCast] at hsc
          obtain ⟨lt, hlt1⟩ : ∃ lt, lt = L.getD Y 0 := ⟨_, rfl⟩
          obtain ⟨lf, hlf⟩ : ∃ lf, lf = L.getD X 0 := ⟨_, rfl⟩
          obtain ⟨p, hp⟩ : ∃ p, p = M.getD Y 0 := ⟨_, rfl⟩
          obtain ⟨r, hr⟩ : ∃ r, r = M.getD X 0 := ⟨_, rfl⟩
          obtain ⟨q, hq⟩ : ∃ q, q = IntKind.i64.wrap (p + r) := ⟨_, rfl⟩
          rw [← hlt1, ← hlf, ← hp, ← hr, ← hq] at hsc
          have hwr : IntKind.i64.wrap (p + r) = q := hq.symm
          have hwk : IntKind.i64.wrap ((k : Int) - 1) = (k : Int) - 1 := by rw [IntKind.wrap_i64]; omega
          have hcY := hLc Y (by have := HLN.out; omega)
          have hcX := hLc X (by have := HLN.out; omega)
          rw [← hlt1] at hcY
          rw [← hlf] at hcX
          have hLl := HLN.out
          have hYu : (Y : Int) < L.length := by omega
          have hXu : (X : Int) < L.length := by omega
          have hYn : (Y : Int) < N := by omega
          have hXn : (X : Int) < N := by omega
          have hcp := H2.out.1.2 Y (by omega)
          have hcr := H2.out.1.2 X (by omega)
          rw [← hp, Nat.zero_add] at hcp
          rw [← hr, Nat.zero_add] at hcr
          have hCl := H2.out.1.1
          have hb9 : Below wr.heap.size wr (wr.alloc (.cells #[.int .i64 X, .int .i64 Y, .int .i64 z] 36)) := (Below.refl _ wr).alloc (Nat.le_refl _) _
          have hHA := Lib.hid (And.intro (H2.out.1.keep hb9) (H2.out.2.alloc (Nat.le_of_lt hCl) (.cells #[.int .i64 X, .int .i64 Y, .int .i64 z] 36)))
          have hul : ub < wr.heap.size := by have h1 := HU.out.1; have h2 := HVC.out; have h3 := HVL.out; omega
          have hvl : V < wr.heap.size := by have h2 := HVC.out; omega
          have hff : (wr.alloc (.cells #[.int .i64 X, .int .i64 Y, .int .i64 z] 36)).cell? ⟨wr.heap.size, 0, none⟩ = some (.int .i64 X) ∧ (wr.alloc (.cells #[.int .i64 X, .int .i64 Y, .int .i64 z] 36)).cell? ⟨wr.heap.size, 1, none⟩ = some (.int .i64 Y) ∧ (wr.alloc (.cells #[.int .i64 X, .int .i64 Y, .int .i64 z] 36)).cell? ⟨V, 2, none⟩ = some (.slice (some ⟨ub, uo, none⟩) L.length uc) ∧ (wr.alloc (.cells #[.int .i64 X, .int .i64 Y, .int .i64 z] 36)).cell? ⟨ub, uo + Y, none⟩ = some (.int .i64 lt) ∧ (wr.alloc (.cells #[.int .i64 X, .int .i64 Y, .int .i64 z] 36)).cell? ⟨ub, uo + X, none⟩ = some (.int .i64 lf) ∧ (wr.alloc (.cells #[.int .i64 X, .int .i64 Y, .int .i64 z] 36)).cell? ⟨C, Y, none⟩ = some (.int .i64 p) ∧ (wr.alloc (.cells #[.int .i64 X, .int .i64 Y, .int .i64 z] 36)).cell? ⟨C, X, none⟩ = some (.int .i64 r) ∧ (wr.alloc (.cells #[.int .i64 X, .int .i64 Y, .int .i64 z] 36)).frozen? ⟨C, Y, none⟩ = false :=
            ⟨by go_simp, by go_simp, (hb9.cell (p := ⟨V, _, none⟩) hvl).trans y2, (hb9.cell (p := ⟨ub, _, none⟩) hul).trans hcY, (hb9.cell (p := ⟨ub, _, none⟩) hul).trans hcX, (hb9.cell (p := ⟨C, _, none⟩) hCl).trans hcp.1, (hb9.cell (p := ⟨C, _, none⟩) hCl).trans hcr.1, (hb9.frozen (p := ⟨C, _, none⟩) hCl).trans hcp.2⟩
          have HFF := Lib.hid hff
          have HSC := Lib.hid hsc
          have HYM : Hid (Y < M.length) := Lib.hid (by omega)
          clear hc h1 hx hsc hml hM hp hr hq hcp hcr hff hwz hcY hcX hlt1 hlf hLc hbw hb9 hLl
          by_cases h1 : lt = (k : Int)
          · have d1 : (lt == (k : Int)) = true := by simpa using h1
            by_cases h2 : lf = (k : Int) - 1
            · have d2 : (lf == (k : Int) - 1) = true := by simpa using h2
              have HN : Hid (Wr ((wr.alloc (.cells #[.int .i64 X, .int .i64 Y, .int .i64 z] 36)).setCell ⟨C, Y, none⟩ (.int .i64 q)) C 0 ((es.take (i + 1)).foldl (ccUp L (k : Int)) M0) ∧ Below C W5 ((wr.alloc (.cells #[.int .i64 X, .int .i64 Y, .int .i64 z] 36)).setCell ⟨C, Y, none⟩ (.int .i64 q))) := Lib.hid (by
                have h3 := hHA.out.1.set HYM.out q
                rw [Nat.zero_add] at h3
                rw [HSC.out, if_pos ⟨h1, h2⟩]
                exact ⟨h3, hHA.out.2.setCell (Nat.le_refl _) _⟩)
              have H1 := Lib.hid (And.intro h1 h2)
              clear h1 h2
              go_upto_region 13 with fail
              generalize (wr.alloc (.cells #[.int .i64 X, .int .i64 Y, .int .i64 z] 36)) = W2 at HN HFF hHA ⊢
              clear c0 c1 c2 y2 x0 x1
              obtain ⟨f0, f1, f2, f3, f4, f5, f6, f7⟩ := HFF.out
              have HND := Lib.hid (And.intro (HN.out.1.keep ((Below.refl _ _).drew)) HN.out.2.drew)
              go_wp2_with fail
              go_region
              all_goals go_wp2
              all_goals go_roundw
              all_goals first | (simp [intOf]; omega) | exact ⟨i + 1, by omega, by go_num, HN⟩ | exact ⟨i + 1, by omega, by go_num, HND⟩ | ((repeat apply Exists.intro); exact ⟨⟨i + 1, by omega, by go_num, HND⟩, rfl⟩)
            · have d2 : (lf == (k : Int) - 1) = false := by simpa using h2
              have HN : Hid (Wr (wr.alloc (.cells #[.int .i64 X, .int .i64 Y, .int .i64 z] 36)) C 0 ((es.take (i + 1)).foldl (ccUp L (k : Int)) M0) ∧ Below C W5 (wr.alloc (.cells #[.int .i64 X, .int .i64 Y, .int .i64 z] 36))) := Lib.hid (by
                rw [HSC.out, if_neg (fun h => h2 h.2)]
                exact hHA.out)
              have H1 := Lib.hid (And.intro h1 h2)
              clear h1 h2
              go_upto_region 13 with fail
              generalize (wr.alloc (.cells #[.int .i64 X, .int .i64 Y, .int .i64 z] 36)) = W2 at HN HFF hHA ⊢
              clear c0 c1 c2 y2 x0 x1
              obtain ⟨f0, f1, f2, f3, f4, f5, f6, f7⟩ := HFF.out
              go_wp2
              all_goals go_roundw
              all_goals first | (simp [intOf]; omega) | exact ⟨i + 1, by omega, by go_num, HN⟩ | ((repeat apply Exists.intro); exact ⟨⟨i + 1, by omega, by go_num, HN⟩, rfl⟩)
          · have d1 : (lt == (k : Int)) = false := by simpa using h1
            have HN : Hid (Wr (wr.alloc (.cells #[.int .i64 X, .int .i64 Y, .int .i64 z] 36)) C 0 ((es.take (i + 1)).foldl (ccUp L (k : Int)) M0) ∧ Below C W5 (wr.alloc (.cells #[.int .i64 X, .int .i64 Y, .int .i64 z] 36))) := Lib.hid (by
              rw [HSC.out, if_neg (fun h => h1 h.1)]
              exact hHA.out)
            have H1 := Lib.hid h1
            clear h1
            go_upto_region 13 with fail
            generalize (wr.alloc (.cells #[.int .i64 X, .int .i64 Y, .int .i64 z] 36)) = W2 at HN HFF hHA ⊢
            clear c0 c1 c2 y2 x0 x1
            obtain ⟨f0, f1, f2, f3, f4, f5, f6, f7⟩ := HFF.out
            go_wp2
            all_goals go_roundw
            all_goals first | (simp [intOf]; omega) | exact ⟨i + 1, by omega, by go_num, HN⟩ | ((repeat apply Exists.intro); exact ⟨⟨i + 1, by omega, by go_num, HN⟩, rfl⟩)
        · have hkk : ¬ ((i : Int) < es.length) := by omega
          have hie2 : i = es.length := by omega
          have HNX : Hid (Wr wr C 0 (ccIt L es N A0 (k + 1 - 1)) ∧ Below C W5 wr) := Lib.hid (by
            have h := H2.out
            rw [hie2, List.take_length, HM.out.1] at h
            exact h)
          clear hie2
          go_wp2
          go_roundw
          all_goals first | (simp [intOf]; omega) | exact ⟨k + 1, by omega, by omega, by go_num, HNX⟩ | ((repeat apply Exists.intro); exact ⟨⟨k + 1, by omega, by omega, by go_num, HNX⟩, rfl⟩)
    · have hkk : ¬ ((k : Int) < N) := by omega
      have hkN : k = N := by omega
      have hcx := (H.out.1.2 X0 (by rw [HCL.out]; exact HAX.out.2)).1
      rw [Nat.zero_add, hkN, ← HRR.out] at hcx
      have HKN := Lib.hid hkN
      clear hkN
      go_wp2
      go_ret2
      exact ⟨rfl, (HRD.out _ H.out.2).2.1⟩
end Go.Proofs.Ytjcfefpcilhelaa
