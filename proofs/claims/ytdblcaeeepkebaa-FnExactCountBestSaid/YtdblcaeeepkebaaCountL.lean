/- Ways with the fewest edges: mathematics. -/
import Derived.Test.YtdblcaeeepkebaaBestV
import Derived.Test.YtdblcaeeepkebaaOneM
namespace Go.Proofs.Ytdblcaeeepkebaa
set_option linter.unusedVariables false
set_option linter.unusedSimpArgs false

/-- One edge more, in the program. -/
def cwUp (cs acc : List Int) (e : Ed) : List Int := acc.set e.2.1.toNat (IntKind.i64.wrap (acc.getD e.2.1.toNat 0 + cs.getD e.1.toNat 0))
def cw (es : List Ed) (cs : List Int) : List Int := es.foldl (cwUp cs) (List.replicate cs.length 0)
def cwIt (es : List Ed) : Nat → List Int → List Int
  | 0, cs => cs
  | k + 1, cs => cw es (cwIt es k cs)
def cStart (N a : Nat) : List Int := (List.replicate N 0).set a 1
/-- What the program answers, with k rounds left. -/
def ciR (es : List Ed) (x : Nat) : Nat → List Int → Int
  | 0, _ => 0
  | k + 1, cs => if 0 < cs.getD x 0 then cs.getD x 0 else ciR es x k (cw es cs)
/-- One edge in the model. -/
def ccUp (L : List Int) (k : Int) (acc : List Int) (e : Ed) : List Int :=
  if L.getD e.2.1.toNat 0 = k ∧ L.getD e.1.toNat 0 = k - 1 then acc.set e.2.1.toNat (IntKind.i64.wrap (acc.getD e.2.1.toNat 0 + acc.getD e.1.toNat 0)) else acc
def ccIt (L : List Int) (es : List Ed) (N a : Nat) : Nat → List Int
  | 0 => cStart N a
  | k + 1 => es.foldl (ccUp L ((k + 1 : Nat) : Int)) (ccIt L es N a k)
/-- What edges to a node bring. -/
def sm (f : Nat → Int) (v : Nat) : List Ed → Int
  | [] => 0
  | e :: l => (if e.2.1.toNat = v then f e.1.toNat else 0) + sm f v l
theorem sm_bound {f : Nat → Int} {B : Int} (v : Nat) (hB : 0 ≤ B) : ∀ (l : List Ed), (∀ e ∈ l, 0 ≤ f e.1.toNat ∧ f e.1.toNat ≤ B) → 0 ≤ sm f v l ∧ sm f v l ≤ l.length * B
  | [], _ => by simp [sm]
  | e :: l, h => by
    have h1 := sm_bound v hB l (fun x hx => h x (List.mem_cons_of_mem _ hx))
    have h2 := h e (List.mem_cons_self ..)
    have e1 : ((e :: l).length : Int) * B = l.length * B + B := by
      rw [List.length_cons]; push_cast; rw [Int.add_mul, Int.one_mul]
    rw [e1, sm]
    split <;> omega
theorem sm_mem {f : Nat → Int} {v : Nat} : ∀ (l : List Ed), (∀ e ∈ l, 0 ≤ f e.1.toNat) → ∀ e ∈ l, e.2.1.toNat = v → f e.1.toNat ≤ sm f v l
  | [], _, e, h, _ => by cases h
  | x :: l, h, e, hm, hv => by
    have hn : 0 ≤ sm f v l := by
      have : ∀ (l : List Ed), (∀ e ∈ l, 0 ≤ f e.1.toNat) → 0 ≤ sm f v l := by
        intro l
        induction l with
        | nil => intro _; simp [sm]
        | cons y l ih =>
          intro h
          have h1 := ih (fun e he => h e (List.mem_cons_of_mem _ he))
          have h2 := h y (List.mem_cons_self ..)
          rw [sm]; split <;> omega
      exact this l (fun e he => h e (List.mem_cons_of_mem _ he))
    rw [sm]
    rcases List.mem_cons.1 hm with rfl | q
    · rw [if_pos hv]; omega
    · have h1 := sm_mem l (fun e he => h e (List.mem_cons_of_mem _ he)) e q hv
      have h2 := h x (List.mem_cons_self ..)
      split <;> omega
theorem sm_pos {f : Nat → Int} {v : Nat} : ∀ (l : List Ed), 0 < sm f v l → ∃ e ∈ l, e.2.1.toNat = v ∧ 0 < f e.1.toNat
  | [], h => by simp [sm] at h
  | x :: l, h => by
    rw [sm] at h
    by_cases q : x.2.1.toNat = v ∧ 0 < f x.1.toNat
    · exact ⟨x, List.mem_cons_self .., q.1, q.2⟩
    · have : 0 < sm f v l := by
        split at h
        · rename_i r
          have : ¬ 0 < f x.1.toNat := fun s => q ⟨r, s⟩
          omega
        · omega
      obtain ⟨e, h1, h2⟩ := sm_pos l this
      exact ⟨e, List.mem_cons_of_mem _ h1, h2⟩
theorem sm_congr {f g : Nat → Int} {v : Nat} : ∀ (l : List Ed), (∀ e ∈ l, e.2.1.toNat = v → f e.1.toNat = g e.1.toNat) → sm f v l = sm g v l
  | [], _ => rfl
  | x :: l, h => by
    rw [sm, sm, sm_congr l (fun e he => h e (List.mem_cons_of_mem _ he))]
    split
    · rename_i q; rw [h x (List.mem_cons_self ..) q]
    · rfl
theorem wrap_ok {z : Int} (h0 : 0 ≤ z) (h1 : z ≤ 4611686018427387904) : IntKind.i64.wrap z = z := by rw [IntKind.wrap_i64]; omega
theorem cw_fold {N : Nat} {cs : List Int} {B : Int} (hB : 0 ≤ B) : ∀ (l : List Ed) (acc : List Int), acc.length = N → (∀ e ∈ l, e.2.1.toNat < N ∧ 0 ≤ cs.getD e.1.toNat 0 ∧ cs.getD e.1.toNat 0 ≤ B) → (∀ v, v < N → 0 ≤ acc.getD v 0 ∧ acc.getD v 0 + l.length * B ≤ 4611686018427387904) →
    (l.foldl (cwUp cs) acc).length = N ∧ ∀ v, v < N → (l.foldl (cwUp cs) acc).getD v 0 = acc.getD v 0 + sm (fun u => cs.getD u 0) v l
  | [], acc, hl, _, _ => ⟨hl, fun v hv => by simp [sm]⟩
  | e :: l, acc, hl, he, ha => by
    have h1 := he e (List.mem_cons_self ..)
    have e1 : ((e :: l).length : Int) * B = l.length * B + B := by
      rw [List.length_cons]; push_cast; rw [Int.add_mul, Int.one_mul]
    have hlb : 0 ≤ (l.length : Int) * B := Int.mul_nonneg (by omega) hB
    have h2 := ha _ h1.1
    rw [e1] at h2
    have hw : IntKind.i64.wrap (acc.getD e.2.1.toNat 0 + cs.getD e.1.toNat 0) = acc.getD e.2.1.toNat 0 + cs.getD e.1.toNat 0 := wrap_ok (by omega) (by omega)
    have hup : ∀ v, v < N → (cwUp cs acc e).getD v 0 = acc.getD v 0 + (if e.2.1.toNat = v then cs.getD e.1.toNat 0 else 0) := by
      intro v hv
      unfold cwUp
      rw [hw, getD_set _ _ _ _ (by omega)]
      split
      · rename_i q; rw [q]
      · omega
    have hl2 : (cwUp cs acc e).length = N := by unfold cwUp; rw [List.length_set, hl]
    obtain ⟨h3, h4⟩ := cw_fold hB l (cwUp cs acc e) hl2 (fun x hx => he x (List.mem_cons_of_mem _ hx)) (fun v hv => by
      have h5 := ha v hv
      rw [e1] at h5
      rw [hup v hv]
      split <;> omega)
    refine ⟨h3, fun v hv => ?_⟩
    rw [List.foldl_cons, h4 v hv, hup v hv, sm]
    omega
theorem cc_fold {N : Nat} {L acc0 : List Int} {k B : Int} (hB : 0 ≤ B) (hg : ∀ u, u < N → L.getD u 0 = k - 1 → 0 ≤ acc0.getD u 0 ∧ acc0.getD u 0 ≤ B) : ∀ (l : List Ed) (acc : List Int), acc.length = N → (∀ e ∈ l, e.1.toNat < N ∧ e.2.1.toNat < N) → (∀ u, u < N → L.getD u 0 = k - 1 → acc.getD u 0 = acc0.getD u 0) → (∀ v, v < N → L.getD v 0 = k → 0 ≤ acc.getD v 0 ∧ acc.getD v 0 + l.length * B ≤ 4611686018427387904) →
    (l.foldl (ccUp L k) acc).length = N ∧ ∀ v, v < N → (l.foldl (ccUp L k) acc).getD v 0 = if L.getD v 0 = k then acc.getD v 0 + sm (fun u => if L.getD u 0 = k - 1 then acc0.getD u 0 else 0) v l else acc.getD v 0
  | [], acc, hl, _, _, _ => ⟨hl, fun v hv => by simp [sm]⟩
  | e :: l, acc, hl, he, hu, ha => by
    have h1 := he e (List.mem_cons_self ..)
    have e1 : ((e :: l).length : Int) * B = l.length * B + B := by
      rw [List.length_cons]; push_cast; rw [Int.add_mul, Int.one_mul]
    have hlb : 0 ≤ (l.length : Int) * B := Int.mul_nonneg (by omega) hB
    have hup : ∀ v, v < N → (ccUp L k acc e).getD v 0 = if L.getD v 0 = k then acc.getD v 0 + (if e.2.1.toNat = v then (if L.getD e.1.toNat 0 = k - 1 then acc0.getD e.1.toNat 0 else 0) else 0) else acc.getD v 0 := by
      intro v hv
      unfold ccUp
      by_cases q : L.getD e.2.1.toNat 0 = k ∧ L.getD e.1.toNat 0 = k - 1
      · rw [if_pos q]
        have h2 := ha _ h1.2 q.1
        rw [e1] at h2
        have h3 := hu _ h1.1 q.2
        have h4 := hg _ h1.1 q.2
        rw [h3, wrap_ok (by omega) (by omega), getD_set _ _ _ _ (by omega), if_pos q.2]
        by_cases r : e.2.1.toNat = v
        · rw [if_pos r, if_pos r, ← r, if_pos q.1]
        · rw [if_neg r, if_neg r]
          split <;> omega
      · rw [if_neg q]
        by_cases r : L.getD v 0 = k
        · rw [if_pos r]
          by_cases s : e.2.1.toNat = v
          · rw [if_pos s, if_neg (fun t => q ⟨by rw [s]; exact r, t⟩)]; omega
          · rw [if_neg s]; omega
        · rw [if_neg r]
    have hl2 : (ccUp L k acc e).length = N := by unfold ccUp; split; rw [List.length_set, hl]; exact hl
    obtain ⟨h3, h4⟩ := cc_fold hB hg l (ccUp L k acc e) hl2 (fun x hx => he x (List.mem_cons_of_mem _ hx)) (fun u hu1 hu2 => by
      rw [hup u hu1, if_neg (by omega)]
      exact hu u hu1 hu2) (fun v hv hk => by
      have h5 := ha v hv hk
      rw [e1] at h5
      rw [hup v hv, if_pos hk]
      split
      · split
        · rename_i r s
          have := hg _ h1.1 s
          omega
        · omega
      · omega)
    refine ⟨h3, fun v hv => ?_⟩
    rw [List.foldl_cons, h4 v hv, hup v hv, sm]
    by_cases r : L.getD v 0 = k
    · rw [if_pos r, if_pos r, if_pos r]; omega
    · rw [if_neg r, if_neg r, if_neg r]

def bd : Nat → Int
  | 0 => 1
  | k + 1 => 40 * bd k
theorem bd_le {k : Nat} (hk : k ≤ 11) : 1 ≤ bd k ∧ bd k ≤ 419430400000000000 := by
  obtain rfl | rfl | rfl | rfl | rfl | rfl | rfl | rfl | rfl | rfl | rfl | rfl : k = 0 ∨ k = 1 ∨ k = 2 ∨ k = 3 ∨ k = 4 ∨ k = 5 ∨ k = 6 ∨ k = 7 ∨ k = 8 ∨ k = 9 ∨ k = 10 ∨ k = 11 := by omega
  all_goals decide
section
variable {N a : Nat} {es : List Ed}
theorem cStart_at {v : Nat} (hv : v < N) : (cStart N a).getD v 0 = if a = v then 1 else 0 := by
  unfold cStart
  rw [getD_set _ _ _ _ (by simpa using hv)]
  split
  · rfl
  · simp [List.getD, hv]
theorem cStart_length : (cStart N a).length = N := by unfold cStart; simp
theorem cwUp_length (cs acc : List Int) (e : Ed) : (cwUp cs acc e).length = acc.length := by unfold cwUp; simp
theorem cwF_length (cs : List Int) : ∀ (l : List Ed) (acc : List Int), (l.foldl (cwUp cs) acc).length = acc.length
  | [], _ => rfl
  | e :: l, acc => by rw [List.foldl_cons, cwF_length cs l, cwUp_length]
theorem cw_length (cs : List Int) : (cw es cs).length = cs.length := by unfold cw; rw [cwF_length, List.length_replicate]
theorem cwIt_length (cs : List Int) : ∀ k, (cwIt es k cs).length = cs.length
  | 0 => rfl
  | k + 1 => by rw [cwIt, cw_length, cwIt_length cs k]
theorem cwIt_comm (cs : List Int) : ∀ k, cwIt es k (cw es cs) = cw es (cwIt es k cs)
  | 0 => rfl
  | k + 1 => by rw [cwIt, cwIt_comm cs k, cwIt]
/-- One round's counts. -/
theorem cw_at {cs : List Int} {B : Int} (hB : 0 ≤ B) (h40 : es.length ≤ 40) (hB2 : 40 * B ≤ 4611686018427387904) (hl : cs.length = N) (he : eAll N es) (hc : ∀ v, v < N → 0 ≤ cs.getD v 0 ∧ cs.getD v 0 ≤ B) {v : Nat} (hv : v < N) :
    (cw es cs).getD v 0 = sm (fun u => cs.getD u 0) v es ∧ 0 ≤ (cw es cs).getD v 0 ∧ (cw es cs).getD v 0 ≤ 40 * B := by
  have hz : ∀ v, v < N → (List.replicate cs.length (0 : Int)).getD v 0 = 0 := fun v hv => by
    rw [hl]; simp [List.getD, hv]
  have hle : (es.length : Int) * B ≤ 40 * B := Int.mul_le_mul_of_nonneg_right (by omega) hB
  have h := (cw_fold (cs := cs) hB es (List.replicate cs.length 0) (by rw [List.length_replicate, hl]) (fun e hein => ⟨(he e hein).2.1.2, hc _ (he e hein).1.2⟩) (fun v hv => by
    rw [hz v hv]; omega)).2 v hv
  have e1 : (cw es cs).getD v 0 = sm (fun u => cs.getD u 0) v es := by
    unfold cw; rw [h, hz v hv]; omega
  have hb := sm_bound (f := fun u => cs.getD u 0) v hB es (fun e hein => hc _ (he e hein).1.2)
  rw [e1]
  exact ⟨rfl, hb.1, by omega⟩
/-- The numbers of walks. -/
theorem wk_bound (h40 : es.length ≤ 40) (he : eAll N es) : ∀ k, k ≤ 11 → ∀ v, v < N → 0 ≤ (cwIt es k (cStart N a)).getD v 0 ∧ (cwIt es k (cStart N a)).getD v 0 ≤ bd k
  | 0, _, v, hv => by
    show 0 ≤ (cStart N a).getD v 0 ∧ (cStart N a).getD v 0 ≤ 1
    rw [cStart_at hv]; split <;> omega
  | k + 1, hk, v, hv => by
    have h1 := wk_bound h40 he k (by omega)
    have h2 := bd_le (show k ≤ 11 by omega)
    have h3 := bd_le hk
    have h4 : bd (k + 1) = 40 * bd k := rfl
    have := cw_at (B := bd k) (by omega) h40 (by omega) (by rw [cwIt_length, cStart_length]) he h1 hv
    rw [h4]
    exact this.2
theorem wk_succ (h40 : es.length ≤ 40) (he : eAll N es) {k : Nat} (hk : k + 1 ≤ 11) {v : Nat} (hv : v < N) : (cwIt es (k + 1) (cStart N a)).getD v 0 = sm (fun u => (cwIt es k (cStart N a)).getD u 0) v es := by
  have h1 := wk_bound (a := a) h40 he k (by omega)
  have h2 := bd_le (show k ≤ 11 by omega)
  have h3 := bd_le hk
  have h4 : bd (k + 1) = 40 * bd k := rfl
  exact (cw_at (B := bd k) (by omega) h40 (by omega) (by rw [cwIt_length, cStart_length]) he h1 hv).1
/-- What is known of the numbers of edges. -/
structure HopL (N a : Nat) (es : List Ed) (L : List Int) : Prop where
  low : ∀ v, v < N → 0 ≤ L.getD v 0
  src : L.getD a 0 = 0
  st : ∀ e ∈ es, L.getD e.2.1.toNat 0 ≤ L.getD e.1.toNat 0 + 1
  pos : ∀ v, v < N → L.getD v 0 < 100000 → L.getD v 0 + 1 ≤ N ∧ 0 < (cwIt es (L.getD v 0).toNat (cStart N a)).getD v 0
theorem wk_le (h40 : es.length ≤ 40) (he : eAll N es) {L : List Int} (hL : HopL N a es L) : ∀ k : Nat, k ≤ 11 → ∀ v, v < N → 0 < (cwIt es k (cStart N a)).getD v 0 → L.getD v 0 ≤ k
  | 0, _, v, hv, h => by
    rw [show cwIt es 0 (cStart N a) = cStart N a from rfl, cStart_at hv] at h
    split at h
    · rename_i q; rw [← q, hL.src]; omega
    · omega
  | k + 1, hk, v, hv, h => by
    rw [wk_succ h40 he hk hv] at h
    obtain ⟨e, h1, h2, h3⟩ := sm_pos es h
    have h4 := wk_le h40 he hL k (by omega) _ (he e h1).1.2 h3
    have h5 := hL.st e h1
    rw [h2] at h5
    omega
theorem cc_inv (h40 : es.length ≤ 40) (h12 : N ≤ 12) (he : eAll N es) {L : List Int} (hL : HopL N a es L) : ∀ k : Nat, k + 1 ≤ N → (ccIt L es N a k).length = N ∧ ∀ v, v < N → (ccIt L es N a k).getD v 0 = if L.getD v 0 ≤ k then (cwIt es (L.getD v 0).toNat (cStart N a)).getD v 0 else 0
  | 0, hk => by
    refine ⟨cStart_length, fun v hv => ?_⟩
    show (cStart N a).getD v 0 = _
    have h0 := hL.low v hv
    by_cases q : L.getD v 0 ≤ ((0 : Nat) : Int)
    · rw [if_pos q, show (L.getD v 0).toNat = 0 by omega]; rfl
    · rw [if_neg q, cStart_at hv, if_neg]
      intro r
      have := hL.src
      rw [r] at this
      omega
  | k + 1, hk => by
    obtain ⟨h1, h2⟩ := cc_inv h40 h12 he hL k (by omega)
    have hb := wk_bound (a := a) h40 he k (by omega)
    have h3 := bd_le (show k ≤ 11 by omega)
    have h4 := bd_le (show k + 1 ≤ 11 by omega)
    have h5 : bd (k + 1) = 40 * bd k := rfl
    have hle : (es.length : Int) * bd k ≤ 40 * bd k := Int.mul_le_mul_of_nonneg_right (by omega) (by omega)
    have h6 := cc_fold (N := N) (L := L) (acc0 := ccIt L es N a k) (k := ((k + 1 : Nat) : Int)) (B := bd k) (by omega)
      (fun u hu q => by rw [h2 u hu, if_pos (by omega), show (L.getD u 0).toNat = k by omega]; exact hb u hu) es (ccIt L es N a k) h1 (fun e hein => ⟨(he e hein).1.2, (he e hein).2.1.2⟩) (fun _ _ _ => rfl)
      (fun v hv q => by rw [h2 v hv, if_neg (by omega)]; omega)
    refine ⟨h6.1, fun v hv => ?_⟩
    show (es.foldl (ccUp L ((k + 1 : Nat) : Int)) (ccIt L es N a k)).getD v 0 = _
    rw [h6.2 v hv, h2 v hv]
    by_cases q : L.getD v 0 = ((k + 1 : Nat) : Int)
    · rw [if_pos q, if_neg (by omega), if_pos (by omega), q, show (((k + 1 : Nat) : Int)).toNat = k + 1 by omega, wk_succ h40 he (by omega) hv, Int.zero_add]
      refine sm_congr es (fun e hein hev => ?_)
      have hf := (he e hein).1.2
      have hst := hL.st e hein
      rw [hev] at hst
      by_cases r : L.getD e.1.toNat 0 = ((k + 1 : Nat) : Int) - 1
      · rw [if_pos r, h2 _ hf, if_pos (by omega), show (L.getD e.1.toNat 0).toNat = k by omega]
      · rw [if_neg r]
        have h7 := (hb _ hf).1
        by_cases s : 0 < (cwIt es k (cStart N a)).getD e.1.toNat 0
        · have := wk_le h40 he hL k (by omega) _ hf s
          omega
        · omega
    · rw [if_neg q]
      by_cases r : L.getD v 0 ≤ (k : Int)
      · rw [if_pos r, if_pos (by omega)]
      · rw [if_neg r, if_neg (by omega)]
theorem ci_go (es : List Ed) (x : Nat) : ∀ (j k : Nat) (cs : List Int), (∀ i, i < j → (cwIt es i cs).getD x 0 ≤ 0) → j ≤ k → ciR es x k cs = ciR es x (k - j) (cwIt es j cs)
  | 0, k, cs, _, _ => rfl
  | j + 1, 0, cs, _, h => by omega
  | j + 1, k + 1, cs, h, hk => by
    have h0 := h 0 (by omega)
    have h0' : ¬ 0 < cs.getD x 0 := by
      have : cwIt es 0 cs = cs := rfl
      rw [this] at h0; omega
    rw [ciR, if_neg h0', ci_go es x j k (cw es cs) (fun i hi => by
      rw [cwIt_comm]; exact h (i + 1) (by omega)) (by omega), cwIt_comm, show k + 1 - (j + 1) = k - j by omega]
    rfl
/-- Both count the same. -/
theorem count_eq (h40 : es.length ≤ 40) (h12 : N ≤ 12) (he : eAll N es) {L : List Int} (hL : HopL N a es L) {x : Nat} (hx : x < N) : ciR es x N (cStart N a) = (ccIt L es N a (N - 1)).getD x 0 := by
  have h1 := (cc_inv h40 h12 he hL (N - 1) (by omega)).2 x hx
  rw [h1]
  have h0 := hL.low x hx
  have hneg : ∀ i : Nat, i < N → (i : Int) < L.getD x 0 → (cwIt es i (cStart N a)).getD x 0 ≤ 0 := fun i hi hlt => by
    by_cases q : 0 < (cwIt es i (cStart N a)).getD x 0
    · have := wk_le h40 he hL i (by omega) x hx q
      omega
    · omega
  by_cases q : L.getD x 0 ≤ ((N - 1 : Nat) : Int)
  · rw [if_pos q, ci_go es x (L.getD x 0).toNat N _ (fun i hi => hneg i (by omega) (by omega)) (by omega)]
    have hp := (hL.pos x hx (by omega)).2
    obtain ⟨r, hr⟩ : ∃ r, N - (L.getD x 0).toNat = r + 1 := ⟨N - (L.getD x 0).toNat - 1, by omega⟩
    rw [hr, ciR, if_pos hp]
  · rw [if_neg q, ci_go es x N N _ (fun i hi => hneg i hi (by omega)) (Nat.le_refl _), Nat.sub_self]
    rfl
/-- The right numbers of edges. -/
theorem hop_rt (h12 : N ≤ 12) (h40 : es.length ≤ 40) (he : eAll N es) (ha : a < N) : HopL N a es (vRt 5 N es a) := by
  have hm : mKind 5 = true := by decide
  have heN : eAll ((N : Int)).toNat es := by rw [Int.toNat_natCast]; exact he
  have hall := vRt_all (n := N) hm heN a
  have hlen : (vRt 5 N es a).length = N := by rw [vRt_length, Int.toNat_natCast]
  have hlow : ∀ v, v < N → 0 ≤ (vRt 5 N es a).getD v 0 ∧ (vRt 5 N es a).getD v 0 ≤ 100000 := fun v hv => by
    have h := mIn_low hm (hall v (by rw [hlen]; exact hv))
    exact h
  have hst := vRt_st (n := N) hm heN (a := (a : Int)) (by omega) (by omega)
  refine ⟨fun v hv => (hlow v hv).1, ?_, fun e hein => ?_, ?_⟩
  · have := vRt_src (n := N) hm heN (a := (a : Int)) (by omega) (by omega)
    rw [Int.toNat_natCast] at this
    rw [this]; rfl
  · have h1 := hst e hein
    have h2 := hlow _ (he e hein).1.2
    have h3 := hlow _ (he e hein).2.1.2
    unfold vGive at h1
    simp [mBet, mJoin, mEdge] at h1
    simp only [List.getD] at *
    omega
  · have key : ∀ k v, k < N → v < N → (vIter 5 es k (vStart 5 N a)).getD v 0 < 100000 → (vIter 5 es k (vStart 5 N a)).getD v 0 ≤ k ∧ 0 < (cwIt es ((vIter 5 es k (vStart 5 N a)).getD v 0).toNat (cStart N a)).getD v 0 := by
      intro k
      induction k with
      | zero =>
        intro v _ hv h
        rw [show vIter 5 es 0 (vStart 5 N a) = vStart 5 N a from rfl, vStart_at 5 N a (by omega)] at h ⊢
        by_cases q : (v : Int) = a
        · rw [if_pos q] at h ⊢
          refine ⟨by simp [mOne], ?_⟩
          show 0 < (cStart N a).getD v 0
          rw [cStart_at hv, if_pos (by omega)]; omega
        · rw [if_neg q] at h
          simp [mNone] at h
      | succ k ih =>
        intro v hk hv h
        have hA := vIter_all (es := es) hm (vStart_all (n := N) (src := a) hm) (by rw [vStart_length]; exact heN) k
        have hl2 : (vIter 5 es k (vStart 5 N a)).length = N := by rw [vIter_length, vStart_length, Int.toNat_natCast]
        have h2 := ((vFold_at hm hA es _ rfl (by rw [hl2]; exact he) hA).2 v (by rw [hl2]; exact hv)).2.2
        have e1 : vIter 5 es (k + 1) (vStart 5 N a) = es.foldl (vUp 5 (vIter 5 es k (vStart 5 N a))) (vIter 5 es k (vStart 5 N a)) := rfl
        rw [e1] at h ⊢
        rcases h2 with h2 | ⟨e, hein, hev, h2⟩
        · rw [h2] at h ⊢
          obtain ⟨h3, h4⟩ := ih v (by omega) hv h
          exact ⟨by omega, h4⟩
        · rw [h2] at h ⊢
          have hf := (he e hein).1.2
          have hin := mIn_low hm (hA e.1.toNat (by rw [hl2]; exact hf))
          have hin1 : 0 ≤ (vIter 5 es k (vStart 5 N a)).getD e.1.toNat 0 ∧ (vIter 5 es k (vStart 5 N a)).getD e.1.toNat 0 ≤ 100000 := hin
          have eg : vGive 5 (vIter 5 es k (vStart 5 N a)) e = min ((vIter 5 es k (vStart 5 N a)).getD e.1.toNat 0 + 1) 100000 := by
            unfold vGive mJoin mEdge
            simp
          rw [eg] at h ⊢
          have hlt : (vIter 5 es k (vStart 5 N a)).getD e.1.toNat 0 < 100000 := by omega
          obtain ⟨h3, h4⟩ := ih e.1.toNat (by omega) hf hlt
          have e2 : min ((vIter 5 es k (vStart 5 N a)).getD e.1.toNat 0 + 1) 100000 = (vIter 5 es k (vStart 5 N a)).getD e.1.toNat 0 + 1 := by omega
          rw [e2]
          refine ⟨by omega, ?_⟩
          have e3 : ((vIter 5 es k (vStart 5 N a)).getD e.1.toNat 0 + 1).toNat = ((vIter 5 es k (vStart 5 N a)).getD e.1.toNat 0).toNat + 1 := by omega
          rw [e3, wk_succ h40 he (by omega) hv]
          have hb := wk_bound (a := a) h40 he ((vIter 5 es k (vStart 5 N a)).getD e.1.toNat 0).toNat (by omega)
          have := sm_mem (f := fun u => (cwIt es ((vIter 5 es k (vStart 5 N a)).getD e.1.toNat 0).toNat (cStart N a)).getD u 0) es (fun x hx => (hb _ (he x hx).1.2).1) e hein hev
          omega
    intro v hv h
    have e0 : vRt 5 N es a = vIter 5 es (N - 1) (vStart 5 N a) := by
      unfold vRt
      rw [Int.toNat_natCast]
      have := vEnd (n := N) (src := (a : Int)) hm heN (by omega) (by omega) (k := N - 1) (by omega)
      rw [show N - 1 + 1 = N by omega] at this
      exact this
    rw [e0] at h ⊢
    obtain ⟨h3, h4⟩ := key (N - 1) v (by omega) hv h
    exact ⟨by omega, h4⟩
end
end Go.Proofs.Ytdblcaeeepkebaa
