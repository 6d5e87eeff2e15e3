/-
  Plain mathematics of an air: how warm it is inside each piece, that it is nowhere colder than at the coldest, and that one unit higher it is warmer by a slope. No program here.
-/
import Derived.Test.YtbaocifpifbldaaColdPure
namespace Go.Proofs.Ytbaocifpifbldaa

theorem warm_before {b : Int} {ss ts : List Int} (f : AirFacts b ss ts) {h : Int} (h0 : 0 < h) : ∀ j, j ≤ ts.length → (∀ i, i < j → nth ts i ≤ h) → warmT b ss ts h j = cumT b ss ts j ∧ warmF b ss ts h j = cumF ts j := by
  intro j
  induction j with
  | zero => intro _ _; exact ⟨rfl, rfl⟩
  | succ j ih =>
    intro hj ha
    have i1 := ih (by omega) (fun i hi => ha i (by omega))
    have hF : cumF ts j < h := by
      unfold cumF
      split
      · exact h0
      · have := f.rise (j - 1) (by omega)
        have := ha j (by omega)
        rw [show j - 1 + 1 = j by omega] at *
        omega
    have g := warm_go (b := b) (ss := ss) (ts := ts) (h := h) (k := j) (by rw [i1.2]; exact hF)
    have m : min h (nth ts j) = nth ts j := by have := ha j (by omega); omega
    rw [g.1, g.2, i1.1, i1.2, m, cumT_succ, cumF_succ]
    exact ⟨rfl, rfl⟩
/-- Inside piece k, above where it begins. -/
theorem warm_inside {b : Int} {ss ts : List Int} (f : AirFacts b ss ts) {h : Int} {k : Nat} (hk : k < ts.length) (h0 : cumF ts k < h) (h1 : h ≤ nth ts k) (hp : 0 < h) : warmT b ss ts h ts.length = cumT b ss ts k + nth ss k * (h - cumF ts k) := by
  have hb : ∀ i, i < k → nth ts i ≤ h := fun i hi => by
    have h2 := rise_le f (k - 1) i (by omega) (by omega)
    have h3 : cumF ts k = nth ts (k - 1) := by simp [cumF]; omega
    omega
  have i1 := warm_before f hp k (by omega) hb
  have g := warm_go (b := b) (ss := ss) (ts := ts) (h := h) (k := k) (by rw [i1.2]; exact h0)
  have m : min h (nth ts k) = h := by omega
  have e := warm_end (b := b) (ss := ss) (ts := ts) (h := h) (k := k + 1) (by rw [g.2]; exact h1) ts.length (by omega)
  rw [e.1, g.1, i1.1, i1.2, m]
theorem warm_ground (b : Int) (ss ts : List Int) : ∀ n, warmT b ss ts 0 n = b ∧ warmF b ss ts 0 n = 0
  | 0 => ⟨rfl, rfl⟩
  | n + 1 => by
    have ih := warm_ground b ss ts n
    have := warm_stay (b := b) (ss := ss) (ts := ts) (h := 0) (k := n) (by rw [ih.2]; omega)
    exact ⟨this.1.trans ih.1, this.2.trans ih.2⟩
theorem cumF_pos {b : Int} {ss ts : List Int} (f : AirFacts b ss ts) {k : Nat} (h : 0 < k) (hk : k ≤ ts.length) : 1 ≤ cumF ts k := by
  have := f.tops (k - 1) (by omega)
  have e : cumF ts k = nth ts (k - 1) := by simp [cumF]; omega
  omega
theorem cumF_up {b : Int} {ss ts : List Int} (f : AirFacts b ss ts) {j k : Nat} (h : j < k) (hk : k ≤ ts.length) : cumF ts j < cumF ts k := by
  by_cases e : j = 0
  · subst e
    have := cumF_pos f (k := k) (by omega) hk
    simp only [cumF, if_true]
    have e2 : (if k = 0 then (0 : Int) else nth ts (k - 1)) = cumF ts k := rfl
    omega
  · have e1 : cumF ts j = nth ts (j - 1) := by simp [cumF]; omega
    have e2 : cumF ts k = nth ts (k - 1) := by simp [cumF]; omega
    have h1 := rise_le f (k - 1) (j - 1 + 1) (by omega) (by omega)
    have h2 := f.rise (j - 1) (by omega)
    omega
/-- At a height where a piece begins or ends. -/
theorem warm_begin {b : Int} {ss ts : List Int} (f : AirFacts b ss ts) {k : Nat} (hk : k ≤ ts.length) : warmT b ss ts (cumF ts k) ts.length = cumT b ss ts k := by
  by_cases e : k = 0
  · subst e; exact (warm_ground b ss ts _).1
  · obtain ⟨j, rfl⟩ : ∃ j, k = j + 1 := ⟨k - 1, by omega⟩
    have hp := cumF_pos f (k := j + 1) (by omega) hk
    have hu := cumF_up f (j := j) (k := j + 1) (by omega) hk
    rw [warm_inside f (k := j) (by omega) hu (by rw [cumF_succ]; omega) (by omega), cumT_succ, cumF_succ]
theorem warm_piece {b : Int} {ss ts : List Int} (f : AirFacts b ss ts) {h : Int} {k : Nat} (hk : k < ts.length) (h0 : cumF ts k ≤ h) (h1 : h ≤ nth ts k) : warmT b ss ts h ts.length = cumT b ss ts k + nth ss k * (h - cumF ts k) := by
  by_cases e : h = cumF ts k
  · rw [e, warm_begin f (by omega), Int.sub_self, Int.mul_zero, Int.add_zero]
  · have hp : 0 ≤ cumF ts k := (cumF_bd f k (by omega)).1
    exact warm_inside f hk (by omega) h1 (by omega)
/-- Each height lies in a piece. -/
theorem in_piece {b : Int} {ss ts : List Int} (f : AirFacts b ss ts) {h : Int} (h0 : 0 ≤ h) : ∀ n, n ≤ ts.length → h < cumF ts n → ∃ k, k < n ∧ cumF ts k ≤ h ∧ h < nth ts k
  | 0, _, hh => by simp [cumF] at hh; omega
  | n + 1, hn, hh => by
    by_cases e : h < cumF ts n
    · obtain ⟨k, hk, r⟩ := in_piece f h0 n (by omega) e
      exact ⟨k, by omega, r⟩
    · rw [cumF_succ] at hh
      exact ⟨n, by omega, by omega, hh⟩
/-- The coldest of the first k tops and the ground: the first of them. -/
theorem cold_first {b : Int} {ss ts : List Int} : ∀ k, ∃ j, j ≤ k ∧ coldH b ss ts k = cumF ts j ∧ coldT b ss ts k = cumT b ss ts j ∧ (∀ i, i ≤ k → cumT b ss ts j ≤ cumT b ss ts i) ∧ ∀ i, i < j → cumT b ss ts j < cumT b ss ts i
  | 0 => by
    refine ⟨0, Nat.le_refl _, rfl, rfl, fun i hi => ?_, fun i hi => by omega⟩
    obtain rfl : i = 0 := by omega
    exact Int.le_refl _
  | k + 1 => by
    obtain ⟨j, hj, e1, e2, e3, e4⟩ := cold_first (b := b) (ss := ss) (ts := ts) k
    by_cases h : cumT b ss ts (k + 1) < coldT b ss ts k
    · have t := cold_take h
      rw [e2] at h
      refine ⟨k + 1, Nat.le_refl _, by rw [t.1, cumF_succ], t.2, fun i hi => ?_, fun i hi => ?_⟩
      · by_cases e : i = k + 1
        · subst e; exact Int.le_refl _
        · have := e3 i (by omega); omega
      · have := e3 i (by omega); omega
    · have t := cold_pass h
      rw [e2] at h
      refine ⟨j, by omega, t.1.trans e1, t.2.trans e2, fun i hi => ?_, e4⟩
      by_cases e : i = k + 1
      · subst e; omega
      · exact e3 i (by omega)
theorem mul_mono {s x y : Int} (h : x ≤ y) : (0 ≤ s → s * x ≤ s * y) ∧ (s ≤ 0 → s * y ≤ s * x) := by
  have e : s * y = s * x + s * (y - x) := by rw [← Int.mul_add]; congr 1; omega
  refine ⟨fun hs => ?_, fun hs => ?_⟩
  · have := Int.mul_nonneg hs (show 0 ≤ y - x by omega); omega
  · have := Int.mul_nonneg (show 0 ≤ -s by omega) (show 0 ≤ y - x by omega)
    rw [Int.neg_mul] at this; omega
theorem mul_less {s x y : Int} (h : x < y) (hs : s < 0) : s * y < s * x := by
  have e : s * y = s * x + s * (y - x) := by rw [← Int.mul_add]; congr 1; omega
  have := Int.mul_pos (show 0 < -s by omega) (show 0 < y - x by omega)
  rw [Int.neg_mul] at this; omega
/-- What the law asks of an air that is so. -/
structure AirLaw (b : Int) (ss ts : List Int) (h t : Int) : Prop where
  inn : 0 ≤ h ∧ h ≤ nth ts (ts.length - 1)
  at_ : warmT b ss ts h ts.length = t
  low : ∀ i, 0 ≤ i → i ≤ nth ts (ts.length - 1) → t ≤ warmT b ss ts i ts.length
  first : ∀ i, 0 ≤ i → i < h → warmT b ss ts i ts.length ≠ t
  up : ∀ i, 0 ≤ i → i + 1 ≤ nth ts (ts.length - 1) → ∃ k, k < ss.length ∧ nth ss k = warmT b ss ts (i + 1) ts.length - warmT b ss ts i ts.length
theorem airLaw {b : Int} {ss ts : List Int} (f : AirFacts b ss ts) : AirLaw b ss ts (coldH b ss ts ts.length) (coldT b ss ts ts.length) := by
  obtain ⟨j, hj, e1, e2, e3, e4⟩ := cold_first (b := b) (ss := ss) (ts := ts) ts.length
  have many := f.many
  have top : cumF ts ts.length = nth ts (ts.length - 1) := by unfold cumF; rw [if_neg (by omega)]
  have piece : ∀ i, 0 ≤ i → i ≤ nth ts (ts.length - 1) → ∃ k, k < ts.length ∧ cumF ts k ≤ i ∧ i ≤ nth ts k ∧ (i < nth ts (ts.length - 1) → i < nth ts k) := fun i h0 h1 => by
    by_cases e : i < cumF ts ts.length
    · obtain ⟨k, hk, r1, r2⟩ := in_piece f h0 ts.length (Nat.le_refl _) e
      exact ⟨k, hk, r1, by omega, fun _ => r2⟩
    · have hu := cumF_up f (j := ts.length - 1) (k := ts.length) (by omega) (Nat.le_refl _)
      exact ⟨ts.length - 1, by omega, by omega, by omega, fun h => by omega⟩
  rw [e1, e2]
  refine ⟨⟨(cumF_bd f j hj).1, ?_⟩, warm_begin f hj, fun i h0 h1 => ?_, fun i h0 h1 => ?_, fun i h0 h1 => ?_⟩
  · by_cases e : j = ts.length
    · rw [e, top]; omega
    · have := cumF_up f (j := j) (k := ts.length) (by omega) (Nat.le_refl _); omega
  · obtain ⟨k, hk, r1, r2, _⟩ := piece i h0 h1
    rw [warm_piece f hk r1 r2]
    have c1 := e3 k (by omega)
    have c2 := e3 (k + 1) (by omega)
    rw [cumT_succ] at c2
    by_cases hs : 0 ≤ nth ss k
    · have := (mul_mono (s := nth ss k) (x := 0) (y := i - cumF ts k) (by omega)).1 hs
      rw [Int.mul_zero] at this; omega
    · have := (mul_mono (s := nth ss k) (x := i - cumF ts k) (y := nth ts k - cumF ts k) (by omega)).2 (by omega)
      omega
  · have hi1 : i ≤ nth ts (ts.length - 1) := by
      by_cases e : j = ts.length
      · rw [e, top] at h1; omega
      · have := cumF_up f (j := j) (k := ts.length) (by omega) (Nat.le_refl _); omega
    obtain ⟨k, hk, r1, r2, _⟩ := piece i h0 hi1
    have hkj : k < j := by
      rcases Nat.lt_or_ge k j with h | h
      · exact h
      · by_cases e : k = j
        · subst e; omega
        · have := cumF_up f (j := j) (k := k) (by omega) (by omega); omega
    rw [warm_piece f hk r1 r2]
    have c1 := e4 k hkj
    have c2 := e3 (k + 1) (by omega)
    by_cases hs : 0 ≤ nth ss k
    · have := (mul_mono (s := nth ss k) (x := 0) (y := i - cumF ts k) (by omega)).1 hs
      rw [Int.mul_zero] at this; omega
    · by_cases e : i = nth ts k
      · have hk2 : k + 1 < j := by
          rcases Nat.lt_or_ge (k + 1) j with h | h
          · exact h
          · obtain rfl : j = k + 1 := by omega
            rw [cumF_succ] at h1; omega
        have c3 := e4 (k + 1) hk2
        rw [cumT_succ, ← e] at c3
        omega
      · have := mul_less (s := nth ss k) (x := i - cumF ts k) (y := nth ts k - cumF ts k) (by omega) (by omega)
        rw [cumT_succ] at c2
        omega
  · obtain ⟨k, hk, r1, r2, r3⟩ := piece i h0 (by omega)
    have r4 := r3 (by omega)
    rw [warm_piece f hk r1 r2, warm_piece f (h := i + 1) hk (by omega) (by omega)]
    refine ⟨k, by rw [f.len]; exact hk, ?_⟩
    rw [show i + 1 - cumF ts k = (i - cumF ts k) + 1 by omega, Int.mul_add, Int.mul_one]
    omega

end Go.Proofs.Ytbaocifpifbldaa
