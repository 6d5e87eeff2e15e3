/-
  Plain mathematics of Leaves: sums behind the first burns, and the first that is outside. No program here.
-/
import Derived.Test.YtbaocifpifbldajFuelPure
namespace Go.Proofs.Ytbaocifpifbldaj

theorem sumM_set (ts : List (Int × Int)) (i : Nat) (a : Int) (hi : i < ts.length) : ∀ k, sumM (ts.set i (a, sndAt ts i)) k = sumM ts k + (if i < k then a - fstAt ts i else 0) := by
  intro k
  induction k with
  | zero => simp [sumM]
  | succ k ih =>
    rw [sumM_succ, sumM_succ, ih, fstAt_set _ _ _ _ _ hi]
    by_cases e : k = i
    · subst e; simp; omega
    · rw [if_neg e]
      by_cases h : i < k
      · rw [if_pos h, if_pos (by omega)]; omega
      · rw [if_neg h, if_neg (by omega)]; omega
theorem sumQ_set (ts : List (Int × Int)) (i : Nat) (a : Int) (hi : i < ts.length) : ∀ k, sumQ (ts.set i (a, sndAt ts i)) k = sumQ ts k + (if i < k then (a - fstAt ts i) * sndAt ts i else 0) := by
  intro k
  induction k with
  | zero => simp [sumQ]
  | succ k ih =>
    rw [sumQ_succ, sumQ_succ, ih, fstAt_set _ _ _ _ _ hi, sndAt_set _ _ _ _ _ hi]
    by_cases e : k = i
    · subst e
      simp [Int.sub_mul]
      omega
    · rw [if_neg e, if_neg e]
      by_cases h : i < k
      · rw [if_pos h, if_pos (by omega)]; omega
      · rw [if_neg h, if_neg (by omega)]; omega

/-- One burn takes its fuel from the sum. -/
theorem take1_sum {ts : List (Int × Int)} {t : Nat} {n : Int} (ht : t < ts.length) : sumM (take1 ts t n) ts.length = sumM ts ts.length + -n ∧ sumQ (take1 ts t n) ts.length = sumQ ts ts.length + -n * sndAt ts t := by
  unfold take1
  rw [Int.toNat_natCast, sumM_set _ _ _ ht, sumQ_set _ _ _ ht, if_pos ht, if_pos ht]
  have e : fstAt ts t - n - fstAt ts t = -n := by omega
  rw [e]
  exact ⟨rfl, rfl⟩

theorem take1_snd (ts : List (Int × Int)) (t n : Int) (i : Nat) : sndAt (take1 ts t n) i = sndAt ts i := by
  unfold take1
  by_cases h : t.toNat < ts.length
  · rw [sndAt_set _ _ _ _ _ h]
    by_cases e : i = t.toNat
    · rw [if_pos e, e]
    · rw [if_neg e]
  · rw [List.set_eq_of_length_le (by omega)]
theorem afterB_snd (ts bs : List (Int × Int)) (k i : Nat) : sndAt (afterB ts bs k) i = sndAt ts i := by
  induction k with
  | zero => rfl
  | succ k ih => rw [afterB_succ, take1_snd, ih]

theorem take1_items {ts : List (Int × Int)} {t n : Int} (hc : canB ts t n = true) (h : ∀ j, j < ts.length → itemB (fstAt ts j) (sndAt ts j) = true) : ∀ j, j < (take1 ts t n).length → itemB (fstAt (take1 ts t n) j) (sndAt (take1 ts t n) j) = true := by
  intro j hj
  rw [take1_len] at hj
  obtain ⟨c1, c2, c3⟩ := can_facts hc
  rw [take1_snd]
  unfold take1
  rw [fstAt_set _ _ _ _ _ (by omega)]
  by_cases e : j = t.toNat
  · rw [if_pos e]
    have := h j hj
    rw [e] at this ⊢
    simp only [itemB, Bool.and_eq_true, inB, decide_eq_true_eq] at this ⊢
    omega
  · rw [if_neg e]; exact h j hj
theorem afterB_items {ts bs : List (Int × Int)} (h : ∀ j, j < ts.length → itemB (fstAt ts j) (sndAt ts j) = true) : ∀ k, (∀ j, j < k → canAt ts bs j = true) → ∀ j, j < (afterB ts bs k).length → itemB (fstAt (afterB ts bs k) j) (sndAt (afterB ts bs k) j) = true := by
  intro k
  induction k with
  | zero => intro _; exact h
  | succ k ih =>
    intro hc
    rw [afterB_succ]
    exact take1_items (hc k (by omega)) (ih (fun j hj => hc j (by omega)))

/-- The sums behind the first k burns. -/
def massB (dm : Int) (ts bs : List (Int × Int)) (k : Nat) : Int := dm + sumM (afterB ts bs k) ts.length
def momB (dq : Int) (ts bs : List (Int × Int)) (k : Nat) : Int := dq + sumQ (afterB ts bs k) ts.length
theorem massB_zero (dm : Int) (ts bs : List (Int × Int)) : massB dm ts bs 0 = dm + sumM ts ts.length := rfl
theorem momB_zero (dq : Int) (ts bs : List (Int × Int)) : momB dq ts bs 0 = dq + sumQ ts ts.length := rfl
theorem massB_succ {dm dq : Int} {ts bs : List (Int × Int)} {k : Nat} (h : canAt ts bs k = true) : massB dm ts bs (k + 1) = massB dm ts bs k + -sndAt bs k ∧ momB dq ts bs (k + 1) = momB dq ts bs k + -sndAt bs k * sndAt ts (fstAt bs k).toNat := by
  obtain ⟨c1, _, _⟩ := can_facts h
  rw [afterB_len] at c1
  unfold massB momB
  rw [afterB_succ]
  obtain ⟨t, ht⟩ : ∃ t : Nat, fstAt bs k = t := ⟨(fstAt bs k).toNat, by omega⟩
  rw [ht, Int.toNat_natCast]
  have := take1_sum (ts := afterB ts bs k) (t := t) (n := sndAt bs k) (by rw [afterB_len]; omega)
  rw [afterB_len, afterB_snd] at this
  rw [this.1, this.2]
  omega
theorem mass_bd {dm dq : Int} {ts bs : List (Int × Int)} (h8 : ts.length ≤ 8) (hd : dryB dm dq = true) (h : ∀ j, j < ts.length → itemB (fstAt ts j) (sndAt ts j) = true) {k : Nat} (hc : ∀ j, j < k → canAt ts bs j = true) :
    (0 ≤ massB dm ts bs k ∧ massB dm ts bs k ≤ 480000) ∧ (-180000000 ≤ momB dq ts bs k ∧ momB dq ts bs k ≤ 180000000) := by
  have bd := sum_bd (ps := afterB ts bs k) ts.length (fun j hj => afterB_items h k hc j (by rw [afterB_len]; exact hj))
  have fd := dry_facts hd
  unfold massB momB
  omega

def leavesOk (ms fs gs : List Int) (dm dq : Int) (ts bs : List (Int × Int)) : Bool := envB ms fs gs && dryB dm dq && decide (burntC ts bs = -1)
def inAt (ms fs gs : List Int) (dm dq : Int) (ts bs : List (Int × Int)) (k : Nat) : Bool := insB ms fs gs (massB dm ts bs k) (momB dq ts bs k)
def leavesV (ms fs gs : List Int) (dm dq : Int) (ts bs : List (Int × Int)) : Int :=
  if leavesOk ms fs gs dm dq ts bs then (((List.range (bs.length + 1)).find? fun j => !inAt ms fs gs dm dq ts bs j).map fun j => (j : Int) - 1).getD bs.length else -2
theorem leaves_bad {ms fs gs : List Int} {dm dq : Int} {ts bs : List (Int × Int)} (h : leavesOk ms fs gs dm dq ts bs = false) : leavesV ms fs gs dm dq ts bs = -2 := by simp [leavesV, h]
theorem leaves_at {ms fs gs : List Int} {dm dq : Int} {ts bs : List (Int × Int)} {k : Nat} (h0 : leavesOk ms fs gs dm dq ts bs = true) (hk : k ≤ bs.length) (h : inAt ms fs gs dm dq ts bs k = false) (hb : ∀ j, j < k → inAt ms fs gs dm dq ts bs j = true) : leavesV ms fs gs dm dq ts bs = (k : Int) - 1 := by
  have : (List.range (bs.length + 1)).find? (fun j => !inAt ms fs gs dm dq ts bs j) = some k := by
    rw [List.find?_range_eq_some]
    refine ⟨by simp [h], by simp; omega, fun j hj => ?_⟩
    simp [hb j hj]
  simp [leavesV, h0, this]
theorem leaves_all {ms fs gs : List Int} {dm dq : Int} {ts bs : List (Int × Int)} (h0 : leavesOk ms fs gs dm dq ts bs = true) (hb : ∀ j, j ≤ bs.length → inAt ms fs gs dm dq ts bs j = true) : leavesV ms fs gs dm dq ts bs = bs.length := by
  have : (List.range (bs.length + 1)).find? (fun j => !inAt ms fs gs dm dq ts bs j) = none := by
    rw [List.find?_eq_none]
    intro x hx
    simp [hb x (by simp at hx; omega)]
  simp [leavesV, h0, this]

/-- All burns can be done just where the code is -1. -/
theorem burntC_all {ts bs : List (Int × Int)} (h : burntC ts bs = -1) : burntOk ts bs = true ∧ ∀ j, j < bs.length → canAt ts bs j = true := by
  unfold burntC at h
  cases h0 : burntOk ts bs
  · rw [h0] at h; simp at h
  · refine ⟨rfl, ?_⟩
    rw [h0] at h
    simp only [if_true] at h
    by_cases hs : stopN ts bs < bs.length
    · rw [if_pos hs] at h; omega
    · intro j hj
      cases hc : canAt ts bs j
      · exfalso
        -- the first that can't
        have : ∃ k, k < bs.length ∧ canAt ts bs k = false ∧ ∀ i, i < k → canAt ts bs i = true := by
          have key : ∀ m, (∃ k, k < bs.length ∧ k < m ∧ canAt ts bs k = false ∧ ∀ i, i < k → canAt ts bs i = true) ∨ ∀ i, i < m → i < bs.length → canAt ts bs i = true := by
            intro m
            induction m with
            | zero => right; intro i hi; omega
            | succ m ih =>
              rcases ih with ⟨k, h1, h2, h3⟩ | ih
              · exact .inl ⟨k, h1, by omega, h3⟩
              · by_cases hm : m < bs.length
                · cases hcm : canAt ts bs m
                  · exact .inl ⟨m, hm, by omega, hcm, fun i hi => ih i hi (by omega)⟩
                  · right
                    intro i hi hl
                    rcases Nat.lt_succ_iff_lt_or_eq.1 hi with h | h
                    · exact ih i h hl
                    · subst h; exact hcm
                · right
                  intro i hi hl
                  exact ih i (by omega) hl
          rcases key (j + 1) with ⟨k, h1, _, h3⟩ | h
          · exact ⟨k, h1, h3⟩
          · have := h j (by omega) hj; rw [hc] at this; cases this
        obtain ⟨k, hk, h1, h2⟩ := this
        have := stop_is hk h1 h2
        omega
      · rfl

/-- The first burns of a plan that can be done are done. -/
theorem take_at (bs : List (Int × Int)) (j i : Nat) (h : i < j) : fstAt (bs.take j) i = fstAt bs i ∧ sndAt (bs.take j) i = sndAt bs i := by
  unfold fstAt sndAt
  rw [List.getElem?_take, if_pos h]
  exact ⟨rfl, rfl⟩
theorem afterB_take (ts bs : List (Int × Int)) (j : Nat) : ∀ k, k ≤ j → afterB ts (bs.take j) k = afterB ts bs k := by
  intro k
  induction k with
  | zero => intro _; rfl
  | succ k ih =>
    intro hk
    rw [afterB_succ, afterB_succ, ih (by omega), (take_at bs j k (by omega)).1, (take_at bs j k (by omega)).2]
theorem burnt_take {ts bs : List (Int × Int)} {j : Nat} (h0 : burntOk ts bs = true) (hj : j ≤ bs.length) (h : ∀ i, i < bs.length → canAt ts bs i = true) : burntT ts (bs.take j) = afterB ts bs j := by
  have hl : (bs.take j).length = j := by simp; omega
  have h0' : burntOk ts (bs.take j) = true := by simp only [burntOk, Bool.and_eq_true, decide_eq_true_eq] at h0 ⊢; exact ⟨h0.1, by omega⟩
  have := (burnt_all (ts := ts) (bs := bs.take j) h0' (fun i hi => by
    rw [hl] at hi
    unfold canAt
    rw [afterB_take ts bs j i (by omega), (take_at bs j i hi).1, (take_at bs j i hi).2]
    exact h i (by omega))).1
  rw [this, hl, afterB_take ts bs j j (Nat.le_refl _)]

end Go.Proofs.Ytbaocifpifbldaj
