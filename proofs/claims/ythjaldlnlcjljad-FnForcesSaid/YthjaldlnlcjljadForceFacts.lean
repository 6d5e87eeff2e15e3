/-
  What the law FnForces asks of pushes and of rows of numbers, in plain numbers. No program here.
-/
import Derived.Test.YthjaldlnlcjljadMonPure
import Derived.Test.YthjaldlnlcjljadFightPure
namespace Go.Proofs.Ythjaldlnlcjljad
open Go

def sizeI (x : Int) : Int := if x < 0 then -x else x
theorem force_ok {p q r : Int} (hp : -128 ≤ p ∧ p ≤ 127) (hq : -128 ≤ q ∧ q ≤ 127) (hr : -128 ≤ r ∧ r ≤ 127) : fightOkB [p, q, r] 100 = true := by
  have h : allB [p, q, r] (-10000) 10000 = true := by
    simp only [allB, decide_eq_true_eq]
    intro i hi
    have hi' : i < 3 := by simpa using hi
    rcases (show i = 0 ∨ i = 1 ∨ i = 2 by omega) with rfl | rfl | rfl <;> simp [nth, inB] <;> omega
  simp [fightOkB, h, inB]
theorem force_sum {p q r : Int} (hp : -128 ≤ p ∧ p ≤ 127) (hq : -128 ≤ q ∧ q ≤ 127) (hr : -128 ≤ r ∧ r ≤ 127) : fightS [p, q, r] 100 = p + q + r := by
  simp only [fightS, force_ok hp hq hr, if_true]
  simp [pushTo, nth]
theorem force_far {p q r : Int} (hp : -128 ≤ p ∧ p ≤ 127) (hq : -128 ≤ q ∧ q ≤ 127) (hr : -128 ≤ r ∧ r ≤ 127) (h : 100 < sizeI (p - q) ∨ 100 < sizeI (q - r) ∨ 100 < sizeI (p - r)) : fightC [p, q, r] 100 = 1 := by
  refine (fight_far (force_ok hp hq hr) ?_).2
  simp only [sizeI] at h
  simp only [greatTo, leastTo, nth, List.length_cons, List.length_nil]
  simp
  split at h <;> split at h <;> split at h <;> omega
theorem force_near {p q r : Int} (hp : -128 ≤ p ∧ p ≤ 127) (hq : -128 ≤ q ∧ q ≤ 127) (hr : -128 ≤ r ∧ r ≤ 127) (h1 : ¬ 100 < sizeI (p - q)) (h2 : ¬ 100 < sizeI (q - r)) (h3 : ¬ 100 < sizeI (p - r)) : fightC [p, q, r] 100 = 0 := by
  refine (fight_near (force_ok hp hq hr) ?_).2
  simp only [sizeI] at h1 h2 h3
  simp only [greatTo, leastTo, nth, List.length_cons, List.length_nil]
  simp
  split at h1 <;> split at h2 <;> split at h3 <;> omega
theorem mon_four : monI [9, 1, 9, 9] 0 5 2 = 3 ∧ monB [9, 1, 9, 9] 0 5 2 = true := by decide
theorem mon_no {zs : List Int} {lo hi hold : Int} (h : monB zs lo hi hold = false) : monI zs lo hi hold = -1 := by
  unfold monB at h
  unfold monI
  cases e : monOkB zs lo hi hold with
  | false => simp
  | true =>
    rw [e] at h
    cases e2 : monK zs lo hi hold with
    | none => simp
    | some k => rw [e2] at h; simp at h
theorem rowTo_back (zs : List Int) (lo hi : Int) : ∀ k i, i < k → k ≤ i + rowTo zs lo hi k → inB (nth zs i) lo hi = false := by
  intro k
  induction k with
  | zero => intro i h; omega
  | succ k ih =>
    intro i h1 h2
    cases e : inB (nth zs k) lo hi with
    | true => rw [rowTo_in e] at h2; omega
    | false =>
      rw [rowTo_out e] at h2
      by_cases h : i = k
      · subst h; exact e
      · exact ih i (by omega) (by omega)
theorem nth_take (zs : List Int) (n i : Nat) (h : i < n) : nth (zs.take n) i = nth zs i := by unfold nth; rw [List.getElem?_take_of_lt h]
theorem rowTo_take (zs : List Int) (lo hi : Int) (n : Nat) : ∀ k, k ≤ n → rowTo (zs.take n) lo hi k = rowTo zs lo hi k := by
  intro k
  induction k with
  | zero => intro _; rfl
  | succ k ih => intro h; simp only [rowTo, nth_take zs n k (by omega), ih (by omega)]
structure MonSaid (zs : List Int) (lo hi hold : Int) (k : Nat) : Prop where
  eq : monI zs lo hi hold = k
  lt : k < zs.length
  h0 : 1 ≤ hold
  h1 : hold ≤ 100
  ge : hold - 1 ≤ (k : Int)
  out : ∀ i : Nat, (k : Int) - hold < (i : Int) → i ≤ k → ¬ (lo ≤ nth zs i ∧ nth zs i ≤ hi)
  first : monB (zs.take k) lo hi hold = false
theorem mon_said {zs : List Int} {lo hi hold : Int} (h : monB zs lo hi hold = true) : ∃ k, MonSaid zs lo hi hold k := by
  unfold monB at h
  simp only [Bool.and_eq_true] at h
  obtain ⟨ho, hs⟩ := h
  obtain ⟨k, hk⟩ := Option.isSome_iff_exists.1 hs
  have hk0 := hk
  unfold monK at hk
  rw [List.find?_range_eq_some] at hk
  obtain ⟨h1, h2, h3⟩ := hk
  have hkl : k < zs.length := by simpa using h2
  have hge : hold ≤ (rowTo zs lo hi (k + 1) : Int) := by simpa using h1
  have hb : ∀ j, j < k → (rowTo zs lo hi (j + 1) : Int) < hold := fun j hj => by have := h3 j hj; simp at this; omega
  have hle := rowTo_le zs lo hi (k + 1)
  have hold1 : 1 ≤ hold ∧ hold ≤ 100 := by
    simp only [monOkB, Bool.and_eq_true] at ho
    exact inB_bounds ho.2
  refine ⟨k, ⟨by simp [monI, ho, hk0], hkl, hold1.1, hold1.2, by omega, fun i hi1 hi2 hc => ?_, ?_⟩⟩
  · have := rowTo_back zs lo hi (k + 1) i (by omega) (by omega)
    simp [inB] at this
    omega
  · have ok2 : monOkB (zs.take k) lo hi hold = true ∨ monOkB (zs.take k) lo hi hold = false := by cases monOkB (zs.take k) lo hi hold <;> simp
    rcases ok2 with e | e
    · refine (mon_none e (fun j hj => ?_)).2
      have hj' : j < k := by simp at hj; omega
      rw [rowTo_take zs lo hi k (j + 1) (by omega)]
      exact hb j hj'
    · simp [monB, e]

end Go.Proofs.Ythjaldlnlcjljad
