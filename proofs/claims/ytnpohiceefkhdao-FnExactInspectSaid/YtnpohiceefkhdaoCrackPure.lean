/-
  A crack that grows flight by flight, in plain numbers. No program here.
-/
import Derived.Test.YtnpohiceefkhdaoLowPure
namespace Go.Proofs.Ytnpohiceefkhdao
open Go

/-- Whether a crack is so. -/
def crackB (n l g : Int) : Bool := inB n 0 l && inB l 0 1000000 && inB g 1 100
theorem crackB_facts {n l g : Int} (h : crackB n l g = true) : 0 ≤ n ∧ n ≤ l ∧ l ≤ 1000000 ∧ 1 ≤ g ∧ g ≤ 100 := by
  simp [crackB, inB] at h; omega
theorem crackB_n {n l g : Int} (h : inB n 0 l = false) : crackB n l g = false := by simp [crackB, h]
theorem crackB_l {n l g : Int} (h : inB l 0 1000000 = false) : crackB n l g = false := by simp [crackB, h]
theorem crackB_l' {n l g : Int} (h : 1000000 < l) : crackB n l g = false := by
  have : inB l 0 1000000 = false := by simp [inB]; omega
  simp [crackB, this]
theorem crackB_g {n l g : Int} (h : inB g 1 100 = false) : crackB n l g = false := by simp [crackB, h]
theorem crackB_true {n l g : Int} (h1 : inB n 0 l = true) (h2 : l ≤ 1000000) (h3 : inB g 1 100 = true) : crackB n l g = true := by
  simp [crackB, inB] at *; omega
/-- One flight. -/
def cgrow (n g : Int) : Int := n + (n * g + 999) / 1000
/-- Behind so many flights. -/
def crackAt (n g : Int) : Nat → Int
  | 0 => n
  | k + 1 => cgrow (crackAt n g k) g
theorem cgrow_ge {n g : Int} (h : 0 ≤ n) (hg : 1 ≤ g) : n ≤ cgrow n g := by
  have : 0 ≤ n * g := Int.mul_nonneg h (by omega)
  unfold cgrow; omega
theorem cgrow_gt {n g : Int} (h : 1 ≤ n) (hg : 1 ≤ g) : n + 1 ≤ cgrow n g := by
  have : n * 1 ≤ n * g := Int.mul_le_mul_of_nonneg_left hg (by omega)
  unfold cgrow; omega
theorem cgrow_bd {n g : Int} (h : 0 ≤ n) (h2 : n ≤ 1000000) (hg : 1 ≤ g) (hg2 : g ≤ 100) : 0 ≤ n * g ∧ n * g ≤ 100000000 := by
  have a : 0 ≤ n * g := Int.mul_nonneg h (by omega)
  have b := (mulBd (s := n) (d := g) (A := 1000000) (B := 100) (by omega) h2 (by omega) hg2 (by omega) (by omega)).2
  constructor <;> omega
theorem crackAt_ge {n g : Int} (h : 0 ≤ n) (hg : 1 ≤ g) (k : Nat) : 0 ≤ crackAt n g k := by
  induction k with
  | zero => exact h
  | succ k ih => have := cgrow_ge ih hg; simp only [crackAt]; omega
theorem crackAt_up {n g : Int} (h : 1 ≤ n) (hg : 1 ≤ g) (k : Nat) : n + k ≤ crackAt n g k := by
  induction k with
  | zero => simp [crackAt]
  | succ k ih => have := cgrow_gt (n := crackAt n g k) (by omega) hg; simp only [crackAt]; omega
/-- The first flight, counted from 0, of M, behind which the crack is above the limit. -/
def flAt (n l g : Int) (M : Nat) : Option Nat := (List.range M).find? fun k => decide (l < crackAt n g (k + 1))
theorem flAt_hit {n l g : Int} {M k : Nat} (hk : k < M) (h : l < crackAt n g (k + 1)) (hb : ∀ j, j < k → crackAt n g (j + 1) ≤ l) : flAt n l g M = some k := by
  unfold flAt
  rw [List.find?_range_eq_some]
  refine ⟨by simpa using h, by simpa using hk, fun j hj => ?_⟩
  have := hb j hj
  simp; omega
theorem flAt_none {n l g : Int} {M : Nat} (hb : ∀ j, j < M → crackAt n g (j + 1) ≤ l) : flAt n l g M = none := by
  unfold flAt
  rw [List.find?_range_eq_none]
  intro j hj
  have := hb j hj
  simp; omega
theorem flAt_facts {n l g : Int} {M k : Nat} (h : flAt n l g M = some k) : k < M ∧ l < crackAt n g (k + 1) ∧ ∀ j, j < k → crackAt n g (j + 1) ≤ l := by
  unfold flAt at h
  rw [List.find?_range_eq_some] at h
  refine ⟨by simpa using h.2.1, by simpa using h.1, fun j hj => ?_⟩
  have := h.2.2 j hj
  simp at this; omega
/-- Whether Flights tells a number, and the number. -/
def flB (n l g : Int) : Bool := crackB n l g && (flAt n l g 5000).isSome
def flN (n l g : Int) : Int := if crackB n l g = true then (match flAt n l g 5000 with | some k => (k : Int) + 1 | none => 0) else 0
theorem fl_not {n l g : Int} (h : crackB n l g = false) : flB n l g = false ∧ flN n l g = 0 := by simp [flB, flN, h]
theorem fl_hit {n l g : Int} {k : Nat} (h : crackB n l g = true) (hk : k < 5000) (h1 : l < crackAt n g (k + 1)) (hb : ∀ j, j < k → crackAt n g (j + 1) ≤ l) : flB n l g = true ∧ flN n l g = (k : Int) + 1 := by
  have e := flAt_hit hk h1 hb
  unfold flB flN
  rw [e, h]
  exact ⟨rfl, rfl⟩
theorem fl_none {n l g : Int} (hb : ∀ j, j < 5000 → crackAt n g (j + 1) ≤ l) : flB n l g = false ∧ flN n l g = 0 := by
  have e := flAt_none hb
  unfold flB flN
  rw [e]
  simp
theorem fl_facts {n l g : Int} (h : flB n l g = true) : ∃ k : Nat, k < 5000 ∧ flN n l g = (k : Int) + 1 ∧ l < crackAt n g (k + 1) ∧ ∀ j, j < k → crackAt n g (j + 1) ≤ l := by
  unfold flB at h
  simp only [Bool.and_eq_true] at h
  obtain ⟨k, hk⟩ := Option.isSome_iff_exists.1 h.2
  have f := flAt_facts hk
  refine ⟨k, f.1, ?_, f.2⟩
  unfold flN
  rw [if_pos h.1, hk]
theorem fl_le {n l g : Int} : 0 ≤ flN n l g ∧ flN n l g ≤ 5000 := by
  cases h : flB n l g with
  | true => obtain ⟨k, h1, h2, _⟩ := fl_facts h; omega
  | false =>
    unfold flB at h
    unfold flN
    cases hc : crackB n l g with
    | false => simp
    | true =>
      rw [hc] at h
      simp only [Bool.true_and] at h
      cases hf : flAt n l g 5000 with
      | none => simp
      | some k => rw [hf] at h; cases h
/-- A crack that is there passes any limit that is small. -/
theorem fl_small {n l g : Int} (h : crackB n l g = true) (h1 : 1 ≤ n) (h2 : l ≤ 4000) : flB n l g = true := by
  have f := crackB_facts h
  unfold flB
  rw [h]
  cases hf : flAt n l g 5000 with
  | some k => rfl
  | none =>
    unfold flAt at hf
    rw [List.find?_range_eq_none] at hf
    have a := hf 4999 (by omega)
    have b := crackAt_up h1 (by omega : 1 ≤ g) (4999 + 1)
    simp only [Bool.not_eq_eq_eq_not, Bool.not_true, decide_eq_false_iff_not] at a
    omega
/-- What Inspect tells. -/
def lookB (n l g a p : Int) : Bool := crackB n l g && inB a 1 l && inB p 1 20 && flB a l g && decide (0 < (flN a l g - 1) / p)
def lookN (n l g a p : Int) : Int := if lookB n l g a p = true then (flN a l g - 1) / p else 0
theorem look_not {n l g a p : Int} (h : lookB n l g a p = false) : lookN n l g a p = 0 := by simp [lookN, h]
theorem look_yes {n l g a p : Int} (h : lookB n l g a p = true) : lookN n l g a p = (flN a l g - 1) / p := by simp [lookN, h]
theorem crackB_other {n l g a : Int} (h : crackB n l g = true) (h2 : inB a 1 l = true) : crackB a l g = true := by
  simp [crackB, inB] at *; omega

end Go.Proofs.Ytnpohiceefkhdao
