/-
  The first place at which so many numbers in a row were outside, in plain numbers. No program here.
-/
import Derived.Test.YthjaldlnlcjljadLowPure
namespace Go.Proofs.Ythjaldlnlcjljad
open Go

/-- How many numbers in a row, the last ahead of a place, are outside. -/
def rowTo (zs : List Int) (lo hi : Int) : Nat → Nat
  | 0 => 0
  | k + 1 => if inB (nth zs k) lo hi = true then 0 else rowTo zs lo hi k + 1
theorem rowTo_le (zs : List Int) (lo hi : Int) (k : Nat) : rowTo zs lo hi k ≤ k := by
  induction k with
  | zero => exact Nat.le_refl _
  | succ k ih => simp only [rowTo]; split <;> omega
theorem rowTo_in {zs : List Int} {lo hi : Int} {k : Nat} (h : inB (nth zs k) lo hi = true) : rowTo zs lo hi (k + 1) = 0 := by simp [rowTo, h]
theorem rowTo_out {zs : List Int} {lo hi : Int} {k : Nat} (h : inB (nth zs k) lo hi = false) : rowTo zs lo hi (k + 1) = rowTo zs lo hi k + 1 := by simp [rowTo, h]
/-- The place. -/
def monK (zs : List Int) (lo hi hold : Int) : Option Nat := (List.range zs.length).find? (fun k => decide (hold ≤ (rowTo zs lo hi (k + 1) : Int)))
theorem monK_hit {zs : List Int} {lo hi hold : Int} {k : Nat} (hk : k < zs.length) (hb : ∀ j, j < k → (rowTo zs lo hi (j + 1) : Int) < hold) (h : hold ≤ (rowTo zs lo hi (k + 1) : Int)) : monK zs lo hi hold = some k := by
  unfold monK
  rw [List.find?_range_eq_some]
  refine ⟨by simpa using h, by simpa using hk, fun j hj => ?_⟩
  have := hb j hj
  simp; omega
theorem monK_none {zs : List Int} {lo hi hold : Int} (hb : ∀ j, j < zs.length → (rowTo zs lo hi (j + 1) : Int) < hold) : monK zs lo hi hold = none := by
  unfold monK
  rw [List.find?_range_eq_none]
  intro j hj
  have := hb j hj
  simp; omega
/-- Whether the numbers are so. -/
def monOkB (zs : List Int) (lo hi hold : Int) : Bool := decide (zs.length ≤ 500) && decide (lo ≤ hi) && inB hold 1 100
def monI (zs : List Int) (lo hi hold : Int) : Int := if monOkB zs lo hi hold = true then (match monK zs lo hi hold with | some k => (k : Int) | none => -1) else -1
def monB (zs : List Int) (lo hi hold : Int) : Bool := monOkB zs lo hi hold && (monK zs lo hi hold).isSome
theorem mon_long {zs : List Int} {lo hi hold : Int} (h : 500 < zs.length) : monI zs lo hi hold = -1 ∧ monB zs lo hi hold = false := by
  have : monOkB zs lo hi hold = false := by simp [monOkB]; omega
  simp [monI, monB, this]
theorem mon_turned {zs : List Int} {lo hi hold : Int} (h : hi < lo) : monI zs lo hi hold = -1 ∧ monB zs lo hi hold = false := by
  have : monOkB zs lo hi hold = false := by simp [monOkB]; omega
  simp [monI, monB, this]
theorem mon_hold {zs : List Int} {lo hi hold : Int} (h : inB hold 1 100 = false) : monI zs lo hi hold = -1 ∧ monB zs lo hi hold = false := by
  have : monOkB zs lo hi hold = false := by simp [monOkB, h]
  simp [monI, monB, this]
theorem mon_ok {zs : List Int} {lo hi hold : Int} (h1 : zs.length ≤ 500) (h2 : lo ≤ hi) (h3 : inB hold 1 100 = true) : monOkB zs lo hi hold = true := by simp [monOkB, h1, h2, h3]
theorem mon_hit {zs : List Int} {lo hi hold : Int} {k : Nat} (ho : monOkB zs lo hi hold = true) (hk : k < zs.length) (hb : ∀ j, j < k → (rowTo zs lo hi (j + 1) : Int) < hold) (h : hold ≤ (rowTo zs lo hi (k + 1) : Int)) : monI zs lo hi hold = k ∧ monB zs lo hi hold = true := by
  simp [monI, monB, ho, monK_hit hk hb h]
theorem mon_none {zs : List Int} {lo hi hold : Int} (ho : monOkB zs lo hi hold = true) (hb : ∀ j, j < zs.length → (rowTo zs lo hi (j + 1) : Int) < hold) : monI zs lo hi hold = -1 ∧ monB zs lo hi hold = false := by
  simp [monI, monB, ho, monK_none hb]
theorem inB_bounds {x a b : Int} (h : inB x a b = true) : a ≤ x ∧ x ≤ b := by simpa [inB] using h

end Go.Proofs.Ythjaldlnlcjljad
