/-
  How often a history of loads comes up to a level, in plain numbers. No program here.
-/
import Derived.Test.YtnpohiceefkhdaoLowPure
namespace Go.Proofs.Ytnpohiceefkhdao
open Go

/-- Whether the load behind a place comes up to the level. -/
def upB (zs : List Int) (lv : Int) (i : Nat) : Bool := decide (nth zs i < lv) && decide (lv ≤ nth zs (i + 1))
/-- How often up to a place. -/
def crossTo (zs : List Int) (lv : Int) : Nat → Nat
  | 0 => 0
  | k + 1 => crossTo zs lv k + (if upB zs lv k = true then 1 else 0)
theorem crossTo_le (zs : List Int) (lv : Int) (k : Nat) : crossTo zs lv k ≤ k := by
  induction k with
  | zero => exact Nat.le_refl _
  | succ k ih => simp only [crossTo]; split <;> omega
theorem crossTo_yes {zs : List Int} {lv : Int} {k : Nat} (h1 : nth zs k < lv) (h2 : lv ≤ nth zs (k + 1)) : crossTo zs lv (k + 1) = crossTo zs lv k + 1 := by
  have : upB zs lv k = true := by simp [upB, h1, h2]
  simp [crossTo, this]
theorem crossTo_no {zs : List Int} {lv : Int} {k : Nat} (h : ¬ (nth zs k < lv ∧ lv ≤ nth zs (k + 1))) : crossTo zs lv (k + 1) = crossTo zs lv k := by
  have : ¬ upB zs lv k = true := by simpa [upB] using h
  simp [crossTo, this]
/-- Whether the history is so. -/
def crossB (zs : List Int) : Bool := decide (zs.length ≤ 300) && allB zs (-1000000) 1000000
/-- The number that is told. -/
def crossN (zs : List Int) (lv : Int) : Int := if crossB zs = true then (crossTo zs lv (zs.length - 1) : Int) else 0
theorem crossB_long {zs : List Int} (h : 300 < zs.length) : crossB zs = false := by simp [crossB]; omega
theorem crossB_all {zs : List Int} (h : allB zs (-1000000) 1000000 = false) : crossB zs = false := by simp [crossB, h]
theorem crossB_true {zs : List Int} (h : zs.length ≤ 300) (h2 : allB zs (-1000000) 1000000 = true) : crossB zs = true := by simp [crossB, h, h2]
theorem crossN_no {zs : List Int} {lv : Int} (h : crossB zs = false) : crossN zs lv = 0 := by simp [crossN, h]
theorem crossN_yes {zs : List Int} {lv : Int} (h : crossB zs = true) : crossN zs lv = (crossTo zs lv (zs.length - 1) : Int) := by simp [crossN, h]

end Go.Proofs.Ytnpohiceefkhdao
