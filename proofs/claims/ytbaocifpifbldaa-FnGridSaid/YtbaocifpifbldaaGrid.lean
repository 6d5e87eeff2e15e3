/-
  What the functions on a grid answer: the law's size, copy and comparison of a grid, and the test of a grid in the model and in the program: the same test at every grid; nothing that was there is written.
-/
import Derived.Test.YtbaocifpifbldaaMakeS
import Derived.Test.YtbaocifpifbldaaAxis
namespace Go.Proofs.Ytbaocifpifbldaa
open Go.RowKit

def gridHead (xs ys : List Int) (n : Nat) : Bool := inB xs.length 2 20 && inB ys.length 2 20 && riseB xs && riseB ys && allB xs (-1000) 1000 && allB ys (-1000) 1000 && ((n : Int) == (ys.length : Int))
theorem gridHead_impl (xs ys : List Int) (n : Nat) : gridHead xs ys n = (axisB xs 1000 && axisB ys 1000 && ((n : Int) == (ys.length : Int))) := by
  unfold gridHead axisB
  generalize inB xs.length 2 20 = a
  generalize inB ys.length 2 20 = b
  generalize riseB xs = c
  generalize riseB ys = d
  generalize allB xs _ _ = e
  generalize allB ys _ _ = f
  generalize ((n : Int) == (ys.length : Int)) = g
  cases a <;> cases b <;> cases c <;> cases d <;> cases e <;> cases f <;> cases g <;> rfl
/-- A list of the grid: as long as X, its numbers within the bounds. -/
def rowB (n : Nat) (zs : List Int) : Bool := decide (zs.length = n) && allB zs (-1000) 1000
def rowsB (n : Nat) (zss : List (List Int)) : Bool := decide (∀ i, i < zss.length → rowB n (nthS zss i) = true)
def gridB (xs ys : List Int) (zss : List (List Int)) : Bool := gridHead xs ys zss.length && rowsB xs.length zss
theorem rowsB_true {n : Nat} {zss : List (List Int)} (h : ∀ j, j < zss.length → rowB n (nthS zss j) = true) : rowsB n zss = true := by
  simp only [rowsB, decide_eq_true_eq]; exact h
theorem rowsB_false {n : Nat} {zss : List (List Int)} {j : Nat} (hj : j < zss.length) (h : rowB n (nthS zss j) = false) : rowsB n zss = false := by
  simp only [rowsB, decide_eq_false_iff_not]; intro k; have := k j hj; rw [h] at this; cases this
theorem grid_head {xs ys : List Int} {zss : List (List Int)} (h : gridHead xs ys zss.length = false) : gridB xs ys zss = false := by simp [gridB, h]
theorem grid_rows {xs ys : List Int} {zss : List (List Int)} (h : gridHead xs ys zss.length = true) : gridB xs ys zss = rowsB xs.length zss := by simp [gridB, h]

end Go.Proofs.Ytbaocifpifbldaa
