/-
  Plain mathematics of Find: the first place whose number suffices, and the least whole place on the line ahead of it. No program here.
-/
import Derived.Test.YtikhfacgoglcfaaCurve
import Derived.Test.YtikhfacgoglcfaaLowPure
namespace Go.Proofs.Ytikhfacgoglcfaa

structure CurveFacts (xs ys : List Int) : Prop where
  len : xs.length = ys.length
  many : 2 ≤ xs.length ∧ xs.length ≤ 20
  xb : ∀ i, i < xs.length → -100000 ≤ nth xs i ∧ nth xs i ≤ 100000
  yb : ∀ i, i < ys.length → -100000 ≤ nth ys i ∧ nth ys i ≤ 100000
  rise : ∀ i, i < xs.length - 1 → nth xs i < nth xs (i + 1)

theorem curveB_facts {xs ys : List Int} (h : curveB xs ys = true) : CurveFacts xs ys := by
  simp only [curveB, Bool.and_eq_true, inB, riseB, allB, decide_eq_true_eq, beq_iff_eq] at h
  obtain ⟨⟨⟨⟨h1, h2⟩, h3⟩, h4⟩, h5⟩ := h
  exact ⟨by omega, by omega, h4, h5, h3⟩

/-- The first whole place on the line from (x0, y0) to (x1, y1) at which it is at least y. -/
def reachOf (x0 x1 y0 y1 y : Int) : Int := x0 + ((y - y0) * (x1 - x0) + (y1 - y0) - 1) / (y1 - y0)

theorem reach_bd {x0 x1 y0 y1 y : Int} (h1 : -100000 ≤ x0 ∧ x0 ≤ 100000) (h2 : -100000 ≤ x1 ∧ x1 ≤ 100000) (h3 : -100000 ≤ y0 ∧ y0 ≤ 100000) (h4 : -100000 ≤ y1 ∧ y1 ≤ 100000) (hx : x0 < x1) (hy0 : y0 < y) (hy1 : y ≤ y1) :
    (0 ≤ (y - y0) * (x1 - x0) ∧ (y - y0) * (x1 - x0) ≤ 40000000000) ∧ (0 ≤ ((y - y0) * (x1 - x0) + (y1 - y0) - 1) / (y1 - y0) ∧ ((y - y0) * (x1 - x0) + (y1 - y0) - 1) / (y1 - y0) ≤ 40000200000) := by
  have p0 : 0 ≤ (y - y0) * (x1 - x0) := Int.mul_nonneg (by omega) (by omega)
  have p1 := mulBd (A := 200000) (B := 200000) (s := y - y0) (d := x1 - x0) (by omega) (by omega) (by omega) (by omega) (by omega) (by omega)
  generalize (y - y0) * (x1 - x0) = P at *
  have q0 : 0 ≤ (P + (y1 - y0) - 1) / (y1 - y0) := Int.ediv_nonneg (by omega) (by omega)
  have q1 : (P + (y1 - y0) - 1) / (y1 - y0) ≤ P + (y1 - y0) - 1 := Int.ediv_le_self _ (by omega)
  omega

/-- The first place of ys whose number is at least y. -/
def firstAt (ys : List Int) (y : Int) : Option Nat := (List.range ys.length).find? fun i => decide (y ≤ nth ys i)

theorem firstAt_some {ys : List Int} {y : Int} {i : Nat} (hi : i < ys.length) (h : y ≤ nth ys i) (hb : ∀ j, j < i → nth ys j < y) : firstAt ys y = some i := by
  unfold firstAt
  rw [List.find?_range_eq_some]
  refine ⟨by simpa using h, by simpa using hi, fun j hj => ?_⟩
  have := hb j hj
  simp; omega

theorem firstAt_none {ys : List Int} {y : Int} (hb : ∀ j, j < ys.length → nth ys j < y) : firstAt ys y = none := by
  unfold firstAt
  rw [List.find?_eq_none]
  intro j hj
  have := hb j (by simpa using hj)
  simp; omega

def findVal (xs ys : List Int) (y : Int) : Nat → Int
  | 0 => nth xs 0
  | j + 1 => reachOf (nth xs j) (nth xs (j + 1)) (nth ys j) (nth ys (j + 1)) y

def findA (xs ys : List Int) (y : Int) : Int := if curveB xs ys then (match firstAt ys y with | none => 0 | some i => findVal xs ys y i) else 0
def findB (xs ys : List Int) (y : Int) : Bool := curveB xs ys && (firstAt ys y).isSome

theorem find_no {xs ys : List Int} {y : Int} (h : curveB xs ys = false) : findA xs ys y = 0 ∧ findB xs ys y = false := by
  simp [findA, findB, h]
theorem find_none {xs ys : List Int} {y : Int} (hb : ∀ j, j < ys.length → nth ys j < y) : findA xs ys y = 0 ∧ findB xs ys y = false := by
  simp [findA, findB, firstAt_none hb]
theorem find_zero {xs ys : List Int} {y : Int} (h : curveB xs ys = true) (hi : 0 < ys.length) (hy : y ≤ nth ys 0) : findA xs ys y = nth xs 0 ∧ findB xs ys y = true := by
  simp [findA, findB, h, firstAt_some hi hy (fun j hj => by omega), findVal]
theorem find_some {xs ys : List Int} {y : Int} {j : Nat} (h : curveB xs ys = true) (hi : j + 1 < ys.length) (hy : y ≤ nth ys (j + 1)) (hb : ∀ k, k < j + 1 → nth ys k < y) : findA xs ys y = reachOf (nth xs j) (nth xs (j + 1)) (nth ys j) (nth ys (j + 1)) y ∧ findB xs ys y = true := by
  simp [findA, findB, h, firstAt_some hi hy hb, findVal]

end Go.Proofs.Ytikhfacgoglcfaa
