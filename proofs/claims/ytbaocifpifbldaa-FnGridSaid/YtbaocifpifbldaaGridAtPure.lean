/-
  Plain mathematics of AtGrid: the value between four as a fraction, and its bounds. No program here.
-/
import Derived.Test.YtbaocifpifbldaaGridTo
import Derived.Test.YtbaocifpifbldaaLowPure
import Derived.Test.YtbaocifpifbldaaFrac
namespace Go.Proofs.Ytbaocifpifbldaa

structure GridFacts (xs ys : List Int) (zss : List (List Int)) : Prop where
  nx : 2 ≤ xs.length ∧ xs.length ≤ 20
  ny : 2 ≤ ys.length ∧ ys.length ≤ 20
  xb : ∀ i, i < xs.length → -1000 ≤ nth xs i ∧ nth xs i ≤ 1000
  yb : ∀ i, i < ys.length → -1000 ≤ nth ys i ∧ nth ys i ≤ 1000
  risex : ∀ i, i < xs.length - 1 → nth xs i < nth xs (i + 1)
  risey : ∀ i, i < ys.length - 1 → nth ys i < nth ys (i + 1)
  nz : zss.length = ys.length
  zl : ∀ i, i < zss.length → (nthS zss i).length = xs.length
  zb : ∀ i, i < zss.length → ∀ j, j < (nthS zss i).length → -1000 ≤ nth (nthS zss i) j ∧ nth (nthS zss i) j ≤ 1000

theorem gridB_facts {xs ys : List Int} {zss : List (List Int)} (h : gridB xs ys zss = true) : GridFacts xs ys zss := by
  simp only [gridB, gridHead, rowsB, rowB, Bool.and_eq_true, inB, riseB, allB, decide_eq_true_eq, beq_iff_eq] at h
  obtain ⟨⟨⟨⟨⟨⟨⟨h1, h2⟩, h3⟩, h4⟩, h5⟩, h6⟩, h7⟩, h8⟩ := h
  exact ⟨by omega, by omega, h5, h6, h3, h4, by omega, fun i hi => (h8 i hi).1, fun i hi => (h8 i hi).2⟩

/-- The value along X in one list, times the width. -/
def alongX (xs zs : List Int) (x : Int) (i : Nat) : Int := nth zs i * (nth xs (i + 1) - nth xs i) + (nth zs (i + 1) - nth zs i) * (x - nth xs i)
def agNum (xs ys : List Int) (zss : List (List Int)) (x y : Int) : Int :=
  alongX xs (nthS zss (lowAt ys y)) x (lowAt xs x) * (nth ys (lowAt ys y + 1) - nth ys (lowAt ys y)) + (alongX xs (nthS zss (lowAt ys y + 1)) x (lowAt xs x) - alongX xs (nthS zss (lowAt ys y)) x (lowAt xs x)) * (y - nth ys (lowAt ys y))
def agDen (xs ys : List Int) (x y : Int) : Int := (nth xs (lowAt xs x + 1) - nth xs (lowAt xs x)) * (nth ys (lowAt ys y + 1) - nth ys (lowAt ys y))
def agFlag (xs ys : List Int) (zss : List (List Int)) (x y : Int) : Bool := gridB xs ys zss && inB x (nth xs 0) (nth xs (xs.length - 1)) && inB y (nth ys 0) (nth ys (ys.length - 1))
def agN (xs ys : List Int) (zss : List (List Int)) (x y : Int) : Int := if agFlag xs ys zss x y then fracN (agNum xs ys zss x y) (agDen xs ys x y) else 0
def agD (xs ys : List Int) (zss : List (List Int)) (x y : Int) : Int := if agFlag xs ys zss x y then fracD (agNum xs ys zss x y) (agDen xs ys x y) else 0

theorem along_bd {x0 x1 z0 z1 x : Int} (h1 : -1000 ≤ x0 ∧ x0 ≤ 1000) (h2 : -1000 ≤ x1 ∧ x1 ≤ 1000) (h3 : -1000 ≤ z0 ∧ z0 ≤ 1000) (h4 : -1000 ≤ z1 ∧ z1 ≤ 1000) (h5 : -1000 ≤ x ∧ x ≤ 1000) :
    (-2000000 ≤ z0 * (x1 - x0) ∧ z0 * (x1 - x0) ≤ 2000000) ∧ (-4000000 ≤ (z1 - z0) * (x - x0) ∧ (z1 - z0) * (x - x0) ≤ 4000000) := by
  have := between_bd (B := 1000) (C := 1000) h1 h2 h3 h4 h5
  omega

theorem across_bd {y0 y1 a b y : Int} (h1 : -1000 ≤ y0 ∧ y0 ≤ 1000) (h2 : -1000 ≤ y1 ∧ y1 ≤ 1000) (h3 : -6000000 ≤ a ∧ a ≤ 6000000) (h4 : -6000000 ≤ b ∧ b ≤ 6000000) (h5 : -1000 ≤ y ∧ y ≤ 1000) :
    (-12000000000 ≤ a * (y1 - y0) ∧ a * (y1 - y0) ≤ 12000000000) ∧ (-24000000000 ≤ (b - a) * (y - y0) ∧ (b - a) * (y - y0) ≤ 24000000000) := by
  have := between_bd (B := 1000) (C := 6000000) h1 h2 h3 h4 h5
  omega

theorem area_bd {a b : Int} (h1 : 1 ≤ a ∧ a ≤ 2000) (h2 : 1 ≤ b ∧ b ≤ 2000) : 1 ≤ a * b ∧ a * b ≤ 4000000 := by
  have e1 : 0 ≤ (a - 1) * (b - 1) := Int.mul_nonneg (by omega) (by omega)
  have e2 := mulBd (A := 2000) (B := 2000) (s := a) (d := b) (by omega) (by omega) (by omega) (by omega) (by omega) (by omega)
  simp only [Int.sub_mul, Int.mul_sub, Int.one_mul, Int.mul_one] at e1
  omega

end Go.Proofs.Ytbaocifpifbldaa
