/-
  Places, fixes, drifts and pushes in plain numbers. No program here.
-/
import Derived.Test.YtidgkkldhnckeaeLowPure
namespace Go.Proofs.Ytidgkkldhnckeae
open Go

/-- Whether a place is so. -/
def peB (x y : Int) : Bool := inB x (-2000) 2000 && inB y (-2000) 2000
/-- Whether a fix is so. -/
def fxB (x y f : Int) : Bool := inB x (-1000) 1000 && inB y (-1000) 1000 && inB f 0 10000000
/-- By how much a fix misses a place. -/
def misV (px py fx fy ff : Int) : Int := (px - fx) * (px - fx) + (py - fy) * (py - fy) - ff
def misR (px py fx fy ff : Int) : Int := if (peB px py && fxB fx fy ff) = true then misV px py fx fy ff else 0
theorem misR_no {px py fx fy ff : Int} (h : (peB px py && fxB fx fy ff) = false) : misR px py fx fy ff = 0 := by simp [misR, h]
theorem misR_yes {px py fx fy ff : Int} (h : (peB px py && fxB fx fy ff) = true) : misR px py fx fy ff = misV px py fx fy ff := by simp [misR, h]

theorem sqBd {s A : Int} (h1 : -A ≤ s) (h2 : s ≤ A) : 0 ≤ s * s ∧ s * s ≤ A * A := by
  have hA : 0 ≤ A := by omega
  refine ⟨?_, (mulBd h1 h2 h1 h2 hA hA).2⟩
  rcases Int.le_total 0 s with h | h
  · exact Int.mul_nonneg h h
  · exact Int.mul_nonneg_of_nonpos_of_nonpos h h

theorem peB_facts {x y : Int} (h : peB x y = true) : (-2000 ≤ x ∧ x ≤ 2000) ∧ (-2000 ≤ y ∧ y ≤ 2000) := by
  simp only [peB, Bool.and_eq_true] at h
  exact ⟨in_facts h.1, in_facts h.2⟩
theorem fxB_facts {x y f : Int} (h : fxB x y f = true) : (-1000 ≤ x ∧ x ≤ 1000) ∧ (-1000 ≤ y ∧ y ≤ 1000) ∧ 0 ≤ f ∧ f ≤ 10000000 := by
  simp only [fxB, Bool.and_eq_true] at h
  exact ⟨in_facts h.1.1, in_facts h.1.2, in_facts h.2⟩

/-- Whether a drift is so; whether a push is. -/
def dtB (x y u v : Int) : Bool := inB x (-1000000) 1000000 && inB y (-1000000) 1000000 && inB u (-1000000) 1000000 && inB v (-1000000) 1000000
def puB (a b : Int) : Bool := inB a (-1000) 1000 && inB b (-1000) 1000
theorem dtB_facts {x y u v : Int} (h : dtB x y u v = true) : (-1000000 ≤ x ∧ x ≤ 1000000) ∧ (-1000000 ≤ y ∧ y ≤ 1000000) ∧ (-1000000 ≤ u ∧ u ≤ 1000000) ∧ (-1000000 ≤ v ∧ v ≤ 1000000) := by
  simp only [dtB, Bool.and_eq_true] at h
  exact ⟨in_facts h.1.1.1, in_facts h.1.1.2, in_facts h.1.2, in_facts h.2⟩
theorem puB_facts {a b : Int} (h : puB a b = true) : (-1000 ≤ a ∧ a ≤ 1000) ∧ (-1000 ≤ b ∧ b ≤ 1000) := by
  simp only [puB, Bool.and_eq_true] at h
  exact ⟨in_facts h.1, in_facts h.2⟩
theorem dtB_all (x y u v : Int) : allB [x, y, u, v] (-1000000) 1000000 = dtB x y u v := by
  rw [Bool.eq_iff_iff]
  simp only [allB, dtB, Bool.and_eq_true, decide_eq_true_eq]
  constructor
  · intro h
    exact ⟨⟨⟨h 0 (by simp), h 1 (by simp)⟩, h 2 (by simp)⟩, h 3 (by simp)⟩
  · rintro ⟨⟨⟨h0, h1⟩, h2⟩, h3⟩ i hi
    match i, hi with
    | 0, _ => exact h0
    | 1, _ => exact h1
    | 2, _ => exact h2
    | 3, _ => exact h3
    | n + 4, hi => exact absurd hi (by simp)

theorem tdivBd100 {x : Int} (h1 : -(1002000 * 100) ≤ x) (h2 : x ≤ 1002000 * 100) : -1002000 ≤ x.tdiv 100 ∧ x.tdiv 100 ≤ 1002000 := by
  rcases Int.le_total 0 x with h | h
  · rw [Int.tdiv_eq_ediv_of_nonneg h]; omega
  · have e : x.tdiv 100 = -((-x).tdiv 100) := by rw [Int.neg_tdiv]; omega
    rw [e, Int.tdiv_eq_ediv_of_nonneg (by omega)]; omega

/-- What is blended of two numbers. -/
def blR (a b part : Int) : Int := a + ((b - a) * part).tdiv 100
def blB (x y u v px py part : Int) : Bool := dtB x y u v && peB px py && inB part 0 100
def blX (x y u v px py part : Int) : Int := if blB x y u v px py part = true then blR x px part else 0
def blY (x y u v px py part : Int) : Int := if blB x y u v px py part = true then blR y py part else 0
def blU (x y u v px py part : Int) : Int := if blB x y u v px py part = true then u else 0
def blV (x y u v px py part : Int) : Int := if blB x y u v px py part = true then v else 0

/-- How far beside a line a place is. -/
def bsC (ax ay bx by_ px py : Int) : Int := (bx - ax) * (py - ay) - (by_ - ay) * (px - ax)
def bsF (ax ay bx by_ px py : Int) : Int := (bsC ax ay bx by_ px py * bsC ax ay bx by_ px py).tdiv ((bx - ax) * (bx - ax) + (by_ - ay) * (by_ - ay))
def bsB (ax ay bx by_ px py : Int) : Bool := peB ax ay && peB bx by_ && peB px py && !(decide (ax = bx) && decide (ay = by_))
def bsR (ax ay bx by_ px py : Int) : Int := if bsB ax ay bx by_ px py = true then (if 0 < bsC ax ay bx by_ px py then - bsF ax ay bx by_ px py else bsF ax ay bx by_ px py) else 0

end Go.Proofs.Ytidgkkldhnckeae
