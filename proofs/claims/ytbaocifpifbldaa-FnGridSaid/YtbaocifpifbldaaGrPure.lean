/-
  A drawn grid in plain numbers: at its corners it tells its own numbers, and a grid of one number tells it everywhere. No program here.
-/
import Derived.Test.YtbaocifpifbldaaGridAtPure
namespace Go.Proofs.Ytbaocifpifbldaa
open Go

theorem frac_mul {z d : Int} (hd : 1 ≤ d) : fracN (z * d) d = z ∧ fracD (z * d) d = 1 := by
  have hg : (Int.gcd (z * d) d : Int) = d := by
    have h1 : Int.gcd (z * d) d = d.natAbs := by rw [Int.gcd_comm]; exact Int.gcd_eq_natAbs_left (Int.dvd_mul_left z d)
    rw [h1]; omega
  unfold fracN fracD
  rw [hg]
  exact ⟨Int.mul_tdiv_cancel _ (by omega), Int.ediv_self (by omega)⟩

def grX (t : Int) : List Int := [0, t]
def grY : List Int := [-2, 4, 9]
/-- The three rows. -/
def grZ (z : Nat → Int × Int) : List (List Int) := [[(z 0).1, (z 0).2], [(z 1).1, (z 1).2], [(z 2).1, (z 2).2]]
structure GrFit (t : Int) (z : Nat → Int × Int) : Prop where
  t0 : 3 ≤ t ∧ t ≤ 7
  zb : ∀ i, (-128 ≤ (z i).1 ∧ (z i).1 ≤ 128) ∧ (-128 ≤ (z i).2 ∧ (z i).2 ≤ 128)
theorem inB_yes {x a b : Int} (h : a ≤ x ∧ x ≤ b) : inB x a b = true := by simpa [inB] using h
theorem allB_yes {zs : List Int} {a b : Int} (h : ∀ x ∈ zs, a ≤ x ∧ x ≤ b) : allB zs a b = true := by
  simp only [allB, decide_eq_true_eq]
  intro i hi
  refine inB_yes (h _ ?_)
  unfold nth
  rw [List.getElem?_eq_getElem hi]
  exact List.getElem_mem hi
theorem gr_ok {t : Int} {z : Nat → Int × Int} (h : GrFit t z) : gridB (grX t) grY (grZ z) = true := by
  have ht := h.t0
  have r1 : riseB (grX t) = true := by
    unfold riseB grX
    refine decide_eq_true (fun i hi => ?_)
    obtain rfl : i = 0 := by simp at hi; omega
    simp [nth]; omega
  have r2 : riseB grY = true := by
    unfold riseB grY
    refine decide_eq_true (fun i hi => ?_)
    rcases (show i = 0 ∨ i = 1 by simp at hi; omega) with rfl | rfl <;> simp [nth]
  have r3 : allB (grX t) (-1000) 1000 = true := allB_yes (by intro x hx; simp [grX] at hx; omega)
  have r4 : allB grY (-1000) 1000 = true := allB_yes (by intro x hx; simp [grY] at hx; omega)
  have r5 : rowsB (grX t).length (grZ z) = true := by
    simp only [rowsB, decide_eq_true_eq]
    intro i hi
    have h0 := h.zb 0
    have h1 := h.zb 1
    have h2 := h.zb 2
    rcases (show i = 0 ∨ i = 1 ∨ i = 2 by simp [grZ] at hi; omega) with rfl | rfl | rfl
    all_goals
      simp only [rowB, Bool.and_eq_true, decide_eq_true_eq]
      refine ⟨by simp [nthS, grZ, grX], allB_yes ?_⟩
      intro x hx
      simp [nthS, grZ] at hx
      omega
  unfold gridB gridHead
  rw [r1, r2, r3, r4, r5]
  simp [inB, grX, grY, grZ]
theorem low_two (t x : Int) : lowAt (grX t) x = 0 := lowAt_is (by simp [grX]) (beyond_end (by simp [grX])) (fun j hj => by omega)
theorem low_less {y : Int} (h : y < 4) : lowAt grY y = 0 := lowAt_is (by simp [grY]) (beyond_less (by simp [grY, nth]; omega)) (fun j hj => by omega)
theorem low_more {y : Int} (h : 4 ≤ y) : lowAt grY y = 1 := lowAt_is (by simp [grY]) (beyond_end (by simp [grY])) (fun j hj => by
  obtain rfl : j = 0 := by omega
  exact beyond_true (by simp [grY]) (by simp [grY, nth]; omega))
/-- The number at corner k of row i. -/
def grC (z : Nat → Int × Int) (i k : Nat) : Int := if k = 0 then (z i).1 else (z i).2
def grXk (t : Int) (k : Nat) : Int := if k = 0 then 0 else t
def grYi (i : Nat) : Int := if i = 0 then -2 else if i = 1 then 4 else 9
theorem along_corner (t a b : Int) (k : Nat) : alongX (grX t) [a, b] (grXk t k) 0 = (if k = 0 then a else b) * t := by
  unfold alongX grXk
  by_cases h : k = 0
  · simp [h, nth, grX]
  · simp only [h, if_false, nth, grX]
    simp
    rw [Int.sub_mul]; omega
theorem gr_flag {t : Int} {z : Nat → Int × Int} (h : GrFit t z) {x y : Int} (hx : 0 ≤ x ∧ x ≤ t) (hy : -2 ≤ y ∧ y ≤ 9) : agFlag (grX t) grY (grZ z) x y = true := by
  unfold agFlag
  rw [gr_ok h]
  have e1 : inB x (nth (grX t) 0) (nth (grX t) ((grX t).length - 1)) = true := inB_yes (by simpa [grX, nth] using hx)
  have e2 : inB y (nth grY 0) (nth grY (grY.length - 1)) = true := inB_yes (by simpa [grY, nth] using hy)
  rw [e1, e2]; rfl
theorem gr_corner {t : Int} {z : Nat → Int × Int} (h : GrFit t z) {i k : Nat} (hi : i < 3) :
    agFlag (grX t) grY (grZ z) (grXk t k) (grYi i) = true ∧ agN (grX t) grY (grZ z) (grXk t k) (grYi i) = grC z i k ∧ agD (grX t) grY (grZ z) (grXk t k) (grYi i) = 1 := by
  have ht := h.t0
  have fl : agFlag (grX t) grY (grZ z) (grXk t k) (grYi i) = true := gr_flag h (by unfold grXk; split <;> omega) (by unfold grYi; split <;> (try split) <;> omega)
  refine ⟨fl, ?_⟩
  have key : ∃ d, 1 ≤ d ∧ agNum (grX t) grY (grZ z) (grXk t k) (grYi i) = grC z i k * d ∧ agDen (grX t) grY (grXk t k) (grYi i) = d := by
    rcases (show i = 0 ∨ i = 1 ∨ i = 2 by omega) with rfl | rfl | rfl
    · refine ⟨t * 6, by omega, ?_, ?_⟩
      · unfold agNum
        rw [low_two, show grYi 0 = -2 from rfl, low_less (by omega)]
        rw [show nthS (grZ z) 0 = [(z 0).1, (z 0).2] from rfl, show nthS (grZ z) (0 + 1) = [(z 1).1, (z 1).2] from rfl, along_corner, along_corner]
        simp [grY, nth, grC, Int.mul_assoc]
      · unfold agDen
        rw [low_two, show grYi 0 = -2 from rfl, low_less (by omega)]
        simp [grX, grY, nth]
    · refine ⟨t * 5, by omega, ?_, ?_⟩
      · unfold agNum
        rw [low_two, show grYi 1 = 4 from rfl, low_more (by omega)]
        rw [show nthS (grZ z) 1 = [(z 1).1, (z 1).2] from rfl, show nthS (grZ z) (1 + 1) = [(z 2).1, (z 2).2] from rfl, along_corner, along_corner]
        simp [grY, nth, grC, Int.mul_assoc]
      · unfold agDen
        rw [low_two, show grYi 1 = 4 from rfl, low_more (by omega)]
        simp [grX, grY, nth]
    · refine ⟨t * 5, by omega, ?_, ?_⟩
      · unfold agNum
        rw [low_two, show grYi 2 = 9 from rfl, low_more (by omega)]
        rw [show nthS (grZ z) 1 = [(z 1).1, (z 1).2] from rfl, show nthS (grZ z) (1 + 1) = [(z 2).1, (z 2).2] from rfl, along_corner, along_corner]
        simp [grY, nth, grC, Int.mul_assoc]
        rw [Int.sub_mul]; simp only [Int.mul_assoc]; omega
      · unfold agDen
        rw [low_two, show grYi 2 = 9 from rfl, low_more (by omega)]
        simp [grX, grY, nth]
  obtain ⟨d, hd, e1, e2⟩ := key
  have := frac_mul (z := grC z i k) hd
  unfold agN agD
  rw [if_pos fl, if_pos fl, e1, e2]
  exact this
def flatZ : Nat → Int × Int := fun _ => (7, 7)
theorem gr_flat {t : Int} (ht : 3 ≤ t ∧ t ≤ 7) {x y : Int} (hx : 0 ≤ x ∧ x ≤ 3) (hy : -2 ≤ y ∧ y ≤ 9) :
    agFlag (grX t) grY (grZ flatZ) x y = true ∧ agN (grX t) grY (grZ flatZ) x y = 7 ∧ agD (grX t) grY (grZ flatZ) x y = 1 := by
  have hf : GrFit t flatZ := ⟨ht, fun i => by simp [flatZ]⟩
  have fl := gr_flag hf (x := x) (y := y) (by omega) hy
  have al : ∀ i, i < 3 → alongX (grX t) (nthS (grZ flatZ) i) x 0 = 7 * t := fun i hi => by
    rcases (show i = 0 ∨ i = 1 ∨ i = 2 by omega) with rfl | rfl | rfl <;> simp [alongX, grZ, flatZ, nthS, nth, grX]
  have key : ∃ d, 1 ≤ d ∧ agNum (grX t) grY (grZ flatZ) x y = 7 * d ∧ agDen (grX t) grY x y = d := by
    by_cases h4 : y < 4
    · refine ⟨t * 6, by omega, ?_, ?_⟩
      · unfold agNum
        rw [low_two, low_less h4, al 0 (by omega), al (0 + 1) (by omega)]
        simp [grY, nth]; omega
      · unfold agDen
        rw [low_two, low_less h4]
        simp [grX, grY, nth]
    · refine ⟨t * 5, by omega, ?_, ?_⟩
      · unfold agNum
        rw [low_two, low_more (by omega), al 1 (by omega), al (1 + 1) (by omega)]
        simp [grY, nth]; omega
      · unfold agDen
        rw [low_two, low_more (by omega)]
        simp [grX, grY, nth]
  obtain ⟨d, hd, e1, e2⟩ := key
  have := frac_mul (z := 7) hd
  refine ⟨fl, ?_⟩
  unfold agN agD
  rw [if_pos fl, if_pos fl, e1, e2]
  exact this
theorem gr_out {t : Int} {z : Nat → Int × Int} : agFlag (grX t) grY (grZ z) (-1) 0 = false := by
  have e1 : inB (-1) (nth (grX t) 0) (nth (grX t) ((grX t).length - 1)) = false := by simp [inB, grX, nth]
  unfold agFlag
  rw [e1]; simp

end Go.Proofs.Ytbaocifpifbldaa
