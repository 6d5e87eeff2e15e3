/-
  Which of a part's bounds is used most, and what is left of it, in plain numbers. No program here.
-/
import Derived.Test.YtglefolkecimabdLow1
namespace Go.Proofs.Ytglefolkecimabd
open Go

/-- The number at place 0, 1 or 2. -/
def of3 (a b c : Int) : Nat → Int
  | 0 => a
  | 1 => b
  | _ => c
/-- Whether the bound at a place comes before the one that was found. -/
def moreB (b0 b1 b2 s0 s1 s2 : Int) (m : Int) (k : Nat) : Bool :=
  decide (of3 b0 b1 b2 k ≠ 0) && (decide (m = -1) || decide (of3 s0 s1 s2 m.toNat * of3 b0 b1 b2 k < of3 s0 s1 s2 k * of3 b0 b1 b2 m.toNat))
/-- The bound that is used most, of the first places; -1 where there is none. -/
def mostTo (b0 b1 b2 s0 s1 s2 : Int) : Nat → Int
  | 0 => -1
  | k + 1 => if moreB b0 b1 b2 s0 s1 s2 (mostTo b0 b1 b2 s0 s1 s2 k) k = true then (k : Int) else mostTo b0 b1 b2 s0 s1 s2 k
theorem mostTo_in (b0 b1 b2 s0 s1 s2 : Int) (k : Nat) : mostTo b0 b1 b2 s0 s1 s2 k = -1 ∨ (0 ≤ mostTo b0 b1 b2 s0 s1 s2 k ∧ mostTo b0 b1 b2 s0 s1 s2 k < k) := by
  induction k with
  | zero => exact .inl rfl
  | succ k ih => simp only [mostTo]; split <;> omega
theorem mostTo_yes {b0 b1 b2 s0 s1 s2 : Int} {k : Nat} (h : moreB b0 b1 b2 s0 s1 s2 (mostTo b0 b1 b2 s0 s1 s2 k) k = true) : mostTo b0 b1 b2 s0 s1 s2 (k + 1) = (k : Int) := by
  simp [mostTo, h]
theorem mostTo_no {b0 b1 b2 s0 s1 s2 : Int} {k : Nat} (h : moreB b0 b1 b2 s0 s1 s2 (mostTo b0 b1 b2 s0 s1 s2 k) k = false) : mostTo b0 b1 b2 s0 s1 s2 (k + 1) = mostTo b0 b1 b2 s0 s1 s2 k := by
  simp [mostTo, h]
/-- Whether three numbers are in 0 .. M. -/
def in3 (a b c M : Int) : Bool := inB a 0 M && inB b 0 M && inB c 0 M
theorem in3_facts {a b c M : Int} (h : in3 a b c M = true) : (0 ≤ a ∧ a ≤ M) ∧ (0 ≤ b ∧ b ≤ M) ∧ (0 ≤ c ∧ c ≤ M) := by
  simp [in3, inB] at h; omega
theorem in3_all (a b c M : Int) : allB [a, b, c] 0 M = in3 a b c M := by
  unfold allB in3
  by_cases h0 : inB a 0 M = true <;> by_cases h1 : inB b 0 M = true <;> by_cases h2 : inB c 0 M = true
  all_goals
    first
    | (have : ∀ i, i < [a, b, c].length → inB (nth [a, b, c] i) 0 M = true := by
         intro i hi
         rcases (show i = 0 ∨ i = 1 ∨ i = 2 from by simp at hi; omega) with rfl | rfl | rfl
         · exact h0
         · exact h1
         · exact h2
       rw [decide_eq_true this, h0, h1, h2]; rfl)
    | (have hn : ¬ ∀ i, i < [a, b, c].length → inB (nth [a, b, c] i) 0 M = true := fun k => by
         have k0 := k 0 (by simp)
         have k1 := k 1 (by simp)
         have k2 := k 2 (by simp)
         simp [nth] at k0 k1 k2
         first | exact h0 k0 | exact h1 k1 | exact h2 k2
       rw [decide_eq_false hn]
       simp [h0, h1, h2])
/-- Whether a life, a stay is so; whether Left6 tells something. -/
def lifeB (n : ByteArray) (a b c : Int) : Bool := nameB n && in3 a b c 1000000
def stayB (n : ByteArray) (a b c : Int) : Bool := nameB n && in3 a b c 10000000
def leftOk (n : ByteArray) (b0 b1 b2 : Int) (m : ByteArray) (s0 s1 s2 : Int) : Bool := nameB n && (m.toList == n.toList) && in3 b0 b1 b2 1000000 && in3 s0 s1 s2 10000000
def leftM (b0 b1 b2 s0 s1 s2 : Int) : Int := mostTo b0 b1 b2 s0 s1 s2 3
/-- What Left6 tells: the bound, what is left, and whether. -/
def leftR (n : ByteArray) (b0 b1 b2 : Int) (m : ByteArray) (s0 s1 s2 : Int) : Int × Int × Bool :=
  if leftOk n b0 b1 b2 m s0 s1 s2 = true ∧ leftM b0 b1 b2 s0 s1 s2 ≠ -1 then (leftM b0 b1 b2 s0 s1 s2, of3 b0 b1 b2 (leftM b0 b1 b2 s0 s1 s2).toNat - of3 s0 s1 s2 (leftM b0 b1 b2 s0 s1 s2).toNat, true) else (-1, 0, false)
theorem leftR_no {n m : ByteArray} {b0 b1 b2 s0 s1 s2 : Int} (h : leftOk n b0 b1 b2 m s0 s1 s2 = false) : leftR n b0 b1 b2 m s0 s1 s2 = (-1, 0, false) := by
  simp [leftR, h]
theorem leftR_none {n m : ByteArray} {b0 b1 b2 s0 s1 s2 : Int} (h : leftM b0 b1 b2 s0 s1 s2 = -1) : leftR n b0 b1 b2 m s0 s1 s2 = (-1, 0, false) := by
  simp [leftR, h]
theorem leftR_yes {n m : ByteArray} {b0 b1 b2 s0 s1 s2 : Int} (h : leftOk n b0 b1 b2 m s0 s1 s2 = true) (h2 : leftM b0 b1 b2 s0 s1 s2 ≠ -1) :
    leftR n b0 b1 b2 m s0 s1 s2 = (leftM b0 b1 b2 s0 s1 s2, of3 b0 b1 b2 (leftM b0 b1 b2 s0 s1 s2).toNat - of3 s0 s1 s2 (leftM b0 b1 b2 s0 s1 s2).toNat, true) := by
  simp [leftR, h, h2]
theorem ret_left {a b a' b' : Int} {c d : Bool} (h : (a, a', c) = (b, b', d)) : Ending.returned (.tuple #[.int .i64 a, .int .i64 a', .bool c]) = .returned (.tuple #[.int .i64 b, .int .i64 b', .bool d]) := by
  cases h; rfl

end Go.Proofs.Ytglefolkecimabd
