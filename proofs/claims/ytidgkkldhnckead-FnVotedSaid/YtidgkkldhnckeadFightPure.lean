/-
  The sum of pushes, the least and the greatest, in plain numbers. No program here.
-/
import Derived.Test.YtidgkkldhnckeadLowPure
namespace Go.Proofs.Ytidgkkldhnckead
open Go

def pushTo (zs : List Int) : Nat → Int
  | 0 => 0
  | k + 1 => pushTo zs k + nth zs k
def leastTo (zs : List Int) : Nat → Int
  | 0 => nth zs 0
  | k + 1 => min (leastTo zs k) (nth zs k)
def greatTo (zs : List Int) : Nat → Int
  | 0 => nth zs 0
  | k + 1 => max (greatTo zs k) (nth zs k)
theorem leastTo_one (zs : List Int) : leastTo zs 1 = nth zs 0 := by simp [leastTo]
theorem greatTo_one (zs : List Int) : greatTo zs 1 = nth zs 0 := by simp [greatTo]
theorem pushTo_bound {zs : List Int} {b : Int} (h : ∀ i, i < zs.length → -b ≤ nth zs i ∧ nth zs i ≤ b) : ∀ k, k ≤ zs.length → -(b * k) ≤ pushTo zs k ∧ pushTo zs k ≤ b * k := by
  intro k
  induction k with
  | zero => intro _; simp [pushTo]
  | succ k ih =>
    intro hk
    have h1 := ih (by omega)
    have h2 := h k (by omega)
    have e : b * ((k + 1 : Nat) : Int) = b * k + b := by rw [Int.natCast_add, Int.mul_add]; simp
    simp only [pushTo]
    omega
theorem leastTo_bound {zs : List Int} {a b : Int} (h0 : 0 < zs.length) (h : ∀ i, i < zs.length → a ≤ nth zs i ∧ nth zs i ≤ b) : ∀ k, k ≤ zs.length → a ≤ leastTo zs k ∧ leastTo zs k ≤ b := by
  intro k
  induction k with
  | zero => intro _; exact h 0 h0
  | succ k ih => intro hk; have h1 := ih (by omega); have h2 := h k (by omega); simp only [leastTo]; omega
theorem greatTo_bound {zs : List Int} {a b : Int} (h0 : 0 < zs.length) (h : ∀ i, i < zs.length → a ≤ nth zs i ∧ nth zs i ≤ b) : ∀ k, k ≤ zs.length → a ≤ greatTo zs k ∧ greatTo zs k ≤ b := by
  intro k
  induction k with
  | zero => intro _; exact h 0 h0
  | succ k ih => intro hk; have h1 := ih (by omega); have h2 := h k (by omega); simp only [greatTo]; omega
/-- Whether the numbers are so. -/
def fightOkB (zs : List Int) (bound : Int) : Bool := inB zs.length 1 5 && allB zs (-10000) 10000 && inB bound 0 20000
def fightS (zs : List Int) (bound : Int) : Int := if fightOkB zs bound = true then pushTo zs zs.length else 0
def fightC (zs : List Int) (bound : Int) : Int := if fightOkB zs bound = true ∧ bound < greatTo zs zs.length - leastTo zs zs.length then 1 else 0
theorem fight_no {zs : List Int} {bound : Int} (h : fightOkB zs bound = false) : fightS zs bound = 0 ∧ fightC zs bound = 0 := by simp [fightS, fightC, h]
theorem fight_far {zs : List Int} {bound : Int} (h : fightOkB zs bound = true) (h2 : bound < greatTo zs zs.length - leastTo zs zs.length) : fightS zs bound = pushTo zs zs.length ∧ fightC zs bound = 1 := by simp [fightS, fightC, h, h2]
theorem fight_near {zs : List Int} {bound : Int} (h : fightOkB zs bound = true) (h2 : ¬ bound < greatTo zs zs.length - leastTo zs zs.length) : fightS zs bound = pushTo zs zs.length ∧ fightC zs bound = 0 := by simp [fightS, fightC, h, h2]
theorem ret_ii {a b c d : Int} (h : a = b) (h2 : c = d) : Ending.returned (.tuple #[.int .i64 a, .int .i64 c]) = .returned (.tuple #[.int .i64 b, .int .i64 d]) := by rw [h, h2]
theorem allB_every {zs : List Int} {a b : Int} (h : allB zs a b = true) : ∀ i, i < zs.length → a ≤ nth zs i ∧ nth zs i ≤ b := by
  simp only [allB, decide_eq_true_eq] at h
  intro i hi
  have := h i hi
  simpa [inB] using this

end Go.Proofs.Ytidgkkldhnckead
