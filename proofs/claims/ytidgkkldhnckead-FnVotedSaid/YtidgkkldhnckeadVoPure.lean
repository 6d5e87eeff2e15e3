/-
  Whether a voter is so, in plain numbers. No program here.
-/
import Derived.Test.YtidgkkldhnckeadLowPure
namespace Go.Proofs.Ytidgkkldhnckead
open Go

/-- Whether a voter is so. -/
def voOk (n h : Int) (bs : List Bool) (os : List Int) : Bool := inB n 0 1000 && inB h 1 20 && inB bs.length 1 5 && decide (os.length = bs.length) && allB os 0 h
theorem voOk_no {n h : Int} {bs : List Bool} {os : List Int} (e : inB n 0 1000 = false ∨ inB h 1 20 = false ∨ inB bs.length 1 5 = false ∨ ¬ os.length = bs.length ∨ allB os 0 h = false) : voOk n h bs os = false := by
  rcases e with e | e | e | e | e <;> simp [voOk, e]
theorem voOk_yes {n h : Int} {bs : List Bool} {os : List Int} (e1 : inB n 0 1000 = true) (e2 : inB h 1 20 = true) (e3 : inB bs.length 1 5 = true) (e4 : os.length = bs.length) (e5 : allB os 0 h = true) : voOk n h bs os = true := by
  unfold voOk; rw [e1, e2, e3, e5]; simp [e4]
/-- What a right voter's numbers are. -/
structure VoFit (n h : Int) (bs : List Bool) (os : List Int) : Prop where
  n0 : 0 ≤ n
  n1 : n ≤ 1000
  h0 : 1 ≤ h
  h1 : h ≤ 20
  b0 : 1 ≤ bs.length
  b1 : bs.length ≤ 5
  len : os.length = bs.length
  all : ∀ i, i < os.length → 0 ≤ nth os i ∧ nth os i ≤ h
theorem inB_in {x a b : Int} (h : inB x a b = true) : a ≤ x ∧ x ≤ b := by simpa [inB] using h
theorem voFit {n h : Int} {bs : List Bool} {os : List Int} (e : voOk n h bs os = true) : VoFit n h bs os := by
  simp only [voOk, Bool.and_eq_true, decide_eq_true_eq] at e
  obtain ⟨⟨⟨⟨e1, e2⟩, e3⟩, e4⟩, e5⟩ := e
  have f1 := inB_in e1
  have f2 := inB_in e2
  have f3 := inB_in e3
  refine ⟨f1.1, f1.2, f2.1, f2.2, by omega, by omega, e4, fun i hi => ?_⟩
  simp only [allB, decide_eq_true_eq] at e5
  exact inB_in (e5 i hi)

end Go.Proofs.Ytidgkkldhnckead
