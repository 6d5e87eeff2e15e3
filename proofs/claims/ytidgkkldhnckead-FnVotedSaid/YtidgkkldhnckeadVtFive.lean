/-
  Five lanes out of a voter's lists, in plain numbers. No program here.
-/
import Derived.Test.YtidgkkldhnckeadVtPure
namespace Go.Proofs.Ytidgkkldhnckead
open Go

/-- Whether a lane of the five is out: behind the last one all are. -/
def laneO (bs : List Bool) (j : Nat) : Bool := if j < bs.length then elAt bs j else true
def fiveO (bs : List Bool) : List Bool := [laneO bs 0, laneO bs 1, laneO bs 2, laneO bs 3, laneO bs 4]
def fiveI (zs : List Int) : List Int := [nth zs 0, nth zs 1, nth zs 2, nth zs 3, nth zs 4]
theorem fiveO_at (bs : List Bool) (k : Nat) (h : k < 5) : elAt (fiveO bs) k = laneO bs k := by
  rcases (show k = 0 ∨ k = 1 ∨ k = 2 ∨ k = 3 ∨ k = 4 by omega) with rfl | rfl | rfl | rfl | rfl <;> rfl
theorem fiveI_at (zs : List Int) (k : Nat) (h : k < 5) : nth (fiveI zs) k = nth zs k := by
  rcases (show k = 0 ∨ k = 1 ∨ k = 2 ∨ k = 3 ∨ k = 4 by omega) with rfl | rfl | rfl | rfl | rfl <;> rfl
theorem five_to (bs : List Bool) (zs : List Int) : ∀ k, k ≤ 5 → heardTo (fiveO bs) (fiveI zs) k = heardTo bs zs (min k bs.length) := by
  intro k
  induction k with
  | zero => intro _; simp [heardTo]
  | succ k ih =>
    intro hk
    have ih := ih (by omega)
    have e1 := fiveO_at bs k (by omega)
    have e2 := fiveI_at zs k (by omega)
    by_cases h : k < bs.length
    · have hm : min (k + 1) bs.length = min k bs.length + 1 := by omega
      have hk2 : min k bs.length = k := by omega
      have e3 : laneO bs k = elAt bs k := by simp [laneO, h]
      simp only [heardTo, e1, e2, e3, hm, ih, hk2]
    · have hm : min (k + 1) bs.length = min k bs.length := by omega
      have e3 : laneO bs k = true := by simp [laneO, h]
      rw [hm, ← ih, heardTo_out (by rw [e1, e3])]
theorem heard_five {bs : List Bool} {zs : List Int} (h1 : bs.length ≤ 5) (h2 : zs.length = bs.length) : heardS (fiveO bs) (fiveI zs) = heardS bs zs := by
  unfold heardS
  rw [show (fiveI zs).length = 5 from rfl, five_to bs zs 5 (by omega), h2, show min 5 bs.length = bs.length by omega]
theorem fiveI_all {zs : List Int} (h : ∀ i, i < zs.length → -1000000 ≤ nth zs i ∧ nth zs i ≤ 1000000) : ∀ i, i < (fiveI zs).length → -1000000 ≤ nth (fiveI zs) i ∧ nth (fiveI zs) i ≤ 1000000 := by
  intro i hi
  have hi5 : i < 5 := hi
  rw [fiveI_at zs i hi5]
  by_cases h2 : i < zs.length
  · exact h i h2
  · rw [nth_out (by omega)]; omega

end Go.Proofs.Ytidgkkldhnckead
