/-
  What is heard of lanes and how it is valued, in plain numbers. No program here.
-/
import Derived.Test.YtidgkkldhnckeadVoPure
import Derived.Test.YtidgkkldhnckeadRowE
import Derived.Test.YtidgkkldhnckeadSortI
namespace Go.Proofs.Ytidgkkldhnckead
open Go

/-- The numbers of the lanes that are not out, up to a place. -/
def heardTo (bs : List Bool) (zs : List Int) : Nat → List Int
  | 0 => []
  | k + 1 => if elAt bs k = true then heardTo bs zs k else heardTo bs zs k ++ [nth zs k]
theorem heardTo_out {bs : List Bool} {zs : List Int} {k : Nat} (h : elAt bs k = true) : heardTo bs zs (k + 1) = heardTo bs zs k := by simp [heardTo, h]
theorem heardTo_in {bs : List Bool} {zs : List Int} {k : Nat} (h : elAt bs k = false) : heardTo bs zs (k + 1) = heardTo bs zs k ++ [nth zs k] := by simp [heardTo, h]
theorem heardTo_len (bs : List Bool) (zs : List Int) (k : Nat) : (heardTo bs zs k).length ≤ k := by
  induction k with
  | zero => simp [heardTo]
  | succ k ih =>
    simp only [heardTo]
    split
    · omega
    · simp; omega
theorem heardTo_all {bs : List Bool} {zs : List Int} {a b : Int} (h : ∀ i, i < zs.length → a ≤ nth zs i ∧ nth zs i ≤ b) : ∀ k, k ≤ zs.length → ∀ x ∈ heardTo bs zs k, a ≤ x ∧ x ≤ b := by
  intro k
  induction k with
  | zero => intro _ x hx; simp [heardTo] at hx
  | succ k ih =>
    intro hk x hx
    simp only [heardTo] at hx
    split at hx
    · exact ih (by omega) x hx
    · rcases List.mem_append.1 hx with hx | hx
      · exact ih (by omega) x hx
      · simp at hx; subst hx; exact h k (by omega)
/-- What is heard, in order. -/
def heardS (bs : List Bool) (zs : List Int) : List Int := srt (heardTo bs zs zs.length)
theorem heardS_len (bs : List Bool) (zs : List Int) : (heardS bs zs).length ≤ zs.length := by unfold heardS; rw [srt_len]; exact heardTo_len _ _ _
theorem heardS_all {bs : List Bool} {zs : List Int} {a b : Int} (h : ∀ i, i < zs.length → a ≤ nth zs i ∧ nth zs i ≤ b) : ∀ i, i < (heardS bs zs).length → a ≤ nth (heardS bs zs) i ∧ nth (heardS bs zs) i ≤ b := by
  refine srt_all (P := fun x => a ≤ x ∧ x ≤ b) (fun i hi => ?_)
  exact heardTo_all h zs.length (Nat.le_refl _) _ (nth_in hi)
/-- The value and how it came. -/
def valX (hs : List Int) : Int := if hs.length = 0 then 0 else (nth hs ((hs.length - 1) / 2) + nth hs (hs.length / 2)) / 2
def valC (hs : List Int) : Int := min (hs.length : Int) 3
/-- Whether a round can be seen. -/
def seenB (n h : Int) (bs : List Bool) (os zs : List Int) : Bool := voOk n h bs os && decide (zs.length = bs.length) && allB zs (-1000000) 1000000
theorem seenB_no {n h : Int} {bs : List Bool} {os zs : List Int} (e : voOk n h bs os = false ∨ ¬ zs.length = bs.length ∨ allB zs (-1000000) 1000000 = false) : seenB n h bs os zs = false := by
  rcases e with e | e | e <;> simp [seenB, e]
theorem seenB_yes {n h : Int} {bs : List Bool} {os zs : List Int} (e1 : voOk n h bs os = true) (e2 : zs.length = bs.length) (e3 : allB zs (-1000000) 1000000 = true) : seenB n h bs os zs = true := by
  unfold seenB; rw [e1, e3]; simp [e2]
theorem seen_parts {n h : Int} {bs : List Bool} {os zs : List Int} (e : seenB n h bs os zs = true) : voOk n h bs os = true ∧ zs.length = bs.length ∧ (∀ i, i < zs.length → -1000000 ≤ nth zs i ∧ nth zs i ≤ 1000000) := by
  simp only [seenB, Bool.and_eq_true, decide_eq_true_eq] at e
  refine ⟨e.1.1, e.1.2, ?_⟩
  have h := e.2
  simp only [allB, decide_eq_true_eq] at h
  intro i hi
  have := h i hi
  simpa [inB] using this
/-- Whether two lanes alone are heard and are far from each other. -/
def twoB (n h : Int) (bs : List Bool) (os zs : List Int) : Bool := seenB n h bs os zs && (decide ((heardS bs zs).length = 2) && decide (n < nth (heardS bs zs) 1 - nth (heardS bs zs) 0))

end Go.Proofs.Ytidgkkldhnckead
