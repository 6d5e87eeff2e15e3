/-
  What a name is: 1 to 20 bytes, each a letter, a digit or '-', in plain numbers. No program here.
-/
import Derived.Test.YtglefolkecimabdLowPure
namespace Go.Proofs.Ytglefolkecimabd
open Go

/-- Whether a byte may stand in a name. -/
def byteB (c : Int) : Bool := inB c 97 122 || inB c 65 90 || inB c 48 57 || decide (c = 45)
/-- The byte at a place of a text; 0 where there is none. -/
def byAt (s : ByteArray) (i : Nat) : Int := if h : i < s.size then ((s[i]'h).toNat : Int) else 0
theorem byAt_is {s : ByteArray} {i : Nat} (h : i < s.size) : ((s[i]'h).toNat : Int) = byAt s i := by simp [byAt, h]
theorem byAt_bd (s : ByteArray) (i : Nat) : 0 ≤ byAt s i ∧ byAt s i ≤ 255 := by
  unfold byAt
  split
  · rename_i h
    have := (s[i]'h).toNat_lt
    omega
  · omega
/-- Whether a text is a name. -/
def nameB (s : ByteArray) : Bool := inB s.size 1 20 && decide (∀ i, i < s.size → byteB (byAt s i) = true)
theorem nameB_size {s : ByteArray} (h : inB s.size 1 20 = false) : nameB s = false := by simp [nameB, h]
theorem nameB_at {s : ByteArray} {i : Nat} (hi : i < s.size) (h : byteB (byAt s i) = false) : nameB s = false := by
  have : ¬ (∀ i, i < s.size → byteB (byAt s i) = true) := fun k => by have := k i hi; rw [h] at this; cases this
  simp [nameB, this]
theorem nameB_all {s : ByteArray} (h : ∀ i, i < s.size → byteB (byAt s i) = true) : nameB s = inB s.size 1 20 := by
  have : decide (∀ i, i < s.size → byteB (byAt s i) = true) = true := decide_eq_true h
  unfold nameB
  rw [this, Bool.and_true]
theorem nameB_facts {s : ByteArray} (h : nameB s = true) : 1 ≤ s.size ∧ s.size ≤ 20 := by
  simp [nameB, inB] at h; omega

end Go.Proofs.Ytglefolkecimabd
