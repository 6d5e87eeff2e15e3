/-
  The codes of the model's Take18 in plain numbers, and a load put into a list. No program here.
-/
import Derived.Test.YtemodlgmjgdjpaaGreatDoorMWrOrd
import Derived.Test.YtemodlgmjgdjpaaGreatDoorMCpSpc
import Derived.Test.YtemodlgmjgdjpaaGreatDoorMSeSpec
namespace Go.Proofs.YtemodlgmjgdjpaaGreatDoor
open Go Go.RowKit

theorem tk_need {s : Int} {zs : List Lc} {l : Lc} {sl : Int} (h1 : abB s zs = true) (h2 : ldB l = true) (h3 : sl = seO l) (h4 : inB s l.le l.mo = true) (h5 : l.ne ≠ 0 ∧ (fnF zs l.ne < 0 ∨ fnF zs l.ne = saF zs l.p)) : tkC s zs l sl = 4 := by
  rw [tkC, if_neg (rf_ok h1 h2), if_neg (by simp [h3]), if_neg (by simp [h4]), if_pos h5]
theorem tk_rest {s : Int} {zs : List Lc} {l : Lc} {sl : Int} (h1 : abB s zs = true) (h2 : ldB l = true) (h3 : sl = seO l) (h4 : inB s l.le l.mo = true) (h5 : ¬ (l.ne ≠ 0 ∧ (fnF zs l.ne < 0 ∨ fnF zs l.ne = saF zs l.p))) : tkC s zs l sl = tkR zs l (saF zs l.p) := by
  rw [tkC, if_neg (rf_ok h1 h2), if_neg (by simp [h3]), if_neg (by simp [h4]), if_neg h5]; rfl
theorem sa_cases (zs : List Lc) (p : ByteArray) : saF zs p = -1 ∨ ∃ k, k < zs.length ∧ saF zs p = ((k : Nat) : Int) := by
  have h := saK_bd zs p zs.length
  unfold saF
  rcases Int.lt_or_le (saK zs p zs.length) 0 with c | c
  · left; omega
  · right; exact ⟨(saK zs p zs.length).toNat, by omega, by omega⟩
theorem tkL_fail {s : Int} {zs : List Lc} {l : Lc} {sl c : Int} (h : tkC s zs l sl = c) (hc : c ≠ 0) : tkL s zs l sl = zs := by rw [tkL, if_neg (by rw [h]; exact hc)]
theorem seR_ok {l : Lc} (h : ldB l = true) : seR l = seO l := by rw [seR, if_pos h]

end Go.Proofs.YtemodlgmjgdjpaaGreatDoor
