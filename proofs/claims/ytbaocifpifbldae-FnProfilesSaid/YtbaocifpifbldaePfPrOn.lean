/-
  The way from a first height that leads through all, in the model.
-/
import Derived.Test.YtbaocifpifbldaePfPro

namespace Go.Proofs.Ytbaocifpifbldae
open Go.RowKit

theorem pfL_small (ps : List Po) (up down first : Int) : (pfL ps up down first).length ≤ 1048576 := by
  unfold pfL
  split
  · rename_i h
    unfold pfB at h
    simp only [Bool.and_eq_true] at h
    have := (poB_facts h.1.1.1).2.2
    rw [prL_len]
    omega
  · simp

end Go.Proofs.Ytbaocifpifbldae
