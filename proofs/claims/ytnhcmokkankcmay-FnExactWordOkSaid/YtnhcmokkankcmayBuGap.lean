/-
  What the model's Gap16 answers: the plain answer, at every argument; nothing that was there is written.
-/
import Derived.Test.YtnhcmokkankcmayBuSlot
namespace Go.Proofs.Ytnhcmokkankcmay
open Go.RowKit

theorem gp_no {gs : List Int} {link : Int} (h : (plB gs && !(link == 0)) = false) : gpR gs link = 0 ∧ gpB gs link = false := by simp only [gpR, gpB, h, Bool.false_and]; simp
theorem gp_yes {gs : List Int} {link : Int} (h : (plB gs && !(link == 0)) = true) : gpR gs link = gpK gs link gs.length ∧ gpB gs link = decide (0 < gpK gs link gs.length) := by simp only [gpR, gpB, h, Bool.true_and, if_true, and_self]
theorem gpK_yes {gs : List Int} {link : Int} {k : Nat} (h : nth gs k = link) : gpK gs link (k + 1) = max (gpK gs link k) (gpD gs link k) := by rw [gpK, if_pos h]
theorem gpK_not {gs : List Int} {link : Int} {k : Nat} (h : ¬ nth gs k = link) : gpK gs link (k + 1) = gpK gs link k := by rw [gpK, if_neg h]


end Go.Proofs.Ytnhcmokkankcmay
