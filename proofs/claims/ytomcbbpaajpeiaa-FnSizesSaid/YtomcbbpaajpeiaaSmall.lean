/-
  What the small functions on whole numbers and their lists answer (l1In, l1All, l1Rise of the model; within, allWithin, ascending of the program; szIntS, eqIntS, toIntS of the law): at every argument, with no memory written that was there.
-/
import Derived.Test.YtomcbbpaajpeiaaChecked
import Derived.Test.YtomcbbpaajpeiaaBase
namespace Go.Proofs.Ytomcbbpaajpeiaa
open Go.RowKit

theorem allB_true {zs : List Int} {a b : Int} (h : ∀ j, j < zs.length → inB (nth zs j) a b = true) : allB zs a b = true := by
  simp only [allB, decide_eq_true_eq]; exact h
theorem allB_false {zs : List Int} {a b : Int} {j : Nat} (hj : j < zs.length) (h : inB (nth zs j) a b = false) : allB zs a b = false := by
  simp only [allB, decide_eq_false_iff_not]; intro k; have := k j hj; rw [h] at this; cases this



theorem riseB_true {zs : List Int} (h : ∀ j, j + 1 < zs.length → nth zs j < nth zs (j + 1)) : riseB zs = true := by
  simp only [riseB, decide_eq_true_eq]; exact fun i hi => h i (by omega)
theorem riseB_false {zs : List Int} {j : Nat} (hj : j + 1 < zs.length) (h : nth zs (j + 1) ≤ nth zs j) : riseB zs = false := by
  simp only [riseB, decide_eq_false_iff_not]; intro k; have := k j (by omega); omega



end Go.Proofs.Ytomcbbpaajpeiaa
