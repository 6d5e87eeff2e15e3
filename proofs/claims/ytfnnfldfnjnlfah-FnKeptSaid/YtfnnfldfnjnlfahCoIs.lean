/-
  What Column answers, in the model and in the program: a column and true, or nothing and false. At every list of rows and every place; the answer owns its memory, nothing that was there is written.
-/
import Derived.Test.YtfnnfldfnjnlfahRcOk
import Derived.Test.YtfnnfldfnjnlfahMLoopAt
namespace Go.Proofs.Ytfnnfldfnjnlfah
open Go.RowKit

theorem coL_no {zss : List (List Int)} {a : Int} (h : coB zss a = false) : coL zss a = [] := by rw [coL, h]; rfl
theorem coL_yes {zss : List (List Int)} {a : Int} (h : coB zss a = true) : coL zss a = coK zss a zss.length := by rw [coL, h]; rfl
theorem ownI_new {w w1 : World} (hb : w.heap.size ≤ w1.heap.size) : OwnI (w1.alloc (Obj.cells #[] 3)) w.heap.size (.slice (some ⟨w1.heap.size, 0, none⟩) 0 0) [] := ownI_none hb

end Go.Proofs.Ytfnnfldfnjnlfah
