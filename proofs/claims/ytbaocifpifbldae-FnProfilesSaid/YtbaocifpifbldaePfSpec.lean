/-
  What the model of chapter 13 answers of descents and points: the plain answers, at every argument; nothing that was there is written.
-/
import Derived.Test.YtbaocifpifbldaeSmall
import Derived.Test.YtbaocifpifbldaePfPure
import Derived.Test.YtbaocifpifbldaeBlk
namespace Go.Proofs.Ytbaocifpifbldae
open Go.RowKit

theorem dsN_bd {h s : Int} (h0 : 0 ≤ h) (h1 : h ≤ 100000) (s0 : 1 ≤ s) (s1 : s ≤ 1000) : 0 ≤ dsN h s ∧ dsN h s ≤ 101000 := by
  unfold dsN
  rw [Int.tdiv_eq_ediv_of_nonneg (by omega)]
  exact ⟨Int.ediv_nonneg (by omega) (by omega), Int.le_trans (Int.ediv_le_self _ (by omega)) (by omega)⟩

end Go.Proofs.Ytbaocifpifbldae
