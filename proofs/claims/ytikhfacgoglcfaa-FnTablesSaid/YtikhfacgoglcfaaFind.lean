/-
  What Find answers in the model: the number and flag of the plain function, at every curve and number; nothing that was there is written.
-/
import Derived.Test.YtikhfacgoglcfaaFindPure
namespace Go.Proofs.Ytikhfacgoglcfaa
open Go.RowKit

theorem ret_pair2 {k : IntKind} {a b : Int} {c d : Bool} (h : a = b) (h' : c = d) : Ending.returned (.tuple #[.int k a, .bool c]) = .returned (.tuple #[.int k b, .bool d]) := by rw [h, h']

end Go.Proofs.Ytikhfacgoglcfaa
