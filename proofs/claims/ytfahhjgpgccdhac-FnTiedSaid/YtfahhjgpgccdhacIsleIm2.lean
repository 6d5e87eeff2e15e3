/-
  What the program's Islands answers: the islands of the net. At every net; nothing that was there is written.
-/
import Derived.Test.YtfahhjgpgccdhacIsleImpl
import Derived.Test.YtfahhjgpgccdhacIsleIn
import Derived.Test.YtfahhjgpgccdhacNetImpl
namespace Go.Proofs.Ytfahhjgpgccdhac
open Go.RowKit

theorem implNetOk_is {b : Bool} (n : Int) (a1 a2 a3 : Option Addr) (l1 c1 l2 c2 l3 c3 : Nat) (ss : List Sr) (ts : List Ti) (us : List Us) (w : World) (r : NetIn w a1 a2 a3 l1 l2 l3 ss ts us) (h : netB n ss ts us = b) :
    Calls Try.prog 33 #[.agg #[.int .i64 n, .slice a1 l1 c1, .slice a2 l2 c2, .slice a3 l3 c3]] w fun x w' => x = .returned (.bool b) ∧ Below w.heap.size w w' := by
  subst h; exact implNetOk_any n a1 a2 a3 l1 c1 l2 c2 l3 c3 ss ts us w r.r1 r.r2 r.r3

end Go.Proofs.Ytfahhjgpgccdhac
