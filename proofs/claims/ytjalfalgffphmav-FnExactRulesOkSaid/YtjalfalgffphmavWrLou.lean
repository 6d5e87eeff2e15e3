/-
  How loud names are, and which rules are quiet in a phase, in the model: the plain answers; nothing that was there is written.
-/
import Derived.Test.YtjalfalgffphmavWrOk
import Derived.Test.YtjalfalgffphmavStrRow
import Derived.Test.YtjalfalgffphmavMinMax
import Derived.Test.YtjalfalgffphmavAppEl
import Derived.Test.YtjalfalgffphmavOwnI
namespace Go.Proofs.Ytjalfalgffphmav
open Go.RowKit

theorem mxW_is {c : Int} (x y : Int) (w : World) (h : max x y = c) : Calls Try.prog 38 #[.int .i64 x, .int .i64 y] w fun e w' => e = .returned (.int .i64 c) ∧ w' = w := by subst h; exact l1Max_eq x y w
theorem specRulesOk_is {c : Bool} (ad : Option Addr) (len cap : Nat) (rs : List Wr) (w : World) (hr : RowW w ad len rs) (hl : len ≤ 1048576) (hc : wrB rs = c) :
    Calls Try.prog 28 #[.slice ad len cap] w fun e w' => e = .returned (.bool c) ∧ Below w.heap.size w w' := by subst hc; exact specRulesOk_any ad len cap rs w hr hl

end Go.Proofs.Ytjalfalgffphmav
