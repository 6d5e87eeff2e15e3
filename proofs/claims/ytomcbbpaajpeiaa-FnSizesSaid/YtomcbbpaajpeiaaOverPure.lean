/-
  What a quotient of complex numbers is, part by part, and when there is one. No condition.
-/
import Derived.Test.YtomcbbpaajpeiaaMCxPure
import Derived.Test.YtomcbbpaajpeiaaFlWalk
namespace Go.Proofs.Ytomcbbpaajpeiaa
open Go

def sq (c d : Nat) : Nat := fl .add .f64 (fl .mul .f64 c c) (fl .mul .f64 d d)
def ng (d : Nat) : Nat := Op.negFloat .f64 d
def okOver (a b c d : Nat) : Bool := finB a && finB b && finB c && finB d && finB (sq c d) && !(FloatKind.f64.format.order (sq c d) 0 == some .eq)
def reOver (a b c d : Nat) : Nat := bif okOver a b c d then fl .quo .f64 (tRe a b c (ng d)) (sq c d) else 0
def imOver (a b c d : Nat) : Nat := bif okOver a b c d then fl .quo .f64 (tIm a b c (ng d)) (sq c d) else 0
theorem unary_neg_float (k : FloatKind) (n : Nat) : Op.unary .neg (.float k n) = pure (.float k (Op.negFloat k n)) := rfl

end Go.Proofs.Ytomcbbpaajpeiaa
