/-
  Plain mathematics of At: the value at a place as a fraction. No program here.
-/
import Derived.Test.YtikhfacgoglcfaaFindPure
import Derived.Test.YtikhfacgoglcfaaFrac
namespace Go.Proofs.Ytikhfacgoglcfaa

def atNum (xs ys : List Int) (x : Int) : Int := nth ys (lowAt xs x) * (nth xs (lowAt xs x + 1) - nth xs (lowAt xs x)) + (nth ys (lowAt xs x + 1) - nth ys (lowAt xs x)) * (x - nth xs (lowAt xs x))
def atDen (xs : List Int) (x : Int) : Int := nth xs (lowAt xs x + 1) - nth xs (lowAt xs x)

def atFlag (xs ys : List Int) (x : Int) : Bool := curveB xs ys && inB x (nth xs 0) (nth xs (xs.length - 1))
def atN (xs ys : List Int) (x : Int) : Int := if atFlag xs ys x then fracN (atNum xs ys x) (atDen xs x) else 0
def atD (xs ys : List Int) (x : Int) : Int := if atFlag xs ys x then fracD (atNum xs ys x) (atDen xs x) else 0

end Go.Proofs.Ytikhfacgoglcfaa
