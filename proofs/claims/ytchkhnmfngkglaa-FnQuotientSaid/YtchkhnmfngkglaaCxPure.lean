/-
  What is done with complex numbers, part by part, all NaNs told as one. No condition.
-/
import Derived.Test.YtchkhnmfngkglaaFlFin
namespace Go.Proofs.Ytchkhnmfngkglaa

/-- The two parts of a product. -/
def tRe (a b c d : Nat) : Nat := fl .sub .f64 (fl .mul .f64 a c) (fl .mul .f64 b d)
def tIm (a b c d : Nat) : Nat := fl .add .f64 (fl .mul .f64 a d) (fl .mul .f64 b c)
theorem Alike.tRe {a b c d a' b' c' d' : Nat} (ha : Alike .f64 a a') (hb : Alike .f64 b b') (hc : Alike .f64 c c') (hd : Alike .f64 d d') : Alike .f64 (tRe a b c d) (tRe a' b' c' d') := (ha.fl hc).fl (hb.fl hd)
theorem Alike.tIm {a b c d a' b' c' d' : Nat} (ha : Alike .f64 a a') (hb : Alike .f64 b b') (hc : Alike .f64 c c') (hd : Alike .f64 d d') : Alike .f64 (tIm a b c d) (tIm a' b' c' d') := (ha.fl hd).fl (hb.fl hc)

/-- The parts of the answers, by the functions' names. -/
def reCxAdd (a _b c _d : Nat) : Nat := fl .add .f64 a c
def imCxAdd (_a b _c d : Nat) : Nat := fl .add .f64 b d
def reCxLess (a _b c _d : Nat) : Nat := fl .sub .f64 a c
def imCxLess (_a b _c d : Nat) : Nat := fl .sub .f64 b d
def reCxTimes (a b c d : Nat) : Nat := tRe a b c d
def imCxTimes (a b c d : Nat) : Nat := tIm a b c d

end Go.Proofs.Ytchkhnmfngkglaa
