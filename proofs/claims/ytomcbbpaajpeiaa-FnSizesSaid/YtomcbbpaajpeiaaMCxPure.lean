/-
  What is done with complex numbers, part by part, all NaNs told as one. No condition.
  The value of a polynomial, step by step, all NaNs told as one. No condition.
-/
import Derived.Test.YtomcbbpaajpeiaaFlFin
import Derived.Test.YtomcbbpaajpeiaaRowC

namespace Go.Proofs.Ytomcbbpaajpeiaa

/-- The two parts of a product. -/
def tRe (a b c d : Nat) : Nat := fl .sub .f64 (fl .mul .f64 a c) (fl .mul .f64 b d)
def tIm (a b c d : Nat) : Nat := fl .add .f64 (fl .mul .f64 a d) (fl .mul .f64 b c)
theorem Alike.tRe {a b c d a' b' c' d' : Nat} (ha : Alike .f64 a a') (hb : Alike .f64 b b') (hc : Alike .f64 c c') (hd : Alike .f64 d d') : Alike .f64 (tRe a b c d) (tRe a' b' c' d') := (ha.fl hc).fl (hb.fl hd)
theorem Alike.tIm {a b c d a' b' c' d' : Nat} (ha : Alike .f64 a a') (hb : Alike .f64 b b') (hc : Alike .f64 c c') (hd : Alike .f64 d d') : Alike .f64 (tIm a b c d) (tIm a' b' c' d') := (ha.fl hd).fl (hb.fl hc)

/-- The parts of the answers, by the functions' names. -/
def reCxAdd (a _b c _d : Nat) : Nat := fl .add .f64 a c
def imCxAdd (_a b _c d : Nat) : Nat := fl .add .f64 b d
def reCxLess (a _b c _d : Nat) : Nat := fl .sub .f64 a c
def imCxLess (_a b _c d : Nat) : Nat := fl .sub .f64 b d
def reCxTimes (a b c d : Nat) : Nat := tRe a b c d
def imCxTimes (a b c d : Nat) : Nat := tIm a b c d

end Go.Proofs.Ytomcbbpaajpeiaa

namespace Go.Proofs.Ytomcbbpaajpeiaa
open Go

def polyRe (ps : List (Nat × Nat)) (c d : Nat) : Nat → Nat × Nat
  | 0 => (0, 0)
  | j + 1 => (fl .add .f64 (tRe (polyRe ps c d j).1 (polyRe ps c d j).2 c d) (reAt ps j), fl .add .f64 (tIm (polyRe ps c d j).1 (polyRe ps c d j).2 c d) (imAt ps j))
def polyB (ps : List (Nat × Nat)) : Bool := decide (ps.length ≤ 12)
def polyX (ps : List (Nat × Nat)) (c d : Nat) : Nat := bif polyB ps then (polyRe ps c d ps.length).1 else 0
def polyY (ps : List (Nat × Nat)) (c d : Nat) : Nat := bif polyB ps then (polyRe ps c d ps.length).2 else 0
/-- One more step from what is alike. -/
theorem poly_step {ps : List (Nat × Nat)} {c d j x y x1 y1 x2 y2 : Nat} (hx : Alike .f64 x (polyRe ps c d j).1) (hy : Alike .f64 y (polyRe ps c d j).2) (g1 : Alike .f64 x1 (tRe x y c d)) (g2 : Alike .f64 y1 (tIm x y c d))
    (k1 : Alike .f64 x2 (fl .add .f64 x1 (reAt ps j))) (k2 : Alike .f64 y2 (fl .add .f64 y1 (imAt ps j))) : Alike .f64 x2 (polyRe ps c d (j + 1)).1 ∧ Alike .f64 y2 (polyRe ps c d (j + 1)).2 :=
  ⟨k1.trans (Alike.fl (g1.trans (hx.tRe hy (.refl _ _) (.refl _ _))) (.refl _ _)), k2.trans (Alike.fl (g2.trans (hx.tIm hy (.refl _ _) (.refl _ _))) (.refl _ _))⟩

theorem poly_stepX {ps : List (Nat × Nat)} {c d j x y x1 x2 : Nat} (hx : Alike .f64 x (polyRe ps c d j).1) (hy : Alike .f64 y (polyRe ps c d j).2) (g1 : Alike .f64 x1 (tRe x y c d))
    (k1 : Alike .f64 x2 (fl .add .f64 x1 (reAt ps j))) : Alike .f64 x2 (polyRe ps c d (j + 1)).1 := k1.trans (Alike.fl (g1.trans (hx.tRe hy (.refl _ _) (.refl _ _))) (.refl _ _))
theorem poly_stepY {ps : List (Nat × Nat)} {c d j x y y1 y2 : Nat} (hx : Alike .f64 x (polyRe ps c d j).1) (hy : Alike .f64 y (polyRe ps c d j).2) (g2 : Alike .f64 y1 (tIm x y c d))
    (k2 : Alike .f64 y2 (fl .add .f64 y1 (imAt ps j))) : Alike .f64 y2 (polyRe ps c d (j + 1)).2 := k2.trans (Alike.fl (g2.trans (hx.tIm hy (.refl _ _) (.refl _ _))) (.refl _ _))

end Go.Proofs.Ytomcbbpaajpeiaa
