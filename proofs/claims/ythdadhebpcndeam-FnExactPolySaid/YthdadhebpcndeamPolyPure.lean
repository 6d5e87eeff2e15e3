/-
  The value of a polynomial, step by step, all NaNs told as one. No condition.
-/
import Derived.Test.YthdadhebpcndeamRowC
import Derived.Test.YthdadhebpcndeamCxPure
namespace Go.Proofs.Ythdadhebpcndeam
open Go

def polyRe (ps : List (Nat × Nat)) (c d : Nat) : Nat → Nat × Nat
  | 0 => (0, 0)
  | j + 1 => (fl .add .f64 (tRe (polyRe ps c d j).1 (polyRe ps c d j).2 c d) (reAt ps j), fl .add .f64 (tIm (polyRe ps c d j).1 (polyRe ps c d j).2 c d) (imAt ps j))
def polyB (ps : List (Nat × Nat)) : Bool := decide (ps.length ≤ 12)
def polyX (ps : List (Nat × Nat)) (c d : Nat) : Nat := bif polyB ps then (polyRe ps c d ps.length).1 else 0
def polyY (ps : List (Nat × Nat)) (c d : Nat) : Nat := bif polyB ps then (polyRe ps c d ps.length).2 else 0
/-- One more step from what is alike. -/
theorem poly_step {ps : List (Nat × Nat)} {c d j x y x1 y1 x2 y2 : Nat} (hx : Alike .f64 x (polyRe ps c d j).1) (hy : Alike .f64 y (polyRe ps c d j).2) (g1 : Alike .f64 x1 (tRe x y c d)) (g2 : Alike .f64 y1 (tIm x y c d))
    (k1 : Alike .f64 x2 (fl .add .f64 x1 (reAt ps j))) (k2 : Alike .f64 y2 (fl .add .f64 y1 (imAt ps j))) : Alike .f64 x2 (polyRe ps c d (j + 1)).1 ∧ Alike .f64 y2 (polyRe ps c d (j + 1)).2 :=
  ⟨k1.trans (Alike.fl (g1.trans (hx.tRe hy (.refl _ _) (.refl _ _))) (.refl _ _)), k2.trans (Alike.fl (g2.trans (hx.tIm hy (.refl _ _) (.refl _ _))) (.refl _ _))⟩

theorem poly_stepX {ps : List (Nat × Nat)} {c d j x y x1 x2 : Nat} (hx : Alike .f64 x (polyRe ps c d j).1) (hy : Alike .f64 y (polyRe ps c d j).2) (g1 : Alike .f64 x1 (tRe x y c d))
    (k1 : Alike .f64 x2 (fl .add .f64 x1 (reAt ps j))) : Alike .f64 x2 (polyRe ps c d (j + 1)).1 := k1.trans (Alike.fl (g1.trans (hx.tRe hy (.refl _ _) (.refl _ _))) (.refl _ _))
theorem poly_stepY {ps : List (Nat × Nat)} {c d j x y y1 y2 : Nat} (hx : Alike .f64 x (polyRe ps c d j).1) (hy : Alike .f64 y (polyRe ps c d j).2) (g2 : Alike .f64 y1 (tIm x y c d))
    (k2 : Alike .f64 y2 (fl .add .f64 y1 (imAt ps j))) : Alike .f64 y2 (polyRe ps c d (j + 1)).2 := k2.trans (Alike.fl (g2.trans (hx.tIm hy (.refl _ _) (.refl _ _))) (.refl _ _))

end Go.Proofs.Ythdadhebpcndeam
