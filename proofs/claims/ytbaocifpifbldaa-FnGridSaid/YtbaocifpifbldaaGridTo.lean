/-
  The law's size, comparison and copy of a grid. The copy at grids of bounded lists; nothing that was there is written.
-/
import Derived.Test.YtbaocifpifbldaaGridRows
namespace Go.Proofs.Ytbaocifpifbldaa
open Go.RowKit

theorem implGridOk_any (a1 a2 a3 : Option Addr) (l1 c1 l2 c2 l3 c3 : Nat) (xs ys : List Int) (zss : List (List Int)) (w : World) (h1 : Row w a1 l1 xs) (h2 : Row w a2 l2 ys) (h3 : RowS w a3 l3 zss) :
    Calls Try.prog 17 #[.agg #[.slice a1 l1 c1, .slice a2 l2 c2, .slice a3 l3 c3]] w fun e w' => e = .returned (.bool (gridB xs ys zss)) ∧ Below w.heap.size w w' := by
  cases hh : gridHead xs ys l3
  · exact implGridOk_head a1 a2 a3 l1 c1 l2 c2 l3 c3 xs ys zss w h1 h2 h3 hh
  · exact implGridOk_rows a1 a2 a3 l1 c1 l2 c2 l3 c3 xs ys zss w h1 h2 h3 hh
theorem implGridOk_is {c : Bool} (a1 a2 a3 : Option Addr) (l1 c1 l2 c2 l3 c3 : Nat) (xs ys : List Int) (zss : List (List Int)) (w : World) (hc : gridB xs ys zss = c) (h1 : Row w a1 l1 xs) (h2 : Row w a2 l2 ys) (h3 : RowS w a3 l3 zss) :
    Calls Try.prog 17 #[.agg #[.slice a1 l1 c1, .slice a2 l2 c2, .slice a3 l3 c3]] w fun e w' => e = .returned (.bool c) ∧ Below w.heap.size w w' := by
  subst hc; exact implGridOk_any a1 a2 a3 l1 c1 l2 c2 l3 c3 xs ys zss w h1 h2 h3

end Go.Proofs.Ytbaocifpifbldaa
