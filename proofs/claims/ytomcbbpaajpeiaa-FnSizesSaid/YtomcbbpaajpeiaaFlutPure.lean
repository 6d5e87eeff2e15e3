/-
  The determinant and the trace, part by part, and what is held on to. No condition.
-/
import Derived.Test.YtomcbbpaajpeiaaMCxPure
import Derived.Test.YtomcbbpaajpeiaaCxHeld
namespace Go.Proofs.Ytomcbbpaajpeiaa
open Go Go.RowKit

def detX (a b c d e f g h : Nat) : Nat := fl .sub .f64 (tRe a b g h) (tRe c d e f)
def detY (a b c d e f g h : Nat) : Nat := fl .sub .f64 (tIm a b g h) (tIm c d e f)
theorem held8_call {w W w3 : World} {p q r s : Nat} {a b c d x y z u : Value}
    (h : W.cell? ⟨p, 0, none⟩ = some a ∧ W.cell? ⟨p, 1, none⟩ = some b ∧ W.cell? ⟨q, 0, none⟩ = some c ∧ W.cell? ⟨q, 1, none⟩ = some d ∧ W.cell? ⟨r, 0, none⟩ = some x ∧ W.cell? ⟨r, 1, none⟩ = some y ∧ W.cell? ⟨s, 0, none⟩ = some z ∧ W.cell? ⟨s, 1, none⟩ = some u ∧ Below w.heap.size w W) (b3 : Below W.heap.size W w3) :
    w3.cell? ⟨p, 0, none⟩ = some a ∧ w3.cell? ⟨p, 1, none⟩ = some b ∧ w3.cell? ⟨q, 0, none⟩ = some c ∧ w3.cell? ⟨q, 1, none⟩ = some d ∧ w3.cell? ⟨r, 0, none⟩ = some x ∧ w3.cell? ⟨r, 1, none⟩ = some y ∧ w3.cell? ⟨s, 0, none⟩ = some z ∧ w3.cell? ⟨s, 1, none⟩ = some u ∧ Below w.heap.size w w3 := by
  obtain ⟨h0, h1, h2, h3, h4, h5, h6, h7, hb⟩ := h
  exact ⟨(b3.cell (block_lt_of_cell h0)).trans h0, (b3.cell (block_lt_of_cell h1)).trans h1, (b3.cell (block_lt_of_cell h2)).trans h2, (b3.cell (block_lt_of_cell h3)).trans h3, (b3.cell (block_lt_of_cell h4)).trans h4, (b3.cell (block_lt_of_cell h5)).trans h5, (b3.cell (block_lt_of_cell h6)).trans h6, (b3.cell (block_lt_of_cell h7)).trans h7, hb.trans (b3.mono hb.size)⟩

end Go.Proofs.Ytomcbbpaajpeiaa
