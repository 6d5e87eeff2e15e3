/-
  The law's comparison of lists of texts, its marks in one, and that they are there still. Nothing else that was there is written.
  The model's lesser and greater of two numbers; no memory is written. No condition.
-/
import Derived.Test.YtfehfocfoegbdaaRowE
import Derived.Test.YtfehfocfoegbdaaMWrSpec
import Derived.Test.YtfehfocfoegbdaaMMake
import Derived.Test.YtfehfocfoegbdaaSmall

namespace Go.Proofs.Ytfehfocfoegbdaa
open Go.RowKit

/-- A text's one cell. -/
def stC (s : ByteArray) (_ : Nat) : Value := .string s
theorem grownB {w w' : World} (b : Below w.heap.size w w') (row : Option Nat) : w.grownBy w' row := ⟨b.os, b.tape, b.output, b.size, fun i hi _ => b.block i hi⟩
theorem grown_trans {a b c : World} {row : Option Nat} (h : a.grownBy b row) (k : b.grownBy c row) : a.grownBy c row :=
  ⟨k.os.trans h.os, k.tape.trans h.tape, k.output.trans h.output, Nat.le_trans h.size k.size, fun i hi hne => (k.block i (Nat.lt_of_lt_of_le hi h.size) hne).trans (h.block i hi hne)⟩

end Go.Proofs.Ytfehfocfoegbdaa

namespace Go.Proofs.Ytfehfocfoegbdaa
open Go.RowKit


end Go.Proofs.Ytfehfocfoegbdaa
