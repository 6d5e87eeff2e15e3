/-
  How the arguments of the laws are opened: a slice of whole numbers that can be read as data is a row of numbers. No condition.
-/
import Derived.Test.YtchkhnmfngkglaaRows
import Derived.Test.YtchkhnmfngkglaaBase
import Derived.Lib.SmallJoins
namespace Go.Proofs.Ytchkhnmfngkglaa
open Go.ChangeShapes Go.WideShapes Go.ChangeAt Go.RowKit Go.Joins

theorem own : ownKnob Try.prog.godebug = none := by kernel_rfl
theorem laidOut : laidOutB Try.prog = true := by kernel_rfl
theorem cells_int : Try.prog.cellsOf 3 = 1 := by kernel_rfl

end Go.Proofs.Ytchkhnmfngkglaa
