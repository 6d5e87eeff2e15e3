/-
  Whether rules of warnings are so, in the model: the plain answer, at every list; nothing that was there is written.
-/
import Derived.Test.YtfehfocfoegbdaaMWrSpec
import Derived.Laws.Cover1
namespace Go.Proofs.Ytfehfocfoegbdaa
open Go.RowKit


end Go.Proofs.Ytfehfocfoegbdaa
