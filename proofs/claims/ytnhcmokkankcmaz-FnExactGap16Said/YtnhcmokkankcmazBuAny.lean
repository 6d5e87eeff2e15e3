/-
  What the functions of chapter 16 answer, of both sides, at every argument. No condition.
-/
import Derived.Test.YtnhcmokkankcmazBuAcI
import Derived.Test.YtnhcmokkankcmazBuSlI
import Derived.Test.YtnhcmokkankcmazBuGpI
import Derived.Test.YtnhcmokkankcmazWdTo
namespace Go.Proofs.Ytnhcmokkankcmaz
open Go.RowKit

theorem specSlot16_any (ad : Option Addr) (len cap : Nat) (gs : List Int) (t : Int) (w : World) (hr : Row w ad len gs) : Calls Try.prog 5 #[.slice ad len cap, .int .i64 t] w fun e w' => e = .returned (.tuple #[.int .i64 (slR16 gs t), .bool (slB16 gs t)]) ∧ Below w.heap.size w w' := specSlot16_is ad len cap gs t w hr rfl rfl
theorem specGap16_any (ad : Option Addr) (len cap : Nat) (gs : List Int) (link : Int) (w : World) (hr : Row w ad len gs) : Calls Try.prog 9 #[.slice ad len cap, .int .i64 link] w fun e w' => e = .returned (.tuple #[.int .i64 (gpR gs link), .bool (gpB gs link)]) ∧ Below w.heap.size w w' := specGap16_is ad len cap gs link w hr rfl rfl

theorem implSlot16_any (ad : Option Addr) (len cap : Nat) (gs : List Int) (t : Int) (w : World) (hr : Row w ad len gs) : Calls Try.prog 7 #[.slice ad len cap, .int .i64 t] w fun e w' => e = .returned (.tuple #[.int .i64 (slR16 gs t), .bool (slB16 gs t)]) ∧ Below w.heap.size w w' := implSlot16_is ad len cap gs t w hr rfl rfl
theorem implGap16_any (ad : Option Addr) (len cap : Nat) (gs : List Int) (link : Int) (w : World) (hr : Row w ad len gs) : Calls Try.prog 10 #[.slice ad len cap, .int .i64 link] w fun e w' => e = .returned (.tuple #[.int .i64 (gpR gs link), .bool (gpB gs link)]) ∧ Below w.heap.size w w' := implGap16_is ad len cap gs link w hr rfl rfl

end Go.Proofs.Ytnhcmokkankcmaz
