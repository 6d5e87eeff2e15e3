/-
  ClockOk and TaskOk of both sides, as the laws ask them. No condition.
-/
import Derived.Test.YtilahgifaglekbbCkSpec
import Derived.Test.YtilahgifaglekbbCkTsk
namespace Go.Proofs.Ytilahgifaglekbb
open Go Go.RowKit

theorem specClockOk_any (h c d : Int) (w : World) : Calls Try.prog 8 #[.agg #[.int .i64 h, .int .i64 c, .int .i64 d]] w fun e w' => e = .returned (.bool (ckB h c d)) ∧ Below w.heap.size w w' := specClockOk_is h c d w rfl
theorem specTaskOk_any (nm : ByteArray) (h c d dh dc dd : Int) (w : World) (hs : nm.size ≤ 9223372036854775807) : Calls Try.prog 12 #[.agg #[.string nm, .int .i64 h, .int .i64 c, .int .i64 d, .int .i64 dh, .int .i64 dc, .int .i64 dd]] w fun e w' => e = .returned (.bool (tsB ⟨nm, h, c, d, dh, dc, dd⟩)) ∧ Below w.heap.size w w' := specTaskOk_is nm h c d dh dc dd w hs rfl
theorem implClockOk_any (h c d : Int) (w : World) : Calls Try.prog 10 #[.agg #[.int .i64 h, .int .i64 c, .int .i64 d]] w fun e w' => e = .returned (.bool (ckB h c d)) ∧ Below w.heap.size w w' := implClockOk_is h c d w rfl
theorem implTaskOk_any (nm : ByteArray) (h c d dh dc dd : Int) (w : World) (hs : nm.size ≤ 9223372036854775807) : Calls Try.prog 14 #[.agg #[.string nm, .int .i64 h, .int .i64 c, .int .i64 d, .int .i64 dh, .int .i64 dc, .int .i64 dd]] w fun e w' => e = .returned (.bool (tsB ⟨nm, h, c, d, dh, dc, dd⟩)) ∧ Below w.heap.size w w' := implTaskOk_is nm h c d dh dc dd w hs rfl

end Go.Proofs.Ytilahgifaglekbb
