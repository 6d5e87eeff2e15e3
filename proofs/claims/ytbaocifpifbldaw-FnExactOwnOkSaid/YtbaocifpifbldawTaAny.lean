/-
  Chapter 15's contracts as the laws take them.
-/
import Derived.Test.YtbaocifpifbldawTaSadv
namespace Go.Proofs.Ytbaocifpifbldaw
open Go.RowKit
theorem specTrackOk_any (i h c f k s : Int) (w : World) : Calls Try.prog 28 #[.agg #[.int .i64 i, .int .i64 h, .int .i64 c, .int .i64 f, .int .i64 k, .int .i64 s]] w fun e w' => e = .returned (.bool (tcB i h c f k s)) ∧ Below w.heap.size w w' := specTrackOk_is i h c f k s w rfl
theorem specOwnOk_any (i h c s : Int) (w : World) : Calls Try.prog 31 #[.agg #[.int .i64 i, .int .i64 h, .int .i64 c, .int .i64 s]] w fun e w' => e = .returned (.bool (avB i h c s)) ∧ Below w.heap.size w w' := specOwnOk_is i h c s w rfl
theorem implTrackOk_any (i h c f k s : Int) (w : World) : Calls Try.prog 30 #[.agg #[.int .i64 i, .int .i64 h, .int .i64 c, .int .i64 f, .int .i64 k, .int .i64 s]] w fun e w' => e = .returned (.bool (tcB i h c f k s)) ∧ Below w.heap.size w w' := implTrackOk_is i h c f k s w rfl
theorem implOwnOk_any (i h c s : Int) (w : World) : Calls Try.prog 33 #[.agg #[.int .i64 i, .int .i64 h, .int .i64 c, .int .i64 s]] w fun e w' => e = .returned (.bool (avB i h c s)) ∧ Below w.heap.size w w' := implOwnOk_is i h c s w rfl

end Go.Proofs.Ytbaocifpifbldaw
