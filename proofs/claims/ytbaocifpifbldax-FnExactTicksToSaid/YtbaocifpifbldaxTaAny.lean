/-
  Chapter 15's contracts as the laws take them.
-/
import Derived.Test.YtbaocifpifbldaxTaSadv
namespace Go.Proofs.Ytbaocifpifbldax
open Go.RowKit
theorem specTrackOk_any (i h c f k s : Int) (w : World) : Calls Try.prog 28 #[.agg #[.int .i64 i, .int .i64 h, .int .i64 c, .int .i64 f, .int .i64 k, .int .i64 s]] w fun e w' => e = .returned (.bool (tcB i h c f k s)) ∧ Below w.heap.size w w' := specTrackOk_is i h c f k s w rfl
theorem specOwnOk_any (i h c s : Int) (w : World) : Calls Try.prog 31 #[.agg #[.int .i64 i, .int .i64 h, .int .i64 c, .int .i64 s]] w fun e w' => e = .returned (.bool (avB i h c s)) ∧ Below w.heap.size w w' := specOwnOk_is i h c s w rfl
theorem specTicksTo_any (i h c f k s : Int) (w : World) : Calls Try.prog 9 #[.agg #[.int .i64 i, .int .i64 h, .int .i64 c, .int .i64 f, .int .i64 k, .int .i64 s]] w fun e w' => e = .returned (.tuple #[.int .i64 (tiN i h c f k s), .bool (tiB i h c f k s)]) ∧ Below w.heap.size w w' := specTicksTo_is i h c f k s w rfl rfl
theorem specThreat_any (oi oh oc os ti th tc tf tk ts near wi : Int) (w : World) : Calls Try.prog 12 #[.agg #[.int .i64 oi, .int .i64 oh, .int .i64 oc, .int .i64 os], .agg #[.int .i64 ti, .int .i64 th, .int .i64 tc, .int .i64 tf, .int .i64 tk, .int .i64 ts], .int .i64 near, .int .i64 wi] w fun e w' => e = .returned (.bool (thB oi oh oc os ti th tc tf tk ts near wi)) ∧ Below w.heap.size w w' := specThreat_is oi oh oc os ti th tc tf tk ts near wi w rfl
theorem specAdvise_any (oi oh oc os ti th tc tf tk ts near wi : Int) (w : World) : Calls Try.prog 15 #[.agg #[.int .i64 oi, .int .i64 oh, .int .i64 oc, .int .i64 os], .agg #[.int .i64 ti, .int .i64 th, .int .i64 tc, .int .i64 tf, .int .i64 tk, .int .i64 ts], .int .i64 near, .int .i64 wi] w fun e w' => e = .returned (.int .i64 (adR oi oh oc os ti th tc tf tk ts near wi)) ∧ Below w.heap.size w w' := specAdvise_is oi oh oc os ti th tc tf tk ts near wi w rfl
theorem implTicksTo_any (i h c f k s : Int) (w : World) : Calls Try.prog 11 #[.agg #[.int .i64 i, .int .i64 h, .int .i64 c, .int .i64 f, .int .i64 k, .int .i64 s]] w fun e w' => e = .returned (.tuple #[.int .i64 (tiN i h c f k s), .bool (tiB i h c f k s)]) ∧ Below w.heap.size w w' := implTicksTo_is i h c f k s w rfl rfl
theorem implThreat_any (oi oh oc os ti th tc tf tk ts near wi : Int) (w : World) : Calls Try.prog 14 #[.agg #[.int .i64 oi, .int .i64 oh, .int .i64 oc, .int .i64 os], .agg #[.int .i64 ti, .int .i64 th, .int .i64 tc, .int .i64 tf, .int .i64 tk, .int .i64 ts], .int .i64 near, .int .i64 wi] w fun e w' => e = .returned (.bool (thB oi oh oc os ti th tc tf tk ts near wi)) ∧ Below w.heap.size w w' := implThreat_is oi oh oc os ti th tc tf tk ts near wi w rfl
theorem implAdvise_any (oi oh oc os ti th tc tf tk ts near wi : Int) (w : World) : Calls Try.prog 16 #[.agg #[.int .i64 oi, .int .i64 oh, .int .i64 oc, .int .i64 os], .agg #[.int .i64 ti, .int .i64 th, .int .i64 tc, .int .i64 tf, .int .i64 tk, .int .i64 ts], .int .i64 near, .int .i64 wi] w fun e w' => e = .returned (.int .i64 (adR oi oh oc os ti th tc tf tk ts near wi)) ∧ Below w.heap.size w w' := implAdvise_is oi oh oc os ti th tc tf tk ts near wi w rfl

end Go.Proofs.Ytbaocifpifbldax
