/-
  Pair's contracts as the law takes them.
-/
import Derived.Test.YtbaocifpifbldaxTaPsp
namespace Go.Proofs.Ytbaocifpifbldax
open Go.RowKit
theorem specPair_any (ai ah ac as_ bi bh bc bs far cl near wi : Int) (w : World) : Calls Try.prog 17 #[.agg #[.int .i64 ai, .int .i64 ah, .int .i64 ac, .int .i64 as_], .agg #[.int .i64 bi, .int .i64 bh, .int .i64 bc, .int .i64 bs], .int .i64 far, .int .i64 cl, .int .i64 near, .int .i64 wi] w fun e w' => e = .returned (.tuple #[.int .i64 (pr1 ai ah ac as_ bi bh bc bs far cl near wi), .int .i64 (pr2 ai ah ac as_ bi bh bc bs far cl near wi), .bool (prB15 ai ah ac as_ bi bh bc bs far cl near wi)]) ∧ Below w.heap.size w w' := specPair_is ai ah ac as_ bi bh bc bs far cl near wi w rfl rfl rfl
theorem implPair_any (ai ah ac as_ bi bh bc bs far cl near wi : Int) (w : World) : Calls Try.prog 18 #[.agg #[.int .i64 ai, .int .i64 ah, .int .i64 ac, .int .i64 as_], .agg #[.int .i64 bi, .int .i64 bh, .int .i64 bc, .int .i64 bs], .int .i64 far, .int .i64 cl, .int .i64 near, .int .i64 wi] w fun e w' => e = .returned (.tuple #[.int .i64 (pr1 ai ah ac as_ bi bh bc bs far cl near wi), .int .i64 (pr2 ai ah ac as_ bi bh bc bs far cl near wi), .bool (prB15 ai ah ac as_ bi bh bc bs far cl near wi)]) ∧ Below w.heap.size w w' := implPair_is ai ah ac as_ bi bh bc bs far cl near wi w rfl rfl rfl

end Go.Proofs.Ytbaocifpifbldax
