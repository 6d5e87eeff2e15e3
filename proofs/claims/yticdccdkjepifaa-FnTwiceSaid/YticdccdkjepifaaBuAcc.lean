/-
  What the model's Accept answers: the plain answer, at every argument; nothing that was there is written.
-/
import Derived.Test.YticdccdkjepifaaBuSpec
import Derived.Test.YticdccdkjepifaaMBuImpl
namespace Go.Proofs.Yticdccdkjepifaa
open Go.RowKit

theorem ret_acc {rl n n' k m m' : Int} {b b' : Bool} (h1 : n = n') (h2 : b = b') (h3 : m = m') : Ending.returned (.tuple #[.agg #[.int .i64 rl, .int .i64 n, .int .i64 k], .bool b, .int .i64 m]) = .returned (.tuple #[.agg #[.int .i64 rl, .int .i64 n', .int .i64 k], .bool b', .int .i64 m']) := by rw [h1, h2, h3]


end Go.Proofs.Yticdccdkjepifaa
