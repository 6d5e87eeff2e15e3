/-
  What the functions of chapter 16 answer, of both sides, at every argument. No condition.
-/
import Derived.Test.YtnhcmokkankcmayBuAcI
import Derived.Test.YtnhcmokkankcmayBuSlI
import Derived.Test.YtnhcmokkankcmayBuGpI
import Derived.Test.YtnhcmokkankcmayWdTo
namespace Go.Proofs.Ytnhcmokkankcmay
open Go.RowKit

theorem specReceiverOk_any (l n k : Int) (w : World) : Calls Try.prog 24 #[.agg #[.int .i64 l, .int .i64 n, .int .i64 k]] w fun e w' => e = .returned (.bool (rvB l n k)) ∧ Below w.heap.size w w' := specReceiverOk_is l n k w rfl
theorem specWordOk_any (l s : Int) (da : Option Addr) (dn dc : Nat) (ds : List Int) (w : World) (hr : WdIn w da dn ds) : Calls Try.prog 10 #[.agg #[.int .i64 l, .int .i64 s, .slice da dn dc]] w fun e w' => e = .returned (.bool (wdB l s dn)) ∧ Below w.heap.size w w' := specWordOk_is l s da dn dc w hr.r1.small rfl
theorem specAccept_any (rl n k l s : Int) (da : Option Addr) (dn dc : Nat) (ds : List Int) (w : World) (hr : WdIn w da dn ds) : Calls Try.prog 27 #[.agg #[.int .i64 rl, .int .i64 n, .int .i64 k], .agg #[.int .i64 l, .int .i64 s, .slice da dn dc]] w fun e w' => e = .returned (.tuple #[.agg #[.int .i64 rl, .int .i64 (acN rl n k l s dn), .int .i64 k], .bool (acB rl n k l s dn), .int .i64 (acM rl n k l s dn)]) ∧ Below w.heap.size w w' := specAccept_is rl n k l s da dn dc w hr.r1.small rfl rfl rfl

theorem implReceiverOk_any (l n k : Int) (w : World) : Calls Try.prog 26 #[.agg #[.int .i64 l, .int .i64 n, .int .i64 k]] w fun e w' => e = .returned (.bool (rvB l n k)) ∧ Below w.heap.size w w' := implReceiverOk_is l n k w rfl
theorem implWordOk_any (l s : Int) (da : Option Addr) (dn dc : Nat) (ds : List Int) (w : World) (hr : WdIn w da dn ds) : Calls Try.prog 12 #[.agg #[.int .i64 l, .int .i64 s, .slice da dn dc]] w fun e w' => e = .returned (.bool (wdB l s dn)) ∧ Below w.heap.size w w' := implWordOk_is l s da dn dc w hr.r1.small rfl
theorem implAccept_any (rl n k l s : Int) (da : Option Addr) (dn dc : Nat) (ds : List Int) (w : World) (hr : WdIn w da dn ds) : Calls Try.prog 28 #[.agg #[.int .i64 rl, .int .i64 n, .int .i64 k], .agg #[.int .i64 l, .int .i64 s, .slice da dn dc]] w fun e w' => e = .returned (.tuple #[.agg #[.int .i64 rl, .int .i64 (acN rl n k l s dn), .int .i64 k], .bool (acB rl n k l s dn), .int .i64 (acM rl n k l s dn)]) ∧ Below w.heap.size w w' := implAccept_is rl n k l s da dn dc w hr.r1.small rfl rfl rfl

end Go.Proofs.Ytnhcmokkankcmay
