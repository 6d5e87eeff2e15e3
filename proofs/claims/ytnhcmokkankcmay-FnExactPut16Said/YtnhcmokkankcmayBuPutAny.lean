/-
  What Put16 answers, of both sides, at every word. No condition.
-/
import Derived.Test.YtnhcmokkankcmayBuPutI
import Derived.Test.YtnhcmokkankcmayWdTo
namespace Go.Proofs.Ytnhcmokkankcmay
open Go.RowKit

theorem ptL_len (l s : Int) (ds : List Int) : (ptL l s ds).length ≤ 36 := by
  unfold ptL
  split
  · rename_i h
    have := wdB_facts h
    simp [ptH]; omega
  · simp

theorem specPut16_any (l s : Int) (da : Option Addr) (dn dc : Nat) (ds : List Int) (w : World) (hr : WdIn w da dn ds) : Calls Try.prog 14 #[.agg #[.int .i64 l, .int .i64 s, .slice da dn dc]] w fun e w' => ∃ p q, e = .returned (.tuple #[.slice p (ptL l s ds).length q, .bool (wdB l s ds.length)]) ∧ OwnE 1 byC w' w.heap.size 5 (.slice p (ptL l s ds).length q) (ptL l s ds) ∧ Below w.heap.size w w' := specPut16_row l s da dn dc ds w hr.r1

theorem implPut16_any (l s : Int) (da : Option Addr) (dn dc : Nat) (ds : List Int) (w : World) (hr : WdIn w da dn ds) : Calls Try.prog 15 #[.agg #[.int .i64 l, .int .i64 s, .slice da dn dc]] w fun e w' => ∃ p q, e = .returned (.tuple #[.slice p (ptL l s ds).length q, .bool (wdB l s ds.length)]) ∧ OwnE 1 byC w' w.heap.size 5 (.slice p (ptL l s ds).length q) (ptL l s ds) ∧ Below w.heap.size w w' := implPut16_row l s da dn dc ds w hr.r1

end Go.Proofs.Ytnhcmokkankcmay
