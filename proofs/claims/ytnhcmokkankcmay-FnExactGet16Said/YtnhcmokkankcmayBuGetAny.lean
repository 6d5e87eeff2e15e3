/-
  What Get16 answers, of both sides, at every list of bytes. No condition.
-/
import Derived.Test.YtnhcmokkankcmayBuGtI
import Derived.Test.YtnhcmokkankcmayWdTo
namespace Go.Proofs.Ytnhcmokkankcmay
open Go.RowKit

theorem specGet16_any (ad : Option Addr) (len cap : Nat) (zs : List Int) (w : World) (hr : RowE 1 byC w ad len zs) (hz : ∀ i, i < len → 0 ≤ elAt zs i ∧ elAt zs i ≤ 255) (hcap : len ≤ cap) : Calls Try.prog 20 #[.slice ad len cap] w fun e w' => ∃ p q, e = .returned (.tuple #[.agg #[.int .i64 (gtL zs), .int .i64 (gtS zs), .slice p (gtD zs).length q], .int .i64 (gtC zs)]) ∧ WdOwn w' w.heap.size p (gtD zs).length q (gtD zs) ∧ Below w.heap.size w w' :=
  (specGet16_row ad len cap zs w hr hz hcap).mono fun _ _ ⟨p, q, h1, h2, h3⟩ => ⟨p, q, h1, ⟨h2⟩, h3⟩

theorem implGet16_any (ad : Option Addr) (len cap : Nat) (zs : List Int) (w : World) (hr : RowE 1 byC w ad len zs) (hz : ∀ i, i < len → 0 ≤ elAt zs i ∧ elAt zs i ≤ 255) (hcap : len ≤ cap) : Calls Try.prog 22 #[.slice ad len cap] w fun e w' => ∃ p q, e = .returned (.tuple #[.agg #[.int .i64 (gtL zs), .int .i64 (gtS zs), .slice p (gtD zs).length q], .int .i64 (gtC zs)]) ∧ WdOwn w' w.heap.size p (gtD zs).length q (gtD zs) ∧ Below w.heap.size w w' :=
  (implGet16_row ad len cap zs w hr hz hcap).mono fun _ _ ⟨p, q, h1, h2, h3⟩ => ⟨p, q, h1, ⟨h2⟩, h3⟩

end Go.Proofs.Ytnhcmokkankcmay
