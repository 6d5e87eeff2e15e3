/-
  What the functions of chapter 17 answer, of both sides, at every argument. No condition.
-/
import Derived.Test.YtndhiecakojjgazSqImpl
import Derived.Test.YtndhiecakojjgazShYes
import Derived.Test.YtndhiecakojjgazPpTo
namespace Go.Proofs.Ytndhiecakojjgaz
open Go.RowKit

theorem specPlanOk_any (fr pa : Int) (da : Option Addr) (dn dc : Nat) (ws : List Wn) (w : World) (hr : PpIn w da dn ws) : Calls Try.prog 16 #[.agg #[.int .i64 fr, .int .i64 pa, .slice da dn dc]] w fun e w' => e = .returned (.bool (ppB fr pa ws)) ∧ Below w.heap.size w w' := specPlanOk_is fr pa da dn dc ws w hr.r1 rfl
theorem specOwner_any (fr pa : Int) (da : Option Addr) (dn dc : Nat) (ws : List Wn) (t : Int) (w : World) (hr : PpIn w da dn ws) : Calls Try.prog 20 #[.agg #[.int .i64 fr, .int .i64 pa, .slice da dn dc], .int .i64 t] w fun e w' => e = .returned (.tuple #[.int .i64 (owR fr pa ws t), .bool (owB fr pa ws t)]) ∧ Below w.heap.size w w' := specOwner_is fr pa da dn dc ws t w hr.r1 rfl rfl
theorem implPlanOk_any (fr pa : Int) (da : Option Addr) (dn dc : Nat) (ws : List Wn) (w : World) (hr : PpIn w da dn ws) : Calls Try.prog 18 #[.agg #[.int .i64 fr, .int .i64 pa, .slice da dn dc]] w fun e w' => e = .returned (.bool (ppB fr pa ws)) ∧ Below w.heap.size w w' := implPlanOk_is fr pa da dn dc ws w hr.r1 rfl
theorem implOwner_any (fr pa : Int) (da : Option Addr) (dn dc : Nat) (ws : List Wn) (t : Int) (w : World) (hr : PpIn w da dn ws) : Calls Try.prog 21 #[.agg #[.int .i64 fr, .int .i64 pa, .slice da dn dc], .int .i64 t] w fun e w' => e = .returned (.tuple #[.int .i64 (owR fr pa ws t), .bool (owB fr pa ws t)]) ∧ Below w.heap.size w w' := implOwner_is fr pa da dn dc ws t w hr.r1 rfl rfl

theorem specShare_any (fr pa : Int) (da : Option Addr) (dn dc : Nat) (ws : List Wn) (p : Int) (w : World) (hr : PpIn w da dn ws) : Calls Try.prog 22 #[.agg #[.int .i64 fr, .int .i64 pa, .slice da dn dc], .int .i64 p] w fun e w' => e = .returned (.tuple #[.int .i64 (shR fr pa ws p), .int .i64 (shQ fr pa ws p), .bool (shB fr pa ws p)]) ∧ Below w.heap.size w w' := specShare_is fr pa da dn dc ws p w hr.r1 rfl rfl rfl
theorem implShare_any (fr pa : Int) (da : Option Addr) (dn dc : Nat) (ws : List Wn) (p : Int) (w : World) (hr : PpIn w da dn ws) : Calls Try.prog 23 #[.agg #[.int .i64 fr, .int .i64 pa, .slice da dn dc], .int .i64 p] w fun e w' => e = .returned (.tuple #[.int .i64 (shR fr pa ws p), .int .i64 (shQ fr pa ws p), .bool (shB fr pa ws p)]) ∧ Below w.heap.size w w' := implShare_is fr pa da dn dc ws p w hr.r1 rfl rfl rfl

end Go.Proofs.Ytndhiecakojjgaz
