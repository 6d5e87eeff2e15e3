/-
  No cell of these rows narrows 'for every input' (looked for: loops, veiled, ifaces, maps, wideKeys, modest, calm, conditions, laid).
  DERIVED. THE GIVEN ROWS OF THIS SEAT. 6 by the template 'for every input the law returns true; each argument reads behind the call as it read before'; 0 by the template 'total and deterministic' (their statements: YtbaocifpifbldajTotals.lean).
  GIVEN WITH THE SEED: the statements are not yours to turn. If you find one false, say at which input.
  Laid BY PROGRAM, IN A SANDBOX (cutbox-rows.mjs): the forced cells as the released guide's own fill.sh prints them over the translation 786231c796d181a7… (all of the seat's roots in one cut). By AI agents, Wed Nov 11 2026. No macro, syntax, notation, axiom, sorry.
-/
import Derived.Test.YtbaocifpifbldajChecked
import GoSem.Claim
import GoSem.ClaimJoined
import GoSem.ClaimMapViews
import Derived.JoinedTies
import Derived.KernelRfl
namespace Go.Proofs.Ytbaocifpifbldaj
/- THE CELL 'sum', in the pinned program and in every row, IS THE sha256 OF THE DUMP (.gsa) THAT YtbaocifpifbldajProg.lean LOADS. Nothing in Lean hashes anything: it is a label: what it is worth is what the hold of that sum in a sandbox is worth. -/
noncomputable def Try.pinned : Pinned := { name := "ytbaocifpifbldaj", sum := "786231c796d181a78034fdcd0b40b84cb6bdc7b006eb6fe3da7354de8ddd493f", checked := Try.checked }
namespace Rows
def none {H : Type} : Left H := { results := [], args := [] }

/-- 'laws.FnExactEnvelopeOk': WHATEVER THE INPUT: true; the input reads as it did. -/
def fnExactEnvelopeOkSpec : ChangeSpec := { name := "fnExactEnvelopeOk", fn := fun _ => fun
  | [d] => { results := [.lit (.bool true)], args := [d] }
  | _ => none }
def fnExactEnvelopeOkRow : OpenClaim := { program := "ytbaocifpifbldaj", sum := "786231c796d181a78034fdcd0b40b84cb6bdc7b006eb6fe3da7354de8ddd493f", func := "loop.example/g00063/laws.FnExactEnvelopeOk", spec := "fnExactEnvelopeOk", apart := false }
def FnExactEnvelopeOkSaid : Prop := fnExactEnvelopeOkRow.holds Try.pinned (OpenSpec.ofChange fnExactEnvelopeOkSpec)

/-- ITS FALSE NEIGHBOUR: 'it returns false'. Refute it at one input. -/
def fnExactEnvelopeOkWrong : ChangeSpec := { name := "fnExactEnvelopeOk", fn := fun _ => fun
  | [d] => { results := [.lit (.bool false)], args := [d] }
  | _ => none }
def FnExactEnvelopeOkWrongFalsely : Prop := fnExactEnvelopeOkRow.holds Try.pinned (OpenSpec.ofChange fnExactEnvelopeOkWrong)

/-- 'laws.FnExactInside': WHATEVER THE INPUT: true; the input reads as it did. -/
def fnExactInsideSpec : ChangeSpec := { name := "fnExactInside", fn := fun _ => fun
  | [d1, d2] => { results := [.lit (.bool true)], args := [d1, d2] }
  | _ => none }
def fnExactInsideRow : OpenClaim := { program := "ytbaocifpifbldaj", sum := "786231c796d181a78034fdcd0b40b84cb6bdc7b006eb6fe3da7354de8ddd493f", func := "loop.example/g00063/laws.FnExactInside", spec := "fnExactInside", apart := false }
def FnExactInsideSaid : Prop := fnExactInsideRow.holds Try.pinned (OpenSpec.ofChange fnExactInsideSpec)

/-- ITS FALSE NEIGHBOUR: 'it returns false'. Refute it at one input. -/
def fnExactInsideWrong : ChangeSpec := { name := "fnExactInside", fn := fun _ => fun
  | [d1, d2] => { results := [.lit (.bool false)], args := [d1, d2] }
  | _ => none }
def FnExactInsideWrongFalsely : Prop := fnExactInsideRow.holds Try.pinned (OpenSpec.ofChange fnExactInsideWrong)

/-- 'laws.FnExactBurnt': WHATEVER THE INPUT: true; the input reads as it did. -/
def fnExactBurntSpec : ChangeSpec := { name := "fnExactBurnt", fn := fun _ => fun
  | [d1, d2] => { results := [.lit (.bool true)], args := [d1, d2] }
  | _ => none }
def fnExactBurntRow : OpenClaim := { program := "ytbaocifpifbldaj", sum := "786231c796d181a78034fdcd0b40b84cb6bdc7b006eb6fe3da7354de8ddd493f", func := "loop.example/g00063/laws.FnExactBurnt", spec := "fnExactBurnt", apart := false }
def FnExactBurntSaid : Prop := fnExactBurntRow.holds Try.pinned (OpenSpec.ofChange fnExactBurntSpec)

/-- ITS FALSE NEIGHBOUR: 'it returns false'. Refute it at one input. -/
def fnExactBurntWrong : ChangeSpec := { name := "fnExactBurnt", fn := fun _ => fun
  | [d1, d2] => { results := [.lit (.bool false)], args := [d1, d2] }
  | _ => none }
def FnExactBurntWrongFalsely : Prop := fnExactBurntRow.holds Try.pinned (OpenSpec.ofChange fnExactBurntWrong)

/-- 'laws.FnExactLeaves': WHATEVER THE INPUT: true; the input reads as it did. -/
def fnExactLeavesSpec : ChangeSpec := { name := "fnExactLeaves", fn := fun _ => fun
  | [d1, d2, d3, d4] => { results := [.lit (.bool true)], args := [d1, d2, d3, d4] }
  | _ => none }
def fnExactLeavesRow : OpenClaim := { program := "ytbaocifpifbldaj", sum := "786231c796d181a78034fdcd0b40b84cb6bdc7b006eb6fe3da7354de8ddd493f", func := "loop.example/g00063/laws.FnExactLeaves", spec := "fnExactLeaves", apart := false }
def FnExactLeavesSaid : Prop := fnExactLeavesRow.holds Try.pinned (OpenSpec.ofChange fnExactLeavesSpec)

/-- ITS FALSE NEIGHBOUR: 'it returns false'. Refute it at one input. -/
def fnExactLeavesWrong : ChangeSpec := { name := "fnExactLeaves", fn := fun _ => fun
  | [d1, d2, d3, d4] => { results := [.lit (.bool false)], args := [d1, d2, d3, d4] }
  | _ => none }
def FnExactLeavesWrongFalsely : Prop := fnExactLeavesRow.holds Try.pinned (OpenSpec.ofChange fnExactLeavesWrong)

/-- 'laws.FnExactOrder': WHATEVER THE INPUT: true; the input reads as it did. -/
def fnExactOrderSpec : ChangeSpec := { name := "fnExactOrder", fn := fun _ => fun
  | [d1, d2, d3, d4] => { results := [.lit (.bool true)], args := [d1, d2, d3, d4] }
  | _ => none }
def fnExactOrderRow : OpenClaim := { program := "ytbaocifpifbldaj", sum := "786231c796d181a78034fdcd0b40b84cb6bdc7b006eb6fe3da7354de8ddd493f", func := "loop.example/g00063/laws.FnExactOrder", spec := "fnExactOrder", apart := false }
def FnExactOrderSaid : Prop := fnExactOrderRow.holds Try.pinned (OpenSpec.ofChange fnExactOrderSpec)

/-- ITS FALSE NEIGHBOUR: 'it returns false'. Refute it at one input. -/
def fnExactOrderWrong : ChangeSpec := { name := "fnExactOrder", fn := fun _ => fun
  | [d1, d2, d3, d4] => { results := [.lit (.bool false)], args := [d1, d2, d3, d4] }
  | _ => none }
def FnExactOrderWrongFalsely : Prop := fnExactOrderRow.holds Try.pinned (OpenSpec.ofChange fnExactOrderWrong)

/-- 'laws.FnExactRunnerOk': WHATEVER THE INPUT: true; the input reads as it did. -/
def fnExactRunnerOkSpec : ChangeSpec := { name := "fnExactRunnerOk", fn := fun _ => fun
  | [d] => { results := [.lit (.bool true)], args := [d] }
  | _ => none }
def fnExactRunnerOkRow : OpenClaim := { program := "ytbaocifpifbldaj", sum := "786231c796d181a78034fdcd0b40b84cb6bdc7b006eb6fe3da7354de8ddd493f", func := "loop.example/g00063/laws.FnExactRunnerOk", spec := "fnExactRunnerOk", apart := false }
def FnExactRunnerOkSaid : Prop := fnExactRunnerOkRow.holds Try.pinned (OpenSpec.ofChange fnExactRunnerOkSpec)

/-- ITS FALSE NEIGHBOUR: 'it returns false'. Refute it at one input. -/
def fnExactRunnerOkWrong : ChangeSpec := { name := "fnExactRunnerOk", fn := fun _ => fun
  | [d] => { results := [.lit (.bool false)], args := [d] }
  | _ => none }
def FnExactRunnerOkWrongFalsely : Prop := fnExactRunnerOkRow.holds Try.pinned (OpenSpec.ofChange fnExactRunnerOkWrong)

/- THE SECOND FORM. 'bulk': how many values and letters a reading holds, each counted each time it is reached (what is shared counts as often as it is met; a slice's spare places count too). A statement '..UptoSaid' is the law's where the arguments, and the package variables that the reading takes, are together of bulk at most 1048576: NARROWER than '..Said'. Prove '..Said' where nothing that the law and all that it calls make is longer than what came in: it says more and counts as full. Else prove '..UptoSaid'. A law counts once. -/
mutual
def uptoBulk {H : Type} : DataW H → Nat
  | .lit (.string bytes) => bytes.length + 1
  | .lit _ => 1
  | .nil => 1
  | .ptr d => uptoBulk d + 1
  | .slice elems spare => uptoBulkAll elems + uptoBulkAll spare + 1
  | .agg parts => uptoBulkAll parts + 1
  | .iface _ d => uptoBulk d + 1
  | .map entries => uptoBulkEntries entries + 1
  | .held _ => 1
def uptoBulkAll {H : Type} : List (DataW H) → Nat
  | [] => 0
  | d :: r => uptoBulk d + uptoBulkAll r
def uptoBulkEntries {H : Type} : List (Lit × DataW H) → Nat
  | [] => 0
  | x :: r => uptoBulkEntry x + uptoBulkEntries r
def uptoBulkEntry {H : Type} : Lit × DataW H → Nat
  | (.string bytes, d) => bytes.length + uptoBulk d + 1
  | (_, d) => uptoBulk d + 1
 end
def uptoSmall : (H : Type) → List (DataW H) → Bool := fun _ ds => decide (uptoBulkAll ds ≤ 1048576)
def OpenSpec.upto (s : _root_.Go.ChangeSpec) : _root_.Go.OpenSpec := { _root_.Go.OpenSpec.ofChange s with cond := some uptoSmall }

/-- 'laws.FnExactEnvelopeOk', WHERE WHAT IT READS IS OF BULK AT MOST 1048576: true; the input reads as it did. -/
def fnExactEnvelopeOkUptoRow : OpenClaim := { program := "ytbaocifpifbldaj", sum := "786231c796d181a78034fdcd0b40b84cb6bdc7b006eb6fe3da7354de8ddd493f", func := "loop.example/g00063/laws.FnExactEnvelopeOk", spec := "fnExactEnvelopeOk", apart := false, narrowed := true }
def FnExactEnvelopeOkUptoSaid : Prop := fnExactEnvelopeOkUptoRow.holds Try.pinned (OpenSpec.upto fnExactEnvelopeOkSpec)

/-- 'laws.FnExactInside', WHERE WHAT IT READS IS OF BULK AT MOST 1048576: true; the input reads as it did. -/
def fnExactInsideUptoRow : OpenClaim := { program := "ytbaocifpifbldaj", sum := "786231c796d181a78034fdcd0b40b84cb6bdc7b006eb6fe3da7354de8ddd493f", func := "loop.example/g00063/laws.FnExactInside", spec := "fnExactInside", apart := false, narrowed := true }
def FnExactInsideUptoSaid : Prop := fnExactInsideUptoRow.holds Try.pinned (OpenSpec.upto fnExactInsideSpec)

/-- 'laws.FnExactBurnt', WHERE WHAT IT READS IS OF BULK AT MOST 1048576: true; the input reads as it did. -/
def fnExactBurntUptoRow : OpenClaim := { program := "ytbaocifpifbldaj", sum := "786231c796d181a78034fdcd0b40b84cb6bdc7b006eb6fe3da7354de8ddd493f", func := "loop.example/g00063/laws.FnExactBurnt", spec := "fnExactBurnt", apart := false, narrowed := true }
def FnExactBurntUptoSaid : Prop := fnExactBurntUptoRow.holds Try.pinned (OpenSpec.upto fnExactBurntSpec)

/-- 'laws.FnExactLeaves', WHERE WHAT IT READS IS OF BULK AT MOST 1048576: true; the input reads as it did. -/
def fnExactLeavesUptoRow : OpenClaim := { program := "ytbaocifpifbldaj", sum := "786231c796d181a78034fdcd0b40b84cb6bdc7b006eb6fe3da7354de8ddd493f", func := "loop.example/g00063/laws.FnExactLeaves", spec := "fnExactLeaves", apart := false, narrowed := true }
def FnExactLeavesUptoSaid : Prop := fnExactLeavesUptoRow.holds Try.pinned (OpenSpec.upto fnExactLeavesSpec)

/-- 'laws.FnExactOrder', WHERE WHAT IT READS IS OF BULK AT MOST 1048576: true; the input reads as it did. -/
def fnExactOrderUptoRow : OpenClaim := { program := "ytbaocifpifbldaj", sum := "786231c796d181a78034fdcd0b40b84cb6bdc7b006eb6fe3da7354de8ddd493f", func := "loop.example/g00063/laws.FnExactOrder", spec := "fnExactOrder", apart := false, narrowed := true }
def FnExactOrderUptoSaid : Prop := fnExactOrderUptoRow.holds Try.pinned (OpenSpec.upto fnExactOrderSpec)

/-- 'laws.FnExactRunnerOk', WHERE WHAT IT READS IS OF BULK AT MOST 1048576: true; the input reads as it did. -/
def fnExactRunnerOkUptoRow : OpenClaim := { program := "ytbaocifpifbldaj", sum := "786231c796d181a78034fdcd0b40b84cb6bdc7b006eb6fe3da7354de8ddd493f", func := "loop.example/g00063/laws.FnExactRunnerOk", spec := "fnExactRunnerOk", apart := false, narrowed := true }
def FnExactRunnerOkUptoSaid : Prop := fnExactRunnerOkUptoRow.holds Try.pinned (OpenSpec.upto fnExactRunnerOkSpec)

end Rows
end Go.Proofs.Ytbaocifpifbldaj
