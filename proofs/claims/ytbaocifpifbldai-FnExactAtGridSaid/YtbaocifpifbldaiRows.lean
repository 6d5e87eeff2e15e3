/-
  No cell of these rows narrows 'for every input' (looked for: loops, veiled, ifaces, maps, wideKeys, modest, calm, conditions, laid).
  DERIVED. THE GIVEN ROWS OF THIS SEAT. 6 by the template 'for every input the law returns true; each argument reads behind the call as it read before'; 0 by the template 'total and deterministic' (their statements: YtbaocifpifbldaiTotals.lean).
  GIVEN WITH THE SEED: the statements are not yours to turn. If you find one false, say at which input.
  Laid BY PROGRAM, IN A SANDBOX (cutbox-rows.mjs): the forced cells as the released guide's own fill.sh prints them over the translation 73aab5b112554a24… (all of the seat's roots in one cut). By AI agents, Wed Nov 11 2026. No macro, syntax, notation, axiom, sorry.
-/
import Derived.Test.YtbaocifpifbldaiChecked
import GoSem.Claim
import GoSem.ClaimJoined
import GoSem.ClaimMapViews
import Derived.JoinedTies
import Derived.KernelRfl
namespace Go.Proofs.Ytbaocifpifbldai
/- THE CELL 'sum', in the pinned program and in every row, IS THE sha256 OF THE DUMP (.gsa) THAT YtbaocifpifbldaiProg.lean LOADS. Nothing in Lean hashes anything: it is a label: what it is worth is what the hold of that sum in a sandbox is worth. -/
noncomputable def Try.pinned : Pinned := { name := "ytbaocifpifbldai", sum := "73aab5b112554a24124064d159c5b7509c5e19002e336ef13f99aba333e57990", checked := Try.checked }
namespace Rows
def none {H : Type} : Left H := { results := [], args := [] }

/-- 'laws.FnExactGridOk': WHATEVER THE INPUT: true; the input reads as it did. -/
def fnExactGridOkSpec : ChangeSpec := { name := "fnExactGridOk", fn := fun _ => fun
  | [d] => { results := [.lit (.bool true)], args := [d] }
  | _ => none }
def fnExactGridOkRow : OpenClaim := { program := "ytbaocifpifbldai", sum := "73aab5b112554a24124064d159c5b7509c5e19002e336ef13f99aba333e57990", func := "loop.example/g00063/laws.FnExactGridOk", spec := "fnExactGridOk", apart := false }
def FnExactGridOkSaid : Prop := fnExactGridOkRow.holds Try.pinned (OpenSpec.ofChange fnExactGridOkSpec)

/-- ITS FALSE NEIGHBOUR: 'it returns false'. Refute it at one input. -/
def fnExactGridOkWrong : ChangeSpec := { name := "fnExactGridOk", fn := fun _ => fun
  | [d] => { results := [.lit (.bool false)], args := [d] }
  | _ => none }
def FnExactGridOkWrongFalsely : Prop := fnExactGridOkRow.holds Try.pinned (OpenSpec.ofChange fnExactGridOkWrong)

/-- 'laws.FnExactAtGrid': WHATEVER THE INPUT: true; the input reads as it did. -/
def fnExactAtGridSpec : ChangeSpec := { name := "fnExactAtGrid", fn := fun _ => fun
  | [d1, d2, d3] => { results := [.lit (.bool true)], args := [d1, d2, d3] }
  | _ => none }
def fnExactAtGridRow : OpenClaim := { program := "ytbaocifpifbldai", sum := "73aab5b112554a24124064d159c5b7509c5e19002e336ef13f99aba333e57990", func := "loop.example/g00063/laws.FnExactAtGrid", spec := "fnExactAtGrid", apart := false }
def FnExactAtGridSaid : Prop := fnExactAtGridRow.holds Try.pinned (OpenSpec.ofChange fnExactAtGridSpec)

/-- ITS FALSE NEIGHBOUR: 'it returns false'. Refute it at one input. -/
def fnExactAtGridWrong : ChangeSpec := { name := "fnExactAtGrid", fn := fun _ => fun
  | [d1, d2, d3] => { results := [.lit (.bool false)], args := [d1, d2, d3] }
  | _ => none }
def FnExactAtGridWrongFalsely : Prop := fnExactAtGridRow.holds Try.pinned (OpenSpec.ofChange fnExactAtGridWrong)

/-- 'laws.FnExactAirOk': WHATEVER THE INPUT: true; the input reads as it did. -/
def fnExactAirOkSpec : ChangeSpec := { name := "fnExactAirOk", fn := fun _ => fun
  | [d] => { results := [.lit (.bool true)], args := [d] }
  | _ => none }
def fnExactAirOkRow : OpenClaim := { program := "ytbaocifpifbldai", sum := "73aab5b112554a24124064d159c5b7509c5e19002e336ef13f99aba333e57990", func := "loop.example/g00063/laws.FnExactAirOk", spec := "fnExactAirOk", apart := false }
def FnExactAirOkSaid : Prop := fnExactAirOkRow.holds Try.pinned (OpenSpec.ofChange fnExactAirOkSpec)

/-- ITS FALSE NEIGHBOUR: 'it returns false'. Refute it at one input. -/
def fnExactAirOkWrong : ChangeSpec := { name := "fnExactAirOk", fn := fun _ => fun
  | [d] => { results := [.lit (.bool false)], args := [d] }
  | _ => none }
def FnExactAirOkWrongFalsely : Prop := fnExactAirOkRow.holds Try.pinned (OpenSpec.ofChange fnExactAirOkWrong)

/-- 'laws.FnExactWarm': WHATEVER THE INPUT: true; the input reads as it did. -/
def fnExactWarmSpec : ChangeSpec := { name := "fnExactWarm", fn := fun _ => fun
  | [d1, d2] => { results := [.lit (.bool true)], args := [d1, d2] }
  | _ => none }
def fnExactWarmRow : OpenClaim := { program := "ytbaocifpifbldai", sum := "73aab5b112554a24124064d159c5b7509c5e19002e336ef13f99aba333e57990", func := "loop.example/g00063/laws.FnExactWarm", spec := "fnExactWarm", apart := false }
def FnExactWarmSaid : Prop := fnExactWarmRow.holds Try.pinned (OpenSpec.ofChange fnExactWarmSpec)

/-- ITS FALSE NEIGHBOUR: 'it returns false'. Refute it at one input. -/
def fnExactWarmWrong : ChangeSpec := { name := "fnExactWarm", fn := fun _ => fun
  | [d1, d2] => { results := [.lit (.bool false)], args := [d1, d2] }
  | _ => none }
def FnExactWarmWrongFalsely : Prop := fnExactWarmRow.holds Try.pinned (OpenSpec.ofChange fnExactWarmWrong)

/-- 'laws.FnExactColdest': WHATEVER THE INPUT: true; the input reads as it did. -/
def fnExactColdestSpec : ChangeSpec := { name := "fnExactColdest", fn := fun _ => fun
  | [d] => { results := [.lit (.bool true)], args := [d] }
  | _ => none }
def fnExactColdestRow : OpenClaim := { program := "ytbaocifpifbldai", sum := "73aab5b112554a24124064d159c5b7509c5e19002e336ef13f99aba333e57990", func := "loop.example/g00063/laws.FnExactColdest", spec := "fnExactColdest", apart := false }
def FnExactColdestSaid : Prop := fnExactColdestRow.holds Try.pinned (OpenSpec.ofChange fnExactColdestSpec)

/-- ITS FALSE NEIGHBOUR: 'it returns false'. Refute it at one input. -/
def fnExactColdestWrong : ChangeSpec := { name := "fnExactColdest", fn := fun _ => fun
  | [d] => { results := [.lit (.bool false)], args := [d] }
  | _ => none }
def FnExactColdestWrongFalsely : Prop := fnExactColdestRow.holds Try.pinned (OpenSpec.ofChange fnExactColdestWrong)

/-- 'laws.FnExactSumOf': WHATEVER THE INPUT: true; the input reads as it did. -/
def fnExactSumOfSpec : ChangeSpec := { name := "fnExactSumOf", fn := fun _ => fun
  | [d] => { results := [.lit (.bool true)], args := [d] }
  | _ => none }
def fnExactSumOfRow : OpenClaim := { program := "ytbaocifpifbldai", sum := "73aab5b112554a24124064d159c5b7509c5e19002e336ef13f99aba333e57990", func := "loop.example/g00063/laws.FnExactSumOf", spec := "fnExactSumOf", apart := false }
def FnExactSumOfSaid : Prop := fnExactSumOfRow.holds Try.pinned (OpenSpec.ofChange fnExactSumOfSpec)

/-- ITS FALSE NEIGHBOUR: 'it returns false'. Refute it at one input. -/
def fnExactSumOfWrong : ChangeSpec := { name := "fnExactSumOf", fn := fun _ => fun
  | [d] => { results := [.lit (.bool false)], args := [d] }
  | _ => none }
def FnExactSumOfWrongFalsely : Prop := fnExactSumOfRow.holds Try.pinned (OpenSpec.ofChange fnExactSumOfWrong)

/- THE SECOND FORM. 'bulk': how many values and letters a reading holds, each counted each time it is reached (what is shared counts as often as it is met; a slice's spare places count too). A statement '..UptoSaid' is the law's where the arguments, and the package variables that the reading takes, are together of bulk at most 1048576: NARROWER than '..Said'. Prove '..Said' where nothing that the law and all that it calls make is longer than what came in: it says more and counts as full. Else prove '..UptoSaid'. A law counts once. -/
mutual
def uptoBulk {H : Type} : DataW H → Nat
  | .lit (.string bytes) => bytes.length + 1
  | .lit _ => 1
  | .nil => 1
  | .ptr d => uptoBulk d + 1
  | .slice elems spare => uptoBulkAll elems + uptoBulkAll spare + 1
  | .agg parts => uptoBulkAll parts + 1
  | .iface _ d => uptoBulk d + 1
  | .map entries => uptoBulkEntries entries + 1
  | .held _ => 1
def uptoBulkAll {H : Type} : List (DataW H) → Nat
  | [] => 0
  | d :: r => uptoBulk d + uptoBulkAll r
def uptoBulkEntries {H : Type} : List (Lit × DataW H) → Nat
  | [] => 0
  | x :: r => uptoBulkEntry x + uptoBulkEntries r
def uptoBulkEntry {H : Type} : Lit × DataW H → Nat
  | (.string bytes, d) => bytes.length + uptoBulk d + 1
  | (_, d) => uptoBulk d + 1
 end
def uptoSmall : (H : Type) → List (DataW H) → Bool := fun _ ds => decide (uptoBulkAll ds ≤ 1048576)
def OpenSpec.upto (s : _root_.Go.ChangeSpec) : _root_.Go.OpenSpec := { _root_.Go.OpenSpec.ofChange s with cond := some uptoSmall }

/-- 'laws.FnExactGridOk', WHERE WHAT IT READS IS OF BULK AT MOST 1048576: true; the input reads as it did. -/
def fnExactGridOkUptoRow : OpenClaim := { program := "ytbaocifpifbldai", sum := "73aab5b112554a24124064d159c5b7509c5e19002e336ef13f99aba333e57990", func := "loop.example/g00063/laws.FnExactGridOk", spec := "fnExactGridOk", apart := false, narrowed := true }
def FnExactGridOkUptoSaid : Prop := fnExactGridOkUptoRow.holds Try.pinned (OpenSpec.upto fnExactGridOkSpec)

/-- 'laws.FnExactAtGrid', WHERE WHAT IT READS IS OF BULK AT MOST 1048576: true; the input reads as it did. -/
def fnExactAtGridUptoRow : OpenClaim := { program := "ytbaocifpifbldai", sum := "73aab5b112554a24124064d159c5b7509c5e19002e336ef13f99aba333e57990", func := "loop.example/g00063/laws.FnExactAtGrid", spec := "fnExactAtGrid", apart := false, narrowed := true }
def FnExactAtGridUptoSaid : Prop := fnExactAtGridUptoRow.holds Try.pinned (OpenSpec.upto fnExactAtGridSpec)

/-- 'laws.FnExactAirOk', WHERE WHAT IT READS IS OF BULK AT MOST 1048576: true; the input reads as it did. -/
def fnExactAirOkUptoRow : OpenClaim := { program := "ytbaocifpifbldai", sum := "73aab5b112554a24124064d159c5b7509c5e19002e336ef13f99aba333e57990", func := "loop.example/g00063/laws.FnExactAirOk", spec := "fnExactAirOk", apart := false, narrowed := true }
def FnExactAirOkUptoSaid : Prop := fnExactAirOkUptoRow.holds Try.pinned (OpenSpec.upto fnExactAirOkSpec)

/-- 'laws.FnExactWarm', WHERE WHAT IT READS IS OF BULK AT MOST 1048576: true; the input reads as it did. -/
def fnExactWarmUptoRow : OpenClaim := { program := "ytbaocifpifbldai", sum := "73aab5b112554a24124064d159c5b7509c5e19002e336ef13f99aba333e57990", func := "loop.example/g00063/laws.FnExactWarm", spec := "fnExactWarm", apart := false, narrowed := true }
def FnExactWarmUptoSaid : Prop := fnExactWarmUptoRow.holds Try.pinned (OpenSpec.upto fnExactWarmSpec)

/-- 'laws.FnExactColdest', WHERE WHAT IT READS IS OF BULK AT MOST 1048576: true; the input reads as it did. -/
def fnExactColdestUptoRow : OpenClaim := { program := "ytbaocifpifbldai", sum := "73aab5b112554a24124064d159c5b7509c5e19002e336ef13f99aba333e57990", func := "loop.example/g00063/laws.FnExactColdest", spec := "fnExactColdest", apart := false, narrowed := true }
def FnExactColdestUptoSaid : Prop := fnExactColdestUptoRow.holds Try.pinned (OpenSpec.upto fnExactColdestSpec)

/-- 'laws.FnExactSumOf', WHERE WHAT IT READS IS OF BULK AT MOST 1048576: true; the input reads as it did. -/
def fnExactSumOfUptoRow : OpenClaim := { program := "ytbaocifpifbldai", sum := "73aab5b112554a24124064d159c5b7509c5e19002e336ef13f99aba333e57990", func := "loop.example/g00063/laws.FnExactSumOf", spec := "fnExactSumOf", apart := false, narrowed := true }
def FnExactSumOfUptoSaid : Prop := fnExactSumOfUptoRow.holds Try.pinned (OpenSpec.upto fnExactSumOfSpec)

end Rows
end Go.Proofs.Ytbaocifpifbldai
