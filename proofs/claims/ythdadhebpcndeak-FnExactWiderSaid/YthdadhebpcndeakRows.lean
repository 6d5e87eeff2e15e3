/-
  No cell of these rows narrows 'for every input' (looked for: loops, veiled, ifaces, maps, wideKeys, modest, calm, conditions, laid).
  DERIVED. THE GIVEN ROWS OF THIS SEAT. 6 by the template 'for every input the law returns true; each argument reads behind the call as it read before'; 0 by the template 'total and deterministic' (their statements: YthdadhebpcndeakTotals.lean).
  GIVEN WITH THE SEED: the statements are not yours to turn. If you find one false, say at which input.
  Laid BY PROGRAM, IN A SANDBOX (cutbox-rows.mjs): the forced cells as the released guide's own fill.sh prints them over the translation 7ecdf0c5163c394e… (all of the seat's roots in one cut). By AI agents, Wed Nov 11 2026. No macro, syntax, notation, axiom, sorry.
-/
import Derived.Test.YthdadhebpcndeakChecked
import GoSem.Claim
import GoSem.ClaimJoined
import GoSem.ClaimMapViews
import Derived.JoinedTies
import Derived.KernelRfl
namespace Go.Proofs.Ythdadhebpcndeak
/- THE CELL 'sum', in the pinned program and in every row, IS THE sha256 OF THE DUMP (.gsa) THAT YthdadhebpcndeakProg.lean LOADS. Nothing in Lean hashes anything: it is a label: what it is worth is what the hold of that sum in a sandbox is worth. -/
noncomputable def Try.pinned : Pinned := { name := "ythdadhebpcndeak", sum := "7ecdf0c5163c394e8e7e76dd45247c6dd633c77830835d2051551eba52fb8fd7", checked := Try.checked }
namespace Rows
def none {H : Type} : Left H := { results := [], args := [] }

/-- 'laws.FnExactRolls': WHATEVER THE INPUT: true; the input reads as it did. -/
def fnExactRollsSpec : ChangeSpec := { name := "fnExactRolls", fn := fun _ => fun
  | [d1, d2, d3] => { results := [.lit (.bool true)], args := [d1, d2, d3] }
  | _ => none }
def fnExactRollsRow : OpenClaim := { program := "ythdadhebpcndeak", sum := "7ecdf0c5163c394e8e7e76dd45247c6dd633c77830835d2051551eba52fb8fd7", func := "loop.example/g00063/laws.FnExactRolls", spec := "fnExactRolls", apart := false }
def FnExactRollsSaid : Prop := fnExactRollsRow.holds Try.pinned (OpenSpec.ofChange fnExactRollsSpec)

/-- ITS FALSE NEIGHBOUR: 'it returns false'. Refute it at one input. -/
def fnExactRollsWrong : ChangeSpec := { name := "fnExactRolls", fn := fun _ => fun
  | [d1, d2, d3] => { results := [.lit (.bool false)], args := [d1, d2, d3] }
  | _ => none }
def FnExactRollsWrongFalsely : Prop := fnExactRollsRow.holds Try.pinned (OpenSpec.ofChange fnExactRollsWrong)

/-- 'laws.FnExactStops': WHATEVER THE INPUT: true; the input reads as it did. -/
def fnExactStopsSpec : ChangeSpec := { name := "fnExactStops", fn := fun _ => fun
  | [d1, d2] => { results := [.lit (.bool true)], args := [d1, d2] }
  | _ => none }
def fnExactStopsRow : OpenClaim := { program := "ythdadhebpcndeak", sum := "7ecdf0c5163c394e8e7e76dd45247c6dd633c77830835d2051551eba52fb8fd7", func := "loop.example/g00063/laws.FnExactStops", spec := "fnExactStops", apart := false }
def FnExactStopsSaid : Prop := fnExactStopsRow.holds Try.pinned (OpenSpec.ofChange fnExactStopsSpec)

/-- ITS FALSE NEIGHBOUR: 'it returns false'. Refute it at one input. -/
def fnExactStopsWrong : ChangeSpec := { name := "fnExactStops", fn := fun _ => fun
  | [d1, d2] => { results := [.lit (.bool false)], args := [d1, d2] }
  | _ => none }
def FnExactStopsWrongFalsely : Prop := fnExactStopsRow.holds Try.pinned (OpenSpec.ofChange fnExactStopsWrong)

/-- 'laws.FnExactDecide': WHATEVER THE INPUT: true; the input reads as it did. -/
def fnExactDecideSpec : ChangeSpec := { name := "fnExactDecide", fn := fun _ => fun
  | [d1, d2, d3] => { results := [.lit (.bool true)], args := [d1, d2, d3] }
  | _ => none }
def fnExactDecideRow : OpenClaim := { program := "ythdadhebpcndeak", sum := "7ecdf0c5163c394e8e7e76dd45247c6dd633c77830835d2051551eba52fb8fd7", func := "loop.example/g00063/laws.FnExactDecide", spec := "fnExactDecide", apart := false }
def FnExactDecideSaid : Prop := fnExactDecideRow.holds Try.pinned (OpenSpec.ofChange fnExactDecideSpec)

/-- ITS FALSE NEIGHBOUR: 'it returns false'. Refute it at one input. -/
def fnExactDecideWrong : ChangeSpec := { name := "fnExactDecide", fn := fun _ => fun
  | [d1, d2, d3] => { results := [.lit (.bool false)], args := [d1, d2, d3] }
  | _ => none }
def FnExactDecideWrongFalsely : Prop := fnExactDecideRow.holds Try.pinned (OpenSpec.ofChange fnExactDecideWrong)

/-- 'laws.FnExactClimbs': WHATEVER THE INPUT: true; the input reads as it did. -/
def fnExactClimbsSpec : ChangeSpec := { name := "fnExactClimbs", fn := fun _ => fun
  | [d1, d2] => { results := [.lit (.bool true)], args := [d1, d2] }
  | _ => none }
def fnExactClimbsRow : OpenClaim := { program := "ythdadhebpcndeak", sum := "7ecdf0c5163c394e8e7e76dd45247c6dd633c77830835d2051551eba52fb8fd7", func := "loop.example/g00063/laws.FnExactClimbs", spec := "fnExactClimbs", apart := false }
def FnExactClimbsSaid : Prop := fnExactClimbsRow.holds Try.pinned (OpenSpec.ofChange fnExactClimbsSpec)

/-- ITS FALSE NEIGHBOUR: 'it returns false'. Refute it at one input. -/
def fnExactClimbsWrong : ChangeSpec := { name := "fnExactClimbs", fn := fun _ => fun
  | [d1, d2] => { results := [.lit (.bool false)], args := [d1, d2] }
  | _ => none }
def FnExactClimbsWrongFalsely : Prop := fnExactClimbsRow.holds Try.pinned (OpenSpec.ofChange fnExactClimbsWrong)

/-- 'laws.FnExactClears': WHATEVER THE INPUT: true; the input reads as it did. -/
def fnExactClearsSpec : ChangeSpec := { name := "fnExactClears", fn := fun _ => fun
  | [d1, d2, d3, d4] => { results := [.lit (.bool true)], args := [d1, d2, d3, d4] }
  | _ => none }
def fnExactClearsRow : OpenClaim := { program := "ythdadhebpcndeak", sum := "7ecdf0c5163c394e8e7e76dd45247c6dd633c77830835d2051551eba52fb8fd7", func := "loop.example/g00063/laws.FnExactClears", spec := "fnExactClears", apart := false }
def FnExactClearsSaid : Prop := fnExactClearsRow.holds Try.pinned (OpenSpec.ofChange fnExactClearsSpec)

/-- ITS FALSE NEIGHBOUR: 'it returns false'. Refute it at one input. -/
def fnExactClearsWrong : ChangeSpec := { name := "fnExactClears", fn := fun _ => fun
  | [d1, d2, d3, d4] => { results := [.lit (.bool false)], args := [d1, d2, d3, d4] }
  | _ => none }
def FnExactClearsWrongFalsely : Prop := fnExactClearsRow.holds Try.pinned (OpenSpec.ofChange fnExactClearsWrong)

/-- 'laws.FnExactWider': WHATEVER THE INPUT: true; the input reads as it did. -/
def fnExactWiderSpec : ChangeSpec := { name := "fnExactWider", fn := fun _ => fun
  | [d] => { results := [.lit (.bool true)], args := [d] }
  | _ => none }
def fnExactWiderRow : OpenClaim := { program := "ythdadhebpcndeak", sum := "7ecdf0c5163c394e8e7e76dd45247c6dd633c77830835d2051551eba52fb8fd7", func := "loop.example/g00063/laws.FnExactWider", spec := "fnExactWider", apart := false }
def FnExactWiderSaid : Prop := fnExactWiderRow.holds Try.pinned (OpenSpec.ofChange fnExactWiderSpec)

/-- ITS FALSE NEIGHBOUR: 'it returns false'. Refute it at one input. -/
def fnExactWiderWrong : ChangeSpec := { name := "fnExactWider", fn := fun _ => fun
  | [d] => { results := [.lit (.bool false)], args := [d] }
  | _ => none }
def FnExactWiderWrongFalsely : Prop := fnExactWiderRow.holds Try.pinned (OpenSpec.ofChange fnExactWiderWrong)

/- THE SECOND FORM. 'bulk': how many values and letters a reading holds, each counted each time it is reached (what is shared counts as often as it is met; a slice's spare places count too). A statement '..UptoSaid' is the law's where the arguments, and the package variables that the reading takes, are together of bulk at most 1048576: NARROWER than '..Said'. Prove '..Said' where nothing that the law and all that it calls make is longer than what came in: it says more and counts as full. Else prove '..UptoSaid'. A law counts once. -/
mutual
def uptoBulk {H : Type} : DataW H → Nat
  | .lit (.string bytes) => bytes.length + 1
  | .lit _ => 1
  | .nil => 1
  | .ptr d => uptoBulk d + 1
  | .slice elems spare => uptoBulkAll elems + uptoBulkAll spare + 1
  | .agg parts => uptoBulkAll parts + 1
  | .iface _ d => uptoBulk d + 1
  | .map entries => uptoBulkEntries entries + 1
  | .held _ => 1
def uptoBulkAll {H : Type} : List (DataW H) → Nat
  | [] => 0
  | d :: r => uptoBulk d + uptoBulkAll r
def uptoBulkEntries {H : Type} : List (Lit × DataW H) → Nat
  | [] => 0
  | x :: r => uptoBulkEntry x + uptoBulkEntries r
def uptoBulkEntry {H : Type} : Lit × DataW H → Nat
  | (.string bytes, d) => bytes.length + uptoBulk d + 1
  | (_, d) => uptoBulk d + 1
 end
def uptoSmall : (H : Type) → List (DataW H) → Bool := fun _ ds => decide (uptoBulkAll ds ≤ 1048576)
def OpenSpec.upto (s : _root_.Go.ChangeSpec) : _root_.Go.OpenSpec := { _root_.Go.OpenSpec.ofChange s with cond := some uptoSmall }

/-- 'laws.FnExactRolls', WHERE WHAT IT READS IS OF BULK AT MOST 1048576: true; the input reads as it did. -/
def fnExactRollsUptoRow : OpenClaim := { program := "ythdadhebpcndeak", sum := "7ecdf0c5163c394e8e7e76dd45247c6dd633c77830835d2051551eba52fb8fd7", func := "loop.example/g00063/laws.FnExactRolls", spec := "fnExactRolls", apart := false, narrowed := true }
def FnExactRollsUptoSaid : Prop := fnExactRollsUptoRow.holds Try.pinned (OpenSpec.upto fnExactRollsSpec)

/-- 'laws.FnExactStops', WHERE WHAT IT READS IS OF BULK AT MOST 1048576: true; the input reads as it did. -/
def fnExactStopsUptoRow : OpenClaim := { program := "ythdadhebpcndeak", sum := "7ecdf0c5163c394e8e7e76dd45247c6dd633c77830835d2051551eba52fb8fd7", func := "loop.example/g00063/laws.FnExactStops", spec := "fnExactStops", apart := false, narrowed := true }
def FnExactStopsUptoSaid : Prop := fnExactStopsUptoRow.holds Try.pinned (OpenSpec.upto fnExactStopsSpec)

/-- 'laws.FnExactDecide', WHERE WHAT IT READS IS OF BULK AT MOST 1048576: true; the input reads as it did. -/
def fnExactDecideUptoRow : OpenClaim := { program := "ythdadhebpcndeak", sum := "7ecdf0c5163c394e8e7e76dd45247c6dd633c77830835d2051551eba52fb8fd7", func := "loop.example/g00063/laws.FnExactDecide", spec := "fnExactDecide", apart := false, narrowed := true }
def FnExactDecideUptoSaid : Prop := fnExactDecideUptoRow.holds Try.pinned (OpenSpec.upto fnExactDecideSpec)

/-- 'laws.FnExactClimbs', WHERE WHAT IT READS IS OF BULK AT MOST 1048576: true; the input reads as it did. -/
def fnExactClimbsUptoRow : OpenClaim := { program := "ythdadhebpcndeak", sum := "7ecdf0c5163c394e8e7e76dd45247c6dd633c77830835d2051551eba52fb8fd7", func := "loop.example/g00063/laws.FnExactClimbs", spec := "fnExactClimbs", apart := false, narrowed := true }
def FnExactClimbsUptoSaid : Prop := fnExactClimbsUptoRow.holds Try.pinned (OpenSpec.upto fnExactClimbsSpec)

/-- 'laws.FnExactClears', WHERE WHAT IT READS IS OF BULK AT MOST 1048576: true; the input reads as it did. -/
def fnExactClearsUptoRow : OpenClaim := { program := "ythdadhebpcndeak", sum := "7ecdf0c5163c394e8e7e76dd45247c6dd633c77830835d2051551eba52fb8fd7", func := "loop.example/g00063/laws.FnExactClears", spec := "fnExactClears", apart := false, narrowed := true }
def FnExactClearsUptoSaid : Prop := fnExactClearsUptoRow.holds Try.pinned (OpenSpec.upto fnExactClearsSpec)

/-- 'laws.FnExactWider', WHERE WHAT IT READS IS OF BULK AT MOST 1048576: true; the input reads as it did. -/
def fnExactWiderUptoRow : OpenClaim := { program := "ythdadhebpcndeak", sum := "7ecdf0c5163c394e8e7e76dd45247c6dd633c77830835d2051551eba52fb8fd7", func := "loop.example/g00063/laws.FnExactWider", spec := "fnExactWider", apart := false, narrowed := true }
def FnExactWiderUptoSaid : Prop := fnExactWiderUptoRow.holds Try.pinned (OpenSpec.upto fnExactWiderSpec)

end Rows
end Go.Proofs.Ythdadhebpcndeak
