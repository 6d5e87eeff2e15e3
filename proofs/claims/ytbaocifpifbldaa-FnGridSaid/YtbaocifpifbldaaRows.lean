/-
  No cell of these rows narrows 'for every input' (looked for: loops, veiled, ifaces, maps, wideKeys, modest, calm, conditions, laid).
  DERIVED. THE GIVEN ROWS OF THIS SEAT. 6 by the template 'for every input the law returns true; each argument reads behind the call as it read before'; 0 by the template 'total and deterministic' (their statements: YtbaocifpifbldaaTotals.lean).
  GIVEN WITH THE SEED: the statements are not yours to turn. If you find one false, say at which input.
  Laid BY PROGRAM, IN A SANDBOX (cutbox-rows.mjs): the forced cells as the released guide's own fill.sh prints them over the translation b4778de49825e1ac… (all of the seat's roots in one cut). By AI agents, Wed Nov 11 2026. No macro, syntax, notation, axiom, sorry.
-/
import Derived.Test.YtbaocifpifbldaaChecked
import GoSem.Claim
import GoSem.ClaimJoined
import GoSem.ClaimMapViews
import Derived.JoinedTies
import Derived.KernelRfl
namespace Go.Proofs.Ytbaocifpifbldaa
/- THE CELL 'sum', in the pinned program and in every row, IS THE sha256 OF THE DUMP (.gsa) THAT YtbaocifpifbldaaProg.lean LOADS. Nothing in Lean hashes anything: it is a label: what it is worth is what the hold of that sum in a sandbox is worth. -/
noncomputable def Try.pinned : Pinned := { name := "ytbaocifpifbldaa", sum := "b4778de49825e1ac2bd6f80122e72310a1255f8cf997c650c5ee0627a5120582", checked := Try.checked }
namespace Rows
def none {H : Type} : Left H := { results := [], args := [] }

/-- 'laws.FnTables': WHATEVER THE INPUT: true; the input reads as it did. -/
def fnTablesSpec : ChangeSpec := { name := "fnTables", fn := fun _ => fun
  | [d] => { results := [.lit (.bool true)], args := [d] }
  | _ => none }
def fnTablesRow : OpenClaim := { program := "ytbaocifpifbldaa", sum := "b4778de49825e1ac2bd6f80122e72310a1255f8cf997c650c5ee0627a5120582", func := "loop.example/g00063/laws.FnTables", spec := "fnTables", apart := false }
def FnTablesSaid : Prop := fnTablesRow.holds Try.pinned (OpenSpec.ofChange fnTablesSpec)

/-- ITS FALSE NEIGHBOUR: 'it returns false'. Refute it at one input. -/
def fnTablesWrong : ChangeSpec := { name := "fnTables", fn := fun _ => fun
  | [d] => { results := [.lit (.bool false)], args := [d] }
  | _ => none }
def FnTablesWrongFalsely : Prop := fnTablesRow.holds Try.pinned (OpenSpec.ofChange fnTablesWrong)

/-- 'laws.FnGrid': WHATEVER THE INPUT: true; the input reads as it did. -/
def fnGridSpec : ChangeSpec := { name := "fnGrid", fn := fun _ => fun
  | [d] => { results := [.lit (.bool true)], args := [d] }
  | _ => none }
def fnGridRow : OpenClaim := { program := "ytbaocifpifbldaa", sum := "b4778de49825e1ac2bd6f80122e72310a1255f8cf997c650c5ee0627a5120582", func := "loop.example/g00063/laws.FnGrid", spec := "fnGrid", apart := false }
def FnGridSaid : Prop := fnGridRow.holds Try.pinned (OpenSpec.ofChange fnGridSpec)

/-- ITS FALSE NEIGHBOUR: 'it returns false'. Refute it at one input. -/
def fnGridWrong : ChangeSpec := { name := "fnGrid", fn := fun _ => fun
  | [d] => { results := [.lit (.bool false)], args := [d] }
  | _ => none }
def FnGridWrongFalsely : Prop := fnGridRow.holds Try.pinned (OpenSpec.ofChange fnGridWrong)

/-- 'laws.FnAir': WHATEVER THE INPUT: true; the input reads as it did. -/
def fnAirSpec : ChangeSpec := { name := "fnAir", fn := fun _ => fun
  | [d] => { results := [.lit (.bool true)], args := [d] }
  | _ => none }
def fnAirRow : OpenClaim := { program := "ytbaocifpifbldaa", sum := "b4778de49825e1ac2bd6f80122e72310a1255f8cf997c650c5ee0627a5120582", func := "loop.example/g00063/laws.FnAir", spec := "fnAir", apart := false }
def FnAirSaid : Prop := fnAirRow.holds Try.pinned (OpenSpec.ofChange fnAirSpec)

/-- ITS FALSE NEIGHBOUR: 'it returns false'. Refute it at one input. -/
def fnAirWrong : ChangeSpec := { name := "fnAir", fn := fun _ => fun
  | [d] => { results := [.lit (.bool false)], args := [d] }
  | _ => none }
def FnAirWrongFalsely : Prop := fnAirRow.holds Try.pinned (OpenSpec.ofChange fnAirWrong)

/-- 'laws.FnMoments': WHATEVER THE INPUT: true; the input reads as it did. -/
def fnMomentsSpec : ChangeSpec := { name := "fnMoments", fn := fun _ => fun
  | [d] => { results := [.lit (.bool true)], args := [d] }
  | _ => none }
def fnMomentsRow : OpenClaim := { program := "ytbaocifpifbldaa", sum := "b4778de49825e1ac2bd6f80122e72310a1255f8cf997c650c5ee0627a5120582", func := "loop.example/g00063/laws.FnMoments", spec := "fnMoments", apart := false }
def FnMomentsSaid : Prop := fnMomentsRow.holds Try.pinned (OpenSpec.ofChange fnMomentsSpec)

/-- ITS FALSE NEIGHBOUR: 'it returns false'. Refute it at one input. -/
def fnMomentsWrong : ChangeSpec := { name := "fnMoments", fn := fun _ => fun
  | [d] => { results := [.lit (.bool false)], args := [d] }
  | _ => none }
def FnMomentsWrongFalsely : Prop := fnMomentsRow.holds Try.pinned (OpenSpec.ofChange fnMomentsWrong)

/-- 'laws.FnBurnt': WHATEVER THE INPUT: true; the input reads as it did. -/
def fnBurntSpec : ChangeSpec := { name := "fnBurnt", fn := fun _ => fun
  | [d] => { results := [.lit (.bool true)], args := [d] }
  | _ => none }
def fnBurntRow : OpenClaim := { program := "ytbaocifpifbldaa", sum := "b4778de49825e1ac2bd6f80122e72310a1255f8cf997c650c5ee0627a5120582", func := "loop.example/g00063/laws.FnBurnt", spec := "fnBurnt", apart := false }
def FnBurntSaid : Prop := fnBurntRow.holds Try.pinned (OpenSpec.ofChange fnBurntSpec)

/-- ITS FALSE NEIGHBOUR: 'it returns false'. Refute it at one input. -/
def fnBurntWrong : ChangeSpec := { name := "fnBurnt", fn := fun _ => fun
  | [d] => { results := [.lit (.bool false)], args := [d] }
  | _ => none }
def FnBurntWrongFalsely : Prop := fnBurntRow.holds Try.pinned (OpenSpec.ofChange fnBurntWrong)

/-- 'laws.FnRolls': WHATEVER THE INPUT: true; the input reads as it did. -/
def fnRollsSpec : ChangeSpec := { name := "fnRolls", fn := fun _ => fun
  | [d] => { results := [.lit (.bool true)], args := [d] }
  | _ => none }
def fnRollsRow : OpenClaim := { program := "ytbaocifpifbldaa", sum := "b4778de49825e1ac2bd6f80122e72310a1255f8cf997c650c5ee0627a5120582", func := "loop.example/g00063/laws.FnRolls", spec := "fnRolls", apart := false }
def FnRollsSaid : Prop := fnRollsRow.holds Try.pinned (OpenSpec.ofChange fnRollsSpec)

/-- ITS FALSE NEIGHBOUR: 'it returns false'. Refute it at one input. -/
def fnRollsWrong : ChangeSpec := { name := "fnRolls", fn := fun _ => fun
  | [d] => { results := [.lit (.bool false)], args := [d] }
  | _ => none }
def FnRollsWrongFalsely : Prop := fnRollsRow.holds Try.pinned (OpenSpec.ofChange fnRollsWrong)

/- THE SECOND FORM. 'bulk': how many values and letters a reading holds, each counted each time it is reached (what is shared counts as often as it is met; a slice's spare places count too). A statement '..UptoSaid' is the law's where the arguments, and the package variables that the reading takes, are together of bulk at most 1048576: NARROWER than '..Said'. Prove '..Said' where nothing that the law and all that it calls make is longer than what came in: it says more and counts as full. Else prove '..UptoSaid'. A law counts once. -/
mutual
def uptoBulk {H : Type} : DataW H → Nat
  | .lit (.string bytes) => bytes.length + 1
  | .lit _ => 1
  | .nil => 1
  | .ptr d => uptoBulk d + 1
  | .slice elems spare => uptoBulkAll elems + uptoBulkAll spare + 1
  | .agg parts => uptoBulkAll parts + 1
  | .iface _ d => uptoBulk d + 1
  | .map entries => uptoBulkEntries entries + 1
  | .held _ => 1
def uptoBulkAll {H : Type} : List (DataW H) → Nat
  | [] => 0
  | d :: r => uptoBulk d + uptoBulkAll r
def uptoBulkEntries {H : Type} : List (Lit × DataW H) → Nat
  | [] => 0
  | x :: r => uptoBulkEntry x + uptoBulkEntries r
def uptoBulkEntry {H : Type} : Lit × DataW H → Nat
  | (.string bytes, d) => bytes.length + uptoBulk d + 1
  | (_, d) => uptoBulk d + 1
 end
def uptoSmall : (H : Type) → List (DataW H) → Bool := fun _ ds => decide (uptoBulkAll ds ≤ 1048576)
def OpenSpec.upto (s : _root_.Go.ChangeSpec) : _root_.Go.OpenSpec := { _root_.Go.OpenSpec.ofChange s with cond := some uptoSmall }

/-- 'laws.FnTables', WHERE WHAT IT READS IS OF BULK AT MOST 1048576: true; the input reads as it did. -/
def fnTablesUptoRow : OpenClaim := { program := "ytbaocifpifbldaa", sum := "b4778de49825e1ac2bd6f80122e72310a1255f8cf997c650c5ee0627a5120582", func := "loop.example/g00063/laws.FnTables", spec := "fnTables", apart := false, narrowed := true }
def FnTablesUptoSaid : Prop := fnTablesUptoRow.holds Try.pinned (OpenSpec.upto fnTablesSpec)

/-- 'laws.FnGrid', WHERE WHAT IT READS IS OF BULK AT MOST 1048576: true; the input reads as it did. -/
def fnGridUptoRow : OpenClaim := { program := "ytbaocifpifbldaa", sum := "b4778de49825e1ac2bd6f80122e72310a1255f8cf997c650c5ee0627a5120582", func := "loop.example/g00063/laws.FnGrid", spec := "fnGrid", apart := false, narrowed := true }
def FnGridUptoSaid : Prop := fnGridUptoRow.holds Try.pinned (OpenSpec.upto fnGridSpec)

/-- 'laws.FnAir', WHERE WHAT IT READS IS OF BULK AT MOST 1048576: true; the input reads as it did. -/
def fnAirUptoRow : OpenClaim := { program := "ytbaocifpifbldaa", sum := "b4778de49825e1ac2bd6f80122e72310a1255f8cf997c650c5ee0627a5120582", func := "loop.example/g00063/laws.FnAir", spec := "fnAir", apart := false, narrowed := true }
def FnAirUptoSaid : Prop := fnAirUptoRow.holds Try.pinned (OpenSpec.upto fnAirSpec)

/-- 'laws.FnMoments', WHERE WHAT IT READS IS OF BULK AT MOST 1048576: true; the input reads as it did. -/
def fnMomentsUptoRow : OpenClaim := { program := "ytbaocifpifbldaa", sum := "b4778de49825e1ac2bd6f80122e72310a1255f8cf997c650c5ee0627a5120582", func := "loop.example/g00063/laws.FnMoments", spec := "fnMoments", apart := false, narrowed := true }
def FnMomentsUptoSaid : Prop := fnMomentsUptoRow.holds Try.pinned (OpenSpec.upto fnMomentsSpec)

/-- 'laws.FnBurnt', WHERE WHAT IT READS IS OF BULK AT MOST 1048576: true; the input reads as it did. -/
def fnBurntUptoRow : OpenClaim := { program := "ytbaocifpifbldaa", sum := "b4778de49825e1ac2bd6f80122e72310a1255f8cf997c650c5ee0627a5120582", func := "loop.example/g00063/laws.FnBurnt", spec := "fnBurnt", apart := false, narrowed := true }
def FnBurntUptoSaid : Prop := fnBurntUptoRow.holds Try.pinned (OpenSpec.upto fnBurntSpec)

/-- 'laws.FnRolls', WHERE WHAT IT READS IS OF BULK AT MOST 1048576: true; the input reads as it did. -/
def fnRollsUptoRow : OpenClaim := { program := "ytbaocifpifbldaa", sum := "b4778de49825e1ac2bd6f80122e72310a1255f8cf997c650c5ee0627a5120582", func := "loop.example/g00063/laws.FnRolls", spec := "fnRolls", apart := false, narrowed := true }
def FnRollsUptoSaid : Prop := fnRollsUptoRow.holds Try.pinned (OpenSpec.upto fnRollsSpec)

end Rows
end Go.Proofs.Ytbaocifpifbldaa
