/-
  No cell of these rows narrows 'for every input' (looked for: loops, veiled, ifaces, maps, wideKeys, modest, calm, conditions, laid).
  DERIVED. THE GIVEN ROWS OF THIS SEAT. 6 by the template 'for every input the law returns true; each argument reads behind the call as it read before'; 0 by the template 'total and deterministic' (their statements: YtbaocifpifbldadTotals.lean).
  GIVEN WITH THE SEED: the statements are not yours to turn. If you find one false, say at which input.
  Laid BY PROGRAM, IN A SANDBOX (cutbox-rows.mjs): the forced cells as the released guide's own fill.sh prints them over the translation 20a24adcee02cc4f… (all of the seat's roots in one cut). By AI agents, Wed Nov 11 2026. No macro, syntax, notation, axiom, sorry.
-/
import Derived.Test.YtbaocifpifbldadChecked
import GoSem.Claim
import GoSem.ClaimJoined
import GoSem.ClaimMapViews
import Derived.JoinedTies
import Derived.KernelRfl
namespace Go.Proofs.Ytbaocifpifbldad
/- THE CELL 'sum', in the pinned program and in every row, IS THE sha256 OF THE DUMP (.gsa) THAT YtbaocifpifbldadProg.lean LOADS. Nothing in Lean hashes anything: it is a label: what it is worth is what the hold of that sum in a sandbox is worth. -/
noncomputable def Try.pinned : Pinned := { name := "ytbaocifpifbldad", sum := "20a24adcee02cc4f7eb48bdcf0bf6719ce39664754c015a5391cd521de49f25a", checked := Try.checked }
namespace Rows
def none {H : Type} : Left H := { results := [], args := [] }

/-- 'laws.FnVoted': WHATEVER THE INPUT: true; the input reads as it did. -/
def fnVotedSpec : ChangeSpec := { name := "fnVoted", fn := fun _ => fun
  | [d] => { results := [.lit (.bool true)], args := [d] }
  | _ => none }
def fnVotedRow : OpenClaim := { program := "ytbaocifpifbldad", sum := "20a24adcee02cc4f7eb48bdcf0bf6719ce39664754c015a5391cd521de49f25a", func := "loop.example/g00063/laws.FnVoted", spec := "fnVoted", recurses := true, apart := false }
def FnVotedSaid : Prop := fnVotedRow.holds Try.pinned (OpenSpec.ofChange fnVotedSpec)

/-- ITS FALSE NEIGHBOUR: 'it returns false'. Refute it at one input. -/
def fnVotedWrong : ChangeSpec := { name := "fnVoted", fn := fun _ => fun
  | [d] => { results := [.lit (.bool false)], args := [d] }
  | _ => none }
def FnVotedWrongFalsely : Prop := fnVotedRow.holds Try.pinned (OpenSpec.ofChange fnVotedWrong)

/-- 'laws.FnForces': WHATEVER THE INPUT: true; the input reads as it did. -/
def fnForcesSpec : ChangeSpec := { name := "fnForces", fn := fun _ => fun
  | [d] => { results := [.lit (.bool true)], args := [d] }
  | _ => none }
def fnForcesRow : OpenClaim := { program := "ytbaocifpifbldad", sum := "20a24adcee02cc4f7eb48bdcf0bf6719ce39664754c015a5391cd521de49f25a", func := "loop.example/g00063/laws.FnForces", spec := "fnForces", apart := false }
def FnForcesSaid : Prop := fnForcesRow.holds Try.pinned (OpenSpec.ofChange fnForcesSpec)

/-- ITS FALSE NEIGHBOUR: 'it returns false'. Refute it at one input. -/
def fnForcesWrong : ChangeSpec := { name := "fnForces", fn := fun _ => fun
  | [d] => { results := [.lit (.bool false)], args := [d] }
  | _ => none }
def FnForcesWrongFalsely : Prop := fnForcesRow.holds Try.pinned (OpenSpec.ofChange fnForcesWrong)

/-- 'laws.FnSurface': WHATEVER THE INPUT: true; the input reads as it did. -/
def fnSurfaceSpec : ChangeSpec := { name := "fnSurface", fn := fun _ => fun
  | [d] => { results := [.lit (.bool true)], args := [d] }
  | _ => none }
def fnSurfaceRow : OpenClaim := { program := "ytbaocifpifbldad", sum := "20a24adcee02cc4f7eb48bdcf0bf6719ce39664754c015a5391cd521de49f25a", func := "loop.example/g00063/laws.FnSurface", spec := "fnSurface", unfollowed := true, recurses := true, apart := false }
def FnSurfaceSaid : Prop := fnSurfaceRow.holds Try.pinned (OpenSpec.ofChange fnSurfaceSpec)

/-- ITS FALSE NEIGHBOUR: 'it returns false'. Refute it at one input. -/
def fnSurfaceWrong : ChangeSpec := { name := "fnSurface", fn := fun _ => fun
  | [d] => { results := [.lit (.bool false)], args := [d] }
  | _ => none }
def FnSurfaceWrongFalsely : Prop := fnSurfaceRow.holds Try.pinned (OpenSpec.ofChange fnSurfaceWrong)

/-- 'laws.FnMixed': WHATEVER THE INPUT: true; the input reads as it did. -/
def fnMixedSpec : ChangeSpec := { name := "fnMixed", fn := fun _ => fun
  | [d] => { results := [.lit (.bool true)], args := [d] }
  | _ => none }
def fnMixedRow : OpenClaim := { program := "ytbaocifpifbldad", sum := "20a24adcee02cc4f7eb48bdcf0bf6719ce39664754c015a5391cd521de49f25a", func := "loop.example/g00063/laws.FnMixed", spec := "fnMixed", unfollowed := true, recurses := true, apart := false }
def FnMixedSaid : Prop := fnMixedRow.holds Try.pinned (OpenSpec.ofChange fnMixedSpec)

/-- ITS FALSE NEIGHBOUR: 'it returns false'. Refute it at one input. -/
def fnMixedWrong : ChangeSpec := { name := "fnMixed", fn := fun _ => fun
  | [d] => { results := [.lit (.bool false)], args := [d] }
  | _ => none }
def FnMixedWrongFalsely : Prop := fnMixedRow.holds Try.pinned (OpenSpec.ofChange fnMixedWrong)

/-- 'laws.FnCaptured': WHATEVER THE INPUT: true; the input reads as it did. -/
def fnCapturedSpec : ChangeSpec := { name := "fnCaptured", fn := fun _ => fun
  | [d] => { results := [.lit (.bool true)], args := [d] }
  | _ => none }
def fnCapturedRow : OpenClaim := { program := "ytbaocifpifbldad", sum := "20a24adcee02cc4f7eb48bdcf0bf6719ce39664754c015a5391cd521de49f25a", func := "loop.example/g00063/laws.FnCaptured", spec := "fnCaptured", unfollowed := true, recurses := true, apart := false }
def FnCapturedSaid : Prop := fnCapturedRow.holds Try.pinned (OpenSpec.ofChange fnCapturedSpec)

/-- ITS FALSE NEIGHBOUR: 'it returns false'. Refute it at one input. -/
def fnCapturedWrong : ChangeSpec := { name := "fnCaptured", fn := fun _ => fun
  | [d] => { results := [.lit (.bool false)], args := [d] }
  | _ => none }
def FnCapturedWrongFalsely : Prop := fnCapturedRow.holds Try.pinned (OpenSpec.ofChange fnCapturedWrong)

/-- 'laws.FnTurned': WHATEVER THE INPUT: true; the input reads as it did. -/
def fnTurnedSpec : ChangeSpec := { name := "fnTurned", fn := fun _ => fun
  | [d] => { results := [.lit (.bool true)], args := [d] }
  | _ => none }
def fnTurnedRow : OpenClaim := { program := "ytbaocifpifbldad", sum := "20a24adcee02cc4f7eb48bdcf0bf6719ce39664754c015a5391cd521de49f25a", func := "loop.example/g00063/laws.FnTurned", spec := "fnTurned", unfollowed := true, recurses := true, apart := false }
def FnTurnedSaid : Prop := fnTurnedRow.holds Try.pinned (OpenSpec.ofChange fnTurnedSpec)

/-- ITS FALSE NEIGHBOUR: 'it returns false'. Refute it at one input. -/
def fnTurnedWrong : ChangeSpec := { name := "fnTurned", fn := fun _ => fun
  | [d] => { results := [.lit (.bool false)], args := [d] }
  | _ => none }
def FnTurnedWrongFalsely : Prop := fnTurnedRow.holds Try.pinned (OpenSpec.ofChange fnTurnedWrong)

/- THE SECOND FORM. 'bulk': how many values and letters a reading holds, each counted each time it is reached (what is shared counts as often as it is met; a slice's spare places count too). A statement '..UptoSaid' is the law's where the arguments, and the package variables that the reading takes, are together of bulk at most 1048576: NARROWER than '..Said'. Prove '..Said' where nothing that the law and all that it calls make is longer than what came in: it says more and counts as full. Else prove '..UptoSaid'. A law counts once. -/
mutual
def uptoBulk {H : Type} : DataW H → Nat
  | .lit (.string bytes) => bytes.length + 1
  | .lit _ => 1
  | .nil => 1
  | .ptr d => uptoBulk d + 1
  | .slice elems spare => uptoBulkAll elems + uptoBulkAll spare + 1
  | .agg parts => uptoBulkAll parts + 1
  | .iface _ d => uptoBulk d + 1
  | .map entries => uptoBulkEntries entries + 1
  | .held _ => 1
def uptoBulkAll {H : Type} : List (DataW H) → Nat
  | [] => 0
  | d :: r => uptoBulk d + uptoBulkAll r
def uptoBulkEntries {H : Type} : List (Lit × DataW H) → Nat
  | [] => 0
  | x :: r => uptoBulkEntry x + uptoBulkEntries r
def uptoBulkEntry {H : Type} : Lit × DataW H → Nat
  | (.string bytes, d) => bytes.length + uptoBulk d + 1
  | (_, d) => uptoBulk d + 1
 end
def uptoSmall : (H : Type) → List (DataW H) → Bool := fun _ ds => decide (uptoBulkAll ds ≤ 1048576)
def OpenSpec.upto (s : _root_.Go.ChangeSpec) : _root_.Go.OpenSpec := { _root_.Go.OpenSpec.ofChange s with cond := some uptoSmall }

/-- 'laws.FnVoted', WHERE WHAT IT READS IS OF BULK AT MOST 1048576: true; the input reads as it did. -/
def fnVotedUptoRow : OpenClaim := { program := "ytbaocifpifbldad", sum := "20a24adcee02cc4f7eb48bdcf0bf6719ce39664754c015a5391cd521de49f25a", func := "loop.example/g00063/laws.FnVoted", spec := "fnVoted", recurses := true, apart := false, narrowed := true }
def FnVotedUptoSaid : Prop := fnVotedUptoRow.holds Try.pinned (OpenSpec.upto fnVotedSpec)

/-- 'laws.FnForces', WHERE WHAT IT READS IS OF BULK AT MOST 1048576: true; the input reads as it did. -/
def fnForcesUptoRow : OpenClaim := { program := "ytbaocifpifbldad", sum := "20a24adcee02cc4f7eb48bdcf0bf6719ce39664754c015a5391cd521de49f25a", func := "loop.example/g00063/laws.FnForces", spec := "fnForces", apart := false, narrowed := true }
def FnForcesUptoSaid : Prop := fnForcesUptoRow.holds Try.pinned (OpenSpec.upto fnForcesSpec)

/-- 'laws.FnSurface', WHERE WHAT IT READS IS OF BULK AT MOST 1048576: true; the input reads as it did. -/
def fnSurfaceUptoRow : OpenClaim := { program := "ytbaocifpifbldad", sum := "20a24adcee02cc4f7eb48bdcf0bf6719ce39664754c015a5391cd521de49f25a", func := "loop.example/g00063/laws.FnSurface", spec := "fnSurface", unfollowed := true, recurses := true, apart := false, narrowed := true }
def FnSurfaceUptoSaid : Prop := fnSurfaceUptoRow.holds Try.pinned (OpenSpec.upto fnSurfaceSpec)

/-- 'laws.FnMixed', WHERE WHAT IT READS IS OF BULK AT MOST 1048576: true; the input reads as it did. -/
def fnMixedUptoRow : OpenClaim := { program := "ytbaocifpifbldad", sum := "20a24adcee02cc4f7eb48bdcf0bf6719ce39664754c015a5391cd521de49f25a", func := "loop.example/g00063/laws.FnMixed", spec := "fnMixed", unfollowed := true, recurses := true, apart := false, narrowed := true }
def FnMixedUptoSaid : Prop := fnMixedUptoRow.holds Try.pinned (OpenSpec.upto fnMixedSpec)

/-- 'laws.FnCaptured', WHERE WHAT IT READS IS OF BULK AT MOST 1048576: true; the input reads as it did. -/
def fnCapturedUptoRow : OpenClaim := { program := "ytbaocifpifbldad", sum := "20a24adcee02cc4f7eb48bdcf0bf6719ce39664754c015a5391cd521de49f25a", func := "loop.example/g00063/laws.FnCaptured", spec := "fnCaptured", unfollowed := true, recurses := true, apart := false, narrowed := true }
def FnCapturedUptoSaid : Prop := fnCapturedUptoRow.holds Try.pinned (OpenSpec.upto fnCapturedSpec)

/-- 'laws.FnTurned', WHERE WHAT IT READS IS OF BULK AT MOST 1048576: true; the input reads as it did. -/
def fnTurnedUptoRow : OpenClaim := { program := "ytbaocifpifbldad", sum := "20a24adcee02cc4f7eb48bdcf0bf6719ce39664754c015a5391cd521de49f25a", func := "loop.example/g00063/laws.FnTurned", spec := "fnTurned", unfollowed := true, recurses := true, apart := false, narrowed := true }
def FnTurnedUptoSaid : Prop := fnTurnedUptoRow.holds Try.pinned (OpenSpec.upto fnTurnedSpec)

end Rows
end Go.Proofs.Ytbaocifpifbldad
