/-
  No cell of these rows narrows 'for every input' (looked for: loops, veiled, ifaces, maps, wideKeys, modest, calm, conditions, laid).
  DERIVED. THE GIVEN ROWS OF THIS SEAT. 6 by the template 'for every input the law returns true; each argument reads behind the call as it read before'; 0 by the template 'total and deterministic' (their statements: YtfahhjgpgccdhasTotals.lean).
  GIVEN WITH THE SEED: the statements are not yours to turn. If you find one false, say at which input.
  Laid BY PROGRAM, IN A SANDBOX (cutbox-rows.mjs): the forced cells as the released guide's own fill.sh prints them over the translation 9dab2cac7ffbbff9… (all of the seat's roots in one cut). By AI agents, Wed Nov 11 2026. No macro, syntax, notation, axiom, sorry.
-/
import Derived.Test.YtfahhjgpgccdhasChecked
import GoSem.Claim
import GoSem.ClaimJoined
import GoSem.ClaimMapViews
import Derived.JoinedTies
import Derived.KernelRfl
namespace Go.Proofs.Ytfahhjgpgccdhas
/- THE CELL 'sum', in the pinned program and in every row, IS THE sha256 OF THE DUMP (.gsa) THAT YtfahhjgpgccdhasProg.lean LOADS. Nothing in Lean hashes anything: it is a label: what it is worth is what the hold of that sum in a sandbox is worth. -/
noncomputable def Try.pinned : Pinned := { name := "ytfahhjgpgccdhas", sum := "9dab2cac7ffbbff922514367a2dcf754cd1f22bea80d0a7560ed78aa4b4d72a7", checked := Try.checked }
namespace Rows
def none {H : Type} : Left H := { results := [], args := [] }

/-- 'laws.FnExactTrimTick': WHATEVER THE INPUT: true; the input reads as it did. -/
def fnExactTrimTickSpec : ChangeSpec := { name := "fnExactTrimTick", fn := fun _ => fun
  | [d1, d2, d3] => { results := [.lit (.bool true)], args := [d1, d2, d3] }
  | _ => none }
def fnExactTrimTickRow : OpenClaim := { program := "ytfahhjgpgccdhas", sum := "9dab2cac7ffbbff922514367a2dcf754cd1f22bea80d0a7560ed78aa4b4d72a7", func := "loop.example/g00063/laws.FnExactTrimTick", spec := "fnExactTrimTick", apart := false }
def FnExactTrimTickSaid : Prop := fnExactTrimTickRow.holds Try.pinned (OpenSpec.ofChange fnExactTrimTickSpec)

/-- ITS FALSE NEIGHBOUR: 'it returns false'. Refute it at one input. -/
def fnExactTrimTickWrong : ChangeSpec := { name := "fnExactTrimTick", fn := fun _ => fun
  | [d1, d2, d3] => { results := [.lit (.bool false)], args := [d1, d2, d3] }
  | _ => none }
def FnExactTrimTickWrongFalsely : Prop := fnExactTrimTickRow.holds Try.pinned (OpenSpec.ofChange fnExactTrimTickWrong)

/-- 'laws.FnExactPilotOk': WHATEVER THE INPUT: true; the input reads as it did. -/
def fnExactPilotOkSpec : ChangeSpec := { name := "fnExactPilotOk", fn := fun _ => fun
  | [d] => { results := [.lit (.bool true)], args := [d] }
  | _ => none }
def fnExactPilotOkRow : OpenClaim := { program := "ytfahhjgpgccdhas", sum := "9dab2cac7ffbbff922514367a2dcf754cd1f22bea80d0a7560ed78aa4b4d72a7", func := "loop.example/g00063/laws.FnExactPilotOk", spec := "fnExactPilotOk", apart := false }
def FnExactPilotOkSaid : Prop := fnExactPilotOkRow.holds Try.pinned (OpenSpec.ofChange fnExactPilotOkSpec)

/-- ITS FALSE NEIGHBOUR: 'it returns false'. Refute it at one input. -/
def fnExactPilotOkWrong : ChangeSpec := { name := "fnExactPilotOk", fn := fun _ => fun
  | [d] => { results := [.lit (.bool false)], args := [d] }
  | _ => none }
def FnExactPilotOkWrongFalsely : Prop := fnExactPilotOkRow.holds Try.pinned (OpenSpec.ofChange fnExactPilotOkWrong)

/-- 'laws.FnExactPress': WHATEVER THE INPUT: true; the input reads as it did. -/
def fnExactPressSpec : ChangeSpec := { name := "fnExactPress", fn := fun _ => fun
  | [d1, d2, d3] => { results := [.lit (.bool true)], args := [d1, d2, d3] }
  | _ => none }
def fnExactPressRow : OpenClaim := { program := "ytfahhjgpgccdhas", sum := "9dab2cac7ffbbff922514367a2dcf754cd1f22bea80d0a7560ed78aa4b4d72a7", func := "loop.example/g00063/laws.FnExactPress", spec := "fnExactPress", unfollowed := true, recurses := true, apart := false }
def FnExactPressSaid : Prop := fnExactPressRow.holds Try.pinned (OpenSpec.ofChange fnExactPressSpec)

/-- ITS FALSE NEIGHBOUR: 'it returns false'. Refute it at one input. -/
def fnExactPressWrong : ChangeSpec := { name := "fnExactPress", fn := fun _ => fun
  | [d1, d2, d3] => { results := [.lit (.bool false)], args := [d1, d2, d3] }
  | _ => none }
def FnExactPressWrongFalsely : Prop := fnExactPressRow.holds Try.pinned (OpenSpec.ofChange fnExactPressWrong)

/-- 'laws.FnExactPilotTick': WHATEVER THE INPUT: true; the input reads as it did. -/
def fnExactPilotTickSpec : ChangeSpec := { name := "fnExactPilotTick", fn := fun _ => fun
  | [d1, d2] => { results := [.lit (.bool true)], args := [d1, d2] }
  | _ => none }
def fnExactPilotTickRow : OpenClaim := { program := "ytfahhjgpgccdhas", sum := "9dab2cac7ffbbff922514367a2dcf754cd1f22bea80d0a7560ed78aa4b4d72a7", func := "loop.example/g00063/laws.FnExactPilotTick", spec := "fnExactPilotTick", apart := false }
def FnExactPilotTickSaid : Prop := fnExactPilotTickRow.holds Try.pinned (OpenSpec.ofChange fnExactPilotTickSpec)

/-- ITS FALSE NEIGHBOUR: 'it returns false'. Refute it at one input. -/
def fnExactPilotTickWrong : ChangeSpec := { name := "fnExactPilotTick", fn := fun _ => fun
  | [d1, d2] => { results := [.lit (.bool false)], args := [d1, d2] }
  | _ => none }
def FnExactPilotTickWrongFalsely : Prop := fnExactPilotTickRow.holds Try.pinned (OpenSpec.ofChange fnExactPilotTickWrong)

/-- 'laws.FnExactTicks': WHATEVER THE INPUT: true; the input reads as it did. -/
def fnExactTicksSpec : ChangeSpec := { name := "fnExactTicks", fn := fun _ => fun
  | [d1, d2] => { results := [.lit (.bool true)], args := [d1, d2] }
  | _ => none }
def fnExactTicksRow : OpenClaim := { program := "ytfahhjgpgccdhas", sum := "9dab2cac7ffbbff922514367a2dcf754cd1f22bea80d0a7560ed78aa4b4d72a7", func := "loop.example/g00063/laws.FnExactTicks", spec := "fnExactTicks", apart := false }
def FnExactTicksSaid : Prop := fnExactTicksRow.holds Try.pinned (OpenSpec.ofChange fnExactTicksSpec)

/-- ITS FALSE NEIGHBOUR: 'it returns false'. Refute it at one input. -/
def fnExactTicksWrong : ChangeSpec := { name := "fnExactTicks", fn := fun _ => fun
  | [d1, d2] => { results := [.lit (.bool false)], args := [d1, d2] }
  | _ => none }
def FnExactTicksWrongFalsely : Prop := fnExactTicksRow.holds Try.pinned (OpenSpec.ofChange fnExactTicksWrong)

/-- 'laws.FnExactChanges': WHATEVER THE INPUT: true; the input reads as it did. -/
def fnExactChangesSpec : ChangeSpec := { name := "fnExactChanges", fn := fun _ => fun
  | [d] => { results := [.lit (.bool true)], args := [d] }
  | _ => none }
def fnExactChangesRow : OpenClaim := { program := "ytfahhjgpgccdhas", sum := "9dab2cac7ffbbff922514367a2dcf754cd1f22bea80d0a7560ed78aa4b4d72a7", func := "loop.example/g00063/laws.FnExactChanges", spec := "fnExactChanges", apart := false }
def FnExactChangesSaid : Prop := fnExactChangesRow.holds Try.pinned (OpenSpec.ofChange fnExactChangesSpec)

/-- ITS FALSE NEIGHBOUR: 'it returns false'. Refute it at one input. -/
def fnExactChangesWrong : ChangeSpec := { name := "fnExactChanges", fn := fun _ => fun
  | [d] => { results := [.lit (.bool false)], args := [d] }
  | _ => none }
def FnExactChangesWrongFalsely : Prop := fnExactChangesRow.holds Try.pinned (OpenSpec.ofChange fnExactChangesWrong)

/- THE SECOND FORM. 'bulk': how many values and letters a reading holds, each counted each time it is reached (what is shared counts as often as it is met; a slice's spare places count too). A statement '..UptoSaid' is the law's where the arguments, and the package variables that the reading takes, are together of bulk at most 1048576: NARROWER than '..Said'. Prove '..Said' where nothing that the law and all that it calls make is longer than what came in: it says more and counts as full. Else prove '..UptoSaid'. A law counts once. -/
mutual
def uptoBulk {H : Type} : DataW H → Nat
  | .lit (.string bytes) => bytes.length + 1
  | .lit _ => 1
  | .nil => 1
  | .ptr d => uptoBulk d + 1
  | .slice elems spare => uptoBulkAll elems + uptoBulkAll spare + 1
  | .agg parts => uptoBulkAll parts + 1
  | .iface _ d => uptoBulk d + 1
  | .map entries => uptoBulkEntries entries + 1
  | .held _ => 1
def uptoBulkAll {H : Type} : List (DataW H) → Nat
  | [] => 0
  | d :: r => uptoBulk d + uptoBulkAll r
def uptoBulkEntries {H : Type} : List (Lit × DataW H) → Nat
  | [] => 0
  | x :: r => uptoBulkEntry x + uptoBulkEntries r
def uptoBulkEntry {H : Type} : Lit × DataW H → Nat
  | (.string bytes, d) => bytes.length + uptoBulk d + 1
  | (_, d) => uptoBulk d + 1
 end
def uptoSmall : (H : Type) → List (DataW H) → Bool := fun _ ds => decide (uptoBulkAll ds ≤ 1048576)
def OpenSpec.upto (s : _root_.Go.ChangeSpec) : _root_.Go.OpenSpec := { _root_.Go.OpenSpec.ofChange s with cond := some uptoSmall }

/-- 'laws.FnExactTrimTick', WHERE WHAT IT READS IS OF BULK AT MOST 1048576: true; the input reads as it did. -/
def fnExactTrimTickUptoRow : OpenClaim := { program := "ytfahhjgpgccdhas", sum := "9dab2cac7ffbbff922514367a2dcf754cd1f22bea80d0a7560ed78aa4b4d72a7", func := "loop.example/g00063/laws.FnExactTrimTick", spec := "fnExactTrimTick", apart := false, narrowed := true }
def FnExactTrimTickUptoSaid : Prop := fnExactTrimTickUptoRow.holds Try.pinned (OpenSpec.upto fnExactTrimTickSpec)

/-- 'laws.FnExactPilotOk', WHERE WHAT IT READS IS OF BULK AT MOST 1048576: true; the input reads as it did. -/
def fnExactPilotOkUptoRow : OpenClaim := { program := "ytfahhjgpgccdhas", sum := "9dab2cac7ffbbff922514367a2dcf754cd1f22bea80d0a7560ed78aa4b4d72a7", func := "loop.example/g00063/laws.FnExactPilotOk", spec := "fnExactPilotOk", apart := false, narrowed := true }
def FnExactPilotOkUptoSaid : Prop := fnExactPilotOkUptoRow.holds Try.pinned (OpenSpec.upto fnExactPilotOkSpec)

/-- 'laws.FnExactPress', WHERE WHAT IT READS IS OF BULK AT MOST 1048576: true; the input reads as it did. -/
def fnExactPressUptoRow : OpenClaim := { program := "ytfahhjgpgccdhas", sum := "9dab2cac7ffbbff922514367a2dcf754cd1f22bea80d0a7560ed78aa4b4d72a7", func := "loop.example/g00063/laws.FnExactPress", spec := "fnExactPress", unfollowed := true, recurses := true, apart := false, narrowed := true }
def FnExactPressUptoSaid : Prop := fnExactPressUptoRow.holds Try.pinned (OpenSpec.upto fnExactPressSpec)

/-- 'laws.FnExactPilotTick', WHERE WHAT IT READS IS OF BULK AT MOST 1048576: true; the input reads as it did. -/
def fnExactPilotTickUptoRow : OpenClaim := { program := "ytfahhjgpgccdhas", sum := "9dab2cac7ffbbff922514367a2dcf754cd1f22bea80d0a7560ed78aa4b4d72a7", func := "loop.example/g00063/laws.FnExactPilotTick", spec := "fnExactPilotTick", apart := false, narrowed := true }
def FnExactPilotTickUptoSaid : Prop := fnExactPilotTickUptoRow.holds Try.pinned (OpenSpec.upto fnExactPilotTickSpec)

/-- 'laws.FnExactTicks', WHERE WHAT IT READS IS OF BULK AT MOST 1048576: true; the input reads as it did. -/
def fnExactTicksUptoRow : OpenClaim := { program := "ytfahhjgpgccdhas", sum := "9dab2cac7ffbbff922514367a2dcf754cd1f22bea80d0a7560ed78aa4b4d72a7", func := "loop.example/g00063/laws.FnExactTicks", spec := "fnExactTicks", apart := false, narrowed := true }
def FnExactTicksUptoSaid : Prop := fnExactTicksUptoRow.holds Try.pinned (OpenSpec.upto fnExactTicksSpec)

/-- 'laws.FnExactChanges', WHERE WHAT IT READS IS OF BULK AT MOST 1048576: true; the input reads as it did. -/
def fnExactChangesUptoRow : OpenClaim := { program := "ytfahhjgpgccdhas", sum := "9dab2cac7ffbbff922514367a2dcf754cd1f22bea80d0a7560ed78aa4b4d72a7", func := "loop.example/g00063/laws.FnExactChanges", spec := "fnExactChanges", apart := false, narrowed := true }
def FnExactChangesUptoSaid : Prop := fnExactChangesUptoRow.holds Try.pinned (OpenSpec.upto fnExactChangesSpec)

end Rows
end Go.Proofs.Ytfahhjgpgccdhas
