/-
  No cell of these rows narrows 'for every input' (looked for: loops, veiled, ifaces, maps, wideKeys, modest, calm, conditions, laid).
  DERIVED. THE GIVEN ROWS OF THIS SEAT. 6 by the template 'for every input the law returns true; each argument reads behind the call as it read before'; 0 by the template 'total and deterministic' (their statements: YtgihdklgmndeeamTotals.lean).
  GIVEN WITH THE SEED: the statements are not yours to turn. If you find one false, say at which input.
  Laid BY PROGRAM, IN A SANDBOX (cutbox-rows.mjs): the forced cells as the released guide's own fill.sh prints them over the translation 84b0d37cbc7fb1d4… (all of the seat's roots in one cut). By AI agents, Wed Nov 11 2026. No macro, syntax, notation, axiom, sorry.
-/
import Derived.Test.YtgihdklgmndeeamChecked
import GoSem.Claim
import GoSem.ClaimJoined
import GoSem.ClaimMapViews
import Derived.JoinedTies
import Derived.KernelRfl
namespace Go.Proofs.Ytgihdklgmndeeam
/- THE CELL 'sum', in the pinned program and in every row, IS THE sha256 OF THE DUMP (.gsa) THAT YtgihdklgmndeeamProg.lean LOADS. Nothing in Lean hashes anything: it is a label: what it is worth is what the hold of that sum in a sandbox is worth. -/
noncomputable def Try.pinned : Pinned := { name := "ytgihdklgmndeeam", sum := "84b0d37cbc7fb1d490550d8b5a9e9e63d6a3f36d284380f9b94914a60f51f317", checked := Try.checked }
namespace Rows
def none {H : Type} : Left H := { results := [], args := [] }

/-- 'laws.FnExactPoly': WHATEVER THE INPUT: true; the input reads as it did. -/
def fnExactPolySpec : ChangeSpec := { name := "fnExactPoly", fn := fun _ => fun
  | [d1, d2] => { results := [.lit (.bool true)], args := [d1, d2] }
  | _ => none }
def fnExactPolyRow : OpenClaim := { program := "ytgihdklgmndeeam", sum := "84b0d37cbc7fb1d490550d8b5a9e9e63d6a3f36d284380f9b94914a60f51f317", func := "loop.example/g00063/laws.FnExactPoly", spec := "fnExactPoly", apart := false }
def FnExactPolySaid : Prop := fnExactPolyRow.holds Try.pinned (OpenSpec.ofChange fnExactPolySpec)

/-- ITS FALSE NEIGHBOUR: 'it returns false'. Refute it at one input. -/
def fnExactPolyWrong : ChangeSpec := { name := "fnExactPoly", fn := fun _ => fun
  | [d1, d2] => { results := [.lit (.bool false)], args := [d1, d2] }
  | _ => none }
def FnExactPolyWrongFalsely : Prop := fnExactPolyRow.holds Try.pinned (OpenSpec.ofChange fnExactPolyWrong)

/-- 'laws.FnExactFromRoots': WHATEVER THE INPUT: true; the input reads as it did. -/
def fnExactFromRootsSpec : ChangeSpec := { name := "fnExactFromRoots", fn := fun _ => fun
  | [d] => { results := [.lit (.bool true)], args := [d] }
  | _ => none }
def fnExactFromRootsRow : OpenClaim := { program := "ytgihdklgmndeeam", sum := "84b0d37cbc7fb1d490550d8b5a9e9e63d6a3f36d284380f9b94914a60f51f317", func := "loop.example/g00063/laws.FnExactFromRoots", spec := "fnExactFromRoots", apart := false }
def FnExactFromRootsSaid : Prop := fnExactFromRootsRow.holds Try.pinned (OpenSpec.ofChange fnExactFromRootsSpec)

/-- ITS FALSE NEIGHBOUR: 'it returns false'. Refute it at one input. -/
def fnExactFromRootsWrong : ChangeSpec := { name := "fnExactFromRoots", fn := fun _ => fun
  | [d] => { results := [.lit (.bool false)], args := [d] }
  | _ => none }
def FnExactFromRootsWrongFalsely : Prop := fnExactFromRootsRow.holds Try.pinned (OpenSpec.ofChange fnExactFromRootsWrong)

/-- 'laws.FnExactSteps4': WHATEVER THE INPUT: true; the input reads as it did. -/
def fnExactSteps4Spec : ChangeSpec := { name := "fnExactSteps4", fn := fun _ => fun
  | [d1, d2] => { results := [.lit (.bool true)], args := [d1, d2] }
  | _ => none }
def fnExactSteps4Row : OpenClaim := { program := "ytgihdklgmndeeam", sum := "84b0d37cbc7fb1d490550d8b5a9e9e63d6a3f36d284380f9b94914a60f51f317", func := "loop.example/g00063/laws.FnExactSteps4", spec := "fnExactSteps4", apart := false }
def FnExactSteps4Said : Prop := fnExactSteps4Row.holds Try.pinned (OpenSpec.ofChange fnExactSteps4Spec)

/-- ITS FALSE NEIGHBOUR: 'it returns false'. Refute it at one input. -/
def fnExactSteps4Wrong : ChangeSpec := { name := "fnExactSteps4", fn := fun _ => fun
  | [d1, d2] => { results := [.lit (.bool false)], args := [d1, d2] }
  | _ => none }
def FnExactSteps4WrongFalsely : Prop := fnExactSteps4Row.holds Try.pinned (OpenSpec.ofChange fnExactSteps4Wrong)

/-- 'laws.FnExactDamped': WHATEVER THE INPUT: true; the input reads as it did. -/
def fnExactDampedSpec : ChangeSpec := { name := "fnExactDamped", fn := fun _ => fun
  | [d] => { results := [.lit (.bool true)], args := [d] }
  | _ => none }
def fnExactDampedRow : OpenClaim := { program := "ytgihdklgmndeeam", sum := "84b0d37cbc7fb1d490550d8b5a9e9e63d6a3f36d284380f9b94914a60f51f317", func := "loop.example/g00063/laws.FnExactDamped", spec := "fnExactDamped", apart := false }
def FnExactDampedSaid : Prop := fnExactDampedRow.holds Try.pinned (OpenSpec.ofChange fnExactDampedSpec)

/-- ITS FALSE NEIGHBOUR: 'it returns false'. Refute it at one input. -/
def fnExactDampedWrong : ChangeSpec := { name := "fnExactDamped", fn := fun _ => fun
  | [d] => { results := [.lit (.bool false)], args := [d] }
  | _ => none }
def FnExactDampedWrongFalsely : Prop := fnExactDampedRow.holds Try.pinned (OpenSpec.ofChange fnExactDampedWrong)

/-- 'laws.FnExactFlutter': WHATEVER THE INPUT: true; the input reads as it did. -/
def fnExactFlutterSpec : ChangeSpec := { name := "fnExactFlutter", fn := fun _ => fun
  | [d1, d2, d3, d4] => { results := [.lit (.bool true)], args := [d1, d2, d3, d4] }
  | _ => none }
def fnExactFlutterRow : OpenClaim := { program := "ytgihdklgmndeeam", sum := "84b0d37cbc7fb1d490550d8b5a9e9e63d6a3f36d284380f9b94914a60f51f317", func := "loop.example/g00063/laws.FnExactFlutter", spec := "fnExactFlutter", apart := false }
def FnExactFlutterSaid : Prop := fnExactFlutterRow.holds Try.pinned (OpenSpec.ofChange fnExactFlutterSpec)

/-- ITS FALSE NEIGHBOUR: 'it returns false'. Refute it at one input. -/
def fnExactFlutterWrong : ChangeSpec := { name := "fnExactFlutter", fn := fun _ => fun
  | [d1, d2, d3, d4] => { results := [.lit (.bool false)], args := [d1, d2, d3, d4] }
  | _ => none }
def FnExactFlutterWrongFalsely : Prop := fnExactFlutterRow.holds Try.pinned (OpenSpec.ofChange fnExactFlutterWrong)

/-- 'laws.FnExactStepOnce': WHATEVER THE INPUT: true; the input reads as it did. -/
def fnExactStepOnceSpec : ChangeSpec := { name := "fnExactStepOnce", fn := fun _ => fun
  | [d1, d2, d3, d4] => { results := [.lit (.bool true)], args := [d1, d2, d3, d4] }
  | _ => none }
def fnExactStepOnceRow : OpenClaim := { program := "ytgihdklgmndeeam", sum := "84b0d37cbc7fb1d490550d8b5a9e9e63d6a3f36d284380f9b94914a60f51f317", func := "loop.example/g00063/laws.FnExactStepOnce", spec := "fnExactStepOnce", apart := false }
def FnExactStepOnceSaid : Prop := fnExactStepOnceRow.holds Try.pinned (OpenSpec.ofChange fnExactStepOnceSpec)

/-- ITS FALSE NEIGHBOUR: 'it returns false'. Refute it at one input. -/
def fnExactStepOnceWrong : ChangeSpec := { name := "fnExactStepOnce", fn := fun _ => fun
  | [d1, d2, d3, d4] => { results := [.lit (.bool false)], args := [d1, d2, d3, d4] }
  | _ => none }
def FnExactStepOnceWrongFalsely : Prop := fnExactStepOnceRow.holds Try.pinned (OpenSpec.ofChange fnExactStepOnceWrong)

/- THE SECOND FORM. 'bulk': how many values and letters a reading holds, each counted each time it is reached (what is shared counts as often as it is met; a slice's spare places count too). A statement '..UptoSaid' is the law's where the arguments, and the package variables that the reading takes, are together of bulk at most 1048576: NARROWER than '..Said'. Prove '..Said' where nothing that the law and all that it calls make is longer than what came in: it says more and counts as full. Else prove '..UptoSaid'. A law counts once. -/
mutual
def uptoBulk {H : Type} : DataW H → Nat
  | .lit (.string bytes) => bytes.length + 1
  | .lit _ => 1
  | .nil => 1
  | .ptr d => uptoBulk d + 1
  | .slice elems spare => uptoBulkAll elems + uptoBulkAll spare + 1
  | .agg parts => uptoBulkAll parts + 1
  | .iface _ d => uptoBulk d + 1
  | .map entries => uptoBulkEntries entries + 1
  | .held _ => 1
def uptoBulkAll {H : Type} : List (DataW H) → Nat
  | [] => 0
  | d :: r => uptoBulk d + uptoBulkAll r
def uptoBulkEntries {H : Type} : List (Lit × DataW H) → Nat
  | [] => 0
  | x :: r => uptoBulkEntry x + uptoBulkEntries r
def uptoBulkEntry {H : Type} : Lit × DataW H → Nat
  | (.string bytes, d) => bytes.length + uptoBulk d + 1
  | (_, d) => uptoBulk d + 1
 end
def uptoSmall : (H : Type) → List (DataW H) → Bool := fun _ ds => decide (uptoBulkAll ds ≤ 1048576)
def OpenSpec.upto (s : _root_.Go.ChangeSpec) : _root_.Go.OpenSpec := { _root_.Go.OpenSpec.ofChange s with cond := some uptoSmall }

/-- 'laws.FnExactPoly', WHERE WHAT IT READS IS OF BULK AT MOST 1048576: true; the input reads as it did. -/
def fnExactPolyUptoRow : OpenClaim := { program := "ytgihdklgmndeeam", sum := "84b0d37cbc7fb1d490550d8b5a9e9e63d6a3f36d284380f9b94914a60f51f317", func := "loop.example/g00063/laws.FnExactPoly", spec := "fnExactPoly", apart := false, narrowed := true }
def FnExactPolyUptoSaid : Prop := fnExactPolyUptoRow.holds Try.pinned (OpenSpec.upto fnExactPolySpec)

/-- 'laws.FnExactFromRoots', WHERE WHAT IT READS IS OF BULK AT MOST 1048576: true; the input reads as it did. -/
def fnExactFromRootsUptoRow : OpenClaim := { program := "ytgihdklgmndeeam", sum := "84b0d37cbc7fb1d490550d8b5a9e9e63d6a3f36d284380f9b94914a60f51f317", func := "loop.example/g00063/laws.FnExactFromRoots", spec := "fnExactFromRoots", apart := false, narrowed := true }
def FnExactFromRootsUptoSaid : Prop := fnExactFromRootsUptoRow.holds Try.pinned (OpenSpec.upto fnExactFromRootsSpec)

/-- 'laws.FnExactSteps4', WHERE WHAT IT READS IS OF BULK AT MOST 1048576: true; the input reads as it did. -/
def fnExactSteps4UptoRow : OpenClaim := { program := "ytgihdklgmndeeam", sum := "84b0d37cbc7fb1d490550d8b5a9e9e63d6a3f36d284380f9b94914a60f51f317", func := "loop.example/g00063/laws.FnExactSteps4", spec := "fnExactSteps4", apart := false, narrowed := true }
def FnExactSteps4UptoSaid : Prop := fnExactSteps4UptoRow.holds Try.pinned (OpenSpec.upto fnExactSteps4Spec)

/-- 'laws.FnExactDamped', WHERE WHAT IT READS IS OF BULK AT MOST 1048576: true; the input reads as it did. -/
def fnExactDampedUptoRow : OpenClaim := { program := "ytgihdklgmndeeam", sum := "84b0d37cbc7fb1d490550d8b5a9e9e63d6a3f36d284380f9b94914a60f51f317", func := "loop.example/g00063/laws.FnExactDamped", spec := "fnExactDamped", apart := false, narrowed := true }
def FnExactDampedUptoSaid : Prop := fnExactDampedUptoRow.holds Try.pinned (OpenSpec.upto fnExactDampedSpec)

/-- 'laws.FnExactFlutter', WHERE WHAT IT READS IS OF BULK AT MOST 1048576: true; the input reads as it did. -/
def fnExactFlutterUptoRow : OpenClaim := { program := "ytgihdklgmndeeam", sum := "84b0d37cbc7fb1d490550d8b5a9e9e63d6a3f36d284380f9b94914a60f51f317", func := "loop.example/g00063/laws.FnExactFlutter", spec := "fnExactFlutter", apart := false, narrowed := true }
def FnExactFlutterUptoSaid : Prop := fnExactFlutterUptoRow.holds Try.pinned (OpenSpec.upto fnExactFlutterSpec)

/-- 'laws.FnExactStepOnce', WHERE WHAT IT READS IS OF BULK AT MOST 1048576: true; the input reads as it did. -/
def fnExactStepOnceUptoRow : OpenClaim := { program := "ytgihdklgmndeeam", sum := "84b0d37cbc7fb1d490550d8b5a9e9e63d6a3f36d284380f9b94914a60f51f317", func := "loop.example/g00063/laws.FnExactStepOnce", spec := "fnExactStepOnce", apart := false, narrowed := true }
def FnExactStepOnceUptoSaid : Prop := fnExactStepOnceUptoRow.holds Try.pinned (OpenSpec.upto fnExactStepOnceSpec)

end Rows
end Go.Proofs.Ytgihdklgmndeeam
