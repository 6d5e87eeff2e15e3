/-
  No cell of these rows narrows 'for every input' (looked for: loops, veiled, ifaces, maps, wideKeys, modest, calm, conditions, laid).
  DERIVED. THE GIVEN ROWS OF THIS SEAT. 6 by the template 'for every input the law returns true; each argument reads behind the call as it read before'; 0 by the template 'total and deterministic' (their statements: YtgihdklgmndeeanTotals.lean).
  GIVEN WITH THE SEED: the statements are not yours to turn. If you find one false, say at which input.
  Laid BY PROGRAM, IN A SANDBOX (cutbox-rows.mjs): the forced cells as the released guide's own fill.sh prints them over the translation 284d27b955edc5a4… (all of the seat's roots in one cut). By AI agents, Wed Nov 11 2026. No macro, syntax, notation, axiom, sorry.
-/
import Derived.Test.YtgihdklgmndeeanChecked
import GoSem.Claim
import GoSem.ClaimJoined
import GoSem.ClaimMapViews
import Derived.JoinedTies
import Derived.KernelRfl
namespace Go.Proofs.Ytgihdklgmndeean
/- THE CELL 'sum', in the pinned program and in every row, IS THE sha256 OF THE DUMP (.gsa) THAT YtgihdklgmndeeanProg.lean LOADS. Nothing in Lean hashes anything: it is a label: what it is worth is what the hold of that sum in a sandbox is worth. -/
noncomputable def Try.pinned : Pinned := { name := "ytgihdklgmndeean", sum := "284d27b955edc5a4324d9f2ffd1ef91a281a4ea9c38ac5f198f4ff5e16b98bf6", checked := Try.checked }
namespace Rows
def none {H : Type} : Left H := { results := [], args := [] }

/-- 'laws.FnExactFly': WHATEVER THE INPUT: true; the input reads as it did. -/
def fnExactFlySpec : ChangeSpec := { name := "fnExactFly", fn := fun _ => fun
  | [d1, d2, d3, d4] => { results := [.lit (.bool true)], args := [d1, d2, d3, d4] }
  | _ => none }
def fnExactFlyRow : OpenClaim := { program := "ytgihdklgmndeean", sum := "284d27b955edc5a4324d9f2ffd1ef91a281a4ea9c38ac5f198f4ff5e16b98bf6", func := "loop.example/g00063/laws.FnExactFly", spec := "fnExactFly", apart := false }
def FnExactFlySaid : Prop := fnExactFlyRow.holds Try.pinned (OpenSpec.ofChange fnExactFlySpec)

/-- ITS FALSE NEIGHBOUR: 'it returns false'. Refute it at one input. -/
def fnExactFlyWrong : ChangeSpec := { name := "fnExactFly", fn := fun _ => fun
  | [d1, d2, d3, d4] => { results := [.lit (.bool false)], args := [d1, d2, d3, d4] }
  | _ => none }
def FnExactFlyWrongFalsely : Prop := fnExactFlyRow.holds Try.pinned (OpenSpec.ofChange fnExactFlyWrong)

/-- 'laws.FnExactLoad5': WHATEVER THE INPUT: true; the input reads as it did. -/
def fnExactLoad5Spec : ChangeSpec := { name := "fnExactLoad5", fn := fun _ => fun
  | [d1, d2] => { results := [.lit (.bool true)], args := [d1, d2] }
  | _ => none }
def fnExactLoad5Row : OpenClaim := { program := "ytgihdklgmndeean", sum := "284d27b955edc5a4324d9f2ffd1ef91a281a4ea9c38ac5f198f4ff5e16b98bf6", func := "loop.example/g00063/laws.FnExactLoad5", spec := "fnExactLoad5", inPlace := ["math.Float64bits", "math.Float64frombits"], apart := false }
def FnExactLoad5Said : Prop := fnExactLoad5Row.holds Try.pinned (OpenSpec.ofChange fnExactLoad5Spec)

/-- ITS FALSE NEIGHBOUR: 'it returns false'. Refute it at one input. -/
def fnExactLoad5Wrong : ChangeSpec := { name := "fnExactLoad5", fn := fun _ => fun
  | [d1, d2] => { results := [.lit (.bool false)], args := [d1, d2] }
  | _ => none }
def FnExactLoad5WrongFalsely : Prop := fnExactLoad5Row.holds Try.pinned (OpenSpec.ofChange fnExactLoad5Wrong)

/-- 'laws.FnExactMeanOf': WHATEVER THE INPUT: true; the input reads as it did. -/
def fnExactMeanOfSpec : ChangeSpec := { name := "fnExactMeanOf", fn := fun _ => fun
  | [d] => { results := [.lit (.bool true)], args := [d] }
  | _ => none }
def fnExactMeanOfRow : OpenClaim := { program := "ytgihdklgmndeean", sum := "284d27b955edc5a4324d9f2ffd1ef91a281a4ea9c38ac5f198f4ff5e16b98bf6", func := "loop.example/g00063/laws.FnExactMeanOf", spec := "fnExactMeanOf", inPlace := ["math.Float64bits"], apart := false }
def FnExactMeanOfSaid : Prop := fnExactMeanOfRow.holds Try.pinned (OpenSpec.ofChange fnExactMeanOfSpec)

/-- ITS FALSE NEIGHBOUR: 'it returns false'. Refute it at one input. -/
def fnExactMeanOfWrong : ChangeSpec := { name := "fnExactMeanOf", fn := fun _ => fun
  | [d] => { results := [.lit (.bool false)], args := [d] }
  | _ => none }
def FnExactMeanOfWrongFalsely : Prop := fnExactMeanOfRow.holds Try.pinned (OpenSpec.ofChange fnExactMeanOfWrong)

/-- 'laws.FnExactSmooth': WHATEVER THE INPUT: true; the input reads as it did. -/
def fnExactSmoothSpec : ChangeSpec := { name := "fnExactSmooth", fn := fun _ => fun
  | [d1, d2] => { results := [.lit (.bool true)], args := [d1, d2] }
  | _ => none }
def fnExactSmoothRow : OpenClaim := { program := "ytgihdklgmndeean", sum := "284d27b955edc5a4324d9f2ffd1ef91a281a4ea9c38ac5f198f4ff5e16b98bf6", func := "loop.example/g00063/laws.FnExactSmooth", spec := "fnExactSmooth", inPlace := ["math.Float64frombits", "math.Float64bits"], apart := false }
def FnExactSmoothSaid : Prop := fnExactSmoothRow.holds Try.pinned (OpenSpec.ofChange fnExactSmoothSpec)

/-- ITS FALSE NEIGHBOUR: 'it returns false'. Refute it at one input. -/
def fnExactSmoothWrong : ChangeSpec := { name := "fnExactSmooth", fn := fun _ => fun
  | [d1, d2] => { results := [.lit (.bool false)], args := [d1, d2] }
  | _ => none }
def FnExactSmoothWrongFalsely : Prop := fnExactSmoothRow.holds Try.pinned (OpenSpec.ofChange fnExactSmoothWrong)

/-- 'laws.FnExactFirstOver': WHATEVER THE INPUT: true; the input reads as it did. -/
def fnExactFirstOverSpec : ChangeSpec := { name := "fnExactFirstOver", fn := fun _ => fun
  | [d1, d2] => { results := [.lit (.bool true)], args := [d1, d2] }
  | _ => none }
def fnExactFirstOverRow : OpenClaim := { program := "ytgihdklgmndeean", sum := "284d27b955edc5a4324d9f2ffd1ef91a281a4ea9c38ac5f198f4ff5e16b98bf6", func := "loop.example/g00063/laws.FnExactFirstOver", spec := "fnExactFirstOver", apart := false }
def FnExactFirstOverSaid : Prop := fnExactFirstOverRow.holds Try.pinned (OpenSpec.ofChange fnExactFirstOverSpec)

/-- ITS FALSE NEIGHBOUR: 'it returns false'. Refute it at one input. -/
def fnExactFirstOverWrong : ChangeSpec := { name := "fnExactFirstOver", fn := fun _ => fun
  | [d1, d2] => { results := [.lit (.bool false)], args := [d1, d2] }
  | _ => none }
def FnExactFirstOverWrongFalsely : Prop := fnExactFirstOverRow.holds Try.pinned (OpenSpec.ofChange fnExactFirstOverWrong)

/-- 'laws.FnExactNear5': WHATEVER THE INPUT: true; the input reads as it did. -/
def fnExactNear5Spec : ChangeSpec := { name := "fnExactNear5", fn := fun _ => fun
  | [d1, d2, d3] => { results := [.lit (.bool true)], args := [d1, d2, d3] }
  | _ => none }
def fnExactNear5Row : OpenClaim := { program := "ytgihdklgmndeean", sum := "284d27b955edc5a4324d9f2ffd1ef91a281a4ea9c38ac5f198f4ff5e16b98bf6", func := "loop.example/g00063/laws.FnExactNear5", spec := "fnExactNear5", apart := false }
def FnExactNear5Said : Prop := fnExactNear5Row.holds Try.pinned (OpenSpec.ofChange fnExactNear5Spec)

/-- ITS FALSE NEIGHBOUR: 'it returns false'. Refute it at one input. -/
def fnExactNear5Wrong : ChangeSpec := { name := "fnExactNear5", fn := fun _ => fun
  | [d1, d2, d3] => { results := [.lit (.bool false)], args := [d1, d2, d3] }
  | _ => none }
def FnExactNear5WrongFalsely : Prop := fnExactNear5Row.holds Try.pinned (OpenSpec.ofChange fnExactNear5Wrong)

/- THE SECOND FORM. 'bulk': how many values and letters a reading holds, each counted each time it is reached (what is shared counts as often as it is met; a slice's spare places count too). A statement '..UptoSaid' is the law's where the arguments, and the package variables that the reading takes, are together of bulk at most 1048576: NARROWER than '..Said'. Prove '..Said' where nothing that the law and all that it calls make is longer than what came in: it says more and counts as full. Else prove '..UptoSaid'. A law counts once. -/
mutual
def uptoBulk {H : Type} : DataW H → Nat
  | .lit (.string bytes) => bytes.length + 1
  | .lit _ => 1
  | .nil => 1
  | .ptr d => uptoBulk d + 1
  | .slice elems spare => uptoBulkAll elems + uptoBulkAll spare + 1
  | .agg parts => uptoBulkAll parts + 1
  | .iface _ d => uptoBulk d + 1
  | .map entries => uptoBulkEntries entries + 1
  | .held _ => 1
def uptoBulkAll {H : Type} : List (DataW H) → Nat
  | [] => 0
  | d :: r => uptoBulk d + uptoBulkAll r
def uptoBulkEntries {H : Type} : List (Lit × DataW H) → Nat
  | [] => 0
  | x :: r => uptoBulkEntry x + uptoBulkEntries r
def uptoBulkEntry {H : Type} : Lit × DataW H → Nat
  | (.string bytes, d) => bytes.length + uptoBulk d + 1
  | (_, d) => uptoBulk d + 1
 end
def uptoSmall : (H : Type) → List (DataW H) → Bool := fun _ ds => decide (uptoBulkAll ds ≤ 1048576)
def OpenSpec.upto (s : _root_.Go.ChangeSpec) : _root_.Go.OpenSpec := { _root_.Go.OpenSpec.ofChange s with cond := some uptoSmall }

/-- 'laws.FnExactFly', WHERE WHAT IT READS IS OF BULK AT MOST 1048576: true; the input reads as it did. -/
def fnExactFlyUptoRow : OpenClaim := { program := "ytgihdklgmndeean", sum := "284d27b955edc5a4324d9f2ffd1ef91a281a4ea9c38ac5f198f4ff5e16b98bf6", func := "loop.example/g00063/laws.FnExactFly", spec := "fnExactFly", apart := false, narrowed := true }
def FnExactFlyUptoSaid : Prop := fnExactFlyUptoRow.holds Try.pinned (OpenSpec.upto fnExactFlySpec)

/-- 'laws.FnExactLoad5', WHERE WHAT IT READS IS OF BULK AT MOST 1048576: true; the input reads as it did. -/
def fnExactLoad5UptoRow : OpenClaim := { program := "ytgihdklgmndeean", sum := "284d27b955edc5a4324d9f2ffd1ef91a281a4ea9c38ac5f198f4ff5e16b98bf6", func := "loop.example/g00063/laws.FnExactLoad5", spec := "fnExactLoad5", inPlace := ["math.Float64bits", "math.Float64frombits"], apart := false, narrowed := true }
def FnExactLoad5UptoSaid : Prop := fnExactLoad5UptoRow.holds Try.pinned (OpenSpec.upto fnExactLoad5Spec)

/-- 'laws.FnExactMeanOf', WHERE WHAT IT READS IS OF BULK AT MOST 1048576: true; the input reads as it did. -/
def fnExactMeanOfUptoRow : OpenClaim := { program := "ytgihdklgmndeean", sum := "284d27b955edc5a4324d9f2ffd1ef91a281a4ea9c38ac5f198f4ff5e16b98bf6", func := "loop.example/g00063/laws.FnExactMeanOf", spec := "fnExactMeanOf", inPlace := ["math.Float64bits"], apart := false, narrowed := true }
def FnExactMeanOfUptoSaid : Prop := fnExactMeanOfUptoRow.holds Try.pinned (OpenSpec.upto fnExactMeanOfSpec)

/-- 'laws.FnExactSmooth', WHERE WHAT IT READS IS OF BULK AT MOST 1048576: true; the input reads as it did. -/
def fnExactSmoothUptoRow : OpenClaim := { program := "ytgihdklgmndeean", sum := "284d27b955edc5a4324d9f2ffd1ef91a281a4ea9c38ac5f198f4ff5e16b98bf6", func := "loop.example/g00063/laws.FnExactSmooth", spec := "fnExactSmooth", inPlace := ["math.Float64frombits", "math.Float64bits"], apart := false, narrowed := true }
def FnExactSmoothUptoSaid : Prop := fnExactSmoothUptoRow.holds Try.pinned (OpenSpec.upto fnExactSmoothSpec)

/-- 'laws.FnExactFirstOver', WHERE WHAT IT READS IS OF BULK AT MOST 1048576: true; the input reads as it did. -/
def fnExactFirstOverUptoRow : OpenClaim := { program := "ytgihdklgmndeean", sum := "284d27b955edc5a4324d9f2ffd1ef91a281a4ea9c38ac5f198f4ff5e16b98bf6", func := "loop.example/g00063/laws.FnExactFirstOver", spec := "fnExactFirstOver", apart := false, narrowed := true }
def FnExactFirstOverUptoSaid : Prop := fnExactFirstOverUptoRow.holds Try.pinned (OpenSpec.upto fnExactFirstOverSpec)

/-- 'laws.FnExactNear5', WHERE WHAT IT READS IS OF BULK AT MOST 1048576: true; the input reads as it did. -/
def fnExactNear5UptoRow : OpenClaim := { program := "ytgihdklgmndeean", sum := "284d27b955edc5a4324d9f2ffd1ef91a281a4ea9c38ac5f198f4ff5e16b98bf6", func := "loop.example/g00063/laws.FnExactNear5", spec := "fnExactNear5", apart := false, narrowed := true }
def FnExactNear5UptoSaid : Prop := fnExactNear5UptoRow.holds Try.pinned (OpenSpec.upto fnExactNear5Spec)

end Rows
end Go.Proofs.Ytgihdklgmndeean
