/-
  No cell of these rows narrows 'for every input' (looked for: loops, veiled, ifaces, maps, wideKeys, modest, calm, conditions, laid).
  DERIVED. THE GIVEN ROWS OF THIS SEAT. 6 by the template 'for every input the law returns true; each argument reads behind the call as it read before'; 0 by the template 'total and deterministic' (their statements: YtgihdklgmndeeabTotals.lean).
  GIVEN WITH THE SEED: the statements are not yours to turn. If you find one false, say at which input.
  Laid BY PROGRAM, IN A SANDBOX (cutbox-rows.mjs): the forced cells as the released guide's own fill.sh prints them over the translation 6733b0e19bab723d… (all of the seat's roots in one cut). By AI agents, Wed Nov 11 2026. No macro, syntax, notation, axiom, sorry.
-/
import Derived.Test.YtgihdklgmndeeabChecked
import GoSem.Claim
import GoSem.ClaimJoined
import GoSem.ClaimMapViews
import Derived.JoinedTies
import Derived.KernelRfl
namespace Go.Proofs.Ytgihdklgmndeeab
/- THE CELL 'sum', in the pinned program and in every row, IS THE sha256 OF THE DUMP (.gsa) THAT YtgihdklgmndeeabProg.lean LOADS. Nothing in Lean hashes anything: it is a label: what it is worth is what the hold of that sum in a sandbox is worth. -/
noncomputable def Try.pinned : Pinned := { name := "ytgihdklgmndeeab", sum := "6733b0e19bab723d3393048877687c91e1e8addbbd9137e8d823d3d10fc0cc08", checked := Try.checked }
namespace Rows
def none {H : Type} : Left H := { results := [], args := [] }

/-- 'laws.FnRunways': WHATEVER THE INPUT: true; the input reads as it did. -/
def fnRunwaysSpec : ChangeSpec := { name := "fnRunways", fn := fun _ => fun
  | [d] => { results := [.lit (.bool true)], args := [d] }
  | _ => none }
def fnRunwaysRow : OpenClaim := { program := "ytgihdklgmndeeab", sum := "6733b0e19bab723d3393048877687c91e1e8addbbd9137e8d823d3d10fc0cc08", func := "loop.example/g00063/laws.FnRunways", spec := "fnRunways", apart := false }
def FnRunwaysSaid : Prop := fnRunwaysRow.holds Try.pinned (OpenSpec.ofChange fnRunwaysSpec)

/-- ITS FALSE NEIGHBOUR: 'it returns false'. Refute it at one input. -/
def fnRunwaysWrong : ChangeSpec := { name := "fnRunways", fn := fun _ => fun
  | [d] => { results := [.lit (.bool false)], args := [d] }
  | _ => none }
def FnRunwaysWrongFalsely : Prop := fnRunwaysRow.holds Try.pinned (OpenSpec.ofChange fnRunwaysWrong)

/-- 'laws.FnClears': WHATEVER THE INPUT: true; the input reads as it did. -/
def fnClearsSpec : ChangeSpec := { name := "fnClears", fn := fun _ => fun
  | [d] => { results := [.lit (.bool true)], args := [d] }
  | _ => none }
def fnClearsRow : OpenClaim := { program := "ytgihdklgmndeeab", sum := "6733b0e19bab723d3393048877687c91e1e8addbbd9137e8d823d3d10fc0cc08", func := "loop.example/g00063/laws.FnClears", spec := "fnClears", apart := false }
def FnClearsSaid : Prop := fnClearsRow.holds Try.pinned (OpenSpec.ofChange fnClearsSpec)

/-- ITS FALSE NEIGHBOUR: 'it returns false'. Refute it at one input. -/
def fnClearsWrong : ChangeSpec := { name := "fnClears", fn := fun _ => fun
  | [d] => { results := [.lit (.bool false)], args := [d] }
  | _ => none }
def FnClearsWrongFalsely : Prop := fnClearsRow.holds Try.pinned (OpenSpec.ofChange fnClearsWrong)

/-- 'laws.FnSizes': WHATEVER THE INPUT: true; the input reads as it did. -/
def fnSizesSpec : ChangeSpec := { name := "fnSizes", fn := fun _ => fun
  | [d] => { results := [.lit (.bool true)], args := [d] }
  | _ => none }
def fnSizesRow : OpenClaim := { program := "ytgihdklgmndeeab", sum := "6733b0e19bab723d3393048877687c91e1e8addbbd9137e8d823d3d10fc0cc08", func := "loop.example/g00063/laws.FnSizes", spec := "fnSizes", apart := false }
def FnSizesSaid : Prop := fnSizesRow.holds Try.pinned (OpenSpec.ofChange fnSizesSpec)

/-- ITS FALSE NEIGHBOUR: 'it returns false'. Refute it at one input. -/
def fnSizesWrong : ChangeSpec := { name := "fnSizes", fn := fun _ => fun
  | [d] => { results := [.lit (.bool false)], args := [d] }
  | _ => none }
def FnSizesWrongFalsely : Prop := fnSizesRow.holds Try.pinned (OpenSpec.ofChange fnSizesWrong)

/-- 'laws.FnQuotient': WHATEVER THE INPUT: true; the input reads as it did. -/
def fnQuotientSpec : ChangeSpec := { name := "fnQuotient", fn := fun _ => fun
  | [d] => { results := [.lit (.bool true)], args := [d] }
  | _ => none }
def fnQuotientRow : OpenClaim := { program := "ytgihdklgmndeeab", sum := "6733b0e19bab723d3393048877687c91e1e8addbbd9137e8d823d3d10fc0cc08", func := "loop.example/g00063/laws.FnQuotient", spec := "fnQuotient", inPlace := ["math.Float64bits", "math.Float64frombits"], apart := false }
def FnQuotientSaid : Prop := fnQuotientRow.holds Try.pinned (OpenSpec.ofChange fnQuotientSpec)

/-- ITS FALSE NEIGHBOUR: 'it returns false'. Refute it at one input. -/
def fnQuotientWrong : ChangeSpec := { name := "fnQuotient", fn := fun _ => fun
  | [d] => { results := [.lit (.bool false)], args := [d] }
  | _ => none }
def FnQuotientWrongFalsely : Prop := fnQuotientRow.holds Try.pinned (OpenSpec.ofChange fnQuotientWrong)

/-- 'laws.FnFlown': WHATEVER THE INPUT: true; the input reads as it did. -/
def fnFlownSpec : ChangeSpec := { name := "fnFlown", fn := fun _ => fun
  | [d] => { results := [.lit (.bool true)], args := [d] }
  | _ => none }
def fnFlownRow : OpenClaim := { program := "ytgihdklgmndeeab", sum := "6733b0e19bab723d3393048877687c91e1e8addbbd9137e8d823d3d10fc0cc08", func := "loop.example/g00063/laws.FnFlown", spec := "fnFlown", inPlace := ["math.Float64bits", "math.Float64frombits"], apart := false }
def FnFlownSaid : Prop := fnFlownRow.holds Try.pinned (OpenSpec.ofChange fnFlownSpec)

/-- ITS FALSE NEIGHBOUR: 'it returns false'. Refute it at one input. -/
def fnFlownWrong : ChangeSpec := { name := "fnFlown", fn := fun _ => fun
  | [d] => { results := [.lit (.bool false)], args := [d] }
  | _ => none }
def FnFlownWrongFalsely : Prop := fnFlownRow.holds Try.pinned (OpenSpec.ofChange fnFlownWrong)

/-- 'laws.FnMeans': WHATEVER THE INPUT: true; the input reads as it did. -/
def fnMeansSpec : ChangeSpec := { name := "fnMeans", fn := fun _ => fun
  | [d] => { results := [.lit (.bool true)], args := [d] }
  | _ => none }
def fnMeansRow : OpenClaim := { program := "ytgihdklgmndeeab", sum := "6733b0e19bab723d3393048877687c91e1e8addbbd9137e8d823d3d10fc0cc08", func := "loop.example/g00063/laws.FnMeans", spec := "fnMeans", inPlace := ["math.Float64bits", "math.Float64frombits"], apart := false }
def FnMeansSaid : Prop := fnMeansRow.holds Try.pinned (OpenSpec.ofChange fnMeansSpec)

/-- ITS FALSE NEIGHBOUR: 'it returns false'. Refute it at one input. -/
def fnMeansWrong : ChangeSpec := { name := "fnMeans", fn := fun _ => fun
  | [d] => { results := [.lit (.bool false)], args := [d] }
  | _ => none }
def FnMeansWrongFalsely : Prop := fnMeansRow.holds Try.pinned (OpenSpec.ofChange fnMeansWrong)

/- THE SECOND FORM. 'bulk': how many values and letters a reading holds, each counted each time it is reached (what is shared counts as often as it is met; a slice's spare places count too). A statement '..UptoSaid' is the law's where the arguments, and the package variables that the reading takes, are together of bulk at most 1048576: NARROWER than '..Said'. Prove '..Said' where nothing that the law and all that it calls make is longer than what came in: it says more and counts as full. Else prove '..UptoSaid'. A law counts once. -/
mutual
def uptoBulk {H : Type} : DataW H → Nat
  | .lit (.string bytes) => bytes.length + 1
  | .lit _ => 1
  | .nil => 1
  | .ptr d => uptoBulk d + 1
  | .slice elems spare => uptoBulkAll elems + uptoBulkAll spare + 1
  | .agg parts => uptoBulkAll parts + 1
  | .iface _ d => uptoBulk d + 1
  | .map entries => uptoBulkEntries entries + 1
  | .held _ => 1
def uptoBulkAll {H : Type} : List (DataW H) → Nat
  | [] => 0
  | d :: r => uptoBulk d + uptoBulkAll r
def uptoBulkEntries {H : Type} : List (Lit × DataW H) → Nat
  | [] => 0
  | x :: r => uptoBulkEntry x + uptoBulkEntries r
def uptoBulkEntry {H : Type} : Lit × DataW H → Nat
  | (.string bytes, d) => bytes.length + uptoBulk d + 1
  | (_, d) => uptoBulk d + 1
 end
def uptoSmall : (H : Type) → List (DataW H) → Bool := fun _ ds => decide (uptoBulkAll ds ≤ 1048576)
def OpenSpec.upto (s : _root_.Go.ChangeSpec) : _root_.Go.OpenSpec := { _root_.Go.OpenSpec.ofChange s with cond := some uptoSmall }

/-- 'laws.FnRunways', WHERE WHAT IT READS IS OF BULK AT MOST 1048576: true; the input reads as it did. -/
def fnRunwaysUptoRow : OpenClaim := { program := "ytgihdklgmndeeab", sum := "6733b0e19bab723d3393048877687c91e1e8addbbd9137e8d823d3d10fc0cc08", func := "loop.example/g00063/laws.FnRunways", spec := "fnRunways", apart := false, narrowed := true }
def FnRunwaysUptoSaid : Prop := fnRunwaysUptoRow.holds Try.pinned (OpenSpec.upto fnRunwaysSpec)

/-- 'laws.FnClears', WHERE WHAT IT READS IS OF BULK AT MOST 1048576: true; the input reads as it did. -/
def fnClearsUptoRow : OpenClaim := { program := "ytgihdklgmndeeab", sum := "6733b0e19bab723d3393048877687c91e1e8addbbd9137e8d823d3d10fc0cc08", func := "loop.example/g00063/laws.FnClears", spec := "fnClears", apart := false, narrowed := true }
def FnClearsUptoSaid : Prop := fnClearsUptoRow.holds Try.pinned (OpenSpec.upto fnClearsSpec)

/-- 'laws.FnSizes', WHERE WHAT IT READS IS OF BULK AT MOST 1048576: true; the input reads as it did. -/
def fnSizesUptoRow : OpenClaim := { program := "ytgihdklgmndeeab", sum := "6733b0e19bab723d3393048877687c91e1e8addbbd9137e8d823d3d10fc0cc08", func := "loop.example/g00063/laws.FnSizes", spec := "fnSizes", apart := false, narrowed := true }
def FnSizesUptoSaid : Prop := fnSizesUptoRow.holds Try.pinned (OpenSpec.upto fnSizesSpec)

/-- 'laws.FnQuotient', WHERE WHAT IT READS IS OF BULK AT MOST 1048576: true; the input reads as it did. -/
def fnQuotientUptoRow : OpenClaim := { program := "ytgihdklgmndeeab", sum := "6733b0e19bab723d3393048877687c91e1e8addbbd9137e8d823d3d10fc0cc08", func := "loop.example/g00063/laws.FnQuotient", spec := "fnQuotient", inPlace := ["math.Float64bits", "math.Float64frombits"], apart := false, narrowed := true }
def FnQuotientUptoSaid : Prop := fnQuotientUptoRow.holds Try.pinned (OpenSpec.upto fnQuotientSpec)

/-- 'laws.FnFlown', WHERE WHAT IT READS IS OF BULK AT MOST 1048576: true; the input reads as it did. -/
def fnFlownUptoRow : OpenClaim := { program := "ytgihdklgmndeeab", sum := "6733b0e19bab723d3393048877687c91e1e8addbbd9137e8d823d3d10fc0cc08", func := "loop.example/g00063/laws.FnFlown", spec := "fnFlown", inPlace := ["math.Float64bits", "math.Float64frombits"], apart := false, narrowed := true }
def FnFlownUptoSaid : Prop := fnFlownUptoRow.holds Try.pinned (OpenSpec.upto fnFlownSpec)

/-- 'laws.FnMeans', WHERE WHAT IT READS IS OF BULK AT MOST 1048576: true; the input reads as it did. -/
def fnMeansUptoRow : OpenClaim := { program := "ytgihdklgmndeeab", sum := "6733b0e19bab723d3393048877687c91e1e8addbbd9137e8d823d3d10fc0cc08", func := "loop.example/g00063/laws.FnMeans", spec := "fnMeans", inPlace := ["math.Float64bits", "math.Float64frombits"], apart := false, narrowed := true }
def FnMeansUptoSaid : Prop := fnMeansUptoRow.holds Try.pinned (OpenSpec.upto fnMeansSpec)

end Rows
end Go.Proofs.Ytgihdklgmndeeab
