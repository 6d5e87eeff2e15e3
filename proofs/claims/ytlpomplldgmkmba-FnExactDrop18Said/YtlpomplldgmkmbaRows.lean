/-
  No cell of these rows narrows 'for every input' (looked for: loops, veiled, ifaces, maps, wideKeys, modest, calm, conditions, laid).
  DERIVED. THE GIVEN ROWS OF THIS SEAT. 5 by the template 'for every input the law returns true; each argument reads behind the call as it read before'; 0 by the template 'total and deterministic' (their statements: YtlpomplldgmkmbaTotals.lean).
  GIVEN WITH THE SEED: the statements are not yours to turn. If you find one false, say at which input.
  Laid BY PROGRAM, IN A SANDBOX (cutbox-rows.mjs): the forced cells as the released guide's own fill.sh prints them over the translation acaa2935f2308d15… (all of the seat's roots in one cut). By AI agents, Wed Nov 11 2026. No macro, syntax, notation, axiom, sorry.
-/
import Derived.Test.YtlpomplldgmkmbaChecked
import GoSem.Claim
import GoSem.ClaimJoined
import GoSem.ClaimMapViews
import Derived.JoinedTies
import Derived.KernelRfl
namespace Go.Proofs.Ytlpomplldgmkmba
/- THE CELL 'sum', in the pinned program and in every row, IS THE sha256 OF THE DUMP (.gsa) THAT YtlpomplldgmkmbaProg.lean LOADS. Nothing in Lean hashes anything: it is a label: what it is worth is what the hold of that sum in a sandbox is worth. -/
noncomputable def Try.pinned : Pinned := { name := "ytlpomplldgmkmba", sum := "acaa2935f2308d15afee9ae0f3b508495f0fdc5bc3dbce578e195debb8a0bf77", checked := Try.checked }
namespace Rows
def none {H : Type} : Left H := { results := [], args := [] }

/-- 'laws.FnExactFitWindow': WHATEVER THE INPUT: true; the input reads as it did. -/
def fnExactFitWindowSpec : ChangeSpec := { name := "fnExactFitWindow", fn := fun _ => fun
  | [d1, d2, d3] => { results := [.lit (.bool true)], args := [d1, d2, d3] }
  | _ => none }
def fnExactFitWindowRow : OpenClaim := { program := "ytlpomplldgmkmba", sum := "acaa2935f2308d15afee9ae0f3b508495f0fdc5bc3dbce578e195debb8a0bf77", func := "loop.example/g00063/laws.FnExactFitWindow", spec := "fnExactFitWindow", inPlace := ["sync/atomic.AddInt64", "sync/atomic.LoadInt64", "slices.overlaps[loop.example/g00063/impl.Window]"], apart := false }
def FnExactFitWindowSaid : Prop := fnExactFitWindowRow.holds Try.pinned (OpenSpec.ofChange fnExactFitWindowSpec)

/-- ITS FALSE NEIGHBOUR: 'it returns false'. Refute it at one input. -/
def fnExactFitWindowWrong : ChangeSpec := { name := "fnExactFitWindow", fn := fun _ => fun
  | [d1, d2, d3] => { results := [.lit (.bool false)], args := [d1, d2, d3] }
  | _ => none }
def FnExactFitWindowWrongFalsely : Prop := fnExactFitWindowRow.holds Try.pinned (OpenSpec.ofChange fnExactFitWindowWrong)

/-- 'laws.FnExactLoadOk': WHATEVER THE INPUT: true; the input reads as it did. -/
def fnExactLoadOkSpec : ChangeSpec := { name := "fnExactLoadOk", fn := fun _ => fun
  | [d] => { results := [.lit (.bool true)], args := [d] }
  | _ => none }
def fnExactLoadOkRow : OpenClaim := { program := "ytlpomplldgmkmba", sum := "acaa2935f2308d15afee9ae0f3b508495f0fdc5bc3dbce578e195debb8a0bf77", func := "loop.example/g00063/laws.FnExactLoadOk", spec := "fnExactLoadOk", apart := false }
def FnExactLoadOkSaid : Prop := fnExactLoadOkRow.holds Try.pinned (OpenSpec.ofChange fnExactLoadOkSpec)

/-- ITS FALSE NEIGHBOUR: 'it returns false'. Refute it at one input. -/
def fnExactLoadOkWrong : ChangeSpec := { name := "fnExactLoadOk", fn := fun _ => fun
  | [d] => { results := [.lit (.bool false)], args := [d] }
  | _ => none }
def FnExactLoadOkWrongFalsely : Prop := fnExactLoadOkRow.holds Try.pinned (OpenSpec.ofChange fnExactLoadOkWrong)

/-- 'laws.FnExactSeal': WHATEVER THE INPUT: true; the input reads as it did. -/
def fnExactSealSpec : ChangeSpec := { name := "fnExactSeal", fn := fun _ => fun
  | [d] => { results := [.lit (.bool true)], args := [d] }
  | _ => none }
def fnExactSealRow : OpenClaim := { program := "ytlpomplldgmkmba", sum := "acaa2935f2308d15afee9ae0f3b508495f0fdc5bc3dbce578e195debb8a0bf77", func := "loop.example/g00063/laws.FnExactSeal", spec := "fnExactSeal", apart := false }
def FnExactSealSaid : Prop := fnExactSealRow.holds Try.pinned (OpenSpec.ofChange fnExactSealSpec)

/-- ITS FALSE NEIGHBOUR: 'it returns false'. Refute it at one input. -/
def fnExactSealWrong : ChangeSpec := { name := "fnExactSeal", fn := fun _ => fun
  | [d] => { results := [.lit (.bool false)], args := [d] }
  | _ => none }
def FnExactSealWrongFalsely : Prop := fnExactSealRow.holds Try.pinned (OpenSpec.ofChange fnExactSealWrong)

/-- 'laws.FnExactAboardOk': WHATEVER THE INPUT: true; the input reads as it did. -/
def fnExactAboardOkSpec : ChangeSpec := { name := "fnExactAboardOk", fn := fun _ => fun
  | [d] => { results := [.lit (.bool true)], args := [d] }
  | _ => none }
def fnExactAboardOkRow : OpenClaim := { program := "ytlpomplldgmkmba", sum := "acaa2935f2308d15afee9ae0f3b508495f0fdc5bc3dbce578e195debb8a0bf77", func := "loop.example/g00063/laws.FnExactAboardOk", spec := "fnExactAboardOk", unfollowed := true, recurses := true, apart := false }
def FnExactAboardOkSaid : Prop := fnExactAboardOkRow.holds Try.pinned (OpenSpec.ofChange fnExactAboardOkSpec)

/-- ITS FALSE NEIGHBOUR: 'it returns false'. Refute it at one input. -/
def fnExactAboardOkWrong : ChangeSpec := { name := "fnExactAboardOk", fn := fun _ => fun
  | [d] => { results := [.lit (.bool false)], args := [d] }
  | _ => none }
def FnExactAboardOkWrongFalsely : Prop := fnExactAboardOkRow.holds Try.pinned (OpenSpec.ofChange fnExactAboardOkWrong)

/-- 'laws.FnExactDrop18': WHATEVER THE INPUT: true; the input reads as it did. -/
def fnExactDrop18Spec : ChangeSpec := { name := "fnExactDrop18", fn := fun _ => fun
  | [d1, d2] => { results := [.lit (.bool true)], args := [d1, d2] }
  | _ => none }
def fnExactDrop18Row : OpenClaim := { program := "ytlpomplldgmkmba", sum := "acaa2935f2308d15afee9ae0f3b508495f0fdc5bc3dbce578e195debb8a0bf77", func := "loop.example/g00063/laws.FnExactDrop18", spec := "fnExactDrop18", unfollowed := true, recurses := true, apart := false }
def FnExactDrop18Said : Prop := fnExactDrop18Row.holds Try.pinned (OpenSpec.ofChange fnExactDrop18Spec)

/-- ITS FALSE NEIGHBOUR: 'it returns false'. Refute it at one input. -/
def fnExactDrop18Wrong : ChangeSpec := { name := "fnExactDrop18", fn := fun _ => fun
  | [d1, d2] => { results := [.lit (.bool false)], args := [d1, d2] }
  | _ => none }
def FnExactDrop18WrongFalsely : Prop := fnExactDrop18Row.holds Try.pinned (OpenSpec.ofChange fnExactDrop18Wrong)

/- THE SECOND FORM. 'bulk': how many values and letters a reading holds, each counted each time it is reached (what is shared counts as often as it is met; a slice's spare places count too). A statement '..UptoSaid' is the law's where the arguments, and the package variables that the reading takes, are together of bulk at most 1048576: NARROWER than '..Said'. Prove '..Said' where nothing that the law and all that it calls make is longer than what came in: it says more and counts as full. Else prove '..UptoSaid'. A law counts once. -/
mutual
def uptoBulk {H : Type} : DataW H → Nat
  | .lit (.string bytes) => bytes.length + 1
  | .lit _ => 1
  | .nil => 1
  | .ptr d => uptoBulk d + 1
  | .slice elems spare => uptoBulkAll elems + uptoBulkAll spare + 1
  | .agg parts => uptoBulkAll parts + 1
  | .iface _ d => uptoBulk d + 1
  | .map entries => uptoBulkEntries entries + 1
  | .held _ => 1
def uptoBulkAll {H : Type} : List (DataW H) → Nat
  | [] => 0
  | d :: r => uptoBulk d + uptoBulkAll r
def uptoBulkEntries {H : Type} : List (Lit × DataW H) → Nat
  | [] => 0
  | x :: r => uptoBulkEntry x + uptoBulkEntries r
def uptoBulkEntry {H : Type} : Lit × DataW H → Nat
  | (.string bytes, d) => bytes.length + uptoBulk d + 1
  | (_, d) => uptoBulk d + 1
 end
def uptoSmall : (H : Type) → List (DataW H) → Bool := fun _ ds => decide (uptoBulkAll ds ≤ 1048576)
def OpenSpec.upto (s : _root_.Go.ChangeSpec) : _root_.Go.OpenSpec := { _root_.Go.OpenSpec.ofChange s with cond := some uptoSmall }

/-- 'laws.FnExactFitWindow', WHERE WHAT IT READS IS OF BULK AT MOST 1048576: true; the input reads as it did. -/
def fnExactFitWindowUptoRow : OpenClaim := { program := "ytlpomplldgmkmba", sum := "acaa2935f2308d15afee9ae0f3b508495f0fdc5bc3dbce578e195debb8a0bf77", func := "loop.example/g00063/laws.FnExactFitWindow", spec := "fnExactFitWindow", inPlace := ["sync/atomic.AddInt64", "sync/atomic.LoadInt64", "slices.overlaps[loop.example/g00063/impl.Window]"], apart := false, narrowed := true }
def FnExactFitWindowUptoSaid : Prop := fnExactFitWindowUptoRow.holds Try.pinned (OpenSpec.upto fnExactFitWindowSpec)

/-- 'laws.FnExactLoadOk', WHERE WHAT IT READS IS OF BULK AT MOST 1048576: true; the input reads as it did. -/
def fnExactLoadOkUptoRow : OpenClaim := { program := "ytlpomplldgmkmba", sum := "acaa2935f2308d15afee9ae0f3b508495f0fdc5bc3dbce578e195debb8a0bf77", func := "loop.example/g00063/laws.FnExactLoadOk", spec := "fnExactLoadOk", apart := false, narrowed := true }
def FnExactLoadOkUptoSaid : Prop := fnExactLoadOkUptoRow.holds Try.pinned (OpenSpec.upto fnExactLoadOkSpec)

/-- 'laws.FnExactSeal', WHERE WHAT IT READS IS OF BULK AT MOST 1048576: true; the input reads as it did. -/
def fnExactSealUptoRow : OpenClaim := { program := "ytlpomplldgmkmba", sum := "acaa2935f2308d15afee9ae0f3b508495f0fdc5bc3dbce578e195debb8a0bf77", func := "loop.example/g00063/laws.FnExactSeal", spec := "fnExactSeal", apart := false, narrowed := true }
def FnExactSealUptoSaid : Prop := fnExactSealUptoRow.holds Try.pinned (OpenSpec.upto fnExactSealSpec)

/-- 'laws.FnExactAboardOk', WHERE WHAT IT READS IS OF BULK AT MOST 1048576: true; the input reads as it did. -/
def fnExactAboardOkUptoRow : OpenClaim := { program := "ytlpomplldgmkmba", sum := "acaa2935f2308d15afee9ae0f3b508495f0fdc5bc3dbce578e195debb8a0bf77", func := "loop.example/g00063/laws.FnExactAboardOk", spec := "fnExactAboardOk", unfollowed := true, recurses := true, apart := false, narrowed := true }
def FnExactAboardOkUptoSaid : Prop := fnExactAboardOkUptoRow.holds Try.pinned (OpenSpec.upto fnExactAboardOkSpec)

/-- 'laws.FnExactDrop18', WHERE WHAT IT READS IS OF BULK AT MOST 1048576: true; the input reads as it did. -/
def fnExactDrop18UptoRow : OpenClaim := { program := "ytlpomplldgmkmba", sum := "acaa2935f2308d15afee9ae0f3b508495f0fdc5bc3dbce578e195debb8a0bf77", func := "loop.example/g00063/laws.FnExactDrop18", spec := "fnExactDrop18", unfollowed := true, recurses := true, apart := false, narrowed := true }
def FnExactDrop18UptoSaid : Prop := fnExactDrop18UptoRow.holds Try.pinned (OpenSpec.upto fnExactDrop18Spec)

end Rows
end Go.Proofs.Ytlpomplldgmkmba
