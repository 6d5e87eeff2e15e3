/-
  No cell of these rows narrows 'for every input' (looked for: loops, veiled, ifaces, maps, wideKeys, modest, calm, conditions, laid).
  DERIVED. THE GIVEN ROWS OF THIS SEAT. 5 by the template 'for every input the law returns true; each argument reads behind the call as it read before'; 0 by the template 'total and deterministic' (their statements: YtfahhjgpgccdhapTotals.lean).
  GIVEN WITH THE SEED: the statements are not yours to turn. If you find one false, say at which input.
  Laid BY PROGRAM, IN A SANDBOX (cutbox-rows.mjs): the forced cells as the released guide's own fill.sh prints them over the translation 5eda63912e03299f… (all of the seat's roots in one cut). By AI agents, Wed Nov 11 2026. No macro, syntax, notation, axiom, sorry.
-/
import Derived.Test.YtfahhjgpgccdhapChecked
import GoSem.Claim
import GoSem.ClaimJoined
import GoSem.ClaimMapViews
import Derived.JoinedTies
import Derived.KernelRfl
namespace Go.Proofs.Ytfahhjgpgccdhap
/- THE CELL 'sum', in the pinned program and in every row, IS THE sha256 OF THE DUMP (.gsa) THAT YtfahhjgpgccdhapProg.lean LOADS. Nothing in Lean hashes anything: it is a label: what it is worth is what the hold of that sum in a sandbox is worth. -/
noncomputable def Try.pinned : Pinned := { name := "ytfahhjgpgccdhap", sum := "5eda63912e03299fa6f135d3624c9f4a10ea9d09b28c1e720a47bbfbee1f2dec", checked := Try.checked }
namespace Rows
def none {H : Type} : Left H := { results := [], args := [] }

/-- 'laws.FnExactNetOk': WHATEVER THE INPUT: true; the input reads as it did. -/
def fnExactNetOkSpec : ChangeSpec := { name := "fnExactNetOk", fn := fun _ => fun
  | [d] => { results := [.lit (.bool true)], args := [d] }
  | _ => none }
def fnExactNetOkRow : OpenClaim := { program := "ytfahhjgpgccdhap", sum := "5eda63912e03299fa6f135d3624c9f4a10ea9d09b28c1e720a47bbfbee1f2dec", func := "loop.example/g00063/laws.FnExactNetOk", spec := "fnExactNetOk", apart := false }
def FnExactNetOkSaid : Prop := fnExactNetOkRow.holds Try.pinned (OpenSpec.ofChange fnExactNetOkSpec)

/-- ITS FALSE NEIGHBOUR: 'it returns false'. Refute it at one input. -/
def fnExactNetOkWrong : ChangeSpec := { name := "fnExactNetOk", fn := fun _ => fun
  | [d] => { results := [.lit (.bool false)], args := [d] }
  | _ => none }
def FnExactNetOkWrongFalsely : Prop := fnExactNetOkRow.holds Try.pinned (OpenSpec.ofChange fnExactNetOkWrong)

/-- 'laws.FnExactShed': WHATEVER THE INPUT: true; the input reads as it did. -/
def fnExactShedSpec : ChangeSpec := { name := "fnExactShed", fn := fun _ => fun
  | [d] => { results := [.lit (.bool true)], args := [d] }
  | _ => none }
def fnExactShedRow : OpenClaim := { program := "ytfahhjgpgccdhap", sum := "5eda63912e03299fa6f135d3624c9f4a10ea9d09b28c1e720a47bbfbee1f2dec", func := "loop.example/g00063/laws.FnExactShed", spec := "fnExactShed", recurses := true, apart := false }
def FnExactShedSaid : Prop := fnExactShedRow.holds Try.pinned (OpenSpec.ofChange fnExactShedSpec)

/-- ITS FALSE NEIGHBOUR: 'it returns false'. Refute it at one input. -/
def fnExactShedWrong : ChangeSpec := { name := "fnExactShed", fn := fun _ => fun
  | [d] => { results := [.lit (.bool false)], args := [d] }
  | _ => none }
def FnExactShedWrongFalsely : Prop := fnExactShedRow.holds Try.pinned (OpenSpec.ofChange fnExactShedWrong)

/-- 'laws.FnExactCloseFor': WHATEVER THE INPUT: true; the input reads as it did. -/
def fnExactCloseForSpec : ChangeSpec := { name := "fnExactCloseFor", fn := fun _ => fun
  | [d1, d2] => { results := [.lit (.bool true)], args := [d1, d2] }
  | _ => none }
def fnExactCloseForRow : OpenClaim := { program := "ytfahhjgpgccdhap", sum := "5eda63912e03299fa6f135d3624c9f4a10ea9d09b28c1e720a47bbfbee1f2dec", func := "loop.example/g00063/laws.FnExactCloseFor", spec := "fnExactCloseFor", recurses := true, apart := false }
def FnExactCloseForSaid : Prop := fnExactCloseForRow.holds Try.pinned (OpenSpec.ofChange fnExactCloseForSpec)

/-- ITS FALSE NEIGHBOUR: 'it returns false'. Refute it at one input. -/
def fnExactCloseForWrong : ChangeSpec := { name := "fnExactCloseFor", fn := fun _ => fun
  | [d1, d2] => { results := [.lit (.bool false)], args := [d1, d2] }
  | _ => none }
def FnExactCloseForWrongFalsely : Prop := fnExactCloseForRow.holds Try.pinned (OpenSpec.ofChange fnExactCloseForWrong)

/-- 'laws.FnExactLasts': WHATEVER THE INPUT: true; the input reads as it did. -/
def fnExactLastsSpec : ChangeSpec := { name := "fnExactLasts", fn := fun _ => fun
  | [d1, d2] => { results := [.lit (.bool true)], args := [d1, d2] }
  | _ => none }
def fnExactLastsRow : OpenClaim := { program := "ytfahhjgpgccdhap", sum := "5eda63912e03299fa6f135d3624c9f4a10ea9d09b28c1e720a47bbfbee1f2dec", func := "loop.example/g00063/laws.FnExactLasts", spec := "fnExactLasts", apart := false }
def FnExactLastsSaid : Prop := fnExactLastsRow.holds Try.pinned (OpenSpec.ofChange fnExactLastsSpec)

/-- ITS FALSE NEIGHBOUR: 'it returns false'. Refute it at one input. -/
def fnExactLastsWrong : ChangeSpec := { name := "fnExactLasts", fn := fun _ => fun
  | [d1, d2] => { results := [.lit (.bool false)], args := [d1, d2] }
  | _ => none }
def FnExactLastsWrongFalsely : Prop := fnExactLastsRow.holds Try.pinned (OpenSpec.ofChange fnExactLastsWrong)

/-- 'laws.FnExactPumpTick': WHATEVER THE INPUT: true; the input reads as it did. -/
def fnExactPumpTickSpec : ChangeSpec := { name := "fnExactPumpTick", fn := fun _ => fun
  | [d1, d2, d3] => { results := [.lit (.bool true)], args := [d1, d2, d3] }
  | _ => none }
def fnExactPumpTickRow : OpenClaim := { program := "ytfahhjgpgccdhap", sum := "5eda63912e03299fa6f135d3624c9f4a10ea9d09b28c1e720a47bbfbee1f2dec", func := "loop.example/g00063/laws.FnExactPumpTick", spec := "fnExactPumpTick", apart := false }
def FnExactPumpTickSaid : Prop := fnExactPumpTickRow.holds Try.pinned (OpenSpec.ofChange fnExactPumpTickSpec)

/-- ITS FALSE NEIGHBOUR: 'it returns false'. Refute it at one input. -/
def fnExactPumpTickWrong : ChangeSpec := { name := "fnExactPumpTick", fn := fun _ => fun
  | [d1, d2, d3] => { results := [.lit (.bool false)], args := [d1, d2, d3] }
  | _ => none }
def FnExactPumpTickWrongFalsely : Prop := fnExactPumpTickRow.holds Try.pinned (OpenSpec.ofChange fnExactPumpTickWrong)

/- THE SECOND FORM. 'bulk': how many values and letters a reading holds, each counted each time it is reached (what is shared counts as often as it is met; a slice's spare places count too). A statement '..UptoSaid' is the law's where the arguments, and the package variables that the reading takes, are together of bulk at most 1048576: NARROWER than '..Said'. Prove '..Said' where nothing that the law and all that it calls make is longer than what came in: it says more and counts as full. Else prove '..UptoSaid'. A law counts once. -/
mutual
def uptoBulk {H : Type} : DataW H → Nat
  | .lit (.string bytes) => bytes.length + 1
  | .lit _ => 1
  | .nil => 1
  | .ptr d => uptoBulk d + 1
  | .slice elems spare => uptoBulkAll elems + uptoBulkAll spare + 1
  | .agg parts => uptoBulkAll parts + 1
  | .iface _ d => uptoBulk d + 1
  | .map entries => uptoBulkEntries entries + 1
  | .held _ => 1
def uptoBulkAll {H : Type} : List (DataW H) → Nat
  | [] => 0
  | d :: r => uptoBulk d + uptoBulkAll r
def uptoBulkEntries {H : Type} : List (Lit × DataW H) → Nat
  | [] => 0
  | x :: r => uptoBulkEntry x + uptoBulkEntries r
def uptoBulkEntry {H : Type} : Lit × DataW H → Nat
  | (.string bytes, d) => bytes.length + uptoBulk d + 1
  | (_, d) => uptoBulk d + 1
 end
def uptoSmall : (H : Type) → List (DataW H) → Bool := fun _ ds => decide (uptoBulkAll ds ≤ 1048576)
def OpenSpec.upto (s : _root_.Go.ChangeSpec) : _root_.Go.OpenSpec := { _root_.Go.OpenSpec.ofChange s with cond := some uptoSmall }

/-- 'laws.FnExactNetOk', WHERE WHAT IT READS IS OF BULK AT MOST 1048576: true; the input reads as it did. -/
def fnExactNetOkUptoRow : OpenClaim := { program := "ytfahhjgpgccdhap", sum := "5eda63912e03299fa6f135d3624c9f4a10ea9d09b28c1e720a47bbfbee1f2dec", func := "loop.example/g00063/laws.FnExactNetOk", spec := "fnExactNetOk", apart := false, narrowed := true }
def FnExactNetOkUptoSaid : Prop := fnExactNetOkUptoRow.holds Try.pinned (OpenSpec.upto fnExactNetOkSpec)

/-- 'laws.FnExactShed', WHERE WHAT IT READS IS OF BULK AT MOST 1048576: true; the input reads as it did. -/
def fnExactShedUptoRow : OpenClaim := { program := "ytfahhjgpgccdhap", sum := "5eda63912e03299fa6f135d3624c9f4a10ea9d09b28c1e720a47bbfbee1f2dec", func := "loop.example/g00063/laws.FnExactShed", spec := "fnExactShed", recurses := true, apart := false, narrowed := true }
def FnExactShedUptoSaid : Prop := fnExactShedUptoRow.holds Try.pinned (OpenSpec.upto fnExactShedSpec)

/-- 'laws.FnExactCloseFor', WHERE WHAT IT READS IS OF BULK AT MOST 1048576: true; the input reads as it did. -/
def fnExactCloseForUptoRow : OpenClaim := { program := "ytfahhjgpgccdhap", sum := "5eda63912e03299fa6f135d3624c9f4a10ea9d09b28c1e720a47bbfbee1f2dec", func := "loop.example/g00063/laws.FnExactCloseFor", spec := "fnExactCloseFor", recurses := true, apart := false, narrowed := true }
def FnExactCloseForUptoSaid : Prop := fnExactCloseForUptoRow.holds Try.pinned (OpenSpec.upto fnExactCloseForSpec)

/-- 'laws.FnExactLasts', WHERE WHAT IT READS IS OF BULK AT MOST 1048576: true; the input reads as it did. -/
def fnExactLastsUptoRow : OpenClaim := { program := "ytfahhjgpgccdhap", sum := "5eda63912e03299fa6f135d3624c9f4a10ea9d09b28c1e720a47bbfbee1f2dec", func := "loop.example/g00063/laws.FnExactLasts", spec := "fnExactLasts", apart := false, narrowed := true }
def FnExactLastsUptoSaid : Prop := fnExactLastsUptoRow.holds Try.pinned (OpenSpec.upto fnExactLastsSpec)

/-- 'laws.FnExactPumpTick', WHERE WHAT IT READS IS OF BULK AT MOST 1048576: true; the input reads as it did. -/
def fnExactPumpTickUptoRow : OpenClaim := { program := "ytfahhjgpgccdhap", sum := "5eda63912e03299fa6f135d3624c9f4a10ea9d09b28c1e720a47bbfbee1f2dec", func := "loop.example/g00063/laws.FnExactPumpTick", spec := "fnExactPumpTick", apart := false, narrowed := true }
def FnExactPumpTickUptoSaid : Prop := fnExactPumpTickUptoRow.holds Try.pinned (OpenSpec.upto fnExactPumpTickSpec)

end Rows
end Go.Proofs.Ytfahhjgpgccdhap
