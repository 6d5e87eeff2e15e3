/-
  No cell of these rows narrows 'for every input' (looked for: loops, veiled, ifaces, maps, wideKeys, modest, calm, conditions, laid).
  DERIVED. THE GIVEN ROWS OF THIS SEAT. 6 by the template 'for every input the law returns true; each argument reads behind the call as it read before'; 0 by the template 'total and deterministic' (their statements: YtndhiecakojjgazTotals.lean).
  GIVEN WITH THE SEED: the statements are not yours to turn. If you find one false, say at which input.
  Laid BY PROGRAM, IN A SANDBOX (cutbox-rows.mjs): the forced cells as the released guide's own fill.sh prints them over the translation 8f93d84d4c819a2e… (all of the seat's roots in one cut). By AI agents, Wed Nov 11 2026. No macro, syntax, notation, axiom, sorry.
-/
import Derived.Test.YtndhiecakojjgazChecked
import GoSem.Claim
import GoSem.ClaimJoined
import GoSem.ClaimMapViews
import Derived.JoinedTies
import Derived.KernelRfl
namespace Go.Proofs.Ytndhiecakojjgaz
/- THE CELL 'sum', in the pinned program and in every row, IS THE sha256 OF THE DUMP (.gsa) THAT YtndhiecakojjgazProg.lean LOADS. Nothing in Lean hashes anything: it is a label: what it is worth is what the hold of that sum in a sandbox is worth. -/
noncomputable def Try.pinned : Pinned := { name := "ytndhiecakojjgaz", sum := "8f93d84d4c819a2ebd46dd119fbdef6b6283b3c0f5ea8da536ac6657a1e49bab", checked := Try.checked }
namespace Rows
def none {H : Type} : Left H := { results := [], args := [] }

/-- 'laws.FnExactSlot16': WHATEVER THE INPUT: true; the input reads as it did. -/
def fnExactSlot16Spec : ChangeSpec := { name := "fnExactSlot16", fn := fun _ => fun
  | [d1, d2] => { results := [.lit (.bool true)], args := [d1, d2] }
  | _ => none }
def fnExactSlot16Row : OpenClaim := { program := "ytndhiecakojjgaz", sum := "8f93d84d4c819a2ebd46dd119fbdef6b6283b3c0f5ea8da536ac6657a1e49bab", func := "loop.example/g00063/laws.FnExactSlot16", spec := "fnExactSlot16", apart := false }
def FnExactSlot16Said : Prop := fnExactSlot16Row.holds Try.pinned (OpenSpec.ofChange fnExactSlot16Spec)

/-- ITS FALSE NEIGHBOUR: 'it returns false'. Refute it at one input. -/
def fnExactSlot16Wrong : ChangeSpec := { name := "fnExactSlot16", fn := fun _ => fun
  | [d1, d2] => { results := [.lit (.bool false)], args := [d1, d2] }
  | _ => none }
def FnExactSlot16WrongFalsely : Prop := fnExactSlot16Row.holds Try.pinned (OpenSpec.ofChange fnExactSlot16Wrong)

/-- 'laws.FnExactGap16': WHATEVER THE INPUT: true; the input reads as it did. -/
def fnExactGap16Spec : ChangeSpec := { name := "fnExactGap16", fn := fun _ => fun
  | [d1, d2] => { results := [.lit (.bool true)], args := [d1, d2] }
  | _ => none }
def fnExactGap16Row : OpenClaim := { program := "ytndhiecakojjgaz", sum := "8f93d84d4c819a2ebd46dd119fbdef6b6283b3c0f5ea8da536ac6657a1e49bab", func := "loop.example/g00063/laws.FnExactGap16", spec := "fnExactGap16", apart := false }
def FnExactGap16Said : Prop := fnExactGap16Row.holds Try.pinned (OpenSpec.ofChange fnExactGap16Spec)

/-- ITS FALSE NEIGHBOUR: 'it returns false'. Refute it at one input. -/
def fnExactGap16Wrong : ChangeSpec := { name := "fnExactGap16", fn := fun _ => fun
  | [d1, d2] => { results := [.lit (.bool false)], args := [d1, d2] }
  | _ => none }
def FnExactGap16WrongFalsely : Prop := fnExactGap16Row.holds Try.pinned (OpenSpec.ofChange fnExactGap16Wrong)

/-- 'laws.FnExactPlanOk': WHATEVER THE INPUT: true; the input reads as it did. -/
def fnExactPlanOkSpec : ChangeSpec := { name := "fnExactPlanOk", fn := fun _ => fun
  | [d] => { results := [.lit (.bool true)], args := [d] }
  | _ => none }
def fnExactPlanOkRow : OpenClaim := { program := "ytndhiecakojjgaz", sum := "8f93d84d4c819a2ebd46dd119fbdef6b6283b3c0f5ea8da536ac6657a1e49bab", func := "loop.example/g00063/laws.FnExactPlanOk", spec := "fnExactPlanOk", inPlace := ["sync/atomic.AddInt64", "sync/atomic.LoadInt64"], apart := false }
def FnExactPlanOkSaid : Prop := fnExactPlanOkRow.holds Try.pinned (OpenSpec.ofChange fnExactPlanOkSpec)

/-- ITS FALSE NEIGHBOUR: 'it returns false'. Refute it at one input. -/
def fnExactPlanOkWrong : ChangeSpec := { name := "fnExactPlanOk", fn := fun _ => fun
  | [d] => { results := [.lit (.bool false)], args := [d] }
  | _ => none }
def FnExactPlanOkWrongFalsely : Prop := fnExactPlanOkRow.holds Try.pinned (OpenSpec.ofChange fnExactPlanOkWrong)

/-- 'laws.FnExactOwner': WHATEVER THE INPUT: true; the input reads as it did. -/
def fnExactOwnerSpec : ChangeSpec := { name := "fnExactOwner", fn := fun _ => fun
  | [d1, d2] => { results := [.lit (.bool true)], args := [d1, d2] }
  | _ => none }
def fnExactOwnerRow : OpenClaim := { program := "ytndhiecakojjgaz", sum := "8f93d84d4c819a2ebd46dd119fbdef6b6283b3c0f5ea8da536ac6657a1e49bab", func := "loop.example/g00063/laws.FnExactOwner", spec := "fnExactOwner", inPlace := ["sync/atomic.AddInt64", "sync/atomic.LoadInt64"], apart := false }
def FnExactOwnerSaid : Prop := fnExactOwnerRow.holds Try.pinned (OpenSpec.ofChange fnExactOwnerSpec)

/-- ITS FALSE NEIGHBOUR: 'it returns false'. Refute it at one input. -/
def fnExactOwnerWrong : ChangeSpec := { name := "fnExactOwner", fn := fun _ => fun
  | [d1, d2] => { results := [.lit (.bool false)], args := [d1, d2] }
  | _ => none }
def FnExactOwnerWrongFalsely : Prop := fnExactOwnerRow.holds Try.pinned (OpenSpec.ofChange fnExactOwnerWrong)

/-- 'laws.FnExactShare': WHATEVER THE INPUT: true; the input reads as it did. -/
def fnExactShareSpec : ChangeSpec := { name := "fnExactShare", fn := fun _ => fun
  | [d1, d2] => { results := [.lit (.bool true)], args := [d1, d2] }
  | _ => none }
def fnExactShareRow : OpenClaim := { program := "ytndhiecakojjgaz", sum := "8f93d84d4c819a2ebd46dd119fbdef6b6283b3c0f5ea8da536ac6657a1e49bab", func := "loop.example/g00063/laws.FnExactShare", spec := "fnExactShare", inPlace := ["sync/atomic.AddInt64", "sync/atomic.LoadInt64"], apart := false }
def FnExactShareSaid : Prop := fnExactShareRow.holds Try.pinned (OpenSpec.ofChange fnExactShareSpec)

/-- ITS FALSE NEIGHBOUR: 'it returns false'. Refute it at one input. -/
def fnExactShareWrong : ChangeSpec := { name := "fnExactShare", fn := fun _ => fun
  | [d1, d2] => { results := [.lit (.bool false)], args := [d1, d2] }
  | _ => none }
def FnExactShareWrongFalsely : Prop := fnExactShareRow.holds Try.pinned (OpenSpec.ofChange fnExactShareWrong)

/-- 'laws.FnExactRunJobs': WHATEVER THE INPUT: true; the input reads as it did. -/
def fnExactRunJobsSpec : ChangeSpec := { name := "fnExactRunJobs", fn := fun _ => fun
  | [d1, d2, d3] => { results := [.lit (.bool true)], args := [d1, d2, d3] }
  | _ => none }
def fnExactRunJobsRow : OpenClaim := { program := "ytndhiecakojjgaz", sum := "8f93d84d4c819a2ebd46dd119fbdef6b6283b3c0f5ea8da536ac6657a1e49bab", func := "loop.example/g00063/laws.FnExactRunJobs", spec := "fnExactRunJobs", inPlace := ["sync/atomic.AddInt64", "sync/atomic.LoadInt64"], apart := false }
def FnExactRunJobsSaid : Prop := fnExactRunJobsRow.holds Try.pinned (OpenSpec.ofChange fnExactRunJobsSpec)

/-- ITS FALSE NEIGHBOUR: 'it returns false'. Refute it at one input. -/
def fnExactRunJobsWrong : ChangeSpec := { name := "fnExactRunJobs", fn := fun _ => fun
  | [d1, d2, d3] => { results := [.lit (.bool false)], args := [d1, d2, d3] }
  | _ => none }
def FnExactRunJobsWrongFalsely : Prop := fnExactRunJobsRow.holds Try.pinned (OpenSpec.ofChange fnExactRunJobsWrong)

/- THE SECOND FORM. 'bulk': how many values and letters a reading holds, each counted each time it is reached (what is shared counts as often as it is met; a slice's spare places count too). A statement '..UptoSaid' is the law's where the arguments, and the package variables that the reading takes, are together of bulk at most 1048576: NARROWER than '..Said'. Prove '..Said' where nothing that the law and all that it calls make is longer than what came in: it says more and counts as full. Else prove '..UptoSaid'. A law counts once. -/
mutual
def uptoBulk {H : Type} : DataW H → Nat
  | .lit (.string bytes) => bytes.length + 1
  | .lit _ => 1
  | .nil => 1
  | .ptr d => uptoBulk d + 1
  | .slice elems spare => uptoBulkAll elems + uptoBulkAll spare + 1
  | .agg parts => uptoBulkAll parts + 1
  | .iface _ d => uptoBulk d + 1
  | .map entries => uptoBulkEntries entries + 1
  | .held _ => 1
def uptoBulkAll {H : Type} : List (DataW H) → Nat
  | [] => 0
  | d :: r => uptoBulk d + uptoBulkAll r
def uptoBulkEntries {H : Type} : List (Lit × DataW H) → Nat
  | [] => 0
  | x :: r => uptoBulkEntry x + uptoBulkEntries r
def uptoBulkEntry {H : Type} : Lit × DataW H → Nat
  | (.string bytes, d) => bytes.length + uptoBulk d + 1
  | (_, d) => uptoBulk d + 1
 end
def uptoSmall : (H : Type) → List (DataW H) → Bool := fun _ ds => decide (uptoBulkAll ds ≤ 1048576)
def OpenSpec.upto (s : _root_.Go.ChangeSpec) : _root_.Go.OpenSpec := { _root_.Go.OpenSpec.ofChange s with cond := some uptoSmall }

/-- 'laws.FnExactSlot16', WHERE WHAT IT READS IS OF BULK AT MOST 1048576: true; the input reads as it did. -/
def fnExactSlot16UptoRow : OpenClaim := { program := "ytndhiecakojjgaz", sum := "8f93d84d4c819a2ebd46dd119fbdef6b6283b3c0f5ea8da536ac6657a1e49bab", func := "loop.example/g00063/laws.FnExactSlot16", spec := "fnExactSlot16", apart := false, narrowed := true }
def FnExactSlot16UptoSaid : Prop := fnExactSlot16UptoRow.holds Try.pinned (OpenSpec.upto fnExactSlot16Spec)

/-- 'laws.FnExactGap16', WHERE WHAT IT READS IS OF BULK AT MOST 1048576: true; the input reads as it did. -/
def fnExactGap16UptoRow : OpenClaim := { program := "ytndhiecakojjgaz", sum := "8f93d84d4c819a2ebd46dd119fbdef6b6283b3c0f5ea8da536ac6657a1e49bab", func := "loop.example/g00063/laws.FnExactGap16", spec := "fnExactGap16", apart := false, narrowed := true }
def FnExactGap16UptoSaid : Prop := fnExactGap16UptoRow.holds Try.pinned (OpenSpec.upto fnExactGap16Spec)

/-- 'laws.FnExactPlanOk', WHERE WHAT IT READS IS OF BULK AT MOST 1048576: true; the input reads as it did. -/
def fnExactPlanOkUptoRow : OpenClaim := { program := "ytndhiecakojjgaz", sum := "8f93d84d4c819a2ebd46dd119fbdef6b6283b3c0f5ea8da536ac6657a1e49bab", func := "loop.example/g00063/laws.FnExactPlanOk", spec := "fnExactPlanOk", inPlace := ["sync/atomic.AddInt64", "sync/atomic.LoadInt64"], apart := false, narrowed := true }
def FnExactPlanOkUptoSaid : Prop := fnExactPlanOkUptoRow.holds Try.pinned (OpenSpec.upto fnExactPlanOkSpec)

/-- 'laws.FnExactOwner', WHERE WHAT IT READS IS OF BULK AT MOST 1048576: true; the input reads as it did. -/
def fnExactOwnerUptoRow : OpenClaim := { program := "ytndhiecakojjgaz", sum := "8f93d84d4c819a2ebd46dd119fbdef6b6283b3c0f5ea8da536ac6657a1e49bab", func := "loop.example/g00063/laws.FnExactOwner", spec := "fnExactOwner", inPlace := ["sync/atomic.AddInt64", "sync/atomic.LoadInt64"], apart := false, narrowed := true }
def FnExactOwnerUptoSaid : Prop := fnExactOwnerUptoRow.holds Try.pinned (OpenSpec.upto fnExactOwnerSpec)

/-- 'laws.FnExactShare', WHERE WHAT IT READS IS OF BULK AT MOST 1048576: true; the input reads as it did. -/
def fnExactShareUptoRow : OpenClaim := { program := "ytndhiecakojjgaz", sum := "8f93d84d4c819a2ebd46dd119fbdef6b6283b3c0f5ea8da536ac6657a1e49bab", func := "loop.example/g00063/laws.FnExactShare", spec := "fnExactShare", inPlace := ["sync/atomic.AddInt64", "sync/atomic.LoadInt64"], apart := false, narrowed := true }
def FnExactShareUptoSaid : Prop := fnExactShareUptoRow.holds Try.pinned (OpenSpec.upto fnExactShareSpec)

/-- 'laws.FnExactRunJobs', WHERE WHAT IT READS IS OF BULK AT MOST 1048576: true; the input reads as it did. -/
def fnExactRunJobsUptoRow : OpenClaim := { program := "ytndhiecakojjgaz", sum := "8f93d84d4c819a2ebd46dd119fbdef6b6283b3c0f5ea8da536ac6657a1e49bab", func := "loop.example/g00063/laws.FnExactRunJobs", spec := "fnExactRunJobs", inPlace := ["sync/atomic.AddInt64", "sync/atomic.LoadInt64"], apart := false, narrowed := true }
def FnExactRunJobsUptoSaid : Prop := fnExactRunJobsUptoRow.holds Try.pinned (OpenSpec.upto fnExactRunJobsSpec)

end Rows
end Go.Proofs.Ytndhiecakojjgaz
