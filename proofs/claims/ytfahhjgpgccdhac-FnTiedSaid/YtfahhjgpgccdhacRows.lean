/-
  No cell of these rows narrows 'for every input' (looked for: loops, veiled, ifaces, maps, wideKeys, modest, calm, conditions, laid).
  DERIVED. THE GIVEN ROWS OF THIS SEAT. 4 by the template 'for every input the law returns true; each argument reads behind the call as it read before'; 0 by the template 'total and deterministic' (their statements: YtfahhjgpgccdhacTotals.lean).
  GIVEN WITH THE SEED: the statements are not yours to turn. If you find one false, say at which input.
  Laid BY PROGRAM, IN A SANDBOX (cutbox-rows.mjs): the forced cells as the released guide's own fill.sh prints them over the translation fd129c094e410f48… (all of the seat's roots in one cut). By AI agents, Wed Nov 11 2026. No macro, syntax, notation, axiom, sorry.
-/
import Derived.Test.YtfahhjgpgccdhacChecked
import GoSem.Claim
import GoSem.ClaimJoined
import GoSem.ClaimMapViews
import Derived.JoinedTies
import Derived.KernelRfl
namespace Go.Proofs.Ytfahhjgpgccdhac
/- THE CELL 'sum', in the pinned program and in every row, IS THE sha256 OF THE DUMP (.gsa) THAT YtfahhjgpgccdhacProg.lean LOADS. Nothing in Lean hashes anything: it is a label: what it is worth is what the hold of that sum in a sandbox is worth. -/
noncomputable def Try.pinned : Pinned := { name := "ytfahhjgpgccdhac", sum := "fd129c094e410f48f9550eabecbc173e39e4406a6ca8faeefd8340bfa3851533", checked := Try.checked }
namespace Rows
def none {H : Type} : Left H := { results := [], args := [] }

/-- 'laws.FnCracks': WHATEVER THE INPUT: true; the input reads as it did. -/
def fnCracksSpec : ChangeSpec := { name := "fnCracks", fn := fun _ => fun
  | [d] => { results := [.lit (.bool true)], args := [d] }
  | _ => none }
def fnCracksRow : OpenClaim := { program := "ytfahhjgpgccdhac", sum := "fd129c094e410f48f9550eabecbc173e39e4406a6ca8faeefd8340bfa3851533", func := "loop.example/g00063/laws.FnCracks", spec := "fnCracks", apart := false }
def FnCracksSaid : Prop := fnCracksRow.holds Try.pinned (OpenSpec.ofChange fnCracksSpec)

/-- ITS FALSE NEIGHBOUR: 'it returns false'. Refute it at one input. -/
def fnCracksWrong : ChangeSpec := { name := "fnCracks", fn := fun _ => fun
  | [d] => { results := [.lit (.bool false)], args := [d] }
  | _ => none }
def FnCracksWrongFalsely : Prop := fnCracksRow.holds Try.pinned (OpenSpec.ofChange fnCracksWrong)

/-- 'laws.FnLives': WHATEVER THE INPUT: true; the input reads as it did. -/
def fnLivesSpec : ChangeSpec := { name := "fnLives", fn := fun _ => fun
  | [d] => { results := [.lit (.bool true)], args := [d] }
  | _ => none }
def fnLivesRow : OpenClaim := { program := "ytfahhjgpgccdhac", sum := "fd129c094e410f48f9550eabecbc173e39e4406a6ca8faeefd8340bfa3851533", func := "loop.example/g00063/laws.FnLives", spec := "fnLives", unfollowed := true, recurses := true, apart := false }
def FnLivesSaid : Prop := fnLivesRow.holds Try.pinned (OpenSpec.ofChange fnLivesSpec)

/-- ITS FALSE NEIGHBOUR: 'it returns false'. Refute it at one input. -/
def fnLivesWrong : ChangeSpec := { name := "fnLives", fn := fun _ => fun
  | [d] => { results := [.lit (.bool false)], args := [d] }
  | _ => none }
def FnLivesWrongFalsely : Prop := fnLivesRow.holds Try.pinned (OpenSpec.ofChange fnLivesWrong)

/-- 'laws.FnTied': WHATEVER THE INPUT: true; the input reads as it did. -/
def fnTiedSpec : ChangeSpec := { name := "fnTied", fn := fun _ => fun
  | [d] => { results := [.lit (.bool true)], args := [d] }
  | _ => none }
def fnTiedRow : OpenClaim := { program := "ytfahhjgpgccdhac", sum := "fd129c094e410f48f9550eabecbc173e39e4406a6ca8faeefd8340bfa3851533", func := "loop.example/g00063/laws.FnTied", spec := "fnTied", recurses := true, apart := false }
def FnTiedSaid : Prop := fnTiedRow.holds Try.pinned (OpenSpec.ofChange fnTiedSpec)

/-- ITS FALSE NEIGHBOUR: 'it returns false'. Refute it at one input. -/
def fnTiedWrong : ChangeSpec := { name := "fnTied", fn := fun _ => fun
  | [d] => { results := [.lit (.bool false)], args := [d] }
  | _ => none }
def FnTiedWrongFalsely : Prop := fnTiedRow.holds Try.pinned (OpenSpec.ofChange fnTiedWrong)

/-- 'laws.FnBattery': WHATEVER THE INPUT: true; the input reads as it did. -/
def fnBatterySpec : ChangeSpec := { name := "fnBattery", fn := fun _ => fun
  | [d] => { results := [.lit (.bool true)], args := [d] }
  | _ => none }
def fnBatteryRow : OpenClaim := { program := "ytfahhjgpgccdhac", sum := "fd129c094e410f48f9550eabecbc173e39e4406a6ca8faeefd8340bfa3851533", func := "loop.example/g00063/laws.FnBattery", spec := "fnBattery", apart := false }
def FnBatterySaid : Prop := fnBatteryRow.holds Try.pinned (OpenSpec.ofChange fnBatterySpec)

/-- ITS FALSE NEIGHBOUR: 'it returns false'. Refute it at one input. -/
def fnBatteryWrong : ChangeSpec := { name := "fnBattery", fn := fun _ => fun
  | [d] => { results := [.lit (.bool false)], args := [d] }
  | _ => none }
def FnBatteryWrongFalsely : Prop := fnBatteryRow.holds Try.pinned (OpenSpec.ofChange fnBatteryWrong)

/- THE SECOND FORM. 'bulk': how many values and letters a reading holds, each counted each time it is reached (what is shared counts as often as it is met; a slice's spare places count too). A statement '..UptoSaid' is the law's where the arguments, and the package variables that the reading takes, are together of bulk at most 1048576: NARROWER than '..Said'. Prove '..Said' where nothing that the law and all that it calls make is longer than what came in: it says more and counts as full. Else prove '..UptoSaid'. A law counts once. -/
mutual
def uptoBulk {H : Type} : DataW H → Nat
  | .lit (.string bytes) => bytes.length + 1
  | .lit _ => 1
  | .nil => 1
  | .ptr d => uptoBulk d + 1
  | .slice elems spare => uptoBulkAll elems + uptoBulkAll spare + 1
  | .agg parts => uptoBulkAll parts + 1
  | .iface _ d => uptoBulk d + 1
  | .map entries => uptoBulkEntries entries + 1
  | .held _ => 1
def uptoBulkAll {H : Type} : List (DataW H) → Nat
  | [] => 0
  | d :: r => uptoBulk d + uptoBulkAll r
def uptoBulkEntries {H : Type} : List (Lit × DataW H) → Nat
  | [] => 0
  | x :: r => uptoBulkEntry x + uptoBulkEntries r
def uptoBulkEntry {H : Type} : Lit × DataW H → Nat
  | (.string bytes, d) => bytes.length + uptoBulk d + 1
  | (_, d) => uptoBulk d + 1
 end
def uptoSmall : (H : Type) → List (DataW H) → Bool := fun _ ds => decide (uptoBulkAll ds ≤ 1048576)
def OpenSpec.upto (s : _root_.Go.ChangeSpec) : _root_.Go.OpenSpec := { _root_.Go.OpenSpec.ofChange s with cond := some uptoSmall }

/-- 'laws.FnCracks', WHERE WHAT IT READS IS OF BULK AT MOST 1048576: true; the input reads as it did. -/
def fnCracksUptoRow : OpenClaim := { program := "ytfahhjgpgccdhac", sum := "fd129c094e410f48f9550eabecbc173e39e4406a6ca8faeefd8340bfa3851533", func := "loop.example/g00063/laws.FnCracks", spec := "fnCracks", apart := false, narrowed := true }
def FnCracksUptoSaid : Prop := fnCracksUptoRow.holds Try.pinned (OpenSpec.upto fnCracksSpec)

/-- 'laws.FnLives', WHERE WHAT IT READS IS OF BULK AT MOST 1048576: true; the input reads as it did. -/
def fnLivesUptoRow : OpenClaim := { program := "ytfahhjgpgccdhac", sum := "fd129c094e410f48f9550eabecbc173e39e4406a6ca8faeefd8340bfa3851533", func := "loop.example/g00063/laws.FnLives", spec := "fnLives", unfollowed := true, recurses := true, apart := false, narrowed := true }
def FnLivesUptoSaid : Prop := fnLivesUptoRow.holds Try.pinned (OpenSpec.upto fnLivesSpec)

/-- 'laws.FnTied', WHERE WHAT IT READS IS OF BULK AT MOST 1048576: true; the input reads as it did. -/
def fnTiedUptoRow : OpenClaim := { program := "ytfahhjgpgccdhac", sum := "fd129c094e410f48f9550eabecbc173e39e4406a6ca8faeefd8340bfa3851533", func := "loop.example/g00063/laws.FnTied", spec := "fnTied", recurses := true, apart := false, narrowed := true }
def FnTiedUptoSaid : Prop := fnTiedUptoRow.holds Try.pinned (OpenSpec.upto fnTiedSpec)

/-- 'laws.FnBattery', WHERE WHAT IT READS IS OF BULK AT MOST 1048576: true; the input reads as it did. -/
def fnBatteryUptoRow : OpenClaim := { program := "ytfahhjgpgccdhac", sum := "fd129c094e410f48f9550eabecbc173e39e4406a6ca8faeefd8340bfa3851533", func := "loop.example/g00063/laws.FnBattery", spec := "fnBattery", apart := false, narrowed := true }
def FnBatteryUptoSaid : Prop := fnBatteryUptoRow.holds Try.pinned (OpenSpec.upto fnBatterySpec)

end Rows
end Go.Proofs.Ytfahhjgpgccdhac
