/-
  NARROWER THAN 'FOR EVERY INPUT', by the rows' own cells (each row's printed sentence says how): FnExactFlyLeg: laid · FnExactFlyRoute: laid · FnExactLegRead: laid.
  DERIVED. THE GIVEN ROWS OF THIS SEAT. 3 by the template 'for every input the law returns true; each argument reads behind the call as it read before'; 0 by the template 'total and deterministic' (their statements: YtkpmoolggpojdauDoorTotals.lean).
  GIVEN WITH THE SEED: the statements are not yours to turn. If you find one false, say at which input.
  Laid BY PROGRAM, IN A SANDBOX (cutbox-rows.mjs): the forced cells as the released guide's own fill.sh prints them over the translation 649b2e7d6260eb08… (all of the seat's roots in one cut). By AI agents, Wed Nov 11 2026. No macro, syntax, notation, axiom, sorry.
-/
import Derived.Test.YtkpmoolggpojdauDoorChecked
import GoSem.Claim
import GoSem.ClaimJoined
import GoSem.ClaimMapViews
import Derived.JoinedTies
import Derived.KernelRfl
namespace Go.Proofs.YtkpmoolggpojdauDoor
/- THE CELL 'sum', in the pinned program and in every row, IS THE sha256 OF THE DUMP (.gsa) THAT YtkpmoolggpojdauDoorProg.lean LOADS. Nothing in Lean hashes anything: it is a label: what it is worth is what the hold of that sum in a sandbox is worth. -/
noncomputable def Tryd.pinned : Pinned := { name := "ytkpmoolggpojdaudoor", sum := "649b2e7d6260eb08da006111127cccb9a48c9b69333c9b3524f6b97347dee9fe", checked := Tryd.checked }
namespace Rows
def none {H : Type} : Left H := { results := [], args := [] }

/- WHAT THE LISTED PACKAGE-LEVEL VARIABLES READ AS WHEN THE CALL BEGINS. Each datum BY PROGRAM (the guide's laid-datum.mjs) off the statement by which the dump's own 'gosem.cut.vars' lays the variable. In a bare row this is a premise. The card (YtkpmoolggpojdauDoorCards.lean) ties it to the program's text. -/
def laid_loop_example_g00063_impl_directionSteps {H : Type} : DataW H := .agg [.agg [.lit (.int .i64 0), .lit (.int .i64 1)], .agg [.lit (.int .i64 1), .lit (.int .i64 1)], .agg [.lit (.int .i64 1), .lit (.int .i64 0)], .agg [.lit (.int .i64 1), .lit (.int .i64 (-1))], .agg [.lit (.int .i64 0), .lit (.int .i64 (-1))], .agg [.lit (.int .i64 (-1)), .lit (.int .i64 (-1))], .agg [.lit (.int .i64 (-1)), .lit (.int .i64 0)], .agg [.lit (.int .i64 (-1)), .lit (.int .i64 1)]]
def laid_loop_example_g00063_impl_directionWords {H : Type} : DataW H := .agg [.lit (.string [110]), .lit (.string [110, 101]), .lit (.string [101]), .lit (.string [115, 101]), .lit (.string [115]), .lit (.string [115, 119]), .lit (.string [119]), .lit (.string [110, 119])]

/-- 'laws.FnExactFlyLeg': WHATEVER THE INPUT: true; the input reads as it did. -/
def fnExactFlyLegSpec : ChangeSpec := { name := "fnExactFlyLeg", vars := ["loop.example/g00063/impl.directionSteps"], fn := fun _ => fun
  | [d1, d2, g1] => { results := [.lit (.bool true)], args := [d1, d2], vars := [g1] }
  | _ => none }
def fnExactFlyLegRow : OpenClaim := { program := "ytkpmoolggpojdaudoor", sum := "649b2e7d6260eb08da006111127cccb9a48c9b69333c9b3524f6b97347dee9fe", func := "loop.example/g00063/laws.FnExactFlyLeg", spec := "fnExactFlyLeg", unfollowed := true, recurses := true, named := ["loop.example/g00063/impl.directionSteps"], apart := false, laid := [("loop.example/g00063/impl.directionSteps", laid_loop_example_g00063_impl_directionSteps)] }
def FnExactFlyLegSaid : Prop := fnExactFlyLegRow.holds Tryd.pinned (OpenSpec.ofChange fnExactFlyLegSpec)

/-- ITS FALSE NEIGHBOUR: 'it returns false'. Refute it at one input. -/
def fnExactFlyLegWrong : ChangeSpec := { name := "fnExactFlyLeg", vars := ["loop.example/g00063/impl.directionSteps"], fn := fun _ => fun
  | [d1, d2, g1] => { results := [.lit (.bool false)], args := [d1, d2], vars := [g1] }
  | _ => none }
def FnExactFlyLegWrongFalsely : Prop := fnExactFlyLegRow.holds Tryd.pinned (OpenSpec.ofChange fnExactFlyLegWrong)

/-- 'laws.FnExactFlyRoute': WHATEVER THE INPUT: true; the input reads as it did. -/
def fnExactFlyRouteSpec : ChangeSpec := { name := "fnExactFlyRoute", vars := ["loop.example/g00063/impl.directionSteps"], fn := fun _ => fun
  | [d1, d2, g1] => { results := [.lit (.bool true)], args := [d1, d2], vars := [g1] }
  | _ => none }
def fnExactFlyRouteRow : OpenClaim := { program := "ytkpmoolggpojdaudoor", sum := "649b2e7d6260eb08da006111127cccb9a48c9b69333c9b3524f6b97347dee9fe", func := "loop.example/g00063/laws.FnExactFlyRoute", spec := "fnExactFlyRoute", unfollowed := true, recurses := true, named := ["loop.example/g00063/impl.directionSteps"], apart := false, laid := [("loop.example/g00063/impl.directionSteps", laid_loop_example_g00063_impl_directionSteps)] }
def FnExactFlyRouteSaid : Prop := fnExactFlyRouteRow.holds Tryd.pinned (OpenSpec.ofChange fnExactFlyRouteSpec)

/-- ITS FALSE NEIGHBOUR: 'it returns false'. Refute it at one input. -/
def fnExactFlyRouteWrong : ChangeSpec := { name := "fnExactFlyRoute", vars := ["loop.example/g00063/impl.directionSteps"], fn := fun _ => fun
  | [d1, d2, g1] => { results := [.lit (.bool false)], args := [d1, d2], vars := [g1] }
  | _ => none }
def FnExactFlyRouteWrongFalsely : Prop := fnExactFlyRouteRow.holds Tryd.pinned (OpenSpec.ofChange fnExactFlyRouteWrong)

/-- 'laws.FnExactLegRead': WHATEVER THE INPUT: true; the input reads as it did. -/
def fnExactLegReadSpec : ChangeSpec := { name := "fnExactLegRead", vars := ["loop.example/g00063/impl.directionWords"], fn := fun _ => fun
  | [d, g1] => { results := [.lit (.bool true)], args := [d], vars := [g1] }
  | _ => none }
def fnExactLegReadRow : OpenClaim := { program := "ytkpmoolggpojdaudoor", sum := "649b2e7d6260eb08da006111127cccb9a48c9b69333c9b3524f6b97347dee9fe", func := "loop.example/g00063/laws.FnExactLegRead", spec := "fnExactLegRead", unfollowed := true, recurses := true, named := ["loop.example/g00063/impl.directionWords"], apart := false, laid := [("loop.example/g00063/impl.directionWords", laid_loop_example_g00063_impl_directionWords)] }
def FnExactLegReadSaid : Prop := fnExactLegReadRow.holds Tryd.pinned (OpenSpec.ofChange fnExactLegReadSpec)

/-- ITS FALSE NEIGHBOUR: 'it returns false'. Refute it at one input. -/
def fnExactLegReadWrong : ChangeSpec := { name := "fnExactLegRead", vars := ["loop.example/g00063/impl.directionWords"], fn := fun _ => fun
  | [d, g1] => { results := [.lit (.bool false)], args := [d], vars := [g1] }
  | _ => none }
def FnExactLegReadWrongFalsely : Prop := fnExactLegReadRow.holds Tryd.pinned (OpenSpec.ofChange fnExactLegReadWrong)

/- THE SECOND FORM. 'bulk': how many values and letters a reading holds, each counted each time it is reached (what is shared counts as often as it is met; a slice's spare places count too). A statement '..UptoSaid' is the law's where the arguments, and the package variables that the reading takes, are together of bulk at most 1048576: NARROWER than '..Said'. Prove '..Said' where nothing that the law and all that it calls make is longer than what came in: it says more and counts as full. Else prove '..UptoSaid'. A law counts once. -/
mutual
def uptoBulk {H : Type} : DataW H → Nat
  | .lit (.string bytes) => bytes.length + 1
  | .lit _ => 1
  | .nil => 1
  | .ptr d => uptoBulk d + 1
  | .slice elems spare => uptoBulkAll elems + uptoBulkAll spare + 1
  | .agg parts => uptoBulkAll parts + 1
  | .iface _ d => uptoBulk d + 1
  | .map entries => uptoBulkEntries entries + 1
  | .held _ => 1
def uptoBulkAll {H : Type} : List (DataW H) → Nat
  | [] => 0
  | d :: r => uptoBulk d + uptoBulkAll r
def uptoBulkEntries {H : Type} : List (Lit × DataW H) → Nat
  | [] => 0
  | x :: r => uptoBulkEntry x + uptoBulkEntries r
def uptoBulkEntry {H : Type} : Lit × DataW H → Nat
  | (.string bytes, d) => bytes.length + uptoBulk d + 1
  | (_, d) => uptoBulk d + 1
 end
def uptoSmall : (H : Type) → List (DataW H) → Bool := fun _ ds => decide (uptoBulkAll ds ≤ 1048576)
def OpenSpec.upto (s : _root_.Go.ChangeSpec) : _root_.Go.OpenSpec := { _root_.Go.OpenSpec.ofChange s with cond := some uptoSmall }

/-- 'laws.FnExactFlyLeg', WHERE WHAT IT READS IS OF BULK AT MOST 1048576: true; the input reads as it did. -/
def fnExactFlyLegUptoRow : OpenClaim := { program := "ytkpmoolggpojdaudoor", sum := "649b2e7d6260eb08da006111127cccb9a48c9b69333c9b3524f6b97347dee9fe", func := "loop.example/g00063/laws.FnExactFlyLeg", spec := "fnExactFlyLeg", unfollowed := true, recurses := true, named := ["loop.example/g00063/impl.directionSteps"], apart := false, laid := [("loop.example/g00063/impl.directionSteps", laid_loop_example_g00063_impl_directionSteps)], narrowed := true }
def FnExactFlyLegUptoSaid : Prop := fnExactFlyLegUptoRow.holds Tryd.pinned (OpenSpec.upto fnExactFlyLegSpec)

/-- 'laws.FnExactFlyRoute', WHERE WHAT IT READS IS OF BULK AT MOST 1048576: true; the input reads as it did. -/
def fnExactFlyRouteUptoRow : OpenClaim := { program := "ytkpmoolggpojdaudoor", sum := "649b2e7d6260eb08da006111127cccb9a48c9b69333c9b3524f6b97347dee9fe", func := "loop.example/g00063/laws.FnExactFlyRoute", spec := "fnExactFlyRoute", unfollowed := true, recurses := true, named := ["loop.example/g00063/impl.directionSteps"], apart := false, laid := [("loop.example/g00063/impl.directionSteps", laid_loop_example_g00063_impl_directionSteps)], narrowed := true }
def FnExactFlyRouteUptoSaid : Prop := fnExactFlyRouteUptoRow.holds Tryd.pinned (OpenSpec.upto fnExactFlyRouteSpec)

/-- 'laws.FnExactLegRead', WHERE WHAT IT READS IS OF BULK AT MOST 1048576: true; the input reads as it did. -/
def fnExactLegReadUptoRow : OpenClaim := { program := "ytkpmoolggpojdaudoor", sum := "649b2e7d6260eb08da006111127cccb9a48c9b69333c9b3524f6b97347dee9fe", func := "loop.example/g00063/laws.FnExactLegRead", spec := "fnExactLegRead", unfollowed := true, recurses := true, named := ["loop.example/g00063/impl.directionWords"], apart := false, laid := [("loop.example/g00063/impl.directionWords", laid_loop_example_g00063_impl_directionWords)], narrowed := true }
def FnExactLegReadUptoSaid : Prop := fnExactLegReadUptoRow.holds Tryd.pinned (OpenSpec.upto fnExactLegReadSpec)

end Rows
end Go.Proofs.YtkpmoolggpojdauDoor
