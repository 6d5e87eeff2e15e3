/-
  No cell of these rows narrows 'for every input' (looked for: loops, veiled, ifaces, maps, wideKeys, modest, calm, conditions, laid).
  DERIVED. THE GIVEN ROWS OF THIS SEAT. 6 by the template 'for every input the law returns true; each argument reads behind the call as it read before'; 0 by the template 'total and deterministic' (their statements: YtglefolkecimabdTotals.lean).
  GIVEN WITH THE SEED: the statements are not yours to turn. If you find one false, say at which input.
  Laid BY PROGRAM, IN A SANDBOX (cutbox-rows.mjs): the forced cells as the released guide's own fill.sh prints them over the translation 4327d807fba3f103… (all of the seat's roots in one cut). By AI agents, Wed Nov 11 2026. No macro, syntax, notation, axiom, sorry.
-/
import Derived.Test.YtglefolkecimabdChecked
import GoSem.Claim
import GoSem.ClaimJoined
import GoSem.ClaimMapViews
import Derived.JoinedTies
import Derived.KernelRfl
namespace Go.Proofs.Ytglefolkecimabd
/- THE CELL 'sum', in the pinned program and in every row, IS THE sha256 OF THE DUMP (.gsa) THAT YtglefolkecimabdProg.lean LOADS. Nothing in Lean hashes anything: it is a label: what it is worth is what the hold of that sum in a sandbox is worth. -/
noncomputable def Try.pinned : Pinned := { name := "ytglefolkecimabd", sum := "4327d807fba3f103a52215d11abab43a4ed0be0dca0f36dbb73c77e74711a21b", checked := Try.checked }
namespace Rows
def none {H : Type} : Left H := { results := [], args := [] }

/-- 'laws.FnExactUnpack20': WHATEVER THE INPUT: true; the input reads as it did. -/
def fnExactUnpack20Spec : ChangeSpec := { name := "fnExactUnpack20", fn := fun _ => fun
  | [d] => { results := [.lit (.bool true)], args := [d] }
  | _ => none }
def fnExactUnpack20Row : OpenClaim := { program := "ytglefolkecimabd", sum := "4327d807fba3f103a52215d11abab43a4ed0be0dca0f36dbb73c77e74711a21b", func := "loop.example/g00063/laws.FnExactUnpack20", spec := "fnExactUnpack20", apart := false }
def FnExactUnpack20Said : Prop := fnExactUnpack20Row.holds Try.pinned (OpenSpec.ofChange fnExactUnpack20Spec)

/-- ITS FALSE NEIGHBOUR: 'it returns false'. Refute it at one input. -/
def fnExactUnpack20Wrong : ChangeSpec := { name := "fnExactUnpack20", fn := fun _ => fun
  | [d] => { results := [.lit (.bool false)], args := [d] }
  | _ => none }
def FnExactUnpack20WrongFalsely : Prop := fnExactUnpack20Row.holds Try.pinned (OpenSpec.ofChange fnExactUnpack20Wrong)

/-- 'laws.FnExactColumn': WHATEVER THE INPUT: true; the input reads as it did. -/
def fnExactColumnSpec : ChangeSpec := { name := "fnExactColumn", fn := fun _ => fun
  | [d1, d2] => { results := [.lit (.bool true)], args := [d1, d2] }
  | _ => none }
def fnExactColumnRow : OpenClaim := { program := "ytglefolkecimabd", sum := "4327d807fba3f103a52215d11abab43a4ed0be0dca0f36dbb73c77e74711a21b", func := "loop.example/g00063/laws.FnExactColumn", spec := "fnExactColumn", apart := false }
def FnExactColumnSaid : Prop := fnExactColumnRow.holds Try.pinned (OpenSpec.ofChange fnExactColumnSpec)

/-- ITS FALSE NEIGHBOUR: 'it returns false'. Refute it at one input. -/
def fnExactColumnWrong : ChangeSpec := { name := "fnExactColumn", fn := fun _ => fun
  | [d1, d2] => { results := [.lit (.bool false)], args := [d1, d2] }
  | _ => none }
def FnExactColumnWrongFalsely : Prop := fnExactColumnRow.holds Try.pinned (OpenSpec.ofChange fnExactColumnWrong)

/-- 'laws.FnExactEvents20': WHATEVER THE INPUT: true; the input reads as it did. -/
def fnExactEvents20Spec : ChangeSpec := { name := "fnExactEvents20", fn := fun _ => fun
  | [d1, d2, d3] => { results := [.lit (.bool true)], args := [d1, d2, d3] }
  | _ => none }
def fnExactEvents20Row : OpenClaim := { program := "ytglefolkecimabd", sum := "4327d807fba3f103a52215d11abab43a4ed0be0dca0f36dbb73c77e74711a21b", func := "loop.example/g00063/laws.FnExactEvents20", spec := "fnExactEvents20", apart := false }
def FnExactEvents20Said : Prop := fnExactEvents20Row.holds Try.pinned (OpenSpec.ofChange fnExactEvents20Spec)

/-- ITS FALSE NEIGHBOUR: 'it returns false'. Refute it at one input. -/
def fnExactEvents20Wrong : ChangeSpec := { name := "fnExactEvents20", fn := fun _ => fun
  | [d1, d2, d3] => { results := [.lit (.bool false)], args := [d1, d2, d3] }
  | _ => none }
def FnExactEvents20WrongFalsely : Prop := fnExactEvents20Row.holds Try.pinned (OpenSpec.ofChange fnExactEvents20Wrong)

/-- 'laws.FnExactSame20': WHATEVER THE INPUT: true; the input reads as it did. -/
def fnExactSame20Spec : ChangeSpec := { name := "fnExactSame20", fn := fun _ => fun
  | [d1, d2] => { results := [.lit (.bool true)], args := [d1, d2] }
  | _ => none }
def fnExactSame20Row : OpenClaim := { program := "ytglefolkecimabd", sum := "4327d807fba3f103a52215d11abab43a4ed0be0dca0f36dbb73c77e74711a21b", func := "loop.example/g00063/laws.FnExactSame20", spec := "fnExactSame20", apart := false }
def FnExactSame20Said : Prop := fnExactSame20Row.holds Try.pinned (OpenSpec.ofChange fnExactSame20Spec)

/-- ITS FALSE NEIGHBOUR: 'it returns false'. Refute it at one input. -/
def fnExactSame20Wrong : ChangeSpec := { name := "fnExactSame20", fn := fun _ => fun
  | [d1, d2] => { results := [.lit (.bool false)], args := [d1, d2] }
  | _ => none }
def FnExactSame20WrongFalsely : Prop := fnExactSame20Row.holds Try.pinned (OpenSpec.ofChange fnExactSame20Wrong)

/-- 'laws.FnExactDeskOk': WHATEVER THE INPUT: true; the input reads as it did. -/
def fnExactDeskOkSpec : ChangeSpec := { name := "fnExactDeskOk", fn := fun _ => fun
  | [d] => { results := [.lit (.bool true)], args := [d] }
  | _ => none }
def fnExactDeskOkRow : OpenClaim := { program := "ytglefolkecimabd", sum := "4327d807fba3f103a52215d11abab43a4ed0be0dca0f36dbb73c77e74711a21b", func := "loop.example/g00063/laws.FnExactDeskOk", spec := "fnExactDeskOk", unfollowed := true, recurses := true, apart := false }
def FnExactDeskOkSaid : Prop := fnExactDeskOkRow.holds Try.pinned (OpenSpec.ofChange fnExactDeskOkSpec)

/-- ITS FALSE NEIGHBOUR: 'it returns false'. Refute it at one input. -/
def fnExactDeskOkWrong : ChangeSpec := { name := "fnExactDeskOk", fn := fun _ => fun
  | [d] => { results := [.lit (.bool false)], args := [d] }
  | _ => none }
def FnExactDeskOkWrongFalsely : Prop := fnExactDeskOkRow.holds Try.pinned (OpenSpec.ofChange fnExactDeskOkWrong)

/-- 'laws.FnExactNewDesk': WHATEVER THE INPUT: true; the input reads as it did. -/
def fnExactNewDeskSpec : ChangeSpec := { name := "fnExactNewDesk", fn := fun _ => fun
  | [] => { results := [.lit (.bool true)], args := [] }
  | _ => none }
def fnExactNewDeskRow : OpenClaim := { program := "ytglefolkecimabd", sum := "4327d807fba3f103a52215d11abab43a4ed0be0dca0f36dbb73c77e74711a21b", func := "loop.example/g00063/laws.FnExactNewDesk", spec := "fnExactNewDesk", apart := false }
def FnExactNewDeskSaid : Prop := fnExactNewDeskRow.holds Try.pinned (OpenSpec.ofChange fnExactNewDeskSpec)

/-- ITS FALSE NEIGHBOUR: 'it returns false'. Refute it at one input. -/
def fnExactNewDeskWrong : ChangeSpec := { name := "fnExactNewDesk", fn := fun _ => fun
  | [] => { results := [.lit (.bool false)], args := [] }
  | _ => none }
def FnExactNewDeskWrongFalsely : Prop := fnExactNewDeskRow.holds Try.pinned (OpenSpec.ofChange fnExactNewDeskWrong)

/- THE SECOND FORM. 'bulk': how many values and letters a reading holds, each counted each time it is reached (what is shared counts as often as it is met; a slice's spare places count too). A statement '..UptoSaid' is the law's where the arguments, and the package variables that the reading takes, are together of bulk at most 1048576: NARROWER than '..Said'. Prove '..Said' where nothing that the law and all that it calls make is longer than what came in: it says more and counts as full. Else prove '..UptoSaid'. A law counts once. -/
mutual
def uptoBulk {H : Type} : DataW H → Nat
  | .lit (.string bytes) => bytes.length + 1
  | .lit _ => 1
  | .nil => 1
  | .ptr d => uptoBulk d + 1
  | .slice elems spare => uptoBulkAll elems + uptoBulkAll spare + 1
  | .agg parts => uptoBulkAll parts + 1
  | .iface _ d => uptoBulk d + 1
  | .map entries => uptoBulkEntries entries + 1
  | .held _ => 1
def uptoBulkAll {H : Type} : List (DataW H) → Nat
  | [] => 0
  | d :: r => uptoBulk d + uptoBulkAll r
def uptoBulkEntries {H : Type} : List (Lit × DataW H) → Nat
  | [] => 0
  | x :: r => uptoBulkEntry x + uptoBulkEntries r
def uptoBulkEntry {H : Type} : Lit × DataW H → Nat
  | (.string bytes, d) => bytes.length + uptoBulk d + 1
  | (_, d) => uptoBulk d + 1
 end
def uptoSmall : (H : Type) → List (DataW H) → Bool := fun _ ds => decide (uptoBulkAll ds ≤ 1048576)
def OpenSpec.upto (s : _root_.Go.ChangeSpec) : _root_.Go.OpenSpec := { _root_.Go.OpenSpec.ofChange s with cond := some uptoSmall }

/-- 'laws.FnExactUnpack20', WHERE WHAT IT READS IS OF BULK AT MOST 1048576: true; the input reads as it did. -/
def fnExactUnpack20UptoRow : OpenClaim := { program := "ytglefolkecimabd", sum := "4327d807fba3f103a52215d11abab43a4ed0be0dca0f36dbb73c77e74711a21b", func := "loop.example/g00063/laws.FnExactUnpack20", spec := "fnExactUnpack20", apart := false, narrowed := true }
def FnExactUnpack20UptoSaid : Prop := fnExactUnpack20UptoRow.holds Try.pinned (OpenSpec.upto fnExactUnpack20Spec)

/-- 'laws.FnExactColumn', WHERE WHAT IT READS IS OF BULK AT MOST 1048576: true; the input reads as it did. -/
def fnExactColumnUptoRow : OpenClaim := { program := "ytglefolkecimabd", sum := "4327d807fba3f103a52215d11abab43a4ed0be0dca0f36dbb73c77e74711a21b", func := "loop.example/g00063/laws.FnExactColumn", spec := "fnExactColumn", apart := false, narrowed := true }
def FnExactColumnUptoSaid : Prop := fnExactColumnUptoRow.holds Try.pinned (OpenSpec.upto fnExactColumnSpec)

/-- 'laws.FnExactEvents20', WHERE WHAT IT READS IS OF BULK AT MOST 1048576: true; the input reads as it did. -/
def fnExactEvents20UptoRow : OpenClaim := { program := "ytglefolkecimabd", sum := "4327d807fba3f103a52215d11abab43a4ed0be0dca0f36dbb73c77e74711a21b", func := "loop.example/g00063/laws.FnExactEvents20", spec := "fnExactEvents20", apart := false, narrowed := true }
def FnExactEvents20UptoSaid : Prop := fnExactEvents20UptoRow.holds Try.pinned (OpenSpec.upto fnExactEvents20Spec)

/-- 'laws.FnExactSame20', WHERE WHAT IT READS IS OF BULK AT MOST 1048576: true; the input reads as it did. -/
def fnExactSame20UptoRow : OpenClaim := { program := "ytglefolkecimabd", sum := "4327d807fba3f103a52215d11abab43a4ed0be0dca0f36dbb73c77e74711a21b", func := "loop.example/g00063/laws.FnExactSame20", spec := "fnExactSame20", apart := false, narrowed := true }
def FnExactSame20UptoSaid : Prop := fnExactSame20UptoRow.holds Try.pinned (OpenSpec.upto fnExactSame20Spec)

/-- 'laws.FnExactDeskOk', WHERE WHAT IT READS IS OF BULK AT MOST 1048576: true; the input reads as it did. -/
def fnExactDeskOkUptoRow : OpenClaim := { program := "ytglefolkecimabd", sum := "4327d807fba3f103a52215d11abab43a4ed0be0dca0f36dbb73c77e74711a21b", func := "loop.example/g00063/laws.FnExactDeskOk", spec := "fnExactDeskOk", unfollowed := true, recurses := true, apart := false, narrowed := true }
def FnExactDeskOkUptoSaid : Prop := fnExactDeskOkUptoRow.holds Try.pinned (OpenSpec.upto fnExactDeskOkSpec)

/-- 'laws.FnExactNewDesk', WHERE WHAT IT READS IS OF BULK AT MOST 1048576: true; the input reads as it did. -/
def fnExactNewDeskUptoRow : OpenClaim := { program := "ytglefolkecimabd", sum := "4327d807fba3f103a52215d11abab43a4ed0be0dca0f36dbb73c77e74711a21b", func := "loop.example/g00063/laws.FnExactNewDesk", spec := "fnExactNewDesk", apart := false, narrowed := true }
def FnExactNewDeskUptoSaid : Prop := fnExactNewDeskUptoRow.holds Try.pinned (OpenSpec.upto fnExactNewDeskSpec)

end Rows
end Go.Proofs.Ytglefolkecimabd
