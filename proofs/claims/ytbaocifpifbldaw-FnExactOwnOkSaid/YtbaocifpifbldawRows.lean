/-
  No cell of these rows narrows 'for every input' (looked for: loops, veiled, ifaces, maps, wideKeys, modest, calm, conditions, laid).
  DERIVED. THE GIVEN ROWS OF THIS SEAT. 5 by the template 'for every input the law returns true; each argument reads behind the call as it read before'; 0 by the template 'total and deterministic' (their statements: YtbaocifpifbldawTotals.lean).
  GIVEN WITH THE SEED: the statements are not yours to turn. If you find one false, say at which input.
  Laid BY PROGRAM, IN A SANDBOX (cutbox-rows.mjs): the forced cells as the released guide's own fill.sh prints them over the translation 7c5d8920d758b3a5… (all of the seat's roots in one cut). By AI agents, Wed Nov 11 2026. No macro, syntax, notation, axiom, sorry.
-/
import Derived.Test.YtbaocifpifbldawChecked
import GoSem.Claim
import GoSem.ClaimJoined
import GoSem.ClaimMapViews
import Derived.JoinedTies
import Derived.KernelRfl
namespace Go.Proofs.Ytbaocifpifbldaw
/- THE CELL 'sum', in the pinned program and in every row, IS THE sha256 OF THE DUMP (.gsa) THAT YtbaocifpifbldawProg.lean LOADS. Nothing in Lean hashes anything: it is a label: what it is worth is what the hold of that sum in a sandbox is worth. -/
noncomputable def Try.pinned : Pinned := { name := "ytbaocifpifbldaw", sum := "7c5d8920d758b3a5c84d3451699c3a75a61d01c6025e7a5ea70536aba5610790", checked := Try.checked }
namespace Rows
def none {H : Type} : Left H := { results := [], args := [] }

/-- 'laws.FnExactTake14': WHATEVER THE INPUT: true; the input reads as it did. -/
def fnExactTake14Spec : ChangeSpec := { name := "fnExactTake14", fn := fun _ => fun
  | [d1, d2, d3] => { results := [.lit (.bool true)], args := [d1, d2, d3] }
  | _ => none }
def fnExactTake14Row : OpenClaim := { program := "ytbaocifpifbldaw", sum := "7c5d8920d758b3a5c84d3451699c3a75a61d01c6025e7a5ea70536aba5610790", func := "loop.example/g00063/laws.FnExactTake14", spec := "fnExactTake14", unfollowed := true, recurses := true, apart := false }
def FnExactTake14Said : Prop := fnExactTake14Row.holds Try.pinned (OpenSpec.ofChange fnExactTake14Spec)

/-- ITS FALSE NEIGHBOUR: 'it returns false'. Refute it at one input. -/
def fnExactTake14Wrong : ChangeSpec := { name := "fnExactTake14", fn := fun _ => fun
  | [d1, d2, d3] => { results := [.lit (.bool false)], args := [d1, d2, d3] }
  | _ => none }
def FnExactTake14WrongFalsely : Prop := fnExactTake14Row.holds Try.pinned (OpenSpec.ofChange fnExactTake14Wrong)

/-- 'laws.FnExactInhibited': WHATEVER THE INPUT: true; the input reads as it did. -/
def fnExactInhibitedSpec : ChangeSpec := { name := "fnExactInhibited", fn := fun _ => fun
  | [d1, d2] => { results := [.lit (.bool true)], args := [d1, d2] }
  | _ => none }
def fnExactInhibitedRow : OpenClaim := { program := "ytbaocifpifbldaw", sum := "7c5d8920d758b3a5c84d3451699c3a75a61d01c6025e7a5ea70536aba5610790", func := "loop.example/g00063/laws.FnExactInhibited", spec := "fnExactInhibited", apart := false }
def FnExactInhibitedSaid : Prop := fnExactInhibitedRow.holds Try.pinned (OpenSpec.ofChange fnExactInhibitedSpec)

/-- ITS FALSE NEIGHBOUR: 'it returns false'. Refute it at one input. -/
def fnExactInhibitedWrong : ChangeSpec := { name := "fnExactInhibited", fn := fun _ => fun
  | [d1, d2] => { results := [.lit (.bool false)], args := [d1, d2] }
  | _ => none }
def FnExactInhibitedWrongFalsely : Prop := fnExactInhibitedRow.holds Try.pinned (OpenSpec.ofChange fnExactInhibitedWrong)

/-- 'laws.FnExactLoudest': WHATEVER THE INPUT: true; the input reads as it did. -/
def fnExactLoudestSpec : ChangeSpec := { name := "fnExactLoudest", fn := fun _ => fun
  | [d1, d2] => { results := [.lit (.bool true)], args := [d1, d2] }
  | _ => none }
def fnExactLoudestRow : OpenClaim := { program := "ytbaocifpifbldaw", sum := "7c5d8920d758b3a5c84d3451699c3a75a61d01c6025e7a5ea70536aba5610790", func := "loop.example/g00063/laws.FnExactLoudest", spec := "fnExactLoudest", apart := false }
def FnExactLoudestSaid : Prop := fnExactLoudestRow.holds Try.pinned (OpenSpec.ofChange fnExactLoudestSpec)

/-- ITS FALSE NEIGHBOUR: 'it returns false'. Refute it at one input. -/
def fnExactLoudestWrong : ChangeSpec := { name := "fnExactLoudest", fn := fun _ => fun
  | [d1, d2] => { results := [.lit (.bool false)], args := [d1, d2] }
  | _ => none }
def FnExactLoudestWrongFalsely : Prop := fnExactLoudestRow.holds Try.pinned (OpenSpec.ofChange fnExactLoudestWrong)

/-- 'laws.FnExactTrackOk': WHATEVER THE INPUT: true; the input reads as it did. -/
def fnExactTrackOkSpec : ChangeSpec := { name := "fnExactTrackOk", fn := fun _ => fun
  | [d] => { results := [.lit (.bool true)], args := [d] }
  | _ => none }
def fnExactTrackOkRow : OpenClaim := { program := "ytbaocifpifbldaw", sum := "7c5d8920d758b3a5c84d3451699c3a75a61d01c6025e7a5ea70536aba5610790", func := "loop.example/g00063/laws.FnExactTrackOk", spec := "fnExactTrackOk", apart := false }
def FnExactTrackOkSaid : Prop := fnExactTrackOkRow.holds Try.pinned (OpenSpec.ofChange fnExactTrackOkSpec)

/-- ITS FALSE NEIGHBOUR: 'it returns false'. Refute it at one input. -/
def fnExactTrackOkWrong : ChangeSpec := { name := "fnExactTrackOk", fn := fun _ => fun
  | [d] => { results := [.lit (.bool false)], args := [d] }
  | _ => none }
def FnExactTrackOkWrongFalsely : Prop := fnExactTrackOkRow.holds Try.pinned (OpenSpec.ofChange fnExactTrackOkWrong)

/-- 'laws.FnExactOwnOk': WHATEVER THE INPUT: true; the input reads as it did. -/
def fnExactOwnOkSpec : ChangeSpec := { name := "fnExactOwnOk", fn := fun _ => fun
  | [d] => { results := [.lit (.bool true)], args := [d] }
  | _ => none }
def fnExactOwnOkRow : OpenClaim := { program := "ytbaocifpifbldaw", sum := "7c5d8920d758b3a5c84d3451699c3a75a61d01c6025e7a5ea70536aba5610790", func := "loop.example/g00063/laws.FnExactOwnOk", spec := "fnExactOwnOk", apart := false }
def FnExactOwnOkSaid : Prop := fnExactOwnOkRow.holds Try.pinned (OpenSpec.ofChange fnExactOwnOkSpec)

/-- ITS FALSE NEIGHBOUR: 'it returns false'. Refute it at one input. -/
def fnExactOwnOkWrong : ChangeSpec := { name := "fnExactOwnOk", fn := fun _ => fun
  | [d] => { results := [.lit (.bool false)], args := [d] }
  | _ => none }
def FnExactOwnOkWrongFalsely : Prop := fnExactOwnOkRow.holds Try.pinned (OpenSpec.ofChange fnExactOwnOkWrong)

/- THE SECOND FORM. 'bulk': how many values and letters a reading holds, each counted each time it is reached (what is shared counts as often as it is met; a slice's spare places count too). A statement '..UptoSaid' is the law's where the arguments, and the package variables that the reading takes, are together of bulk at most 1048576: NARROWER than '..Said'. Prove '..Said' where nothing that the law and all that it calls make is longer than what came in: it says more and counts as full. Else prove '..UptoSaid'. A law counts once. -/
mutual
def uptoBulk {H : Type} : DataW H → Nat
  | .lit (.string bytes) => bytes.length + 1
  | .lit _ => 1
  | .nil => 1
  | .ptr d => uptoBulk d + 1
  | .slice elems spare => uptoBulkAll elems + uptoBulkAll spare + 1
  | .agg parts => uptoBulkAll parts + 1
  | .iface _ d => uptoBulk d + 1
  | .map entries => uptoBulkEntries entries + 1
  | .held _ => 1
def uptoBulkAll {H : Type} : List (DataW H) → Nat
  | [] => 0
  | d :: r => uptoBulk d + uptoBulkAll r
def uptoBulkEntries {H : Type} : List (Lit × DataW H) → Nat
  | [] => 0
  | x :: r => uptoBulkEntry x + uptoBulkEntries r
def uptoBulkEntry {H : Type} : Lit × DataW H → Nat
  | (.string bytes, d) => bytes.length + uptoBulk d + 1
  | (_, d) => uptoBulk d + 1
 end
def uptoSmall : (H : Type) → List (DataW H) → Bool := fun _ ds => decide (uptoBulkAll ds ≤ 1048576)
def OpenSpec.upto (s : _root_.Go.ChangeSpec) : _root_.Go.OpenSpec := { _root_.Go.OpenSpec.ofChange s with cond := some uptoSmall }

/-- 'laws.FnExactTake14', WHERE WHAT IT READS IS OF BULK AT MOST 1048576: true; the input reads as it did. -/
def fnExactTake14UptoRow : OpenClaim := { program := "ytbaocifpifbldaw", sum := "7c5d8920d758b3a5c84d3451699c3a75a61d01c6025e7a5ea70536aba5610790", func := "loop.example/g00063/laws.FnExactTake14", spec := "fnExactTake14", unfollowed := true, recurses := true, apart := false, narrowed := true }
def FnExactTake14UptoSaid : Prop := fnExactTake14UptoRow.holds Try.pinned (OpenSpec.upto fnExactTake14Spec)

/-- 'laws.FnExactInhibited', WHERE WHAT IT READS IS OF BULK AT MOST 1048576: true; the input reads as it did. -/
def fnExactInhibitedUptoRow : OpenClaim := { program := "ytbaocifpifbldaw", sum := "7c5d8920d758b3a5c84d3451699c3a75a61d01c6025e7a5ea70536aba5610790", func := "loop.example/g00063/laws.FnExactInhibited", spec := "fnExactInhibited", apart := false, narrowed := true }
def FnExactInhibitedUptoSaid : Prop := fnExactInhibitedUptoRow.holds Try.pinned (OpenSpec.upto fnExactInhibitedSpec)

/-- 'laws.FnExactLoudest', WHERE WHAT IT READS IS OF BULK AT MOST 1048576: true; the input reads as it did. -/
def fnExactLoudestUptoRow : OpenClaim := { program := "ytbaocifpifbldaw", sum := "7c5d8920d758b3a5c84d3451699c3a75a61d01c6025e7a5ea70536aba5610790", func := "loop.example/g00063/laws.FnExactLoudest", spec := "fnExactLoudest", apart := false, narrowed := true }
def FnExactLoudestUptoSaid : Prop := fnExactLoudestUptoRow.holds Try.pinned (OpenSpec.upto fnExactLoudestSpec)

/-- 'laws.FnExactTrackOk', WHERE WHAT IT READS IS OF BULK AT MOST 1048576: true; the input reads as it did. -/
def fnExactTrackOkUptoRow : OpenClaim := { program := "ytbaocifpifbldaw", sum := "7c5d8920d758b3a5c84d3451699c3a75a61d01c6025e7a5ea70536aba5610790", func := "loop.example/g00063/laws.FnExactTrackOk", spec := "fnExactTrackOk", apart := false, narrowed := true }
def FnExactTrackOkUptoSaid : Prop := fnExactTrackOkUptoRow.holds Try.pinned (OpenSpec.upto fnExactTrackOkSpec)

/-- 'laws.FnExactOwnOk', WHERE WHAT IT READS IS OF BULK AT MOST 1048576: true; the input reads as it did. -/
def fnExactOwnOkUptoRow : OpenClaim := { program := "ytbaocifpifbldaw", sum := "7c5d8920d758b3a5c84d3451699c3a75a61d01c6025e7a5ea70536aba5610790", func := "loop.example/g00063/laws.FnExactOwnOk", spec := "fnExactOwnOk", apart := false, narrowed := true }
def FnExactOwnOkUptoSaid : Prop := fnExactOwnOkUptoRow.holds Try.pinned (OpenSpec.upto fnExactOwnOkSpec)

end Rows
end Go.Proofs.Ytbaocifpifbldaw
