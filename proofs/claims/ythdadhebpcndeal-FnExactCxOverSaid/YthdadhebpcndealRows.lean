/-
  No cell of these rows narrows 'for every input' (looked for: loops, veiled, ifaces, maps, wideKeys, modest, calm, conditions, laid).
  DERIVED. THE GIVEN ROWS OF THIS SEAT. 6 by the template 'for every input the law returns true; each argument reads behind the call as it read before'; 0 by the template 'total and deterministic' (their statements: YthdadhebpcndealTotals.lean).
  GIVEN WITH THE SEED: the statements are not yours to turn. If you find one false, say at which input.
  Laid BY PROGRAM, IN A SANDBOX (cutbox-rows.mjs): the forced cells as the released guide's own fill.sh prints them over the translation 5acd7850af738ab6… (all of the seat's roots in one cut). By AI agents, Wed Nov 11 2026. No macro, syntax, notation, axiom, sorry.
-/
import Derived.Test.YthdadhebpcndealChecked
import GoSem.Claim
import GoSem.ClaimJoined
import GoSem.ClaimMapViews
import Derived.JoinedTies
import Derived.KernelRfl
namespace Go.Proofs.Ythdadhebpcndeal
/- THE CELL 'sum', in the pinned program and in every row, IS THE sha256 OF THE DUMP (.gsa) THAT YthdadhebpcndealProg.lean LOADS. Nothing in Lean hashes anything: it is a label: what it is worth is what the hold of that sum in a sandbox is worth. -/
noncomputable def Try.pinned : Pinned := { name := "ythdadhebpcndeal", sum := "5acd7850af738ab6a7131da6b3a968b23aaeb910cfcdb9aa937c491b55aeb68e", checked := Try.checked }
namespace Rows
def none {H : Type} : Left H := { results := [], args := [] }

/-- 'laws.FnExactSharper': WHATEVER THE INPUT: true; the input reads as it did. -/
def fnExactSharperSpec : ChangeSpec := { name := "fnExactSharper", fn := fun _ => fun
  | [d] => { results := [.lit (.bool true)], args := [d] }
  | _ => none }
def fnExactSharperRow : OpenClaim := { program := "ythdadhebpcndeal", sum := "5acd7850af738ab6a7131da6b3a968b23aaeb910cfcdb9aa937c491b55aeb68e", func := "loop.example/g00063/laws.FnExactSharper", spec := "fnExactSharper", apart := false }
def FnExactSharperSaid : Prop := fnExactSharperRow.holds Try.pinned (OpenSpec.ofChange fnExactSharperSpec)

/-- ITS FALSE NEIGHBOUR: 'it returns false'. Refute it at one input. -/
def fnExactSharperWrong : ChangeSpec := { name := "fnExactSharper", fn := fun _ => fun
  | [d] => { results := [.lit (.bool false)], args := [d] }
  | _ => none }
def FnExactSharperWrongFalsely : Prop := fnExactSharperRow.holds Try.pinned (OpenSpec.ofChange fnExactSharperWrong)

/-- 'laws.FnExactCxAdd': WHATEVER THE INPUT: true; the input reads as it did. -/
def fnExactCxAddSpec : ChangeSpec := { name := "fnExactCxAdd", fn := fun _ => fun
  | [d1, d2] => { results := [.lit (.bool true)], args := [d1, d2] }
  | _ => none }
def fnExactCxAddRow : OpenClaim := { program := "ythdadhebpcndeal", sum := "5acd7850af738ab6a7131da6b3a968b23aaeb910cfcdb9aa937c491b55aeb68e", func := "loop.example/g00063/laws.FnExactCxAdd", spec := "fnExactCxAdd", apart := false }
def FnExactCxAddSaid : Prop := fnExactCxAddRow.holds Try.pinned (OpenSpec.ofChange fnExactCxAddSpec)

/-- ITS FALSE NEIGHBOUR: 'it returns false'. Refute it at one input. -/
def fnExactCxAddWrong : ChangeSpec := { name := "fnExactCxAdd", fn := fun _ => fun
  | [d1, d2] => { results := [.lit (.bool false)], args := [d1, d2] }
  | _ => none }
def FnExactCxAddWrongFalsely : Prop := fnExactCxAddRow.holds Try.pinned (OpenSpec.ofChange fnExactCxAddWrong)

/-- 'laws.FnExactCxLess': WHATEVER THE INPUT: true; the input reads as it did. -/
def fnExactCxLessSpec : ChangeSpec := { name := "fnExactCxLess", fn := fun _ => fun
  | [d1, d2] => { results := [.lit (.bool true)], args := [d1, d2] }
  | _ => none }
def fnExactCxLessRow : OpenClaim := { program := "ythdadhebpcndeal", sum := "5acd7850af738ab6a7131da6b3a968b23aaeb910cfcdb9aa937c491b55aeb68e", func := "loop.example/g00063/laws.FnExactCxLess", spec := "fnExactCxLess", apart := false }
def FnExactCxLessSaid : Prop := fnExactCxLessRow.holds Try.pinned (OpenSpec.ofChange fnExactCxLessSpec)

/-- ITS FALSE NEIGHBOUR: 'it returns false'. Refute it at one input. -/
def fnExactCxLessWrong : ChangeSpec := { name := "fnExactCxLess", fn := fun _ => fun
  | [d1, d2] => { results := [.lit (.bool false)], args := [d1, d2] }
  | _ => none }
def FnExactCxLessWrongFalsely : Prop := fnExactCxLessRow.holds Try.pinned (OpenSpec.ofChange fnExactCxLessWrong)

/-- 'laws.FnExactCxTimes': WHATEVER THE INPUT: true; the input reads as it did. -/
def fnExactCxTimesSpec : ChangeSpec := { name := "fnExactCxTimes", fn := fun _ => fun
  | [d1, d2] => { results := [.lit (.bool true)], args := [d1, d2] }
  | _ => none }
def fnExactCxTimesRow : OpenClaim := { program := "ythdadhebpcndeal", sum := "5acd7850af738ab6a7131da6b3a968b23aaeb910cfcdb9aa937c491b55aeb68e", func := "loop.example/g00063/laws.FnExactCxTimes", spec := "fnExactCxTimes", apart := false }
def FnExactCxTimesSaid : Prop := fnExactCxTimesRow.holds Try.pinned (OpenSpec.ofChange fnExactCxTimesSpec)

/-- ITS FALSE NEIGHBOUR: 'it returns false'. Refute it at one input. -/
def fnExactCxTimesWrong : ChangeSpec := { name := "fnExactCxTimes", fn := fun _ => fun
  | [d1, d2] => { results := [.lit (.bool false)], args := [d1, d2] }
  | _ => none }
def FnExactCxTimesWrongFalsely : Prop := fnExactCxTimesRow.holds Try.pinned (OpenSpec.ofChange fnExactCxTimesWrong)

/-- 'laws.FnExactCxOver': WHATEVER THE INPUT: true; the input reads as it did. -/
def fnExactCxOverSpec : ChangeSpec := { name := "fnExactCxOver", fn := fun _ => fun
  | [d1, d2] => { results := [.lit (.bool true)], args := [d1, d2] }
  | _ => none }
def fnExactCxOverRow : OpenClaim := { program := "ythdadhebpcndeal", sum := "5acd7850af738ab6a7131da6b3a968b23aaeb910cfcdb9aa937c491b55aeb68e", func := "loop.example/g00063/laws.FnExactCxOver", spec := "fnExactCxOver", inPlace := ["math.Float64bits", "math.Float64frombits"], apart := false }
def FnExactCxOverSaid : Prop := fnExactCxOverRow.holds Try.pinned (OpenSpec.ofChange fnExactCxOverSpec)

/-- ITS FALSE NEIGHBOUR: 'it returns false'. Refute it at one input. -/
def fnExactCxOverWrong : ChangeSpec := { name := "fnExactCxOver", fn := fun _ => fun
  | [d1, d2] => { results := [.lit (.bool false)], args := [d1, d2] }
  | _ => none }
def FnExactCxOverWrongFalsely : Prop := fnExactCxOverRow.holds Try.pinned (OpenSpec.ofChange fnExactCxOverWrong)

/-- 'laws.FnExactCxSame': WHATEVER THE INPUT: true; the input reads as it did. -/
def fnExactCxSameSpec : ChangeSpec := { name := "fnExactCxSame", fn := fun _ => fun
  | [d1, d2] => { results := [.lit (.bool true)], args := [d1, d2] }
  | _ => none }
def fnExactCxSameRow : OpenClaim := { program := "ythdadhebpcndeal", sum := "5acd7850af738ab6a7131da6b3a968b23aaeb910cfcdb9aa937c491b55aeb68e", func := "loop.example/g00063/laws.FnExactCxSame", spec := "fnExactCxSame", apart := false }
def FnExactCxSameSaid : Prop := fnExactCxSameRow.holds Try.pinned (OpenSpec.ofChange fnExactCxSameSpec)

/-- ITS FALSE NEIGHBOUR: 'it returns false'. Refute it at one input. -/
def fnExactCxSameWrong : ChangeSpec := { name := "fnExactCxSame", fn := fun _ => fun
  | [d1, d2] => { results := [.lit (.bool false)], args := [d1, d2] }
  | _ => none }
def FnExactCxSameWrongFalsely : Prop := fnExactCxSameRow.holds Try.pinned (OpenSpec.ofChange fnExactCxSameWrong)

/- THE SECOND FORM. 'bulk': how many values and letters a reading holds, each counted each time it is reached (what is shared counts as often as it is met; a slice's spare places count too). A statement '..UptoSaid' is the law's where the arguments, and the package variables that the reading takes, are together of bulk at most 1048576: NARROWER than '..Said'. Prove '..Said' where nothing that the law and all that it calls make is longer than what came in: it says more and counts as full. Else prove '..UptoSaid'. A law counts once. -/
mutual
def uptoBulk {H : Type} : DataW H → Nat
  | .lit (.string bytes) => bytes.length + 1
  | .lit _ => 1
  | .nil => 1
  | .ptr d => uptoBulk d + 1
  | .slice elems spare => uptoBulkAll elems + uptoBulkAll spare + 1
  | .agg parts => uptoBulkAll parts + 1
  | .iface _ d => uptoBulk d + 1
  | .map entries => uptoBulkEntries entries + 1
  | .held _ => 1
def uptoBulkAll {H : Type} : List (DataW H) → Nat
  | [] => 0
  | d :: r => uptoBulk d + uptoBulkAll r
def uptoBulkEntries {H : Type} : List (Lit × DataW H) → Nat
  | [] => 0
  | x :: r => uptoBulkEntry x + uptoBulkEntries r
def uptoBulkEntry {H : Type} : Lit × DataW H → Nat
  | (.string bytes, d) => bytes.length + uptoBulk d + 1
  | (_, d) => uptoBulk d + 1
 end
def uptoSmall : (H : Type) → List (DataW H) → Bool := fun _ ds => decide (uptoBulkAll ds ≤ 1048576)
def OpenSpec.upto (s : _root_.Go.ChangeSpec) : _root_.Go.OpenSpec := { _root_.Go.OpenSpec.ofChange s with cond := some uptoSmall }

/-- 'laws.FnExactSharper', WHERE WHAT IT READS IS OF BULK AT MOST 1048576: true; the input reads as it did. -/
def fnExactSharperUptoRow : OpenClaim := { program := "ythdadhebpcndeal", sum := "5acd7850af738ab6a7131da6b3a968b23aaeb910cfcdb9aa937c491b55aeb68e", func := "loop.example/g00063/laws.FnExactSharper", spec := "fnExactSharper", apart := false, narrowed := true }
def FnExactSharperUptoSaid : Prop := fnExactSharperUptoRow.holds Try.pinned (OpenSpec.upto fnExactSharperSpec)

/-- 'laws.FnExactCxAdd', WHERE WHAT IT READS IS OF BULK AT MOST 1048576: true; the input reads as it did. -/
def fnExactCxAddUptoRow : OpenClaim := { program := "ythdadhebpcndeal", sum := "5acd7850af738ab6a7131da6b3a968b23aaeb910cfcdb9aa937c491b55aeb68e", func := "loop.example/g00063/laws.FnExactCxAdd", spec := "fnExactCxAdd", apart := false, narrowed := true }
def FnExactCxAddUptoSaid : Prop := fnExactCxAddUptoRow.holds Try.pinned (OpenSpec.upto fnExactCxAddSpec)

/-- 'laws.FnExactCxLess', WHERE WHAT IT READS IS OF BULK AT MOST 1048576: true; the input reads as it did. -/
def fnExactCxLessUptoRow : OpenClaim := { program := "ythdadhebpcndeal", sum := "5acd7850af738ab6a7131da6b3a968b23aaeb910cfcdb9aa937c491b55aeb68e", func := "loop.example/g00063/laws.FnExactCxLess", spec := "fnExactCxLess", apart := false, narrowed := true }
def FnExactCxLessUptoSaid : Prop := fnExactCxLessUptoRow.holds Try.pinned (OpenSpec.upto fnExactCxLessSpec)

/-- 'laws.FnExactCxTimes', WHERE WHAT IT READS IS OF BULK AT MOST 1048576: true; the input reads as it did. -/
def fnExactCxTimesUptoRow : OpenClaim := { program := "ythdadhebpcndeal", sum := "5acd7850af738ab6a7131da6b3a968b23aaeb910cfcdb9aa937c491b55aeb68e", func := "loop.example/g00063/laws.FnExactCxTimes", spec := "fnExactCxTimes", apart := false, narrowed := true }
def FnExactCxTimesUptoSaid : Prop := fnExactCxTimesUptoRow.holds Try.pinned (OpenSpec.upto fnExactCxTimesSpec)

/-- 'laws.FnExactCxOver', WHERE WHAT IT READS IS OF BULK AT MOST 1048576: true; the input reads as it did. -/
def fnExactCxOverUptoRow : OpenClaim := { program := "ythdadhebpcndeal", sum := "5acd7850af738ab6a7131da6b3a968b23aaeb910cfcdb9aa937c491b55aeb68e", func := "loop.example/g00063/laws.FnExactCxOver", spec := "fnExactCxOver", inPlace := ["math.Float64bits", "math.Float64frombits"], apart := false, narrowed := true }
def FnExactCxOverUptoSaid : Prop := fnExactCxOverUptoRow.holds Try.pinned (OpenSpec.upto fnExactCxOverSpec)

/-- 'laws.FnExactCxSame', WHERE WHAT IT READS IS OF BULK AT MOST 1048576: true; the input reads as it did. -/
def fnExactCxSameUptoRow : OpenClaim := { program := "ythdadhebpcndeal", sum := "5acd7850af738ab6a7131da6b3a968b23aaeb910cfcdb9aa937c491b55aeb68e", func := "loop.example/g00063/laws.FnExactCxSame", spec := "fnExactCxSame", apart := false, narrowed := true }
def FnExactCxSameUptoSaid : Prop := fnExactCxSameUptoRow.holds Try.pinned (OpenSpec.upto fnExactCxSameSpec)

end Rows
end Go.Proofs.Ythdadhebpcndeal
