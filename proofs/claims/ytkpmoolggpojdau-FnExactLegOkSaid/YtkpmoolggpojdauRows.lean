/-
  No cell of these rows narrows 'for every input' (looked for: loops, veiled, ifaces, maps, wideKeys, modest, calm, conditions, laid).
  DERIVED. THE GIVEN ROWS OF THIS SEAT. 3 by the template 'for every input the law returns true; each argument reads behind the call as it read before'; 0 by the template 'total and deterministic' (their statements: YtkpmoolggpojdauTotals.lean).
  GIVEN WITH THE SEED: the statements are not yours to turn. If you find one false, say at which input.
  Laid BY PROGRAM, IN A SANDBOX (cutbox-rows.mjs): the forced cells as the released guide's own fill.sh prints them over the translation 9d1905f83c336ba2… (all of the seat's roots in one cut). By AI agents, Wed Nov 11 2026. No macro, syntax, notation, axiom, sorry.
-/
import Derived.Test.YtkpmoolggpojdauChecked
import GoSem.Claim
import GoSem.ClaimJoined
import GoSem.ClaimMapViews
import Derived.JoinedTies
import Derived.KernelRfl
namespace Go.Proofs.Ytkpmoolggpojdau
/- THE CELL 'sum', in the pinned program and in every row, IS THE sha256 OF THE DUMP (.gsa) THAT YtkpmoolggpojdauProg.lean LOADS. Nothing in Lean hashes anything: it is a label: what it is worth is what the hold of that sum in a sandbox is worth. -/
noncomputable def Try.pinned : Pinned := { name := "ytkpmoolggpojdau", sum := "9d1905f83c336ba2b0e49bac7e91df2ccf88e471c9603ccdc2f476a6505385b4", checked := Try.checked }
namespace Rows
def none {H : Type} : Left H := { results := [], args := [] }

/-- 'laws.FnExactLegOk': WHATEVER THE INPUT: true; the input reads as it did. -/
def fnExactLegOkSpec : ChangeSpec := { name := "fnExactLegOk", fn := fun _ => fun
  | [d] => { results := [.lit (.bool true)], args := [d] }
  | _ => none }
def fnExactLegOkRow : OpenClaim := { program := "ytkpmoolggpojdau", sum := "9d1905f83c336ba2b0e49bac7e91df2ccf88e471c9603ccdc2f476a6505385b4", func := "loop.example/g00063/laws.FnExactLegOk", spec := "fnExactLegOk", unfollowed := true, recurses := true, apart := false }
def FnExactLegOkSaid : Prop := fnExactLegOkRow.holds Try.pinned (OpenSpec.ofChange fnExactLegOkSpec)

/-- ITS FALSE NEIGHBOUR: 'it returns false'. Refute it at one input. -/
def fnExactLegOkWrong : ChangeSpec := { name := "fnExactLegOk", fn := fun _ => fun
  | [d] => { results := [.lit (.bool false)], args := [d] }
  | _ => none }
def FnExactLegOkWrongFalsely : Prop := fnExactLegOkRow.holds Try.pinned (OpenSpec.ofChange fnExactLegOkWrong)

/-- 'laws.FnExactCraftOk': WHATEVER THE INPUT: true; the input reads as it did. -/
def fnExactCraftOkSpec : ChangeSpec := { name := "fnExactCraftOk", fn := fun _ => fun
  | [d] => { results := [.lit (.bool true)], args := [d] }
  | _ => none }
def fnExactCraftOkRow : OpenClaim := { program := "ytkpmoolggpojdau", sum := "9d1905f83c336ba2b0e49bac7e91df2ccf88e471c9603ccdc2f476a6505385b4", func := "loop.example/g00063/laws.FnExactCraftOk", spec := "fnExactCraftOk", apart := false }
def FnExactCraftOkSaid : Prop := fnExactCraftOkRow.holds Try.pinned (OpenSpec.ofChange fnExactCraftOkSpec)

/-- ITS FALSE NEIGHBOUR: 'it returns false'. Refute it at one input. -/
def fnExactCraftOkWrong : ChangeSpec := { name := "fnExactCraftOk", fn := fun _ => fun
  | [d] => { results := [.lit (.bool false)], args := [d] }
  | _ => none }
def FnExactCraftOkWrongFalsely : Prop := fnExactCraftOkRow.holds Try.pinned (OpenSpec.ofChange fnExactCraftOkWrong)

/-- 'laws.FnExactLegText': WHATEVER THE INPUT: true; the input reads as it did. -/
def fnExactLegTextSpec : ChangeSpec := { name := "fnExactLegText", fn := fun _ => fun
  | [d] => { results := [.lit (.bool true)], args := [d] }
  | _ => none }
def fnExactLegTextRow : OpenClaim := { program := "ytkpmoolggpojdau", sum := "9d1905f83c336ba2b0e49bac7e91df2ccf88e471c9603ccdc2f476a6505385b4", func := "loop.example/g00063/laws.FnExactLegText", spec := "fnExactLegText", unfollowed := true, recurses := true, apart := false }
def FnExactLegTextSaid : Prop := fnExactLegTextRow.holds Try.pinned (OpenSpec.ofChange fnExactLegTextSpec)

/-- ITS FALSE NEIGHBOUR: 'it returns false'. Refute it at one input. -/
def fnExactLegTextWrong : ChangeSpec := { name := "fnExactLegText", fn := fun _ => fun
  | [d] => { results := [.lit (.bool false)], args := [d] }
  | _ => none }
def FnExactLegTextWrongFalsely : Prop := fnExactLegTextRow.holds Try.pinned (OpenSpec.ofChange fnExactLegTextWrong)

/- THE SECOND FORM. 'bulk': how many values and letters a reading holds, each counted each time it is reached (what is shared counts as often as it is met; a slice's spare places count too). A statement '..UptoSaid' is the law's where the arguments, and the package variables that the reading takes, are together of bulk at most 1048576: NARROWER than '..Said'. Prove '..Said' where nothing that the law and all that it calls make is longer than what came in: it says more and counts as full. Else prove '..UptoSaid'. A law counts once. -/
mutual
def uptoBulk {H : Type} : DataW H → Nat
  | .lit (.string bytes) => bytes.length + 1
  | .lit _ => 1
  | .nil => 1
  | .ptr d => uptoBulk d + 1
  | .slice elems spare => uptoBulkAll elems + uptoBulkAll spare + 1
  | .agg parts => uptoBulkAll parts + 1
  | .iface _ d => uptoBulk d + 1
  | .map entries => uptoBulkEntries entries + 1
  | .held _ => 1
def uptoBulkAll {H : Type} : List (DataW H) → Nat
  | [] => 0
  | d :: r => uptoBulk d + uptoBulkAll r
def uptoBulkEntries {H : Type} : List (Lit × DataW H) → Nat
  | [] => 0
  | x :: r => uptoBulkEntry x + uptoBulkEntries r
def uptoBulkEntry {H : Type} : Lit × DataW H → Nat
  | (.string bytes, d) => bytes.length + uptoBulk d + 1
  | (_, d) => uptoBulk d + 1
 end
def uptoSmall : (H : Type) → List (DataW H) → Bool := fun _ ds => decide (uptoBulkAll ds ≤ 1048576)
def OpenSpec.upto (s : _root_.Go.ChangeSpec) : _root_.Go.OpenSpec := { _root_.Go.OpenSpec.ofChange s with cond := some uptoSmall }

/-- 'laws.FnExactLegOk', WHERE WHAT IT READS IS OF BULK AT MOST 1048576: true; the input reads as it did. -/
def fnExactLegOkUptoRow : OpenClaim := { program := "ytkpmoolggpojdau", sum := "9d1905f83c336ba2b0e49bac7e91df2ccf88e471c9603ccdc2f476a6505385b4", func := "loop.example/g00063/laws.FnExactLegOk", spec := "fnExactLegOk", unfollowed := true, recurses := true, apart := false, narrowed := true }
def FnExactLegOkUptoSaid : Prop := fnExactLegOkUptoRow.holds Try.pinned (OpenSpec.upto fnExactLegOkSpec)

/-- 'laws.FnExactCraftOk', WHERE WHAT IT READS IS OF BULK AT MOST 1048576: true; the input reads as it did. -/
def fnExactCraftOkUptoRow : OpenClaim := { program := "ytkpmoolggpojdau", sum := "9d1905f83c336ba2b0e49bac7e91df2ccf88e471c9603ccdc2f476a6505385b4", func := "loop.example/g00063/laws.FnExactCraftOk", spec := "fnExactCraftOk", apart := false, narrowed := true }
def FnExactCraftOkUptoSaid : Prop := fnExactCraftOkUptoRow.holds Try.pinned (OpenSpec.upto fnExactCraftOkSpec)

/-- 'laws.FnExactLegText', WHERE WHAT IT READS IS OF BULK AT MOST 1048576: true; the input reads as it did. -/
def fnExactLegTextUptoRow : OpenClaim := { program := "ytkpmoolggpojdau", sum := "9d1905f83c336ba2b0e49bac7e91df2ccf88e471c9603ccdc2f476a6505385b4", func := "loop.example/g00063/laws.FnExactLegText", spec := "fnExactLegText", unfollowed := true, recurses := true, apart := false, narrowed := true }
def FnExactLegTextUptoSaid : Prop := fnExactLegTextUptoRow.holds Try.pinned (OpenSpec.upto fnExactLegTextSpec)

end Rows
end Go.Proofs.Ytkpmoolggpojdau
