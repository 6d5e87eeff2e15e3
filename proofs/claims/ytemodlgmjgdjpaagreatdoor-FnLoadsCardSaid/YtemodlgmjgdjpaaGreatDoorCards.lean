/-
  DERIVED. GIVEN WITH THE SEED: THE CARDS: each row of YtemodlgmjgdjpaaGreatDoorRows.lean that lists a variable, with what it lists TIED to the program's text (the seventh form; the later family's looks); each row that meets fmt, with fmt's text TOLD by the authors' own Lean function (tested against real Go, not proved from fmt's source: count such statements apart). THE CARD IS WHAT COUNTS. Prove the row's statement (the work); the ties are given (YtemodlgmjgdjpaaGreatDoorTie.lean); close each card by the builder's one call (the guide's Derived/Test/ToyasCard.lean, 'card_holds'). Laid BY PROGRAM, IN A SANDBOX (cutbox-door.mjs). By AI agents, Wed Nov 11 2026. No macro, syntax, notation, axiom, sorry.
-/
import Derived.Test.YtemodlgmjgdjpaaGreatDoorRows
import GoSem.ClaimSeven
namespace Go.Proofs.YtemodlgmjgdjpaaGreatDoor
namespace Rows

/-- THE TIED CARD OF 'laws.FnLoads'. -/
def fnLoadsCard : Claim7 := { stood := { row := fnLoadsRow, standIns := [], harness := (true, "70331f5d476ae99b67cf43dbae3ba08e7bb788cbe888e51342e58091b6418321"), looks := true }, kinds := [], alts := [], laidByText := true, laidKinds := [.handle], laidTests := true, laidLooks := .later }
def FnLoadsCardSaid : Prop := Claim7.holds Tryz.pinned (.plain (OpenSpec.ofChange fnLoadsSpec)) fnLoadsCard

/-- THE TIED CARD OF 'laws.FnExactTake18'. -/
def fnExactTake18Card : Claim7 := { stood := { row := fnExactTake18Row, standIns := [], harness := (true, "70331f5d476ae99b67cf43dbae3ba08e7bb788cbe888e51342e58091b6418321"), looks := true }, kinds := [], alts := [], laidByText := true, laidKinds := [.handle], laidTests := true, laidLooks := .later }
def FnExactTake18CardSaid : Prop := Claim7.holds Tryz.pinned (.plain (OpenSpec.ofChange fnExactTake18Spec)) fnExactTake18Card

/-- THE TIED CARD OF 'laws.FnExactEffective'. -/
def fnExactEffectiveCard : Claim7 := { stood := { row := fnExactEffectiveRow, standIns := [], harness := (true, "70331f5d476ae99b67cf43dbae3ba08e7bb788cbe888e51342e58091b6418321"), looks := true }, kinds := [], alts := [], laidByText := true, laidKinds := [.handle], laidTests := true, laidLooks := .later }
def FnExactEffectiveCardSaid : Prop := Claim7.holds Tryz.pinned (.plain (OpenSpec.ofChange fnExactEffectiveSpec)) fnExactEffectiveCard

/-- THE SECOND FORM's CARD OF 'laws.FnLoads'. -/
def fnLoadsUptoCard : Claim7 := { stood := { row := fnLoadsUptoRow, standIns := [], harness := (true, "70331f5d476ae99b67cf43dbae3ba08e7bb788cbe888e51342e58091b6418321"), looks := true }, kinds := [], alts := [], laidByText := true, laidKinds := [.handle], laidTests := true, laidLooks := .later }
def FnLoadsUptoCardSaid : Prop := Claim7.holds Tryz.pinned (.plain (OpenSpec.upto fnLoadsSpec)) fnLoadsUptoCard

/-- THE SECOND FORM's CARD OF 'laws.FnExactTake18'. -/
def fnExactTake18UptoCard : Claim7 := { stood := { row := fnExactTake18UptoRow, standIns := [], harness := (true, "70331f5d476ae99b67cf43dbae3ba08e7bb788cbe888e51342e58091b6418321"), looks := true }, kinds := [], alts := [], laidByText := true, laidKinds := [.handle], laidTests := true, laidLooks := .later }
def FnExactTake18UptoCardSaid : Prop := Claim7.holds Tryz.pinned (.plain (OpenSpec.upto fnExactTake18Spec)) fnExactTake18UptoCard

/-- THE SECOND FORM's CARD OF 'laws.FnExactEffective'. -/
def fnExactEffectiveUptoCard : Claim7 := { stood := { row := fnExactEffectiveUptoRow, standIns := [], harness := (true, "70331f5d476ae99b67cf43dbae3ba08e7bb788cbe888e51342e58091b6418321"), looks := true }, kinds := [], alts := [], laidByText := true, laidKinds := [.handle], laidTests := true, laidLooks := .later }
def FnExactEffectiveUptoCardSaid : Prop := Claim7.holds Tryz.pinned (.plain (OpenSpec.upto fnExactEffectiveSpec)) fnExactEffectiveUptoCard
end Rows
end Go.Proofs.YtemodlgmjgdjpaaGreatDoor
