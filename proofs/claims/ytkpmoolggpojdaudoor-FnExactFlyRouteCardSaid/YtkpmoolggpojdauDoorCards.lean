/-
  DERIVED. GIVEN WITH THE SEED: THE CARDS: each row of YtkpmoolggpojdauDoorRows.lean that lists a variable, with what it lists TIED to the program's text (the seventh form; the later family's looks); each row that meets fmt, with fmt's text TOLD by the authors' own Lean function (tested against real Go, not proved from fmt's source: count such statements apart). THE CARD IS WHAT COUNTS. Prove the row's statement (the work); the ties are given (YtkpmoolggpojdauDoorTie.lean); close each card by the builder's one call (the guide's Derived/Test/ToyasCard.lean, 'card_holds'). Laid BY PROGRAM, IN A SANDBOX (cutbox-door.mjs). By AI agents, Wed Nov 11 2026. No macro, syntax, notation, axiom, sorry.
-/
import Derived.Test.YtkpmoolggpojdauDoorRows
import GoSem.ClaimSeven
namespace Go.Proofs.YtkpmoolggpojdauDoor
namespace Rows

/-- THE TIED CARD OF 'laws.FnExactFlyLeg'. -/
def fnExactFlyLegCard : Claim7 := { stood := { row := fnExactFlyLegRow, standIns := [], harness := (true, "d1e80e1906f7462ee51c107391086f5914f2a00907d68e92fbf3ea91105aba00"), looks := true }, kinds := [], alts := [], laidByText := true, laidKinds := [.data], laidTests := true, laidLooks := .later }
def FnExactFlyLegCardSaid : Prop := Claim7.holds Tryd.pinned (.plain (OpenSpec.ofChange fnExactFlyLegSpec)) fnExactFlyLegCard

/-- THE TIED CARD OF 'laws.FnExactFlyRoute'. -/
def fnExactFlyRouteCard : Claim7 := { stood := { row := fnExactFlyRouteRow, standIns := [], harness := (true, "d1e80e1906f7462ee51c107391086f5914f2a00907d68e92fbf3ea91105aba00"), looks := true }, kinds := [], alts := [], laidByText := true, laidKinds := [.data], laidTests := true, laidLooks := .later }
def FnExactFlyRouteCardSaid : Prop := Claim7.holds Tryd.pinned (.plain (OpenSpec.ofChange fnExactFlyRouteSpec)) fnExactFlyRouteCard

/-- THE TIED CARD OF 'laws.FnExactLegRead'. -/
def fnExactLegReadCard : Claim7 := { stood := { row := fnExactLegReadRow, standIns := [], harness := (true, "d1e80e1906f7462ee51c107391086f5914f2a00907d68e92fbf3ea91105aba00"), looks := true }, kinds := [], alts := [], laidByText := true, laidKinds := [.data], laidTests := true, laidLooks := .later }
def FnExactLegReadCardSaid : Prop := Claim7.holds Tryd.pinned (.plain (OpenSpec.ofChange fnExactLegReadSpec)) fnExactLegReadCard

/-- THE SECOND FORM's CARD OF 'laws.FnExactFlyLeg'. -/
def fnExactFlyLegUptoCard : Claim7 := { stood := { row := fnExactFlyLegUptoRow, standIns := [], harness := (true, "d1e80e1906f7462ee51c107391086f5914f2a00907d68e92fbf3ea91105aba00"), looks := true }, kinds := [], alts := [], laidByText := true, laidKinds := [.data], laidTests := true, laidLooks := .later }
def FnExactFlyLegUptoCardSaid : Prop := Claim7.holds Tryd.pinned (.plain (OpenSpec.upto fnExactFlyLegSpec)) fnExactFlyLegUptoCard

/-- THE SECOND FORM's CARD OF 'laws.FnExactFlyRoute'. -/
def fnExactFlyRouteUptoCard : Claim7 := { stood := { row := fnExactFlyRouteUptoRow, standIns := [], harness := (true, "d1e80e1906f7462ee51c107391086f5914f2a00907d68e92fbf3ea91105aba00"), looks := true }, kinds := [], alts := [], laidByText := true, laidKinds := [.data], laidTests := true, laidLooks := .later }
def FnExactFlyRouteUptoCardSaid : Prop := Claim7.holds Tryd.pinned (.plain (OpenSpec.upto fnExactFlyRouteSpec)) fnExactFlyRouteUptoCard

/-- THE SECOND FORM's CARD OF 'laws.FnExactLegRead'. -/
def fnExactLegReadUptoCard : Claim7 := { stood := { row := fnExactLegReadUptoRow, standIns := [], harness := (true, "d1e80e1906f7462ee51c107391086f5914f2a00907d68e92fbf3ea91105aba00"), looks := true }, kinds := [], alts := [], laidByText := true, laidKinds := [.data], laidTests := true, laidLooks := .later }
def FnExactLegReadUptoCardSaid : Prop := Claim7.holds Tryd.pinned (.plain (OpenSpec.upto fnExactLegReadSpec)) fnExactLegReadUptoCard
end Rows
end Go.Proofs.YtkpmoolggpojdauDoor
