/-
  What the program's text lays in the package's variable errorType, as a fact about its cell; a world that meets it. No program walk here.
-/
import Derived.Test.YtemodlgmjgdjpaaGreatDoorRows
import Derived.Test.YtemodlgmjgdjpaaGreatDoorAsIs
import Derived.LaidHandle
import Derived.Stop.Joined
import Derived.ChangeAt
import Derived.RowKit
import Derived.RowKitTokens
namespace Go.Proofs.YtemodlgmjgdjpaaGreatDoor
open Go.ChangeShapes Go.WideShapes Go.RowKit

theorem erEt : Tryz.prog.globalNamed "errors.errorType" = some 0 := by kernel_rfl
theorem erRt : (Tryz.prog.cutTypes.find? (·.1 == "internal/reflectlite.rtype")).map (·.2) = some 132 := by kernel_rfl
theorem erRow : ((List.range Tryz.prog.types.size).filter fun t => Tryz.prog.rowNamed t [101, 114, 114, 111, 114]) = [76] := by kernel_rfl
theorem erg_of_laid {W : World} (h : laidMetH Tryz.prog [("errors.errorType", Rows.laid_errors_errorType)] W) : ErG W := by
  have h' : laidMet Tryz.prog [] W ∧ handlesMet Tryz.prog [("errors.errorType", Rows.laid_errors_errorType)] W := h
  obtain ⟨name, u, ty, e1, e2, e3, e4, e5⟩ := h'.2 _ (List.mem_singleton.2 rfl)
  have en : name = [101, 114, 114, 111, 114] := (Option.some.inj e1).symm
  subst en
  obtain rfl := Option.some.inj (erRt.symm.trans e2)
  have hm : ty ∈ (List.range Tryz.prog.types.size).filter fun t => Tryz.prog.rowNamed t [101, 114, 114, 111, 114] := List.mem_filter.2 ⟨List.mem_range.2 e3, e4⟩
  rw [erRow] at hm
  obtain rfl := List.mem_singleton.1 hm
  have hh : typeHandle Tryz.prog 76 = .pointer (some ⟨1, 76, none⟩) := by kernel_rfl
  rw [hh] at e5
  have e6 := World.var?_cell erEt e5 0
  unfold ErG
  simpa using e6
/-- A world that meets the condition: the settled one, the variable's cell laid. -/
noncomputable def erWorld (os : Os) : World :=
  { World.holding Tryz.prog os ⟨#[], #[], []⟩ with heap := (World.holding Tryz.prog os ⟨#[], #[], []⟩).heap.modify 0 fun
      | .cells _ t frozen => .cells #[.iface 132 (.agg #[.pointer (some ⟨1, 76, none⟩)])] t frozen
      | o => o }
theorem erWorld_met (os : Os) (args : Array Value) : laidMetH Tryz.prog [("errors.errorType", Rows.laid_errors_errorType)] ((erWorld os).forCall (fun _ _ => 0) ⟨#[], args, []⟩).memory :=
  laidMetH_of_parts (laidMet_nil _ _) (by kernel_rfl)

end Go.Proofs.YtemodlgmjgdjpaaGreatDoor
