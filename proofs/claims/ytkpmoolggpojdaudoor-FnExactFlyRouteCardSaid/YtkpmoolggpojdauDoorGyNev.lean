/-
  Whether a way would never end, in the program: the plain answer, way by way; nothing that was there is written.
-/
import Derived.Test.YtkpmoolggpojdauDoorLgImpl
import Derived.RegionTactic
import Derived.ChangeAlike
import Derived.Stop.Asserts
namespace Go.Proofs.YtkpmoolggpojdauDoor
open Go.RowKit

set_option maxHeartbeats 1000000 in
theorem upTo_never {b : Bool} (m x y d h c : Int) (w : World) (hb : decide (h < m ∧ c ≤ 0) = b) :
    Calls Tryd.prog 89 #[.agg #[.int .i64 m], .agg #[.int .i64 x, .int .i64 y, .int .i64 d, .int .i64 h, .int .i64 c]] w fun e w' => e = .returned (.bool b) ∧ Below w.heap.size w w' := by
  subst hb
  by_cases h1 : h < m
  · by_cases h2 : c ≤ 0
    all_goals
      go_enter Tryd.func89, Tryd.ntmps89
      go_wp2
      go_ret
      exact ⟨ret_bool (by simp; omega), (by repeat (first | exact Below.refl _ _ | refine Below.alloc ?_ (by simp; try omega) _ | refine Below.setCell ?_ (by simp; try omega) _ | refine lgDr ?_ _))⟩
  · go_enter Tryd.func89, Tryd.ntmps89
    go_wp2
    go_ret
    exact ⟨ret_bool (by simp; omega), (by repeat (first | exact Below.refl _ _ | refine Below.alloc ?_ (by simp; try omega) _ | refine Below.setCell ?_ (by simp; try omega) _ | refine lgDr ?_ _))⟩

set_option maxHeartbeats 1000000 in
theorem never_1 (lx ly _m x y d h c : Int) (w : World) :
    Calls Tryd.prog 28 #[.iface 75 (.agg #[.int .i64 lx, .int .i64 ly]), .agg #[.int .i64 x, .int .i64 y, .int .i64 d, .int .i64 h, .int .i64 c]] w fun e w' => e = .returned (.bool false) ∧ Below w.heap.size w w' := by
  have ta : ∀ W : World, (Instr.typeAssert (.iface 75 (.agg #[.int .i64 lx, .int .i64 ly])) 55 87 true).run Tryd.prog W = .ok (.tuple #[.nilIface, .bool false]) W := fun W => run_typeAssert_lacksB Tryd.underlying87 (by kernel_rfl) (by kernel_rfl) _ _ W
  go_enter Tryd.func28, Tryd.ntmps28
  go_wp2
  go_ret
  exact ⟨rfl, (by repeat (first | exact Below.refl _ _ | refine Below.alloc ?_ (by simp; try omega) _ | refine Below.setCell ?_ (by simp; try omega) _ | refine lgDr ?_ _))⟩

set_option maxHeartbeats 1000000 in
theorem never_2 (lx _ly m x y d h c : Int) (w : World) :
    Calls Tryd.prog 28 #[.iface 77 (.agg #[.int .i64 lx, .int .i64 m]), .agg #[.int .i64 x, .int .i64 y, .int .i64 d, .int .i64 h, .int .i64 c]] w fun e w' => e = .returned (.bool false) ∧ Below w.heap.size w w' := by
  have ta : ∀ W : World, (Instr.typeAssert (.iface 77 (.agg #[.int .i64 lx, .int .i64 m])) 55 87 true).run Tryd.prog W = .ok (.tuple #[.nilIface, .bool false]) W := fun W => run_typeAssert_lacksB Tryd.underlying87 (by kernel_rfl) (by kernel_rfl) _ _ W
  go_enter Tryd.func28, Tryd.ntmps28
  go_wp2
  go_ret
  exact ⟨rfl, (by repeat (first | exact Below.refl _ _ | refine Below.alloc ?_ (by simp; try omega) _ | refine Below.setCell ?_ (by simp; try omega) _ | refine lgDr ?_ _))⟩

set_option maxHeartbeats 1000000 in
theorem never_3 {b : Bool} (_lx _ly m x y d h c : Int) (w : World) (hb : decide (h < m ∧ c ≤ 0) = b) :
    Calls Tryd.prog 28 #[.iface 79 (.agg #[.int .i64 m]), .agg #[.int .i64 x, .int .i64 y, .int .i64 d, .int .i64 h, .int .i64 c]] w fun e w' => e = .returned (.bool b) ∧ Below w.heap.size w w' := by
  have HB := hide hb
  clear hb
  have hm : ∀ W : World, (method 230 79 (.agg #[.int .i64 m]) "loop.example/g00063/impl.never").run Tryd.prog W = .ok (89, .agg #[.int .i64 m]) W := fun _ => by kernel_rfl
  have ta : ∀ W : World, (Instr.typeAssert (.iface 79 (.agg #[.int .i64 m])) 55 87 true).run Tryd.prog W = .ok (.tuple #[.iface 79 (.agg #[.int .i64 m]), .bool true]) W := fun W => run_typeAssert_hasB Tryd.underlying87 (by kernel_rfl) _ _ W
  go_enter Tryd.func28, Tryd.ntmps28
  go_wp2_with (go_at_call 89; refine (upTo_never _ _ _ _ _ _ _ (unhide HB)).mono ?_; rintro e w1 ⟨rfl, b1⟩; have B1 := hide b1; clear b1)
  go_ret
  exact ⟨rfl, Below.trans (by repeat (first | exact Below.refl _ _ | refine Below.alloc ?_ (by simp; try omega) _ | refine Below.setCell ?_ (by simp; try omega) _ | refine lgDr ?_ _)) ((unhide B1).mono (by simp; try omega))⟩

set_option maxHeartbeats 1000000 in
theorem never_4 (_lx _ly m x y d h c : Int) (w : World) :
    Calls Tryd.prog 28 #[.iface 81 (.agg #[.int .i64 m]), .agg #[.int .i64 x, .int .i64 y, .int .i64 d, .int .i64 h, .int .i64 c]] w fun e w' => e = .returned (.bool false) ∧ Below w.heap.size w w' := by
  have ta : ∀ W : World, (Instr.typeAssert (.iface 81 (.agg #[.int .i64 m])) 55 87 true).run Tryd.prog W = .ok (.tuple #[.nilIface, .bool false]) W := fun W => run_typeAssert_lacksB Tryd.underlying87 (by kernel_rfl) (by kernel_rfl) _ _ W
  go_enter Tryd.func28, Tryd.ntmps28
  go_wp2
  go_ret
  exact ⟨rfl, (by repeat (first | exact Below.refl _ _ | refine Below.alloc ?_ (by simp; try omega) _ | refine Below.setCell ?_ (by simp; try omega) _ | refine lgDr ?_ _))⟩

set_option maxHeartbeats 1000000 in
theorem never_5 (lx ly _m x y d h c : Int) (w : World) :
    Calls Tryd.prog 28 #[.iface 83 (.agg #[.int .i64 lx, .int .i64 ly]), .agg #[.int .i64 x, .int .i64 y, .int .i64 d, .int .i64 h, .int .i64 c]] w fun e w' => e = .returned (.bool false) ∧ Below w.heap.size w w' := by
  have ta : ∀ W : World, (Instr.typeAssert (.iface 83 (.agg #[.int .i64 lx, .int .i64 ly])) 55 87 true).run Tryd.prog W = .ok (.tuple #[.nilIface, .bool false]) W := fun W => run_typeAssert_lacksB Tryd.underlying87 (by kernel_rfl) (by kernel_rfl) _ _ W
  go_enter Tryd.func28, Tryd.ntmps28
  go_wp2
  go_ret
  exact ⟨rfl, (by repeat (first | exact Below.refl _ _ | refine Below.alloc ?_ (by simp; try omega) _ | refine Below.setCell ?_ (by simp; try omega) _ | refine lgDr ?_ _))⟩

end Go.Proofs.YtkpmoolggpojdauDoor
