/-
  What the program answers of legs and crafts: whether they are so, and the way of a leg. At every argument; nothing that was there is written.
-/
import Derived.Test.YtkpmoolggpojdauDoorLgSpec
namespace Go.Proofs.YtkpmoolggpojdauDoor
open Go.RowKit

set_option maxHeartbeats 1000000 in
theorem isDirection_is {b : Bool} (d : Int) (w : World) (hc : inB d 0 7 = b) :
    Calls Tryd.prog 42 #[.int .i64 d] w fun e w' => e = .returned (.bool b) ∧ w' = w := by
  go_enter Tryd.func42, Tryd.ntmps42
  go_wp2_with (go_at_call 43; refine (within_is _ _ _ _ hc).mono ?_; rintro e w' ⟨rfl, hw⟩; subst w')
  go_ret
  exact ⟨rfl, rfl⟩
set_option maxHeartbeats 1000000 in
theorem inReach_is {b : Bool} (x y d h c : Int) (w : World) (hc : (inB x (-1000) 1000 && inB y (-1000) 1000) = b) :
    Calls Tryd.prog 41 #[.agg #[.int .i64 x, .int .i64 y, .int .i64 d, .int .i64 h, .int .i64 c]] w fun e w' => e = .returned (.bool b) ∧ Below w.heap.size w w' := by
  subst hc
  rcases two (inB x (-1000) 1000) (inB y (-1000) 1000) with ⟨q1, hv⟩ | ⟨q1, q2, hv⟩ | ⟨q1, q2, hv⟩
  all_goals
    have HE := hide hv
    rw [unhide HE]
    clear hv
    go_enter Tryd.func41, Tryd.ntmps41
    go_wp2_with (go_at_call 43; refine (within_is _ _ _ _ (by first | exact q1 | exact q2)).mono ?_; rintro e w' ⟨rfl, hw⟩; subst w')
    go_ret
    exact ⟨rfl, (by repeat (first | exact Below.refl _ _ | refine Below.alloc ?_ (by simp; try omega) _ | refine Below.setCell ?_ (by simp; try omega) _ | refine lgDr ?_ _))⟩
set_option maxHeartbeats 2000000 in
theorem implCraftOk_is {b : Bool} (x y d h c : Int) (w : World) (hc : cfB ⟨x, y, d, h, c⟩ = b) :
    Calls Tryd.prog 27 #[.agg #[.int .i64 x, .int .i64 y, .int .i64 d, .int .i64 h, .int .i64 c]] w fun e w' => e = .returned (.bool b) ∧ Below w.heap.size w w' := by
  subst hc
  rcases four (inB x (-1000) 1000 && inB y (-1000) 1000) (inB d 0 7) (inB h 0 2000) (inB c (-20) 20) with ⟨q1, hv⟩ | ⟨q1, q2, hv⟩ | ⟨q1, q2, q3, hv⟩ | ⟨q1, q2, q3, q4, hv⟩ | ⟨q1, q2, q3, q4, hv⟩
  all_goals
    have HE := hide (show cfB ⟨x, y, d, h, c⟩ = _ from hv)
    rw [unhide HE]
    clear hv
    have Q1 := hide q1
    clear q1
    obtain ⟨W, hW⟩ : ∃ W, W = w.alloc (Obj.cells #[.int .i64 x, .int .i64 y, .int .i64 d, .int .i64 h, .int .i64 c] 26) := ⟨_, rfl⟩
    have k0 : W.cell? ⟨w.heap.size, 2, none⟩ = some (.int .i64 d) := by rw [hW]; simp [go_sem]
    have k1 : W.cell? ⟨w.heap.size, 3, none⟩ = some (.int .i64 h) := by rw [hW]; simp [go_sem]
    have k2 : W.cell? ⟨w.heap.size, 4, none⟩ = some (.int .i64 c) := by rw [hW]; simp [go_sem]
    have BB : Hid (Below w.heap.size w W) := hide (by rw [hW]; exact bel1 _)
    have HW := hide hW
    clear hW
    go_enter Tryd.func27, Tryd.ntmps27
    go_wp2_with (first | (go_at_call 41; refine (inReach_is _ _ _ _ _ _ (unhide Q1)).mono ?_; rintro e w1 ⟨rfl, b1⟩; rw [← unhide HW] at b1; have d0 := (b1.cell (block_lt_of_cell k0)).trans k0; have d1 := (b1.cell (block_lt_of_cell k1)).trans k1; have d2 := (b1.cell (block_lt_of_cell k2)).trans k2; have B1 := hide ((unhide BB).trans (b1.mono (unhide BB).size)); clear b1) | (go_at_call 42; refine (isDirection_is _ _ (by exact q2)).mono ?_; rintro e w' ⟨rfl, hw⟩; subst w') | (go_at_call 43; refine (within_is _ _ _ _ (by first | exact q3 | exact q4)).mono ?_; rintro e w' ⟨rfl, hw⟩; subst w'))
    go_ret
    exact ⟨rfl, unhide B1⟩

set_option maxHeartbeats 1000000 in
theorem toPlace_isSo {b : Bool} (x y : Int) (w : World) (hc : (inB x (-500) 500 && inB y (-500) 500) = b) :
    Calls Tryd.prog 67 #[.agg #[.int .i64 x, .int .i64 y]] w fun e w' => e = .returned (.bool b) ∧ Below w.heap.size w w' := by
  subst hc
  rcases two (inB x (-500) 500) (inB y (-500) 500) with ⟨q1, hv⟩ | ⟨q1, q2, hv⟩ | ⟨q1, q2, hv⟩
  all_goals
    have HE := hide hv
    rw [unhide HE]
    clear hv
    go_enter Tryd.func67, Tryd.ntmps67
    go_wp2_with (go_at_call 43; refine (within_is _ _ _ _ (by first | exact q1 | exact q2)).mono ?_; rintro e w' ⟨rfl, hw⟩; subst w')
    go_ret
    exact ⟨rfl, (by repeat (first | exact Below.refl _ _ | refine Below.alloc ?_ (by simp; try omega) _ | refine Below.setCell ?_ (by simp; try omega) _ | refine lgDr ?_ _))⟩
set_option maxHeartbeats 2000000 in
theorem wayOf_1 {b : Bool} (x y m : Int) (w : World) (hc : (inB x (-500) 500 && inB y (-500) 500) = b) :
    Calls Tryd.prog 26 #[.agg #[.int .i64 1, .int .i64 x, .int .i64 y, .int .i64 m]] w fun e w' => e = .returned (.tuple #[.iface 75 (.agg #[.int .i64 x, .int .i64 y]), .bool b]) ∧ Below w.heap.size w w' := by
  have hm : ∀ W : World, (method 230 75 (.agg #[.int .i64 x, .int .i64 y]) "loop.example/g00063/impl.isSo").run Tryd.prog W = .ok (67, .agg #[.int .i64 x, .int .i64 y]) W := fun _ => by kernel_rfl
  go_enter Tryd.func26, Tryd.ntmps26
  go_wp2_with (go_at_call 67; refine (toPlace_isSo _ _ _ hc).mono ?_; rintro e w1 ⟨rfl, b1⟩; have B1 := hide b1; clear b1)
  refine bodyPost_ret (v := .tuple #[.iface 75 (.agg #[.int .i64 x, .int .i64 y]), .bool b]) (by simp [results, Tryd.results26, go_sem]) rfl ⟨rfl, ?_⟩
  exact Below.trans (by repeat (first | exact Below.refl _ _ | refine Below.alloc ?_ (by simp; try omega) _ | refine Below.setCell ?_ (by simp; try omega) _ | refine lgDr ?_ _)) ((unhide B1).mono (by simp; try omega))

set_option maxHeartbeats 1000000 in
theorem onCourse_isSo {b : Bool} (x m : Int) (w : World) (hc : (inB x 0 7 && inB m 1 500) = b) :
    Calls Tryd.prog 85 #[.agg #[.int .i64 x, .int .i64 m]] w fun e w' => e = .returned (.bool b) ∧ Below w.heap.size w w' := by
  subst hc
  rcases two (inB x 0 7) (inB m 1 500) with ⟨q1, hv⟩ | ⟨q1, q2, hv⟩ | ⟨q1, q2, hv⟩
  all_goals
    have HE := hide hv
    rw [unhide HE]
    clear hv
    go_enter Tryd.func85, Tryd.ntmps85
    go_wp2_with (first | (go_at_call 42; refine (isDirection_is _ _ (by exact q1)).mono ?_; rintro e w' ⟨rfl, hw⟩; subst w') | (go_at_call 43; refine (within_is _ _ _ _ (by first | exact q1 | exact q2)).mono ?_; rintro e w' ⟨rfl, hw⟩; subst w'))
    go_ret
    exact ⟨rfl, (by repeat (first | exact Below.refl _ _ | refine Below.alloc ?_ (by simp; try omega) _ | refine Below.setCell ?_ (by simp; try omega) _ | refine lgDr ?_ _))⟩
set_option maxHeartbeats 2000000 in
theorem wayOf_2 {b : Bool} (x y m : Int) (w : World) (hc : (inB x 0 7 && inB m 1 500) = b) :
    Calls Tryd.prog 26 #[.agg #[.int .i64 2, .int .i64 x, .int .i64 y, .int .i64 m]] w fun e w' => e = .returned (.tuple #[.iface 77 (.agg #[.int .i64 x, .int .i64 m]), .bool b]) ∧ Below w.heap.size w w' := by
  have hm : ∀ W : World, (method 230 77 (.agg #[.int .i64 x, .int .i64 m]) "loop.example/g00063/impl.isSo").run Tryd.prog W = .ok (85, .agg #[.int .i64 x, .int .i64 m]) W := fun _ => by kernel_rfl
  go_enter Tryd.func26, Tryd.ntmps26
  go_wp2_with (go_at_call 85; refine (onCourse_isSo _ _ _ hc).mono ?_; rintro e w1 ⟨rfl, b1⟩; have B1 := hide b1; clear b1)
  refine bodyPost_ret (v := .tuple #[.iface 77 (.agg #[.int .i64 x, .int .i64 m]), .bool b]) (by simp [results, Tryd.results26, go_sem]) rfl ⟨rfl, ?_⟩
  exact Below.trans (by repeat (first | exact Below.refl _ _ | refine Below.alloc ?_ (by simp; try omega) _ | refine Below.setCell ?_ (by simp; try omega) _ | refine lgDr ?_ _)) ((unhide B1).mono (by simp; try omega))

set_option maxHeartbeats 1000000 in
theorem upTo_isSo {b : Bool} (m : Int) (w : World) (hc : inB m 0 1000 = b) :
    Calls Tryd.prog 88 #[.agg #[.int .i64 m]] w fun e w' => e = .returned (.bool b) ∧ Below w.heap.size w w' := by
  subst hc
  rcases one (inB m 0 1000) with ⟨q1, hv⟩ | ⟨q1, hv⟩
  all_goals
    have HE := hide hv
    rw [unhide HE]
    clear hv
    go_enter Tryd.func88, Tryd.ntmps88
    go_wp2_with (go_at_call 43; refine (within_is _ _ _ _ (by first | exact q1 | exact q2)).mono ?_; rintro e w' ⟨rfl, hw⟩; subst w')
    go_ret
    exact ⟨rfl, (by repeat (first | exact Below.refl _ _ | refine Below.alloc ?_ (by simp; try omega) _ | refine Below.setCell ?_ (by simp; try omega) _ | refine lgDr ?_ _))⟩
set_option maxHeartbeats 2000000 in
theorem wayOf_3 {b : Bool} (x y m : Int) (w : World) (hc : inB m 0 1000 = b) :
    Calls Tryd.prog 26 #[.agg #[.int .i64 3, .int .i64 x, .int .i64 y, .int .i64 m]] w fun e w' => e = .returned (.tuple #[.iface 79 (.agg #[.int .i64 m]), .bool b]) ∧ Below w.heap.size w w' := by
  have hm : ∀ W : World, (method 230 79 (.agg #[.int .i64 m]) "loop.example/g00063/impl.isSo").run Tryd.prog W = .ok (88, .agg #[.int .i64 m]) W := fun _ => by kernel_rfl
  go_enter Tryd.func26, Tryd.ntmps26
  go_wp2_with (go_at_call 88; refine (upTo_isSo _ _ hc).mono ?_; rintro e w1 ⟨rfl, b1⟩; have B1 := hide b1; clear b1)
  refine bodyPost_ret (v := .tuple #[.iface 79 (.agg #[.int .i64 m]), .bool b]) (by simp [results, Tryd.results26, go_sem]) rfl ⟨rfl, ?_⟩
  exact Below.trans (by repeat (first | exact Below.refl _ _ | refine Below.alloc ?_ (by simp; try omega) _ | refine Below.setCell ?_ (by simp; try omega) _ | refine lgDr ?_ _)) ((unhide B1).mono (by simp; try omega))

set_option maxHeartbeats 1000000 in
theorem inHold_isSo {b : Bool} (m : Int) (w : World) (hc : inB m 1 9 = b) :
    Calls Tryd.prog 92 #[.agg #[.int .i64 m]] w fun e w' => e = .returned (.bool b) ∧ Below w.heap.size w w' := by
  subst hc
  rcases one (inB m 1 9) with ⟨q1, hv⟩ | ⟨q1, hv⟩
  all_goals
    have HE := hide hv
    rw [unhide HE]
    clear hv
    go_enter Tryd.func92, Tryd.ntmps92
    go_wp2_with (go_at_call 43; refine (within_is _ _ _ _ (by first | exact q1 | exact q2)).mono ?_; rintro e w' ⟨rfl, hw⟩; subst w')
    go_ret
    exact ⟨rfl, (by repeat (first | exact Below.refl _ _ | refine Below.alloc ?_ (by simp; try omega) _ | refine Below.setCell ?_ (by simp; try omega) _ | refine lgDr ?_ _))⟩
set_option maxHeartbeats 2000000 in
theorem wayOf_4 {b : Bool} (x y m : Int) (w : World) (hc : inB m 1 9 = b) :
    Calls Tryd.prog 26 #[.agg #[.int .i64 4, .int .i64 x, .int .i64 y, .int .i64 m]] w fun e w' => e = .returned (.tuple #[.iface 81 (.agg #[.int .i64 m]), .bool b]) ∧ Below w.heap.size w w' := by
  have hm : ∀ W : World, (method 230 81 (.agg #[.int .i64 m]) "loop.example/g00063/impl.isSo").run Tryd.prog W = .ok (92, .agg #[.int .i64 m]) W := fun _ => by kernel_rfl
  go_enter Tryd.func26, Tryd.ntmps26
  go_wp2_with (go_at_call 92; refine (inHold_isSo _ _ hc).mono ?_; rintro e w1 ⟨rfl, b1⟩; have B1 := hide b1; clear b1)
  refine bodyPost_ret (v := .tuple #[.iface 81 (.agg #[.int .i64 m]), .bool b]) (by simp [results, Tryd.results26, go_sem]) rfl ⟨rfl, ?_⟩
  exact Below.trans (by repeat (first | exact Below.refl _ _ | refine Below.alloc ?_ (by simp; try omega) _ | refine Below.setCell ?_ (by simp; try omega) _ | refine lgDr ?_ _)) ((unhide B1).mono (by simp; try omega))

set_option maxHeartbeats 1000000 in
theorem byTurn_isSo {b : Bool} (x y : Int) (w : World) (hc : (inB x 0 7 && (y == -1 || y == 1)) = b) :
    Calls Tryd.prog 96 #[.agg #[.int .i64 x, .int .i64 y]] w fun e w' => e = .returned (.bool b) ∧ Below w.heap.size w w' := by
  subst hc
  rcases lg5 x y with ⟨q1, hv⟩ | ⟨q1, y1, y2, hv⟩ | ⟨q1, y1, hv⟩ | ⟨q1, y1, y2, hv⟩
  all_goals
    have HE := hide hv
    rw [unhide HE]
    clear hv
    go_enter Tryd.func96, Tryd.ntmps96
    go_wp2_with (first | (go_at_call 42; refine (isDirection_is _ _ (by exact q1)).mono ?_; rintro e w' ⟨rfl, hw⟩; subst w') | (go_at_call 43; refine (within_is _ _ _ _ (by first | exact q1 | exact q2)).mono ?_; rintro e w' ⟨rfl, hw⟩; subst w'))
    go_ret
    exact ⟨rfl, (by repeat (first | exact Below.refl _ _ | refine Below.alloc ?_ (by simp; try omega) _ | refine Below.setCell ?_ (by simp; try omega) _ | refine lgDr ?_ _))⟩
set_option maxHeartbeats 2000000 in
theorem wayOf_5 {b : Bool} (x y m : Int) (w : World) (hc : (inB x 0 7 && (y == -1 || y == 1)) = b) :
    Calls Tryd.prog 26 #[.agg #[.int .i64 5, .int .i64 x, .int .i64 y, .int .i64 m]] w fun e w' => e = .returned (.tuple #[.iface 83 (.agg #[.int .i64 x, .int .i64 y]), .bool b]) ∧ Below w.heap.size w w' := by
  have hm : ∀ W : World, (method 230 83 (.agg #[.int .i64 x, .int .i64 y]) "loop.example/g00063/impl.isSo").run Tryd.prog W = .ok (96, .agg #[.int .i64 x, .int .i64 y]) W := fun _ => by kernel_rfl
  go_enter Tryd.func26, Tryd.ntmps26
  go_wp2_with (go_at_call 96; refine (byTurn_isSo _ _ _ hc).mono ?_; rintro e w1 ⟨rfl, b1⟩; have B1 := hide b1; clear b1)
  refine bodyPost_ret (v := .tuple #[.iface 83 (.agg #[.int .i64 x, .int .i64 y]), .bool b]) (by simp [results, Tryd.results26, go_sem]) rfl ⟨rfl, ?_⟩
  exact Below.trans (by repeat (first | exact Below.refl _ _ | refine Below.alloc ?_ (by simp; try omega) _ | refine Below.setCell ?_ (by simp; try omega) _ | refine lgDr ?_ _)) ((unhide B1).mono (by simp; try omega))

set_option maxHeartbeats 2000000 in
theorem wayOf_no (k x y m : Int) (w : World) (h1 : (k == 1) = false) (h2 : (k == 2) = false) (h3 : (k == 3) = false) (h4 : (k == 4) = false) (h5 : (k == 5) = false) :
    Calls Tryd.prog 26 #[.agg #[.int .i64 k, .int .i64 x, .int .i64 y, .int .i64 m]] w fun e w' => e = .returned (.tuple #[.nilIface, .bool false]) ∧ Below w.heap.size w w' := by
  go_enter Tryd.func26, Tryd.ntmps26
  go_wp2
  refine bodyPost_ret (v := .tuple #[.nilIface, .bool false]) (by simp [results, Tryd.results26, go_sem]) rfl ⟨rfl, ?_⟩
  exact (by repeat (first | exact Below.refl _ _ | refine Below.alloc ?_ (by simp; try omega) _ | refine Below.setCell ?_ (by simp; try omega) _ | refine lgDr ?_ _))
theorem specLegOk_any (k x y m : Int) (w : World) :
    Calls Tryd.prog 24 #[.agg #[.int .i64 k, .int .i64 x, .int .i64 y, .int .i64 m]] w fun e w' => e = .returned (.bool (lgB k x y m)) ∧ Below w.heap.size w w' := specLegOk_is k x y m w rfl
theorem specCraftOk_any (x y d h c : Int) (w : World) :
    Calls Tryd.prog 23 #[.agg #[.int .i64 x, .int .i64 y, .int .i64 d, .int .i64 h, .int .i64 c]] w fun e w' => e = .returned (.bool (cfB ⟨x, y, d, h, c⟩)) ∧ Below w.heap.size w w' := specCraftOk_is x y d h c w rfl
theorem implCraftOk_any (x y d h c : Int) (w : World) :
    Calls Tryd.prog 27 #[.agg #[.int .i64 x, .int .i64 y, .int .i64 d, .int .i64 h, .int .i64 c]] w fun e w' => e = .returned (.bool (cfB ⟨x, y, d, h, c⟩)) ∧ Below w.heap.size w w' := implCraftOk_is x y d h c w rfl

end Go.Proofs.YtkpmoolggpojdauDoor
