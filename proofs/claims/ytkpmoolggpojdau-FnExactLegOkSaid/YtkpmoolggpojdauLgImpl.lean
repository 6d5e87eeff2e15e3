/-
  What the program answers of legs and crafts: whether they are so, and the way of a leg. At every argument; nothing that was there is written.
-/
import Derived.Test.YtkpmoolggpojdauLgSpec
namespace Go.Proofs.Ytkpmoolggpojdau
open Go.RowKit

set_option maxHeartbeats 1000000 in
theorem isDirection_is {b : Bool} (d : Int) (w : World) (hc : inB d 0 7 = b) :
    Calls Try.prog 17 #[.int .i64 d] w fun e w' => e = .returned (.bool b) ∧ w' = w := by
  go_enter Try.func17, Try.ntmps17
  go_wp2_with (go_at_call 18; refine (within_is _ _ _ _ hc).mono ?_; rintro e w' ⟨rfl, hw⟩; subst w')
  go_ret
  exact ⟨rfl, rfl⟩
set_option maxHeartbeats 1000000 in
theorem inReach_is {b : Bool} (x y d h c : Int) (w : World) (hc : (inB x (-1000) 1000 && inB y (-1000) 1000) = b) :
    Calls Try.prog 16 #[.agg #[.int .i64 x, .int .i64 y, .int .i64 d, .int .i64 h, .int .i64 c]] w fun e w' => e = .returned (.bool b) ∧ Below w.heap.size w w' := by
  subst hc
  rcases two (inB x (-1000) 1000) (inB y (-1000) 1000) with ⟨q1, hv⟩ | ⟨q1, q2, hv⟩ | ⟨q1, q2, hv⟩
  all_goals
    have HE := hide hv
    rw [unhide HE]
    clear hv
    go_enter Try.func16, Try.ntmps16
    go_wp2_with (go_at_call 18; refine (within_is _ _ _ _ (by first | exact q1 | exact q2)).mono ?_; rintro e w' ⟨rfl, hw⟩; subst w')
    go_ret
    exact ⟨rfl, (by repeat (first | exact Below.refl _ _ | refine Below.alloc ?_ (by simp; try omega) _ | refine Below.setCell ?_ (by simp; try omega) _ | refine lgDr ?_ _))⟩
set_option maxHeartbeats 2000000 in
theorem implCraftOk_is {b : Bool} (x y d h c : Int) (w : World) (hc : cfB ⟨x, y, d, h, c⟩ = b) :
    Calls Try.prog 11 #[.agg #[.int .i64 x, .int .i64 y, .int .i64 d, .int .i64 h, .int .i64 c]] w fun e w' => e = .returned (.bool b) ∧ Below w.heap.size w w' := by
  subst hc
  rcases four (inB x (-1000) 1000 && inB y (-1000) 1000) (inB d 0 7) (inB h 0 2000) (inB c (-20) 20) with ⟨q1, hv⟩ | ⟨q1, q2, hv⟩ | ⟨q1, q2, q3, hv⟩ | ⟨q1, q2, q3, q4, hv⟩ | ⟨q1, q2, q3, q4, hv⟩
  all_goals
    have HE := hide (show cfB ⟨x, y, d, h, c⟩ = _ from hv)
    rw [unhide HE]
    clear hv
    have Q1 := hide q1
    clear q1
    obtain ⟨W, hW⟩ : ∃ W, W = w.alloc (Obj.cells #[.int .i64 x, .int .i64 y, .int .i64 d, .int .i64 h, .int .i64 c] 31) := ⟨_, rfl⟩
    have k0 : W.cell? ⟨w.heap.size, 2, none⟩ = some (.int .i64 d) := by rw [hW]; simp [go_sem]
    have k1 : W.cell? ⟨w.heap.size, 3, none⟩ = some (.int .i64 h) := by rw [hW]; simp [go_sem]
    have k2 : W.cell? ⟨w.heap.size, 4, none⟩ = some (.int .i64 c) := by rw [hW]; simp [go_sem]
    have BB : Hid (Below w.heap.size w W) := hide (by rw [hW]; exact bel1 _)
    have HW := hide hW
    clear hW
    go_enter Try.func11, Try.ntmps11
    go_wp2_with (first | (go_at_call 16; refine (inReach_is _ _ _ _ _ _ (unhide Q1)).mono ?_; rintro e w1 ⟨rfl, b1⟩; rw [← unhide HW] at b1; have d0 := (b1.cell (block_lt_of_cell k0)).trans k0; have d1 := (b1.cell (block_lt_of_cell k1)).trans k1; have d2 := (b1.cell (block_lt_of_cell k2)).trans k2; have B1 := hide ((unhide BB).trans (b1.mono (unhide BB).size)); clear b1) | (go_at_call 17; refine (isDirection_is _ _ (by exact q2)).mono ?_; rintro e w' ⟨rfl, hw⟩; subst w') | (go_at_call 18; refine (within_is _ _ _ _ (by first | exact q3 | exact q4)).mono ?_; rintro e w' ⟨rfl, hw⟩; subst w'))
    go_ret
    exact ⟨rfl, unhide B1⟩

set_option maxHeartbeats 1000000 in
theorem toPlace_isSo {b : Bool} (x y : Int) (w : World) (hc : (inB x (-500) 500 && inB y (-500) 500) = b) :
    Calls Try.prog 36 #[.agg #[.int .i64 x, .int .i64 y]] w fun e w' => e = .returned (.bool b) ∧ Below w.heap.size w w' := by
  subst hc
  rcases two (inB x (-500) 500) (inB y (-500) 500) with ⟨q1, hv⟩ | ⟨q1, q2, hv⟩ | ⟨q1, q2, hv⟩
  all_goals
    have HE := hide hv
    rw [unhide HE]
    clear hv
    go_enter Try.func36, Try.ntmps36
    go_wp2_with (go_at_call 18; refine (within_is _ _ _ _ (by first | exact q1 | exact q2)).mono ?_; rintro e w' ⟨rfl, hw⟩; subst w')
    go_ret
    exact ⟨rfl, (by repeat (first | exact Below.refl _ _ | refine Below.alloc ?_ (by simp; try omega) _ | refine Below.setCell ?_ (by simp; try omega) _ | refine lgDr ?_ _))⟩
set_option maxHeartbeats 2000000 in
theorem wayOf_1 {b : Bool} (x y m : Int) (w : World) (hc : (inB x (-500) 500 && inB y (-500) 500) = b) :
    Calls Try.prog 15 #[.agg #[.int .i64 1, .int .i64 x, .int .i64 y, .int .i64 m]] w fun e w' => e = .returned (.tuple #[.iface 50 (.agg #[.int .i64 x, .int .i64 y]), .bool b]) ∧ Below w.heap.size w w' := by
  have hm : ∀ W : World, (method 194 50 (.agg #[.int .i64 x, .int .i64 y]) "loop.example/g00063/impl.isSo").run Try.prog W = .ok (36, .agg #[.int .i64 x, .int .i64 y]) W := fun _ => by kernel_rfl
  go_enter Try.func15, Try.ntmps15
  go_wp2_with (go_at_call 36; refine (toPlace_isSo _ _ _ hc).mono ?_; rintro e w1 ⟨rfl, b1⟩; have B1 := hide b1; clear b1)
  refine bodyPost_ret (v := .tuple #[.iface 50 (.agg #[.int .i64 x, .int .i64 y]), .bool b]) (by simp [results, Try.results15, go_sem]) rfl ⟨rfl, ?_⟩
  exact Below.trans (by repeat (first | exact Below.refl _ _ | refine Below.alloc ?_ (by simp; try omega) _ | refine Below.setCell ?_ (by simp; try omega) _ | refine lgDr ?_ _)) ((unhide B1).mono (by simp; try omega))

set_option maxHeartbeats 1000000 in
theorem onCourse_isSo {b : Bool} (x m : Int) (w : World) (hc : (inB x 0 7 && inB m 1 500) = b) :
    Calls Try.prog 53 #[.agg #[.int .i64 x, .int .i64 m]] w fun e w' => e = .returned (.bool b) ∧ Below w.heap.size w w' := by
  subst hc
  rcases two (inB x 0 7) (inB m 1 500) with ⟨q1, hv⟩ | ⟨q1, q2, hv⟩ | ⟨q1, q2, hv⟩
  all_goals
    have HE := hide hv
    rw [unhide HE]
    clear hv
    go_enter Try.func53, Try.ntmps53
    go_wp2_with (first | (go_at_call 17; refine (isDirection_is _ _ (by exact q1)).mono ?_; rintro e w' ⟨rfl, hw⟩; subst w') | (go_at_call 18; refine (within_is _ _ _ _ (by first | exact q1 | exact q2)).mono ?_; rintro e w' ⟨rfl, hw⟩; subst w'))
    go_ret
    exact ⟨rfl, (by repeat (first | exact Below.refl _ _ | refine Below.alloc ?_ (by simp; try omega) _ | refine Below.setCell ?_ (by simp; try omega) _ | refine lgDr ?_ _))⟩
set_option maxHeartbeats 2000000 in
theorem wayOf_2 {b : Bool} (x y m : Int) (w : World) (hc : (inB x 0 7 && inB m 1 500) = b) :
    Calls Try.prog 15 #[.agg #[.int .i64 2, .int .i64 x, .int .i64 y, .int .i64 m]] w fun e w' => e = .returned (.tuple #[.iface 52 (.agg #[.int .i64 x, .int .i64 m]), .bool b]) ∧ Below w.heap.size w w' := by
  have hm : ∀ W : World, (method 194 52 (.agg #[.int .i64 x, .int .i64 m]) "loop.example/g00063/impl.isSo").run Try.prog W = .ok (53, .agg #[.int .i64 x, .int .i64 m]) W := fun _ => by kernel_rfl
  go_enter Try.func15, Try.ntmps15
  go_wp2_with (go_at_call 53; refine (onCourse_isSo _ _ _ hc).mono ?_; rintro e w1 ⟨rfl, b1⟩; have B1 := hide b1; clear b1)
  refine bodyPost_ret (v := .tuple #[.iface 52 (.agg #[.int .i64 x, .int .i64 m]), .bool b]) (by simp [results, Try.results15, go_sem]) rfl ⟨rfl, ?_⟩
  exact Below.trans (by repeat (first | exact Below.refl _ _ | refine Below.alloc ?_ (by simp; try omega) _ | refine Below.setCell ?_ (by simp; try omega) _ | refine lgDr ?_ _)) ((unhide B1).mono (by simp; try omega))

set_option maxHeartbeats 1000000 in
theorem upTo_isSo {b : Bool} (m : Int) (w : World) (hc : inB m 0 1000 = b) :
    Calls Try.prog 56 #[.agg #[.int .i64 m]] w fun e w' => e = .returned (.bool b) ∧ Below w.heap.size w w' := by
  subst hc
  rcases one (inB m 0 1000) with ⟨q1, hv⟩ | ⟨q1, hv⟩
  all_goals
    have HE := hide hv
    rw [unhide HE]
    clear hv
    go_enter Try.func56, Try.ntmps56
    go_wp2_with (go_at_call 18; refine (within_is _ _ _ _ (by first | exact q1 | exact q2)).mono ?_; rintro e w' ⟨rfl, hw⟩; subst w')
    go_ret
    exact ⟨rfl, (by repeat (first | exact Below.refl _ _ | refine Below.alloc ?_ (by simp; try omega) _ | refine Below.setCell ?_ (by simp; try omega) _ | refine lgDr ?_ _))⟩
set_option maxHeartbeats 2000000 in
theorem wayOf_3 {b : Bool} (x y m : Int) (w : World) (hc : inB m 0 1000 = b) :
    Calls Try.prog 15 #[.agg #[.int .i64 3, .int .i64 x, .int .i64 y, .int .i64 m]] w fun e w' => e = .returned (.tuple #[.iface 54 (.agg #[.int .i64 m]), .bool b]) ∧ Below w.heap.size w w' := by
  have hm : ∀ W : World, (method 194 54 (.agg #[.int .i64 m]) "loop.example/g00063/impl.isSo").run Try.prog W = .ok (56, .agg #[.int .i64 m]) W := fun _ => by kernel_rfl
  go_enter Try.func15, Try.ntmps15
  go_wp2_with (go_at_call 56; refine (upTo_isSo _ _ hc).mono ?_; rintro e w1 ⟨rfl, b1⟩; have B1 := hide b1; clear b1)
  refine bodyPost_ret (v := .tuple #[.iface 54 (.agg #[.int .i64 m]), .bool b]) (by simp [results, Try.results15, go_sem]) rfl ⟨rfl, ?_⟩
  exact Below.trans (by repeat (first | exact Below.refl _ _ | refine Below.alloc ?_ (by simp; try omega) _ | refine Below.setCell ?_ (by simp; try omega) _ | refine lgDr ?_ _)) ((unhide B1).mono (by simp; try omega))

set_option maxHeartbeats 1000000 in
theorem inHold_isSo {b : Bool} (m : Int) (w : World) (hc : inB m 1 9 = b) :
    Calls Try.prog 59 #[.agg #[.int .i64 m]] w fun e w' => e = .returned (.bool b) ∧ Below w.heap.size w w' := by
  subst hc
  rcases one (inB m 1 9) with ⟨q1, hv⟩ | ⟨q1, hv⟩
  all_goals
    have HE := hide hv
    rw [unhide HE]
    clear hv
    go_enter Try.func59, Try.ntmps59
    go_wp2_with (go_at_call 18; refine (within_is _ _ _ _ (by first | exact q1 | exact q2)).mono ?_; rintro e w' ⟨rfl, hw⟩; subst w')
    go_ret
    exact ⟨rfl, (by repeat (first | exact Below.refl _ _ | refine Below.alloc ?_ (by simp; try omega) _ | refine Below.setCell ?_ (by simp; try omega) _ | refine lgDr ?_ _))⟩
set_option maxHeartbeats 2000000 in
theorem wayOf_4 {b : Bool} (x y m : Int) (w : World) (hc : inB m 1 9 = b) :
    Calls Try.prog 15 #[.agg #[.int .i64 4, .int .i64 x, .int .i64 y, .int .i64 m]] w fun e w' => e = .returned (.tuple #[.iface 56 (.agg #[.int .i64 m]), .bool b]) ∧ Below w.heap.size w w' := by
  have hm : ∀ W : World, (method 194 56 (.agg #[.int .i64 m]) "loop.example/g00063/impl.isSo").run Try.prog W = .ok (59, .agg #[.int .i64 m]) W := fun _ => by kernel_rfl
  go_enter Try.func15, Try.ntmps15
  go_wp2_with (go_at_call 59; refine (inHold_isSo _ _ hc).mono ?_; rintro e w1 ⟨rfl, b1⟩; have B1 := hide b1; clear b1)
  refine bodyPost_ret (v := .tuple #[.iface 56 (.agg #[.int .i64 m]), .bool b]) (by simp [results, Try.results15, go_sem]) rfl ⟨rfl, ?_⟩
  exact Below.trans (by repeat (first | exact Below.refl _ _ | refine Below.alloc ?_ (by simp; try omega) _ | refine Below.setCell ?_ (by simp; try omega) _ | refine lgDr ?_ _)) ((unhide B1).mono (by simp; try omega))

set_option maxHeartbeats 1000000 in
theorem byTurn_isSo {b : Bool} (x y : Int) (w : World) (hc : (inB x 0 7 && (y == -1 || y == 1)) = b) :
    Calls Try.prog 62 #[.agg #[.int .i64 x, .int .i64 y]] w fun e w' => e = .returned (.bool b) ∧ Below w.heap.size w w' := by
  subst hc
  rcases lg5 x y with ⟨q1, hv⟩ | ⟨q1, y1, y2, hv⟩ | ⟨q1, y1, hv⟩ | ⟨q1, y1, y2, hv⟩
  all_goals
    have HE := hide hv
    rw [unhide HE]
    clear hv
    go_enter Try.func62, Try.ntmps62
    go_wp2_with (first | (go_at_call 17; refine (isDirection_is _ _ (by exact q1)).mono ?_; rintro e w' ⟨rfl, hw⟩; subst w') | (go_at_call 18; refine (within_is _ _ _ _ (by first | exact q1 | exact q2)).mono ?_; rintro e w' ⟨rfl, hw⟩; subst w'))
    go_ret
    exact ⟨rfl, (by repeat (first | exact Below.refl _ _ | refine Below.alloc ?_ (by simp; try omega) _ | refine Below.setCell ?_ (by simp; try omega) _ | refine lgDr ?_ _))⟩
set_option maxHeartbeats 2000000 in
theorem wayOf_5 {b : Bool} (x y m : Int) (w : World) (hc : (inB x 0 7 && (y == -1 || y == 1)) = b) :
    Calls Try.prog 15 #[.agg #[.int .i64 5, .int .i64 x, .int .i64 y, .int .i64 m]] w fun e w' => e = .returned (.tuple #[.iface 58 (.agg #[.int .i64 x, .int .i64 y]), .bool b]) ∧ Below w.heap.size w w' := by
  have hm : ∀ W : World, (method 194 58 (.agg #[.int .i64 x, .int .i64 y]) "loop.example/g00063/impl.isSo").run Try.prog W = .ok (62, .agg #[.int .i64 x, .int .i64 y]) W := fun _ => by kernel_rfl
  go_enter Try.func15, Try.ntmps15
  go_wp2_with (go_at_call 62; refine (byTurn_isSo _ _ _ hc).mono ?_; rintro e w1 ⟨rfl, b1⟩; have B1 := hide b1; clear b1)
  refine bodyPost_ret (v := .tuple #[.iface 58 (.agg #[.int .i64 x, .int .i64 y]), .bool b]) (by simp [results, Try.results15, go_sem]) rfl ⟨rfl, ?_⟩
  exact Below.trans (by repeat (first | exact Below.refl _ _ | refine Below.alloc ?_ (by simp; try omega) _ | refine Below.setCell ?_ (by simp; try omega) _ | refine lgDr ?_ _)) ((unhide B1).mono (by simp; try omega))

set_option maxHeartbeats 2000000 in
theorem wayOf_no (k x y m : Int) (w : World) (h1 : (k == 1) = false) (h2 : (k == 2) = false) (h3 : (k == 3) = false) (h4 : (k == 4) = false) (h5 : (k == 5) = false) :
    Calls Try.prog 15 #[.agg #[.int .i64 k, .int .i64 x, .int .i64 y, .int .i64 m]] w fun e w' => e = .returned (.tuple #[.nilIface, .bool false]) ∧ Below w.heap.size w w' := by
  go_enter Try.func15, Try.ntmps15
  go_wp2
  refine bodyPost_ret (v := .tuple #[.nilIface, .bool false]) (by simp [results, Try.results15, go_sem]) rfl ⟨rfl, ?_⟩
  exact (by repeat (first | exact Below.refl _ _ | refine Below.alloc ?_ (by simp; try omega) _ | refine Below.setCell ?_ (by simp; try omega) _ | refine lgDr ?_ _))
set_option maxHeartbeats 2000000 in
theorem implLegOk_is {c : Bool} (k x y m : Int) (w : World) (hc : lgB k x y m = c) :
    Calls Try.prog 8 #[.agg #[.int .i64 k, .int .i64 x, .int .i64 y, .int .i64 m]] w fun e w' => e = .returned (.bool c) ∧ Below w.heap.size w w' := by
  subst hc
  rcases kindIs k with rfl | rfl | rfl | rfl | rfl | ⟨h1, h2, h3, h4, h5⟩
  · obtain ⟨b, hb⟩ : ∃ b, lgB 1 x y m = b := ⟨_, rfl⟩
    rw [hb]
    have HB := hide (show (inB x (-500) 500 && inB y (-500) 500) = b from hb)
    clear hb
    go_enter Try.func8, Try.ntmps8
    go_wp2_with (go_at_call 15; refine (wayOf_1 _ _ _ _ (unhide HB)).mono ?_; rintro e w1 ⟨rfl, b1⟩; have B1 := hide b1; clear b1)
    go_ret
    exact ⟨rfl, Below.trans (by repeat (first | exact Below.refl _ _ | refine Below.alloc ?_ (by simp; try omega) _ | refine Below.setCell ?_ (by simp; try omega) _ | refine lgDr ?_ _)) ((unhide B1).mono (by simp; try omega))⟩
  · obtain ⟨b, hb⟩ : ∃ b, lgB 2 x y m = b := ⟨_, rfl⟩
    rw [hb]
    have HB := hide (show (inB x 0 7 && inB m 1 500) = b from hb)
    clear hb
    go_enter Try.func8, Try.ntmps8
    go_wp2_with (go_at_call 15; refine (wayOf_2 _ _ _ _ (unhide HB)).mono ?_; rintro e w1 ⟨rfl, b1⟩; have B1 := hide b1; clear b1)
    go_ret
    exact ⟨rfl, Below.trans (by repeat (first | exact Below.refl _ _ | refine Below.alloc ?_ (by simp; try omega) _ | refine Below.setCell ?_ (by simp; try omega) _ | refine lgDr ?_ _)) ((unhide B1).mono (by simp; try omega))⟩
  · obtain ⟨b, hb⟩ : ∃ b, lgB 3 x y m = b := ⟨_, rfl⟩
    rw [hb]
    have HB := hide (show inB m 0 1000 = b from hb)
    clear hb
    go_enter Try.func8, Try.ntmps8
    go_wp2_with (go_at_call 15; refine (wayOf_3 _ _ _ _ (unhide HB)).mono ?_; rintro e w1 ⟨rfl, b1⟩; have B1 := hide b1; clear b1)
    go_ret
    exact ⟨rfl, Below.trans (by repeat (first | exact Below.refl _ _ | refine Below.alloc ?_ (by simp; try omega) _ | refine Below.setCell ?_ (by simp; try omega) _ | refine lgDr ?_ _)) ((unhide B1).mono (by simp; try omega))⟩
  · obtain ⟨b, hb⟩ : ∃ b, lgB 4 x y m = b := ⟨_, rfl⟩
    rw [hb]
    have HB := hide (show inB m 1 9 = b from hb)
    clear hb
    go_enter Try.func8, Try.ntmps8
    go_wp2_with (go_at_call 15; refine (wayOf_4 _ _ _ _ (unhide HB)).mono ?_; rintro e w1 ⟨rfl, b1⟩; have B1 := hide b1; clear b1)
    go_ret
    exact ⟨rfl, Below.trans (by repeat (first | exact Below.refl _ _ | refine Below.alloc ?_ (by simp; try omega) _ | refine Below.setCell ?_ (by simp; try omega) _ | refine lgDr ?_ _)) ((unhide B1).mono (by simp; try omega))⟩
  · obtain ⟨b, hb⟩ : ∃ b, lgB 5 x y m = b := ⟨_, rfl⟩
    rw [hb]
    have HB := hide (show (inB x 0 7 && (y == -1 || y == 1)) = b from hb)
    clear hb
    go_enter Try.func8, Try.ntmps8
    go_wp2_with (go_at_call 15; refine (wayOf_5 _ _ _ _ (unhide HB)).mono ?_; rintro e w1 ⟨rfl, b1⟩; have B1 := hide b1; clear b1)
    go_ret
    exact ⟨rfl, Below.trans (by repeat (first | exact Below.refl _ _ | refine Below.alloc ?_ (by simp; try omega) _ | refine Below.setCell ?_ (by simp; try omega) _ | refine lgDr ?_ _)) ((unhide B1).mono (by simp; try omega))⟩
  · have HE := hide (lgB_no (x := x) (y := y) (m := m) h1 h2 h3 h4 h5)
    rw [unhide HE]
    have H1 := hide h1
    have H2 := hide h2
    have H3 := hide h3
    have H4 := hide h4
    have H5 := hide h5
    clear h1 h2 h3 h4 h5
    go_enter Try.func8, Try.ntmps8
    go_wp2_with (go_at_call 15; refine (wayOf_no _ _ _ _ _ (unhide H1) (unhide H2) (unhide H3) (unhide H4) (unhide H5)).mono ?_; rintro e w1 ⟨rfl, b1⟩; have B1 := hide b1; clear b1)
    go_ret
    exact ⟨rfl, Below.trans (by repeat (first | exact Below.refl _ _ | refine Below.alloc ?_ (by simp; try omega) _ | refine Below.setCell ?_ (by simp; try omega) _ | refine lgDr ?_ _)) ((unhide B1).mono (by simp; try omega))⟩
theorem specLegOk_any (k x y m : Int) (w : World) :
    Calls Try.prog 6 #[.agg #[.int .i64 k, .int .i64 x, .int .i64 y, .int .i64 m]] w fun e w' => e = .returned (.bool (lgB k x y m)) ∧ Below w.heap.size w w' := specLegOk_is k x y m w rfl
theorem implLegOk_any (k x y m : Int) (w : World) :
    Calls Try.prog 8 #[.agg #[.int .i64 k, .int .i64 x, .int .i64 y, .int .i64 m]] w fun e w' => e = .returned (.bool (lgB k x y m)) ∧ Below w.heap.size w w' := implLegOk_is k x y m w rfl
theorem specCraftOk_any (x y d h c : Int) (w : World) :
    Calls Try.prog 9 #[.agg #[.int .i64 x, .int .i64 y, .int .i64 d, .int .i64 h, .int .i64 c]] w fun e w' => e = .returned (.bool (cfB ⟨x, y, d, h, c⟩)) ∧ Below w.heap.size w w' := specCraftOk_is x y d h c w rfl
theorem implCraftOk_any (x y d h c : Int) (w : World) :
    Calls Try.prog 11 #[.agg #[.int .i64 x, .int .i64 y, .int .i64 d, .int .i64 h, .int .i64 c]] w fun e w' => e = .returned (.bool (cfB ⟨x, y, d, h, c⟩)) ∧ Below w.heap.size w w' := implCraftOk_is x y d h c w rfl

end Go.Proofs.Ytkpmoolggpojdau
