/-
  What the model answers of legs and crafts: whether they are so. At every argument; nothing that was there is written.
  What the program answers of legs and crafts: whether they are so, and the way of a leg. At every argument; nothing that was there is written.
-/
import Derived.Test.YtglefolkecimabdSmall
import Derived.Test.YtglefolkecimabdPure1

namespace Go.Proofs.Ytglefolkecimabd
open Go.RowKit

theorem lgDr {B : Nat} {w w' : World} (h : Below B w w') (n : Nat) : Below B w (w'.drewN n) := h.trans (bel0d' n)
theorem one (a : Bool) : (a = false ∧ a = false) ∨ (a = true ∧ a = true) := by cases a <;> simp
theorem lg5 (x y : Int) : (inB x 0 7 = false ∧ (inB x 0 7 && (y == -1 || y == 1)) = false) ∨ (inB x 0 7 = true ∧ (y == -1) = false ∧ (y == 1) = false ∧ (inB x 0 7 && (y == -1 || y == 1)) = false) ∨ (inB x 0 7 = true ∧ (y == -1) = true ∧ (inB x 0 7 && (y == -1 || y == 1)) = true) ∨ (inB x 0 7 = true ∧ (y == -1) = false ∧ (y == 1) = true ∧ (inB x 0 7 && (y == -1 || y == 1)) = true) := by
  cases inB x 0 7 <;> cases (y == -1) <;> cases (y == 1) <;> simp
theorem lgB_no {k x y m : Int} (h1 : (k == 1) = false) (h2 : (k == 2) = false) (h3 : (k == 3) = false) (h4 : (k == 4) = false) (h5 : (k == 5) = false) : lgB k x y m = false := by
  simp only [beq_eq_false_iff_ne, ne_eq] at h1 h2 h3 h4 h5
  simp [lgB, h1, h2, h3, h4, h5]
theorem kindIs (k : Int) : k = 1 ∨ k = 2 ∨ k = 3 ∨ k = 4 ∨ k = 5 ∨ ((k == 1) = false ∧ (k == 2) = false ∧ (k == 3) = false ∧ (k == 4) = false ∧ (k == 5) = false) := by
  simp only [beq_eq_false_iff_ne, ne_eq]; omega
set_option maxHeartbeats 2000000 in
theorem specLegOk_is {c : Bool} (k x y m : Int) (w : World) (hc : lgB k x y m = c) :
    Calls Try.prog 49 #[.agg #[.int .i64 k, .int .i64 x, .int .i64 y, .int .i64 m]] w fun e w' => e = .returned (.bool c) ∧ Below w.heap.size w w' := by
  subst hc
  rcases kindIs k with rfl | rfl | rfl | rfl | rfl | ⟨h1, h2, h3, h4, h5⟩
  · rcases two (inB x (-500) 500) (inB y (-500) 500) with ⟨q1, hv⟩ | ⟨q1, q2, hv⟩ | ⟨q1, q2, hv⟩
    all_goals
      have HE := hide (show lgB 1 x y m = _ from hv)
      rw [unhide HE]
      clear hv
      go_enter Try.func49, Try.ntmps49
      go_wp2_with (go_at_call 37; refine (l1In_is _ _ _ _ (by first | exact q1 | exact q2)).mono ?_; rintro e w' ⟨rfl, hw⟩; subst w')
      try rw [Exit.noGoto_ret]
      go_ret
      exact ⟨rfl, (by repeat (first | exact Below.refl _ _ | refine Below.alloc ?_ (by simp; try omega) _ | refine Below.setCell ?_ (by simp; try omega) _ | refine lgDr ?_ _))⟩
  · rcases two (inB x 0 7) (inB m 1 500) with ⟨q1, hv⟩ | ⟨q1, q2, hv⟩ | ⟨q1, q2, hv⟩
    all_goals
      have HE := hide (show lgB 2 x y m = _ from hv)
      rw [unhide HE]
      clear hv
      go_enter Try.func49, Try.ntmps49
      go_wp2_with (go_at_call 37; refine (l1In_is _ _ _ _ (by first | exact q1 | exact q2)).mono ?_; rintro e w' ⟨rfl, hw⟩; subst w')
      try rw [Exit.noGoto_ret]
      go_ret
      exact ⟨rfl, (by repeat (first | exact Below.refl _ _ | refine Below.alloc ?_ (by simp; try omega) _ | refine Below.setCell ?_ (by simp; try omega) _ | refine lgDr ?_ _))⟩
  · rcases one (inB m 0 1000) with ⟨q1, hv⟩ | ⟨q1, hv⟩
    all_goals
      have HE := hide (show lgB 3 x y m = _ from hv)
      rw [unhide HE]
      clear hv
      go_enter Try.func49, Try.ntmps49
      go_wp2_with (go_at_call 37; refine (l1In_is _ _ _ _ (by first | exact q1 | exact q2)).mono ?_; rintro e w' ⟨rfl, hw⟩; subst w')
      try rw [Exit.noGoto_ret]
      go_ret
      exact ⟨rfl, (by repeat (first | exact Below.refl _ _ | refine Below.alloc ?_ (by simp; try omega) _ | refine Below.setCell ?_ (by simp; try omega) _ | refine lgDr ?_ _))⟩
  · rcases one (inB m 1 9) with ⟨q1, hv⟩ | ⟨q1, hv⟩
    all_goals
      have HE := hide (show lgB 4 x y m = _ from hv)
      rw [unhide HE]
      clear hv
      go_enter Try.func49, Try.ntmps49
      go_wp2_with (go_at_call 37; refine (l1In_is _ _ _ _ (by first | exact q1 | exact q2)).mono ?_; rintro e w' ⟨rfl, hw⟩; subst w')
      try rw [Exit.noGoto_ret]
      go_ret
      exact ⟨rfl, (by repeat (first | exact Below.refl _ _ | refine Below.alloc ?_ (by simp; try omega) _ | refine Below.setCell ?_ (by simp; try omega) _ | refine lgDr ?_ _))⟩
  · rcases lg5 x y with ⟨q1, hv⟩ | ⟨q1, y1, y2, hv⟩ | ⟨q1, y1, hv⟩ | ⟨q1, y1, y2, hv⟩
    all_goals
      have HE := hide (show lgB 5 x y m = _ from hv)
      rw [unhide HE]
      clear hv
      go_enter Try.func49, Try.ntmps49
      go_wp2_with (go_at_call 37; refine (l1In_is _ _ _ _ (by first | exact q1 | exact q2)).mono ?_; rintro e w' ⟨rfl, hw⟩; subst w')
      try rw [Exit.noGoto_ret]
      go_ret
      exact ⟨rfl, (by repeat (first | exact Below.refl _ _ | refine Below.alloc ?_ (by simp; try omega) _ | refine Below.setCell ?_ (by simp; try omega) _ | refine lgDr ?_ _))⟩
  · have HE := hide (lgB_no (x := x) (y := y) (m := m) h1 h2 h3 h4 h5)
    rw [unhide HE]
    go_enter Try.func49, Try.ntmps49
    go_wp2
    try rw [Exit.noGoto_ret]
    go_ret
    exact ⟨rfl, (by repeat (first | exact Below.refl _ _ | refine Below.alloc ?_ (by simp; try omega) _ | refine Below.setCell ?_ (by simp; try omega) _ | refine lgDr ?_ _))⟩
set_option maxHeartbeats 2000000 in
theorem specCraftOk_is {b : Bool} (x y d h c : Int) (w : World) (hc : cfB ⟨x, y, d, h, c⟩ = b) :
    Calls Try.prog 50 #[.agg #[.int .i64 x, .int .i64 y, .int .i64 d, .int .i64 h, .int .i64 c]] w fun e w' => e = .returned (.bool b) ∧ Below w.heap.size w w' := by
  subst hc
  rcases five (inB x (-1000) 1000) (inB y (-1000) 1000) (inB d 0 7) (inB h 0 2000) (inB c (-20) 20) with ⟨q1, hv⟩ | ⟨q1, q2, hv⟩ | ⟨q1, q2, q3, hv⟩ | ⟨q1, q2, q3, q4, hv⟩ | ⟨q1, q2, q3, q4, q5, hv⟩ | ⟨q1, q2, q3, q4, q5, hv⟩
  all_goals
    have HE := hide (show cfB ⟨x, y, d, h, c⟩ = _ from hv)
    rw [unhide HE]
    clear hv
    go_enter Try.func50, Try.ntmps50
    go_wp2_with (go_at_call 37; refine (l1In_is _ _ _ _ (by first | exact q1 | exact q2 | exact q3 | exact q4 | exact q5)).mono ?_; rintro e w' ⟨rfl, hw⟩; subst w')
    go_ret
    exact ⟨rfl, (by repeat (first | exact Below.refl _ _ | refine Below.alloc ?_ (by simp; try omega) _ | refine Below.setCell ?_ (by simp; try omega) _ | refine lgDr ?_ _))⟩

end Go.Proofs.Ytglefolkecimabd

namespace Go.Proofs.Ytglefolkecimabd
open Go.RowKit

set_option maxHeartbeats 1000000 in
theorem isDirection_is {b : Bool} (d : Int) (w : World) (hc : inB d 0 7 = b) :
    Calls Try.prog 87 #[.int .i64 d] w fun e w' => e = .returned (.bool b) ∧ w' = w := by
  go_enter Try.func87, Try.ntmps87
  go_wp2_with (go_at_call 43; refine (within_is _ _ _ _ hc).mono ?_; rintro e w' ⟨rfl, hw⟩; subst w')
  go_ret
  exact ⟨rfl, rfl⟩
set_option maxHeartbeats 1000000 in
theorem inReach_is {b : Bool} (x y d h c : Int) (w : World) (hc : (inB x (-1000) 1000 && inB y (-1000) 1000) = b) :
    Calls Try.prog 86 #[.agg #[.int .i64 x, .int .i64 y, .int .i64 d, .int .i64 h, .int .i64 c]] w fun e w' => e = .returned (.bool b) ∧ Below w.heap.size w w' := by
  subst hc
  rcases two (inB x (-1000) 1000) (inB y (-1000) 1000) with ⟨q1, hv⟩ | ⟨q1, q2, hv⟩ | ⟨q1, q2, hv⟩
  all_goals
    have HE := hide hv
    rw [unhide HE]
    clear hv
    go_enter Try.func86, Try.ntmps86
    go_wp2_with (go_at_call 43; refine (within_is _ _ _ _ (by first | exact q1 | exact q2)).mono ?_; rintro e w' ⟨rfl, hw⟩; subst w')
    go_ret
    exact ⟨rfl, (by repeat (first | exact Below.refl _ _ | refine Below.alloc ?_ (by simp; try omega) _ | refine Below.setCell ?_ (by simp; try omega) _ | refine lgDr ?_ _))⟩
set_option maxHeartbeats 2000000 in
theorem implCraftOk_is {b : Bool} (x y d h c : Int) (w : World) (hc : cfB ⟨x, y, d, h, c⟩ = b) :
    Calls Try.prog 57 #[.agg #[.int .i64 x, .int .i64 y, .int .i64 d, .int .i64 h, .int .i64 c]] w fun e w' => e = .returned (.bool b) ∧ Below w.heap.size w w' := by
  subst hc
  rcases four (inB x (-1000) 1000 && inB y (-1000) 1000) (inB d 0 7) (inB h 0 2000) (inB c (-20) 20) with ⟨q1, hv⟩ | ⟨q1, q2, hv⟩ | ⟨q1, q2, q3, hv⟩ | ⟨q1, q2, q3, q4, hv⟩ | ⟨q1, q2, q3, q4, hv⟩
  all_goals
    have HE := hide (show cfB ⟨x, y, d, h, c⟩ = _ from hv)
    rw [unhide HE]
    clear hv
    have Q1 := hide q1
    clear q1
    obtain ⟨W, hW⟩ : ∃ W, W = w.alloc (Obj.cells #[.int .i64 x, .int .i64 y, .int .i64 d, .int .i64 h, .int .i64 c] 59) := ⟨_, rfl⟩
    have k0 : W.cell? ⟨w.heap.size, 2, none⟩ = some (.int .i64 d) := by rw [hW]; simp [go_sem]
    have k1 : W.cell? ⟨w.heap.size, 3, none⟩ = some (.int .i64 h) := by rw [hW]; simp [go_sem]
    have k2 : W.cell? ⟨w.heap.size, 4, none⟩ = some (.int .i64 c) := by rw [hW]; simp [go_sem]
    have BB : Hid (Below w.heap.size w W) := hide (by rw [hW]; exact bel1 _)
    have HW := hide hW
    clear hW
    go_enter Try.func57, Try.ntmps57
    go_wp2_with (first | (go_at_call 86; refine (inReach_is _ _ _ _ _ _ (unhide Q1)).mono ?_; rintro e w1 ⟨rfl, b1⟩; rw [← unhide HW] at b1; have d0 := (b1.cell (block_lt_of_cell k0)).trans k0; have d1 := (b1.cell (block_lt_of_cell k1)).trans k1; have d2 := (b1.cell (block_lt_of_cell k2)).trans k2; have B1 := hide ((unhide BB).trans (b1.mono (unhide BB).size)); clear b1) | (go_at_call 87; refine (isDirection_is _ _ (by exact q2)).mono ?_; rintro e w' ⟨rfl, hw⟩; subst w') | (go_at_call 43; refine (within_is _ _ _ _ (by first | exact q3 | exact q4)).mono ?_; rintro e w' ⟨rfl, hw⟩; subst w'))
    go_ret
    exact ⟨rfl, unhide B1⟩

set_option maxHeartbeats 1000000 in
theorem toPlace_isSo {b : Bool} (x y : Int) (w : World) (hc : (inB x (-500) 500 && inB y (-500) 500) = b) :
    Calls Try.prog 151 #[.agg #[.int .i64 x, .int .i64 y]] w fun e w' => e = .returned (.bool b) ∧ Below w.heap.size w w' := by
  subst hc
  rcases two (inB x (-500) 500) (inB y (-500) 500) with ⟨q1, hv⟩ | ⟨q1, q2, hv⟩ | ⟨q1, q2, hv⟩
  all_goals
    have HE := hide hv
    rw [unhide HE]
    clear hv
    go_enter Try.func151, Try.ntmps151
    go_wp2_with (go_at_call 43; refine (within_is _ _ _ _ (by first | exact q1 | exact q2)).mono ?_; rintro e w' ⟨rfl, hw⟩; subst w')
    go_ret
    exact ⟨rfl, (by repeat (first | exact Below.refl _ _ | refine Below.alloc ?_ (by simp; try omega) _ | refine Below.setCell ?_ (by simp; try omega) _ | refine lgDr ?_ _))⟩
set_option maxHeartbeats 2000000 in
theorem wayOf_1 {b : Bool} (x y m : Int) (w : World) (hc : (inB x (-500) 500 && inB y (-500) 500) = b) :
    Calls Try.prog 116 #[.agg #[.int .i64 1, .int .i64 x, .int .i64 y, .int .i64 m]] w fun e w' => e = .returned (.tuple #[.iface 179 (.agg #[.int .i64 x, .int .i64 y]), .bool b]) ∧ Below w.heap.size w w' := by
  have hm : ∀ W : World, (method 306 179 (.agg #[.int .i64 x, .int .i64 y]) "loop.example/g00063/impl.isSo").run Try.prog W = .ok (151, .agg #[.int .i64 x, .int .i64 y]) W := fun _ => by kernel_rfl
  go_enter Try.func116, Try.ntmps116
  go_wp2_with (go_at_call 151; refine (toPlace_isSo _ _ _ hc).mono ?_; rintro e w1 ⟨rfl, b1⟩; have B1 := hide b1; clear b1)
  refine bodyPost_ret (v := .tuple #[.iface 179 (.agg #[.int .i64 x, .int .i64 y]), .bool b]) (by simp [results, Try.results116, go_sem]) rfl ⟨rfl, ?_⟩
  exact Below.trans (by repeat (first | exact Below.refl _ _ | refine Below.alloc ?_ (by simp; try omega) _ | refine Below.setCell ?_ (by simp; try omega) _ | refine lgDr ?_ _)) ((unhide B1).mono (by simp; try omega))

set_option maxHeartbeats 1000000 in
theorem onCourse_isSo {b : Bool} (x m : Int) (w : World) (hc : (inB x 0 7 && inB m 1 500) = b) :
    Calls Try.prog 154 #[.agg #[.int .i64 x, .int .i64 m]] w fun e w' => e = .returned (.bool b) ∧ Below w.heap.size w w' := by
  subst hc
  rcases two (inB x 0 7) (inB m 1 500) with ⟨q1, hv⟩ | ⟨q1, q2, hv⟩ | ⟨q1, q2, hv⟩
  all_goals
    have HE := hide hv
    rw [unhide HE]
    clear hv
    go_enter Try.func154, Try.ntmps154
    go_wp2_with (first | (go_at_call 87; refine (isDirection_is _ _ (by exact q1)).mono ?_; rintro e w' ⟨rfl, hw⟩; subst w') | (go_at_call 43; refine (within_is _ _ _ _ (by first | exact q1 | exact q2)).mono ?_; rintro e w' ⟨rfl, hw⟩; subst w'))
    go_ret
    exact ⟨rfl, (by repeat (first | exact Below.refl _ _ | refine Below.alloc ?_ (by simp; try omega) _ | refine Below.setCell ?_ (by simp; try omega) _ | refine lgDr ?_ _))⟩
set_option maxHeartbeats 2000000 in
theorem wayOf_2 {b : Bool} (x y m : Int) (w : World) (hc : (inB x 0 7 && inB m 1 500) = b) :
    Calls Try.prog 116 #[.agg #[.int .i64 2, .int .i64 x, .int .i64 y, .int .i64 m]] w fun e w' => e = .returned (.tuple #[.iface 181 (.agg #[.int .i64 x, .int .i64 m]), .bool b]) ∧ Below w.heap.size w w' := by
  have hm : ∀ W : World, (method 306 181 (.agg #[.int .i64 x, .int .i64 m]) "loop.example/g00063/impl.isSo").run Try.prog W = .ok (154, .agg #[.int .i64 x, .int .i64 m]) W := fun _ => by kernel_rfl
  go_enter Try.func116, Try.ntmps116
  go_wp2_with (go_at_call 154; refine (onCourse_isSo _ _ _ hc).mono ?_; rintro e w1 ⟨rfl, b1⟩; have B1 := hide b1; clear b1)
  refine bodyPost_ret (v := .tuple #[.iface 181 (.agg #[.int .i64 x, .int .i64 m]), .bool b]) (by simp [results, Try.results116, go_sem]) rfl ⟨rfl, ?_⟩
  exact Below.trans (by repeat (first | exact Below.refl _ _ | refine Below.alloc ?_ (by simp; try omega) _ | refine Below.setCell ?_ (by simp; try omega) _ | refine lgDr ?_ _)) ((unhide B1).mono (by simp; try omega))

set_option maxHeartbeats 1000000 in
theorem upTo_isSo {b : Bool} (m : Int) (w : World) (hc : inB m 0 1000 = b) :
    Calls Try.prog 157 #[.agg #[.int .i64 m]] w fun e w' => e = .returned (.bool b) ∧ Below w.heap.size w w' := by
  subst hc
  rcases one (inB m 0 1000) with ⟨q1, hv⟩ | ⟨q1, hv⟩
  all_goals
    have HE := hide hv
    rw [unhide HE]
    clear hv
    go_enter Try.func157, Try.ntmps157
    go_wp2_with (go_at_call 43; refine (within_is _ _ _ _ (by first | exact q1 | exact q2)).mono ?_; rintro e w' ⟨rfl, hw⟩; subst w')
    go_ret
    exact ⟨rfl, (by repeat (first | exact Below.refl _ _ | refine Below.alloc ?_ (by simp; try omega) _ | refine Below.setCell ?_ (by simp; try omega) _ | refine lgDr ?_ _))⟩
set_option maxHeartbeats 2000000 in
theorem wayOf_3 {b : Bool} (x y m : Int) (w : World) (hc : inB m 0 1000 = b) :
    Calls Try.prog 116 #[.agg #[.int .i64 3, .int .i64 x, .int .i64 y, .int .i64 m]] w fun e w' => e = .returned (.tuple #[.iface 183 (.agg #[.int .i64 m]), .bool b]) ∧ Below w.heap.size w w' := by
  have hm : ∀ W : World, (method 306 183 (.agg #[.int .i64 m]) "loop.example/g00063/impl.isSo").run Try.prog W = .ok (157, .agg #[.int .i64 m]) W := fun _ => by kernel_rfl
  go_enter Try.func116, Try.ntmps116
  go_wp2_with (go_at_call 157; refine (upTo_isSo _ _ hc).mono ?_; rintro e w1 ⟨rfl, b1⟩; have B1 := hide b1; clear b1)
  refine bodyPost_ret (v := .tuple #[.iface 183 (.agg #[.int .i64 m]), .bool b]) (by simp [results, Try.results116, go_sem]) rfl ⟨rfl, ?_⟩
  exact Below.trans (by repeat (first | exact Below.refl _ _ | refine Below.alloc ?_ (by simp; try omega) _ | refine Below.setCell ?_ (by simp; try omega) _ | refine lgDr ?_ _)) ((unhide B1).mono (by simp; try omega))

set_option maxHeartbeats 1000000 in
theorem inHold_isSo {b : Bool} (m : Int) (w : World) (hc : inB m 1 9 = b) :
    Calls Try.prog 160 #[.agg #[.int .i64 m]] w fun e w' => e = .returned (.bool b) ∧ Below w.heap.size w w' := by
  subst hc
  rcases one (inB m 1 9) with ⟨q1, hv⟩ | ⟨q1, hv⟩
  all_goals
    have HE := hide hv
    rw [unhide HE]
    clear hv
    go_enter Try.func160, Try.ntmps160
    go_wp2_with (go_at_call 43; refine (within_is _ _ _ _ (by first | exact q1 | exact q2)).mono ?_; rintro e w' ⟨rfl, hw⟩; subst w')
    go_ret
    exact ⟨rfl, (by repeat (first | exact Below.refl _ _ | refine Below.alloc ?_ (by simp; try omega) _ | refine Below.setCell ?_ (by simp; try omega) _ | refine lgDr ?_ _))⟩
set_option maxHeartbeats 2000000 in
theorem wayOf_4 {b : Bool} (x y m : Int) (w : World) (hc : inB m 1 9 = b) :
    Calls Try.prog 116 #[.agg #[.int .i64 4, .int .i64 x, .int .i64 y, .int .i64 m]] w fun e w' => e = .returned (.tuple #[.iface 185 (.agg #[.int .i64 m]), .bool b]) ∧ Below w.heap.size w w' := by
  have hm : ∀ W : World, (method 306 185 (.agg #[.int .i64 m]) "loop.example/g00063/impl.isSo").run Try.prog W = .ok (160, .agg #[.int .i64 m]) W := fun _ => by kernel_rfl
  go_enter Try.func116, Try.ntmps116
  go_wp2_with (go_at_call 160; refine (inHold_isSo _ _ hc).mono ?_; rintro e w1 ⟨rfl, b1⟩; have B1 := hide b1; clear b1)
  refine bodyPost_ret (v := .tuple #[.iface 185 (.agg #[.int .i64 m]), .bool b]) (by simp [results, Try.results116, go_sem]) rfl ⟨rfl, ?_⟩
  exact Below.trans (by repeat (first | exact Below.refl _ _ | refine Below.alloc ?_ (by simp; try omega) _ | refine Below.setCell ?_ (by simp; try omega) _ | refine lgDr ?_ _)) ((unhide B1).mono (by simp; try omega))

set_option maxHeartbeats 1000000 in
theorem byTurn_isSo {b : Bool} (x y : Int) (w : World) (hc : (inB x 0 7 && (y == -1 || y == 1)) = b) :
    Calls Try.prog 163 #[.agg #[.int .i64 x, .int .i64 y]] w fun e w' => e = .returned (.bool b) ∧ Below w.heap.size w w' := by
  subst hc
  rcases lg5 x y with ⟨q1, hv⟩ | ⟨q1, y1, y2, hv⟩ | ⟨q1, y1, hv⟩ | ⟨q1, y1, y2, hv⟩
  all_goals
    have HE := hide hv
    rw [unhide HE]
    clear hv
    go_enter Try.func163, Try.ntmps163
    go_wp2_with (first | (go_at_call 87; refine (isDirection_is _ _ (by exact q1)).mono ?_; rintro e w' ⟨rfl, hw⟩; subst w') | (go_at_call 43; refine (within_is _ _ _ _ (by first | exact q1 | exact q2)).mono ?_; rintro e w' ⟨rfl, hw⟩; subst w'))
    go_ret
    exact ⟨rfl, (by repeat (first | exact Below.refl _ _ | refine Below.alloc ?_ (by simp; try omega) _ | refine Below.setCell ?_ (by simp; try omega) _ | refine lgDr ?_ _))⟩
set_option maxHeartbeats 2000000 in
theorem wayOf_5 {b : Bool} (x y m : Int) (w : World) (hc : (inB x 0 7 && (y == -1 || y == 1)) = b) :
    Calls Try.prog 116 #[.agg #[.int .i64 5, .int .i64 x, .int .i64 y, .int .i64 m]] w fun e w' => e = .returned (.tuple #[.iface 187 (.agg #[.int .i64 x, .int .i64 y]), .bool b]) ∧ Below w.heap.size w w' := by
  have hm : ∀ W : World, (method 306 187 (.agg #[.int .i64 x, .int .i64 y]) "loop.example/g00063/impl.isSo").run Try.prog W = .ok (163, .agg #[.int .i64 x, .int .i64 y]) W := fun _ => by kernel_rfl
  go_enter Try.func116, Try.ntmps116
  go_wp2_with (go_at_call 163; refine (byTurn_isSo _ _ _ hc).mono ?_; rintro e w1 ⟨rfl, b1⟩; have B1 := hide b1; clear b1)
  refine bodyPost_ret (v := .tuple #[.iface 187 (.agg #[.int .i64 x, .int .i64 y]), .bool b]) (by simp [results, Try.results116, go_sem]) rfl ⟨rfl, ?_⟩
  exact Below.trans (by repeat (first | exact Below.refl _ _ | refine Below.alloc ?_ (by simp; try omega) _ | refine Below.setCell ?_ (by simp; try omega) _ | refine lgDr ?_ _)) ((unhide B1).mono (by simp; try omega))

set_option maxHeartbeats 2000000 in
theorem wayOf_no (k x y m : Int) (w : World) (h1 : (k == 1) = false) (h2 : (k == 2) = false) (h3 : (k == 3) = false) (h4 : (k == 4) = false) (h5 : (k == 5) = false) :
    Calls Try.prog 116 #[.agg #[.int .i64 k, .int .i64 x, .int .i64 y, .int .i64 m]] w fun e w' => e = .returned (.tuple #[.nilIface, .bool false]) ∧ Below w.heap.size w w' := by
  go_enter Try.func116, Try.ntmps116
  go_wp2
  refine bodyPost_ret (v := .tuple #[.nilIface, .bool false]) (by simp [results, Try.results116, go_sem]) rfl ⟨rfl, ?_⟩
  exact (by repeat (first | exact Below.refl _ _ | refine Below.alloc ?_ (by simp; try omega) _ | refine Below.setCell ?_ (by simp; try omega) _ | refine lgDr ?_ _))
set_option maxHeartbeats 2000000 in
theorem implLegOk_is {c : Bool} (k x y m : Int) (w : World) (hc : lgB k x y m = c) :
    Calls Try.prog 88 #[.agg #[.int .i64 k, .int .i64 x, .int .i64 y, .int .i64 m]] w fun e w' => e = .returned (.bool c) ∧ Below w.heap.size w w' := by
  subst hc
  rcases kindIs k with rfl | rfl | rfl | rfl | rfl | ⟨h1, h2, h3, h4, h5⟩
  · obtain ⟨b, hb⟩ : ∃ b, lgB 1 x y m = b := ⟨_, rfl⟩
    rw [hb]
    have HB := hide (show (inB x (-500) 500 && inB y (-500) 500) = b from hb)
    clear hb
    go_enter Try.func88, Try.ntmps88
    go_wp2_with (go_at_call 116; refine (wayOf_1 _ _ _ _ (unhide HB)).mono ?_; rintro e w1 ⟨rfl, b1⟩; have B1 := hide b1; clear b1)
    go_ret
    exact ⟨rfl, Below.trans (by repeat (first | exact Below.refl _ _ | refine Below.alloc ?_ (by simp; try omega) _ | refine Below.setCell ?_ (by simp; try omega) _ | refine lgDr ?_ _)) ((unhide B1).mono (by simp; try omega))⟩
  · obtain ⟨b, hb⟩ : ∃ b, lgB 2 x y m = b := ⟨_, rfl⟩
    rw [hb]
    have HB := hide (show (inB x 0 7 && inB m 1 500) = b from hb)
    clear hb
    go_enter Try.func88, Try.ntmps88
    go_wp2_with (go_at_call 116; refine (wayOf_2 _ _ _ _ (unhide HB)).mono ?_; rintro e w1 ⟨rfl, b1⟩; have B1 := hide b1; clear b1)
    go_ret
    exact ⟨rfl, Below.trans (by repeat (first | exact Below.refl _ _ | refine Below.alloc ?_ (by simp; try omega) _ | refine Below.setCell ?_ (by simp; try omega) _ | refine lgDr ?_ _)) ((unhide B1).mono (by simp; try omega))⟩
  · obtain ⟨b, hb⟩ : ∃ b, lgB 3 x y m = b := ⟨_, rfl⟩
    rw [hb]
    have HB := hide (show inB m 0 1000 = b from hb)
    clear hb
    go_enter Try.func88, Try.ntmps88
    go_wp2_with (go_at_call 116; refine (wayOf_3 _ _ _ _ (unhide HB)).mono ?_; rintro e w1 ⟨rfl, b1⟩; have B1 := hide b1; clear b1)
    go_ret
    exact ⟨rfl, Below.trans (by repeat (first | exact Below.refl _ _ | refine Below.alloc ?_ (by simp; try omega) _ | refine Below.setCell ?_ (by simp; try omega) _ | refine lgDr ?_ _)) ((unhide B1).mono (by simp; try omega))⟩
  · obtain ⟨b, hb⟩ : ∃ b, lgB 4 x y m = b := ⟨_, rfl⟩
    rw [hb]
    have HB := hide (show inB m 1 9 = b from hb)
    clear hb
    go_enter Try.func88, Try.ntmps88
    go_wp2_with (go_at_call 116; refine (wayOf_4 _ _ _ _ (unhide HB)).mono ?_; rintro e w1 ⟨rfl, b1⟩; have B1 := hide b1; clear b1)
    go_ret
    exact ⟨rfl, Below.trans (by repeat (first | exact Below.refl _ _ | refine Below.alloc ?_ (by simp; try omega) _ | refine Below.setCell ?_ (by simp; try omega) _ | refine lgDr ?_ _)) ((unhide B1).mono (by simp; try omega))⟩
  · obtain ⟨b, hb⟩ : ∃ b, lgB 5 x y m = b := ⟨_, rfl⟩
    rw [hb]
    have HB := hide (show (inB x 0 7 && (y == -1 || y == 1)) = b from hb)
    clear hb
    go_enter Try.func88, Try.ntmps88
    go_wp2_with (go_at_call 116; refine (wayOf_5 _ _ _ _ (unhide HB)).mono ?_; rintro e w1 ⟨rfl, b1⟩; have B1 := hide b1; clear b1)
    go_ret
    exact ⟨rfl, Below.trans (by repeat (first | exact Below.refl _ _ | refine Below.alloc ?_ (by simp; try omega) _ | refine Below.setCell ?_ (by simp; try omega) _ | refine lgDr ?_ _)) ((unhide B1).mono (by simp; try omega))⟩
  · have HE := hide (lgB_no (x := x) (y := y) (m := m) h1 h2 h3 h4 h5)
    rw [unhide HE]
    have H1 := hide h1
    have H2 := hide h2
    have H3 := hide h3
    have H4 := hide h4
    have H5 := hide h5
    clear h1 h2 h3 h4 h5
    go_enter Try.func88, Try.ntmps88
    go_wp2_with (go_at_call 116; refine (wayOf_no _ _ _ _ _ (unhide H1) (unhide H2) (unhide H3) (unhide H4) (unhide H5)).mono ?_; rintro e w1 ⟨rfl, b1⟩; have B1 := hide b1; clear b1)
    go_ret
    exact ⟨rfl, Below.trans (by repeat (first | exact Below.refl _ _ | refine Below.alloc ?_ (by simp; try omega) _ | refine Below.setCell ?_ (by simp; try omega) _ | refine lgDr ?_ _)) ((unhide B1).mono (by simp; try omega))⟩
theorem specLegOk_any (k x y m : Int) (w : World) :
    Calls Try.prog 49 #[.agg #[.int .i64 k, .int .i64 x, .int .i64 y, .int .i64 m]] w fun e w' => e = .returned (.bool (lgB k x y m)) ∧ Below w.heap.size w w' := specLegOk_is k x y m w rfl
theorem implLegOk_any (k x y m : Int) (w : World) :
    Calls Try.prog 88 #[.agg #[.int .i64 k, .int .i64 x, .int .i64 y, .int .i64 m]] w fun e w' => e = .returned (.bool (lgB k x y m)) ∧ Below w.heap.size w w' := implLegOk_is k x y m w rfl
theorem specCraftOk_any (x y d h c : Int) (w : World) :
    Calls Try.prog 50 #[.agg #[.int .i64 x, .int .i64 y, .int .i64 d, .int .i64 h, .int .i64 c]] w fun e w' => e = .returned (.bool (cfB ⟨x, y, d, h, c⟩)) ∧ Below w.heap.size w w' := specCraftOk_is x y d h c w rfl
theorem implCraftOk_any (x y d h c : Int) (w : World) :
    Calls Try.prog 57 #[.agg #[.int .i64 x, .int .i64 y, .int .i64 d, .int .i64 h, .int .i64 c]] w fun e w' => e = .returned (.bool (cfB ⟨x, y, d, h, c⟩)) ∧ Below w.heap.size w w' := implCraftOk_is x y d h c w rfl

end Go.Proofs.Ytglefolkecimabd
