/-
  What the model answers of legs and crafts: whether they are so. At every argument; nothing that was there is written.
-/
import Derived.Test.YtkpmoolggpojdauDoorSmall
import Derived.Test.YtkpmoolggpojdauDoorLegPure
namespace Go.Proofs.YtkpmoolggpojdauDoor
open Go.RowKit

theorem lgDr {B : Nat} {w w' : World} (h : Below B w w') (n : Nat) : Below B w (w'.drewN n) := h.trans (bel0d' n)
theorem one (a : Bool) : (a = false ∧ a = false) ∨ (a = true ∧ a = true) := by cases a <;> simp
theorem lg5 (x y : Int) : (inB x 0 7 = false ∧ (inB x 0 7 && (y == -1 || y == 1)) = false) ∨ (inB x 0 7 = true ∧ (y == -1) = false ∧ (y == 1) = false ∧ (inB x 0 7 && (y == -1 || y == 1)) = false) ∨ (inB x 0 7 = true ∧ (y == -1) = true ∧ (inB x 0 7 && (y == -1 || y == 1)) = true) ∨ (inB x 0 7 = true ∧ (y == -1) = false ∧ (y == 1) = true ∧ (inB x 0 7 && (y == -1 || y == 1)) = true) := by
  cases inB x 0 7 <;> cases (y == -1) <;> cases (y == 1) <;> simp
theorem lgB_no {k x y m : Int} (h1 : (k == 1) = false) (h2 : (k == 2) = false) (h3 : (k == 3) = false) (h4 : (k == 4) = false) (h5 : (k == 5) = false) : lgB k x y m = false := by
  simp only [beq_eq_false_iff_ne, ne_eq] at h1 h2 h3 h4 h5
  simp [lgB, h1, h2, h3, h4, h5]
theorem kindIs (k : Int) : k = 1 ∨ k = 2 ∨ k = 3 ∨ k = 4 ∨ k = 5 ∨ ((k == 1) = false ∧ (k == 2) = false ∧ (k == 3) = false ∧ (k == 4) = false ∧ (k == 5) = false) := by
  simp only [beq_eq_false_iff_ne, ne_eq]; omega
set_option maxHeartbeats 2000000 in
theorem specLegOk_is {c : Bool} (k x y m : Int) (w : World) (hc : lgB k x y m = c) :
    Calls Tryd.prog 24 #[.agg #[.int .i64 k, .int .i64 x, .int .i64 y, .int .i64 m]] w fun e w' => e = .returned (.bool c) ∧ Below w.heap.size w w' := by
  subst hc
  rcases kindIs k with rfl | rfl | rfl | rfl | rfl | ⟨h1, h2, h3, h4, h5⟩
  · rcases two (inB x (-500) 500) (inB y (-500) 500) with ⟨q1, hv⟩ | ⟨q1, q2, hv⟩ | ⟨q1, q2, hv⟩
    all_goals
      have HE := hide (show lgB 1 x y m = _ from hv)
      rw [unhide HE]
      clear hv
      go_enter Tryd.func24, Tryd.ntmps24
      go_wp2_with (go_at_call 37; refine (l1In_is _ _ _ _ (by first | exact q1 | exact q2)).mono ?_; rintro e w' ⟨rfl, hw⟩; subst w')
      try rw [Exit.noGoto_ret]
      go_ret
      exact ⟨rfl, (by repeat (first | exact Below.refl _ _ | refine Below.alloc ?_ (by simp; try omega) _ | refine Below.setCell ?_ (by simp; try omega) _ | refine lgDr ?_ _))⟩
  · rcases two (inB x 0 7) (inB m 1 500) with ⟨q1, hv⟩ | ⟨q1, q2, hv⟩ | ⟨q1, q2, hv⟩
    all_goals
      have HE := hide (show lgB 2 x y m = _ from hv)
      rw [unhide HE]
      clear hv
      go_enter Tryd.func24, Tryd.ntmps24
      go_wp2_with (go_at_call 37; refine (l1In_is _ _ _ _ (by first | exact q1 | exact q2)).mono ?_; rintro e w' ⟨rfl, hw⟩; subst w')
      try rw [Exit.noGoto_ret]
      go_ret
      exact ⟨rfl, (by repeat (first | exact Below.refl _ _ | refine Below.alloc ?_ (by simp; try omega) _ | refine Below.setCell ?_ (by simp; try omega) _ | refine lgDr ?_ _))⟩
  · rcases one (inB m 0 1000) with ⟨q1, hv⟩ | ⟨q1, hv⟩
    all_goals
      have HE := hide (show lgB 3 x y m = _ from hv)
      rw [unhide HE]
      clear hv
      go_enter Tryd.func24, Tryd.ntmps24
      go_wp2_with (go_at_call 37; refine (l1In_is _ _ _ _ (by first | exact q1 | exact q2)).mono ?_; rintro e w' ⟨rfl, hw⟩; subst w')
      try rw [Exit.noGoto_ret]
      go_ret
      exact ⟨rfl, (by repeat (first | exact Below.refl _ _ | refine Below.alloc ?_ (by simp; try omega) _ | refine Below.setCell ?_ (by simp; try omega) _ | refine lgDr ?_ _))⟩
  · rcases one (inB m 1 9) with ⟨q1, hv⟩ | ⟨q1, hv⟩
    all_goals
      have HE := hide (show lgB 4 x y m = _ from hv)
      rw [unhide HE]
      clear hv
      go_enter Tryd.func24, Tryd.ntmps24
      go_wp2_with (go_at_call 37; refine (l1In_is _ _ _ _ (by first | exact q1 | exact q2)).mono ?_; rintro e w' ⟨rfl, hw⟩; subst w')
      try rw [Exit.noGoto_ret]
      go_ret
      exact ⟨rfl, (by repeat (first | exact Below.refl _ _ | refine Below.alloc ?_ (by simp; try omega) _ | refine Below.setCell ?_ (by simp; try omega) _ | refine lgDr ?_ _))⟩
  · rcases lg5 x y with ⟨q1, hv⟩ | ⟨q1, y1, y2, hv⟩ | ⟨q1, y1, hv⟩ | ⟨q1, y1, y2, hv⟩
    all_goals
      have HE := hide (show lgB 5 x y m = _ from hv)
      rw [unhide HE]
      clear hv
      go_enter Tryd.func24, Tryd.ntmps24
      go_wp2_with (go_at_call 37; refine (l1In_is _ _ _ _ (by first | exact q1 | exact q2)).mono ?_; rintro e w' ⟨rfl, hw⟩; subst w')
      try rw [Exit.noGoto_ret]
      go_ret
      exact ⟨rfl, (by repeat (first | exact Below.refl _ _ | refine Below.alloc ?_ (by simp; try omega) _ | refine Below.setCell ?_ (by simp; try omega) _ | refine lgDr ?_ _))⟩
  · have HE := hide (lgB_no (x := x) (y := y) (m := m) h1 h2 h3 h4 h5)
    rw [unhide HE]
    go_enter Tryd.func24, Tryd.ntmps24
    go_wp2
    try rw [Exit.noGoto_ret]
    go_ret
    exact ⟨rfl, (by repeat (first | exact Below.refl _ _ | refine Below.alloc ?_ (by simp; try omega) _ | refine Below.setCell ?_ (by simp; try omega) _ | refine lgDr ?_ _))⟩
set_option maxHeartbeats 2000000 in
theorem specCraftOk_is {b : Bool} (x y d h c : Int) (w : World) (hc : cfB ⟨x, y, d, h, c⟩ = b) :
    Calls Tryd.prog 23 #[.agg #[.int .i64 x, .int .i64 y, .int .i64 d, .int .i64 h, .int .i64 c]] w fun e w' => e = .returned (.bool b) ∧ Below w.heap.size w w' := by
  subst hc
  rcases five (inB x (-1000) 1000) (inB y (-1000) 1000) (inB d 0 7) (inB h 0 2000) (inB c (-20) 20) with ⟨q1, hv⟩ | ⟨q1, q2, hv⟩ | ⟨q1, q2, q3, hv⟩ | ⟨q1, q2, q3, q4, hv⟩ | ⟨q1, q2, q3, q4, q5, hv⟩ | ⟨q1, q2, q3, q4, q5, hv⟩
  all_goals
    have HE := hide (show cfB ⟨x, y, d, h, c⟩ = _ from hv)
    rw [unhide HE]
    clear hv
    go_enter Tryd.func23, Tryd.ntmps23
    go_wp2_with (go_at_call 37; refine (l1In_is _ _ _ _ (by first | exact q1 | exact q2 | exact q3 | exact q4 | exact q5)).mono ?_; rintro e w' ⟨rfl, hw⟩; subst w')
    go_ret
    exact ⟨rfl, (by repeat (first | exact Below.refl _ _ | refine Below.alloc ?_ (by simp; try omega) _ | refine Below.setCell ?_ (by simp; try omega) _ | refine lgDr ?_ _))⟩

end Go.Proofs.YtkpmoolggpojdauDoor
