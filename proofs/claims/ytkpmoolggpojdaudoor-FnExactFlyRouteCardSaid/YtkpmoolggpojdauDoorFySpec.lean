/-
  What the model's step and next turn of a leg answer: the plain answers, at crafts and legs that are so; nothing that was there is written.
-/
import Derived.Test.YtkpmoolggpojdauDoorLgSpec
import Derived.Test.YtkpmoolggpojdauDoorMinMax
import Derived.RegionTactic
import Derived.ChangeAlike
namespace Go.Proofs.YtkpmoolggpojdauDoor
open Go.RowKit

theorem ret_ag5 {a b c d e a' b' c' d' e' : Int} (h1 : a = a') (h2 : b = b') (h3 : c = c') (h4 : d = d') (h5 : e = e') : Ending.returned (.agg #[.int .i64 a, .int .i64 b, .int .i64 c, .int .i64 d, .int .i64 e]) = .returned (.agg #[.int .i64 a', .int .i64 b', .int .i64 c', .int .i64 d', .int .i64 e']) := by rw [h1, h2, h3, h4, h5]
theorem eightOf {d : Int} (h0 : 0 ≤ d) (h7 : d ≤ 7) : d = 0 ∨ d = 1 ∨ d = 2 ∨ d = 3 ∨ d = 4 ∨ d = 5 ∨ d = 6 ∨ d = 7 := by omega
theorem upH_eq (h c : Int) : max 0 (min 2000 (h + c)) = upH h c := by unfold upH; split <;> (try split) <;> omega
set_option maxHeartbeats 400000 in
theorem l12Sign_is (x : Int) (w : World) : Calls Tryd.prog 39 #[.int .i64 x] w fun e w' => e = .returned (.int .i64 (sgn x)) ∧ w' = w := by
  by_cases h : 0 < x
  all_goals
    by_cases h2 : x < 0
    all_goals
      go_enter Tryd.func39, Tryd.ntmps39
      go_wp2
      try rw [Exit.noGoto_ret]
      go_ret
      exact ⟨ret_int (by unfold sgn; split <;> (try split) <;> omega), rfl⟩
set_option maxHeartbeats 1000000 in
theorem l12Dir_is (x y : Int) (w : World) (hx : -1 ≤ x ∧ x ≤ 1) (hy : -1 ≤ y ∧ y ≤ 1) : Calls Tryd.prog 38 #[.int .i64 x, .int .i64 y] w fun e w' => e = .returned (.int .i64 (dirOf x y)) ∧ Below w.heap.size w w' := by
  have h1 : x = -1 ∨ x = 0 ∨ x = 1 := by omega
  have h2 : y = -1 ∨ y = 0 ∨ y = 1 := by omega
  clear hx hy
  rcases h1 with rfl | rfl | rfl <;> rcases h2 with rfl | rfl | rfl
  all_goals
    go_enter Tryd.func38, Tryd.ntmps38
    go_wp2
    go_ret
    exact ⟨ret_int (by decide), (by repeat (first | exact Below.refl _ _ | refine Below.alloc ?_ (by simp; try omega) _ | refine Below.setCell ?_ (by simp; try omega) _ | refine lgDr ?_ _))⟩
set_option maxHeartbeats 4000000 in
theorem l12Step_is (x y d h c : Int) (w : World) (d0 : 0 ≤ d) (d7 : d ≤ 7) (hx : -1000 ≤ x ∧ x ≤ 1000) (hy : -1000 ≤ y ∧ y ≤ 1000) (hh : 0 ≤ h ∧ h ≤ 2000) (hc : -20 ≤ c ∧ c ≤ 20) :
    Calls Tryd.prog 40 #[.agg #[.int .i64 x, .int .i64 y, .int .i64 d, .int .i64 h, .int .i64 c]] w fun e w' => e = .returned (.agg #[.int .i64 (x + dirX d), .int .i64 (y + dirY d), .int .i64 d, .int .i64 (upH h c), .int .i64 c]) ∧ Below w.heap.size w w' := by
  have HU := hide (upH_eq h c)
  obtain ⟨x0, x1⟩ := hx
  obtain ⟨y0, y1⟩ := hy
  obtain ⟨h0, h1⟩ := hh
  obtain ⟨c0, c1⟩ := hc
  rcases eightOf d0 d7 with rfl | rfl | rfl | rfl | rfl | rfl | rfl | rfl
  all_goals
    clear d0 d7
    go_enter Tryd.func40, Tryd.ntmps40
    go_wp2_with fail
    go_region
    go_wp2_with fail
    go_region
    go_wp2_with fail
    all_goals
      go_wp2_with (first | (go_at_call 50; refine (l1Max_eq _ _ _).mono ?_; rintro e w' ⟨rfl, hw⟩; subst w') | (go_at_call 51; refine (l1Min_eq _ _ _).mono ?_; rintro e w' ⟨rfl, hw⟩; subst w'))
      refine bodyPost_ret (v := .agg #[.int .i64 (x + dirX _), .int .i64 (y + dirY _), .int .i64 _, .int .i64 (upH h c), .int .i64 c]) (by rw [← unhide HU]; simp [results, Tryd.results40, go_sem]; first | decide | simp [dirX, dirY]) rfl ⟨rfl, ?_⟩
      exact (by repeat (first | exact Below.refl _ _ | refine Below.alloc ?_ (by simp; try omega) _ | refine Below.setCell ?_ (by simp; try omega) _ | refine lgDr ?_ _))

end Go.Proofs.YtkpmoolggpojdauDoor
