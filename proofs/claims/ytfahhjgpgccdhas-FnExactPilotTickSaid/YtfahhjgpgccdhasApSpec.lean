/-
  What the model answers of a pilot: its test, where a rate leads, a hold, a step toward a number, a turn. At every pilot; bounds where they are said; nothing that was there is written.
-/
import Derived.Test.YtfahhjgpgccdhasApPure
import Derived.Test.YtfahhjgpgccdhasMinMax
import Derived.Test.YtfahhjgpgccdhasBlk
namespace Go.Proofs.Ytfahhjgpgccdhas
open Go.RowKit

set_option maxHeartbeats 2000000 in
theorem specPilotOk_al (v l g t r a b o : Int) (m : Bool) (w : World) :
    Calls Try.prog 11 #[.agg #[.int .i64 v, .int .i64 l, .int .i64 g, .int .i64 t, .int .i64 r, .int .i64 a, .int .i64 b, .int .i64 o, .bool m]] w fun e w' => e = .returned (.bool (apOk ⟨v, l, g, t, r, a, b, o, m⟩)) ∧ w' = w.alloc (Obj.cells #[.int .i64 v, .int .i64 l, .int .i64 g, .int .i64 t, .int .i64 r, .int .i64 a, .int .i64 b, .int .i64 o, .bool m] 28) := by
  cases h0 : inB v 0 4
  · have HE : Hid (apOk ⟨v, l, g, t, r, a, b, o, m⟩ = false) := hide (by simp [apOk, h0])
    rw [unhide HE]
    go_enter Try.func11, Try.ntmps11
    go_wp2_with (go_at_call 31; refine (l1In_is _ _ _ _ (by first | exact h0)).mono ?_; rintro e w' ⟨rfl, hw⟩; subst w')
    go_ret
    exact ⟨rfl, rfl⟩
  cases h1 : inB l 0 3
  · have HE : Hid (apOk ⟨v, l, g, t, r, a, b, o, m⟩ = false) := hide (by simp [apOk, h0, h1])
    rw [unhide HE]
    go_enter Try.func11, Try.ntmps11
    go_wp2_with (go_at_call 31; refine (l1In_is _ _ _ _ (by first | exact h0 | exact h1)).mono ?_; rintro e w' ⟨rfl, hw⟩; subst w')
    go_ret
    exact ⟨rfl, rfl⟩
  cases h2 : inB g 0 60000
  · have HE : Hid (apOk ⟨v, l, g, t, r, a, b, o, m⟩ = false) := hide (by simp [apOk, h0, h1, h2])
    rw [unhide HE]
    go_enter Try.func11, Try.ntmps11
    go_wp2_with (go_at_call 31; refine (l1In_is _ _ _ _ (by first | exact h0 | exact h1 | exact h2)).mono ?_; rintro e w' ⟨rfl, hw⟩; subst w')
    go_ret
    exact ⟨rfl, rfl⟩
  cases h3 : inB t 0 60000
  · have HE : Hid (apOk ⟨v, l, g, t, r, a, b, o, m⟩ = false) := hide (by simp [apOk, h0, h1, h2, h3])
    rw [unhide HE]
    go_enter Try.func11, Try.ntmps11
    go_wp2_with (go_at_call 31; refine (l1In_is _ _ _ _ (by first | exact h0 | exact h1 | exact h2 | exact h3)).mono ?_; rintro e w' ⟨rfl, hw⟩; subst w')
    go_ret
    exact ⟨rfl, rfl⟩
  cases h4 : inB r (-100) 100
  · have HE : Hid (apOk ⟨v, l, g, t, r, a, b, o, m⟩ = false) := hide (by simp [apOk, h0, h1, h2, h3, h4])
    rw [unhide HE]
    go_enter Try.func11, Try.ntmps11
    go_wp2_with (go_at_call 31; refine (l1In_is _ _ _ _ (by first | exact h0 | exact h1 | exact h2 | exact h3 | exact h4)).mono ?_; rintro e w' ⟨rfl, hw⟩; subst w')
    go_ret
    exact ⟨rfl, rfl⟩
  cases h5 : inB a 0 359
  · have HE : Hid (apOk ⟨v, l, g, t, r, a, b, o, m⟩ = false) := hide (by simp [apOk, h0, h1, h2, h3, h4, h5])
    rw [unhide HE]
    go_enter Try.func11, Try.ntmps11
    go_wp2_with (go_at_call 31; refine (l1In_is _ _ _ _ (by first | exact h0 | exact h1 | exact h2 | exact h3 | exact h4 | exact h5)).mono ?_; rintro e w' ⟨rfl, hw⟩; subst w')
    go_ret
    exact ⟨rfl, rfl⟩
  cases h6 : inB b 0 359
  · have HE : Hid (apOk ⟨v, l, g, t, r, a, b, o, m⟩ = false) := hide (by simp [apOk, h0, h1, h2, h3, h4, h5, h6])
    rw [unhide HE]
    go_enter Try.func11, Try.ntmps11
    go_wp2_with (go_at_call 31; refine (l1In_is _ _ _ _ (by first | exact h0 | exact h1 | exact h2 | exact h3 | exact h4 | exact h5 | exact h6)).mono ?_; rintro e w' ⟨rfl, hw⟩; subst w')
    go_ret
    exact ⟨rfl, rfl⟩
  cases h7 : inB o (-10000) 10000
  · have HE : Hid (apOk ⟨v, l, g, t, r, a, b, o, m⟩ = false) := hide (by simp [apOk, h0, h1, h2, h3, h4, h5, h6, h7])
    rw [unhide HE]
    go_enter Try.func11, Try.ntmps11
    go_wp2_with (go_at_call 31; refine (l1In_is _ _ _ _ (by first | exact h0 | exact h1 | exact h2 | exact h3 | exact h4 | exact h5 | exact h6 | exact h7)).mono ?_; rintro e w' ⟨rfl, hw⟩; subst w')
    go_ret
    exact ⟨rfl, rfl⟩
  have HE : Hid (apOk ⟨v, l, g, t, r, a, b, o, m⟩ = true) := hide (by simp [apOk, h0, h1, h2, h3, h4, h5, h6, h7])
  rw [unhide HE]
  go_enter Try.func11, Try.ntmps11
  go_wp2_with (go_at_call 31; refine (l1In_is _ _ _ _ (by first | exact h0 | exact h1 | exact h2 | exact h3 | exact h4 | exact h5 | exact h6 | exact h7)).mono ?_; rintro e w' ⟨rfl, hw⟩; subst w')
  go_ret
  exact ⟨rfl, rfl⟩
theorem specPilotOk_is {c : Bool} (v l g t r a b o : Int) (m : Bool) (w : World) (hc : apOk ⟨v, l, g, t, r, a, b, o, m⟩ = c) :
    Calls Try.prog 11 #[.agg #[.int .i64 v, .int .i64 l, .int .i64 g, .int .i64 t, .int .i64 r, .int .i64 a, .int .i64 b, .int .i64 o, .bool m]] w fun e w' => e = .returned (.bool c) ∧ w' = w.alloc (Obj.cells #[.int .i64 v, .int .i64 l, .int .i64 g, .int .i64 t, .int .i64 r, .int .i64 a, .int .i64 b, .int .i64 o, .bool m] 28) := by subst hc; exact specPilotOk_al v l g t r a b o m w
theorem specPilotOk_any (v l g t r a b o : Int) (m : Bool) (w : World) :
    Calls Try.prog 11 #[.agg #[.int .i64 v, .int .i64 l, .int .i64 g, .int .i64 t, .int .i64 r, .int .i64 a, .int .i64 b, .int .i64 o, .bool m]] w fun e w' => e = .returned (.bool (apOk ⟨v, l, g, t, r, a, b, o, m⟩)) ∧ Below w.heap.size w w' :=
  (specPilotOk_al v l g t r a b o m w).mono fun _ _ ⟨x, y⟩ => ⟨x, by rw [y]; exact bel1 _⟩
set_option maxHeartbeats 3000000 in
theorem l10Leads_is {c : Bool} (v l g t r a b o : Int) (m : Bool) (w : World) (hc : leadB g t r = c) :
    Calls Try.prog 36 #[.agg #[.int .i64 v, .int .i64 l, .int .i64 g, .int .i64 t, .int .i64 r, .int .i64 a, .int .i64 b, .int .i64 o, .bool m]] w fun e w' => e = .returned (.bool c) ∧ w' = w.alloc (Obj.cells #[.int .i64 v, .int .i64 l, .int .i64 g, .int .i64 t, .int .i64 r, .int .i64 a, .int .i64 b, .int .i64 o, .bool m] 28) := by
  subst hc
  by_cases h1 : 0 < r
  all_goals by_cases h2 : g < t
  all_goals by_cases h3 : r < 0
  all_goals by_cases h4 : t < g
  all_goals first
    | omega
    | (have HE : Hid (leadB g t r = false) := hide (by simp [leadB]; omega)
       rw [unhide HE]
       go_enter Try.func36, Try.ntmps36
       go_wp2
       go_ret
       exact ⟨rfl, rfl⟩)
    | (have HE : Hid (leadB g t r = true) := hide (by simp [leadB]; omega)
       rw [unhide HE]
       go_enter Try.func36, Try.ntmps36
       go_wp2
       go_ret
       exact ⟨rfl, rfl⟩)
set_option maxHeartbeats 2000000 in
theorem l10Hold_any (v l g t r a b o : Int) (m : Bool) (w : World) :
    Calls Try.prog 35 #[.agg #[.int .i64 v, .int .i64 l, .int .i64 g, .int .i64 t, .int .i64 r, .int .i64 a, .int .i64 b, .int .i64 o, .bool m]] w fun e w' => e = .returned (.agg #[.int .i64 1, .int .i64 l, .int .i64 g, .int .i64 g, .int .i64 0, .int .i64 a, .int .i64 b, .int .i64 o, .bool m]) ∧ w' = (w.alloc (Obj.cells #[.int .i64 1, .int .i64 l, .int .i64 g, .int .i64 g, .int .i64 0, .int .i64 a, .int .i64 b, .int .i64 o, .bool m] 28)).alloc (Obj.cells #[.int .i64 1, .int .i64 l, .int .i64 g, .int .i64 g, .int .i64 0, .int .i64 a, .int .i64 b, .int .i64 o, .bool m] 28) := by
  go_enter Try.func35, Try.ntmps35
  go_wp2
  refine bodyPost_ret (v := .agg #[.int .i64 1, .int .i64 l, .int .i64 g, .int .i64 g, .int .i64 0, .int .i64 a, .int .i64 b, .int .i64 o, .bool m]) (by simp [results, Try.results35, go_sem]) rfl ⟨rfl, rfl⟩

set_option maxHeartbeats 400000 in
theorem l1Max_is {c : Int} (x y : Int) (w : World) (hc : max x y = c) :
    Calls Try.prog 33 #[.int .i64 x, .int .i64 y] w fun e w' => e = .returned (.int .i64 c) ∧ w' = w := by subst hc; exact l1Max_eq x y w
set_option maxHeartbeats 400000 in
theorem absS_any (x : Int) (w : World) (hx : -1000000000 ≤ x ∧ x ≤ 1000000000) :
    Calls Try.prog 46 #[.int .i64 x] w fun e w' => e = .returned (.int .i64 (x.natAbs : Int)) ∧ w' = w := by
  by_cases g : x < 0
  all_goals
    go_enter Try.func46, Try.ntmps46
    go_wp2
    go_ret
    exact ⟨ret_int (by omega), rfl⟩
set_option maxHeartbeats 2000000 in
theorem l10Toward_is {c : Int} (x y n : Int) (w : World) (hx : -100000 ≤ x ∧ x ≤ 100000) (hn : 0 ≤ n ∧ n ≤ 100000) (hc : tow x y n = c) :
    Calls Try.prog 47 #[.int .i64 x, .int .i64 y, .int .i64 n] w fun e w' => e = .returned (.int .i64 c) ∧ w' = w := by
  subst hc
  by_cases h1 : x < y
  all_goals
    go_enter Try.func47, Try.ntmps47
    go_wp2_with (first
      | (go_at_call 32; refine (l1Min_eq _ _ _).mono ?_; rintro e w' ⟨rfl, hw⟩; subst w')
      | (go_at_call 33; refine (l1Max_eq _ _ _).mono ?_; rintro e w' ⟨rfl, hw⟩; subst w'))
    go_ret
    exact ⟨ret_int (by unfold tow; split <;> omega), rfl⟩
set_option maxHeartbeats 2000000 in
theorem l10Turn_any (x y : Int) (w : World) (hx : 0 ≤ x ∧ x ≤ 359) (hy : 0 ≤ y ∧ y ≤ 359) :
    Calls Try.prog 45 #[.int .i64 x, .int .i64 y] w fun e w' => e = .returned (.int .i64 (turnR x y)) ∧ w' = w := by
  have d0 : 0 ≤ (y - x) % 360 ∧ (y - x) % 360 < 360 := by omega
  by_cases h1 : 180 < (y - x) % 360
  all_goals
    go_enter Try.func45, Try.ntmps45
    go_wp2_with (first
      | (go_at_call 32; refine (l1Min_eq _ _ _).mono ?_; rintro e w' ⟨rfl, hw⟩; subst w'))
    go_ret
    exact ⟨ret_int (by rw [turnR]; split <;> omega), rfl⟩

end Go.Proofs.Ytfahhjgpgccdhas
