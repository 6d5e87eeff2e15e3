/-
  What the program answers of a pilot: its test, where a rate leads, a hold, a step toward a number, a turn. At every pilot; bounds where they are said; nothing that was there is written.
-/
import Derived.Test.YtfahhjgpgccdhadApPure
import Derived.Test.YtfahhjgpgccdhadSmall
import Derived.Test.YtfahhjgpgccdhadBlk
namespace Go.Proofs.Ytfahhjgpgccdhad
open Go.RowKit

set_option maxHeartbeats 2000000 in
theorem implPilotOk_al (v l g t r a b o : Int) (m : Bool) (w : World) :
    Calls Try.prog 28 #[.agg #[.int .i64 v, .int .i64 l, .int .i64 g, .int .i64 t, .int .i64 r, .int .i64 a, .int .i64 b, .int .i64 o, .bool m]] w fun e w' => e = .returned (.bool (apOk ⟨v, l, g, t, r, a, b, o, m⟩)) ∧ w' = w.alloc (Obj.cells #[.int .i64 v, .int .i64 l, .int .i64 g, .int .i64 t, .int .i64 r, .int .i64 a, .int .i64 b, .int .i64 o, .bool m] 64) := by
  cases h0 : inB v 0 4
  · have HE : Hid (apOk ⟨v, l, g, t, r, a, b, o, m⟩ = false) := hide (by simp [apOk, h0])
    rw [unhide HE]
    go_enter Try.func28, Try.ntmps28
    go_wp2_with (go_at_call 33; refine (within_is _ _ _ _ (by first | exact h0)).mono ?_; rintro e w' ⟨rfl, hw⟩; subst w')
    go_ret
    exact ⟨rfl, rfl⟩
  cases h1 : inB l 0 3
  · have HE : Hid (apOk ⟨v, l, g, t, r, a, b, o, m⟩ = false) := hide (by simp [apOk, h0, h1])
    rw [unhide HE]
    go_enter Try.func28, Try.ntmps28
    go_wp2_with (go_at_call 33; refine (within_is _ _ _ _ (by first | exact h0 | exact h1)).mono ?_; rintro e w' ⟨rfl, hw⟩; subst w')
    go_ret
    exact ⟨rfl, rfl⟩
  cases h2 : inB g 0 60000
  · have HE : Hid (apOk ⟨v, l, g, t, r, a, b, o, m⟩ = false) := hide (by simp [apOk, h0, h1, h2])
    rw [unhide HE]
    go_enter Try.func28, Try.ntmps28
    go_wp2_with (go_at_call 33; refine (within_is _ _ _ _ (by first | exact h0 | exact h1 | exact h2)).mono ?_; rintro e w' ⟨rfl, hw⟩; subst w')
    go_ret
    exact ⟨rfl, rfl⟩
  cases h3 : inB t 0 60000
  · have HE : Hid (apOk ⟨v, l, g, t, r, a, b, o, m⟩ = false) := hide (by simp [apOk, h0, h1, h2, h3])
    rw [unhide HE]
    go_enter Try.func28, Try.ntmps28
    go_wp2_with (go_at_call 33; refine (within_is _ _ _ _ (by first | exact h0 | exact h1 | exact h2 | exact h3)).mono ?_; rintro e w' ⟨rfl, hw⟩; subst w')
    go_ret
    exact ⟨rfl, rfl⟩
  cases h4 : inB r (-100) 100
  · have HE : Hid (apOk ⟨v, l, g, t, r, a, b, o, m⟩ = false) := hide (by simp [apOk, h0, h1, h2, h3, h4])
    rw [unhide HE]
    go_enter Try.func28, Try.ntmps28
    go_wp2_with (go_at_call 33; refine (within_is _ _ _ _ (by first | exact h0 | exact h1 | exact h2 | exact h3 | exact h4)).mono ?_; rintro e w' ⟨rfl, hw⟩; subst w')
    go_ret
    exact ⟨rfl, rfl⟩
  cases h5 : inB a 0 359
  · have HE : Hid (apOk ⟨v, l, g, t, r, a, b, o, m⟩ = false) := hide (by simp [apOk, h0, h1, h2, h3, h4, h5])
    rw [unhide HE]
    go_enter Try.func28, Try.ntmps28
    go_wp2_with (go_at_call 33; refine (within_is _ _ _ _ (by first | exact h0 | exact h1 | exact h2 | exact h3 | exact h4 | exact h5)).mono ?_; rintro e w' ⟨rfl, hw⟩; subst w')
    go_ret
    exact ⟨rfl, rfl⟩
  cases h6 : inB b 0 359
  · have HE : Hid (apOk ⟨v, l, g, t, r, a, b, o, m⟩ = false) := hide (by simp [apOk, h0, h1, h2, h3, h4, h5, h6])
    rw [unhide HE]
    go_enter Try.func28, Try.ntmps28
    go_wp2_with (go_at_call 33; refine (within_is _ _ _ _ (by first | exact h0 | exact h1 | exact h2 | exact h3 | exact h4 | exact h5 | exact h6)).mono ?_; rintro e w' ⟨rfl, hw⟩; subst w')
    go_ret
    exact ⟨rfl, rfl⟩
  cases h7 : inB o (-10000) 10000
  · have HE : Hid (apOk ⟨v, l, g, t, r, a, b, o, m⟩ = false) := hide (by simp [apOk, h0, h1, h2, h3, h4, h5, h6, h7])
    rw [unhide HE]
    go_enter Try.func28, Try.ntmps28
    go_wp2_with (go_at_call 33; refine (within_is _ _ _ _ (by first | exact h0 | exact h1 | exact h2 | exact h3 | exact h4 | exact h5 | exact h6 | exact h7)).mono ?_; rintro e w' ⟨rfl, hw⟩; subst w')
    go_ret
    exact ⟨rfl, rfl⟩
  have HE : Hid (apOk ⟨v, l, g, t, r, a, b, o, m⟩ = true) := hide (by simp [apOk, h0, h1, h2, h3, h4, h5, h6, h7])
  rw [unhide HE]
  go_enter Try.func28, Try.ntmps28
  go_wp2_with (go_at_call 33; refine (within_is _ _ _ _ (by first | exact h0 | exact h1 | exact h2 | exact h3 | exact h4 | exact h5 | exact h6 | exact h7)).mono ?_; rintro e w' ⟨rfl, hw⟩; subst w')
  go_ret
  exact ⟨rfl, rfl⟩
theorem implPilotOk_is {c : Bool} (v l g t r a b o : Int) (m : Bool) (w : World) (hc : apOk ⟨v, l, g, t, r, a, b, o, m⟩ = c) :
    Calls Try.prog 28 #[.agg #[.int .i64 v, .int .i64 l, .int .i64 g, .int .i64 t, .int .i64 r, .int .i64 a, .int .i64 b, .int .i64 o, .bool m]] w fun e w' => e = .returned (.bool c) ∧ w' = w.alloc (Obj.cells #[.int .i64 v, .int .i64 l, .int .i64 g, .int .i64 t, .int .i64 r, .int .i64 a, .int .i64 b, .int .i64 o, .bool m] 64) := by subst hc; exact implPilotOk_al v l g t r a b o m w
theorem implPilotOk_any (v l g t r a b o : Int) (m : Bool) (w : World) :
    Calls Try.prog 28 #[.agg #[.int .i64 v, .int .i64 l, .int .i64 g, .int .i64 t, .int .i64 r, .int .i64 a, .int .i64 b, .int .i64 o, .bool m]] w fun e w' => e = .returned (.bool (apOk ⟨v, l, g, t, r, a, b, o, m⟩)) ∧ Below w.heap.size w w' :=
  (implPilotOk_al v l g t r a b o m w).mono fun _ _ ⟨x, y⟩ => ⟨x, by rw [y]; exact bel1 _⟩
set_option maxHeartbeats 3000000 in
theorem leads_is {c : Bool} (v l g t r a b o : Int) (m : Bool) (w : World) (hc : leadB g t r = c) :
    Calls Try.prog 79 #[.agg #[.int .i64 v, .int .i64 l, .int .i64 g, .int .i64 t, .int .i64 r, .int .i64 a, .int .i64 b, .int .i64 o, .bool m]] w fun e w' => e = .returned (.bool c) ∧ w' = w.alloc (Obj.cells #[.int .i64 v, .int .i64 l, .int .i64 g, .int .i64 t, .int .i64 r, .int .i64 a, .int .i64 b, .int .i64 o, .bool m] 64) := by
  subst hc
  by_cases h1 : 0 < r
  all_goals by_cases h2 : g < t
  all_goals by_cases h3 : r < 0
  all_goals by_cases h4 : t < g
  all_goals first
    | omega
    | (have HE : Hid (leadB g t r = false) := hide (by simp [leadB]; omega)
       rw [unhide HE]
       go_enter Try.func79, Try.ntmps79
       go_wp2
       go_ret
       exact ⟨rfl, rfl⟩)
    | (have HE : Hid (leadB g t r = true) := hide (by simp [leadB]; omega)
       rw [unhide HE]
       go_enter Try.func79, Try.ntmps79
       go_wp2
       go_ret
       exact ⟨rfl, rfl⟩)
set_option maxHeartbeats 2000000 in
theorem leveled_any (v l g t r a b o : Int) (m : Bool) (w : World) :
    Calls Try.prog 78 #[.agg #[.int .i64 v, .int .i64 l, .int .i64 g, .int .i64 t, .int .i64 r, .int .i64 a, .int .i64 b, .int .i64 o, .bool m]] w fun e w' => e = .returned (.agg #[.int .i64 1, .int .i64 l, .int .i64 g, .int .i64 g, .int .i64 0, .int .i64 a, .int .i64 b, .int .i64 o, .bool m]) ∧ w' = (w.alloc (Obj.cells #[.int .i64 1, .int .i64 l, .int .i64 g, .int .i64 g, .int .i64 0, .int .i64 a, .int .i64 b, .int .i64 o, .bool m] 64)).alloc (Obj.cells #[.int .i64 1, .int .i64 l, .int .i64 g, .int .i64 g, .int .i64 0, .int .i64 a, .int .i64 b, .int .i64 o, .bool m] 64) := by
  go_enter Try.func78, Try.ntmps78
  go_wp2
  refine bodyPost_ret (v := .agg #[.int .i64 1, .int .i64 l, .int .i64 g, .int .i64 g, .int .i64 0, .int .i64 a, .int .i64 b, .int .i64 o, .bool m]) (by simp [results, Try.results78, go_sem]) rfl ⟨rfl, rfl⟩

set_option maxHeartbeats 400000 in
theorem sizeOf_any (x : Int) (w : World) (hx : -1000000000 ≤ x ∧ x ≤ 1000000000) :
    Calls Try.prog 80 #[.int .i64 x] w fun e w' => e = .returned (.int .i64 (x.natAbs : Int)) ∧ w' = w := by
  by_cases g : x < -x
  all_goals
    go_enter Try.func80, Try.ntmps80
    go_wp2
    go_ret
    exact ⟨ret_int (by omega), rfl⟩
set_option maxHeartbeats 2000000 in
theorem toward_is {c : Int} (x y n : Int) (w : World) (hx : -100000 ≤ x ∧ x ≤ 100000) (hn : 0 ≤ n ∧ n ≤ 100000) (hc : tow x y n = c) :
    Calls Try.prog 81 #[.int .i64 x, .int .i64 y, .int .i64 n] w fun e w' => e = .returned (.int .i64 c) ∧ w' = w := by
  subst hc
  go_enter Try.func81, Try.ntmps81
  go_wp2
  all_goals
    go_ret
    exact ⟨ret_int (by unfold tow; split <;> omega), rfl⟩
theorem turn_less (x d : Int) (hd : 0 ≤ d) : (x + tow 0 d 3) % 360 = (x + min 3 d) % 360 := by
  have e : tow 0 d 3 = min 3 d := by unfold tow; split <;> omega
  rw [e]
theorem turn_more (x d : Int) (h2 : d < 360) : (x + tow 0 (d - 360) 3) % 360 = (x - min 3 (360 - d)) % 360 := by
  have e : tow 0 (d - 360) 3 = - min 3 (360 - d) := by unfold tow; split <;> omega
  rw [e]; congr 1
set_option maxHeartbeats 2000000 in
theorem turned_any (x y : Int) (w : World) (hx : 0 ≤ x ∧ x ≤ 359) (hy : 0 ≤ y ∧ y ≤ 359) :
    Calls Try.prog 82 #[.int .i64 x, .int .i64 y] w fun e w' => e = .returned (.int .i64 (turnR x y)) ∧ w' = w := by
  have d0 : 0 ≤ (y - x) % 360 ∧ (y - x) % 360 < 360 := by omega
  by_cases h1 : 180 < (y - x) % 360
  · obtain ⟨T, hT⟩ : ∃ T, tow 0 ((y - x) % 360 - 360) 3 = T := ⟨_, rfl⟩
    have HT := hide hT
    have hT1 : -3 ≤ T ∧ T ≤ 3 := by rw [← hT]; unfold tow; split <;> omega
    clear hT
    go_enter Try.func82, Try.ntmps82
    go_wp2_with (go_at_call 81; refine (toward_is _ _ _ _ (by omega) (by omega) (unhide HT)).mono ?_; rintro e w' ⟨rfl, hw⟩; subst w')
    go_ret
    exact ⟨ret_int (by rw [turnR, if_pos (by omega), ← turn_more _ _ d0.2, unhide HT]; omega), rfl⟩
  · obtain ⟨T, hT⟩ : ∃ T, tow 0 ((y - x) % 360) 3 = T := ⟨_, rfl⟩
    have HT := hide hT
    have hT1 : -3 ≤ T ∧ T ≤ 3 := by rw [← hT]; unfold tow; split <;> omega
    clear hT
    go_enter Try.func82, Try.ntmps82
    go_wp2_with (go_at_call 81; refine (toward_is _ _ _ _ (by omega) (by omega) (unhide HT)).mono ?_; rintro e w' ⟨rfl, hw⟩; subst w')
    go_ret
    exact ⟨ret_int (by rw [turnR, if_neg (by omega), ← turn_less _ _ d0.1, unhide HT]; omega), rfl⟩

end Go.Proofs.Ytfahhjgpgccdhad
