/-
  What the program answers of a pilot: its test, where a rate leads, a hold, a step toward a number, a turn. At every pilot; bounds where they are said; nothing that was there is written.
-/
import Derived.Test.YtglefolkecimabdPure1
import Derived.Test.YtglefolkecimabdSmall
import Derived.Test.YtglefolkecimabdBlk
namespace Go.Proofs.Ytglefolkecimabd
open Go.RowKit

set_option maxHeartbeats 2000000 in
theorem implPilotOk_al (v l g t r a b o : Int) (m : Bool) (w : World) :
    Calls Try.prog 59 #[.agg #[.int .i64 v, .int .i64 l, .int .i64 g, .int .i64 t, .int .i64 r, .int .i64 a, .int .i64 b, .int .i64 o, .bool m]] w fun e w' => e = .returned (.bool (apOk ⟨v, l, g, t, r, a, b, o, m⟩)) ∧ w' = w.alloc (Obj.cells #[.int .i64 v, .int .i64 l, .int .i64 g, .int .i64 t, .int .i64 r, .int .i64 a, .int .i64 b, .int .i64 o, .bool m] 61) := by
  cases h0 : inB v 0 4
  · have HE : Hid (apOk ⟨v, l, g, t, r, a, b, o, m⟩ = false) := hide (by simp [apOk, h0])
    rw [unhide HE]
    go_enter Try.func59, Try.ntmps59
    go_wp2_with (go_at_call 43; refine (within_is _ _ _ _ (by first | exact h0)).mono ?_; rintro e w' ⟨rfl, hw⟩; subst w')
    go_ret
    exact ⟨rfl, rfl⟩
  cases h1 : inB l 0 3
  · have HE : Hid (apOk ⟨v, l, g, t, r, a, b, o, m⟩ = false) := hide (by simp [apOk, h0, h1])
    rw [unhide HE]
    go_enter Try.func59, Try.ntmps59
    go_wp2_with (go_at_call 43; refine (within_is _ _ _ _ (by first | exact h0 | exact h1)).mono ?_; rintro e w' ⟨rfl, hw⟩; subst w')
    go_ret
    exact ⟨rfl, rfl⟩
  cases h2 : inB g 0 60000
  · have HE : Hid (apOk ⟨v, l, g, t, r, a, b, o, m⟩ = false) := hide (by simp [apOk, h0, h1, h2])
    rw [unhide HE]
    go_enter Try.func59, Try.ntmps59
    go_wp2_with (go_at_call 43; refine (within_is _ _ _ _ (by first | exact h0 | exact h1 | exact h2)).mono ?_; rintro e w' ⟨rfl, hw⟩; subst w')
    go_ret
    exact ⟨rfl, rfl⟩
  cases h3 : inB t 0 60000
  · have HE : Hid (apOk ⟨v, l, g, t, r, a, b, o, m⟩ = false) := hide (by simp [apOk, h0, h1, h2, h3])
    rw [unhide HE]
    go_enter Try.func59, Try.ntmps59
    go_wp2_with (go_at_call 43; refine (within_is _ _ _ _ (by first | exact h0 | exact h1 | exact h2 | exact h3)).mono ?_; rintro e w' ⟨rfl, hw⟩; subst w')
    go_ret
    exact ⟨rfl, rfl⟩
  cases h4 : inB r (-100) 100
  · have HE : Hid (apOk ⟨v, l, g, t, r, a, b, o, m⟩ = false) := hide (by simp [apOk, h0, h1, h2, h3, h4])
    rw [unhide HE]
    go_enter Try.func59, Try.ntmps59
    go_wp2_with (go_at_call 43; refine (within_is _ _ _ _ (by first | exact h0 | exact h1 | exact h2 | exact h3 | exact h4)).mono ?_; rintro e w' ⟨rfl, hw⟩; subst w')
    go_ret
    exact ⟨rfl, rfl⟩
  cases h5 : inB a 0 359
  · have HE : Hid (apOk ⟨v, l, g, t, r, a, b, o, m⟩ = false) := hide (by simp [apOk, h0, h1, h2, h3, h4, h5])
    rw [unhide HE]
    go_enter Try.func59, Try.ntmps59
    go_wp2_with (go_at_call 43; refine (within_is _ _ _ _ (by first | exact h0 | exact h1 | exact h2 | exact h3 | exact h4 | exact h5)).mono ?_; rintro e w' ⟨rfl, hw⟩; subst w')
    go_ret
    exact ⟨rfl, rfl⟩
  cases h6 : inB b 0 359
  · have HE : Hid (apOk ⟨v, l, g, t, r, a, b, o, m⟩ = false) := hide (by simp [apOk, h0, h1, h2, h3, h4, h5, h6])
    rw [unhide HE]
    go_enter Try.func59, Try.ntmps59
    go_wp2_with (go_at_call 43; refine (within_is _ _ _ _ (by first | exact h0 | exact h1 | exact h2 | exact h3 | exact h4 | exact h5 | exact h6)).mono ?_; rintro e w' ⟨rfl, hw⟩; subst w')
    go_ret
    exact ⟨rfl, rfl⟩
  cases h7 : inB o (-10000) 10000
  · have HE : Hid (apOk ⟨v, l, g, t, r, a, b, o, m⟩ = false) := hide (by simp [apOk, h0, h1, h2, h3, h4, h5, h6, h7])
    rw [unhide HE]
    go_enter Try.func59, Try.ntmps59
    go_wp2_with (go_at_call 43; refine (within_is _ _ _ _ (by first | exact h0 | exact h1 | exact h2 | exact h3 | exact h4 | exact h5 | exact h6 | exact h7)).mono ?_; rintro e w' ⟨rfl, hw⟩; subst w')
    go_ret
    exact ⟨rfl, rfl⟩
  have HE : Hid (apOk ⟨v, l, g, t, r, a, b, o, m⟩ = true) := hide (by simp [apOk, h0, h1, h2, h3, h4, h5, h6, h7])
  rw [unhide HE]
  go_enter Try.func59, Try.ntmps59
  go_wp2_with (go_at_call 43; refine (within_is _ _ _ _ (by first | exact h0 | exact h1 | exact h2 | exact h3 | exact h4 | exact h5 | exact h6 | exact h7)).mono ?_; rintro e w' ⟨rfl, hw⟩; subst w')
  go_ret
  exact ⟨rfl, rfl⟩
theorem implPilotOk_is {c : Bool} (v l g t r a b o : Int) (m : Bool) (w : World) (hc : apOk ⟨v, l, g, t, r, a, b, o, m⟩ = c) :
    Calls Try.prog 59 #[.agg #[.int .i64 v, .int .i64 l, .int .i64 g, .int .i64 t, .int .i64 r, .int .i64 a, .int .i64 b, .int .i64 o, .bool m]] w fun e w' => e = .returned (.bool c) ∧ w' = w.alloc (Obj.cells #[.int .i64 v, .int .i64 l, .int .i64 g, .int .i64 t, .int .i64 r, .int .i64 a, .int .i64 b, .int .i64 o, .bool m] 61) := by subst hc; exact implPilotOk_al v l g t r a b o m w
theorem implPilotOk_any (v l g t r a b o : Int) (m : Bool) (w : World) :
    Calls Try.prog 59 #[.agg #[.int .i64 v, .int .i64 l, .int .i64 g, .int .i64 t, .int .i64 r, .int .i64 a, .int .i64 b, .int .i64 o, .bool m]] w fun e w' => e = .returned (.bool (apOk ⟨v, l, g, t, r, a, b, o, m⟩)) ∧ Below w.heap.size w w' :=
  (implPilotOk_al v l g t r a b o m w).mono fun _ _ ⟨x, y⟩ => ⟨x, by rw [y]; exact bel1 _⟩


end Go.Proofs.Ytglefolkecimabd
