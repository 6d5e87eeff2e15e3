/-
  What the functions on a curve answer: the law's copy, size and comparison of a curve, and the test of a curve in the model and in the program: the same test at every curve; nothing that was there is written.
-/
import Derived.Test.YtikhfacgoglcfaaMake
namespace Go.Proofs.Ytikhfacgoglcfaa
open Go.RowKit

set_option maxHeartbeats 1000000 in
theorem specCurveOk_any (a1 a2 : Option Addr) (l1 c1 l2 c2 : Nat) (xs ys : List Int) (w : World) (h1 : Row w a1 l1 xs) (h2 : Row w a2 l2 ys) :
    Calls Try.prog 12 #[.agg #[.slice a1 l1 c1, .slice a2 l2 c2]] w fun e w' => e = .returned (.bool (curveB xs ys)) ∧ Below w.heap.size w w' := by
  have H1 := hide (h1.alloc (.cells #[.slice a1 l1 c1, .slice a2 l2 c2] 26))
  have H2 := hide (h2.alloc (.cells #[.slice a1 l1 c1, .slice a2 l2 c2] 26))
  have hl1 := h1.len_eq
  have hl2 := h2.len_eq
  subst hl1
  subst hl2
  clear h1 h2
  rcases five (inB xs.length 2 20) ((xs.length : Int) == (ys.length : Int)) (riseB xs) (allB xs (-100000) 100000) (allB ys (-100000) 100000) with ⟨h, hv⟩ | ⟨h, h', hv⟩ | ⟨h, h', h'', hv⟩ | ⟨h, h', h'', h3, hv⟩ | ⟨h, h', h'', h3, h4, hv⟩ | ⟨h, h', h'', h3, h4, hv⟩
  all_goals
    have HE := hide hv
    clear hv
    go_enter Try.func12, Try.ntmps12
    go_wp2_with (first
      | (go_at_call 24; refine (l1In_any _ _ _ _).mono ?_; rintro e w' ⟨rfl, rfl⟩)
      | (go_at_call 25; refine (l1Rise_any _ _ _ xs _ (by first | exact unhide H1 | exact (unhide H1).drewN _)).mono ?_; rintro e w' ⟨rfl, n, rfl⟩)
      | (go_at_call_of 26 (Value.slice a1 xs.length c1); refine (l1All_any _ _ _ xs _ _ _ (by first | exact unhide H1 | exact (unhide H1).drewN _)).mono ?_; rintro e w' ⟨rfl, n, rfl⟩)
      | (go_at_call_of 26 (Value.slice a2 ys.length c2); refine (l1All_any _ _ _ ys _ _ _ (by first | exact unhide H2 | exact (unhide H2).drewN _)).mono ?_; rintro e w' ⟨rfl, n, rfl⟩))
    go_ret
    exact ⟨ret_bool (unhide HE).symm, by first | exact bel1 _ | exact bel1d _ _⟩


set_option maxHeartbeats 1000000 in
theorem axisOk_any (a1 : Option Addr) (l1 c1 : Nat) (xs : List Int) (b : Int) (w : World) (h1 : Row w a1 l1 xs) (hb0 : 0 ≤ b) (hb1 : b ≤ 1000000) :
    Calls Try.prog 19 #[.slice a1 l1 c1, .int .i64 b] w fun e w' => e = .returned (.bool (axisB xs b)) ∧ ∃ n, w' = w.drewN n := by
  have H1 := hide h1
  have hl1 := h1.len_eq
  subst hl1
  clear h1
  rcases three (inB xs.length 2 20) (riseB xs) (allB xs (-b) b) with ⟨h, hv⟩ | ⟨h, h', hv⟩ | ⟨h, h', h'', hv⟩ | ⟨h, h', h'', hv⟩
  all_goals
    have HE := hide hv
    clear hv
    go_enter Try.func19, Try.ntmps19
    go_wp2_with (first
      | (go_at_call 28; refine (within_any _ _ _ _).mono ?_; rintro e w' ⟨rfl, rfl⟩)
      | (go_at_call 30; refine (ascending_any _ _ _ xs _ (by first | exact unhide H1 | exact (unhide H1).drewN _)).mono ?_; rintro e w' ⟨rfl, n, rfl⟩)
      | (go_at_call 20; refine (allWithin_any _ _ _ xs _ _ _ (by first | exact unhide H1 | exact (unhide H1).drewN _)).mono ?_; rintro e w' ⟨rfl, n, rfl⟩))
    go_ret
    exact ⟨ret_bool (unhide HE).symm, by first | exact ⟨0, rfl⟩ | exact ⟨_, rfl⟩⟩

set_option maxHeartbeats 1000000 in
theorem implCurveOk_any (a1 a2 : Option Addr) (l1 c1 l2 c2 : Nat) (xs ys : List Int) (w : World) (h1 : Row w a1 l1 xs) (h2 : Row w a2 l2 ys) :
    Calls Try.prog 7 #[.agg #[.slice a1 l1 c1, .slice a2 l2 c2]] w fun e w' => e = .returned (.bool (curveB xs ys)) ∧ Below w.heap.size w w' := by
  have H1 := hide (h1.alloc (.cells #[.slice a1 l1 c1, .slice a2 l2 c2] 26))
  have H2 := hide (h2.alloc (.cells #[.slice a1 l1 c1, .slice a2 l2 c2] 26))
  have hl1 := h1.len_eq
  have hl2 := h2.len_eq
  subst hl1
  subst hl2
  clear h1 h2
  rcases three ((xs.length : Int) == (ys.length : Int)) (axisB xs 100000) (allB ys (-100000) 100000) with ⟨h, hv⟩ | ⟨h, h', hv⟩ | ⟨h, h', h'', hv⟩ | ⟨h, h', h'', hv⟩
  all_goals
    have HE := hide ((curveB_axis xs ys).trans hv)
    clear hv
    go_enter Try.func7, Try.ntmps7
    go_wp2_with (first
      | (go_at_call 19; refine (axisOk_any _ _ _ xs _ _ (by first | exact unhide H1 | exact (unhide H1).drewN _) (by decide) (by decide)).mono ?_; rintro e w' ⟨rfl, n, rfl⟩)
      | (go_at_call 20; refine (allWithin_any _ _ _ ys _ _ _ (by first | exact unhide H2 | exact (unhide H2).drewN _)).mono ?_; rintro e w' ⟨rfl, n, rfl⟩))
    go_ret
    exact ⟨ret_bool (unhide HE).symm, by first | exact bel1 _ | exact bel1d _ _⟩

theorem specCurveOk_is {c : Bool} (a1 a2 : Option Addr) (l1 c1 l2 c2 : Nat) (xs ys : List Int) (w : World) (hc : curveB xs ys = c) (h1 : Row w a1 l1 xs) (h2 : Row w a2 l2 ys) :
    Calls Try.prog 12 #[.agg #[.slice a1 l1 c1, .slice a2 l2 c2]] w fun e w' => e = .returned (.bool c) ∧ Below w.heap.size w w' := by
  subst hc; exact specCurveOk_any a1 a2 l1 c1 l2 c2 xs ys w h1 h2
theorem implCurveOk_is {c : Bool} (a1 a2 : Option Addr) (l1 c1 l2 c2 : Nat) (xs ys : List Int) (w : World) (hc : curveB xs ys = c) (h1 : Row w a1 l1 xs) (h2 : Row w a2 l2 ys) :
    Calls Try.prog 7 #[.agg #[.slice a1 l1 c1, .slice a2 l2 c2]] w fun e w' => e = .returned (.bool c) ∧ Below w.heap.size w w' := by
  subst hc; exact implCurveOk_any a1 a2 l1 c1 l2 c2 xs ys w h1 h2

end Go.Proofs.Ytikhfacgoglcfaa
