/-
  What GainOk answers in the model and in the program: as the plain function. At every gain; nothing that was there is written.
-/
import Derived.Test.YtbaocifpifbldadGaTo
import Derived.Test.YtbaocifpifbldadCtlPure
import Derived.Test.YtbaocifpifbldadSmall
namespace Go.Proofs.Ytbaocifpifbldad
open Go.RowKit

theorem gaB_five (xs ys : List Int) : gaB xs ys = (inB xs.length 2 8 && ((ys.length : Int) == (xs.length : Int)) && riseB xs && allB xs 0 1000 && allB ys 0 1000) := by
  unfold gaB
  have : decide (ys.length = xs.length) = ((ys.length : Int) == (xs.length : Int)) := by
    by_cases h : ys.length = xs.length
    · simp [h]
    · have h' : ¬ (ys.length : Int) = (xs.length : Int) := by omega
      simp [h, h']
  rw [this]

set_option maxHeartbeats 2000000 in
theorem implGainOk_any (a1 a2 : Option Addr) (l1 c1 l2 c2 : Nat) (xs ys : List Int) (w : World) (hr : GaIn w a1 a2 l1 l2 xs ys) :
    Calls Try.prog 24 #[.agg #[.slice a1 l1 c1, .slice a2 l2 c2]] w fun e w' => e = .returned (.bool (gaB xs ys)) ∧ Below w.heap.size w w' := by
  have H1 := hide (hr.r1.alloc (.cells #[.slice a1 l1 c1, .slice a2 l2 c2] 46))
  have H2 := hide (hr.r2.alloc (.cells #[.slice a1 l1 c1, .slice a2 l2 c2] 46))
  have hl1 := hr.r1.len_eq
  have hl2 := hr.r2.len_eq
  subst hl1
  subst hl2
  clear hr
  rcases five (inB xs.length 2 8) ((ys.length : Int) == (xs.length : Int)) (riseB xs) (allB xs 0 1000) (allB ys 0 1000) with ⟨h, hv⟩ | ⟨h, h', hv⟩ | ⟨h, h', h'', hv⟩ | ⟨h, h', h'', h3, hv⟩ | ⟨h, h', h'', h3, h4, hv⟩ | ⟨h, h', h'', h3, h4, hv⟩
  all_goals
    have HE := hide ((gaB_five xs ys).trans hv)
    clear hv
    go_enter Try.func24, Try.ntmps24
    go_wp2_with (first
      | (go_at_call 33; refine (within_any _ _ _ _).mono ?_; rintro e w' ⟨rfl, rfl⟩)
      | (go_at_call 55; refine (ascending_any _ _ _ xs _ (by first | exact unhide H1 | exact (unhide H1).drewN _)).mono ?_; rintro e w' ⟨rfl, n, rfl⟩)
      | (go_at_call_of 34 (Value.slice a1 xs.length c1); refine (allWithin_any _ _ _ xs _ _ _ (by first | exact unhide H1 | exact (unhide H1).drewN _)).mono ?_; rintro e w' ⟨rfl, n, rfl⟩)
      | (go_at_call_of 34 (Value.slice a2 ys.length c2); refine (allWithin_any _ _ _ ys _ _ _ (by first | exact unhide H2 | exact (unhide H2).drewN _)).mono ?_; rintro e w' ⟨rfl, n, rfl⟩))
    go_ret
    exact ⟨ret_bool (unhide HE).symm, by first | exact bel1 _ | exact bel1d _ _⟩

theorem implGainOk_is {c : Bool} (a1 a2 : Option Addr) (l1 c1 l2 c2 : Nat) (xs ys : List Int) (w : World) (hr : GaIn w a1 a2 l1 l2 xs ys) (hc : gaB xs ys = c) :
    Calls Try.prog 24 #[.agg #[.slice a1 l1 c1, .slice a2 l2 c2]] w fun e w' => e = .returned (.bool c) ∧ Below w.heap.size w w' := by
  subst hc; exact implGainOk_any a1 a2 l1 c1 l2 c2 xs ys w hr


end Go.Proofs.Ytbaocifpifbldad
