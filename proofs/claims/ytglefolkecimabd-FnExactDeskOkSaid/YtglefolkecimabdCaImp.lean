/-
  What the program's CarryOk answers: the plain answer, at every list; nothing that was there is written.
-/
import Derived.Test.YtglefolkecimabdLoCr
import Derived.Test.YtglefolkecimabdNameIs
import Derived.Test.YtglefolkecimabdTa1
namespace Go.Proofs.Ytglefolkecimabd
open Go Go.RowKit

set_option maxRecDepth 20000 in
set_option maxHeartbeats 1000000 in
theorem crSo_any (x : Cr) (w : World) (hs : fitT x.n) :
    Calls Try.prog 119 #[.agg #[.string x.n, .int .i64 x.m, .int .i64 x.d]] w fun e w' => e = .returned (.bool (crB x)) ∧ Below w.heap.size w w' := by
  rcases three (nameB x.n) (inB x.m 0 10) (inB x.d 0 120) with ⟨q1, hv⟩ | ⟨q1, q2, hv⟩ | ⟨q1, q2, q3, hv⟩ | ⟨q1, q2, q3, hv⟩
  all_goals
    have HE := hide (show crB x = _ from hv)
    rw [unhide HE]
    clear hv
    have CN : Hid (∀ W, Calls Try.prog 125 #[.string x.n] W fun e w' => e = .returned (.bool _) ∧ w' = W) := hide (fun W => by have := nameOk_any x.n W hs; rw [q1] at this; exact this)
    go_enter Try.func119, Try.ntmps119
    go_wp2_with (first | (go_at_call 125; refine (unhide CN _).mono ?_; rintro e w' ⟨rfl, hw⟩; subst w') | (go_at_call 43; refine (within_is _ _ _ _ (by first | exact q2 | exact q3)).mono ?_; rintro e w' ⟨rfl, hw⟩; subst w'))
    go_ret
    exact ⟨rfl, bel1 _⟩
set_option maxHeartbeats 1000000 in
theorem implCarryOk_any (a1 : Option Addr) (l1 c1 : Nat) (cs : List Cr) (w : World) (hr : RowE 3 crC w a1 l1 cs) (hf : ∀ i, fitT (elAt cs i).n) :
    Calls Try.prog 90 #[.slice a1 l1 c1] w fun e w' => e = .returned (.bool (caB cs)) ∧ Below w.heap.size w w' := by
  have CL := hide (listOkCr_any crB 20 a1 l1 c1 cs w (by omega) hr hf (fun x V hx _ => crSo_any x V hx))
  go_enter Try.func90, Try.ntmps90
  go_wp2_with (go_at_call 118; refine (unhide CL).mono ?_; rintro e w2 ⟨rfl, b2⟩; have B2 := hide b2; clear b2)
  go_ret
  exact ⟨rfl, unhide B2⟩

end Go.Proofs.Ytglefolkecimabd
