/-
  What VoterOk answers in the model and in the program: as the plain function. At every voter; nothing that was there is written.
-/
import Derived.Test.YtidgkkldhnckeadVoTo
import Derived.Test.YtidgkkldhnckeadVoPure
namespace Go.Proofs.Ytidgkkldhnckead
open Go.RowKit

set_option maxHeartbeats 2000000 in
theorem implVoterOk_any (n h : Int) (a1 a2 : Option Addr) (l1 c1 l2 c2 : Nat) (bs : List Bool) (os : List Int) (w : World) (hr : VoIn w a1 a2 l1 l2 bs os) :
    Calls Try.prog 12 #[.agg #[.int .i64 n, .int .i64 h, .slice a1 l1 c1, .slice a2 l2 c2]] w fun x w' => x = .returned (.bool (voOk n h bs os)) ∧ Below w.heap.size w w' := by
  have Z1 := hide hr.r1.len_eq
  have Z2 := hide hr.r2.len_eq
  have R2 := hide (hr.r2.alloc (Obj.cells #[.int .i64 n, .int .i64 h, .slice a1 l1 c1, .slice a2 l2 c2] 28))
  clear hr
  cases q1 : inB n 0 1000 with
  | false =>
    have HE := hide (voOk_no (h := h) (bs := bs) (os := os) (.inl q1))
    go_enter Try.func12, Try.ntmps12
    go_wp2_with (go_at_call 33; refine (within_is _ _ _ _ (by first | exact q1 | exact q2 | exact q3)).mono ?_; rintro e w' ⟨rfl, hw⟩; subst w')
    go_ret
    exact ⟨ret_bool (unhide HE).symm, bel1 _⟩
  | true =>
  cases q2 : inB h 1 20 with
  | false =>
    have HE := hide (voOk_no (n := n) (bs := bs) (os := os) (.inr (.inl q2)))
    go_enter Try.func12, Try.ntmps12
    go_wp2_with (go_at_call 33; refine (within_is _ _ _ _ (by first | exact q1 | exact q2 | exact q3)).mono ?_; rintro e w' ⟨rfl, hw⟩; subst w')
    go_ret
    exact ⟨ret_bool (unhide HE).symm, bel1 _⟩
  | true =>
  cases q3 : inB (l1 : Int) 1 5 with
  | false =>
    have HE := hide (voOk_no (n := n) (h := h) (bs := bs) (os := os) (.inr (.inr (.inl (by rw [unhide Z1]; exact q3)))))
    go_enter Try.func12, Try.ntmps12
    go_wp2_with (go_at_call 33; refine (within_is _ _ _ _ (by first | exact q1 | exact q2 | exact q3)).mono ?_; rintro e w' ⟨rfl, hw⟩; subst w')
    go_ret
    exact ⟨ret_bool (unhide HE).symm, bel1 _⟩
  | true =>
  by_cases q4 : l2 = l1
  · have p4 : ((l2 : Int) == (l1 : Int)) = true := by rw [q4]; simp
    have Q4 := hide q4
    clear q4
    cases q5 : allB os 0 h with
    | false =>
      have HE := hide (voOk_no (n := n) (h := h) (bs := bs) (os := os) (.inr (.inr (.inr (.inr q5)))))
      go_enter Try.func12, Try.ntmps12
      go_wp2_with (go_at_call 33; refine (within_is _ _ _ _ (by first | exact q1 | exact q2 | exact q3)).mono ?_; rintro e w' ⟨rfl, hw⟩; subst w')
      refine (allWithin_any _ _ _ os _ _ _ (unhide R2)).mono ?_
      rintro e w1 ⟨rfl, n1, rfl⟩
      rw [q5]
      go_wp2_with fail
      go_ret
      exact ⟨ret_bool (unhide HE).symm, bel1d _ _⟩
    | true =>
      have HE := hide (voOk_yes (bs := bs) (os := os) q1 q2 (by rw [unhide Z1]; exact q3) (by rw [unhide Z1, unhide Z2]; exact unhide Q4) q5)
      go_enter Try.func12, Try.ntmps12
      go_wp2_with (go_at_call 33; refine (within_is _ _ _ _ (by first | exact q1 | exact q2 | exact q3)).mono ?_; rintro e w' ⟨rfl, hw⟩; subst w')
      refine (allWithin_any _ _ _ os _ _ _ (unhide R2)).mono ?_
      rintro e w1 ⟨rfl, n1, rfl⟩
      rw [q5]
      go_wp2_with fail
      go_ret
      exact ⟨ret_bool (unhide HE).symm, bel1d _ _⟩
  · have p4 : ((l2 : Int) == (l1 : Int)) = false := by simp; omega
    have HE := hide (voOk_no (n := n) (h := h) (bs := bs) (os := os) (.inr (.inr (.inr (.inl (by rw [unhide Z1, unhide Z2]; exact q4))))))
    clear q4
    go_enter Try.func12, Try.ntmps12
    go_wp2_with (go_at_call 33; refine (within_is _ _ _ _ (by first | exact q1 | exact q2 | exact q3)).mono ?_; rintro e w' ⟨rfl, hw⟩; subst w')
    go_ret
    exact ⟨ret_bool (unhide HE).symm, bel1 _⟩

theorem implVoterOk_is {c : Bool} (n h : Int) (a1 a2 : Option Addr) (l1 c1 l2 c2 : Nat) (bs : List Bool) (os : List Int) (w : World) (hr : VoIn w a1 a2 l1 l2 bs os) (hc : voOk n h bs os = c) :
    Calls Try.prog 12 #[.agg #[.int .i64 n, .int .i64 h, .slice a1 l1 c1, .slice a2 l2 c2]] w fun x w' => x = .returned (.bool c) ∧ Below w.heap.size w w' := by
  subst hc; exact implVoterOk_any n h a1 a2 l1 c1 l2 c2 bs os w hr

end Go.Proofs.Ytidgkkldhnckead
