/-
  What the program's small functions of clocks answer: isBeyond, passedBy, clockOf, leftOf. No condition beyond sizes of numbers; nothing that was there is written.
-/
import Derived.Test.YtfnnfldfnjnlfagCkTsk
import Derived.Test.YtfnnfldfnjnlfagLeftImpl
import Derived.Test.YtfnnfldfnjnlfagArr
import Derived.LoopN
namespace Go.Proofs.Ytfnnfldfnjnlfag
open Go.RowKit
attribute [local go_sem high] run_ix0 run_ix1 run_ix2

set_option maxRecDepth 20000 in
set_option maxHeartbeats 1000000 in
theorem isBeyond_is {b : Bool} (ah ac ad bh bc bd : Int) (w : World) (hc : bhB ah ac ad bh bc bd = b) :
    Calls Try.prog 53 #[.agg #[.int .i64 ah, .int .i64 ac, .int .i64 ad], .agg #[.int .i64 bh, .int .i64 bc, .int .i64 bd]] w fun e w' => e = .returned (.bool !b) ∧ Below w.heap.size w w' := by
  subst hc
  rcases three (decide (ah ≤ bh)) (decide (ac ≤ bc)) (decide (ad ≤ bd)) with ⟨q1, hv⟩ | ⟨q1, q2, hv⟩ | ⟨q1, q2, q3, hv⟩ | ⟨q1, q2, q3, hv⟩
  all_goals
    have HE := hide (show bhB ah ac ad bh bc bd = _ from hv)
    rw [unhide HE]
    clear hv
    simp only [decide_eq_true_eq, decide_eq_false_iff_not, Int.not_le] at q1
    try simp only [decide_eq_true_eq, decide_eq_false_iff_not, Int.not_le] at q2
    try simp only [decide_eq_true_eq, decide_eq_false_iff_not, Int.not_le] at q3
    go_enter Try.func53, Try.ntmps53
    go_wp2_with fail
    go_ret
    exact ⟨ret_bool (by first | rfl | (simp <;> omega)), (by repeat (first | exact Below.refl _ _ | refine Below.alloc ?_ (by simp; try omega) _ | refine taDr ?_ _))⟩
set_option maxRecDepth 20000 in
set_option maxHeartbeats 1000000 in
theorem passedBy_any (nm : ByteArray) (h c d dh dc dd nh nc nd : Int) (w : World) (e1 : 0 ≤ dh ∧ dh ≤ 1000000) (e2 : 0 ≤ dc ∧ dc ≤ 1000000) (e3 : 0 ≤ dd ∧ dd ≤ 1000000) (e4 : 0 ≤ nh ∧ nh ≤ 1000000) (e5 : 0 ≤ nc ∧ nc ≤ 1000000) (e6 : 0 ≤ nd ∧ nd ≤ 1000000) :
    Calls Try.prog 55 #[.agg #[.string nm, .int .i64 h, .int .i64 c, .int .i64 d, .int .i64 dh, .int .i64 dc, .int .i64 dd], .agg #[.int .i64 nh, .int .i64 nc, .int .i64 nd]] w fun e w' => e = .returned (.agg #[.int .i64 (nh - dh), .int .i64 (nc - dc), .int .i64 (nd - dd)]) ∧ Below w.heap.size w w' := by
  go_enter Try.func55, Try.ntmps55
  go_wp2_with fail
  refine bodyPost_ret (v := .agg #[.int .i64 (nh - dh), .int .i64 (nc - dc), .int .i64 (nd - dd)]) (by simp [results, Try.results55, go_sem]) rfl ⟨rfl, ?_⟩
  repeat (first | exact bel2 _ _ | exact bel3 _ _ _ | refine Below.setCell ?_ (by simp; try omega) _)
set_option maxRecDepth 20000 in
set_option maxHeartbeats 1000000 in
theorem clockOf_any (a b c : Int) (w : World) :
    Calls Try.prog 57 #[.agg #[.int .i64 a, .int .i64 b, .int .i64 c]] w fun e w' => e = .returned (.agg #[.int .i64 a, .int .i64 b, .int .i64 c]) ∧ Below w.heap.size w w' := by
  go_enter Try.func57, Try.ntmps57
  go_wp2_with fail
  refine bodyPost_ret (v := .agg #[.int .i64 a, .int .i64 b, .int .i64 c]) (by simp [results, Try.results57, go_sem]) rfl ⟨rfl, ?_⟩
  repeat (first | exact bel2 _ _ | exact bel3 _ _ _ | refine Below.setCell ?_ (by simp; try omega) _)
theorem lfI_max {b p : Int} (hp : 0 ≤ p) : max (b - p) 0 = if b = 0 then 0 else max 0 (b - p) := by split <;> omega
set_option maxRecDepth 20000 in
set_option maxHeartbeats 4000000 in
theorem leftOf_any (b0 b1 b2 p0 p1 p2 : Int) (w : World) (h0 : 0 ≤ b0 ∧ b0 ≤ 100000) (h1 : 0 ≤ b1 ∧ b1 ≤ 100000) (h2 : 0 ≤ b2 ∧ b2 ≤ 100000) (g0 : 0 ≤ p0 ∧ p0 ≤ 1000000) (g1 : 0 ≤ p1 ∧ p1 ≤ 1000000) (g2 : 0 ≤ p2 ∧ p2 ≤ 1000000) :
    Calls Try.prog 58 #[.agg #[.int .i64 b0, .int .i64 b1, .int .i64 b2], .agg #[.int .i64 p0, .int .i64 p1, .int .i64 p2]] w fun e w' => e = .returned (.agg #[.int .i64 (lfI b0 p0), .int .i64 (lfI b1 p1), .int .i64 (lfI b2 p2)]) ∧ Below w.heap.size w w' := by
  have HX : Hid (lfI b0 p0 = max (b0 - p0) 0 ∧ lfI b1 p1 = max (b1 - p1) 0 ∧ lfI b2 p2 = max (b2 - p2) 0) := hide ⟨(lfI_max g0.1).symm, (lfI_max g1.1).symm, (lfI_max g2.1).symm⟩
  rw [(unhide HX).1, (unhide HX).2.1, (unhide HX).2.2]
  clear HX
  rcases Int.lt_or_le (b0 - p0) 0 with u0 | u0
  all_goals rcases Int.lt_or_le (b1 - p1) 0 with u1 | u1
  all_goals rcases Int.lt_or_le (b2 - p2) 0 with u2 | u2
  all_goals
    first | rw [show max (b0 - p0) 0 = 0 by omega] | rw [show max (b0 - p0) 0 = b0 - p0 by omega]
    first | rw [show max (b1 - p1) 0 = 0 by omega] | rw [show max (b1 - p1) 0 = b1 - p1 by omega]
    first | rw [show max (b2 - p2) 0 = 0 by omega] | rw [show max (b2 - p2) 0 = b2 - p2 by omega]
    go_enter Try.func58, Try.ntmps58
    go_wp2_with fail
    refine wp_loop_rounds 4 ?_
    rw [rounds_succ]
    go_wp2_with fail
    all_goals (first | (exfalso; omega) | skip)
    rw [rounds_succ]
    go_wp2_with fail
    all_goals (first | (exfalso; omega) | skip)
    rw [rounds_succ]
    go_wp2_with fail
    all_goals (first | (exfalso; omega) | skip)
    rw [rounds_succ]
    go_wp2_with fail
    refine bodyPost_ret (by simp [results, Try.results58, go_sem]) rfl ⟨rfl, ?_⟩
    repeat (first | exact Below.refl _ _ | refine Below.setCell ?_ (by simp; try omega) _ | refine Below.alloc ?_ (by simp; try omega) _)

end Go.Proofs.Ytfnnfldfnjnlfag
