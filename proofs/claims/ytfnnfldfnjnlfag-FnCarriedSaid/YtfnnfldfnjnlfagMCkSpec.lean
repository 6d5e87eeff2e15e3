/-
  What the model's small functions of maintenance answer: plain answers, at every argument; nothing that was there is written.
  The model's lesser and greater of two numbers; no memory is written. No condition.
  What the model's l19Behind and l19Left answer. No condition beyond sizes of numbers.
  Which parts are due, in plain numbers. No program here.
-/
import Derived.Test.YtfnnfldfnjnlfagMCkPure
import Derived.Test.YtfnnfldfnjnlfagMToCk
import Derived.Test.YtfnnfldfnjnlfagTaAlert
import Derived.Test.YtfnnfldfnjnlfagSmall
import Derived.Test.YtfnnfldfnjnlfagMLeftPure

namespace Go.Proofs.Ytfnnfldfnjnlfag
open Go.RowKit

set_option maxRecDepth 20000 in
set_option maxHeartbeats 2000000 in
theorem specClockOk_is {b : Bool} (h c d : Int) (w : World) (hc : ckB h c d = b) :
    Calls Try.prog 93 #[.agg #[.int .i64 h, .int .i64 c, .int .i64 d]] w fun e w' => e = .returned (.bool b) ∧ Below w.heap.size w w' := by
  subst hc
  rcases three (inB h 0 1000000) (inB c 0 1000000) (inB d 0 1000000) with ⟨q1, hv⟩ | ⟨q1, q2, hv⟩ | ⟨q1, q2, q3, hv⟩ | ⟨q1, q2, q3, hv⟩
  all_goals
    have HE := hide (show ckB h c d = _ from hv)
    rw [unhide HE]
    clear hv
    go_enter Try.func93, Try.ntmps93
    go_wp2_with fail
    obtain ⟨W, hW⟩ : ∃ W, W = (w.alloc (Obj.cells #[.int .i64 h, .int .i64 c, .int .i64 d] 28)) := ⟨_, rfl⟩
    rw [← hW]
    have K0 : Hid (Blk W (w.heap.size) [.int .i64 h, .int .i64 c, .int .i64 d]) := hide (by rw [hW]; exact Blk.new _ _)
    have B0 : Hid (Below w.heap.size w W) := hide (by rw [hW]; exact (by repeat (first | exact Below.refl _ _ | refine Below.alloc ?_ (by simp; try omega) _ | refine Below.setCell ?_ (by simp; try omega) _ | refine taDr ?_ _)))
    clear hW
    obtain ⟨ι, fW, _, hb, hall⟩ := belClass W
    have HB := hide hb
    have HA := hide hall
    have c00 : ∀ x, (fW x).cell? ⟨w.heap.size, 0, none⟩ = some (.int .i64 h) := fun x => ((unhide K0).below (hb x)).c 0 (by simp)
    have c01 : ∀ x, (fW x).cell? ⟨w.heap.size, 1, none⟩ = some (.int .i64 c) := fun x => ((unhide K0).below (hb x)).c 1 (by simp)
    have c02 : ∀ x, (fW x).cell? ⟨w.heap.size, 2, none⟩ = some (.int .i64 d) := fun x => ((unhide K0).below (hb x)).c 2 (by simp)
    clear hb hall
    obtain ⟨x0, h0⟩ := (unhide HA) W (Below.refl _ _)
    rw [h0]
    clear h0
    go_wp2_with (first | (go_at_call 98; refine (belS (l1In_is _ _ _ _ (by first | exact q1 | exact q2 | exact q3))).mono ?_; rintro e _ ⟨rfl, y, rfl⟩))
    repeat (refine wp_region_bel (fun w' h => (unhide HA) w' ((unhide HB _).trans (h.mono (unhide HB _).size))) (by kernel_rfl) (by kernel_rfl) ?_; (repeat (go_big_quiet_step (first | (go_at_call 98; exact belS (l1In_is _ _ _ _ (by first | exact q1 | exact q2 | exact q3)))))); refine wpQuiet_nil ?_; rintro _ ⟨y, rfl⟩; (first | go_wp2_with (first | (go_at_call 98; refine (belS (l1In_is _ _ _ _ (by first | exact q1 | exact q2 | exact q3))).mono ?_; rintro e _ ⟨rfl, y, rfl⟩)) | go_wp2))
    go_ret
    exact ⟨rfl, (unhide B0).trans ((unhide HB _).mono (unhide B0).size)⟩

set_option maxRecDepth 20000 in
set_option maxHeartbeats 2000000 in
theorem specTaskOk_is {b : Bool} (nm : ByteArray) (h c d dh dc dd : Int) (w : World) (hs : nm.size ≤ 9223372036854775807) (hc : tsB ⟨nm, h, c, d, dh, dc, dd⟩ = b) :
    Calls Try.prog 95 #[.agg #[.string nm, .int .i64 h, .int .i64 c, .int .i64 d, .int .i64 dh, .int .i64 dc, .int .i64 dd]] w fun e w' => e = .returned (.bool b) ∧ Below w.heap.size w w' := by
  subst hc
  rcases six (nameB nm) (inB h 0 100000) (inB c 0 100000) (inB d 0 100000) (decide (0 < h + c + d)) (ckB dh dc dd) with ⟨q1, hv⟩ | ⟨q1, q2, hv⟩ | ⟨q1, q2, q3, hv⟩ | ⟨q1, q2, q3, q4, hv⟩ | ⟨q1, q2, q3, q4, q5, hv⟩ | ⟨q1, q2, q3, q4, q5, q6, hv⟩ | ⟨q1, q2, q3, q4, q5, q6, hv⟩
  all_goals
    have HE := hide (show tsB ⟨nm, h, c, d, dh, dc, dd⟩ = _ from hv)
    rw [unhide HE]
    clear hv
    try (have g2 : 0 ≤ h ∧ h ≤ 100000 := of_decide_eq_true q2)
    try (have g3 : 0 ≤ c ∧ c ≤ 100000 := of_decide_eq_true q3)
    try (have g4 : 0 ≤ d ∧ d ≤ 100000 := of_decide_eq_true q4)
    have CN : Hid (∀ W, Calls Try.prog 97 #[.string nm] W fun e w' => e = .returned (.bool _) ∧ w' = W) := hide (fun W => by have := l1Name_any nm W hs; rw [q1] at this; exact this)
    go_enter Try.func95, Try.ntmps95
    go_wp2_with fail
    obtain ⟨W, hW⟩ : ∃ W, W = (w.alloc (Obj.cells #[.string nm, .int .i64 h, .int .i64 c, .int .i64 d, .int .i64 dh, .int .i64 dc, .int .i64 dd] 44)) := ⟨_, rfl⟩
    rw [← hW]
    have K0 : Hid (Blk W (w.heap.size) [.string nm, .int .i64 h, .int .i64 c, .int .i64 d, .int .i64 dh, .int .i64 dc, .int .i64 dd]) := hide (by rw [hW]; exact Blk.new _ _)
    have B0 : Hid (Below w.heap.size w W) := hide (by rw [hW]; exact (by repeat (first | exact Below.refl _ _ | refine Below.alloc ?_ (by simp; try omega) _ | refine Below.setCell ?_ (by simp; try omega) _ | refine taDr ?_ _)))
    clear hW
    obtain ⟨ι, fW, _, hb, hall⟩ := belClass W
    have HB := hide hb
    have HA := hide hall
    have c00 : ∀ x, (fW x).cell? ⟨w.heap.size, 0, none⟩ = some (.string nm) := fun x => ((unhide K0).below (hb x)).c 0 (by simp)
    have c01 : ∀ x, (fW x).cell? ⟨w.heap.size, 1, none⟩ = some (.int .i64 h) := fun x => ((unhide K0).below (hb x)).c 1 (by simp)
    have c02 : ∀ x, (fW x).cell? ⟨w.heap.size, 2, none⟩ = some (.int .i64 c) := fun x => ((unhide K0).below (hb x)).c 2 (by simp)
    have c03 : ∀ x, (fW x).cell? ⟨w.heap.size, 3, none⟩ = some (.int .i64 d) := fun x => ((unhide K0).below (hb x)).c 3 (by simp)
    have c04 : ∀ x, (fW x).cell? ⟨w.heap.size, 4, none⟩ = some (.int .i64 dh) := fun x => ((unhide K0).below (hb x)).c 4 (by simp)
    have c05 : ∀ x, (fW x).cell? ⟨w.heap.size, 5, none⟩ = some (.int .i64 dc) := fun x => ((unhide K0).below (hb x)).c 5 (by simp)
    have c06 : ∀ x, (fW x).cell? ⟨w.heap.size, 6, none⟩ = some (.int .i64 dd) := fun x => ((unhide K0).below (hb x)).c 6 (by simp)
    clear hb hall
    obtain ⟨x0, h0⟩ := (unhide HA) W (Below.refl _ _)
    rw [h0]
    clear h0
    go_wp2_with (first | (go_at_call 97; refine (belS (unhide CN _)).mono ?_; rintro e _ ⟨rfl, y, rfl⟩) | (go_at_call 98; refine (belS (l1In_is _ _ _ _ (by first | exact q2 | exact q3 | exact q4))).mono ?_; rintro e _ ⟨rfl, y, rfl⟩) | (go_at_call 93; refine (belQ (unhide HB) (unhide HA) (specClockOk_is _ _ _ _ (by exact q6))).mono ?_; rintro e _ ⟨rfl, y, rfl⟩))
    repeat (refine wp_region_bel (fun w' h => (unhide HA) w' ((unhide HB _).trans (h.mono (unhide HB _).size))) (by kernel_rfl) (by kernel_rfl) ?_; (repeat (go_big_quiet_step (first | (go_at_call 97; exact belS (unhide CN _)) | (go_at_call 98; exact belS (l1In_is _ _ _ _ (by first | exact q2 | exact q3 | exact q4))) | (go_at_call 93; exact belQ (unhide HB) (unhide HA) (specClockOk_is _ _ _ _ (by exact q6)))))); refine wpQuiet_nil ?_; rintro _ ⟨y, rfl⟩; (first | go_wp2_with (first | (go_at_call 97; refine (belS (unhide CN _)).mono ?_; rintro e _ ⟨rfl, y, rfl⟩) | (go_at_call 98; refine (belS (l1In_is _ _ _ _ (by first | exact q2 | exact q3 | exact q4))).mono ?_; rintro e _ ⟨rfl, y, rfl⟩) | (go_at_call 93; refine (belQ (unhide HB) (unhide HA) (specClockOk_is _ _ _ _ (by exact q6))).mono ?_; rintro e _ ⟨rfl, y, rfl⟩)) | go_wp2))
    go_ret
    exact ⟨rfl, (unhide B0).trans ((unhide HB _).mono (unhide B0).size)⟩

end Go.Proofs.Ytfnnfldfnjnlfag

namespace Go.Proofs.Ytfnnfldfnjnlfag
open Go.RowKit

set_option maxHeartbeats 400000 in
theorem l1Max_eq (x y : Int) (w : World) :
    Calls Try.prog 101 #[.int .i64 x, .int .i64 y] w fun e w' => e = .returned (.int .i64 (max x y)) ∧ w' = w := by
  by_cases h : x < y
  all_goals
    by_cases h2 : y < x
    all_goals
      go_enter Try.func101, Try.ntmps101
      go_wp2
      go_ret
      exact ⟨ret_int (by omega), rfl⟩
set_option maxHeartbeats 400000 in
theorem l1Min_eq (x y : Int) (w : World) :
    Calls Try.prog 102 #[.int .i64 x, .int .i64 y] w fun e w' => e = .returned (.int .i64 (min x y)) ∧ w' = w := by
  by_cases h : x < y
  all_goals
    by_cases h2 : y < x
    all_goals
      go_enter Try.func102, Try.ntmps102
      go_wp2
      go_ret
      exact ⟨ret_int (by omega), rfl⟩

end Go.Proofs.Ytfnnfldfnjnlfag

namespace Go.Proofs.Ytfnnfldfnjnlfag
open Go.RowKit

set_option maxRecDepth 20000 in
theorem specBehind_is {b : Bool} (ah ac ad bh bc bd : Int) (w : World) (hc : bhB ah ac ad bh bc bd = b) :
    Calls Try.prog 96 #[.agg #[.int .i64 ah, .int .i64 ac, .int .i64 ad], .agg #[.int .i64 bh, .int .i64 bc, .int .i64 bd]] w fun e w' => e = .returned (.bool b) ∧ Below w.heap.size w w' := by
  subst hc
  rcases three (decide (ah ≤ bh)) (decide (ac ≤ bc)) (decide (ad ≤ bd)) with ⟨q1, hv⟩ | ⟨q1, q2, hv⟩ | ⟨q1, q2, q3, hv⟩ | ⟨q1, q2, q3, hv⟩
  all_goals
    have HE := hide (show bhB ah ac ad bh bc bd = _ from hv)
    rw [unhide HE]
    clear hv
    simp only [decide_eq_true_eq, decide_eq_false_iff_not] at *
    go_enter Try.func96, Try.ntmps96
    go_wp2_with fail
    go_ret
    exact ⟨rfl, (by repeat (first | exact Below.refl _ _ | refine Below.alloc ?_ (by simp; try omega) _ | refine taDr ?_ _))⟩

theorem specLeft_is {r : Int} (b p : Int) (w : World) (hb : 0 ≤ b ∧ b ≤ 100000) (hp : 0 ≤ p ∧ p ≤ 1000000) (hr : lfI b p = r) :
    Calls Try.prog 99 #[.int .i64 b, .int .i64 p] w fun e w' => e = .returned (.int .i64 r) ∧ w' = w := by
  by_cases q : b = 0
  · have hz : r = 0 := by rw [← hr, lfI, if_pos q]
    subst hz
    go_enter Try.func99, Try.ntmps99
    go_wp2_with fail
    go_ret
    exact ⟨rfl, rfl⟩
  · have hz : r = max 0 (b - p) := by rw [← hr, lfI, if_neg q]
    subst hz
    clear hr
    go_enter Try.func99, Try.ntmps99
    go_wp2_with (first | (go_at_call 101; refine (l1Max_eq _ _ _).mono ?_; rintro e w' ⟨rfl, hw⟩; subst w'))
    go_ret
    exact ⟨rfl, rfl⟩

end Go.Proofs.Ytfnnfldfnjnlfag

namespace Go.Proofs.Ytfnnfldfnjnlfag
open Go

/-- Whether the bound at a place is there and met. -/
def metAt (b0 b1 b2 s0 s1 s2 : Int) (k : Nat) : Bool := decide (of3 b0 b1 b2 k ≠ 0) && decide (of3 b0 b1 b2 k ≤ of3 s0 s1 s2 k)
/-- Whether some bound is met. -/
def metB (b0 b1 b2 s0 s1 s2 : Int) : Bool := metAt b0 b1 b2 s0 s1 s2 0 || metAt b0 b1 b2 s0 s1 s2 1 || metAt b0 b1 b2 s0 s1 s2 2
theorem metB_yes {b0 b1 b2 s0 s1 s2 : Int} {k : Nat} (hk : k < 3) (h : metAt b0 b1 b2 s0 s1 s2 k = true) : metB b0 b1 b2 s0 s1 s2 = true := by
  unfold metB
  rcases (show k = 0 ∨ k = 1 ∨ k = 2 from by omega) with rfl | rfl | rfl <;> simp [h]
theorem metB_no {b0 b1 b2 s0 s1 s2 : Int} (h : ∀ j, j < 3 → metAt b0 b1 b2 s0 s1 s2 j = false) : metB b0 b1 b2 s0 s1 s2 = false := by
  unfold metB
  rw [h 0 (by omega), h 1 (by omega), h 2 (by omega)]; rfl

end Go.Proofs.Ytfnnfldfnjnlfag
