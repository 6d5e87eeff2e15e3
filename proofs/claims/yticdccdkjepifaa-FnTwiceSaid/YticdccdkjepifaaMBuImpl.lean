/-
  What the program's small functions of chapter 16 answer: plain answers, at every argument; nothing that was there is written.
  A result that stands in a block, and two behind it. No condition.
-/
import Derived.Test.YticdccdkjepifaaMLowPure
import Derived.Test.YticdccdkjepifaaTaAlert
import Derived.Test.YticdccdkjepifaaMAppR

namespace Go.Proofs.Yticdccdkjepifaa
open Go.RowKit

set_option maxRecDepth 20000 in
set_option maxHeartbeats 2000000 in
theorem implReceiverOk_is {b : Bool} (l n k : Int) (w : World) (hc : rvB l n k = b) :
    Calls Try.prog 16 #[.agg #[.int .i64 l, .int .i64 n, .int .i64 k]] w fun e w' => e = .returned (.bool b) ∧ Below w.heap.size w w' := by
  subst hc
  rcases three (inB l 1 255) (inB n (-1) 255) (inB k 1 100) with ⟨q1, hv⟩ | ⟨q1, q2, hv⟩ | ⟨q1, q2, q3, hv⟩ | ⟨q1, q2, q3, hv⟩
  all_goals
    have HE := hide (show rvB l n k = _ from hv)
    rw [unhide HE]
    clear hv
    go_enter Try.func16, Try.ntmps16
    go_wp2_with ((go_at_call 41; refine (within_is _ _ _ _ (by first | exact q1 | exact q2 | exact q3)).mono ?_; rintro e w' ⟨rfl, hw⟩; subst w'))
    go_ret
    exact ⟨rfl, (by repeat (first | exact Below.refl _ _ | refine Below.alloc ?_ (by simp; try omega) _ | refine Below.setCell ?_ (by simp; try omega) _ | refine taDr ?_ _))⟩

set_option maxRecDepth 20000 in
set_option maxHeartbeats 2000000 in
theorem implWordOk_is {b : Bool} (l s : Int) (da : Option Addr) (dn dc : Nat) (w : World) (hs : dn ≤ 9223372036854775807) (hc : wdB l s dn = b) :
    Calls Try.prog 36 #[.agg #[.int .i64 l, .int .i64 s, .slice da dn dc]] w fun e w' => e = .returned (.bool b) ∧ Below w.heap.size w w' := by
  subst hc
  rcases three (inB l 1 255) (inB s 0 255) (decide (dn ≤ 32)) with ⟨q1, hv⟩ | ⟨q1, q2, hv⟩ | ⟨q1, q2, q3, hv⟩ | ⟨q1, q2, q3, hv⟩
  all_goals
    have HE := hide (show wdB l s dn = _ from hv)
    rw [unhide HE]
    clear hv
    try (have l1 : dn ≤ 32 := by simpa using q3)
    try (have l2 : ¬ dn ≤ 32 := by simpa using q3)
    try (have l3 : decide ((dn : Int) ≤ 32) = decide (dn ≤ 32) := by simp only [decide_eq_decide]; omega)
    go_enter Try.func36, Try.ntmps36
    go_wp2_with fail
    obtain ⟨W, hW⟩ : ∃ W, W = (w.alloc (Obj.cells #[.int .i64 l, .int .i64 s, .slice da dn dc] 50)) := ⟨_, rfl⟩
    rw [← hW]
    have K0 : Hid (Blk W (w.heap.size) [.int .i64 l, .int .i64 s, .slice da dn dc]) := hide (by rw [hW]; exact Blk.new _ _)
    have B0 : Hid (Below w.heap.size w W) := hide (by rw [hW]; exact (by repeat (first | exact Below.refl _ _ | refine Below.alloc ?_ (by simp; try omega) _ | refine Below.setCell ?_ (by simp; try omega) _ | refine taDr ?_ _)))
    clear hW
    obtain ⟨ι, fW, _, hb, hall⟩ := belClass W
    have HB := hide hb
    have HA := hide hall
    have c00 : ∀ x, (fW x).cell? ⟨w.heap.size, 0, none⟩ = some (.int .i64 l) := fun x => ((unhide K0).below (hb x)).c 0 (by simp)
    have c01 : ∀ x, (fW x).cell? ⟨w.heap.size, 1, none⟩ = some (.int .i64 s) := fun x => ((unhide K0).below (hb x)).c 1 (by simp)
    have c02 : ∀ x, (fW x).cell? ⟨w.heap.size, 2, none⟩ = some (.slice da dn dc) := fun x => ((unhide K0).below (hb x)).c 2 (by simp)
    clear hb hall
    obtain ⟨x0, h0⟩ := (unhide HA) W (Below.refl _ _)
    rw [h0]
    clear h0
    go_wp2_with (first | (go_at_call 41; refine (belS (within_is _ _ _ _ (by first | exact q1 | exact q2))).mono ?_; rintro e _ ⟨rfl, y, rfl⟩))
    repeat (refine wp_region_bel (fun w' h => (unhide HA) w' ((unhide HB _).trans (h.mono (unhide HB _).size))) (by kernel_rfl) (by kernel_rfl) ?_; (repeat (go_big_quiet_step (first | (go_at_call 41; exact belS (within_is _ _ _ _ (by first | exact q1 | exact q2)))))); refine wpQuiet_nil ?_; rintro _ ⟨y, rfl⟩; (first | go_wp2_with (first | (go_at_call 41; refine (belS (within_is _ _ _ _ (by first | exact q1 | exact q2))).mono ?_; rintro e _ ⟨rfl, y, rfl⟩)) | go_wp2))
    go_ret
    exact ⟨rfl, (unhide B0).trans ((unhide HB _).mono (unhide B0).size)⟩

set_option maxRecDepth 20000 in
set_option maxHeartbeats 2000000 in
theorem missedAhead_is {r : Int} (l n k s : Int) (w : World) (hn : -1 ≤ n ∧ n ≤ 255) (hs : 0 ≤ s ∧ s ≤ 255) (hc : acD n s = r) :
    Calls Try.prog 42 #[.agg #[.int .i64 l, .int .i64 n, .int .i64 k], .int .i64 s] w fun e w' => e = .returned (.int .i64 r) ∧ Below w.heap.size w w' := by
  subst hc
  by_cases e : n = -1
  · subst e
    have HE : Hid (acD (-1) s = 0) := hide (by unfold acD; rw [if_neg (by omega)])
    rw [unhide HE]
    go_enter Try.func42, Try.ntmps42
    go_wp2
    go_ret
    exact ⟨rfl, (by repeat (first | exact Below.refl _ _ | refine Below.alloc ?_ (by simp; try omega) _ | refine Below.setCell ?_ (by simp; try omega) _ | refine taDr ?_ _))⟩
  · have e0 : 0 ≤ n := by omega
    have HE : Hid (acD n s = (s - n + 256) % 256) := hide (by unfold acD; rw [if_pos e0])
    rw [unhide HE]
    have e1 : (n == -1) = false := by simpa using e
    go_enter Try.func42, Try.ntmps42
    go_wp2
    go_ret
    exact ⟨ret_int (by omega), (by repeat (first | exact Below.refl _ _ | refine Below.alloc ?_ (by simp; try omega) _ | refine Below.setCell ?_ (by simp; try omega) _ | refine taDr ?_ _))⟩


end Go.Proofs.Yticdccdkjepifaa

namespace Go.Proofs.Yticdccdkjepifaa
open Go.RowKit

theorem results_cellBB {fn : Func} {p q r : Tmp} {t : TypeId} {tmps : Array Value} {w : World} {B : Nat} {vs : List Value} {x y : Value} (h : fn.results = #[.cell p t, .tmp q, .tmp r]) (hA : ∀ w, (isAgg t).run Try.prog w = .ok true w) (hZ : ∀ w, (Go.sizeOf t).run Try.prog w = .ok vs.length w)
    (hp : tmps.getD p undef = .pointer (some ⟨B, 0, none⟩)) (hb : Blk w B vs) (hq : tmps.getD q undef = x) (hr : tmps.getD r undef = y) : (results fn tmps).run Try.prog w = .ok (.tuple #[.agg vs.toArray, x, y]) w := by
  have hl := run_loadVar hA hZ hb
  have hp' : tmps[p]?.getD undef = .pointer (some ⟨B, 0, none⟩) := by simpa using hp
  have hq' : tmps[q]?.getD undef = x := by simpa using hq
  have hr' : tmps[r]?.getD undef = y := by simpa using hr
  simp only [results, h]
  simp [hp', hq', hr', asAddr, hl]

end Go.Proofs.Yticdccdkjepifaa
