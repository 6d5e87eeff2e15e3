/-
  What the model answers in chapter 15: plain answers, at every argument; nothing that was there is written.
-/
import Derived.Test.YtbaocifpifbldawTaImpl
import Derived.Test.YtbaocifpifbldawTaBel
namespace Go.Proofs.Ytbaocifpifbldaw
open Go.RowKit

set_option maxRecDepth 20000 in
set_option maxHeartbeats 2000000 in
theorem specOwnOk_is {b : Bool} (i h c s : Int) (w : World) (hc : avB i h c s = b) :
    Calls Try.prog 31 #[.agg #[.int .i64 i, .int .i64 h, .int .i64 c, .int .i64 s]] w fun e w' => e = .returned (.bool b) ∧ Below w.heap.size w w' := by
  subst hc
  rcases four (inB i 1 1000000) (inB h 0 60000) (inB c (-200) 200) (inB s 0 2) with ⟨q1, hv⟩ | ⟨q1, q2, hv⟩ | ⟨q1, q2, q3, hv⟩ | ⟨q1, q2, q3, q4, hv⟩ | ⟨q1, q2, q3, q4, hv⟩
  all_goals
    have HE := hide (show avB i h c s = _ from hv)
    rw [unhide HE]
    clear hv
    go_enter Try.func31, Try.ntmps31
    go_wp2_with ((go_at_call 48; refine (l1In_is _ _ _ _ (by first | exact q1 | exact q2 | exact q3 | exact q4)).mono ?_; rintro e w' ⟨rfl, hw⟩; subst w'))
    go_ret
    exact ⟨rfl, (by repeat (first | exact Below.refl _ _ | refine Below.alloc ?_ (by simp; try omega) _ | refine Below.setCell ?_ (by simp; try omega) _ | refine taDr ?_ _))⟩

set_option maxRecDepth 20000 in
set_option maxHeartbeats 2000000 in
theorem specTrackOk_is {b : Bool} (i h c f k s : Int) (w : World) (hc : tcB i h c f k s = b) :
    Calls Try.prog 28 #[.agg #[.int .i64 i, .int .i64 h, .int .i64 c, .int .i64 f, .int .i64 k, .int .i64 s]] w fun e w' => e = .returned (.bool b) ∧ Below w.heap.size w w' := by
  subst hc
  rcases three (avB i h c s) (inB f 0 1000000) (inB k (-1000) 1000) with ⟨q1, hv⟩ | ⟨q1, q2, hv⟩ | ⟨q1, q2, q3, hv⟩ | ⟨q1, q2, q3, hv⟩
  all_goals
    have HE := hide (show tcB i h c f k s = _ from hv)
    rw [unhide HE]
    clear hv
    go_enter Try.func28, Try.ntmps28
    go_wp2_with fail
    obtain ⟨W, hW⟩ : ∃ W, W = (w.alloc (Obj.cells #[.int .i64 i, .int .i64 h, .int .i64 c, .int .i64 f, .int .i64 k, .int .i64 s] 51)) := ⟨_, rfl⟩
    rw [← hW]
    have K0 : Hid (Blk W (w.heap.size) [.int .i64 i, .int .i64 h, .int .i64 c, .int .i64 f, .int .i64 k, .int .i64 s]) := hide (by rw [hW]; exact Blk.new _ _)
    have B0 : Hid (Below w.heap.size w W) := hide (by rw [hW]; exact (by repeat (first | exact Below.refl _ _ | refine Below.alloc ?_ (by simp; try omega) _ | refine Below.setCell ?_ (by simp; try omega) _ | refine taDr ?_ _)))
    clear hW
    obtain ⟨ι, fW, _, hb, hall⟩ := belClass W
    have HB := hide hb
    have HA := hide hall
    have c00 : ∀ x, (fW x).cell? ⟨w.heap.size, 0, none⟩ = some (.int .i64 i) := fun x => ((unhide K0).below (hb x)).c 0 (by simp)
    have c01 : ∀ x, (fW x).cell? ⟨w.heap.size, 1, none⟩ = some (.int .i64 h) := fun x => ((unhide K0).below (hb x)).c 1 (by simp)
    have c02 : ∀ x, (fW x).cell? ⟨w.heap.size, 2, none⟩ = some (.int .i64 c) := fun x => ((unhide K0).below (hb x)).c 2 (by simp)
    have c03 : ∀ x, (fW x).cell? ⟨w.heap.size, 3, none⟩ = some (.int .i64 f) := fun x => ((unhide K0).below (hb x)).c 3 (by simp)
    have c04 : ∀ x, (fW x).cell? ⟨w.heap.size, 4, none⟩ = some (.int .i64 k) := fun x => ((unhide K0).below (hb x)).c 4 (by simp)
    have c05 : ∀ x, (fW x).cell? ⟨w.heap.size, 5, none⟩ = some (.int .i64 s) := fun x => ((unhide K0).below (hb x)).c 5 (by simp)
    clear hb hall
    obtain ⟨x0, h0⟩ := (unhide HA) W (Below.refl _ _)
    rw [h0]
    clear h0
    go_wp2_with (first | (go_at_call 31; refine (belG (unhide HA) (by repeat (first | exact unhide HB _ | refine belAl ?_ _)) (specOwnOk_is _ _ _ _ _ (by exact q1))).mono ?_; rintro e _ ⟨rfl, y, rfl⟩) | (go_at_call 48; refine (belS (l1In_is _ _ _ _ (by first | exact q2 | exact q3))).mono ?_; rintro e _ ⟨rfl, y, rfl⟩))
    repeat (refine wp_region_bel (fun w' h => (unhide HA) w' ((unhide HB _).trans (h.mono (unhide HB _).size))) (by kernel_rfl) (by kernel_rfl) ?_; (repeat (go_big_quiet_step (first | (go_at_call 31; exact belG (unhide HA) (by repeat (first | exact unhide HB _ | refine belAl ?_ _)) (specOwnOk_is _ _ _ _ _ (by exact q1))) | (go_at_call 48; exact belS (l1In_is _ _ _ _ (by first | exact q2 | exact q3)))))); refine wpQuiet_nil ?_; rintro _ ⟨y, rfl⟩; (first | go_wp2_with (first | (go_at_call 31; refine (belG (unhide HA) (by repeat (first | exact unhide HB _ | refine belAl ?_ _)) (specOwnOk_is _ _ _ _ _ (by exact q1))).mono ?_; rintro e _ ⟨rfl, y, rfl⟩) | (go_at_call 48; refine (belS (l1In_is _ _ _ _ (by first | exact q2 | exact q3))).mono ?_; rintro e _ ⟨rfl, y, rfl⟩)) | go_wp2))
    go_ret
    exact ⟨rfl, (unhide B0).trans ((unhide HB _).mono (unhide B0).size)⟩



end Go.Proofs.Ytbaocifpifbldaw
