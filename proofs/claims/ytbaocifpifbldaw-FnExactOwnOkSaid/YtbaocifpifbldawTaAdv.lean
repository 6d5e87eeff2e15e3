/-
  What the program advises, and what its functions of chapter 15 tell: plain answers, at every argument; nothing that was there is written.
-/
import Derived.Test.YtbaocifpifbldawTaThr
namespace Go.Proofs.Ytbaocifpifbldaw
open Go.RowKit

theorem adR_no {oi oh oc os ti th tc tf tk ts near wi : Int} (h : thB oi oh oc os ti th tc tf tk ts near wi = false) : adR oi oh oc os ti th tc tf tk ts near wi = 0 := by simp [adR, h]
theorem adR_own {oi oh oc os ti th tc tf tk ts near wi : Int} (h : thB oi oh oc os ti th tc tf tk ts near wi = true) (h2 : ¬ os = 0) : adR oi oh oc os ti th tc tf tk ts near wi = os := by simp [adR, h, h2]
theorem adR_oth {oi oh oc os ti th tc tf tk ts near wi : Int} (h : thB oi oh oc os ti th tc tf tk ts near wi = true) (h2 : os = 0) (h3 : ¬ ts = 0) : adR oi oh oc os ti th tc tf tk ts near wi = 3 - ts := by rw [adR, h, if_pos rfl, if_neg (not_not_intro h2), if_pos h3]
theorem adR_free {oi oh oc os ti th tc tf tk ts near wi : Int} (h : thB oi oh oc os ti th tc tf tk ts near wi = true) (h2 : os = 0) (h3 : ts = 0) : adR oi oh oc os ti th tc tf tk ts near wi = frS oi oh oc ti th tc (tiN ti th tc tf tk ts) := by rw [adR, h, if_pos rfl, if_neg (not_not_intro h2), if_neg (not_not_intro h3)]



set_option maxRecDepth 20000 in
set_option maxHeartbeats 2000000 in
theorem implTrackOk_is {b : Bool} (i h c f k s : Int) (w : World) (hc : tcB i h c f k s = b) :
    Calls Try.prog 30 #[.agg #[.int .i64 i, .int .i64 h, .int .i64 c, .int .i64 f, .int .i64 k, .int .i64 s]] w fun e w' => e = .returned (.bool b) ∧ Below w.heap.size w w' := by
  have HC := hide hc
  clear hc
  go_enter Try.func30, Try.ntmps30
  go_wp2_with fail
  obtain ⟨W, hW⟩ : ∃ W, W = (w.alloc (Obj.cells #[.int .i64 i, .int .i64 h, .int .i64 c, .int .i64 f, .int .i64 k, .int .i64 s] 51)) := ⟨_, rfl⟩
  rw [← hW]
  have K0 : Hid (Blk W (w.heap.size) [.int .i64 i, .int .i64 h, .int .i64 c, .int .i64 f, .int .i64 k, .int .i64 s]) := hide (by rw [hW]; exact Blk.new _ _)
  have B0 : Hid (Below w.heap.size w W) := hide (by rw [hW]; exact (by repeat (first | exact Below.refl _ _ | refine Below.alloc ?_ (by simp; try omega) _ | refine Below.setCell ?_ (by simp; try omega) _ | refine taDr ?_ _)))
  clear hW
  obtain ⟨ι, fW, _, hb, hall⟩ := belClass W
  have HB := hide hb
  have HA := hide hall
  have c00 : ∀ x, (fW x).cell? ⟨w.heap.size, 0, none⟩ = some (.int .i64 i) := fun x => ((unhide K0).below (hb x)).c 0 (by simp)
  have c01 : ∀ x, (fW x).cell? ⟨w.heap.size, 1, none⟩ = some (.int .i64 h) := fun x => ((unhide K0).below (hb x)).c 1 (by simp)
  have c02 : ∀ x, (fW x).cell? ⟨w.heap.size, 2, none⟩ = some (.int .i64 c) := fun x => ((unhide K0).below (hb x)).c 2 (by simp)
  have c03 : ∀ x, (fW x).cell? ⟨w.heap.size, 3, none⟩ = some (.int .i64 f) := fun x => ((unhide K0).below (hb x)).c 3 (by simp)
  have c04 : ∀ x, (fW x).cell? ⟨w.heap.size, 4, none⟩ = some (.int .i64 k) := fun x => ((unhide K0).below (hb x)).c 4 (by simp)
  have c05 : ∀ x, (fW x).cell? ⟨w.heap.size, 5, none⟩ = some (.int .i64 s) := fun x => ((unhide K0).below (hb x)).c 5 (by simp)
  clear hb hall
  obtain ⟨x0, h0⟩ := (unhide HA) W (Below.refl _ _)
  rw [h0]
  clear h0
  go_wp2_with (first | (go_at_call 55; refine (belQ (unhide HB) (unhide HA) (seenOf_al _ _ _ _ _ _ _)).mono ?_; rintro e _ ⟨rfl, y, rfl⟩) | (go_at_call 56; refine (belA2 (unhide HB) (unhide HA) (seenOk_al _ _ _ _ _ _ _ (unhide HC))).mono ?_; rintro e _ ⟨rfl, y, rfl⟩))
  repeat (refine wp_region_bel (fun w' h => (unhide HA) w' ((unhide HB _).trans (h.mono (unhide HB _).size))) (by kernel_rfl) (by kernel_rfl) ?_; (repeat (go_big_quiet_step (first | (go_at_call 55; exact belQ (unhide HB) (unhide HA) (seenOf_al _ _ _ _ _ _ _)) | (go_at_call 56; exact belA2 (unhide HB) (unhide HA) (seenOk_al _ _ _ _ _ _ _ (unhide HC)))))); refine wpQuiet_nil ?_; rintro _ ⟨y, rfl⟩; (first | go_wp2_with (first | (go_at_call 55; refine (belQ (unhide HB) (unhide HA) (seenOf_al _ _ _ _ _ _ _)).mono ?_; rintro e _ ⟨rfl, y, rfl⟩) | (go_at_call 56; refine (belA2 (unhide HB) (unhide HA) (seenOk_al _ _ _ _ _ _ _ (unhide HC))).mono ?_; rintro e _ ⟨rfl, y, rfl⟩)) | go_wp2))
  go_ret
  exact ⟨rfl, (unhide B0).trans ((unhide HB _).mono (unhide B0).size)⟩

theorem fieldW (i h c s near wi : Int) (W : World) : (Instr.field 97 (.agg #[.int .i64 i, .int .i64 h, .int .i64 c, .int .i64 s, .int .i64 near, .int .i64 wi]) 0).run Try.prog W = .ok (.agg #[.int .i64 i, .int .i64 h, .int .i64 c, .int .i64 s]) W := by kernel_rfl

set_option maxRecDepth 20000 in
set_option maxHeartbeats 2000000 in
theorem implOwnOk_is {b : Bool} (i h c s : Int) (w : World) (hc : avB i h c s = b) :
    Calls Try.prog 33 #[.agg #[.int .i64 i, .int .i64 h, .int .i64 c, .int .i64 s]] w fun e w' => e = .returned (.bool b) ∧ Below w.heap.size w w' := by
  have HC := hide hc
  clear hc
  have hF := fieldW i h c s 0 0
  go_enter Try.func33, Try.ntmps33
  go_wp2_with fail
  obtain ⟨W, hW⟩ : ∃ W, W = (w.alloc (Obj.cells #[.int .i64 i, .int .i64 h, .int .i64 c, .int .i64 s] 57)) := ⟨_, rfl⟩
  rw [← hW]
  have K0 : Hid (Blk W (w.heap.size) [.int .i64 i, .int .i64 h, .int .i64 c, .int .i64 s]) := hide (by rw [hW]; exact Blk.new _ _)
  have B0 : Hid (Below w.heap.size w W) := hide (by rw [hW]; exact (by repeat (first | exact Below.refl _ _ | refine Below.alloc ?_ (by simp; try omega) _ | refine Below.setCell ?_ (by simp; try omega) _ | refine taDr ?_ _)))
  clear hW
  obtain ⟨ι, fW, _, hb, hall⟩ := belClass W
  have HB := hide hb
  have HA := hide hall
  have c00 : ∀ x, (fW x).cell? ⟨w.heap.size, 0, none⟩ = some (.int .i64 i) := fun x => ((unhide K0).below (hb x)).c 0 (by simp)
  have c01 : ∀ x, (fW x).cell? ⟨w.heap.size, 1, none⟩ = some (.int .i64 h) := fun x => ((unhide K0).below (hb x)).c 1 (by simp)
  have c02 : ∀ x, (fW x).cell? ⟨w.heap.size, 2, none⟩ = some (.int .i64 c) := fun x => ((unhide K0).below (hb x)).c 2 (by simp)
  have c03 : ∀ x, (fW x).cell? ⟨w.heap.size, 3, none⟩ = some (.int .i64 s) := fun x => ((unhide K0).below (hb x)).c 3 (by simp)
  clear hb hall
  obtain ⟨x0, h0⟩ := (unhide HA) W (Below.refl _ _)
  rw [h0]
  clear h0
  go_wp2_with (first | (go_at_call 57; refine (belQ (unhide HB) (unhide HA) (watcherOf_al _ _ _ _ _ _ _)).mono ?_; rintro e _ ⟨rfl, y, rfl⟩) | (go_at_call 58; refine (belA1 (unhide HB) (unhide HA) (flierOk_al _ _ _ _ _ (unhide HC))).mono ?_; rintro e _ ⟨rfl, y, rfl⟩))
  repeat (refine wp_region_bel (fun w' h => (unhide HA) w' ((unhide HB _).trans (h.mono (unhide HB _).size))) (by kernel_rfl) (by kernel_rfl) ?_; (repeat (go_big_quiet_step (first | (go_at_call 57; exact belQ (unhide HB) (unhide HA) (watcherOf_al _ _ _ _ _ _ _)) | (go_at_call 58; exact belA1 (unhide HB) (unhide HA) (flierOk_al _ _ _ _ _ (unhide HC)))))); refine wpQuiet_nil ?_; rintro _ ⟨y, rfl⟩; (first | go_wp2_with (first | (go_at_call 57; refine (belQ (unhide HB) (unhide HA) (watcherOf_al _ _ _ _ _ _ _)).mono ?_; rintro e _ ⟨rfl, y, rfl⟩) | (go_at_call 58; refine (belA1 (unhide HB) (unhide HA) (flierOk_al _ _ _ _ _ (unhide HC))).mono ?_; rintro e _ ⟨rfl, y, rfl⟩)) | go_wp2))
  go_ret
  exact ⟨rfl, (unhide B0).trans ((unhide HB _).mono (unhide B0).size)⟩




end Go.Proofs.Ytbaocifpifbldaw
