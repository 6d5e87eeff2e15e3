/-
  What the model answers in chapter 15: plain answers, at every argument; nothing that was there is written.
-/
import Derived.Test.YtbaocifpifbldaxTaImpl
import Derived.Test.YtbaocifpifbldaxTaBel
namespace Go.Proofs.Ytbaocifpifbldax
open Go.RowKit

set_option maxRecDepth 20000 in
set_option maxHeartbeats 2000000 in
theorem specOwnOk_is {b : Bool} (i h c s : Int) (w : World) (hc : avB i h c s = b) :
    Calls Try.prog 31 #[.agg #[.int .i64 i, .int .i64 h, .int .i64 c, .int .i64 s]] w fun e w' => e = .returned (.bool b) ∧ Below w.heap.size w w' := by
  subst hc
  rcases four (inB i 1 1000000) (inB h 0 60000) (inB c (-200) 200) (inB s 0 2) with ⟨q1, hv⟩ | ⟨q1, q2, hv⟩ | ⟨q1, q2, q3, hv⟩ | ⟨q1, q2, q3, q4, hv⟩ | ⟨q1, q2, q3, q4, hv⟩
  all_goals
    have HE := hide (show avB i h c s = _ from hv)
    rw [unhide HE]
    clear hv
    go_enter Try.func31, Try.ntmps31
    go_wp2_with ((go_at_call 32; refine (l1In_is _ _ _ _ (by first | exact q1 | exact q2 | exact q3 | exact q4)).mono ?_; rintro e w' ⟨rfl, hw⟩; subst w'))
    go_ret
    exact ⟨rfl, (by repeat (first | exact Below.refl _ _ | refine Below.alloc ?_ (by simp; try omega) _ | refine Below.setCell ?_ (by simp; try omega) _ | refine taDr ?_ _))⟩

set_option maxRecDepth 20000 in
set_option maxHeartbeats 2000000 in
theorem specTrackOk_is {b : Bool} (i h c f k s : Int) (w : World) (hc : tcB i h c f k s = b) :
    Calls Try.prog 28 #[.agg #[.int .i64 i, .int .i64 h, .int .i64 c, .int .i64 f, .int .i64 k, .int .i64 s]] w fun e w' => e = .returned (.bool b) ∧ Below w.heap.size w w' := by
  subst hc
  rcases three (avB i h c s) (inB f 0 1000000) (inB k (-1000) 1000) with ⟨q1, hv⟩ | ⟨q1, q2, hv⟩ | ⟨q1, q2, q3, hv⟩ | ⟨q1, q2, q3, hv⟩
  all_goals
    have HE := hide (show tcB i h c f k s = _ from hv)
    rw [unhide HE]
    clear hv
    go_enter Try.func28, Try.ntmps28
    go_wp2_with fail
    obtain ⟨W, hW⟩ : ∃ W, W = (w.alloc (Obj.cells #[.int .i64 i, .int .i64 h, .int .i64 c, .int .i64 f, .int .i64 k, .int .i64 s] 26)) := ⟨_, rfl⟩
    rw [← hW]
    have K0 : Hid (Blk W (w.heap.size) [.int .i64 i, .int .i64 h, .int .i64 c, .int .i64 f, .int .i64 k, .int .i64 s]) := hide (by rw [hW]; exact Blk.new _ _)
    have B0 : Hid (Below w.heap.size w W) := hide (by rw [hW]; exact (by repeat (first | exact Below.refl _ _ | refine Below.alloc ?_ (by simp; try omega) _ | refine Below.setCell ?_ (by simp; try omega) _ | refine taDr ?_ _)))
    clear hW
    obtain ⟨ι, fW, _, hb, hall⟩ := belClass W
    have HB := hide hb
    have HA := hide hall
    have c00 : ∀ x, (fW x).cell? ⟨w.heap.size, 0, none⟩ = some (.int .i64 i) := fun x => ((unhide K0).below (hb x)).c 0 (by simp)
    have c01 : ∀ x, (fW x).cell? ⟨w.heap.size, 1, none⟩ = some (.int .i64 h) := fun x => ((unhide K0).below (hb x)).c 1 (by simp)
    have c02 : ∀ x, (fW x).cell? ⟨w.heap.size, 2, none⟩ = some (.int .i64 c) := fun x => ((unhide K0).below (hb x)).c 2 (by simp)
    have c03 : ∀ x, (fW x).cell? ⟨w.heap.size, 3, none⟩ = some (.int .i64 f) := fun x => ((unhide K0).below (hb x)).c 3 (by simp)
    have c04 : ∀ x, (fW x).cell? ⟨w.heap.size, 4, none⟩ = some (.int .i64 k) := fun x => ((unhide K0).below (hb x)).c 4 (by simp)
    have c05 : ∀ x, (fW x).cell? ⟨w.heap.size, 5, none⟩ = some (.int .i64 s) := fun x => ((unhide K0).below (hb x)).c 5 (by simp)
    clear hb hall
    obtain ⟨x0, h0⟩ := (unhide HA) W (Below.refl _ _)
    rw [h0]
    clear h0
    go_wp2_with (first | (go_at_call 31; refine (belG (unhide HA) (by repeat (first | exact unhide HB _ | refine belAl ?_ _)) (specOwnOk_is _ _ _ _ _ (by exact q1))).mono ?_; rintro e _ ⟨rfl, y, rfl⟩) | (go_at_call 32; refine (belS (l1In_is _ _ _ _ (by first | exact q2 | exact q3))).mono ?_; rintro e _ ⟨rfl, y, rfl⟩))
    repeat (refine wp_region_bel (fun w' h => (unhide HA) w' ((unhide HB _).trans (h.mono (unhide HB _).size))) (by kernel_rfl) (by kernel_rfl) ?_; (repeat (go_big_quiet_step (first | (go_at_call 31; exact belG (unhide HA) (by repeat (first | exact unhide HB _ | refine belAl ?_ _)) (specOwnOk_is _ _ _ _ _ (by exact q1))) | (go_at_call 32; exact belS (l1In_is _ _ _ _ (by first | exact q2 | exact q3)))))); refine wpQuiet_nil ?_; rintro _ ⟨y, rfl⟩; (first | go_wp2_with (first | (go_at_call 31; refine (belG (unhide HA) (by repeat (first | exact unhide HB _ | refine belAl ?_ _)) (specOwnOk_is _ _ _ _ _ (by exact q1))).mono ?_; rintro e _ ⟨rfl, y, rfl⟩) | (go_at_call 32; refine (belS (l1In_is _ _ _ _ (by first | exact q2 | exact q3))).mono ?_; rintro e _ ⟨rfl, y, rfl⟩)) | go_wp2))
    go_ret
    exact ⟨rfl, (unhide B0).trans ((unhide HB _).mono (unhide B0).size)⟩

set_option maxRecDepth 20000 in
set_option maxHeartbeats 2000000 in
theorem specTicksTo_is {n : Int} {b : Bool} (i h c f k s : Int) (w : World) (hn : tiN i h c f k s = n) (hb : tiB i h c f k s = b) :
    Calls Try.prog 9 #[.agg #[.int .i64 i, .int .i64 h, .int .i64 c, .int .i64 f, .int .i64 k, .int .i64 s]] w fun e w' => e = .returned (.tuple #[.int .i64 n, .bool b]) ∧ Below w.heap.size w w' := by
  subst hn hb
  rcases two (tcB i h c f k s) (decide (0 < k)) with ⟨q1, hv⟩ | ⟨q1, q2, hv⟩ | ⟨q1, q2, hv⟩
  iterate 2
    · have HE := hide (show tiB i h c f k s = _ from hv)
      rw [tiN_no (unhide HE), unhide HE]
      clear hv
      try (have q3 : decide (k ≤ 0) = true := by simpa using q2)
      try simp only [decide_eq_false_iff_not] at q2
      go_enter Try.func9, Try.ntmps9
      go_wp2_with fail
      obtain ⟨W, hW⟩ : ∃ W, W = (w.alloc (Obj.cells #[.int .i64 i, .int .i64 h, .int .i64 c, .int .i64 f, .int .i64 k, .int .i64 s] 26)) := ⟨_, rfl⟩
      rw [← hW]
      have K0 : Hid (Blk W (w.heap.size) [.int .i64 i, .int .i64 h, .int .i64 c, .int .i64 f, .int .i64 k, .int .i64 s]) := hide (by rw [hW]; exact Blk.new _ _)
      have B0 : Hid (Below w.heap.size w W) := hide (by rw [hW]; exact (by repeat (first | exact Below.refl _ _ | refine Below.alloc ?_ (by simp; try omega) _ | refine Below.setCell ?_ (by simp; try omega) _ | refine taDr ?_ _)))
      clear hW
      obtain ⟨ι, fW, _, hb, hall⟩ := belClass W
      have HB := hide hb
      have HA := hide hall
      have c00 : ∀ x, (fW x).cell? ⟨w.heap.size, 0, none⟩ = some (.int .i64 i) := fun x => ((unhide K0).below (hb x)).c 0 (by simp)
      have c01 : ∀ x, (fW x).cell? ⟨w.heap.size, 1, none⟩ = some (.int .i64 h) := fun x => ((unhide K0).below (hb x)).c 1 (by simp)
      have c02 : ∀ x, (fW x).cell? ⟨w.heap.size, 2, none⟩ = some (.int .i64 c) := fun x => ((unhide K0).below (hb x)).c 2 (by simp)
      have c03 : ∀ x, (fW x).cell? ⟨w.heap.size, 3, none⟩ = some (.int .i64 f) := fun x => ((unhide K0).below (hb x)).c 3 (by simp)
      have c04 : ∀ x, (fW x).cell? ⟨w.heap.size, 4, none⟩ = some (.int .i64 k) := fun x => ((unhide K0).below (hb x)).c 4 (by simp)
      have c05 : ∀ x, (fW x).cell? ⟨w.heap.size, 5, none⟩ = some (.int .i64 s) := fun x => ((unhide K0).below (hb x)).c 5 (by simp)
      clear hb hall
      obtain ⟨x0, h0⟩ := (unhide HA) W (Below.refl _ _)
      rw [h0]
      clear h0
      go_wp2_with (first | (go_at_call 28; refine (belQ (unhide HB) (unhide HA) (specTrackOk_is _ _ _ _ _ _ _ (by exact q1))).mono ?_; rintro e _ ⟨rfl, y, rfl⟩))
      repeat (refine wp_region_bel (fun w' h => (unhide HA) w' ((unhide HB _).trans (h.mono (unhide HB _).size))) (by kernel_rfl) (by kernel_rfl) ?_; (repeat (go_big_quiet_step (first | (go_at_call 28; exact belQ (unhide HB) (unhide HA) (specTrackOk_is _ _ _ _ _ _ _ (by exact q1)))))); refine wpQuiet_nil ?_; rintro _ ⟨y, rfl⟩; (first | go_wp2_with (first | (go_at_call 28; refine (belQ (unhide HB) (unhide HA) (specTrackOk_is _ _ _ _ _ _ _ (by exact q1))).mono ?_; rintro e _ ⟨rfl, y, rfl⟩)) | go_wp2))
      go_ret2
      exact ⟨rfl, (unhide B0).trans ((unhide HB _).mono (unhide B0).size)⟩
  have HE := hide (show tiB i h c f k s = _ from hv)
  rw [tiN_yes (unhide HE), unhide HE]
  clear hv
  have t1 := tcB_facts q1
  have t2 := t1.2.1
  have t3 := t1.2.2
  have q3 : decide (k ≤ 0) = false := by simp only [decide_eq_true_eq] at q2; simp only [decide_eq_false_iff_not]; omega
  simp only [decide_eq_true_eq] at q2
  have t4 := tiQ t2.1 t2.2 q2 t3.2
  clear t1
  go_enter Try.func9, Try.ntmps9
  go_wp2_with fail
  obtain ⟨W, hW⟩ : ∃ W, W = (w.alloc (Obj.cells #[.int .i64 i, .int .i64 h, .int .i64 c, .int .i64 f, .int .i64 k, .int .i64 s] 26)) := ⟨_, rfl⟩
  rw [← hW]
  have K0 : Hid (Blk W (w.heap.size) [.int .i64 i, .int .i64 h, .int .i64 c, .int .i64 f, .int .i64 k, .int .i64 s]) := hide (by rw [hW]; exact Blk.new _ _)
  have B0 : Hid (Below w.heap.size w W) := hide (by rw [hW]; exact (by repeat (first | exact Below.refl _ _ | refine Below.alloc ?_ (by simp; try omega) _ | refine Below.setCell ?_ (by simp; try omega) _ | refine taDr ?_ _)))
  clear hW
  obtain ⟨ι, fW, _, hb, hall⟩ := belClass W
  have HB := hide hb
  have HA := hide hall
  have c00 : ∀ x, (fW x).cell? ⟨w.heap.size, 0, none⟩ = some (.int .i64 i) := fun x => ((unhide K0).below (hb x)).c 0 (by simp)
  have c01 : ∀ x, (fW x).cell? ⟨w.heap.size, 1, none⟩ = some (.int .i64 h) := fun x => ((unhide K0).below (hb x)).c 1 (by simp)
  have c02 : ∀ x, (fW x).cell? ⟨w.heap.size, 2, none⟩ = some (.int .i64 c) := fun x => ((unhide K0).below (hb x)).c 2 (by simp)
  have c03 : ∀ x, (fW x).cell? ⟨w.heap.size, 3, none⟩ = some (.int .i64 f) := fun x => ((unhide K0).below (hb x)).c 3 (by simp)
  have c04 : ∀ x, (fW x).cell? ⟨w.heap.size, 4, none⟩ = some (.int .i64 k) := fun x => ((unhide K0).below (hb x)).c 4 (by simp)
  have c05 : ∀ x, (fW x).cell? ⟨w.heap.size, 5, none⟩ = some (.int .i64 s) := fun x => ((unhide K0).below (hb x)).c 5 (by simp)
  clear hb hall
  obtain ⟨x0, h0⟩ := (unhide HA) W (Below.refl _ _)
  rw [h0]
  clear h0
  go_wp2_with (first | (go_at_call 28; refine (belQ (unhide HB) (unhide HA) (specTrackOk_is _ _ _ _ _ _ _ (by exact q1))).mono ?_; rintro e _ ⟨rfl, y, rfl⟩))
  repeat (refine wp_region_bel (fun w' h => (unhide HA) w' ((unhide HB _).trans (h.mono (unhide HB _).size))) (by kernel_rfl) (by kernel_rfl) ?_; (repeat (go_big_quiet_step (first | (go_at_call 28; exact belQ (unhide HB) (unhide HA) (specTrackOk_is _ _ _ _ _ _ _ (by exact q1)))))); refine wpQuiet_nil ?_; rintro _ ⟨y, rfl⟩; (first | go_wp2_with (first | (go_at_call 28; refine (belQ (unhide HB) (unhide HA) (specTrackOk_is _ _ _ _ _ _ _ (by exact q1))).mono ?_; rintro e _ ⟨rfl, y, rfl⟩)) | go_wp2))
  go_ret2
  exact ⟨rfl, (unhide B0).trans ((unhide HB _).mono (unhide B0).size)⟩

set_option maxRecDepth 20000 in
set_option maxHeartbeats 4000000 in
theorem specThreat_is {b : Bool} (oi oh oc os ti th tc tf tk ts near wi : Int) (w : World) (hc : thB oi oh oc os ti th tc tf tk ts near wi = b) :
    Calls Try.prog 12 #[.agg #[.int .i64 oi, .int .i64 oh, .int .i64 oc, .int .i64 os], .agg #[.int .i64 ti, .int .i64 th, .int .i64 tc, .int .i64 tf, .int .i64 tk, .int .i64 ts], .int .i64 near, .int .i64 wi] w fun e w' => e = .returned (.bool b) ∧ Below w.heap.size w w' := by
  obtain ⟨n, hn⟩ : ∃ n, tiN ti th tc tf tk ts = n := ⟨_, rfl⟩
  obtain ⟨tb, hb⟩ : ∃ b, tiB ti th tc tf tk ts = b := ⟨_, rfl⟩
  have nb := tiN_bd ti th tc tf tk ts
  rw [hn] at nb
  rw [thB, hn, hb] at hc
  have HV := hide hc.symm
  have HN := hide hn
  have HT := hide hb
  clear hn hb hc
  rcases six tb (avB oi oh oc os) (!(oi == ti)) (inB near 0 10000) (inB wi 1 300) (decide (n ≤ wi)) with ⟨q1, hv⟩ | ⟨q1, q2, hv⟩ | ⟨q1, q2, q3, hv⟩ | ⟨q1, q2, q3, q4, hv⟩ | ⟨q1, q2, q3, q4, q5, hv⟩ | ⟨q1, q2, q3, q4, q5, q6, hv⟩ | ⟨q1, q2, q3, q4, q5, q6, hv⟩
  · have HE := hide ((unhide HV).trans (by rw [hv, Bool.false_and]))
    clear hv HV
    subst q1
    go_enter Try.func12, Try.ntmps12
    go_wp2_with fail
    obtain ⟨W, hW⟩ : ∃ W, W = ((w.alloc (Obj.cells #[.int .i64 oi, .int .i64 oh, .int .i64 oc, .int .i64 os] 32)).alloc (Obj.cells #[.int .i64 ti, .int .i64 th, .int .i64 tc, .int .i64 tf, .int .i64 tk, .int .i64 ts] 26)) := ⟨_, rfl⟩
    rw [← hW]
    have K0 : Hid (Blk W (w.heap.size) [.int .i64 oi, .int .i64 oh, .int .i64 oc, .int .i64 os]) := hide (by rw [hW]; exact blkAt2_0)
    have K1 : Hid (Blk W (w.heap.size + 1) [.int .i64 ti, .int .i64 th, .int .i64 tc, .int .i64 tf, .int .i64 tk, .int .i64 ts]) := hide (by rw [hW]; exact blkAt2_1)
    have B0 : Hid (Below w.heap.size w W) := hide (by rw [hW]; exact (by repeat (first | exact Below.refl _ _ | refine Below.alloc ?_ (by simp; try omega) _ | refine Below.setCell ?_ (by simp; try omega) _ | refine taDr ?_ _)))
    clear hW
    obtain ⟨ι, fW, _, hb, hall⟩ := belClass W
    have HB := hide hb
    have HA := hide hall
    have c00 : ∀ x, (fW x).cell? ⟨w.heap.size, 0, none⟩ = some (.int .i64 oi) := fun x => ((unhide K0).below (hb x)).c 0 (by simp)
    have c01 : ∀ x, (fW x).cell? ⟨w.heap.size, 1, none⟩ = some (.int .i64 oh) := fun x => ((unhide K0).below (hb x)).c 1 (by simp)
    have c02 : ∀ x, (fW x).cell? ⟨w.heap.size, 2, none⟩ = some (.int .i64 oc) := fun x => ((unhide K0).below (hb x)).c 2 (by simp)
    have c03 : ∀ x, (fW x).cell? ⟨w.heap.size, 3, none⟩ = some (.int .i64 os) := fun x => ((unhide K0).below (hb x)).c 3 (by simp)
    have c10 : ∀ x, (fW x).cell? ⟨w.heap.size + 1, 0, none⟩ = some (.int .i64 ti) := fun x => ((unhide K1).below (hb x)).c 0 (by simp)
    have c11 : ∀ x, (fW x).cell? ⟨w.heap.size + 1, 1, none⟩ = some (.int .i64 th) := fun x => ((unhide K1).below (hb x)).c 1 (by simp)
    have c12 : ∀ x, (fW x).cell? ⟨w.heap.size + 1, 2, none⟩ = some (.int .i64 tc) := fun x => ((unhide K1).below (hb x)).c 2 (by simp)
    have c13 : ∀ x, (fW x).cell? ⟨w.heap.size + 1, 3, none⟩ = some (.int .i64 tf) := fun x => ((unhide K1).below (hb x)).c 3 (by simp)
    have c14 : ∀ x, (fW x).cell? ⟨w.heap.size + 1, 4, none⟩ = some (.int .i64 tk) := fun x => ((unhide K1).below (hb x)).c 4 (by simp)
    have c15 : ∀ x, (fW x).cell? ⟨w.heap.size + 1, 5, none⟩ = some (.int .i64 ts) := fun x => ((unhide K1).below (hb x)).c 5 (by simp)
    clear hb hall
    obtain ⟨x0, h0⟩ := (unhide HA) W (Below.refl _ _)
    rw [h0]
    clear h0
    go_wp2_with (first | (go_at_call 9; refine (belQ (unhide HB) (unhide HA) (specTicksTo_is _ _ _ _ _ _ _ (unhide HN) (unhide HT))).mono ?_; rintro e _ ⟨rfl, y, rfl⟩))
    repeat (refine wp_region_bel (fun w' h => (unhide HA) w' ((unhide HB _).trans (h.mono (unhide HB _).size))) (by kernel_rfl) (by kernel_rfl) ?_; (repeat (go_big_quiet_step (first | (go_at_call 9; exact belQ (unhide HB) (unhide HA) (specTicksTo_is _ _ _ _ _ _ _ (unhide HN) (unhide HT)))))); refine wpQuiet_nil ?_; rintro _ ⟨y, rfl⟩; (first | go_wp2_with (first | (go_at_call 9; refine (belQ (unhide HB) (unhide HA) (specTicksTo_is _ _ _ _ _ _ _ (unhide HN) (unhide HT))).mono ?_; rintro e _ ⟨rfl, y, rfl⟩)) | go_wp2))
    go_ret
    exact ⟨ret_bool (by rw [unhide HE]), (unhide B0).trans ((unhide HB _).mono (unhide B0).size)⟩
  · have HE := hide ((unhide HV).trans (by rw [hv, Bool.false_and]))
    clear hv HV
    subst q1
    go_enter Try.func12, Try.ntmps12
    go_wp2_with fail
    obtain ⟨W, hW⟩ : ∃ W, W = ((w.alloc (Obj.cells #[.int .i64 oi, .int .i64 oh, .int .i64 oc, .int .i64 os] 32)).alloc (Obj.cells #[.int .i64 ti, .int .i64 th, .int .i64 tc, .int .i64 tf, .int .i64 tk, .int .i64 ts] 26)) := ⟨_, rfl⟩
    rw [← hW]
    have K0 : Hid (Blk W (w.heap.size) [.int .i64 oi, .int .i64 oh, .int .i64 oc, .int .i64 os]) := hide (by rw [hW]; exact blkAt2_0)
    have K1 : Hid (Blk W (w.heap.size + 1) [.int .i64 ti, .int .i64 th, .int .i64 tc, .int .i64 tf, .int .i64 tk, .int .i64 ts]) := hide (by rw [hW]; exact blkAt2_1)
    have B0 : Hid (Below w.heap.size w W) := hide (by rw [hW]; exact (by repeat (first | exact Below.refl _ _ | refine Below.alloc ?_ (by simp; try omega) _ | refine Below.setCell ?_ (by simp; try omega) _ | refine taDr ?_ _)))
    clear hW
    obtain ⟨ι, fW, _, hb, hall⟩ := belClass W
    have HB := hide hb
    have HA := hide hall
    have c00 : ∀ x, (fW x).cell? ⟨w.heap.size, 0, none⟩ = some (.int .i64 oi) := fun x => ((unhide K0).below (hb x)).c 0 (by simp)
    have c01 : ∀ x, (fW x).cell? ⟨w.heap.size, 1, none⟩ = some (.int .i64 oh) := fun x => ((unhide K0).below (hb x)).c 1 (by simp)
    have c02 : ∀ x, (fW x).cell? ⟨w.heap.size, 2, none⟩ = some (.int .i64 oc) := fun x => ((unhide K0).below (hb x)).c 2 (by simp)
    have c03 : ∀ x, (fW x).cell? ⟨w.heap.size, 3, none⟩ = some (.int .i64 os) := fun x => ((unhide K0).below (hb x)).c 3 (by simp)
    have c10 : ∀ x, (fW x).cell? ⟨w.heap.size + 1, 0, none⟩ = some (.int .i64 ti) := fun x => ((unhide K1).below (hb x)).c 0 (by simp)
    have c11 : ∀ x, (fW x).cell? ⟨w.heap.size + 1, 1, none⟩ = some (.int .i64 th) := fun x => ((unhide K1).below (hb x)).c 1 (by simp)
    have c12 : ∀ x, (fW x).cell? ⟨w.heap.size + 1, 2, none⟩ = some (.int .i64 tc) := fun x => ((unhide K1).below (hb x)).c 2 (by simp)
    have c13 : ∀ x, (fW x).cell? ⟨w.heap.size + 1, 3, none⟩ = some (.int .i64 tf) := fun x => ((unhide K1).below (hb x)).c 3 (by simp)
    have c14 : ∀ x, (fW x).cell? ⟨w.heap.size + 1, 4, none⟩ = some (.int .i64 tk) := fun x => ((unhide K1).below (hb x)).c 4 (by simp)
    have c15 : ∀ x, (fW x).cell? ⟨w.heap.size + 1, 5, none⟩ = some (.int .i64 ts) := fun x => ((unhide K1).below (hb x)).c 5 (by simp)
    clear hb hall
    obtain ⟨x0, h0⟩ := (unhide HA) W (Below.refl _ _)
    rw [h0]
    clear h0
    go_wp2_with (first | (go_at_call 9; refine (belQ (unhide HB) (unhide HA) (specTicksTo_is _ _ _ _ _ _ _ (unhide HN) (unhide HT))).mono ?_; rintro e _ ⟨rfl, y, rfl⟩) | (go_at_call 31; refine (belQ (unhide HB) (unhide HA) (specOwnOk_is _ _ _ _ _ (by exact q2))).mono ?_; rintro e _ ⟨rfl, y, rfl⟩))
    repeat (refine wp_region_bel (fun w' h => (unhide HA) w' ((unhide HB _).trans (h.mono (unhide HB _).size))) (by kernel_rfl) (by kernel_rfl) ?_; (repeat (go_big_quiet_step (first | (go_at_call 9; exact belQ (unhide HB) (unhide HA) (specTicksTo_is _ _ _ _ _ _ _ (unhide HN) (unhide HT))) | (go_at_call 31; exact belQ (unhide HB) (unhide HA) (specOwnOk_is _ _ _ _ _ (by exact q2)))))); refine wpQuiet_nil ?_; rintro _ ⟨y, rfl⟩; (first | go_wp2_with (first | (go_at_call 9; refine (belQ (unhide HB) (unhide HA) (specTicksTo_is _ _ _ _ _ _ _ (unhide HN) (unhide HT))).mono ?_; rintro e _ ⟨rfl, y, rfl⟩) | (go_at_call 31; refine (belQ (unhide HB) (unhide HA) (specOwnOk_is _ _ _ _ _ (by exact q2))).mono ?_; rintro e _ ⟨rfl, y, rfl⟩)) | go_wp2))
    go_ret
    exact ⟨ret_bool (by rw [unhide HE]), (unhide B0).trans ((unhide HB _).mono (unhide B0).size)⟩
  · have HE := hide ((unhide HV).trans (by rw [hv, Bool.false_and]))
    clear hv HV
    subst q1
    have e : oi = ti := by simpa using q3
    subst e
    clear q3
    go_enter Try.func12, Try.ntmps12
    go_wp2_with fail
    obtain ⟨W, hW⟩ : ∃ W, W = ((w.alloc (Obj.cells #[.int .i64 oi, .int .i64 oh, .int .i64 oc, .int .i64 os] 32)).alloc (Obj.cells #[.int .i64 oi, .int .i64 th, .int .i64 tc, .int .i64 tf, .int .i64 tk, .int .i64 ts] 26)) := ⟨_, rfl⟩
    rw [← hW]
    have K0 : Hid (Blk W (w.heap.size) [.int .i64 oi, .int .i64 oh, .int .i64 oc, .int .i64 os]) := hide (by rw [hW]; exact blkAt2_0)
    have K1 : Hid (Blk W (w.heap.size + 1) [.int .i64 oi, .int .i64 th, .int .i64 tc, .int .i64 tf, .int .i64 tk, .int .i64 ts]) := hide (by rw [hW]; exact blkAt2_1)
    have B0 : Hid (Below w.heap.size w W) := hide (by rw [hW]; exact (by repeat (first | exact Below.refl _ _ | refine Below.alloc ?_ (by simp; try omega) _ | refine Below.setCell ?_ (by simp; try omega) _ | refine taDr ?_ _)))
    clear hW
    obtain ⟨ι, fW, _, hb, hall⟩ := belClass W
    have HB := hide hb
    have HA := hide hall
    have c00 : ∀ x, (fW x).cell? ⟨w.heap.size, 0, none⟩ = some (.int .i64 oi) := fun x => ((unhide K0).below (hb x)).c 0 (by simp)
    have c01 : ∀ x, (fW x).cell? ⟨w.heap.size, 1, none⟩ = some (.int .i64 oh) := fun x => ((unhide K0).below (hb x)).c 1 (by simp)
    have c02 : ∀ x, (fW x).cell? ⟨w.heap.size, 2, none⟩ = some (.int .i64 oc) := fun x => ((unhide K0).below (hb x)).c 2 (by simp)
    have c03 : ∀ x, (fW x).cell? ⟨w.heap.size, 3, none⟩ = some (.int .i64 os) := fun x => ((unhide K0).below (hb x)).c 3 (by simp)
    have c10 : ∀ x, (fW x).cell? ⟨w.heap.size + 1, 0, none⟩ = some (.int .i64 oi) := fun x => ((unhide K1).below (hb x)).c 0 (by simp)
    have c11 : ∀ x, (fW x).cell? ⟨w.heap.size + 1, 1, none⟩ = some (.int .i64 th) := fun x => ((unhide K1).below (hb x)).c 1 (by simp)
    have c12 : ∀ x, (fW x).cell? ⟨w.heap.size + 1, 2, none⟩ = some (.int .i64 tc) := fun x => ((unhide K1).below (hb x)).c 2 (by simp)
    have c13 : ∀ x, (fW x).cell? ⟨w.heap.size + 1, 3, none⟩ = some (.int .i64 tf) := fun x => ((unhide K1).below (hb x)).c 3 (by simp)
    have c14 : ∀ x, (fW x).cell? ⟨w.heap.size + 1, 4, none⟩ = some (.int .i64 tk) := fun x => ((unhide K1).below (hb x)).c 4 (by simp)
    have c15 : ∀ x, (fW x).cell? ⟨w.heap.size + 1, 5, none⟩ = some (.int .i64 ts) := fun x => ((unhide K1).below (hb x)).c 5 (by simp)
    clear hb hall
    obtain ⟨x0, h0⟩ := (unhide HA) W (Below.refl _ _)
    rw [h0]
    clear h0
    go_wp2_with (first | (go_at_call 9; refine (belQ (unhide HB) (unhide HA) (specTicksTo_is _ _ _ _ _ _ _ (unhide HN) (unhide HT))).mono ?_; rintro e _ ⟨rfl, y, rfl⟩) | (go_at_call 31; refine (belQ (unhide HB) (unhide HA) (specOwnOk_is _ _ _ _ _ (by exact q2))).mono ?_; rintro e _ ⟨rfl, y, rfl⟩))
    repeat (refine wp_region_bel (fun w' h => (unhide HA) w' ((unhide HB _).trans (h.mono (unhide HB _).size))) (by kernel_rfl) (by kernel_rfl) ?_; (repeat (go_big_quiet_step (first | (go_at_call 9; exact belQ (unhide HB) (unhide HA) (specTicksTo_is _ _ _ _ _ _ _ (unhide HN) (unhide HT))) | (go_at_call 31; exact belQ (unhide HB) (unhide HA) (specOwnOk_is _ _ _ _ _ (by exact q2)))))); refine wpQuiet_nil ?_; rintro _ ⟨y, rfl⟩; (first | go_wp2_with (first | (go_at_call 9; refine (belQ (unhide HB) (unhide HA) (specTicksTo_is _ _ _ _ _ _ _ (unhide HN) (unhide HT))).mono ?_; rintro e _ ⟨rfl, y, rfl⟩) | (go_at_call 31; refine (belQ (unhide HB) (unhide HA) (specOwnOk_is _ _ _ _ _ (by exact q2))).mono ?_; rintro e _ ⟨rfl, y, rfl⟩)) | go_wp2))
    go_ret
    exact ⟨ret_bool (by rw [unhide HE]), (unhide B0).trans ((unhide HB _).mono (unhide B0).size)⟩
  · have HE := hide ((unhide HV).trans (by rw [hv, Bool.false_and]))
    clear hv HV
    subst q1
    have e : (oi == ti) = false := by simpa using q3
    have e' : ¬ oi = ti := by simpa using q3
    clear q3
    go_enter Try.func12, Try.ntmps12
    go_wp2_with fail
    obtain ⟨W, hW⟩ : ∃ W, W = ((w.alloc (Obj.cells #[.int .i64 oi, .int .i64 oh, .int .i64 oc, .int .i64 os] 32)).alloc (Obj.cells #[.int .i64 ti, .int .i64 th, .int .i64 tc, .int .i64 tf, .int .i64 tk, .int .i64 ts] 26)) := ⟨_, rfl⟩
    rw [← hW]
    have K0 : Hid (Blk W (w.heap.size) [.int .i64 oi, .int .i64 oh, .int .i64 oc, .int .i64 os]) := hide (by rw [hW]; exact blkAt2_0)
    have K1 : Hid (Blk W (w.heap.size + 1) [.int .i64 ti, .int .i64 th, .int .i64 tc, .int .i64 tf, .int .i64 tk, .int .i64 ts]) := hide (by rw [hW]; exact blkAt2_1)
    have B0 : Hid (Below w.heap.size w W) := hide (by rw [hW]; exact (by repeat (first | exact Below.refl _ _ | refine Below.alloc ?_ (by simp; try omega) _ | refine Below.setCell ?_ (by simp; try omega) _ | refine taDr ?_ _)))
    clear hW
    obtain ⟨ι, fW, _, hb, hall⟩ := belClass W
    have HB := hide hb
    have HA := hide hall
    have c00 : ∀ x, (fW x).cell? ⟨w.heap.size, 0, none⟩ = some (.int .i64 oi) := fun x => ((unhide K0).below (hb x)).c 0 (by simp)
    have c01 : ∀ x, (fW x).cell? ⟨w.heap.size, 1, none⟩ = some (.int .i64 oh) := fun x => ((unhide K0).below (hb x)).c 1 (by simp)
    have c02 : ∀ x, (fW x).cell? ⟨w.heap.size, 2, none⟩ = some (.int .i64 oc) := fun x => ((unhide K0).below (hb x)).c 2 (by simp)
    have c03 : ∀ x, (fW x).cell? ⟨w.heap.size, 3, none⟩ = some (.int .i64 os) := fun x => ((unhide K0).below (hb x)).c 3 (by simp)
    have c10 : ∀ x, (fW x).cell? ⟨w.heap.size + 1, 0, none⟩ = some (.int .i64 ti) := fun x => ((unhide K1).below (hb x)).c 0 (by simp)
    have c11 : ∀ x, (fW x).cell? ⟨w.heap.size + 1, 1, none⟩ = some (.int .i64 th) := fun x => ((unhide K1).below (hb x)).c 1 (by simp)
    have c12 : ∀ x, (fW x).cell? ⟨w.heap.size + 1, 2, none⟩ = some (.int .i64 tc) := fun x => ((unhide K1).below (hb x)).c 2 (by simp)
    have c13 : ∀ x, (fW x).cell? ⟨w.heap.size + 1, 3, none⟩ = some (.int .i64 tf) := fun x => ((unhide K1).below (hb x)).c 3 (by simp)
    have c14 : ∀ x, (fW x).cell? ⟨w.heap.size + 1, 4, none⟩ = some (.int .i64 tk) := fun x => ((unhide K1).below (hb x)).c 4 (by simp)
    have c15 : ∀ x, (fW x).cell? ⟨w.heap.size + 1, 5, none⟩ = some (.int .i64 ts) := fun x => ((unhide K1).below (hb x)).c 5 (by simp)
    clear hb hall
    obtain ⟨x0, h0⟩ := (unhide HA) W (Below.refl _ _)
    rw [h0]
    clear h0
    go_wp2_with (first | (go_at_call 9; refine (belQ (unhide HB) (unhide HA) (specTicksTo_is _ _ _ _ _ _ _ (unhide HN) (unhide HT))).mono ?_; rintro e _ ⟨rfl, y, rfl⟩) | (go_at_call 31; refine (belQ (unhide HB) (unhide HA) (specOwnOk_is _ _ _ _ _ (by exact q2))).mono ?_; rintro e _ ⟨rfl, y, rfl⟩) | (go_at_call 32; refine (belS (l1In_is _ _ _ _ (by first | exact q4 | exact q5))).mono ?_; rintro e _ ⟨rfl, y, rfl⟩))
    repeat (refine wp_region_bel (fun w' h => (unhide HA) w' ((unhide HB _).trans (h.mono (unhide HB _).size))) (by kernel_rfl) (by kernel_rfl) ?_; (repeat (go_big_quiet_step (first | (go_at_call 9; exact belQ (unhide HB) (unhide HA) (specTicksTo_is _ _ _ _ _ _ _ (unhide HN) (unhide HT))) | (go_at_call 31; exact belQ (unhide HB) (unhide HA) (specOwnOk_is _ _ _ _ _ (by exact q2))) | (go_at_call 32; exact belS (l1In_is _ _ _ _ (by first | exact q4 | exact q5)))))); refine wpQuiet_nil ?_; rintro _ ⟨y, rfl⟩; (first | go_wp2_with (first | (go_at_call 9; refine (belQ (unhide HB) (unhide HA) (specTicksTo_is _ _ _ _ _ _ _ (unhide HN) (unhide HT))).mono ?_; rintro e _ ⟨rfl, y, rfl⟩) | (go_at_call 31; refine (belQ (unhide HB) (unhide HA) (specOwnOk_is _ _ _ _ _ (by exact q2))).mono ?_; rintro e _ ⟨rfl, y, rfl⟩) | (go_at_call 32; refine (belS (l1In_is _ _ _ _ (by first | exact q4 | exact q5))).mono ?_; rintro e _ ⟨rfl, y, rfl⟩)) | go_wp2))
    go_ret
    exact ⟨ret_bool (by rw [unhide HE]), (unhide B0).trans ((unhide HB _).mono (unhide B0).size)⟩
  · have HE := hide ((unhide HV).trans (by rw [hv, Bool.false_and]))
    clear hv HV
    subst q1
    have e : (oi == ti) = false := by simpa using q3
    have e' : ¬ oi = ti := by simpa using q3
    clear q3
    go_enter Try.func12, Try.ntmps12
    go_wp2_with fail
    obtain ⟨W, hW⟩ : ∃ W, W = ((w.alloc (Obj.cells #[.int .i64 oi, .int .i64 oh, .int .i64 oc, .int .i64 os] 32)).alloc (Obj.cells #[.int .i64 ti, .int .i64 th, .int .i64 tc, .int .i64 tf, .int .i64 tk, .int .i64 ts] 26)) := ⟨_, rfl⟩
    rw [← hW]
    have K0 : Hid (Blk W (w.heap.size) [.int .i64 oi, .int .i64 oh, .int .i64 oc, .int .i64 os]) := hide (by rw [hW]; exact blkAt2_0)
    have K1 : Hid (Blk W (w.heap.size + 1) [.int .i64 ti, .int .i64 th, .int .i64 tc, .int .i64 tf, .int .i64 tk, .int .i64 ts]) := hide (by rw [hW]; exact blkAt2_1)
    have B0 : Hid (Below w.heap.size w W) := hide (by rw [hW]; exact (by repeat (first | exact Below.refl _ _ | refine Below.alloc ?_ (by simp; try omega) _ | refine Below.setCell ?_ (by simp; try omega) _ | refine taDr ?_ _)))
    clear hW
    obtain ⟨ι, fW, _, hb, hall⟩ := belClass W
    have HB := hide hb
    have HA := hide hall
    have c00 : ∀ x, (fW x).cell? ⟨w.heap.size, 0, none⟩ = some (.int .i64 oi) := fun x => ((unhide K0).below (hb x)).c 0 (by simp)
    have c01 : ∀ x, (fW x).cell? ⟨w.heap.size, 1, none⟩ = some (.int .i64 oh) := fun x => ((unhide K0).below (hb x)).c 1 (by simp)
    have c02 : ∀ x, (fW x).cell? ⟨w.heap.size, 2, none⟩ = some (.int .i64 oc) := fun x => ((unhide K0).below (hb x)).c 2 (by simp)
    have c03 : ∀ x, (fW x).cell? ⟨w.heap.size, 3, none⟩ = some (.int .i64 os) := fun x => ((unhide K0).below (hb x)).c 3 (by simp)
    have c10 : ∀ x, (fW x).cell? ⟨w.heap.size + 1, 0, none⟩ = some (.int .i64 ti) := fun x => ((unhide K1).below (hb x)).c 0 (by simp)
    have c11 : ∀ x, (fW x).cell? ⟨w.heap.size + 1, 1, none⟩ = some (.int .i64 th) := fun x => ((unhide K1).below (hb x)).c 1 (by simp)
    have c12 : ∀ x, (fW x).cell? ⟨w.heap.size + 1, 2, none⟩ = some (.int .i64 tc) := fun x => ((unhide K1).below (hb x)).c 2 (by simp)
    have c13 : ∀ x, (fW x).cell? ⟨w.heap.size + 1, 3, none⟩ = some (.int .i64 tf) := fun x => ((unhide K1).below (hb x)).c 3 (by simp)
    have c14 : ∀ x, (fW x).cell? ⟨w.heap.size + 1, 4, none⟩ = some (.int .i64 tk) := fun x => ((unhide K1).below (hb x)).c 4 (by simp)
    have c15 : ∀ x, (fW x).cell? ⟨w.heap.size + 1, 5, none⟩ = some (.int .i64 ts) := fun x => ((unhide K1).below (hb x)).c 5 (by simp)
    clear hb hall
    obtain ⟨x0, h0⟩ := (unhide HA) W (Below.refl _ _)
    rw [h0]
    clear h0
    go_wp2_with (first | (go_at_call 9; refine (belQ (unhide HB) (unhide HA) (specTicksTo_is _ _ _ _ _ _ _ (unhide HN) (unhide HT))).mono ?_; rintro e _ ⟨rfl, y, rfl⟩) | (go_at_call 31; refine (belQ (unhide HB) (unhide HA) (specOwnOk_is _ _ _ _ _ (by exact q2))).mono ?_; rintro e _ ⟨rfl, y, rfl⟩) | (go_at_call 32; refine (belS (l1In_is _ _ _ _ (by first | exact q4 | exact q5))).mono ?_; rintro e _ ⟨rfl, y, rfl⟩))
    repeat (refine wp_region_bel (fun w' h => (unhide HA) w' ((unhide HB _).trans (h.mono (unhide HB _).size))) (by kernel_rfl) (by kernel_rfl) ?_; (repeat (go_big_quiet_step (first | (go_at_call 9; exact belQ (unhide HB) (unhide HA) (specTicksTo_is _ _ _ _ _ _ _ (unhide HN) (unhide HT))) | (go_at_call 31; exact belQ (unhide HB) (unhide HA) (specOwnOk_is _ _ _ _ _ (by exact q2))) | (go_at_call 32; exact belS (l1In_is _ _ _ _ (by first | exact q4 | exact q5)))))); refine wpQuiet_nil ?_; rintro _ ⟨y, rfl⟩; (first | go_wp2_with (first | (go_at_call 9; refine (belQ (unhide HB) (unhide HA) (specTicksTo_is _ _ _ _ _ _ _ (unhide HN) (unhide HT))).mono ?_; rintro e _ ⟨rfl, y, rfl⟩) | (go_at_call 31; refine (belQ (unhide HB) (unhide HA) (specOwnOk_is _ _ _ _ _ (by exact q2))).mono ?_; rintro e _ ⟨rfl, y, rfl⟩) | (go_at_call 32; refine (belS (l1In_is _ _ _ _ (by first | exact q4 | exact q5))).mono ?_; rintro e _ ⟨rfl, y, rfl⟩)) | go_wp2))
    go_ret
    exact ⟨ret_bool (by rw [unhide HE]), (unhide B0).trans ((unhide HB _).mono (unhide B0).size)⟩
  · have HE := hide ((unhide HV).trans (by rw [hv, Bool.false_and]))
    clear hv HV
    subst q1
    have e : (oi == ti) = false := by simpa using q3
    have e' : ¬ oi = ti := by simpa using q3
    clear q3
    have q7 : decide (wi < n) = true := by simp only [decide_eq_false_iff_not] at q6; simp only [decide_eq_true_eq]; omega
    clear q6
    go_enter Try.func12, Try.ntmps12
    go_wp2_with fail
    obtain ⟨W, hW⟩ : ∃ W, W = ((w.alloc (Obj.cells #[.int .i64 oi, .int .i64 oh, .int .i64 oc, .int .i64 os] 32)).alloc (Obj.cells #[.int .i64 ti, .int .i64 th, .int .i64 tc, .int .i64 tf, .int .i64 tk, .int .i64 ts] 26)) := ⟨_, rfl⟩
    rw [← hW]
    have K0 : Hid (Blk W (w.heap.size) [.int .i64 oi, .int .i64 oh, .int .i64 oc, .int .i64 os]) := hide (by rw [hW]; exact blkAt2_0)
    have K1 : Hid (Blk W (w.heap.size + 1) [.int .i64 ti, .int .i64 th, .int .i64 tc, .int .i64 tf, .int .i64 tk, .int .i64 ts]) := hide (by rw [hW]; exact blkAt2_1)
    have B0 : Hid (Below w.heap.size w W) := hide (by rw [hW]; exact (by repeat (first | exact Below.refl _ _ | refine Below.alloc ?_ (by simp; try omega) _ | refine Below.setCell ?_ (by simp; try omega) _ | refine taDr ?_ _)))
    clear hW
    obtain ⟨ι, fW, _, hb, hall⟩ := belClass W
    have HB := hide hb
    have HA := hide hall
    have c00 : ∀ x, (fW x).cell? ⟨w.heap.size, 0, none⟩ = some (.int .i64 oi) := fun x => ((unhide K0).below (hb x)).c 0 (by simp)
    have c01 : ∀ x, (fW x).cell? ⟨w.heap.size, 1, none⟩ = some (.int .i64 oh) := fun x => ((unhide K0).below (hb x)).c 1 (by simp)
    have c02 : ∀ x, (fW x).cell? ⟨w.heap.size, 2, none⟩ = some (.int .i64 oc) := fun x => ((unhide K0).below (hb x)).c 2 (by simp)
    have c03 : ∀ x, (fW x).cell? ⟨w.heap.size, 3, none⟩ = some (.int .i64 os) := fun x => ((unhide K0).below (hb x)).c 3 (by simp)
    have c10 : ∀ x, (fW x).cell? ⟨w.heap.size + 1, 0, none⟩ = some (.int .i64 ti) := fun x => ((unhide K1).below (hb x)).c 0 (by simp)
    have c11 : ∀ x, (fW x).cell? ⟨w.heap.size + 1, 1, none⟩ = some (.int .i64 th) := fun x => ((unhide K1).below (hb x)).c 1 (by simp)
    have c12 : ∀ x, (fW x).cell? ⟨w.heap.size + 1, 2, none⟩ = some (.int .i64 tc) := fun x => ((unhide K1).below (hb x)).c 2 (by simp)
    have c13 : ∀ x, (fW x).cell? ⟨w.heap.size + 1, 3, none⟩ = some (.int .i64 tf) := fun x => ((unhide K1).below (hb x)).c 3 (by simp)
    have c14 : ∀ x, (fW x).cell? ⟨w.heap.size + 1, 4, none⟩ = some (.int .i64 tk) := fun x => ((unhide K1).below (hb x)).c 4 (by simp)
    have c15 : ∀ x, (fW x).cell? ⟨w.heap.size + 1, 5, none⟩ = some (.int .i64 ts) := fun x => ((unhide K1).below (hb x)).c 5 (by simp)
    clear hb hall
    obtain ⟨x0, h0⟩ := (unhide HA) W (Below.refl _ _)
    rw [h0]
    clear h0
    go_wp2_with (first | (go_at_call 9; refine (belQ (unhide HB) (unhide HA) (specTicksTo_is _ _ _ _ _ _ _ (unhide HN) (unhide HT))).mono ?_; rintro e _ ⟨rfl, y, rfl⟩) | (go_at_call 31; refine (belQ (unhide HB) (unhide HA) (specOwnOk_is _ _ _ _ _ (by exact q2))).mono ?_; rintro e _ ⟨rfl, y, rfl⟩) | (go_at_call 32; refine (belS (l1In_is _ _ _ _ (by first | exact q4 | exact q5))).mono ?_; rintro e _ ⟨rfl, y, rfl⟩))
    repeat (refine wp_region_bel (fun w' h => (unhide HA) w' ((unhide HB _).trans (h.mono (unhide HB _).size))) (by kernel_rfl) (by kernel_rfl) ?_; (repeat (go_big_quiet_step (first | (go_at_call 9; exact belQ (unhide HB) (unhide HA) (specTicksTo_is _ _ _ _ _ _ _ (unhide HN) (unhide HT))) | (go_at_call 31; exact belQ (unhide HB) (unhide HA) (specOwnOk_is _ _ _ _ _ (by exact q2))) | (go_at_call 32; exact belS (l1In_is _ _ _ _ (by first | exact q4 | exact q5)))))); refine wpQuiet_nil ?_; rintro _ ⟨y, rfl⟩; (first | go_wp2_with (first | (go_at_call 9; refine (belQ (unhide HB) (unhide HA) (specTicksTo_is _ _ _ _ _ _ _ (unhide HN) (unhide HT))).mono ?_; rintro e _ ⟨rfl, y, rfl⟩) | (go_at_call 31; refine (belQ (unhide HB) (unhide HA) (specOwnOk_is _ _ _ _ _ (by exact q2))).mono ?_; rintro e _ ⟨rfl, y, rfl⟩) | (go_at_call 32; refine (belS (l1In_is _ _ _ _ (by first | exact q4 | exact q5))).mono ?_; rintro e _ ⟨rfl, y, rfl⟩)) | go_wp2))
    go_ret
    exact ⟨ret_bool (by rw [unhide HE]), (unhide B0).trans ((unhide HB _).mono (unhide B0).size)⟩
  · have HE := hide ((unhide HV).trans (by rw [hv, Bool.true_and]))
    clear hv HV
    subst q1
    have e : (oi == ti) = false := by simpa using q3
    have e' : ¬ oi = ti := by simpa using q3
    clear q3
    have q7 : decide (wi < n) = false := by simp only [decide_eq_true_eq] at q6; simp only [decide_eq_false_iff_not]; omega
    clear q6
    have g2 := avB_facts q2
    have g5 := avB_facts (tcB_facts (tiB_facts (unhide HT)).1).1
    have g6 := dfN_bd (N := 1001000) g2.2.2.1 g5.2.2.1 nb
    go_enter Try.func12, Try.ntmps12
    go_wp2_with fail
    obtain ⟨W, hW⟩ : ∃ W, W = ((w.alloc (Obj.cells #[.int .i64 oi, .int .i64 oh, .int .i64 oc, .int .i64 os] 32)).alloc (Obj.cells #[.int .i64 ti, .int .i64 th, .int .i64 tc, .int .i64 tf, .int .i64 tk, .int .i64 ts] 26)) := ⟨_, rfl⟩
    rw [← hW]
    have K0 : Hid (Blk W (w.heap.size) [.int .i64 oi, .int .i64 oh, .int .i64 oc, .int .i64 os]) := hide (by rw [hW]; exact blkAt2_0)
    have K1 : Hid (Blk W (w.heap.size + 1) [.int .i64 ti, .int .i64 th, .int .i64 tc, .int .i64 tf, .int .i64 tk, .int .i64 ts]) := hide (by rw [hW]; exact blkAt2_1)
    have B0 : Hid (Below w.heap.size w W) := hide (by rw [hW]; exact (by repeat (first | exact Below.refl _ _ | refine Below.alloc ?_ (by simp; try omega) _ | refine Below.setCell ?_ (by simp; try omega) _ | refine taDr ?_ _)))
    clear hW
    obtain ⟨ι, fW, _, hb, hall⟩ := belClass W
    have HB := hide hb
    have HA := hide hall
    have c00 : ∀ x, (fW x).cell? ⟨w.heap.size, 0, none⟩ = some (.int .i64 oi) := fun x => ((unhide K0).below (hb x)).c 0 (by simp)
    have c01 : ∀ x, (fW x).cell? ⟨w.heap.size, 1, none⟩ = some (.int .i64 oh) := fun x => ((unhide K0).below (hb x)).c 1 (by simp)
    have c02 : ∀ x, (fW x).cell? ⟨w.heap.size, 2, none⟩ = some (.int .i64 oc) := fun x => ((unhide K0).below (hb x)).c 2 (by simp)
    have c03 : ∀ x, (fW x).cell? ⟨w.heap.size, 3, none⟩ = some (.int .i64 os) := fun x => ((unhide K0).below (hb x)).c 3 (by simp)
    have c10 : ∀ x, (fW x).cell? ⟨w.heap.size + 1, 0, none⟩ = some (.int .i64 ti) := fun x => ((unhide K1).below (hb x)).c 0 (by simp)
    have c11 : ∀ x, (fW x).cell? ⟨w.heap.size + 1, 1, none⟩ = some (.int .i64 th) := fun x => ((unhide K1).below (hb x)).c 1 (by simp)
    have c12 : ∀ x, (fW x).cell? ⟨w.heap.size + 1, 2, none⟩ = some (.int .i64 tc) := fun x => ((unhide K1).below (hb x)).c 2 (by simp)
    have c13 : ∀ x, (fW x).cell? ⟨w.heap.size + 1, 3, none⟩ = some (.int .i64 tf) := fun x => ((unhide K1).below (hb x)).c 3 (by simp)
    have c14 : ∀ x, (fW x).cell? ⟨w.heap.size + 1, 4, none⟩ = some (.int .i64 tk) := fun x => ((unhide K1).below (hb x)).c 4 (by simp)
    have c15 : ∀ x, (fW x).cell? ⟨w.heap.size + 1, 5, none⟩ = some (.int .i64 ts) := fun x => ((unhide K1).below (hb x)).c 5 (by simp)
    clear hb hall
    obtain ⟨x0, h0⟩ := (unhide HA) W (Below.refl _ _)
    rw [h0]
    clear h0
    go_wp2_with (first | (go_at_call 9; refine (belQ (unhide HB) (unhide HA) (specTicksTo_is _ _ _ _ _ _ _ (unhide HN) (unhide HT))).mono ?_; rintro e _ ⟨rfl, y, rfl⟩) | (go_at_call 31; refine (belQ (unhide HB) (unhide HA) (specOwnOk_is _ _ _ _ _ (by exact q2))).mono ?_; rintro e _ ⟨rfl, y, rfl⟩) | (go_at_call 32; refine (belS (l1In_is _ _ _ _ (by first | exact q4 | exact q5))).mono ?_; rintro e _ ⟨rfl, y, rfl⟩) | (go_at_call 33; refine (belS (l1Abs_any _ _ (by omega) (by omega))).mono ?_; rintro e _ ⟨rfl, y, rfl⟩))
    repeat (refine wp_region_bel (fun w' h => (unhide HA) w' ((unhide HB _).trans (h.mono (unhide HB _).size))) (by kernel_rfl) (by kernel_rfl) ?_; (repeat (go_big_quiet_step (first | (go_at_call 9; exact belQ (unhide HB) (unhide HA) (specTicksTo_is _ _ _ _ _ _ _ (unhide HN) (unhide HT))) | (go_at_call 31; exact belQ (unhide HB) (unhide HA) (specOwnOk_is _ _ _ _ _ (by exact q2))) | (go_at_call 32; exact belS (l1In_is _ _ _ _ (by first | exact q4 | exact q5))) | (go_at_call 33; exact belS (l1Abs_any _ _ (by omega) (by omega)))))); refine wpQuiet_nil ?_; rintro _ ⟨y, rfl⟩; (first | go_wp2_with (first | (go_at_call 9; refine (belQ (unhide HB) (unhide HA) (specTicksTo_is _ _ _ _ _ _ _ (unhide HN) (unhide HT))).mono ?_; rintro e _ ⟨rfl, y, rfl⟩) | (go_at_call 31; refine (belQ (unhide HB) (unhide HA) (specOwnOk_is _ _ _ _ _ (by exact q2))).mono ?_; rintro e _ ⟨rfl, y, rfl⟩) | (go_at_call 32; refine (belS (l1In_is _ _ _ _ (by first | exact q4 | exact q5))).mono ?_; rintro e _ ⟨rfl, y, rfl⟩) | (go_at_call 33; refine (belS (l1Abs_any _ _ (by omega) (by omega))).mono ?_; rintro e _ ⟨rfl, y, rfl⟩)) | go_wp2))
    go_ret
    exact ⟨ret_bool (by rw [unhide HE]; rfl), (unhide B0).trans ((unhide HB _).mono (unhide B0).size)⟩

end Go.Proofs.Ytbaocifpifbldax
