/-
  What the model advises: plain answers, at every argument; nothing that was there is written.
-/
import Derived.Test.YtbaocifpifbldaxTaSpec
import Derived.Test.YtbaocifpifbldaxTaAdv
namespace Go.Proofs.Ytbaocifpifbldax
open Go.RowKit

set_option maxRecDepth 20000 in
set_option maxHeartbeats 4000000 in
theorem specAdv_up (oi oh oc ti th tc tf tk near wi n : Int) (w : World) (HT : Hid (thB oi oh oc 0 ti th tc tf tk 0 near wi = true)) (HN : Hid (tiN ti th tc tf tk 0 = n)) (HI : Hid (tiB ti th tc tf tk 0 = true)) (nb : 0 ≤ n ∧ n ≤ 1001000) (ho : 0 ≤ oh ∧ oh ≤ 60000) (hoc : -200 ≤ oc ∧ oc ≤ 200) (ht : 0 ≤ th ∧ th ≤ 60000) (htc : -200 ≤ tc ∧ tc ≤ 200) (hd : (oh + n * oc - th - n * tc - 100 * n).natAbs < (oh + n * oc - th - n * tc + 100 * n).natAbs) :
    Calls Try.prog 15 #[.agg #[.int .i64 oi, .int .i64 oh, .int .i64 oc, .int .i64 0], .agg #[.int .i64 ti, .int .i64 th, .int .i64 tc, .int .i64 tf, .int .i64 tk, .int .i64 0], .int .i64 near, .int .i64 wi] w fun e w' => e = .returned (.int .i64 1) ∧ Below w.heap.size w w' := by
  have i1 : decide ((oh + n * oc - th - n * tc - 100 * n).natAbs < (oh + n * oc - th - n * tc + 100 * n).natAbs) = true := by simp only [decide_eq_true_eq]; omega
  have i2 : decide ((oh + n * oc - th - n * tc + 100 * n).natAbs < (oh + n * oc - th - n * tc - 100 * n).natAbs) = false := by simp only [decide_eq_false_iff_not]; omega
  have i3 : (oh + n * oc - th - n * tc - 100 * n).natAbs < (oh + n * oc - th - n * tc + 100 * n).natAbs := by omega
  clear hd
  have g6 := mulBd (s := n) (d := oc) (A := 1001000) (B := 300) (by omega) (by omega) (by omega) (by omega) (by omega) (by omega)
  have g8 := mulBd (s := n) (d := tc) (A := 1001000) (B := 300) (by omega) (by omega) (by omega) (by omega) (by omega) (by omega)
  go_enter Try.func15, Try.ntmps15
  go_wp2_with fail
  obtain ⟨W, hW⟩ : ∃ W, W = ((w.alloc (Obj.cells #[.int .i64 oi, .int .i64 oh, .int .i64 oc, .int .i64 0] 32)).alloc (Obj.cells #[.int .i64 ti, .int .i64 th, .int .i64 tc, .int .i64 tf, .int .i64 tk, .int .i64 0] 26)) := ⟨_, rfl⟩
  rw [← hW]
  have K0 : Hid (Blk W (w.heap.size) [.int .i64 oi, .int .i64 oh, .int .i64 oc, .int .i64 0]) := hide (by rw [hW]; exact blkAt2_0)
  have K1 : Hid (Blk W (w.heap.size + 1) [.int .i64 ti, .int .i64 th, .int .i64 tc, .int .i64 tf, .int .i64 tk, .int .i64 0]) := hide (by rw [hW]; exact blkAt2_1)
  have B0 : Hid (Below w.heap.size w W) := hide (by rw [hW]; exact (by repeat (first | exact Below.refl _ _ | refine Below.alloc ?_ (by simp; try omega) _ | refine Below.setCell ?_ (by simp; try omega) _ | refine taDr ?_ _)))
  clear hW
  obtain ⟨ι, fW, _, hb, hall⟩ := belClass W
  have HB := hide hb
  have HA := hide hall
  have c00 : ∀ x, (fW x).cell? ⟨w.heap.size, 0, none⟩ = some (.int .i64 oi) := fun x => ((unhide K0).below (hb x)).c 0 (by simp)
  have c01 : ∀ x, (fW x).cell? ⟨w.heap.size, 1, none⟩ = some (.int .i64 oh) := fun x => ((unhide K0).below (hb x)).c 1 (by simp)
  have c02 : ∀ x, (fW x).cell? ⟨w.heap.size, 2, none⟩ = some (.int .i64 oc) := fun x => ((unhide K0).below (hb x)).c 2 (by simp)
  have c03 : ∀ x, (fW x).cell? ⟨w.heap.size, 3, none⟩ = some (.int .i64 0) := fun x => ((unhide K0).below (hb x)).c 3 (by simp)
  have c10 : ∀ x, (fW x).cell? ⟨w.heap.size + 1, 0, none⟩ = some (.int .i64 ti) := fun x => ((unhide K1).below (hb x)).c 0 (by simp)
  have c11 : ∀ x, (fW x).cell? ⟨w.heap.size + 1, 1, none⟩ = some (.int .i64 th) := fun x => ((unhide K1).below (hb x)).c 1 (by simp)
  have c12 : ∀ x, (fW x).cell? ⟨w.heap.size + 1, 2, none⟩ = some (.int .i64 tc) := fun x => ((unhide K1).below (hb x)).c 2 (by simp)
  have c13 : ∀ x, (fW x).cell? ⟨w.heap.size + 1, 3, none⟩ = some (.int .i64 tf) := fun x => ((unhide K1).below (hb x)).c 3 (by simp)
  have c14 : ∀ x, (fW x).cell? ⟨w.heap.size + 1, 4, none⟩ = some (.int .i64 tk) := fun x => ((unhide K1).below (hb x)).c 4 (by simp)
  have c15 : ∀ x, (fW x).cell? ⟨w.heap.size + 1, 5, none⟩ = some (.int .i64 0) := fun x => ((unhide K1).below (hb x)).c 5 (by simp)
  clear hb hall
  obtain ⟨x0, h0⟩ := (unhide HA) W (Below.refl _ _)
  rw [h0]
  clear h0
  go_wp2_with (first | (go_at_call 12; refine (belQ (unhide HB) (unhide HA) (specThreat_is _ _ _ _ _ _ _ _ _ _ _ _ _ (unhide HT))).mono ?_; rintro e _ ⟨rfl, y, rfl⟩) | (go_at_call 9; refine (belQ (unhide HB) (unhide HA) (specTicksTo_is _ _ _ _ _ _ _ (unhide HN) (unhide HI))).mono ?_; rintro e _ ⟨rfl, y, rfl⟩) | (go_at_call 33; refine (belS (l1Abs_any _ _ (by omega) (by omega))).mono ?_; rintro e _ ⟨rfl, y, rfl⟩))
  repeat (refine wp_region_bel (fun w' h => (unhide HA) w' ((unhide HB _).trans (h.mono (unhide HB _).size))) (by kernel_rfl) (by kernel_rfl) ?_; (repeat (go_big_quiet_step (first | (go_at_call 12; exact belQ (unhide HB) (unhide HA) (specThreat_is _ _ _ _ _ _ _ _ _ _ _ _ _ (unhide HT))) | (go_at_call 9; exact belQ (unhide HB) (unhide HA) (specTicksTo_is _ _ _ _ _ _ _ (unhide HN) (unhide HI))) | (go_at_call 33; exact belS (l1Abs_any _ _ (by omega) (by omega)))))); refine wpQuiet_nil ?_; rintro _ ⟨y, rfl⟩; (first | go_wp2_with (first | (go_at_call 12; refine (belQ (unhide HB) (unhide HA) (specThreat_is _ _ _ _ _ _ _ _ _ _ _ _ _ (unhide HT))).mono ?_; rintro e _ ⟨rfl, y, rfl⟩) | (go_at_call 9; refine (belQ (unhide HB) (unhide HA) (specTicksTo_is _ _ _ _ _ _ _ (unhide HN) (unhide HI))).mono ?_; rintro e _ ⟨rfl, y, rfl⟩) | (go_at_call 33; refine (belS (l1Abs_any _ _ (by omega) (by omega))).mono ?_; rintro e _ ⟨rfl, y, rfl⟩)) | go_wp2))
  go_ret
  exact ⟨rfl, (unhide B0).trans ((unhide HB _).mono (unhide B0).size)⟩

set_option maxRecDepth 20000 in
set_option maxHeartbeats 4000000 in
theorem specAdv_dn (oi oh oc ti th tc tf tk near wi n : Int) (w : World) (HT : Hid (thB oi oh oc 0 ti th tc tf tk 0 near wi = true)) (HN : Hid (tiN ti th tc tf tk 0 = n)) (HI : Hid (tiB ti th tc tf tk 0 = true)) (nb : 0 ≤ n ∧ n ≤ 1001000) (ho : 0 ≤ oh ∧ oh ≤ 60000) (hoc : -200 ≤ oc ∧ oc ≤ 200) (ht : 0 ≤ th ∧ th ≤ 60000) (htc : -200 ≤ tc ∧ tc ≤ 200) (hd : (oh + n * oc - th - n * tc + 100 * n).natAbs < (oh + n * oc - th - n * tc - 100 * n).natAbs) :
    Calls Try.prog 15 #[.agg #[.int .i64 oi, .int .i64 oh, .int .i64 oc, .int .i64 0], .agg #[.int .i64 ti, .int .i64 th, .int .i64 tc, .int .i64 tf, .int .i64 tk, .int .i64 0], .int .i64 near, .int .i64 wi] w fun e w' => e = .returned (.int .i64 2) ∧ Below w.heap.size w w' := by
  have i1 : decide ((oh + n * oc - th - n * tc - 100 * n).natAbs < (oh + n * oc - th - n * tc + 100 * n).natAbs) = false := by simp only [decide_eq_false_iff_not]; omega
  have i2 : decide ((oh + n * oc - th - n * tc + 100 * n).natAbs < (oh + n * oc - th - n * tc - 100 * n).natAbs) = true := by simp only [decide_eq_true_eq]; omega
  have i3 : (oh + n * oc - th - n * tc + 100 * n).natAbs ≤ (oh + n * oc - th - n * tc - 100 * n).natAbs := by omega
  clear hd
  have i4 : (oh + n * oc - th - n * tc + 100 * n).natAbs < (oh + n * oc - th - n * tc - 100 * n).natAbs := by simpa only [decide_eq_true_eq] using i2
  have g6 := mulBd (s := n) (d := oc) (A := 1001000) (B := 300) (by omega) (by omega) (by omega) (by omega) (by omega) (by omega)
  have g8 := mulBd (s := n) (d := tc) (A := 1001000) (B := 300) (by omega) (by omega) (by omega) (by omega) (by omega) (by omega)
  go_enter Try.func15, Try.ntmps15
  go_wp2_with fail
  obtain ⟨W, hW⟩ : ∃ W, W = ((w.alloc (Obj.cells #[.int .i64 oi, .int .i64 oh, .int .i64 oc, .int .i64 0] 32)).alloc (Obj.cells #[.int .i64 ti, .int .i64 th, .int .i64 tc, .int .i64 tf, .int .i64 tk, .int .i64 0] 26)) := ⟨_, rfl⟩
  rw [← hW]
  have K0 : Hid (Blk W (w.heap.size) [.int .i64 oi, .int .i64 oh, .int .i64 oc, .int .i64 0]) := hide (by rw [hW]; exact blkAt2_0)
  have K1 : Hid (Blk W (w.heap.size + 1) [.int .i64 ti, .int .i64 th, .int .i64 tc, .int .i64 tf, .int .i64 tk, .int .i64 0]) := hide (by rw [hW]; exact blkAt2_1)
  have B0 : Hid (Below w.heap.size w W) := hide (by rw [hW]; exact (by repeat (first | exact Below.refl _ _ | refine Below.alloc ?_ (by simp; try omega) _ | refine Below.setCell ?_ (by simp; try omega) _ | refine taDr ?_ _)))
  clear hW
  obtain ⟨ι, fW, _, hb, hall⟩ := belClass W
  have HB := hide hb
  have HA := hide hall
  have c00 : ∀ x, (fW x).cell? ⟨w.heap.size, 0, none⟩ = some (.int .i64 oi) := fun x => ((unhide K0).below (hb x)).c 0 (by simp)
  have c01 : ∀ x, (fW x).cell? ⟨w.heap.size, 1, none⟩ = some (.int .i64 oh) := fun x => ((unhide K0).below (hb x)).c 1 (by simp)
  have c02 : ∀ x, (fW x).cell? ⟨w.heap.size, 2, none⟩ = some (.int .i64 oc) := fun x => ((unhide K0).below (hb x)).c 2 (by simp)
  have c03 : ∀ x, (fW x).cell? ⟨w.heap.size, 3, none⟩ = some (.int .i64 0) := fun x => ((unhide K0).below (hb x)).c 3 (by simp)
  have c10 : ∀ x, (fW x).cell? ⟨w.heap.size + 1, 0, none⟩ = some (.int .i64 ti) := fun x => ((unhide K1).below (hb x)).c 0 (by simp)
  have c11 : ∀ x, (fW x).cell? ⟨w.heap.size + 1, 1, none⟩ = some (.int .i64 th) := fun x => ((unhide K1).below (hb x)).c 1 (by simp)
  have c12 : ∀ x, (fW x).cell? ⟨w.heap.size + 1, 2, none⟩ = some (.int .i64 tc) := fun x => ((unhide K1).below (hb x)).c 2 (by simp)
  have c13 : ∀ x, (fW x).cell? ⟨w.heap.size + 1, 3, none⟩ = some (.int .i64 tf) := fun x => ((unhide K1).below (hb x)).c 3 (by simp)
  have c14 : ∀ x, (fW x).cell? ⟨w.heap.size + 1, 4, none⟩ = some (.int .i64 tk) := fun x => ((unhide K1).below (hb x)).c 4 (by simp)
  have c15 : ∀ x, (fW x).cell? ⟨w.heap.size + 1, 5, none⟩ = some (.int .i64 0) := fun x => ((unhide K1).below (hb x)).c 5 (by simp)
  clear hb hall
  obtain ⟨x0, h0⟩ := (unhide HA) W (Below.refl _ _)
  rw [h0]
  clear h0
  go_wp2_with (first | (go_at_call 12; refine (belQ (unhide HB) (unhide HA) (specThreat_is _ _ _ _ _ _ _ _ _ _ _ _ _ (unhide HT))).mono ?_; rintro e _ ⟨rfl, y, rfl⟩) | (go_at_call 9; refine (belQ (unhide HB) (unhide HA) (specTicksTo_is _ _ _ _ _ _ _ (unhide HN) (unhide HI))).mono ?_; rintro e _ ⟨rfl, y, rfl⟩) | (go_at_call 33; refine (belS (l1Abs_any _ _ (by omega) (by omega))).mono ?_; rintro e _ ⟨rfl, y, rfl⟩))
  repeat (refine wp_region_bel (fun w' h => (unhide HA) w' ((unhide HB _).trans (h.mono (unhide HB _).size))) (by kernel_rfl) (by kernel_rfl) ?_; (repeat (go_big_quiet_step (first | (go_at_call 12; exact belQ (unhide HB) (unhide HA) (specThreat_is _ _ _ _ _ _ _ _ _ _ _ _ _ (unhide HT))) | (go_at_call 9; exact belQ (unhide HB) (unhide HA) (specTicksTo_is _ _ _ _ _ _ _ (unhide HN) (unhide HI))) | (go_at_call 33; exact belS (l1Abs_any _ _ (by omega) (by omega)))))); refine wpQuiet_nil ?_; rintro _ ⟨y, rfl⟩; (first | go_wp2_with (first | (go_at_call 12; refine (belQ (unhide HB) (unhide HA) (specThreat_is _ _ _ _ _ _ _ _ _ _ _ _ _ (unhide HT))).mono ?_; rintro e _ ⟨rfl, y, rfl⟩) | (go_at_call 9; refine (belQ (unhide HB) (unhide HA) (specTicksTo_is _ _ _ _ _ _ _ (unhide HN) (unhide HI))).mono ?_; rintro e _ ⟨rfl, y, rfl⟩) | (go_at_call 33; refine (belS (l1Abs_any _ _ (by omega) (by omega))).mono ?_; rintro e _ ⟨rfl, y, rfl⟩)) | go_wp2))
  go_ret
  exact ⟨rfl, (unhide B0).trans ((unhide HB _).mono (unhide B0).size)⟩

set_option maxRecDepth 20000 in
set_option maxHeartbeats 4000000 in
theorem specAdv_s1 (oi oh oc ti th tc tf tk near wi n : Int) (w : World) (HT : Hid (thB oi oh oc 0 ti th tc tf tk 0 near wi = true)) (HN : Hid (tiN ti th tc tf tk 0 = n)) (HI : Hid (tiB ti th tc tf tk 0 = true)) (nb : 0 ≤ n ∧ n ≤ 1001000) (ho : 0 ≤ oh ∧ oh ≤ 60000) (hoc : -200 ≤ oc ∧ oc ≤ 200) (ht : 0 ≤ th ∧ th ≤ 60000) (htc : -200 ≤ tc ∧ tc ≤ 200) (hd : (oh + n * oc - th - n * tc + 100 * n).natAbs = (oh + n * oc - th - n * tc - 100 * n).natAbs) (q5 : th < oh) :
    Calls Try.prog 15 #[.agg #[.int .i64 oi, .int .i64 oh, .int .i64 oc, .int .i64 0], .agg #[.int .i64 ti, .int .i64 th, .int .i64 tc, .int .i64 tf, .int .i64 tk, .int .i64 0], .int .i64 near, .int .i64 wi] w fun e w' => e = .returned (.int .i64 1) ∧ Below w.heap.size w w' := by
  have i1 : decide ((oh + n * oc - th - n * tc - 100 * n).natAbs < (oh + n * oc - th - n * tc + 100 * n).natAbs) = false := by simp only [decide_eq_false_iff_not]; omega
  have i2 : decide ((oh + n * oc - th - n * tc + 100 * n).natAbs < (oh + n * oc - th - n * tc - 100 * n).natAbs) = false := by simp only [decide_eq_false_iff_not]; omega
  have i3 : (oh + n * oc - th - n * tc + 100 * n).natAbs ≤ (oh + n * oc - th - n * tc - 100 * n).natAbs := by omega
  clear hd
  have i4 : (oh + n * oc - th - n * tc - 100 * n).natAbs ≤ (oh + n * oc - th - n * tc + 100 * n).natAbs := by simp only [decide_eq_false_iff_not] at i2; omega
  have j1 : decide (th < oh) = true := decide_eq_true q5
  have g6 := mulBd (s := n) (d := oc) (A := 1001000) (B := 300) (by omega) (by omega) (by omega) (by omega) (by omega) (by omega)
  have g8 := mulBd (s := n) (d := tc) (A := 1001000) (B := 300) (by omega) (by omega) (by omega) (by omega) (by omega) (by omega)
  go_enter Try.func15, Try.ntmps15
  go_wp2_with fail
  obtain ⟨W, hW⟩ : ∃ W, W = ((w.alloc (Obj.cells #[.int .i64 oi, .int .i64 oh, .int .i64 oc, .int .i64 0] 32)).alloc (Obj.cells #[.int .i64 ti, .int .i64 th, .int .i64 tc, .int .i64 tf, .int .i64 tk, .int .i64 0] 26)) := ⟨_, rfl⟩
  rw [← hW]
  have K0 : Hid (Blk W (w.heap.size) [.int .i64 oi, .int .i64 oh, .int .i64 oc, .int .i64 0]) := hide (by rw [hW]; exact blkAt2_0)
  have K1 : Hid (Blk W (w.heap.size + 1) [.int .i64 ti, .int .i64 th, .int .i64 tc, .int .i64 tf, .int .i64 tk, .int .i64 0]) := hide (by rw [hW]; exact blkAt2_1)
  have B0 : Hid (Below w.heap.size w W) := hide (by rw [hW]; exact (by repeat (first | exact Below.refl _ _ | refine Below.alloc ?_ (by simp; try omega) _ | refine Below.setCell ?_ (by simp; try omega) _ | refine taDr ?_ _)))
  clear hW
  obtain ⟨ι, fW, _, hb, hall⟩ := belClass W
  have HB := hide hb
  have HA := hide hall
  have c00 : ∀ x, (fW x).cell? ⟨w.heap.size, 0, none⟩ = some (.int .i64 oi) := fun x => ((unhide K0).below (hb x)).c 0 (by simp)
  have c01 : ∀ x, (fW x).cell? ⟨w.heap.size, 1, none⟩ = some (.int .i64 oh) := fun x => ((unhide K0).below (hb x)).c 1 (by simp)
  have c02 : ∀ x, (fW x).cell? ⟨w.heap.size, 2, none⟩ = some (.int .i64 oc) := fun x => ((unhide K0).below (hb x)).c 2 (by simp)
  have c03 : ∀ x, (fW x).cell? ⟨w.heap.size, 3, none⟩ = some (.int .i64 0) := fun x => ((unhide K0).below (hb x)).c 3 (by simp)
  have c10 : ∀ x, (fW x).cell? ⟨w.heap.size + 1, 0, none⟩ = some (.int .i64 ti) := fun x => ((unhide K1).below (hb x)).c 0 (by simp)
  have c11 : ∀ x, (fW x).cell? ⟨w.heap.size + 1, 1, none⟩ = some (.int .i64 th) := fun x => ((unhide K1).below (hb x)).c 1 (by simp)
  have c12 : ∀ x, (fW x).cell? ⟨w.heap.size + 1, 2, none⟩ = some (.int .i64 tc) := fun x => ((unhide K1).below (hb x)).c 2 (by simp)
  have c13 : ∀ x, (fW x).cell? ⟨w.heap.size + 1, 3, none⟩ = some (.int .i64 tf) := fun x => ((unhide K1).below (hb x)).c 3 (by simp)
  have c14 : ∀ x, (fW x).cell? ⟨w.heap.size + 1, 4, none⟩ = some (.int .i64 tk) := fun x => ((unhide K1).below (hb x)).c 4 (by simp)
  have c15 : ∀ x, (fW x).cell? ⟨w.heap.size + 1, 5, none⟩ = some (.int .i64 0) := fun x => ((unhide K1).below (hb x)).c 5 (by simp)
  clear hb hall
  obtain ⟨x0, h0⟩ := (unhide HA) W (Below.refl _ _)
  rw [h0]
  clear h0
  go_wp2_with (first | (go_at_call 12; refine (belQ (unhide HB) (unhide HA) (specThreat_is _ _ _ _ _ _ _ _ _ _ _ _ _ (unhide HT))).mono ?_; rintro e _ ⟨rfl, y, rfl⟩) | (go_at_call 9; refine (belQ (unhide HB) (unhide HA) (specTicksTo_is _ _ _ _ _ _ _ (unhide HN) (unhide HI))).mono ?_; rintro e _ ⟨rfl, y, rfl⟩) | (go_at_call 33; refine (belS (l1Abs_any _ _ (by omega) (by omega))).mono ?_; rintro e _ ⟨rfl, y, rfl⟩))
  repeat (refine wp_region_bel (fun w' h => (unhide HA) w' ((unhide HB _).trans (h.mono (unhide HB _).size))) (by kernel_rfl) (by kernel_rfl) ?_; (repeat (go_big_quiet_step (first | (go_at_call 12; exact belQ (unhide HB) (unhide HA) (specThreat_is _ _ _ _ _ _ _ _ _ _ _ _ _ (unhide HT))) | (go_at_call 9; exact belQ (unhide HB) (unhide HA) (specTicksTo_is _ _ _ _ _ _ _ (unhide HN) (unhide HI))) | (go_at_call 33; exact belS (l1Abs_any _ _ (by omega) (by omega)))))); refine wpQuiet_nil ?_; rintro _ ⟨y, rfl⟩; (first | go_wp2_with (first | (go_at_call 12; refine (belQ (unhide HB) (unhide HA) (specThreat_is _ _ _ _ _ _ _ _ _ _ _ _ _ (unhide HT))).mono ?_; rintro e _ ⟨rfl, y, rfl⟩) | (go_at_call 9; refine (belQ (unhide HB) (unhide HA) (specTicksTo_is _ _ _ _ _ _ _ (unhide HN) (unhide HI))).mono ?_; rintro e _ ⟨rfl, y, rfl⟩) | (go_at_call 33; refine (belS (l1Abs_any _ _ (by omega) (by omega))).mono ?_; rintro e _ ⟨rfl, y, rfl⟩)) | go_wp2))
  go_ret
  exact ⟨rfl, (unhide B0).trans ((unhide HB _).mono (unhide B0).size)⟩

set_option maxRecDepth 20000 in
set_option maxHeartbeats 4000000 in
theorem specAdv_s2 (oi oh oc ti tc tf tk near wi n : Int) (w : World) (HT : Hid (thB oi oh oc 0 ti oh tc tf tk 0 near wi = true)) (HN : Hid (tiN ti oh tc tf tk 0 = n)) (HI : Hid (tiB ti oh tc tf tk 0 = true)) (nb : 0 ≤ n ∧ n ≤ 1001000) (ho : 0 ≤ oh ∧ oh ≤ 60000) (hoc : -200 ≤ oc ∧ oc ≤ 200) (htc : -200 ≤ tc ∧ tc ≤ 200) (hd : (oh + n * oc - oh - n * tc + 100 * n).natAbs = (oh + n * oc - oh - n * tc - 100 * n).natAbs) (q5 : ti < oi) :
    Calls Try.prog 15 #[.agg #[.int .i64 oi, .int .i64 oh, .int .i64 oc, .int .i64 0], .agg #[.int .i64 ti, .int .i64 oh, .int .i64 tc, .int .i64 tf, .int .i64 tk, .int .i64 0], .int .i64 near, .int .i64 wi] w fun e w' => e = .returned (.int .i64 1) ∧ Below w.heap.size w w' := by
  have i1 : decide ((oh + n * oc - oh - n * tc - 100 * n).natAbs < (oh + n * oc - oh - n * tc + 100 * n).natAbs) = false := by simp only [decide_eq_false_iff_not]; omega
  have i2 : decide ((oh + n * oc - oh - n * tc + 100 * n).natAbs < (oh + n * oc - oh - n * tc - 100 * n).natAbs) = false := by simp only [decide_eq_false_iff_not]; omega
  have i3 : (oh + n * oc - oh - n * tc + 100 * n).natAbs ≤ (oh + n * oc - oh - n * tc - 100 * n).natAbs := by omega
  clear hd
  have i4 : (oh + n * oc - oh - n * tc - 100 * n).natAbs ≤ (oh + n * oc - oh - n * tc + 100 * n).natAbs := by simp only [decide_eq_false_iff_not] at i2; omega
  have j1 : decide (ti < oi) = true := decide_eq_true q5
  have g6 := mulBd (s := n) (d := oc) (A := 1001000) (B := 300) (by omega) (by omega) (by omega) (by omega) (by omega) (by omega)
  have g8 := mulBd (s := n) (d := tc) (A := 1001000) (B := 300) (by omega) (by omega) (by omega) (by omega) (by omega) (by omega)
  go_enter Try.func15, Try.ntmps15
  go_wp2_with fail
  obtain ⟨W, hW⟩ : ∃ W, W = ((w.alloc (Obj.cells #[.int .i64 oi, .int .i64 oh, .int .i64 oc, .int .i64 0] 32)).alloc (Obj.cells #[.int .i64 ti, .int .i64 oh, .int .i64 tc, .int .i64 tf, .int .i64 tk, .int .i64 0] 26)) := ⟨_, rfl⟩
  rw [← hW]
  have K0 : Hid (Blk W (w.heap.size) [.int .i64 oi, .int .i64 oh, .int .i64 oc, .int .i64 0]) := hide (by rw [hW]; exact blkAt2_0)
  have K1 : Hid (Blk W (w.heap.size + 1) [.int .i64 ti, .int .i64 oh, .int .i64 tc, .int .i64 tf, .int .i64 tk, .int .i64 0]) := hide (by rw [hW]; exact blkAt2_1)
  have B0 : Hid (Below w.heap.size w W) := hide (by rw [hW]; exact (by repeat (first | exact Below.refl _ _ | refine Below.alloc ?_ (by simp; try omega) _ | refine Below.setCell ?_ (by simp; try omega) _ | refine taDr ?_ _)))
  clear hW
  obtain ⟨ι, fW, _, hb, hall⟩ := belClass W
  have HB := hide hb
  have HA := hide hall
  have c00 : ∀ x, (fW x).cell? ⟨w.heap.size, 0, none⟩ = some (.int .i64 oi) := fun x => ((unhide K0).below (hb x)).c 0 (by simp)
  have c01 : ∀ x, (fW x).cell? ⟨w.heap.size, 1, none⟩ = some (.int .i64 oh) := fun x => ((unhide K0).below (hb x)).c 1 (by simp)
  have c02 : ∀ x, (fW x).cell? ⟨w.heap.size, 2, none⟩ = some (.int .i64 oc) := fun x => ((unhide K0).below (hb x)).c 2 (by simp)
  have c03 : ∀ x, (fW x).cell? ⟨w.heap.size, 3, none⟩ = some (.int .i64 0) := fun x => ((unhide K0).below (hb x)).c 3 (by simp)
  have c10 : ∀ x, (fW x).cell? ⟨w.heap.size + 1, 0, none⟩ = some (.int .i64 ti) := fun x => ((unhide K1).below (hb x)).c 0 (by simp)
  have c11 : ∀ x, (fW x).cell? ⟨w.heap.size + 1, 1, none⟩ = some (.int .i64 oh) := fun x => ((unhide K1).below (hb x)).c 1 (by simp)
  have c12 : ∀ x, (fW x).cell? ⟨w.heap.size + 1, 2, none⟩ = some (.int .i64 tc) := fun x => ((unhide K1).below (hb x)).c 2 (by simp)
  have c13 : ∀ x, (fW x).cell? ⟨w.heap.size + 1, 3, none⟩ = some (.int .i64 tf) := fun x => ((unhide K1).below (hb x)).c 3 (by simp)
  have c14 : ∀ x, (fW x).cell? ⟨w.heap.size + 1, 4, none⟩ = some (.int .i64 tk) := fun x => ((unhide K1).below (hb x)).c 4 (by simp)
  have c15 : ∀ x, (fW x).cell? ⟨w.heap.size + 1, 5, none⟩ = some (.int .i64 0) := fun x => ((unhide K1).below (hb x)).c 5 (by simp)
  clear hb hall
  obtain ⟨x0, h0⟩ := (unhide HA) W (Below.refl _ _)
  rw [h0]
  clear h0
  go_wp2_with (first | (go_at_call 12; refine (belQ (unhide HB) (unhide HA) (specThreat_is _ _ _ _ _ _ _ _ _ _ _ _ _ (unhide HT))).mono ?_; rintro e _ ⟨rfl, y, rfl⟩) | (go_at_call 9; refine (belQ (unhide HB) (unhide HA) (specTicksTo_is _ _ _ _ _ _ _ (unhide HN) (unhide HI))).mono ?_; rintro e _ ⟨rfl, y, rfl⟩) | (go_at_call 33; refine (belS (l1Abs_any _ _ (by omega) (by omega))).mono ?_; rintro e _ ⟨rfl, y, rfl⟩))
  repeat (refine wp_region_bel (fun w' h => (unhide HA) w' ((unhide HB _).trans (h.mono (unhide HB _).size))) (by kernel_rfl) (by kernel_rfl) ?_; (repeat (go_big_quiet_step (first | (go_at_call 12; exact belQ (unhide HB) (unhide HA) (specThreat_is _ _ _ _ _ _ _ _ _ _ _ _ _ (unhide HT))) | (go_at_call 9; exact belQ (unhide HB) (unhide HA) (specTicksTo_is _ _ _ _ _ _ _ (unhide HN) (unhide HI))) | (go_at_call 33; exact belS (l1Abs_any _ _ (by omega) (by omega)))))); refine wpQuiet_nil ?_; rintro _ ⟨y, rfl⟩; (first | go_wp2_with (first | (go_at_call 12; refine (belQ (unhide HB) (unhide HA) (specThreat_is _ _ _ _ _ _ _ _ _ _ _ _ _ (unhide HT))).mono ?_; rintro e _ ⟨rfl, y, rfl⟩) | (go_at_call 9; refine (belQ (unhide HB) (unhide HA) (specTicksTo_is _ _ _ _ _ _ _ (unhide HN) (unhide HI))).mono ?_; rintro e _ ⟨rfl, y, rfl⟩) | (go_at_call 33; refine (belS (l1Abs_any _ _ (by omega) (by omega))).mono ?_; rintro e _ ⟨rfl, y, rfl⟩)) | go_wp2))
  go_ret
  exact ⟨rfl, (unhide B0).trans ((unhide HB _).mono (unhide B0).size)⟩

set_option maxRecDepth 20000 in
set_option maxHeartbeats 4000000 in
theorem specAdv_s3 (oi oh oc ti tc tf tk near wi n : Int) (w : World) (HT : Hid (thB oi oh oc 0 ti oh tc tf tk 0 near wi = true)) (HN : Hid (tiN ti oh tc tf tk 0 = n)) (HI : Hid (tiB ti oh tc tf tk 0 = true)) (nb : 0 ≤ n ∧ n ≤ 1001000) (ho : 0 ≤ oh ∧ oh ≤ 60000) (hoc : -200 ≤ oc ∧ oc ≤ 200) (htc : -200 ≤ tc ∧ tc ≤ 200) (hd : (oh + n * oc - oh - n * tc + 100 * n).natAbs = (oh + n * oc - oh - n * tc - 100 * n).natAbs) (q5 : ¬ ti < oi) :
    Calls Try.prog 15 #[.agg #[.int .i64 oi, .int .i64 oh, .int .i64 oc, .int .i64 0], .agg #[.int .i64 ti, .int .i64 oh, .int .i64 tc, .int .i64 tf, .int .i64 tk, .int .i64 0], .int .i64 near, .int .i64 wi] w fun e w' => e = .returned (.int .i64 2) ∧ Below w.heap.size w w' := by
  have i1 : decide ((oh + n * oc - oh - n * tc - 100 * n).natAbs < (oh + n * oc - oh - n * tc + 100 * n).natAbs) = false := by simp only [decide_eq_false_iff_not]; omega
  have i2 : decide ((oh + n * oc - oh - n * tc + 100 * n).natAbs < (oh + n * oc - oh - n * tc - 100 * n).natAbs) = false := by simp only [decide_eq_false_iff_not]; omega
  have i3 : (oh + n * oc - oh - n * tc + 100 * n).natAbs ≤ (oh + n * oc - oh - n * tc - 100 * n).natAbs := by omega
  clear hd
  have i4 : (oh + n * oc - oh - n * tc - 100 * n).natAbs ≤ (oh + n * oc - oh - n * tc + 100 * n).natAbs := by simp only [decide_eq_false_iff_not] at i2; omega
  have j1 : decide (ti < oi) = false := decide_eq_false q5
  have g6 := mulBd (s := n) (d := oc) (A := 1001000) (B := 300) (by omega) (by omega) (by omega) (by omega) (by omega) (by omega)
  have g8 := mulBd (s := n) (d := tc) (A := 1001000) (B := 300) (by omega) (by omega) (by omega) (by omega) (by omega) (by omega)
  go_enter Try.func15, Try.ntmps15
  go_wp2_with fail
  obtain ⟨W, hW⟩ : ∃ W, W = ((w.alloc (Obj.cells #[.int .i64 oi, .int .i64 oh, .int .i64 oc, .int .i64 0] 32)).alloc (Obj.cells #[.int .i64 ti, .int .i64 oh, .int .i64 tc, .int .i64 tf, .int .i64 tk, .int .i64 0] 26)) := ⟨_, rfl⟩
  rw [← hW]
  have K0 : Hid (Blk W (w.heap.size) [.int .i64 oi, .int .i64 oh, .int .i64 oc, .int .i64 0]) := hide (by rw [hW]; exact blkAt2_0)
  have K1 : Hid (Blk W (w.heap.size + 1) [.int .i64 ti, .int .i64 oh, .int .i64 tc, .int .i64 tf, .int .i64 tk, .int .i64 0]) := hide (by rw [hW]; exact blkAt2_1)
  have B0 : Hid (Below w.heap.size w W) := hide (by rw [hW]; exact (by repeat (first | exact Below.refl _ _ | refine Below.alloc ?_ (by simp; try omega) _ | refine Below.setCell ?_ (by simp; try omega) _ | refine taDr ?_ _)))
  clear hW
  obtain ⟨ι, fW, _, hb, hall⟩ := belClass W
  have HB := hide hb
  have HA := hide hall
  have c00 : ∀ x, (fW x).cell? ⟨w.heap.size, 0, none⟩ = some (.int .i64 oi) := fun x => ((unhide K0).below (hb x)).c 0 (by simp)
  have c01 : ∀ x, (fW x).cell? ⟨w.heap.size, 1, none⟩ = some (.int .i64 oh) := fun x => ((unhide K0).below (hb x)).c 1 (by simp)
  have c02 : ∀ x, (fW x).cell? ⟨w.heap.size, 2, none⟩ = some (.int .i64 oc) := fun x => ((unhide K0).below (hb x)).c 2 (by simp)
  have c03 : ∀ x, (fW x).cell? ⟨w.heap.size, 3, none⟩ = some (.int .i64 0) := fun x => ((unhide K0).below (hb x)).c 3 (by simp)
  have c10 : ∀ x, (fW x).cell? ⟨w.heap.size + 1, 0, none⟩ = some (.int .i64 ti) := fun x => ((unhide K1).below (hb x)).c 0 (by simp)
  have c11 : ∀ x, (fW x).cell? ⟨w.heap.size + 1, 1, none⟩ = some (.int .i64 oh) := fun x => ((unhide K1).below (hb x)).c 1 (by simp)
  have c12 : ∀ x, (fW x).cell? ⟨w.heap.size + 1, 2, none⟩ = some (.int .i64 tc) := fun x => ((unhide K1).below (hb x)).c 2 (by simp)
  have c13 : ∀ x, (fW x).cell? ⟨w.heap.size + 1, 3, none⟩ = some (.int .i64 tf) := fun x => ((unhide K1).below (hb x)).c 3 (by simp)
  have c14 : ∀ x, (fW x).cell? ⟨w.heap.size + 1, 4, none⟩ = some (.int .i64 tk) := fun x => ((unhide K1).below (hb x)).c 4 (by simp)
  have c15 : ∀ x, (fW x).cell? ⟨w.heap.size + 1, 5, none⟩ = some (.int .i64 0) := fun x => ((unhide K1).below (hb x)).c 5 (by simp)
  clear hb hall
  obtain ⟨x0, h0⟩ := (unhide HA) W (Below.refl _ _)
  rw [h0]
  clear h0
  go_wp2_with (first | (go_at_call 12; refine (belQ (unhide HB) (unhide HA) (specThreat_is _ _ _ _ _ _ _ _ _ _ _ _ _ (unhide HT))).mono ?_; rintro e _ ⟨rfl, y, rfl⟩) | (go_at_call 9; refine (belQ (unhide HB) (unhide HA) (specTicksTo_is _ _ _ _ _ _ _ (unhide HN) (unhide HI))).mono ?_; rintro e _ ⟨rfl, y, rfl⟩) | (go_at_call 33; refine (belS (l1Abs_any _ _ (by omega) (by omega))).mono ?_; rintro e _ ⟨rfl, y, rfl⟩))
  repeat (refine wp_region_bel (fun w' h => (unhide HA) w' ((unhide HB _).trans (h.mono (unhide HB _).size))) (by kernel_rfl) (by kernel_rfl) ?_; (repeat (go_big_quiet_step (first | (go_at_call 12; exact belQ (unhide HB) (unhide HA) (specThreat_is _ _ _ _ _ _ _ _ _ _ _ _ _ (unhide HT))) | (go_at_call 9; exact belQ (unhide HB) (unhide HA) (specTicksTo_is _ _ _ _ _ _ _ (unhide HN) (unhide HI))) | (go_at_call 33; exact belS (l1Abs_any _ _ (by omega) (by omega)))))); refine wpQuiet_nil ?_; rintro _ ⟨y, rfl⟩; (first | go_wp2_with (first | (go_at_call 12; refine (belQ (unhide HB) (unhide HA) (specThreat_is _ _ _ _ _ _ _ _ _ _ _ _ _ (unhide HT))).mono ?_; rintro e _ ⟨rfl, y, rfl⟩) | (go_at_call 9; refine (belQ (unhide HB) (unhide HA) (specTicksTo_is _ _ _ _ _ _ _ (unhide HN) (unhide HI))).mono ?_; rintro e _ ⟨rfl, y, rfl⟩) | (go_at_call 33; refine (belS (l1Abs_any _ _ (by omega) (by omega))).mono ?_; rintro e _ ⟨rfl, y, rfl⟩)) | go_wp2))
  go_ret
  exact ⟨rfl, (unhide B0).trans ((unhide HB _).mono (unhide B0).size)⟩

set_option maxRecDepth 20000 in
set_option maxHeartbeats 4000000 in
theorem specAdv_s4 (oi oh oc ti th tc tf tk near wi n : Int) (w : World) (HT : Hid (thB oi oh oc 0 ti th tc tf tk 0 near wi = true)) (HN : Hid (tiN ti th tc tf tk 0 = n)) (HI : Hid (tiB ti th tc tf tk 0 = true)) (nb : 0 ≤ n ∧ n ≤ 1001000) (ho : 0 ≤ oh ∧ oh ≤ 60000) (hoc : -200 ≤ oc ∧ oc ≤ 200) (ht : 0 ≤ th ∧ th ≤ 60000) (htc : -200 ≤ tc ∧ tc ≤ 200) (hd : (oh + n * oc - th - n * tc + 100 * n).natAbs = (oh + n * oc - th - n * tc - 100 * n).natAbs) (q5 : oh < th) :
    Calls Try.prog 15 #[.agg #[.int .i64 oi, .int .i64 oh, .int .i64 oc, .int .i64 0], .agg #[.int .i64 ti, .int .i64 th, .int .i64 tc, .int .i64 tf, .int .i64 tk, .int .i64 0], .int .i64 near, .int .i64 wi] w fun e w' => e = .returned (.int .i64 2) ∧ Below w.heap.size w w' := by
  have i1 : decide ((oh + n * oc - th - n * tc - 100 * n).natAbs < (oh + n * oc - th - n * tc + 100 * n).natAbs) = false := by simp only [decide_eq_false_iff_not]; omega
  have i2 : decide ((oh + n * oc - th - n * tc + 100 * n).natAbs < (oh + n * oc - th - n * tc - 100 * n).natAbs) = false := by simp only [decide_eq_false_iff_not]; omega
  have i3 : (oh + n * oc - th - n * tc + 100 * n).natAbs ≤ (oh + n * oc - th - n * tc - 100 * n).natAbs := by omega
  clear hd
  have i4 : (oh + n * oc - th - n * tc - 100 * n).natAbs ≤ (oh + n * oc - th - n * tc + 100 * n).natAbs := by simp only [decide_eq_false_iff_not] at i2; omega
  have j1 : decide (th < oh) = false := decide_eq_false (by omega)
  have j2 : (oh == th) = false := by simp only [beq_eq_false_iff_ne, ne_eq]; omega
  have j3 : ¬ oh = th := by omega
  have j4 : ¬ th < oh := by omega
  have g6 := mulBd (s := n) (d := oc) (A := 1001000) (B := 300) (by omega) (by omega) (by omega) (by omega) (by omega) (by omega)
  have g8 := mulBd (s := n) (d := tc) (A := 1001000) (B := 300) (by omega) (by omega) (by omega) (by omega) (by omega) (by omega)
  go_enter Try.func15, Try.ntmps15
  go_wp2_with fail
  obtain ⟨W, hW⟩ : ∃ W, W = ((w.alloc (Obj.cells #[.int .i64 oi, .int .i64 oh, .int .i64 oc, .int .i64 0] 32)).alloc (Obj.cells #[.int .i64 ti, .int .i64 th, .int .i64 tc, .int .i64 tf, .int .i64 tk, .int .i64 0] 26)) := ⟨_, rfl⟩
  rw [← hW]
  have K0 : Hid (Blk W (w.heap.size) [.int .i64 oi, .int .i64 oh, .int .i64 oc, .int .i64 0]) := hide (by rw [hW]; exact blkAt2_0)
  have K1 : Hid (Blk W (w.heap.size + 1) [.int .i64 ti, .int .i64 th, .int .i64 tc, .int .i64 tf, .int .i64 tk, .int .i64 0]) := hide (by rw [hW]; exact blkAt2_1)
  have B0 : Hid (Below w.heap.size w W) := hide (by rw [hW]; exact (by repeat (first | exact Below.refl _ _ | refine Below.alloc ?_ (by simp; try omega) _ | refine Below.setCell ?_ (by simp; try omega) _ | refine taDr ?_ _)))
  clear hW
  obtain ⟨ι, fW, _, hb, hall⟩ := belClass W
  have HB := hide hb
  have HA := hide hall
  have c00 : ∀ x, (fW x).cell? ⟨w.heap.size, 0, none⟩ = some (.int .i64 oi) := fun x => ((unhide K0).below (hb x)).c 0 (by simp)
  have c01 : ∀ x, (fW x).cell? ⟨w.heap.size, 1, none⟩ = some (.int .i64 oh) := fun x => ((unhide K0).below (hb x)).c 1 (by simp)
  have c02 : ∀ x, (fW x).cell? ⟨w.heap.size, 2, none⟩ = some (.int .i64 oc) := fun x => ((unhide K0).below (hb x)).c 2 (by simp)
  have c03 : ∀ x, (fW x).cell? ⟨w.heap.size, 3, none⟩ = some (.int .i64 0) := fun x => ((unhide K0).below (hb x)).c 3 (by simp)
  have c10 : ∀ x, (fW x).cell? ⟨w.heap.size + 1, 0, none⟩ = some (.int .i64 ti) := fun x => ((unhide K1).below (hb x)).c 0 (by simp)
  have c11 : ∀ x, (fW x).cell? ⟨w.heap.size + 1, 1, none⟩ = some (.int .i64 th) := fun x => ((unhide K1).below (hb x)).c 1 (by simp)
  have c12 : ∀ x, (fW x).cell? ⟨w.heap.size + 1, 2, none⟩ = some (.int .i64 tc) := fun x => ((unhide K1).below (hb x)).c 2 (by simp)
  have c13 : ∀ x, (fW x).cell? ⟨w.heap.size + 1, 3, none⟩ = some (.int .i64 tf) := fun x => ((unhide K1).below (hb x)).c 3 (by simp)
  have c14 : ∀ x, (fW x).cell? ⟨w.heap.size + 1, 4, none⟩ = some (.int .i64 tk) := fun x => ((unhide K1).below (hb x)).c 4 (by simp)
  have c15 : ∀ x, (fW x).cell? ⟨w.heap.size + 1, 5, none⟩ = some (.int .i64 0) := fun x => ((unhide K1).below (hb x)).c 5 (by simp)
  clear hb hall
  obtain ⟨x0, h0⟩ := (unhide HA) W (Below.refl _ _)
  rw [h0]
  clear h0
  go_wp2_with (first | (go_at_call 12; refine (belQ (unhide HB) (unhide HA) (specThreat_is _ _ _ _ _ _ _ _ _ _ _ _ _ (unhide HT))).mono ?_; rintro e _ ⟨rfl, y, rfl⟩) | (go_at_call 9; refine (belQ (unhide HB) (unhide HA) (specTicksTo_is _ _ _ _ _ _ _ (unhide HN) (unhide HI))).mono ?_; rintro e _ ⟨rfl, y, rfl⟩) | (go_at_call 33; refine (belS (l1Abs_any _ _ (by omega) (by omega))).mono ?_; rintro e _ ⟨rfl, y, rfl⟩))
  repeat (refine wp_region_bel (fun w' h => (unhide HA) w' ((unhide HB _).trans (h.mono (unhide HB _).size))) (by kernel_rfl) (by kernel_rfl) ?_; (repeat (go_big_quiet_step (first | (go_at_call 12; exact belQ (unhide HB) (unhide HA) (specThreat_is _ _ _ _ _ _ _ _ _ _ _ _ _ (unhide HT))) | (go_at_call 9; exact belQ (unhide HB) (unhide HA) (specTicksTo_is _ _ _ _ _ _ _ (unhide HN) (unhide HI))) | (go_at_call 33; exact belS (l1Abs_any _ _ (by omega) (by omega)))))); refine wpQuiet_nil ?_; rintro _ ⟨y, rfl⟩; (first | go_wp2_with (first | (go_at_call 12; refine (belQ (unhide HB) (unhide HA) (specThreat_is _ _ _ _ _ _ _ _ _ _ _ _ _ (unhide HT))).mono ?_; rintro e _ ⟨rfl, y, rfl⟩) | (go_at_call 9; refine (belQ (unhide HB) (unhide HA) (specTicksTo_is _ _ _ _ _ _ _ (unhide HN) (unhide HI))).mono ?_; rintro e _ ⟨rfl, y, rfl⟩) | (go_at_call 33; refine (belS (l1Abs_any _ _ (by omega) (by omega))).mono ?_; rintro e _ ⟨rfl, y, rfl⟩)) | go_wp2))
  go_ret
  exact ⟨rfl, (unhide B0).trans ((unhide HB _).mono (unhide B0).size)⟩

set_option maxRecDepth 20000 in
set_option maxHeartbeats 3000000 in
theorem specAdvise_is {r : Int} (oi oh oc os ti th tc tf tk ts near wi : Int) (w : World) (hc : adR oi oh oc os ti th tc tf tk ts near wi = r) :
    Calls Try.prog 15 #[.agg #[.int .i64 oi, .int .i64 oh, .int .i64 oc, .int .i64 os], .agg #[.int .i64 ti, .int .i64 th, .int .i64 tc, .int .i64 tf, .int .i64 tk, .int .i64 ts], .int .i64 near, .int .i64 wi] w fun e w' => e = .returned (.int .i64 r) ∧ Below w.heap.size w w' := by
  cases ht : thB oi oh oc os ti th tc tf tk ts near wi with
  | false =>
    have HR := hide (hc.symm.trans (adR_no ht))
    have HT := hide ht
    clear hc ht
    go_enter Try.func15, Try.ntmps15
    go_wp2_with fail
    obtain ⟨W, hW⟩ : ∃ W, W = ((w.alloc (Obj.cells #[.int .i64 oi, .int .i64 oh, .int .i64 oc, .int .i64 os] 32)).alloc (Obj.cells #[.int .i64 ti, .int .i64 th, .int .i64 tc, .int .i64 tf, .int .i64 tk, .int .i64 ts] 26)) := ⟨_, rfl⟩
    rw [← hW]
    have K0 : Hid (Blk W (w.heap.size) [.int .i64 oi, .int .i64 oh, .int .i64 oc, .int .i64 os]) := hide (by rw [hW]; exact blkAt2_0)
    have K1 : Hid (Blk W (w.heap.size + 1) [.int .i64 ti, .int .i64 th, .int .i64 tc, .int .i64 tf, .int .i64 tk, .int .i64 ts]) := hide (by rw [hW]; exact blkAt2_1)
    have B0 : Hid (Below w.heap.size w W) := hide (by rw [hW]; exact (by repeat (first | exact Below.refl _ _ | refine Below.alloc ?_ (by simp; try omega) _ | refine Below.setCell ?_ (by simp; try omega) _ | refine taDr ?_ _)))
    clear hW
    obtain ⟨ι, fW, _, hb, hall⟩ := belClass W
    have HB := hide hb
    have HA := hide hall
    have c00 : ∀ x, (fW x).cell? ⟨w.heap.size, 0, none⟩ = some (.int .i64 oi) := fun x => ((unhide K0).below (hb x)).c 0 (by simp)
    have c01 : ∀ x, (fW x).cell? ⟨w.heap.size, 1, none⟩ = some (.int .i64 oh) := fun x => ((unhide K0).below (hb x)).c 1 (by simp)
    have c02 : ∀ x, (fW x).cell? ⟨w.heap.size, 2, none⟩ = some (.int .i64 oc) := fun x => ((unhide K0).below (hb x)).c 2 (by simp)
    have c03 : ∀ x, (fW x).cell? ⟨w.heap.size, 3, none⟩ = some (.int .i64 os) := fun x => ((unhide K0).below (hb x)).c 3 (by simp)
    have c10 : ∀ x, (fW x).cell? ⟨w.heap.size + 1, 0, none⟩ = some (.int .i64 ti) := fun x => ((unhide K1).below (hb x)).c 0 (by simp)
    have c11 : ∀ x, (fW x).cell? ⟨w.heap.size + 1, 1, none⟩ = some (.int .i64 th) := fun x => ((unhide K1).below (hb x)).c 1 (by simp)
    have c12 : ∀ x, (fW x).cell? ⟨w.heap.size + 1, 2, none⟩ = some (.int .i64 tc) := fun x => ((unhide K1).below (hb x)).c 2 (by simp)
    have c13 : ∀ x, (fW x).cell? ⟨w.heap.size + 1, 3, none⟩ = some (.int .i64 tf) := fun x => ((unhide K1).below (hb x)).c 3 (by simp)
    have c14 : ∀ x, (fW x).cell? ⟨w.heap.size + 1, 4, none⟩ = some (.int .i64 tk) := fun x => ((unhide K1).below (hb x)).c 4 (by simp)
    have c15 : ∀ x, (fW x).cell? ⟨w.heap.size + 1, 5, none⟩ = some (.int .i64 ts) := fun x => ((unhide K1).below (hb x)).c 5 (by simp)
    clear hb hall
    obtain ⟨x0, h0⟩ := (unhide HA) W (Below.refl _ _)
    rw [h0]
    clear h0
    go_wp2_with (first | (go_at_call 12; refine (belQ (unhide HB) (unhide HA) (specThreat_is _ _ _ _ _ _ _ _ _ _ _ _ _ (unhide HT))).mono ?_; rintro e _ ⟨rfl, y, rfl⟩))
    repeat (refine wp_region_bel (fun w' h => (unhide HA) w' ((unhide HB _).trans (h.mono (unhide HB _).size))) (by kernel_rfl) (by kernel_rfl) ?_; (repeat (go_big_quiet_step (first | (go_at_call 12; exact belQ (unhide HB) (unhide HA) (specThreat_is _ _ _ _ _ _ _ _ _ _ _ _ _ (unhide HT)))))); refine wpQuiet_nil ?_; rintro _ ⟨y, rfl⟩; (first | go_wp2_with (first | (go_at_call 12; refine (belQ (unhide HB) (unhide HA) (specThreat_is _ _ _ _ _ _ _ _ _ _ _ _ _ (unhide HT))).mono ?_; rintro e _ ⟨rfl, y, rfl⟩)) | go_wp2))
    go_ret
    exact ⟨ret_int (unhide HR).symm, (unhide B0).trans ((unhide HB _).mono (unhide B0).size)⟩
  | true =>
    have g1 := thB_facts ht
    have g2 := avB_facts g1.2.1
    have g3 := avB_facts (tcB_facts (tiB_facts g1.1).1).1
    by_cases h2 : os = 0
    · by_cases h3 : ts = 0
      · have hr := hc.symm.trans (adR_free ht h2 h3)
        clear hc
        subst h2
        subst h3
        have nb := tiN_bd ti th tc tf tk 0
        obtain ⟨n, hn⟩ : ∃ n, tiN ti th tc tf tk 0 = n := ⟨_, rfl⟩
        rw [hn] at nb hr
        have e1 : dfN oh oc th tc n + 100 * n = oh + n * oc - th - n * tc + 100 * n := rfl
        have e2 : dfN oh oc th tc n - 100 * n = oh + n * oc - th - n * tc - 100 * n := rfl
        rcases Nat.lt_trichotomy (dfN oh oc th tc n + 100 * n).natAbs (dfN oh oc th tc n - 100 * n).natAbs with k | k | k
        · rw [hr, frS_down k]
          rw [e1, e2] at k
          exact specAdv_dn oi oh oc ti th tc tf tk near wi n w (hide ht) (hide hn) (hide g1.1) nb g2.2.1 g2.2.2.1 g3.2.1 g3.2.2.1 k
        · rw [hr, frS_same k]
          rw [e1, e2] at k
          rcases Int.lt_trichotomy th oh with e | e | e
          · rw [if_pos (Or.inl e)]
            exact specAdv_s1 oi oh oc ti th tc tf tk near wi n w (hide ht) (hide hn) (hide g1.1) nb g2.2.1 g2.2.2.1 g3.2.1 g3.2.2.1 k e
          · subst e
            by_cases e3 : ti < oi
            · rw [if_pos (Or.inr ⟨rfl, e3⟩)]
              exact specAdv_s2 oi th oc ti tc tf tk near wi n w (hide ht) (hide hn) (hide g1.1) nb g2.2.1 g2.2.2.1 g3.2.2.1 k e3
            · rw [if_neg (by omega)]
              exact specAdv_s3 oi th oc ti tc tf tk near wi n w (hide ht) (hide hn) (hide g1.1) nb g2.2.1 g2.2.2.1 g3.2.2.1 k e3
          · rw [if_neg (by omega)]
            exact specAdv_s4 oi oh oc ti th tc tf tk near wi n w (hide ht) (hide hn) (hide g1.1) nb g2.2.1 g2.2.2.1 g3.2.1 g3.2.2.1 k e
        · rw [hr, frS_up k]
          rw [e1, e2] at k
          exact specAdv_up oi oh oc ti th tc tf tk near wi n w (hide ht) (hide hn) (hide g1.1) nb g2.2.1 g2.2.2.1 g3.2.1 g3.2.2.1 k
      · have HR := hide (hc.symm.trans (adR_oth ht h2 h3))
        subst h2
        have e1 : (ts != 0) = true := by simpa using h3
        have HT := hide ht
        clear hc ht g1 g2
        go_enter Try.func15, Try.ntmps15
        go_wp2_with fail
        obtain ⟨W, hW⟩ : ∃ W, W = ((w.alloc (Obj.cells #[.int .i64 oi, .int .i64 oh, .int .i64 oc, .int .i64 0] 32)).alloc (Obj.cells #[.int .i64 ti, .int .i64 th, .int .i64 tc, .int .i64 tf, .int .i64 tk, .int .i64 ts] 26)) := ⟨_, rfl⟩
        rw [← hW]
        have K0 : Hid (Blk W (w.heap.size) [.int .i64 oi, .int .i64 oh, .int .i64 oc, .int .i64 0]) := hide (by rw [hW]; exact blkAt2_0)
        have K1 : Hid (Blk W (w.heap.size + 1) [.int .i64 ti, .int .i64 th, .int .i64 tc, .int .i64 tf, .int .i64 tk, .int .i64 ts]) := hide (by rw [hW]; exact blkAt2_1)
        have B0 : Hid (Below w.heap.size w W) := hide (by rw [hW]; exact (by repeat (first | exact Below.refl _ _ | refine Below.alloc ?_ (by simp; try omega) _ | refine Below.setCell ?_ (by simp; try omega) _ | refine taDr ?_ _)))
        clear hW
        obtain ⟨ι, fW, _, hb, hall⟩ := belClass W
        have HB := hide hb
        have HA := hide hall
        have c00 : ∀ x, (fW x).cell? ⟨w.heap.size, 0, none⟩ = some (.int .i64 oi) := fun x => ((unhide K0).below (hb x)).c 0 (by simp)
        have c01 : ∀ x, (fW x).cell? ⟨w.heap.size, 1, none⟩ = some (.int .i64 oh) := fun x => ((unhide K0).below (hb x)).c 1 (by simp)
        have c02 : ∀ x, (fW x).cell? ⟨w.heap.size, 2, none⟩ = some (.int .i64 oc) := fun x => ((unhide K0).below (hb x)).c 2 (by simp)
        have c03 : ∀ x, (fW x).cell? ⟨w.heap.size, 3, none⟩ = some (.int .i64 0) := fun x => ((unhide K0).below (hb x)).c 3 (by simp)
        have c10 : ∀ x, (fW x).cell? ⟨w.heap.size + 1, 0, none⟩ = some (.int .i64 ti) := fun x => ((unhide K1).below (hb x)).c 0 (by simp)
        have c11 : ∀ x, (fW x).cell? ⟨w.heap.size + 1, 1, none⟩ = some (.int .i64 th) := fun x => ((unhide K1).below (hb x)).c 1 (by simp)
        have c12 : ∀ x, (fW x).cell? ⟨w.heap.size + 1, 2, none⟩ = some (.int .i64 tc) := fun x => ((unhide K1).below (hb x)).c 2 (by simp)
        have c13 : ∀ x, (fW x).cell? ⟨w.heap.size + 1, 3, none⟩ = some (.int .i64 tf) := fun x => ((unhide K1).below (hb x)).c 3 (by simp)
        have c14 : ∀ x, (fW x).cell? ⟨w.heap.size + 1, 4, none⟩ = some (.int .i64 tk) := fun x => ((unhide K1).below (hb x)).c 4 (by simp)
        have c15 : ∀ x, (fW x).cell? ⟨w.heap.size + 1, 5, none⟩ = some (.int .i64 ts) := fun x => ((unhide K1).below (hb x)).c 5 (by simp)
        clear hb hall
        obtain ⟨x0, h0⟩ := (unhide HA) W (Below.refl _ _)
        rw [h0]
        clear h0
        go_wp2_with (first | (go_at_call 12; refine (belQ (unhide HB) (unhide HA) (specThreat_is _ _ _ _ _ _ _ _ _ _ _ _ _ (unhide HT))).mono ?_; rintro e _ ⟨rfl, y, rfl⟩))
        repeat (refine wp_region_bel (fun w' h => (unhide HA) w' ((unhide HB _).trans (h.mono (unhide HB _).size))) (by kernel_rfl) (by kernel_rfl) ?_; (repeat (go_big_quiet_step (first | (go_at_call 12; exact belQ (unhide HB) (unhide HA) (specThreat_is _ _ _ _ _ _ _ _ _ _ _ _ _ (unhide HT)))))); refine wpQuiet_nil ?_; rintro _ ⟨y, rfl⟩; (first | go_wp2_with (first | (go_at_call 12; refine (belQ (unhide HB) (unhide HA) (specThreat_is _ _ _ _ _ _ _ _ _ _ _ _ _ (unhide HT))).mono ?_; rintro e _ ⟨rfl, y, rfl⟩)) | go_wp2))
        go_ret
        exact ⟨ret_int (unhide HR).symm, (unhide B0).trans ((unhide HB _).mono (unhide B0).size)⟩
    · have HR := hide (hc.symm.trans (adR_own ht h2))
      have e1 : (os != 0) = true := by simpa using h2
      have HT := hide ht
      clear hc ht g1 g3
      go_enter Try.func15, Try.ntmps15
      go_wp2_with fail
      obtain ⟨W, hW⟩ : ∃ W, W = ((w.alloc (Obj.cells #[.int .i64 oi, .int .i64 oh, .int .i64 oc, .int .i64 os] 32)).alloc (Obj.cells #[.int .i64 ti, .int .i64 th, .int .i64 tc, .int .i64 tf, .int .i64 tk, .int .i64 ts] 26)) := ⟨_, rfl⟩
      rw [← hW]
      have K0 : Hid (Blk W (w.heap.size) [.int .i64 oi, .int .i64 oh, .int .i64 oc, .int .i64 os]) := hide (by rw [hW]; exact blkAt2_0)
      have K1 : Hid (Blk W (w.heap.size + 1) [.int .i64 ti, .int .i64 th, .int .i64 tc, .int .i64 tf, .int .i64 tk, .int .i64 ts]) := hide (by rw [hW]; exact blkAt2_1)
      have B0 : Hid (Below w.heap.size w W) := hide (by rw [hW]; exact (by repeat (first | exact Below.refl _ _ | refine Below.alloc ?_ (by simp; try omega) _ | refine Below.setCell ?_ (by simp; try omega) _ | refine taDr ?_ _)))
      clear hW
      obtain ⟨ι, fW, _, hb, hall⟩ := belClass W
      have HB := hide hb
      have HA := hide hall
      have c00 : ∀ x, (fW x).cell? ⟨w.heap.size, 0, none⟩ = some (.int .i64 oi) := fun x => ((unhide K0).below (hb x)).c 0 (by simp)
      have c01 : ∀ x, (fW x).cell? ⟨w.heap.size, 1, none⟩ = some (.int .i64 oh) := fun x => ((unhide K0).below (hb x)).c 1 (by simp)
      have c02 : ∀ x, (fW x).cell? ⟨w.heap.size, 2, none⟩ = some (.int .i64 oc) := fun x => ((unhide K0).below (hb x)).c 2 (by simp)
      have c03 : ∀ x, (fW x).cell? ⟨w.heap.size, 3, none⟩ = some (.int .i64 os) := fun x => ((unhide K0).below (hb x)).c 3 (by simp)
      have c10 : ∀ x, (fW x).cell? ⟨w.heap.size + 1, 0, none⟩ = some (.int .i64 ti) := fun x => ((unhide K1).below (hb x)).c 0 (by simp)
      have c11 : ∀ x, (fW x).cell? ⟨w.heap.size + 1, 1, none⟩ = some (.int .i64 th) := fun x => ((unhide K1).below (hb x)).c 1 (by simp)
      have c12 : ∀ x, (fW x).cell? ⟨w.heap.size + 1, 2, none⟩ = some (.int .i64 tc) := fun x => ((unhide K1).below (hb x)).c 2 (by simp)
      have c13 : ∀ x, (fW x).cell? ⟨w.heap.size + 1, 3, none⟩ = some (.int .i64 tf) := fun x => ((unhide K1).below (hb x)).c 3 (by simp)
      have c14 : ∀ x, (fW x).cell? ⟨w.heap.size + 1, 4, none⟩ = some (.int .i64 tk) := fun x => ((unhide K1).below (hb x)).c 4 (by simp)
      have c15 : ∀ x, (fW x).cell? ⟨w.heap.size + 1, 5, none⟩ = some (.int .i64 ts) := fun x => ((unhide K1).below (hb x)).c 5 (by simp)
      clear hb hall
      obtain ⟨x0, h0⟩ := (unhide HA) W (Below.refl _ _)
      rw [h0]
      clear h0
      go_wp2_with (first | (go_at_call 12; refine (belQ (unhide HB) (unhide HA) (specThreat_is _ _ _ _ _ _ _ _ _ _ _ _ _ (unhide HT))).mono ?_; rintro e _ ⟨rfl, y, rfl⟩))
      repeat (refine wp_region_bel (fun w' h => (unhide HA) w' ((unhide HB _).trans (h.mono (unhide HB _).size))) (by kernel_rfl) (by kernel_rfl) ?_; (repeat (go_big_quiet_step (first | (go_at_call 12; exact belQ (unhide HB) (unhide HA) (specThreat_is _ _ _ _ _ _ _ _ _ _ _ _ _ (unhide HT)))))); refine wpQuiet_nil ?_; rintro _ ⟨y, rfl⟩; (first | go_wp2_with (first | (go_at_call 12; refine (belQ (unhide HB) (unhide HA) (specThreat_is _ _ _ _ _ _ _ _ _ _ _ _ _ (unhide HT))).mono ?_; rintro e _ ⟨rfl, y, rfl⟩)) | go_wp2))
      go_ret
      exact ⟨ret_int (unhide HR).symm, (unhide B0).trans ((unhide HB _).mono (unhide B0).size)⟩

set_option maxRecDepth 20000 in
set_option maxHeartbeats 2000000 in
theorem l15Seen_al (i h c s f k : Int) (w : World) :
    Calls Try.prog 37 #[.agg #[.int .i64 i, .int .i64 h, .int .i64 c, .int .i64 s], .int .i64 f, .int .i64 k] w fun e w' => e = .returned (.agg #[.int .i64 i, .int .i64 h, .int .i64 c, .int .i64 f, .int .i64 k, .int .i64 s]) ∧ Below w.heap.size w w' := by
  go_enter Try.func37, Try.ntmps37
  go_wp2
  refine bodyPost_ret (v := .agg #[.int .i64 i, .int .i64 h, .int .i64 c, .int .i64 f, .int .i64 k, .int .i64 s]) (by simp [results, Try.results37, go_sem]) rfl ⟨rfl, ?_⟩
  exact (by repeat (first | exact Below.refl _ _ | refine Below.alloc ?_ (by simp; try omega) _ | refine Below.setCell ?_ (by simp; try omega) _ | refine taDr ?_ _))

end Go.Proofs.Ytbaocifpifbldax
