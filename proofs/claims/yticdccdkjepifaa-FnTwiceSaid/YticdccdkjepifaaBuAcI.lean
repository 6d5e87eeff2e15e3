/-
  What the program's Accept answers: the plain answer, at every argument; nothing that was there is written.
-/
import Derived.Test.YticdccdkjepifaaMBuImpl
import Derived.Test.YticdccdkjepifaaBuAcc
namespace Go.Proofs.Yticdccdkjepifaa
open Go.RowKit

set_option maxRecDepth 20000 in
set_option maxHeartbeats 2000000 in
theorem implAccept_is {X M : Int} {b : Bool} (rl n k l s : Int) (da : Option Addr) (dn dc : Nat) (w : World) (hs : dn ≤ 9223372036854775807) (hX : acN rl n k l s dn = X) (hM : acM rl n k l s dn = M) (hb : acB rl n k l s dn = b) :
    Calls Try.prog 17 #[.agg #[.int .i64 rl, .int .i64 n, .int .i64 k], .agg #[.int .i64 l, .int .i64 s, .slice da dn dc]] w fun e w' => e = .returned (.tuple #[.agg #[.int .i64 rl, .int .i64 X, .int .i64 k], .bool b, .int .i64 M]) ∧ Below w.heap.size w w' := by
  rcases four (rvB rl n k) (wdB l s dn) (l == rl) (decide (acD n s < k)) with ⟨q1, hv⟩ | ⟨q1, q2, hv⟩ | ⟨q1, q2, q3, hv⟩ | ⟨q1, q2, q3, q4, hv⟩ | ⟨q1, q2, q3, q4, hv⟩
  · have HN : Hid (acB rl n k l s dn = false) := hide hv
    clear hv
    have HX := hide ((ac_no (unhide HN)).1.symm.trans hX)
    have HM := hide ((ac_no (unhide HN)).2.symm.trans hM)
    have HBB := hide ((unhide HN).symm.trans hb)
    clear hX hM hb
    go_enter Try.func17, Try.ntmps17
    go_wp2_with fail
    obtain ⟨W, hW⟩ : ∃ W, W = (((w.alloc (Obj.cells #[.int .i64 rl, .int .i64 n, .int .i64 k] 52)).alloc (Obj.cells #[.int .i64 l, .int .i64 s, .slice da dn dc] 50)).alloc (Obj.cells #[.int .i64 0, .int .i64 0, .int .i64 0] 52)) := ⟨_, rfl⟩
    rw [← hW]
    have K0 : Hid (Blk W (w.heap.size) [.int .i64 rl, .int .i64 n, .int .i64 k]) := hide (by rw [hW]; exact blkAt3_0)
    have K1 : Hid (Blk W (w.heap.size + 1) [.int .i64 l, .int .i64 s, .slice da dn dc]) := hide (by rw [hW]; exact blkAt3_1)
    have K2 : Hid (Blk W (w.heap.size + 1 + 1) [.int .i64 0, .int .i64 0, .int .i64 0]) := hide (by rw [hW]; exact blkAt3_2)
    have B0 : Hid (Below w.heap.size w W) := hide (by rw [hW]; exact (by repeat (first | exact Below.refl _ _ | refine Below.alloc ?_ (by simp; try omega) _ | refine Below.setCell ?_ (by simp; try omega) _ | refine taDr ?_ _)))
    clear hW
    obtain ⟨ι, fW, _, hb, hall⟩ := belClass W
    have HB := hide hb
    have HA := hide hall
    have c00 : ∀ x, (fW x).cell? ⟨w.heap.size, 0, none⟩ = some (.int .i64 rl) := fun x => ((unhide K0).below (hb x)).c 0 (by simp)
    have c01 : ∀ x, (fW x).cell? ⟨w.heap.size, 1, none⟩ = some (.int .i64 n) := fun x => ((unhide K0).below (hb x)).c 1 (by simp)
    have c02 : ∀ x, (fW x).cell? ⟨w.heap.size, 2, none⟩ = some (.int .i64 k) := fun x => ((unhide K0).below (hb x)).c 2 (by simp)
    have c10 : ∀ x, (fW x).cell? ⟨w.heap.size + 1, 0, none⟩ = some (.int .i64 l) := fun x => ((unhide K1).below (hb x)).c 0 (by simp)
    have c11 : ∀ x, (fW x).cell? ⟨w.heap.size + 1, 1, none⟩ = some (.int .i64 s) := fun x => ((unhide K1).below (hb x)).c 1 (by simp)
    have c12 : ∀ x, (fW x).cell? ⟨w.heap.size + 1, 2, none⟩ = some (.slice da dn dc) := fun x => ((unhide K1).below (hb x)).c 2 (by simp)
    have c20 : ∀ x, (fW x).cell? ⟨w.heap.size + 1 + 1, 0, none⟩ = some (.int .i64 0) := fun x => ((unhide K2).below (hb x)).c 0 (by simp)
    have c21 : ∀ x, (fW x).cell? ⟨w.heap.size + 1 + 1, 1, none⟩ = some (.int .i64 0) := fun x => ((unhide K2).below (hb x)).c 1 (by simp)
    have c22 : ∀ x, (fW x).cell? ⟨w.heap.size + 1 + 1, 2, none⟩ = some (.int .i64 0) := fun x => ((unhide K2).below (hb x)).c 2 (by simp)
    have z0 : ∀ x, (fW x).frozen? ⟨w.heap.size + 1 + 1, 0, none⟩ = false := fun x => ((unhide K2).below (hb x)).f 0 (by simp)
    have z1 : ∀ x, (fW x).frozen? ⟨w.heap.size + 1 + 1, 1, none⟩ = false := fun x => ((unhide K2).below (hb x)).f 1 (by simp)
    have z2 : ∀ x, (fW x).frozen? ⟨w.heap.size + 1 + 1, 2, none⟩ = false := fun x => ((unhide K2).below (hb x)).f 2 (by simp)
    have zz : ∀ x, (fW x).frozen? ⟨w.heap.size, 1, none⟩ = false := fun x => ((unhide K0).below (hb x)).f 1 (by simp)
    clear hb hall
    obtain ⟨x0, h0⟩ := (unhide HA) W (Below.refl _ _)
    rw [h0]
    clear h0
    go_wp2_with (first | (go_at_call 16; refine (belQ (unhide HB) (unhide HA) (implReceiverOk_is _ _ _ _ (by exact q1))).mono ?_; rintro e _ ⟨rfl, y, rfl⟩))
    repeat (refine wp_region_bel (fun w' h => (unhide HA) w' ((unhide HB _).trans (h.mono (unhide HB _).size))) (by kernel_rfl) (by kernel_rfl) ?_; (repeat (go_big_quiet_step (first | (go_at_call 16; exact belQ (unhide HB) (unhide HA) (implReceiverOk_is _ _ _ _ (by exact q1)))))); refine wpQuiet_nil ?_; rintro _ ⟨y, rfl⟩; (first | go_wp2_with (first | (go_at_call 16; refine (belQ (unhide HB) (unhide HA) (implReceiverOk_is _ _ _ _ (by exact q1))).mono ?_; rintro e _ ⟨rfl, y, rfl⟩)) | go_wp2))
    exact bodyPost_ret (results_cellBB (vs := [.int .i64 rl, .int .i64 n, .int .i64 k]) rfl Try.isAgg52 Try.sizeOf52 rfl (((((unhide K2).below (unhide HB _)).set 0 (by simp) _).set 1 (by simp) _).set 2 (by simp) _) rfl rfl) rfl ⟨ret_acc (unhide HX) (unhide HBB) (unhide HM), (((((unhide B0).trans ((unhide HB _).mono (unhide B0).size)).setCell (p := ⟨w.heap.size + 1 + 1, 0, none⟩) (by simp; try omega) _).setCell (p := ⟨w.heap.size + 1 + 1, 1, none⟩) (by simp; try omega) _).setCell (p := ⟨w.heap.size + 1 + 1, 2, none⟩) (by simp; try omega) _)⟩
  · have HN : Hid (acB rl n k l s dn = false) := hide hv
    clear hv
    have HX := hide ((ac_no (unhide HN)).1.symm.trans hX)
    have HM := hide ((ac_no (unhide HN)).2.symm.trans hM)
    have HBB := hide ((unhide HN).symm.trans hb)
    clear hX hM hb
    go_enter Try.func17, Try.ntmps17
    go_wp2_with fail
    obtain ⟨W, hW⟩ : ∃ W, W = (((w.alloc (Obj.cells #[.int .i64 rl, .int .i64 n, .int .i64 k] 52)).alloc (Obj.cells #[.int .i64 l, .int .i64 s, .slice da dn dc] 50)).alloc (Obj.cells #[.int .i64 0, .int .i64 0, .int .i64 0] 52)) := ⟨_, rfl⟩
    rw [← hW]
    have K0 : Hid (Blk W (w.heap.size) [.int .i64 rl, .int .i64 n, .int .i64 k]) := hide (by rw [hW]; exact blkAt3_0)
    have K1 : Hid (Blk W (w.heap.size + 1) [.int .i64 l, .int .i64 s, .slice da dn dc]) := hide (by rw [hW]; exact blkAt3_1)
    have K2 : Hid (Blk W (w.heap.size + 1 + 1) [.int .i64 0, .int .i64 0, .int .i64 0]) := hide (by rw [hW]; exact blkAt3_2)
    have B0 : Hid (Below w.heap.size w W) := hide (by rw [hW]; exact (by repeat (first | exact Below.refl _ _ | refine Below.alloc ?_ (by simp; try omega) _ | refine Below.setCell ?_ (by simp; try omega) _ | refine taDr ?_ _)))
    clear hW
    obtain ⟨ι, fW, _, hb, hall⟩ := belClass W
    have HB := hide hb
    have HA := hide hall
    have c00 : ∀ x, (fW x).cell? ⟨w.heap.size, 0, none⟩ = some (.int .i64 rl) := fun x => ((unhide K0).below (hb x)).c 0 (by simp)
    have c01 : ∀ x, (fW x).cell? ⟨w.heap.size, 1, none⟩ = some (.int .i64 n) := fun x => ((unhide K0).below (hb x)).c 1 (by simp)
    have c02 : ∀ x, (fW x).cell? ⟨w.heap.size, 2, none⟩ = some (.int .i64 k) := fun x => ((unhide K0).below (hb x)).c 2 (by simp)
    have c10 : ∀ x, (fW x).cell? ⟨w.heap.size + 1, 0, none⟩ = some (.int .i64 l) := fun x => ((unhide K1).below (hb x)).c 0 (by simp)
    have c11 : ∀ x, (fW x).cell? ⟨w.heap.size + 1, 1, none⟩ = some (.int .i64 s) := fun x => ((unhide K1).below (hb x)).c 1 (by simp)
    have c12 : ∀ x, (fW x).cell? ⟨w.heap.size + 1, 2, none⟩ = some (.slice da dn dc) := fun x => ((unhide K1).below (hb x)).c 2 (by simp)
    have c20 : ∀ x, (fW x).cell? ⟨w.heap.size + 1 + 1, 0, none⟩ = some (.int .i64 0) := fun x => ((unhide K2).below (hb x)).c 0 (by simp)
    have c21 : ∀ x, (fW x).cell? ⟨w.heap.size + 1 + 1, 1, none⟩ = some (.int .i64 0) := fun x => ((unhide K2).below (hb x)).c 1 (by simp)
    have c22 : ∀ x, (fW x).cell? ⟨w.heap.size + 1 + 1, 2, none⟩ = some (.int .i64 0) := fun x => ((unhide K2).below (hb x)).c 2 (by simp)
    have z0 : ∀ x, (fW x).frozen? ⟨w.heap.size + 1 + 1, 0, none⟩ = false := fun x => ((unhide K2).below (hb x)).f 0 (by simp)
    have z1 : ∀ x, (fW x).frozen? ⟨w.heap.size + 1 + 1, 1, none⟩ = false := fun x => ((unhide K2).below (hb x)).f 1 (by simp)
    have z2 : ∀ x, (fW x).frozen? ⟨w.heap.size + 1 + 1, 2, none⟩ = false := fun x => ((unhide K2).below (hb x)).f 2 (by simp)
    have zz : ∀ x, (fW x).frozen? ⟨w.heap.size, 1, none⟩ = false := fun x => ((unhide K0).below (hb x)).f 1 (by simp)
    clear hb hall
    obtain ⟨x0, h0⟩ := (unhide HA) W (Below.refl _ _)
    rw [h0]
    clear h0
    go_wp2_with (first | (go_at_call 16; refine (belQ (unhide HB) (unhide HA) (implReceiverOk_is _ _ _ _ (by exact q1))).mono ?_; rintro e _ ⟨rfl, y, rfl⟩) | (go_at_call 36; refine (belQ (unhide HB) (unhide HA) (implWordOk_is _ _ _ _ _ _ hs (by exact q2))).mono ?_; rintro e _ ⟨rfl, y, rfl⟩))
    repeat (refine wp_region_bel (fun w' h => (unhide HA) w' ((unhide HB _).trans (h.mono (unhide HB _).size))) (by kernel_rfl) (by kernel_rfl) ?_; (repeat (go_big_quiet_step (first | (go_at_call 16; exact belQ (unhide HB) (unhide HA) (implReceiverOk_is _ _ _ _ (by exact q1))) | (go_at_call 36; exact belQ (unhide HB) (unhide HA) (implWordOk_is _ _ _ _ _ _ hs (by exact q2)))))); refine wpQuiet_nil ?_; rintro _ ⟨y, rfl⟩; (first | go_wp2_with (first | (go_at_call 16; refine (belQ (unhide HB) (unhide HA) (implReceiverOk_is _ _ _ _ (by exact q1))).mono ?_; rintro e _ ⟨rfl, y, rfl⟩) | (go_at_call 36; refine (belQ (unhide HB) (unhide HA) (implWordOk_is _ _ _ _ _ _ hs (by exact q2))).mono ?_; rintro e _ ⟨rfl, y, rfl⟩)) | go_wp2))
    exact bodyPost_ret (results_cellBB (vs := [.int .i64 rl, .int .i64 n, .int .i64 k]) rfl Try.isAgg52 Try.sizeOf52 rfl (((((unhide K2).below (unhide HB _)).set 0 (by simp) _).set 1 (by simp) _).set 2 (by simp) _) rfl rfl) rfl ⟨ret_acc (unhide HX) (unhide HBB) (unhide HM), (((((unhide B0).trans ((unhide HB _).mono (unhide B0).size)).setCell (p := ⟨w.heap.size + 1 + 1, 0, none⟩) (by simp; try omega) _).setCell (p := ⟨w.heap.size + 1 + 1, 1, none⟩) (by simp; try omega) _).setCell (p := ⟨w.heap.size + 1 + 1, 2, none⟩) (by simp; try omega) _)⟩
  · have HN : Hid (acB rl n k l s dn = false) := hide hv
    clear hv
    have HX := hide ((ac_no (unhide HN)).1.symm.trans hX)
    have HM := hide ((ac_no (unhide HN)).2.symm.trans hM)
    have HBB := hide ((unhide HN).symm.trans hb)
    clear hX hM hb
    have e1 : (l != rl) = true := by simpa using q3
    have e2 : ¬ l = rl := by simpa using q3
    clear q3
    go_enter Try.func17, Try.ntmps17
    go_wp2_with fail
    obtain ⟨W, hW⟩ : ∃ W, W = (((w.alloc (Obj.cells #[.int .i64 rl, .int .i64 n, .int .i64 k] 52)).alloc (Obj.cells #[.int .i64 l, .int .i64 s, .slice da dn dc] 50)).alloc (Obj.cells #[.int .i64 0, .int .i64 0, .int .i64 0] 52)) := ⟨_, rfl⟩
    rw [← hW]
    have K0 : Hid (Blk W (w.heap.size) [.int .i64 rl, .int .i64 n, .int .i64 k]) := hide (by rw [hW]; exact blkAt3_0)
    have K1 : Hid (Blk W (w.heap.size + 1) [.int .i64 l, .int .i64 s, .slice da dn dc]) := hide (by rw [hW]; exact blkAt3_1)
    have K2 : Hid (Blk W (w.heap.size + 1 + 1) [.int .i64 0, .int .i64 0, .int .i64 0]) := hide (by rw [hW]; exact blkAt3_2)
    have B0 : Hid (Below w.heap.size w W) := hide (by rw [hW]; exact (by repeat (first | exact Below.refl _ _ | refine Below.alloc ?_ (by simp; try omega) _ | refine Below.setCell ?_ (by simp; try omega) _ | refine taDr ?_ _)))
    clear hW
    obtain ⟨ι, fW, _, hb, hall⟩ := belClass W
    have HB := hide hb
    have HA := hide hall
    have c00 : ∀ x, (fW x).cell? ⟨w.heap.size, 0, none⟩ = some (.int .i64 rl) := fun x => ((unhide K0).below (hb x)).c 0 (by simp)
    have c01 : ∀ x, (fW x).cell? ⟨w.heap.size, 1, none⟩ = some (.int .i64 n) := fun x => ((unhide K0).below (hb x)).c 1 (by simp)
    have c02 : ∀ x, (fW x).cell? ⟨w.heap.size, 2, none⟩ = some (.int .i64 k) := fun x => ((unhide K0).below (hb x)).c 2 (by simp)
    have c10 : ∀ x, (fW x).cell? ⟨w.heap.size + 1, 0, none⟩ = some (.int .i64 l) := fun x => ((unhide K1).below (hb x)).c 0 (by simp)
    have c11 : ∀ x, (fW x).cell? ⟨w.heap.size + 1, 1, none⟩ = some (.int .i64 s) := fun x => ((unhide K1).below (hb x)).c 1 (by simp)
    have c12 : ∀ x, (fW x).cell? ⟨w.heap.size + 1, 2, none⟩ = some (.slice da dn dc) := fun x => ((unhide K1).below (hb x)).c 2 (by simp)
    have c20 : ∀ x, (fW x).cell? ⟨w.heap.size + 1 + 1, 0, none⟩ = some (.int .i64 0) := fun x => ((unhide K2).below (hb x)).c 0 (by simp)
    have c21 : ∀ x, (fW x).cell? ⟨w.heap.size + 1 + 1, 1, none⟩ = some (.int .i64 0) := fun x => ((unhide K2).below (hb x)).c 1 (by simp)
    have c22 : ∀ x, (fW x).cell? ⟨w.heap.size + 1 + 1, 2, none⟩ = some (.int .i64 0) := fun x => ((unhide K2).below (hb x)).c 2 (by simp)
    have z0 : ∀ x, (fW x).frozen? ⟨w.heap.size + 1 + 1, 0, none⟩ = false := fun x => ((unhide K2).below (hb x)).f 0 (by simp)
    have z1 : ∀ x, (fW x).frozen? ⟨w.heap.size + 1 + 1, 1, none⟩ = false := fun x => ((unhide K2).below (hb x)).f 1 (by simp)
    have z2 : ∀ x, (fW x).frozen? ⟨w.heap.size + 1 + 1, 2, none⟩ = false := fun x => ((unhide K2).below (hb x)).f 2 (by simp)
    have zz : ∀ x, (fW x).frozen? ⟨w.heap.size, 1, none⟩ = false := fun x => ((unhide K0).below (hb x)).f 1 (by simp)
    clear hb hall
    obtain ⟨x0, h0⟩ := (unhide HA) W (Below.refl _ _)
    rw [h0]
    clear h0
    go_wp2_with (first | (go_at_call 16; refine (belQ (unhide HB) (unhide HA) (implReceiverOk_is _ _ _ _ (by exact q1))).mono ?_; rintro e _ ⟨rfl, y, rfl⟩) | (go_at_call 36; refine (belQ (unhide HB) (unhide HA) (implWordOk_is _ _ _ _ _ _ hs (by exact q2))).mono ?_; rintro e _ ⟨rfl, y, rfl⟩))
    repeat (refine wp_region_bel (fun w' h => (unhide HA) w' ((unhide HB _).trans (h.mono (unhide HB _).size))) (by kernel_rfl) (by kernel_rfl) ?_; (repeat (go_big_quiet_step (first | (go_at_call 16; exact belQ (unhide HB) (unhide HA) (implReceiverOk_is _ _ _ _ (by exact q1))) | (go_at_call 36; exact belQ (unhide HB) (unhide HA) (implWordOk_is _ _ _ _ _ _ hs (by exact q2)))))); refine wpQuiet_nil ?_; rintro _ ⟨y, rfl⟩; (first | go_wp2_with (first | (go_at_call 16; refine (belQ (unhide HB) (unhide HA) (implReceiverOk_is _ _ _ _ (by exact q1))).mono ?_; rintro e _ ⟨rfl, y, rfl⟩) | (go_at_call 36; refine (belQ (unhide HB) (unhide HA) (implWordOk_is _ _ _ _ _ _ hs (by exact q2))).mono ?_; rintro e _ ⟨rfl, y, rfl⟩)) | go_wp2))
    exact bodyPost_ret (results_cellBB (vs := [.int .i64 rl, .int .i64 n, .int .i64 k]) rfl Try.isAgg52 Try.sizeOf52 rfl (((((unhide K2).below (unhide HB _)).set 0 (by simp) _).set 1 (by simp) _).set 2 (by simp) _) rfl rfl) rfl ⟨ret_acc (unhide HX) (unhide HBB) (unhide HM), (((((unhide B0).trans ((unhide HB _).mono (unhide B0).size)).setCell (p := ⟨w.heap.size + 1 + 1, 0, none⟩) (by simp; try omega) _).setCell (p := ⟨w.heap.size + 1 + 1, 1, none⟩) (by simp; try omega) _).setCell (p := ⟨w.heap.size + 1 + 1, 2, none⟩) (by simp; try omega) _)⟩
  · have HN : Hid (acB rl n k l s dn = false) := hide hv
    clear hv
    have HX := hide ((ac_no (unhide HN)).1.symm.trans hX)
    have HM := hide ((ac_no (unhide HN)).2.symm.trans hM)
    have HBB := hide ((unhide HN).symm.trans hb)
    clear hX hM hb
    have e0 : l = rl := by simpa using q3
    subst e0
    have g1 := rvB_facts q1
    have g2 := wdB_facts q2
    obtain ⟨d, hd⟩ : ∃ d, acD n s = d := ⟨_, rfl⟩
    have hd3 : ¬ d < k := by rw [← hd]; simpa using q4
    have hd2 : k ≤ d := by omega
    have HD := hide hd
    clear q3 q4 hd
    go_enter Try.func17, Try.ntmps17
    go_wp2_with fail
    obtain ⟨W, hW⟩ : ∃ W, W = (((w.alloc (Obj.cells #[.int .i64 l, .int .i64 n, .int .i64 k] 52)).alloc (Obj.cells #[.int .i64 l, .int .i64 s, .slice da dn dc] 50)).alloc (Obj.cells #[.int .i64 0, .int .i64 0, .int .i64 0] 52)) := ⟨_, rfl⟩
    rw [← hW]
    have K0 : Hid (Blk W (w.heap.size) [.int .i64 l, .int .i64 n, .int .i64 k]) := hide (by rw [hW]; exact blkAt3_0)
    have K1 : Hid (Blk W (w.heap.size + 1) [.int .i64 l, .int .i64 s, .slice da dn dc]) := hide (by rw [hW]; exact blkAt3_1)
    have K2 : Hid (Blk W (w.heap.size + 1 + 1) [.int .i64 0, .int .i64 0, .int .i64 0]) := hide (by rw [hW]; exact blkAt3_2)
    have B0 : Hid (Below w.heap.size w W) := hide (by rw [hW]; exact (by repeat (first | exact Below.refl _ _ | refine Below.alloc ?_ (by simp; try omega) _ | refine Below.setCell ?_ (by simp; try omega) _ | refine taDr ?_ _)))
    clear hW
    obtain ⟨ι, fW, _, hb, hall⟩ := belClass W
    have HB := hide hb
    have HA := hide hall
    have c00 : ∀ x, (fW x).cell? ⟨w.heap.size, 0, none⟩ = some (.int .i64 l) := fun x => ((unhide K0).below (hb x)).c 0 (by simp)
    have c01 : ∀ x, (fW x).cell? ⟨w.heap.size, 1, none⟩ = some (.int .i64 n) := fun x => ((unhide K0).below (hb x)).c 1 (by simp)
    have c02 : ∀ x, (fW x).cell? ⟨w.heap.size, 2, none⟩ = some (.int .i64 k) := fun x => ((unhide K0).below (hb x)).c 2 (by simp)
    have c10 : ∀ x, (fW x).cell? ⟨w.heap.size + 1, 0, none⟩ = some (.int .i64 l) := fun x => ((unhide K1).below (hb x)).c 0 (by simp)
    have c11 : ∀ x, (fW x).cell? ⟨w.heap.size + 1, 1, none⟩ = some (.int .i64 s) := fun x => ((unhide K1).below (hb x)).c 1 (by simp)
    have c12 : ∀ x, (fW x).cell? ⟨w.heap.size + 1, 2, none⟩ = some (.slice da dn dc) := fun x => ((unhide K1).below (hb x)).c 2 (by simp)
    have c20 : ∀ x, (fW x).cell? ⟨w.heap.size + 1 + 1, 0, none⟩ = some (.int .i64 0) := fun x => ((unhide K2).below (hb x)).c 0 (by simp)
    have c21 : ∀ x, (fW x).cell? ⟨w.heap.size + 1 + 1, 1, none⟩ = some (.int .i64 0) := fun x => ((unhide K2).below (hb x)).c 1 (by simp)
    have c22 : ∀ x, (fW x).cell? ⟨w.heap.size + 1 + 1, 2, none⟩ = some (.int .i64 0) := fun x => ((unhide K2).below (hb x)).c 2 (by simp)
    have z0 : ∀ x, (fW x).frozen? ⟨w.heap.size + 1 + 1, 0, none⟩ = false := fun x => ((unhide K2).below (hb x)).f 0 (by simp)
    have z1 : ∀ x, (fW x).frozen? ⟨w.heap.size + 1 + 1, 1, none⟩ = false := fun x => ((unhide K2).below (hb x)).f 1 (by simp)
    have z2 : ∀ x, (fW x).frozen? ⟨w.heap.size + 1 + 1, 2, none⟩ = false := fun x => ((unhide K2).below (hb x)).f 2 (by simp)
    have zz : ∀ x, (fW x).frozen? ⟨w.heap.size, 1, none⟩ = false := fun x => ((unhide K0).below (hb x)).f 1 (by simp)
    clear hb hall
    obtain ⟨x0, h0⟩ := (unhide HA) W (Below.refl _ _)
    rw [h0]
    clear h0
    go_wp2_with (first | (go_at_call 16; refine (belQ (unhide HB) (unhide HA) (implReceiverOk_is _ _ _ _ (by exact q1))).mono ?_; rintro e _ ⟨rfl, y, rfl⟩) | (go_at_call 36; refine (belQ (unhide HB) (unhide HA) (implWordOk_is _ _ _ _ _ _ hs (by exact q2))).mono ?_; rintro e _ ⟨rfl, y, rfl⟩) | (go_at_call 42; refine (belQ (unhide HB) (unhide HA) (missedAhead_is _ _ _ _ _ (by omega) (by omega) (unhide HD))).mono ?_; rintro e _ ⟨rfl, y, rfl⟩))
    repeat (refine wp_region_bel (fun w' h => (unhide HA) w' ((unhide HB _).trans (h.mono (unhide HB _).size))) (by kernel_rfl) (by kernel_rfl) ?_; (repeat (go_big_quiet_step (first | (go_at_call 16; exact belQ (unhide HB) (unhide HA) (implReceiverOk_is _ _ _ _ (by exact q1))) | (go_at_call 36; exact belQ (unhide HB) (unhide HA) (implWordOk_is _ _ _ _ _ _ hs (by exact q2))) | (go_at_call 42; exact belQ (unhide HB) (unhide HA) (missedAhead_is _ _ _ _ _ (by omega) (by omega) (unhide HD)))))); refine wpQuiet_nil ?_; rintro _ ⟨y, rfl⟩; (first | go_wp2_with (first | (go_at_call 16; refine (belQ (unhide HB) (unhide HA) (implReceiverOk_is _ _ _ _ (by exact q1))).mono ?_; rintro e _ ⟨rfl, y, rfl⟩) | (go_at_call 36; refine (belQ (unhide HB) (unhide HA) (implWordOk_is _ _ _ _ _ _ hs (by exact q2))).mono ?_; rintro e _ ⟨rfl, y, rfl⟩) | (go_at_call 42; refine (belQ (unhide HB) (unhide HA) (missedAhead_is _ _ _ _ _ (by omega) (by omega) (unhide HD))).mono ?_; rintro e _ ⟨rfl, y, rfl⟩)) | go_wp2))
    exact bodyPost_ret (results_cellBB (vs := [.int .i64 l, .int .i64 n, .int .i64 k]) rfl Try.isAgg52 Try.sizeOf52 rfl (((((unhide K2).below (unhide HB _)).set 0 (by simp) _).set 1 (by simp) _).set 2 (by simp) _) rfl rfl) rfl ⟨ret_acc (unhide HX) (unhide HBB) (unhide HM), (((((unhide B0).trans ((unhide HB _).mono (unhide B0).size)).setCell (p := ⟨w.heap.size + 1 + 1, 0, none⟩) (by simp; try omega) _).setCell (p := ⟨w.heap.size + 1 + 1, 1, none⟩) (by simp; try omega) _).setCell (p := ⟨w.heap.size + 1 + 1, 2, none⟩) (by simp; try omega) _)⟩
  · have HY := hide (show acB rl n k l s dn = true from hv)
    clear hv
    have HX := hide ((ac_yes (unhide HY)).1.symm.trans hX)
    have HM := hide ((ac_yes (unhide HY)).2.symm.trans hM)
    have HBB := hide ((unhide HY).symm.trans hb)
    clear hX hM hb
    have e0 : l = rl := by simpa using q3
    subst e0
    have g1 := rvB_facts q1
    have g2 := wdB_facts q2
    obtain ⟨d, hd⟩ : ∃ d, acD n s = d := ⟨_, rfl⟩
    have hd3 : d < k := by rw [← hd]; simpa using q4
    have hd2 : ¬ k ≤ d := by omega
    have HM := hide (hd.symm.trans (unhide HM))
    have HD := hide hd
    clear q3 q4 hd
    go_enter Try.func17, Try.ntmps17
    go_wp2_with fail
    obtain ⟨W, hW⟩ : ∃ W, W = (((w.alloc (Obj.cells #[.int .i64 l, .int .i64 n, .int .i64 k] 52)).alloc (Obj.cells #[.int .i64 l, .int .i64 s, .slice da dn dc] 50)).alloc (Obj.cells #[.int .i64 0, .int .i64 0, .int .i64 0] 52)) := ⟨_, rfl⟩
    rw [← hW]
    have K0 : Hid (Blk W (w.heap.size) [.int .i64 l, .int .i64 n, .int .i64 k]) := hide (by rw [hW]; exact blkAt3_0)
    have K1 : Hid (Blk W (w.heap.size + 1) [.int .i64 l, .int .i64 s, .slice da dn dc]) := hide (by rw [hW]; exact blkAt3_1)
    have K2 : Hid (Blk W (w.heap.size + 1 + 1) [.int .i64 0, .int .i64 0, .int .i64 0]) := hide (by rw [hW]; exact blkAt3_2)
    have B0 : Hid (Below w.heap.size w W) := hide (by rw [hW]; exact (by repeat (first | exact Below.refl _ _ | refine Below.alloc ?_ (by simp; try omega) _ | refine Below.setCell ?_ (by simp; try omega) _ | refine taDr ?_ _)))
    clear hW
    obtain ⟨ι, fW, _, hb, hall⟩ := belClass W
    have HB := hide hb
    have HA := hide hall
    have c00 : ∀ x, (fW x).cell? ⟨w.heap.size, 0, none⟩ = some (.int .i64 l) := fun x => ((unhide K0).below (hb x)).c 0 (by simp)
    have c01 : ∀ x, (fW x).cell? ⟨w.heap.size, 1, none⟩ = some (.int .i64 n) := fun x => ((unhide K0).below (hb x)).c 1 (by simp)
    have c02 : ∀ x, (fW x).cell? ⟨w.heap.size, 2, none⟩ = some (.int .i64 k) := fun x => ((unhide K0).below (hb x)).c 2 (by simp)
    have c10 : ∀ x, (fW x).cell? ⟨w.heap.size + 1, 0, none⟩ = some (.int .i64 l) := fun x => ((unhide K1).below (hb x)).c 0 (by simp)
    have c11 : ∀ x, (fW x).cell? ⟨w.heap.size + 1, 1, none⟩ = some (.int .i64 s) := fun x => ((unhide K1).below (hb x)).c 1 (by simp)
    have c12 : ∀ x, (fW x).cell? ⟨w.heap.size + 1, 2, none⟩ = some (.slice da dn dc) := fun x => ((unhide K1).below (hb x)).c 2 (by simp)
    have c20 : ∀ x, (fW x).cell? ⟨w.heap.size + 1 + 1, 0, none⟩ = some (.int .i64 0) := fun x => ((unhide K2).below (hb x)).c 0 (by simp)
    have c21 : ∀ x, (fW x).cell? ⟨w.heap.size + 1 + 1, 1, none⟩ = some (.int .i64 0) := fun x => ((unhide K2).below (hb x)).c 1 (by simp)
    have c22 : ∀ x, (fW x).cell? ⟨w.heap.size + 1 + 1, 2, none⟩ = some (.int .i64 0) := fun x => ((unhide K2).below (hb x)).c 2 (by simp)
    have z0 : ∀ x, (fW x).frozen? ⟨w.heap.size + 1 + 1, 0, none⟩ = false := fun x => ((unhide K2).below (hb x)).f 0 (by simp)
    have z1 : ∀ x, (fW x).frozen? ⟨w.heap.size + 1 + 1, 1, none⟩ = false := fun x => ((unhide K2).below (hb x)).f 1 (by simp)
    have z2 : ∀ x, (fW x).frozen? ⟨w.heap.size + 1 + 1, 2, none⟩ = false := fun x => ((unhide K2).below (hb x)).f 2 (by simp)
    have zz : ∀ x, (fW x).frozen? ⟨w.heap.size, 1, none⟩ = false := fun x => ((unhide K0).below (hb x)).f 1 (by simp)
    clear hb hall
    have p0 : ∀ x, ((fW x).setCell ⟨w.heap.size, 1, none⟩ (.int .i64 ((s + 1) % 256))).cell? ⟨w.heap.size, 0, none⟩ = some (.int .i64 (l)) := fun x => (((unhide K0).below (unhide HB x)).set 1 (by simp) (.int .i64 ((s + 1) % 256))).c 0 (by simp)
    have p1 : ∀ x, ((fW x).setCell ⟨w.heap.size, 1, none⟩ (.int .i64 ((s + 1) % 256))).cell? ⟨w.heap.size, 1, none⟩ = some (.int .i64 ((s + 1) % 256)) := fun x => (((unhide K0).below (unhide HB x)).set 1 (by simp) (.int .i64 ((s + 1) % 256))).c 1 (by simp)
    have p2 : ∀ x, ((fW x).setCell ⟨w.heap.size, 1, none⟩ (.int .i64 ((s + 1) % 256))).cell? ⟨w.heap.size, 2, none⟩ = some (.int .i64 (k)) := fun x => (((unhide K0).below (unhide HB x)).set 1 (by simp) (.int .i64 ((s + 1) % 256))).c 2 (by simp)
    have o0 : ∀ x, ((fW x).setCell ⟨w.heap.size, 1, none⟩ (.int .i64 ((s + 1) % 256))).cell? ⟨w.heap.size + 1 + 1, 0, none⟩ = some (.int .i64 0) := fun x => (((unhide K2).below (unhide HB x)).other (p := ⟨w.heap.size, 1, none⟩) (by show w.heap.size ≠ w.heap.size + 1 + 1; omega) (.int .i64 ((s + 1) % 256))).c 0 (by simp)
    have r0 : ∀ x, ((fW x).setCell ⟨w.heap.size, 1, none⟩ (.int .i64 ((s + 1) % 256))).frozen? ⟨w.heap.size + 1 + 1, 0, none⟩ = false := fun x => (((unhide K2).below (unhide HB x)).other (p := ⟨w.heap.size, 1, none⟩) (by show w.heap.size ≠ w.heap.size + 1 + 1; omega) (.int .i64 ((s + 1) % 256))).f 0 (by simp)
    have o1 : ∀ x, ((fW x).setCell ⟨w.heap.size, 1, none⟩ (.int .i64 ((s + 1) % 256))).cell? ⟨w.heap.size + 1 + 1, 1, none⟩ = some (.int .i64 0) := fun x => (((unhide K2).below (unhide HB x)).other (p := ⟨w.heap.size, 1, none⟩) (by show w.heap.size ≠ w.heap.size + 1 + 1; omega) (.int .i64 ((s + 1) % 256))).c 1 (by simp)
    have r1 : ∀ x, ((fW x).setCell ⟨w.heap.size, 1, none⟩ (.int .i64 ((s + 1) % 256))).frozen? ⟨w.heap.size + 1 + 1, 1, none⟩ = false := fun x => (((unhide K2).below (unhide HB x)).other (p := ⟨w.heap.size, 1, none⟩) (by show w.heap.size ≠ w.heap.size + 1 + 1; omega) (.int .i64 ((s + 1) % 256))).f 1 (by simp)
    have o2 : ∀ x, ((fW x).setCell ⟨w.heap.size, 1, none⟩ (.int .i64 ((s + 1) % 256))).cell? ⟨w.heap.size + 1 + 1, 2, none⟩ = some (.int .i64 0) := fun x => (((unhide K2).below (unhide HB x)).other (p := ⟨w.heap.size, 1, none⟩) (by show w.heap.size ≠ w.heap.size + 1 + 1; omega) (.int .i64 ((s + 1) % 256))).c 2 (by simp)
    have r2 : ∀ x, ((fW x).setCell ⟨w.heap.size, 1, none⟩ (.int .i64 ((s + 1) % 256))).frozen? ⟨w.heap.size + 1 + 1, 2, none⟩ = false := fun x => (((unhide K2).below (unhide HB x)).other (p := ⟨w.heap.size, 1, none⟩) (by show w.heap.size ≠ w.heap.size + 1 + 1; omega) (.int .i64 ((s + 1) % 256))).f 2 (by simp)
    obtain ⟨x0, h0⟩ := (unhide HA) W (Below.refl _ _)
    rw [h0]
    clear h0
    go_wp2_with (first | (go_at_call 16; refine (belQ (unhide HB) (unhide HA) (implReceiverOk_is _ _ _ _ (by exact q1))).mono ?_; rintro e _ ⟨rfl, y, rfl⟩) | (go_at_call 36; refine (belQ (unhide HB) (unhide HA) (implWordOk_is _ _ _ _ _ _ hs (by exact q2))).mono ?_; rintro e _ ⟨rfl, y, rfl⟩) | (go_at_call 42; refine (belQ (unhide HB) (unhide HA) (missedAhead_is _ _ _ _ _ (by omega) (by omega) (unhide HD))).mono ?_; rintro e _ ⟨rfl, y, rfl⟩))
    repeat (refine wp_region_bel (fun w' h => (unhide HA) w' ((unhide HB _).trans (h.mono (unhide HB _).size))) (by kernel_rfl) (by kernel_rfl) ?_; (repeat (go_big_quiet_step (first | (go_at_call 16; exact belQ (unhide HB) (unhide HA) (implReceiverOk_is _ _ _ _ (by exact q1))) | (go_at_call 36; exact belQ (unhide HB) (unhide HA) (implWordOk_is _ _ _ _ _ _ hs (by exact q2))) | (go_at_call 42; exact belQ (unhide HB) (unhide HA) (missedAhead_is _ _ _ _ _ (by omega) (by omega) (unhide HD)))))); refine wpQuiet_nil ?_; rintro _ ⟨y, rfl⟩; (first | go_wp2_with (first | (go_at_call 16; refine (belQ (unhide HB) (unhide HA) (implReceiverOk_is _ _ _ _ (by exact q1))).mono ?_; rintro e _ ⟨rfl, y, rfl⟩) | (go_at_call 36; refine (belQ (unhide HB) (unhide HA) (implWordOk_is _ _ _ _ _ _ hs (by exact q2))).mono ?_; rintro e _ ⟨rfl, y, rfl⟩) | (go_at_call 42; refine (belQ (unhide HB) (unhide HA) (missedAhead_is _ _ _ _ _ (by omega) (by omega) (unhide HD))).mono ?_; rintro e _ ⟨rfl, y, rfl⟩)) | go_wp2))
    exact bodyPost_ret (results_cellBB (vs := [.int .i64 l, .int .i64 ((s + 1) % 256), .int .i64 k]) rfl Try.isAgg52 Try.sizeOf52 rfl ((((((unhide K2).below (unhide HB _)).other (p := ⟨w.heap.size, 1, none⟩) (by show w.heap.size ≠ w.heap.size + 1 + 1; omega) _).set 0 (by simp) _).set 1 (by simp) _).set 2 (by simp) _) rfl rfl) rfl ⟨ret_acc (unhide HX) (unhide HBB) (unhide HM), ((((((unhide B0).trans ((unhide HB _).mono (unhide B0).size)).setCell (p := ⟨w.heap.size, 1, none⟩) (by simp) _).setCell (p := ⟨w.heap.size + 1 + 1, 0, none⟩) (by simp; try omega) _).setCell (p := ⟨w.heap.size + 1 + 1, 1, none⟩) (by simp; try omega) _).setCell (p := ⟨w.heap.size + 1 + 1, 2, none⟩) (by simp; try omega) _)⟩

end Go.Proofs.Yticdccdkjepifaa
