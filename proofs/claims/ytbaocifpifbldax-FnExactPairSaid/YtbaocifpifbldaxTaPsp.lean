/-
  Pair of the model: the plain answer, at every argument; nothing that was there is written.
-/
import Derived.Test.YtbaocifpifbldaxTaPim
namespace Go.Proofs.Ytbaocifpifbldax
open Go.RowKit

theorem prB_facts {ai ah ac as_ bi bh bc bs far cl near wi : Int} (h : prB15 ai ah ac as_ bi bh bc bs far cl near wi = true) : avB ai ah ac as_ = true ∧ avB bi bh bc bs = true ∧ (!(ai == bi)) = true ∧ inB far 0 1000000 = true ∧ inB cl (-1000) 1000 = true ∧ inB near 0 10000 = true ∧ inB wi 1 300 = true := by
  simp only [prB15, Bool.and_eq_true] at h
  obtain ⟨⟨⟨⟨⟨⟨a, b⟩, c⟩, d⟩, e⟩, f⟩, g⟩ := h
  exact ⟨a, b, c, d, e, f, g⟩
theorem prB_swap {ai ah ac as_ bi bh bc bs far cl near wi : Int} (h : prB15 ai ah ac as_ bi bh bc bs far cl near wi = true) : prB15 bi bh bc bs ai ah ac as_ far cl near wi = true := by
  obtain ⟨q1, q2, q3, q4, q5, q6, q7⟩ := prB_facts h
  have e : ¬ ai = bi := by simpa using q3
  have e2 : (!(bi == ai)) = true := by simp only [Bool.not_eq_true', beq_eq_false_iff_ne, ne_eq]; omega
  simp only [prB15, q1, q2, e2, q4, q5, q6, q7, Bool.and_self]

set_option maxRecDepth 20000 in
set_option maxHeartbeats 1500000 in
theorem specPair_no (ai ah ac as_ bi bh bc bs far cl near wi : Int) (w : World) (hc : prB15 ai ah ac as_ bi bh bc bs far cl near wi = false) :
    Calls Try.prog 17 #[.agg #[.int .i64 ai, .int .i64 ah, .int .i64 ac, .int .i64 as_], .agg #[.int .i64 bi, .int .i64 bh, .int .i64 bc, .int .i64 bs], .int .i64 far, .int .i64 cl, .int .i64 near, .int .i64 wi] w fun e w' => e = .returned (.tuple #[.int .i64 0, .int .i64 0, .bool false]) ∧ Below w.heap.size w w' := by
  rcases seven (avB ai ah ac as_) (avB bi bh bc bs) (!(ai == bi)) (inB far 0 1000000) (inB cl (-1000) 1000) (inB near 0 10000) (inB wi 1 300) with ⟨q1, hv⟩ | ⟨q1, q2, hv⟩ | ⟨q1, q2, q3, hv⟩ | ⟨q1, q2, q3, q4, hv⟩ | ⟨q1, q2, q3, q4, q5, hv⟩ | ⟨q1, q2, q3, q4, q5, q6, hv⟩ | ⟨q1, q2, q3, q4, q5, q6, q7, hv⟩ | ⟨q1, q2, q3, q4, q5, q6, q7, hv⟩
  · have HC := hide hv
    clear hv hc
    go_enter Try.func17, Try.ntmps17
    go_wp2_with fail
    obtain ⟨W, hW⟩ : ∃ W, W = ((w.alloc (Obj.cells #[.int .i64 ai, .int .i64 ah, .int .i64 ac, .int .i64 as_] 32)).alloc (Obj.cells #[.int .i64 bi, .int .i64 bh, .int .i64 bc, .int .i64 bs] 32)) := ⟨_, rfl⟩
    rw [← hW]
    have K0 : Hid (Blk W (w.heap.size) [.int .i64 ai, .int .i64 ah, .int .i64 ac, .int .i64 as_]) := hide (by rw [hW]; exact blkAt2_0)
    have K1 : Hid (Blk W (w.heap.size + 1) [.int .i64 bi, .int .i64 bh, .int .i64 bc, .int .i64 bs]) := hide (by rw [hW]; exact blkAt2_1)
    have B0 : Hid (Below w.heap.size w W) := hide (by rw [hW]; exact (by repeat (first | exact Below.refl _ _ | refine Below.alloc ?_ (by simp; try omega) _ | refine Below.setCell ?_ (by simp; try omega) _ | refine taDr ?_ _)))
    clear hW
    obtain ⟨ι, fW, _, hb, hall⟩ := belClass W
    have HB := hide hb
    have HA := hide hall
    have c00 : ∀ x, (fW x).cell? ⟨w.heap.size, 0, none⟩ = some (.int .i64 ai) := fun x => ((unhide K0).below (hb x)).c 0 (by simp)
    have c01 : ∀ x, (fW x).cell? ⟨w.heap.size, 1, none⟩ = some (.int .i64 ah) := fun x => ((unhide K0).below (hb x)).c 1 (by simp)
    have c02 : ∀ x, (fW x).cell? ⟨w.heap.size, 2, none⟩ = some (.int .i64 ac) := fun x => ((unhide K0).below (hb x)).c 2 (by simp)
    have c03 : ∀ x, (fW x).cell? ⟨w.heap.size, 3, none⟩ = some (.int .i64 as_) := fun x => ((unhide K0).below (hb x)).c 3 (by simp)
    have c10 : ∀ x, (fW x).cell? ⟨w.heap.size + 1, 0, none⟩ = some (.int .i64 bi) := fun x => ((unhide K1).below (hb x)).c 0 (by simp)
    have c11 : ∀ x, (fW x).cell? ⟨w.heap.size + 1, 1, none⟩ = some (.int .i64 bh) := fun x => ((unhide K1).below (hb x)).c 1 (by simp)
    have c12 : ∀ x, (fW x).cell? ⟨w.heap.size + 1, 2, none⟩ = some (.int .i64 bc) := fun x => ((unhide K1).below (hb x)).c 2 (by simp)
    have c13 : ∀ x, (fW x).cell? ⟨w.heap.size + 1, 3, none⟩ = some (.int .i64 bs) := fun x => ((unhide K1).below (hb x)).c 3 (by simp)
    clear hb hall
    obtain ⟨x0, h0⟩ := (unhide HA) W (Below.refl _ _)
    rw [h0]
    clear h0
    go_wp2_with (first | (go_at_call_of 31 (Value.agg #[.int .i64 ai, .int .i64 ah, .int .i64 ac, .int .i64 as_]); refine (belQ (unhide HB) (unhide HA) (specOwnOk_is _ _ _ _ _ (by exact q1))).mono ?_; rintro e _ ⟨rfl, y, rfl⟩))
    repeat (refine wp_region_bel (fun w' h => (unhide HA) w' ((unhide HB _).trans (h.mono (unhide HB _).size))) (by kernel_rfl) (by kernel_rfl) ?_; (repeat (go_big_quiet_step (first | (go_at_call_of 31 (Value.agg #[.int .i64 ai, .int .i64 ah, .int .i64 ac, .int .i64 as_]); exact belQ (unhide HB) (unhide HA) (specOwnOk_is _ _ _ _ _ (by exact q1)))))); refine wpQuiet_nil ?_; rintro _ ⟨y, rfl⟩; (first | go_wp2_with (first | (go_at_call_of 31 (Value.agg #[.int .i64 ai, .int .i64 ah, .int .i64 ac, .int .i64 as_]); refine (belQ (unhide HB) (unhide HA) (specOwnOk_is _ _ _ _ _ (by exact q1))).mono ?_; rintro e _ ⟨rfl, y, rfl⟩)) | go_wp2))
    refine bodyPost_ret (v := .tuple #[.int .i64 0, .int .i64 0, .bool false]) (by simp [results, Try.results17, go_sem]) rfl ⟨rfl, ?_⟩
    exact (unhide B0).trans ((unhide HB _).mono (unhide B0).size)
  · have HC := hide hv
    clear hv hc
    go_enter Try.func17, Try.ntmps17
    go_wp2_with fail
    obtain ⟨W, hW⟩ : ∃ W, W = ((w.alloc (Obj.cells #[.int .i64 ai, .int .i64 ah, .int .i64 ac, .int .i64 as_] 32)).alloc (Obj.cells #[.int .i64 bi, .int .i64 bh, .int .i64 bc, .int .i64 bs] 32)) := ⟨_, rfl⟩
    rw [← hW]
    have K0 : Hid (Blk W (w.heap.size) [.int .i64 ai, .int .i64 ah, .int .i64 ac, .int .i64 as_]) := hide (by rw [hW]; exact blkAt2_0)
    have K1 : Hid (Blk W (w.heap.size + 1) [.int .i64 bi, .int .i64 bh, .int .i64 bc, .int .i64 bs]) := hide (by rw [hW]; exact blkAt2_1)
    have B0 : Hid (Below w.heap.size w W) := hide (by rw [hW]; exact (by repeat (first | exact Below.refl _ _ | refine Below.alloc ?_ (by simp; try omega) _ | refine Below.setCell ?_ (by simp; try omega) _ | refine taDr ?_ _)))
    clear hW
    obtain ⟨ι, fW, _, hb, hall⟩ := belClass W
    have HB := hide hb
    have HA := hide hall
    have c00 : ∀ x, (fW x).cell? ⟨w.heap.size, 0, none⟩ = some (.int .i64 ai) := fun x => ((unhide K0).below (hb x)).c 0 (by simp)
    have c01 : ∀ x, (fW x).cell? ⟨w.heap.size, 1, none⟩ = some (.int .i64 ah) := fun x => ((unhide K0).below (hb x)).c 1 (by simp)
    have c02 : ∀ x, (fW x).cell? ⟨w.heap.size, 2, none⟩ = some (.int .i64 ac) := fun x => ((unhide K0).below (hb x)).c 2 (by simp)
    have c03 : ∀ x, (fW x).cell? ⟨w.heap.size, 3, none⟩ = some (.int .i64 as_) := fun x => ((unhide K0).below (hb x)).c 3 (by simp)
    have c10 : ∀ x, (fW x).cell? ⟨w.heap.size + 1, 0, none⟩ = some (.int .i64 bi) := fun x => ((unhide K1).below (hb x)).c 0 (by simp)
    have c11 : ∀ x, (fW x).cell? ⟨w.heap.size + 1, 1, none⟩ = some (.int .i64 bh) := fun x => ((unhide K1).below (hb x)).c 1 (by simp)
    have c12 : ∀ x, (fW x).cell? ⟨w.heap.size + 1, 2, none⟩ = some (.int .i64 bc) := fun x => ((unhide K1).below (hb x)).c 2 (by simp)
    have c13 : ∀ x, (fW x).cell? ⟨w.heap.size + 1, 3, none⟩ = some (.int .i64 bs) := fun x => ((unhide K1).below (hb x)).c 3 (by simp)
    clear hb hall
    obtain ⟨x0, h0⟩ := (unhide HA) W (Below.refl _ _)
    rw [h0]
    clear h0
    go_wp2_with (first | (go_at_call_of 31 (Value.agg #[.int .i64 ai, .int .i64 ah, .int .i64 ac, .int .i64 as_]); refine (belQ (unhide HB) (unhide HA) (specOwnOk_is _ _ _ _ _ (by exact q1))).mono ?_; rintro e _ ⟨rfl, y, rfl⟩) | (go_at_call_of 31 (Value.agg #[.int .i64 bi, .int .i64 bh, .int .i64 bc, .int .i64 bs]); refine (belQ (unhide HB) (unhide HA) (specOwnOk_is _ _ _ _ _ (by exact q2))).mono ?_; rintro e _ ⟨rfl, y, rfl⟩))
    repeat (refine wp_region_bel (fun w' h => (unhide HA) w' ((unhide HB _).trans (h.mono (unhide HB _).size))) (by kernel_rfl) (by kernel_rfl) ?_; (repeat (go_big_quiet_step (first | (go_at_call_of 31 (Value.agg #[.int .i64 ai, .int .i64 ah, .int .i64 ac, .int .i64 as_]); exact belQ (unhide HB) (unhide HA) (specOwnOk_is _ _ _ _ _ (by exact q1))) | (go_at_call_of 31 (Value.agg #[.int .i64 bi, .int .i64 bh, .int .i64 bc, .int .i64 bs]); exact belQ (unhide HB) (unhide HA) (specOwnOk_is _ _ _ _ _ (by exact q2)))))); refine wpQuiet_nil ?_; rintro _ ⟨y, rfl⟩; (first | go_wp2_with (first | (go_at_call_of 31 (Value.agg #[.int .i64 ai, .int .i64 ah, .int .i64 ac, .int .i64 as_]); refine (belQ (unhide HB) (unhide HA) (specOwnOk_is _ _ _ _ _ (by exact q1))).mono ?_; rintro e _ ⟨rfl, y, rfl⟩) | (go_at_call_of 31 (Value.agg #[.int .i64 bi, .int .i64 bh, .int .i64 bc, .int .i64 bs]); refine (belQ (unhide HB) (unhide HA) (specOwnOk_is _ _ _ _ _ (by exact q2))).mono ?_; rintro e _ ⟨rfl, y, rfl⟩)) | go_wp2))
    refine bodyPost_ret (v := .tuple #[.int .i64 0, .int .i64 0, .bool false]) (by simp [results, Try.results17, go_sem]) rfl ⟨rfl, ?_⟩
    exact (unhide B0).trans ((unhide HB _).mono (unhide B0).size)
  · have HC := hide hv
    clear hv hc
    have e : (ai == bi) = true := by simpa using q3
    have e3 : ai = bi := by simpa using q3
    have e4 := hide e3
    clear q3 e3
    go_enter Try.func17, Try.ntmps17
    go_wp2_with fail
    obtain ⟨W, hW⟩ : ∃ W, W = ((w.alloc (Obj.cells #[.int .i64 ai, .int .i64 ah, .int .i64 ac, .int .i64 as_] 32)).alloc (Obj.cells #[.int .i64 bi, .int .i64 bh, .int .i64 bc, .int .i64 bs] 32)) := ⟨_, rfl⟩
    rw [← hW]
    have K0 : Hid (Blk W (w.heap.size) [.int .i64 ai, .int .i64 ah, .int .i64 ac, .int .i64 as_]) := hide (by rw [hW]; exact blkAt2_0)
    have K1 : Hid (Blk W (w.heap.size + 1) [.int .i64 bi, .int .i64 bh, .int .i64 bc, .int .i64 bs]) := hide (by rw [hW]; exact blkAt2_1)
    have B0 : Hid (Below w.heap.size w W) := hide (by rw [hW]; exact (by repeat (first | exact Below.refl _ _ | refine Below.alloc ?_ (by simp; try omega) _ | refine Below.setCell ?_ (by simp; try omega) _ | refine taDr ?_ _)))
    clear hW
    obtain ⟨ι, fW, _, hb, hall⟩ := belClass W
    have HB := hide hb
    have HA := hide hall
    have c00 : ∀ x, (fW x).cell? ⟨w.heap.size, 0, none⟩ = some (.int .i64 ai) := fun x => ((unhide K0).below (hb x)).c 0 (by simp)
    have c01 : ∀ x, (fW x).cell? ⟨w.heap.size, 1, none⟩ = some (.int .i64 ah) := fun x => ((unhide K0).below (hb x)).c 1 (by simp)
    have c02 : ∀ x, (fW x).cell? ⟨w.heap.size, 2, none⟩ = some (.int .i64 ac) := fun x => ((unhide K0).below (hb x)).c 2 (by simp)
    have c03 : ∀ x, (fW x).cell? ⟨w.heap.size, 3, none⟩ = some (.int .i64 as_) := fun x => ((unhide K0).below (hb x)).c 3 (by simp)
    have c10 : ∀ x, (fW x).cell? ⟨w.heap.size + 1, 0, none⟩ = some (.int .i64 bi) := fun x => ((unhide K1).below (hb x)).c 0 (by simp)
    have c11 : ∀ x, (fW x).cell? ⟨w.heap.size + 1, 1, none⟩ = some (.int .i64 bh) := fun x => ((unhide K1).below (hb x)).c 1 (by simp)
    have c12 : ∀ x, (fW x).cell? ⟨w.heap.size + 1, 2, none⟩ = some (.int .i64 bc) := fun x => ((unhide K1).below (hb x)).c 2 (by simp)
    have c13 : ∀ x, (fW x).cell? ⟨w.heap.size + 1, 3, none⟩ = some (.int .i64 bs) := fun x => ((unhide K1).below (hb x)).c 3 (by simp)
    clear hb hall
    obtain ⟨x0, h0⟩ := (unhide HA) W (Below.refl _ _)
    rw [h0]
    clear h0
    go_wp2_with (first | (go_at_call_of 31 (Value.agg #[.int .i64 ai, .int .i64 ah, .int .i64 ac, .int .i64 as_]); refine (belQ (unhide HB) (unhide HA) (specOwnOk_is _ _ _ _ _ (by exact q1))).mono ?_; rintro e _ ⟨rfl, y, rfl⟩) | (go_at_call_of 31 (Value.agg #[.int .i64 bi, .int .i64 bh, .int .i64 bc, .int .i64 bs]); refine (belQ (unhide HB) (unhide HA) (specOwnOk_is _ _ _ _ _ (by exact q2))).mono ?_; rintro e _ ⟨rfl, y, rfl⟩))
    repeat (refine wp_region_bel (fun w' h => (unhide HA) w' ((unhide HB _).trans (h.mono (unhide HB _).size))) (by kernel_rfl) (by kernel_rfl) ?_; (repeat (go_big_quiet_step (first | (go_at_call_of 31 (Value.agg #[.int .i64 ai, .int .i64 ah, .int .i64 ac, .int .i64 as_]); exact belQ (unhide HB) (unhide HA) (specOwnOk_is _ _ _ _ _ (by exact q1))) | (go_at_call_of 31 (Value.agg #[.int .i64 bi, .int .i64 bh, .int .i64 bc, .int .i64 bs]); exact belQ (unhide HB) (unhide HA) (specOwnOk_is _ _ _ _ _ (by exact q2)))))); refine wpQuiet_nil ?_; rintro _ ⟨y, rfl⟩; (first | go_wp2_with (first | (go_at_call_of 31 (Value.agg #[.int .i64 ai, .int .i64 ah, .int .i64 ac, .int .i64 as_]); refine (belQ (unhide HB) (unhide HA) (specOwnOk_is _ _ _ _ _ (by exact q1))).mono ?_; rintro e _ ⟨rfl, y, rfl⟩) | (go_at_call_of 31 (Value.agg #[.int .i64 bi, .int .i64 bh, .int .i64 bc, .int .i64 bs]); refine (belQ (unhide HB) (unhide HA) (specOwnOk_is _ _ _ _ _ (by exact q2))).mono ?_; rintro e _ ⟨rfl, y, rfl⟩)) | go_wp2))
    refine bodyPost_ret (v := .tuple #[.int .i64 0, .int .i64 0, .bool false]) (by simp [results, Try.results17, go_sem]) rfl ⟨rfl, ?_⟩
    exact (unhide B0).trans ((unhide HB _).mono (unhide B0).size)
  · have HC := hide hv
    clear hv hc
    have e : (ai == bi) = false := by simpa using q3
    have e3 : ¬ ai = bi := by simpa using q3
    clear q3
    go_enter Try.func17, Try.ntmps17
    go_wp2_with fail
    obtain ⟨W, hW⟩ : ∃ W, W = ((w.alloc (Obj.cells #[.int .i64 ai, .int .i64 ah, .int .i64 ac, .int .i64 as_] 32)).alloc (Obj.cells #[.int .i64 bi, .int .i64 bh, .int .i64 bc, .int .i64 bs] 32)) := ⟨_, rfl⟩
    rw [← hW]
    have K0 : Hid (Blk W (w.heap.size) [.int .i64 ai, .int .i64 ah, .int .i64 ac, .int .i64 as_]) := hide (by rw [hW]; exact blkAt2_0)
    have K1 : Hid (Blk W (w.heap.size + 1) [.int .i64 bi, .int .i64 bh, .int .i64 bc, .int .i64 bs]) := hide (by rw [hW]; exact blkAt2_1)
    have B0 : Hid (Below w.heap.size w W) := hide (by rw [hW]; exact (by repeat (first | exact Below.refl _ _ | refine Below.alloc ?_ (by simp; try omega) _ | refine Below.setCell ?_ (by simp; try omega) _ | refine taDr ?_ _)))
    clear hW
    obtain ⟨ι, fW, _, hb, hall⟩ := belClass W
    have HB := hide hb
    have HA := hide hall
    have c00 : ∀ x, (fW x).cell? ⟨w.heap.size, 0, none⟩ = some (.int .i64 ai) := fun x => ((unhide K0).below (hb x)).c 0 (by simp)
    have c01 : ∀ x, (fW x).cell? ⟨w.heap.size, 1, none⟩ = some (.int .i64 ah) := fun x => ((unhide K0).below (hb x)).c 1 (by simp)
    have c02 : ∀ x, (fW x).cell? ⟨w.heap.size, 2, none⟩ = some (.int .i64 ac) := fun x => ((unhide K0).below (hb x)).c 2 (by simp)
    have c03 : ∀ x, (fW x).cell? ⟨w.heap.size, 3, none⟩ = some (.int .i64 as_) := fun x => ((unhide K0).below (hb x)).c 3 (by simp)
    have c10 : ∀ x, (fW x).cell? ⟨w.heap.size + 1, 0, none⟩ = some (.int .i64 bi) := fun x => ((unhide K1).below (hb x)).c 0 (by simp)
    have c11 : ∀ x, (fW x).cell? ⟨w.heap.size + 1, 1, none⟩ = some (.int .i64 bh) := fun x => ((unhide K1).below (hb x)).c 1 (by simp)
    have c12 : ∀ x, (fW x).cell? ⟨w.heap.size + 1, 2, none⟩ = some (.int .i64 bc) := fun x => ((unhide K1).below (hb x)).c 2 (by simp)
    have c13 : ∀ x, (fW x).cell? ⟨w.heap.size + 1, 3, none⟩ = some (.int .i64 bs) := fun x => ((unhide K1).below (hb x)).c 3 (by simp)
    clear hb hall
    obtain ⟨x0, h0⟩ := (unhide HA) W (Below.refl _ _)
    rw [h0]
    clear h0
    go_wp2_with (first | (go_at_call_of 31 (Value.agg #[.int .i64 ai, .int .i64 ah, .int .i64 ac, .int .i64 as_]); refine (belQ (unhide HB) (unhide HA) (specOwnOk_is _ _ _ _ _ (by exact q1))).mono ?_; rintro e _ ⟨rfl, y, rfl⟩) | (go_at_call_of 31 (Value.agg #[.int .i64 bi, .int .i64 bh, .int .i64 bc, .int .i64 bs]); refine (belQ (unhide HB) (unhide HA) (specOwnOk_is _ _ _ _ _ (by exact q2))).mono ?_; rintro e _ ⟨rfl, y, rfl⟩) | (go_at_call 32; refine (belS (l1In_is _ _ _ _ (by first | exact q4 | exact q5 | exact q6 | exact q7))).mono ?_; rintro e _ ⟨rfl, y, rfl⟩))
    repeat (refine wp_region_bel (fun w' h => (unhide HA) w' ((unhide HB _).trans (h.mono (unhide HB _).size))) (by kernel_rfl) (by kernel_rfl) ?_; (repeat (go_big_quiet_step (first | (go_at_call_of 31 (Value.agg #[.int .i64 ai, .int .i64 ah, .int .i64 ac, .int .i64 as_]); exact belQ (unhide HB) (unhide HA) (specOwnOk_is _ _ _ _ _ (by exact q1))) | (go_at_call_of 31 (Value.agg #[.int .i64 bi, .int .i64 bh, .int .i64 bc, .int .i64 bs]); exact belQ (unhide HB) (unhide HA) (specOwnOk_is _ _ _ _ _ (by exact q2))) | (go_at_call 32; exact belS (l1In_is _ _ _ _ (by first | exact q4 | exact q5 | exact q6 | exact q7)))))); refine wpQuiet_nil ?_; rintro _ ⟨y, rfl⟩; (first | go_wp2_with (first | (go_at_call_of 31 (Value.agg #[.int .i64 ai, .int .i64 ah, .int .i64 ac, .int .i64 as_]); refine (belQ (unhide HB) (unhide HA) (specOwnOk_is _ _ _ _ _ (by exact q1))).mono ?_; rintro e _ ⟨rfl, y, rfl⟩) | (go_at_call_of 31 (Value.agg #[.int .i64 bi, .int .i64 bh, .int .i64 bc, .int .i64 bs]); refine (belQ (unhide HB) (unhide HA) (specOwnOk_is _ _ _ _ _ (by exact q2))).mono ?_; rintro e _ ⟨rfl, y, rfl⟩) | (go_at_call 32; refine (belS (l1In_is _ _ _ _ (by first | exact q4 | exact q5 | exact q6 | exact q7))).mono ?_; rintro e _ ⟨rfl, y, rfl⟩)) | go_wp2))
    refine bodyPost_ret (v := .tuple #[.int .i64 0, .int .i64 0, .bool false]) (by simp [results, Try.results17, go_sem]) rfl ⟨rfl, ?_⟩
    exact (unhide B0).trans ((unhide HB _).mono (unhide B0).size)
  · have HC := hide hv
    clear hv hc
    have e : (ai == bi) = false := by simpa using q3
    have e3 : ¬ ai = bi := by simpa using q3
    clear q3
    go_enter Try.func17, Try.ntmps17
    go_wp2_with fail
    obtain ⟨W, hW⟩ : ∃ W, W = ((w.alloc (Obj.cells #[.int .i64 ai, .int .i64 ah, .int .i64 ac, .int .i64 as_] 32)).alloc (Obj.cells #[.int .i64 bi, .int .i64 bh, .int .i64 bc, .int .i64 bs] 32)) := ⟨_, rfl⟩
    rw [← hW]
    have K0 : Hid (Blk W (w.heap.size) [.int .i64 ai, .int .i64 ah, .int .i64 ac, .int .i64 as_]) := hide (by rw [hW]; exact blkAt2_0)
    have K1 : Hid (Blk W (w.heap.size + 1) [.int .i64 bi, .int .i64 bh, .int .i64 bc, .int .i64 bs]) := hide (by rw [hW]; exact blkAt2_1)
    have B0 : Hid (Below w.heap.size w W) := hide (by rw [hW]; exact (by repeat (first | exact Below.refl _ _ | refine Below.alloc ?_ (by simp; try omega) _ | refine Below.setCell ?_ (by simp; try omega) _ | refine taDr ?_ _)))
    clear hW
    obtain ⟨ι, fW, _, hb, hall⟩ := belClass W
    have HB := hide hb
    have HA := hide hall
    have c00 : ∀ x, (fW x).cell? ⟨w.heap.size, 0, none⟩ = some (.int .i64 ai) := fun x => ((unhide K0).below (hb x)).c 0 (by simp)
    have c01 : ∀ x, (fW x).cell? ⟨w.heap.size, 1, none⟩ = some (.int .i64 ah) := fun x => ((unhide K0).below (hb x)).c 1 (by simp)
    have c02 : ∀ x, (fW x).cell? ⟨w.heap.size, 2, none⟩ = some (.int .i64 ac) := fun x => ((unhide K0).below (hb x)).c 2 (by simp)
    have c03 : ∀ x, (fW x).cell? ⟨w.heap.size, 3, none⟩ = some (.int .i64 as_) := fun x => ((unhide K0).below (hb x)).c 3 (by simp)
    have c10 : ∀ x, (fW x).cell? ⟨w.heap.size + 1, 0, none⟩ = some (.int .i64 bi) := fun x => ((unhide K1).below (hb x)).c 0 (by simp)
    have c11 : ∀ x, (fW x).cell? ⟨w.heap.size + 1, 1, none⟩ = some (.int .i64 bh) := fun x => ((unhide K1).below (hb x)).c 1 (by simp)
    have c12 : ∀ x, (fW x).cell? ⟨w.heap.size + 1, 2, none⟩ = some (.int .i64 bc) := fun x => ((unhide K1).below (hb x)).c 2 (by simp)
    have c13 : ∀ x, (fW x).cell? ⟨w.heap.size + 1, 3, none⟩ = some (.int .i64 bs) := fun x => ((unhide K1).below (hb x)).c 3 (by simp)
    clear hb hall
    obtain ⟨x0, h0⟩ := (unhide HA) W (Below.refl _ _)
    rw [h0]
    clear h0
    go_wp2_with (first | (go_at_call_of 31 (Value.agg #[.int .i64 ai, .int .i64 ah, .int .i64 ac, .int .i64 as_]); refine (belQ (unhide HB) (unhide HA) (specOwnOk_is _ _ _ _ _ (by exact q1))).mono ?_; rintro e _ ⟨rfl, y, rfl⟩) | (go_at_call_of 31 (Value.agg #[.int .i64 bi, .int .i64 bh, .int .i64 bc, .int .i64 bs]); refine (belQ (unhide HB) (unhide HA) (specOwnOk_is _ _ _ _ _ (by exact q2))).mono ?_; rintro e _ ⟨rfl, y, rfl⟩) | (go_at_call 32; refine (belS (l1In_is _ _ _ _ (by first | exact q4 | exact q5 | exact q6 | exact q7))).mono ?_; rintro e _ ⟨rfl, y, rfl⟩))
    repeat (refine wp_region_bel (fun w' h => (unhide HA) w' ((unhide HB _).trans (h.mono (unhide HB _).size))) (by kernel_rfl) (by kernel_rfl) ?_; (repeat (go_big_quiet_step (first | (go_at_call_of 31 (Value.agg #[.int .i64 ai, .int .i64 ah, .int .i64 ac, .int .i64 as_]); exact belQ (unhide HB) (unhide HA) (specOwnOk_is _ _ _ _ _ (by exact q1))) | (go_at_call_of 31 (Value.agg #[.int .i64 bi, .int .i64 bh, .int .i64 bc, .int .i64 bs]); exact belQ (unhide HB) (unhide HA) (specOwnOk_is _ _ _ _ _ (by exact q2))) | (go_at_call 32; exact belS (l1In_is _ _ _ _ (by first | exact q4 | exact q5 | exact q6 | exact q7)))))); refine wpQuiet_nil ?_; rintro _ ⟨y, rfl⟩; (first | go_wp2_with (first | (go_at_call_of 31 (Value.agg #[.int .i64 ai, .int .i64 ah, .int .i64 ac, .int .i64 as_]); refine (belQ (unhide HB) (unhide HA) (specOwnOk_is _ _ _ _ _ (by exact q1))).mono ?_; rintro e _ ⟨rfl, y, rfl⟩) | (go_at_call_of 31 (Value.agg #[.int .i64 bi, .int .i64 bh, .int .i64 bc, .int .i64 bs]); refine (belQ (unhide HB) (unhide HA) (specOwnOk_is _ _ _ _ _ (by exact q2))).mono ?_; rintro e _ ⟨rfl, y, rfl⟩) | (go_at_call 32; refine (belS (l1In_is _ _ _ _ (by first | exact q4 | exact q5 | exact q6 | exact q7))).mono ?_; rintro e _ ⟨rfl, y, rfl⟩)) | go_wp2))
    refine bodyPost_ret (v := .tuple #[.int .i64 0, .int .i64 0, .bool false]) (by simp [results, Try.results17, go_sem]) rfl ⟨rfl, ?_⟩
    exact (unhide B0).trans ((unhide HB _).mono (unhide B0).size)
  · have HC := hide hv
    clear hv hc
    have e : (ai == bi) = false := by simpa using q3
    have e3 : ¬ ai = bi := by simpa using q3
    clear q3
    go_enter Try.func17, Try.ntmps17
    go_wp2_with fail
    obtain ⟨W, hW⟩ : ∃ W, W = ((w.alloc (Obj.cells #[.int .i64 ai, .int .i64 ah, .int .i64 ac, .int .i64 as_] 32)).alloc (Obj.cells #[.int .i64 bi, .int .i64 bh, .int .i64 bc, .int .i64 bs] 32)) := ⟨_, rfl⟩
    rw [← hW]
    have K0 : Hid (Blk W (w.heap.size) [.int .i64 ai, .int .i64 ah, .int .i64 ac, .int .i64 as_]) := hide (by rw [hW]; exact blkAt2_0)
    have K1 : Hid (Blk W (w.heap.size + 1) [.int .i64 bi, .int .i64 bh, .int .i64 bc, .int .i64 bs]) := hide (by rw [hW]; exact blkAt2_1)
    have B0 : Hid (Below w.heap.size w W) := hide (by rw [hW]; exact (by repeat (first | exact Below.refl _ _ | refine Below.alloc ?_ (by simp; try omega) _ | refine Below.setCell ?_ (by simp; try omega) _ | refine taDr ?_ _)))
    clear hW
    obtain ⟨ι, fW, _, hb, hall⟩ := belClass W
    have HB := hide hb
    have HA := hide hall
    have c00 : ∀ x, (fW x).cell? ⟨w.heap.size, 0, none⟩ = some (.int .i64 ai) := fun x => ((unhide K0).below (hb x)).c 0 (by simp)
    have c01 : ∀ x, (fW x).cell? ⟨w.heap.size, 1, none⟩ = some (.int .i64 ah) := fun x => ((unhide K0).below (hb x)).c 1 (by simp)
    have c02 : ∀ x, (fW x).cell? ⟨w.heap.size, 2, none⟩ = some (.int .i64 ac) := fun x => ((unhide K0).below (hb x)).c 2 (by simp)
    have c03 : ∀ x, (fW x).cell? ⟨w.heap.size, 3, none⟩ = some (.int .i64 as_) := fun x => ((unhide K0).below (hb x)).c 3 (by simp)
    have c10 : ∀ x, (fW x).cell? ⟨w.heap.size + 1, 0, none⟩ = some (.int .i64 bi) := fun x => ((unhide K1).below (hb x)).c 0 (by simp)
    have c11 : ∀ x, (fW x).cell? ⟨w.heap.size + 1, 1, none⟩ = some (.int .i64 bh) := fun x => ((unhide K1).below (hb x)).c 1 (by simp)
    have c12 : ∀ x, (fW x).cell? ⟨w.heap.size + 1, 2, none⟩ = some (.int .i64 bc) := fun x => ((unhide K1).below (hb x)).c 2 (by simp)
    have c13 : ∀ x, (fW x).cell? ⟨w.heap.size + 1, 3, none⟩ = some (.int .i64 bs) := fun x => ((unhide K1).below (hb x)).c 3 (by simp)
    clear hb hall
    obtain ⟨x0, h0⟩ := (unhide HA) W (Below.refl _ _)
    rw [h0]
    clear h0
    go_wp2_with (first | (go_at_call_of 31 (Value.agg #[.int .i64 ai, .int .i64 ah, .int .i64 ac, .int .i64 as_]); refine (belQ (unhide HB) (unhide HA) (specOwnOk_is _ _ _ _ _ (by exact q1))).mono ?_; rintro e _ ⟨rfl, y, rfl⟩) | (go_at_call_of 31 (Value.agg #[.int .i64 bi, .int .i64 bh, .int .i64 bc, .int .i64 bs]); refine (belQ (unhide HB) (unhide HA) (specOwnOk_is _ _ _ _ _ (by exact q2))).mono ?_; rintro e _ ⟨rfl, y, rfl⟩) | (go_at_call 32; refine (belS (l1In_is _ _ _ _ (by first | exact q4 | exact q5 | exact q6 | exact q7))).mono ?_; rintro e _ ⟨rfl, y, rfl⟩))
    repeat (refine wp_region_bel (fun w' h => (unhide HA) w' ((unhide HB _).trans (h.mono (unhide HB _).size))) (by kernel_rfl) (by kernel_rfl) ?_; (repeat (go_big_quiet_step (first | (go_at_call_of 31 (Value.agg #[.int .i64 ai, .int .i64 ah, .int .i64 ac, .int .i64 as_]); exact belQ (unhide HB) (unhide HA) (specOwnOk_is _ _ _ _ _ (by exact q1))) | (go_at_call_of 31 (Value.agg #[.int .i64 bi, .int .i64 bh, .int .i64 bc, .int .i64 bs]); exact belQ (unhide HB) (unhide HA) (specOwnOk_is _ _ _ _ _ (by exact q2))) | (go_at_call 32; exact belS (l1In_is _ _ _ _ (by first | exact q4 | exact q5 | exact q6 | exact q7)))))); refine wpQuiet_nil ?_; rintro _ ⟨y, rfl⟩; (first | go_wp2_with (first | (go_at_call_of 31 (Value.agg #[.int .i64 ai, .int .i64 ah, .int .i64 ac, .int .i64 as_]); refine (belQ (unhide HB) (unhide HA) (specOwnOk_is _ _ _ _ _ (by exact q1))).mono ?_; rintro e _ ⟨rfl, y, rfl⟩) | (go_at_call_of 31 (Value.agg #[.int .i64 bi, .int .i64 bh, .int .i64 bc, .int .i64 bs]); refine (belQ (unhide HB) (unhide HA) (specOwnOk_is _ _ _ _ _ (by exact q2))).mono ?_; rintro e _ ⟨rfl, y, rfl⟩) | (go_at_call 32; refine (belS (l1In_is _ _ _ _ (by first | exact q4 | exact q5 | exact q6 | exact q7))).mono ?_; rintro e _ ⟨rfl, y, rfl⟩)) | go_wp2))
    refine bodyPost_ret (v := .tuple #[.int .i64 0, .int .i64 0, .bool false]) (by simp [results, Try.results17, go_sem]) rfl ⟨rfl, ?_⟩
    exact (unhide B0).trans ((unhide HB _).mono (unhide B0).size)
  · have HC := hide hv
    clear hv hc
    have e : (ai == bi) = false := by simpa using q3
    have e3 : ¬ ai = bi := by simpa using q3
    clear q3
    go_enter Try.func17, Try.ntmps17
    go_wp2_with fail
    obtain ⟨W, hW⟩ : ∃ W, W = ((w.alloc (Obj.cells #[.int .i64 ai, .int .i64 ah, .int .i64 ac, .int .i64 as_] 32)).alloc (Obj.cells #[.int .i64 bi, .int .i64 bh, .int .i64 bc, .int .i64 bs] 32)) := ⟨_, rfl⟩
    rw [← hW]
    have K0 : Hid (Blk W (w.heap.size) [.int .i64 ai, .int .i64 ah, .int .i64 ac, .int .i64 as_]) := hide (by rw [hW]; exact blkAt2_0)
    have K1 : Hid (Blk W (w.heap.size + 1) [.int .i64 bi, .int .i64 bh, .int .i64 bc, .int .i64 bs]) := hide (by rw [hW]; exact blkAt2_1)
    have B0 : Hid (Below w.heap.size w W) := hide (by rw [hW]; exact (by repeat (first | exact Below.refl _ _ | refine Below.alloc ?_ (by simp; try omega) _ | refine Below.setCell ?_ (by simp; try omega) _ | refine taDr ?_ _)))
    clear hW
    obtain ⟨ι, fW, _, hb, hall⟩ := belClass W
    have HB := hide hb
    have HA := hide hall
    have c00 : ∀ x, (fW x).cell? ⟨w.heap.size, 0, none⟩ = some (.int .i64 ai) := fun x => ((unhide K0).below (hb x)).c 0 (by simp)
    have c01 : ∀ x, (fW x).cell? ⟨w.heap.size, 1, none⟩ = some (.int .i64 ah) := fun x => ((unhide K0).below (hb x)).c 1 (by simp)
    have c02 : ∀ x, (fW x).cell? ⟨w.heap.size, 2, none⟩ = some (.int .i64 ac) := fun x => ((unhide K0).below (hb x)).c 2 (by simp)
    have c03 : ∀ x, (fW x).cell? ⟨w.heap.size, 3, none⟩ = some (.int .i64 as_) := fun x => ((unhide K0).below (hb x)).c 3 (by simp)
    have c10 : ∀ x, (fW x).cell? ⟨w.heap.size + 1, 0, none⟩ = some (.int .i64 bi) := fun x => ((unhide K1).below (hb x)).c 0 (by simp)
    have c11 : ∀ x, (fW x).cell? ⟨w.heap.size + 1, 1, none⟩ = some (.int .i64 bh) := fun x => ((unhide K1).below (hb x)).c 1 (by simp)
    have c12 : ∀ x, (fW x).cell? ⟨w.heap.size + 1, 2, none⟩ = some (.int .i64 bc) := fun x => ((unhide K1).below (hb x)).c 2 (by simp)
    have c13 : ∀ x, (fW x).cell? ⟨w.heap.size + 1, 3, none⟩ = some (.int .i64 bs) := fun x => ((unhide K1).below (hb x)).c 3 (by simp)
    clear hb hall
    obtain ⟨x0, h0⟩ := (unhide HA) W (Below.refl _ _)
    rw [h0]
    clear h0
    go_wp2_with (first | (go_at_call_of 31 (Value.agg #[.int .i64 ai, .int .i64 ah, .int .i64 ac, .int .i64 as_]); refine (belQ (unhide HB) (unhide HA) (specOwnOk_is _ _ _ _ _ (by exact q1))).mono ?_; rintro e _ ⟨rfl, y, rfl⟩) | (go_at_call_of 31 (Value.agg #[.int .i64 bi, .int .i64 bh, .int .i64 bc, .int .i64 bs]); refine (belQ (unhide HB) (unhide HA) (specOwnOk_is _ _ _ _ _ (by exact q2))).mono ?_; rintro e _ ⟨rfl, y, rfl⟩) | (go_at_call 32; refine (belS (l1In_is _ _ _ _ (by first | exact q4 | exact q5 | exact q6 | exact q7))).mono ?_; rintro e _ ⟨rfl, y, rfl⟩))
    repeat (refine wp_region_bel (fun w' h => (unhide HA) w' ((unhide HB _).trans (h.mono (unhide HB _).size))) (by kernel_rfl) (by kernel_rfl) ?_; (repeat (go_big_quiet_step (first | (go_at_call_of 31 (Value.agg #[.int .i64 ai, .int .i64 ah, .int .i64 ac, .int .i64 as_]); exact belQ (unhide HB) (unhide HA) (specOwnOk_is _ _ _ _ _ (by exact q1))) | (go_at_call_of 31 (Value.agg #[.int .i64 bi, .int .i64 bh, .int .i64 bc, .int .i64 bs]); exact belQ (unhide HB) (unhide HA) (specOwnOk_is _ _ _ _ _ (by exact q2))) | (go_at_call 32; exact belS (l1In_is _ _ _ _ (by first | exact q4 | exact q5 | exact q6 | exact q7)))))); refine wpQuiet_nil ?_; rintro _ ⟨y, rfl⟩; (first | go_wp2_with (first | (go_at_call_of 31 (Value.agg #[.int .i64 ai, .int .i64 ah, .int .i64 ac, .int .i64 as_]); refine (belQ (unhide HB) (unhide HA) (specOwnOk_is _ _ _ _ _ (by exact q1))).mono ?_; rintro e _ ⟨rfl, y, rfl⟩) | (go_at_call_of 31 (Value.agg #[.int .i64 bi, .int .i64 bh, .int .i64 bc, .int .i64 bs]); refine (belQ (unhide HB) (unhide HA) (specOwnOk_is _ _ _ _ _ (by exact q2))).mono ?_; rintro e _ ⟨rfl, y, rfl⟩) | (go_at_call 32; refine (belS (l1In_is _ _ _ _ (by first | exact q4 | exact q5 | exact q6 | exact q7))).mono ?_; rintro e _ ⟨rfl, y, rfl⟩)) | go_wp2))
    refine bodyPost_ret (v := .tuple #[.int .i64 0, .int .i64 0, .bool false]) (by simp [results, Try.results17, go_sem]) rfl ⟨rfl, ?_⟩
    exact (unhide B0).trans ((unhide HB _).mono (unhide B0).size)
  · exact absurd (hc.symm.trans hv) (by decide)

set_option maxRecDepth 20000 in
set_option maxHeartbeats 1500000 in
theorem specPair_l0 (ai ah ac as_ bi bh bc bs far cl near wi x2 : Int) (w : World) (hc : prB15 ai ah ac as_ bi bh bc bs far cl near wi = true) (hlt : ai < bi) (H1 : Hid (adR ai ah ac as_ bi bh bc far cl bs near wi = 0)) (H2 : Hid (adR bi bh bc bs ai ah ac far cl as_ near wi = x2)) :
    Calls Try.prog 17 #[.agg #[.int .i64 ai, .int .i64 ah, .int .i64 ac, .int .i64 as_], .agg #[.int .i64 bi, .int .i64 bh, .int .i64 bc, .int .i64 bs], .int .i64 far, .int .i64 cl, .int .i64 near, .int .i64 wi] w fun e w' => e = .returned (.tuple #[.int .i64 0, .int .i64 x2, .bool true]) ∧ Below w.heap.size w w' := by
  obtain ⟨q1, q2, q3, q4, q5, q6, q7⟩ := prB_facts hc
  have e : (ai == bi) = false := by simpa using q3
  have e3 : ¬ ai = bi := by simpa using q3
  clear q3 hc
  have e5 : ¬ bi < ai := by omega
  go_enter Try.func17, Try.ntmps17
  go_wp2_with fail
  obtain ⟨W, hW⟩ : ∃ W, W = ((w.alloc (Obj.cells #[.int .i64 ai, .int .i64 ah, .int .i64 ac, .int .i64 as_] 32)).alloc (Obj.cells #[.int .i64 bi, .int .i64 bh, .int .i64 bc, .int .i64 bs] 32)) := ⟨_, rfl⟩
  rw [← hW]
  have K0 : Hid (Blk W (w.heap.size) [.int .i64 ai, .int .i64 ah, .int .i64 ac, .int .i64 as_]) := hide (by rw [hW]; exact blkAt2_0)
  have K1 : Hid (Blk W (w.heap.size + 1) [.int .i64 bi, .int .i64 bh, .int .i64 bc, .int .i64 bs]) := hide (by rw [hW]; exact blkAt2_1)
  have B0 : Hid (Below w.heap.size w W) := hide (by rw [hW]; exact (by repeat (first | exact Below.refl _ _ | refine Below.alloc ?_ (by simp; try omega) _ | refine Below.setCell ?_ (by simp; try omega) _ | refine taDr ?_ _)))
  clear hW
  obtain ⟨ι, fW, _, hb, hall⟩ := belClass W
  have HB := hide hb
  have HA := hide hall
  have c00 : ∀ x, (fW x).cell? ⟨w.heap.size, 0, none⟩ = some (.int .i64 ai) := fun x => ((unhide K0).below (hb x)).c 0 (by simp)
  have c01 : ∀ x, (fW x).cell? ⟨w.heap.size, 1, none⟩ = some (.int .i64 ah) := fun x => ((unhide K0).below (hb x)).c 1 (by simp)
  have c02 : ∀ x, (fW x).cell? ⟨w.heap.size, 2, none⟩ = some (.int .i64 ac) := fun x => ((unhide K0).below (hb x)).c 2 (by simp)
  have c03 : ∀ x, (fW x).cell? ⟨w.heap.size, 3, none⟩ = some (.int .i64 as_) := fun x => ((unhide K0).below (hb x)).c 3 (by simp)
  have c10 : ∀ x, (fW x).cell? ⟨w.heap.size + 1, 0, none⟩ = some (.int .i64 bi) := fun x => ((unhide K1).below (hb x)).c 0 (by simp)
  have c11 : ∀ x, (fW x).cell? ⟨w.heap.size + 1, 1, none⟩ = some (.int .i64 bh) := fun x => ((unhide K1).below (hb x)).c 1 (by simp)
  have c12 : ∀ x, (fW x).cell? ⟨w.heap.size + 1, 2, none⟩ = some (.int .i64 bc) := fun x => ((unhide K1).below (hb x)).c 2 (by simp)
  have c13 : ∀ x, (fW x).cell? ⟨w.heap.size + 1, 3, none⟩ = some (.int .i64 bs) := fun x => ((unhide K1).below (hb x)).c 3 (by simp)
  clear hb hall
  obtain ⟨x0, h0⟩ := (unhide HA) W (Below.refl _ _)
  rw [h0]
  clear h0
  go_wp2_with (first | (go_at_call_of 31 (Value.agg #[.int .i64 ai, .int .i64 ah, .int .i64 ac, .int .i64 as_]); refine (belQ (unhide HB) (unhide HA) (specOwnOk_is _ _ _ _ _ (by exact q1))).mono ?_; rintro e _ ⟨rfl, y, rfl⟩) | (go_at_call_of 31 (Value.agg #[.int .i64 bi, .int .i64 bh, .int .i64 bc, .int .i64 bs]); refine (belQ (unhide HB) (unhide HA) (specOwnOk_is _ _ _ _ _ (by exact q2))).mono ?_; rintro e _ ⟨rfl, y, rfl⟩) | (go_at_call 32; refine (belS (l1In_is _ _ _ _ (by first | exact q4 | exact q5 | exact q6 | exact q7))).mono ?_; rintro e _ ⟨rfl, y, rfl⟩) | (go_at_call 37; refine (belQ (unhide HB) (unhide HA) (l15Seen_al _ _ _ _ _ _ _)).mono ?_; rintro e _ ⟨rfl, y, rfl⟩) | (go_at_call_of 15 (Value.agg #[.int .i64 ai, .int .i64 ah, .int .i64 ac, .int .i64 as_]); refine (belQ (unhide HB) (unhide HA) (specAdvise_is _ _ _ _ _ _ _ _ _ _ _ _ _ (unhide H1))).mono ?_; rintro e _ ⟨rfl, y, rfl⟩) | (go_at_call_of 15 (Value.agg #[.int .i64 bi, .int .i64 bh, .int .i64 bc, .int .i64 bs]); refine (belQ (unhide HB) (unhide HA) (specAdvise_is _ _ _ _ _ _ _ _ _ _ _ _ _ (unhide H2))).mono ?_; rintro e _ ⟨rfl, y, rfl⟩))
  repeat (refine wp_region_bel (fun w' h => (unhide HA) w' ((unhide HB _).trans (h.mono (unhide HB _).size))) (by kernel_rfl) (by kernel_rfl) ?_; (repeat (go_big_quiet_step (first | (go_at_call_of 31 (Value.agg #[.int .i64 ai, .int .i64 ah, .int .i64 ac, .int .i64 as_]); exact belQ (unhide HB) (unhide HA) (specOwnOk_is _ _ _ _ _ (by exact q1))) | (go_at_call_of 31 (Value.agg #[.int .i64 bi, .int .i64 bh, .int .i64 bc, .int .i64 bs]); exact belQ (unhide HB) (unhide HA) (specOwnOk_is _ _ _ _ _ (by exact q2))) | (go_at_call 32; exact belS (l1In_is _ _ _ _ (by first | exact q4 | exact q5 | exact q6 | exact q7))) | (go_at_call 37; exact belQ (unhide HB) (unhide HA) (l15Seen_al _ _ _ _ _ _ _)) | (go_at_call_of 15 (Value.agg #[.int .i64 ai, .int .i64 ah, .int .i64 ac, .int .i64 as_]); exact belQ (unhide HB) (unhide HA) (specAdvise_is _ _ _ _ _ _ _ _ _ _ _ _ _ (unhide H1))) | (go_at_call_of 15 (Value.agg #[.int .i64 bi, .int .i64 bh, .int .i64 bc, .int .i64 bs]); exact belQ (unhide HB) (unhide HA) (specAdvise_is _ _ _ _ _ _ _ _ _ _ _ _ _ (unhide H2)))))); refine wpQuiet_nil ?_; rintro _ ⟨y, rfl⟩; (first | go_wp2_with (first | (go_at_call_of 31 (Value.agg #[.int .i64 ai, .int .i64 ah, .int .i64 ac, .int .i64 as_]); refine (belQ (unhide HB) (unhide HA) (specOwnOk_is _ _ _ _ _ (by exact q1))).mono ?_; rintro e _ ⟨rfl, y, rfl⟩) | (go_at_call_of 31 (Value.agg #[.int .i64 bi, .int .i64 bh, .int .i64 bc, .int .i64 bs]); refine (belQ (unhide HB) (unhide HA) (specOwnOk_is _ _ _ _ _ (by exact q2))).mono ?_; rintro e _ ⟨rfl, y, rfl⟩) | (go_at_call 32; refine (belS (l1In_is _ _ _ _ (by first | exact q4 | exact q5 | exact q6 | exact q7))).mono ?_; rintro e _ ⟨rfl, y, rfl⟩) | (go_at_call 37; refine (belQ (unhide HB) (unhide HA) (l15Seen_al _ _ _ _ _ _ _)).mono ?_; rintro e _ ⟨rfl, y, rfl⟩) | (go_at_call_of 15 (Value.agg #[.int .i64 ai, .int .i64 ah, .int .i64 ac, .int .i64 as_]); refine (belQ (unhide HB) (unhide HA) (specAdvise_is _ _ _ _ _ _ _ _ _ _ _ _ _ (unhide H1))).mono ?_; rintro e _ ⟨rfl, y, rfl⟩) | (go_at_call_of 15 (Value.agg #[.int .i64 bi, .int .i64 bh, .int .i64 bc, .int .i64 bs]); refine (belQ (unhide HB) (unhide HA) (specAdvise_is _ _ _ _ _ _ _ _ _ _ _ _ _ (unhide H2))).mono ?_; rintro e _ ⟨rfl, y, rfl⟩)) | go_wp2))
  refine bodyPost_ret (v := .tuple #[.int .i64 0, .int .i64 x2, .bool true]) (by simp [results, Try.results17, go_sem]) rfl ⟨rfl, ?_⟩
  exact (unhide B0).trans ((unhide HB _).mono (unhide B0).size)

set_option maxRecDepth 20000 in
set_option maxHeartbeats 1500000 in
theorem specPair_l1 (ai ah ac as_ bi bh bc bs far cl near wi x1 x2 : Int) (w : World) (hx : ¬ x1 = 0) (hc : prB15 ai ah ac as_ bi bh bc bs far cl near wi = true) (hlt : ai < bi) (H1 : Hid (adR ai ah ac as_ bi bh bc far cl bs near wi = x1)) (H2 : Hid (adR bi bh bc bs ai ah ac far cl x1 near wi = x2)) :
    Calls Try.prog 17 #[.agg #[.int .i64 ai, .int .i64 ah, .int .i64 ac, .int .i64 as_], .agg #[.int .i64 bi, .int .i64 bh, .int .i64 bc, .int .i64 bs], .int .i64 far, .int .i64 cl, .int .i64 near, .int .i64 wi] w fun e w' => e = .returned (.tuple #[.int .i64 x1, .int .i64 x2, .bool true]) ∧ Below w.heap.size w w' := by
  have e1 : (x1 != 0) = true := by simpa using hx
  obtain ⟨q1, q2, q3, q4, q5, q6, q7⟩ := prB_facts hc
  have e : (ai == bi) = false := by simpa using q3
  have e3 : ¬ ai = bi := by simpa using q3
  clear q3 hc
  have e5 : ¬ bi < ai := by omega
  go_enter Try.func17, Try.ntmps17
  go_wp2_with fail
  obtain ⟨W, hW⟩ : ∃ W, W = ((w.alloc (Obj.cells #[.int .i64 ai, .int .i64 ah, .int .i64 ac, .int .i64 as_] 32)).alloc (Obj.cells #[.int .i64 bi, .int .i64 bh, .int .i64 bc, .int .i64 bs] 32)) := ⟨_, rfl⟩
  rw [← hW]
  have K0 : Hid (Blk W (w.heap.size) [.int .i64 ai, .int .i64 ah, .int .i64 ac, .int .i64 as_]) := hide (by rw [hW]; exact blkAt2_0)
  have K1 : Hid (Blk W (w.heap.size + 1) [.int .i64 bi, .int .i64 bh, .int .i64 bc, .int .i64 bs]) := hide (by rw [hW]; exact blkAt2_1)
  have B0 : Hid (Below w.heap.size w W) := hide (by rw [hW]; exact (by repeat (first | exact Below.refl _ _ | refine Below.alloc ?_ (by simp; try omega) _ | refine Below.setCell ?_ (by simp; try omega) _ | refine taDr ?_ _)))
  clear hW
  obtain ⟨ι, fW, _, hb, hall⟩ := belClass W
  have HB := hide hb
  have HA := hide hall
  have c00 : ∀ x, (fW x).cell? ⟨w.heap.size, 0, none⟩ = some (.int .i64 ai) := fun x => ((unhide K0).below (hb x)).c 0 (by simp)
  have c01 : ∀ x, (fW x).cell? ⟨w.heap.size, 1, none⟩ = some (.int .i64 ah) := fun x => ((unhide K0).below (hb x)).c 1 (by simp)
  have c02 : ∀ x, (fW x).cell? ⟨w.heap.size, 2, none⟩ = some (.int .i64 ac) := fun x => ((unhide K0).below (hb x)).c 2 (by simp)
  have c03 : ∀ x, (fW x).cell? ⟨w.heap.size, 3, none⟩ = some (.int .i64 as_) := fun x => ((unhide K0).below (hb x)).c 3 (by simp)
  have c10 : ∀ x, (fW x).cell? ⟨w.heap.size + 1, 0, none⟩ = some (.int .i64 bi) := fun x => ((unhide K1).below (hb x)).c 0 (by simp)
  have c11 : ∀ x, (fW x).cell? ⟨w.heap.size + 1, 1, none⟩ = some (.int .i64 bh) := fun x => ((unhide K1).below (hb x)).c 1 (by simp)
  have c12 : ∀ x, (fW x).cell? ⟨w.heap.size + 1, 2, none⟩ = some (.int .i64 bc) := fun x => ((unhide K1).below (hb x)).c 2 (by simp)
  have c13 : ∀ x, (fW x).cell? ⟨w.heap.size + 1, 3, none⟩ = some (.int .i64 bs) := fun x => ((unhide K1).below (hb x)).c 3 (by simp)
  have z0 : ∀ x, (fW x).frozen? ⟨w.heap.size, 3, none⟩ = false := fun x => ((unhide K0).below (hb x)).f 3 (by simp)
  clear hb hall
  obtain ⟨x0, h0⟩ := (unhide HA) W (Below.refl _ _)
  rw [h0]
  clear h0
  go_wp2_with (first | (go_at_call_of 31 (Value.agg #[.int .i64 ai, .int .i64 ah, .int .i64 ac, .int .i64 as_]); refine (belQ (unhide HB) (unhide HA) (specOwnOk_is _ _ _ _ _ (by exact q1))).mono ?_; rintro e _ ⟨rfl, y, rfl⟩) | (go_at_call_of 31 (Value.agg #[.int .i64 bi, .int .i64 bh, .int .i64 bc, .int .i64 bs]); refine (belQ (unhide HB) (unhide HA) (specOwnOk_is _ _ _ _ _ (by exact q2))).mono ?_; rintro e _ ⟨rfl, y, rfl⟩) | (go_at_call 32; refine (belS (l1In_is _ _ _ _ (by first | exact q4 | exact q5 | exact q6 | exact q7))).mono ?_; rintro e _ ⟨rfl, y, rfl⟩) | (go_at_call 37; refine (belQ (unhide HB) (unhide HA) (l15Seen_al _ _ _ _ _ _ _)).mono ?_; rintro e _ ⟨rfl, y, rfl⟩) | (go_at_call_of 15 (Value.agg #[.int .i64 ai, .int .i64 ah, .int .i64 ac, .int .i64 as_]); refine (belQ (unhide HB) (unhide HA) (specAdvise_is _ _ _ _ _ _ _ _ _ _ _ _ _ (unhide H1))).mono ?_; rintro e _ ⟨rfl, y, rfl⟩))
  refine wp_region_bel (fun w' h => (unhide HA) w' ((unhide HB _).trans (h.mono (unhide HB _).size))) (by kernel_rfl) (by kernel_rfl) ?_
  repeat (go_big_quiet_step (first | (go_at_call_of 31 (Value.agg #[.int .i64 ai, .int .i64 ah, .int .i64 ac, .int .i64 as_]); exact belQ (unhide HB) (unhide HA) (specOwnOk_is _ _ _ _ _ (by exact q1))) | (go_at_call_of 31 (Value.agg #[.int .i64 bi, .int .i64 bh, .int .i64 bc, .int .i64 bs]); exact belQ (unhide HB) (unhide HA) (specOwnOk_is _ _ _ _ _ (by exact q2))) | (go_at_call 32; exact belS (l1In_is _ _ _ _ (by first | exact q4 | exact q5 | exact q6 | exact q7))) | (go_at_call 37; exact belQ (unhide HB) (unhide HA) (l15Seen_al _ _ _ _ _ _ _)) | (go_at_call_of 15 (Value.agg #[.int .i64 ai, .int .i64 ah, .int .i64 ac, .int .i64 as_]); exact belQ (unhide HB) (unhide HA) (specAdvise_is _ _ _ _ _ _ _ _ _ _ _ _ _ (unhide H1)))))
  refine wpQuiet_nil ?_
  rintro _ ⟨y, rfl⟩
  go_wp2_with fail
  obtain ⟨V, hV⟩ : ∃ V, V = (fW y).setCell ⟨w.heap.size, 3, none⟩ (.int .i64 x1) := ⟨_, rfl⟩
  rw [← hV]
  have K0 : Hid (Blk V (w.heap.size) [.int .i64 ai, .int .i64 ah, .int .i64 ac, .int .i64 x1]) := hide (by rw [hV]; exact ((unhide K0).below (unhide HB y)).set 3 (by simp) _)
  have K1 : Hid (Blk V (w.heap.size + 1) [.int .i64 bi, .int .i64 bh, .int .i64 bc, .int .i64 bs]) := hide (by rw [hV]; exact ((unhide K1).below (unhide HB y)).other (by simp) _)
  have B0 : Hid (Below w.heap.size w V) := hide (by rw [hV]; exact ((unhide B0).trans ((unhide HB y).mono (unhide B0).size)).setCell (by simp) _)
  clear hV HA HB z0 c00 c01 c02 c03 c10 c11 c12 c13
  obtain ⟨ι, fW, _, hb, hall⟩ := belClass V
  have HB := hide hb
  have HA := hide hall
  have c00 : ∀ x, (fW x).cell? ⟨w.heap.size, 0, none⟩ = some (.int .i64 ai) := fun x => ((unhide K0).below (hb x)).c 0 (by simp)
  have c01 : ∀ x, (fW x).cell? ⟨w.heap.size, 1, none⟩ = some (.int .i64 ah) := fun x => ((unhide K0).below (hb x)).c 1 (by simp)
  have c02 : ∀ x, (fW x).cell? ⟨w.heap.size, 2, none⟩ = some (.int .i64 ac) := fun x => ((unhide K0).below (hb x)).c 2 (by simp)
  have c03 : ∀ x, (fW x).cell? ⟨w.heap.size, 3, none⟩ = some (.int .i64 x1) := fun x => ((unhide K0).below (hb x)).c 3 (by simp)
  have c10 : ∀ x, (fW x).cell? ⟨w.heap.size + 1, 0, none⟩ = some (.int .i64 bi) := fun x => ((unhide K1).below (hb x)).c 0 (by simp)
  have c11 : ∀ x, (fW x).cell? ⟨w.heap.size + 1, 1, none⟩ = some (.int .i64 bh) := fun x => ((unhide K1).below (hb x)).c 1 (by simp)
  have c12 : ∀ x, (fW x).cell? ⟨w.heap.size + 1, 2, none⟩ = some (.int .i64 bc) := fun x => ((unhide K1).below (hb x)).c 2 (by simp)
  have c13 : ∀ x, (fW x).cell? ⟨w.heap.size + 1, 3, none⟩ = some (.int .i64 bs) := fun x => ((unhide K1).below (hb x)).c 3 (by simp)
  clear hb hall
  obtain ⟨x0, h0⟩ := (unhide HA) V (Below.refl _ _)
  rw [h0]
  clear h0
  go_wp2_with (first | (go_at_call 37; refine (belQ (unhide HB) (unhide HA) (l15Seen_al _ _ _ _ _ _ _)).mono ?_; rintro e _ ⟨rfl, y, rfl⟩) | (go_at_call_of 15 (Value.agg #[.int .i64 bi, .int .i64 bh, .int .i64 bc, .int .i64 bs]); refine (belQ (unhide HB) (unhide HA) (specAdvise_is _ _ _ _ _ _ _ _ _ _ _ _ _ (unhide H2))).mono ?_; rintro e _ ⟨rfl, y, rfl⟩))
  repeat (refine wp_region_bel (fun w' h => (unhide HA) w' ((unhide HB _).trans (h.mono (unhide HB _).size))) (by kernel_rfl) (by kernel_rfl) ?_; (repeat (go_big_quiet_step (first | (go_at_call 37; exact belQ (unhide HB) (unhide HA) (l15Seen_al _ _ _ _ _ _ _)) | (go_at_call_of 15 (Value.agg #[.int .i64 bi, .int .i64 bh, .int .i64 bc, .int .i64 bs]); exact belQ (unhide HB) (unhide HA) (specAdvise_is _ _ _ _ _ _ _ _ _ _ _ _ _ (unhide H2)))))); refine wpQuiet_nil ?_; rintro _ ⟨y, rfl⟩; (first | go_wp2_with (first | (go_at_call 37; refine (belQ (unhide HB) (unhide HA) (l15Seen_al _ _ _ _ _ _ _)).mono ?_; rintro e _ ⟨rfl, y, rfl⟩) | (go_at_call_of 15 (Value.agg #[.int .i64 bi, .int .i64 bh, .int .i64 bc, .int .i64 bs]); refine (belQ (unhide HB) (unhide HA) (specAdvise_is _ _ _ _ _ _ _ _ _ _ _ _ _ (unhide H2))).mono ?_; rintro e _ ⟨rfl, y, rfl⟩)) | go_wp2))
  refine bodyPost_ret (v := .tuple #[.int .i64 x1, .int .i64 x2, .bool true]) (by simp [results, Try.results17, go_sem]) rfl ⟨rfl, ?_⟩
  exact (unhide B0).trans ((unhide HB _).mono (unhide B0).size)

set_option maxRecDepth 20000 in
set_option maxHeartbeats 2000000 in
theorem specPair_lt {x1 x2 : Int} (ai ah ac as_ bi bh bc bs far cl near wi : Int) (w : World) (hc : prB15 ai ah ac as_ bi bh bc bs far cl near wi = true) (hlt : ai < bi) (h1 : ps1 ai ah ac as_ bi bh bc bs far cl near wi = x1) (h2 : ps2 ai ah ac as_ bi bh bc bs far cl near wi = x2) :
    Calls Try.prog 17 #[.agg #[.int .i64 ai, .int .i64 ah, .int .i64 ac, .int .i64 as_], .agg #[.int .i64 bi, .int .i64 bh, .int .i64 bc, .int .i64 bs], .int .i64 far, .int .i64 cl, .int .i64 near, .int .i64 wi] w fun e w' => e = .returned (.tuple #[.int .i64 x1, .int .i64 x2, .bool true]) ∧ Below w.heap.size w w' := by
  by_cases h : x1 = 0
  · subst h
    exact specPair_l0 ai ah ac as_ bi bh bc bs far cl near wi x2 w hc hlt (hide h1) (hide (by rw [← h2, ps2, psS, h1]; rfl))
  · exact specPair_l1 ai ah ac as_ bi bh bc bs far cl near wi x1 x2 w h hc hlt (hide h1) (hide (by rw [← h2, ps2, psS, h1, if_pos h]))

set_option maxRecDepth 20000 in
set_option maxHeartbeats 1500000 in
theorem specPair_gt {x1 x2 : Int} (ai ah ac as_ bi bh bc bs far cl near wi : Int) (w : World) (hc : prB15 ai ah ac as_ bi bh bc bs far cl near wi = true) (hgt : bi < ai) (h1 : ps1 bi bh bc bs ai ah ac as_ far cl near wi = x1) (h2 : ps2 bi bh bc bs ai ah ac as_ far cl near wi = x2) :
    Calls Try.prog 17 #[.agg #[.int .i64 ai, .int .i64 ah, .int .i64 ac, .int .i64 as_], .agg #[.int .i64 bi, .int .i64 bh, .int .i64 bc, .int .i64 bs], .int .i64 far, .int .i64 cl, .int .i64 near, .int .i64 wi] w fun e w' => e = .returned (.tuple #[.int .i64 x2, .int .i64 x1, .bool true]) ∧ Below w.heap.size w w' := by
  have HC := hide (prB_swap hc)
  obtain ⟨q1, q2, q3, q4, q5, q6, q7⟩ := prB_facts hc
  have e : (ai == bi) = false := by simpa using q3
  have e3 : ¬ ai = bi := by simpa using q3
  clear q3 hc
  have H1 := hide h1
  have H2 := hide h2
  clear h1 h2
  go_enter Try.func17, Try.ntmps17
  go_wp2_with fail
  obtain ⟨W, hW⟩ : ∃ W, W = ((w.alloc (Obj.cells #[.int .i64 ai, .int .i64 ah, .int .i64 ac, .int .i64 as_] 32)).alloc (Obj.cells #[.int .i64 bi, .int .i64 bh, .int .i64 bc, .int .i64 bs] 32)) := ⟨_, rfl⟩
  rw [← hW]
  have K0 : Hid (Blk W (w.heap.size) [.int .i64 ai, .int .i64 ah, .int .i64 ac, .int .i64 as_]) := hide (by rw [hW]; exact blkAt2_0)
  have K1 : Hid (Blk W (w.heap.size + 1) [.int .i64 bi, .int .i64 bh, .int .i64 bc, .int .i64 bs]) := hide (by rw [hW]; exact blkAt2_1)
  have B0 : Hid (Below w.heap.size w W) := hide (by rw [hW]; exact (by repeat (first | exact Below.refl _ _ | refine Below.alloc ?_ (by simp; try omega) _ | refine Below.setCell ?_ (by simp; try omega) _ | refine taDr ?_ _)))
  clear hW
  obtain ⟨ι, fW, _, hb, hall⟩ := belClass W
  have HB := hide hb
  have HA := hide hall
  have c00 : ∀ x, (fW x).cell? ⟨w.heap.size, 0, none⟩ = some (.int .i64 ai) := fun x => ((unhide K0).below (hb x)).c 0 (by simp)
  have c01 : ∀ x, (fW x).cell? ⟨w.heap.size, 1, none⟩ = some (.int .i64 ah) := fun x => ((unhide K0).below (hb x)).c 1 (by simp)
  have c02 : ∀ x, (fW x).cell? ⟨w.heap.size, 2, none⟩ = some (.int .i64 ac) := fun x => ((unhide K0).below (hb x)).c 2 (by simp)
  have c03 : ∀ x, (fW x).cell? ⟨w.heap.size, 3, none⟩ = some (.int .i64 as_) := fun x => ((unhide K0).below (hb x)).c 3 (by simp)
  have c10 : ∀ x, (fW x).cell? ⟨w.heap.size + 1, 0, none⟩ = some (.int .i64 bi) := fun x => ((unhide K1).below (hb x)).c 0 (by simp)
  have c11 : ∀ x, (fW x).cell? ⟨w.heap.size + 1, 1, none⟩ = some (.int .i64 bh) := fun x => ((unhide K1).below (hb x)).c 1 (by simp)
  have c12 : ∀ x, (fW x).cell? ⟨w.heap.size + 1, 2, none⟩ = some (.int .i64 bc) := fun x => ((unhide K1).below (hb x)).c 2 (by simp)
  have c13 : ∀ x, (fW x).cell? ⟨w.heap.size + 1, 3, none⟩ = some (.int .i64 bs) := fun x => ((unhide K1).below (hb x)).c 3 (by simp)
  clear hb hall
  obtain ⟨x0, h0⟩ := (unhide HA) W (Below.refl _ _)
  rw [h0]
  clear h0
  go_wp2_with (first | (go_at_call_of 31 (Value.agg #[.int .i64 ai, .int .i64 ah, .int .i64 ac, .int .i64 as_]); refine (belQ (unhide HB) (unhide HA) (specOwnOk_is _ _ _ _ _ (by exact q1))).mono ?_; rintro e _ ⟨rfl, y, rfl⟩) | (go_at_call_of 31 (Value.agg #[.int .i64 bi, .int .i64 bh, .int .i64 bc, .int .i64 bs]); refine (belQ (unhide HB) (unhide HA) (specOwnOk_is _ _ _ _ _ (by exact q2))).mono ?_; rintro e _ ⟨rfl, y, rfl⟩) | (go_at_call 32; refine (belS (l1In_is _ _ _ _ (by first | exact q4 | exact q5 | exact q6 | exact q7))).mono ?_; rintro e _ ⟨rfl, y, rfl⟩) | (go_at_call 17; refine (belQ (unhide HB) (unhide HA) (specPair_lt bi bh bc bs ai ah ac as_ far cl near wi _ (unhide HC) hgt (unhide H1) (unhide H2))).mono ?_; rintro e _ ⟨rfl, y, rfl⟩))
  repeat (refine wp_region_bel (fun w' h => (unhide HA) w' ((unhide HB _).trans (h.mono (unhide HB _).size))) (by kernel_rfl) (by kernel_rfl) ?_; (repeat (go_big_quiet_step (first | (go_at_call_of 31 (Value.agg #[.int .i64 ai, .int .i64 ah, .int .i64 ac, .int .i64 as_]); exact belQ (unhide HB) (unhide HA) (specOwnOk_is _ _ _ _ _ (by exact q1))) | (go_at_call_of 31 (Value.agg #[.int .i64 bi, .int .i64 bh, .int .i64 bc, .int .i64 bs]); exact belQ (unhide HB) (unhide HA) (specOwnOk_is _ _ _ _ _ (by exact q2))) | (go_at_call 32; exact belS (l1In_is _ _ _ _ (by first | exact q4 | exact q5 | exact q6 | exact q7))) | (go_at_call 17; exact belQ (unhide HB) (unhide HA) (specPair_lt bi bh bc bs ai ah ac as_ far cl near wi _ (unhide HC) hgt (unhide H1) (unhide H2)))))); refine wpQuiet_nil ?_; rintro _ ⟨y, rfl⟩; (first | go_wp2_with (first | (go_at_call_of 31 (Value.agg #[.int .i64 ai, .int .i64 ah, .int .i64 ac, .int .i64 as_]); refine (belQ (unhide HB) (unhide HA) (specOwnOk_is _ _ _ _ _ (by exact q1))).mono ?_; rintro e _ ⟨rfl, y, rfl⟩) | (go_at_call_of 31 (Value.agg #[.int .i64 bi, .int .i64 bh, .int .i64 bc, .int .i64 bs]); refine (belQ (unhide HB) (unhide HA) (specOwnOk_is _ _ _ _ _ (by exact q2))).mono ?_; rintro e _ ⟨rfl, y, rfl⟩) | (go_at_call 32; refine (belS (l1In_is _ _ _ _ (by first | exact q4 | exact q5 | exact q6 | exact q7))).mono ?_; rintro e _ ⟨rfl, y, rfl⟩) | (go_at_call 17; refine (belQ (unhide HB) (unhide HA) (specPair_lt bi bh bc bs ai ah ac as_ far cl near wi _ (unhide HC) hgt (unhide H1) (unhide H2))).mono ?_; rintro e _ ⟨rfl, y, rfl⟩)) | go_wp2))
  refine bodyPost_ret (v := .tuple #[.int .i64 x2, .int .i64 x1, .bool true]) (by simp [results, Try.results17, go_sem]) rfl ⟨rfl, ?_⟩
  exact (unhide B0).trans ((unhide HB _).mono (unhide B0).size)

set_option maxRecDepth 20000 in
set_option maxHeartbeats 2000000 in
theorem specPair_is {X Y : Int} {Z : Bool} (ai ah ac as_ bi bh bc bs far cl near wi : Int) (w : World) (hx : pr1 ai ah ac as_ bi bh bc bs far cl near wi = X) (hy : pr2 ai ah ac as_ bi bh bc bs far cl near wi = Y) (hz : prB15 ai ah ac as_ bi bh bc bs far cl near wi = Z) :
    Calls Try.prog 17 #[.agg #[.int .i64 ai, .int .i64 ah, .int .i64 ac, .int .i64 as_], .agg #[.int .i64 bi, .int .i64 bh, .int .i64 bc, .int .i64 bs], .int .i64 far, .int .i64 cl, .int .i64 near, .int .i64 wi] w fun e w' => e = .returned (.tuple #[.int .i64 X, .int .i64 Y, .bool Z]) ∧ Below w.heap.size w w' := by
  cases hb : prB15 ai ah ac as_ bi bh bc bs far cl near wi with
  | false =>
    rw [← hx, ← hy, ← hz, (pr_no hb).1, (pr_no hb).2, hb]
    exact specPair_no ai ah ac as_ bi bh bc bs far cl near wi w hb
  | true =>
    obtain ⟨_, _, q3, _⟩ := prB_facts hb
    have e3 : ¬ ai = bi := by simpa using q3
    by_cases h : bi < ai
    · rw [← hx, ← hy, ← hz, (pr_gt hb h).1, (pr_gt hb h).2, hb]
      exact specPair_gt ai ah ac as_ bi bh bc bs far cl near wi w hb h rfl rfl
    · rw [← hx, ← hy, ← hz, (pr_lt hb h).1, (pr_lt hb h).2, hb]
      exact specPair_lt ai ah ac as_ bi bh bc bs far cl near wi w hb (by omega) rfl rfl

end Go.Proofs.Ytbaocifpifbldax
