/-
  What the program advises, and what its functions of chapter 15 tell: plain answers, at every argument; nothing that was there is written.
-/
import Derived.Test.YtbaocifpifbldaeTaThr
namespace Go.Proofs.Ytbaocifpifbldae
open Go.RowKit

theorem adR_no {oi oh oc os ti th tc tf tk ts near wi : Int} (h : thB oi oh oc os ti th tc tf tk ts near wi = false) : adR oi oh oc os ti th tc tf tk ts near wi = 0 := by simp [adR, h]
theorem adR_own {oi oh oc os ti th tc tf tk ts near wi : Int} (h : thB oi oh oc os ti th tc tf tk ts near wi = true) (h2 : ¬ os = 0) : adR oi oh oc os ti th tc tf tk ts near wi = os := by simp [adR, h, h2]
theorem adR_oth {oi oh oc os ti th tc tf tk ts near wi : Int} (h : thB oi oh oc os ti th tc tf tk ts near wi = true) (h2 : os = 0) (h3 : ¬ ts = 0) : adR oi oh oc os ti th tc tf tk ts near wi = 3 - ts := by rw [adR, h, if_pos rfl, if_neg (not_not_intro h2), if_pos h3]
theorem adR_free {oi oh oc os ti th tc tf tk ts near wi : Int} (h : thB oi oh oc os ti th tc tf tk ts near wi = true) (h2 : os = 0) (h3 : ts = 0) : adR oi oh oc os ti th tc tf tk ts near wi = frS oi oh oc ti th tc (tiN ti th tc tf tk ts) := by rw [adR, h, if_pos rfl, if_neg (not_not_intro h2), if_neg (not_not_intro h3)]

set_option maxRecDepth 20000 in
set_option maxHeartbeats 2000000 in
theorem otherSense_is {r : Int} (s : Int) (w : World) (h1 : 1 ≤ s ∧ s ≤ 2) (hc : 3 - s = r) :
    Calls Try.prog 112 #[.int .i64 s] w fun e w' => e = .returned (.int .i64 r) ∧ w' = w := by
  have hs : s = 1 ∨ s = 2 := by omega
  rcases hs with rfl | rfl
  all_goals
    go_enter Try.func112, Try.ntmps112
    go_wp2
    go_ret
    exact ⟨ret_int (by omega), rfl⟩

set_option maxRecDepth 20000 in
set_option maxHeartbeats 3000000 in
theorem advised_is {r : Int} (oi oh oc os ti th tc tf tk ts near wi : Int) (w : World) (hc : adR oi oh oc os ti th tc tf tk ts near wi = r) :
    Calls Try.prog 84 #[.agg #[.int .i64 oi, .int .i64 oh, .int .i64 oc, .int .i64 os, .int .i64 near, .int .i64 wi], .agg #[.int .i64 ti, .int .i64 th, .int .i64 tc, .int .i64 ts, .int .i64 tf, .int .i64 tk]] w fun e w' => e = .returned (.int .i64 r) ∧ Below w.heap.size w w' := by
  cases ht : thB oi oh oc os ti th tc tf tk ts near wi with
  | false =>
    have HR := hide (hc.symm.trans (adR_no ht))
    have HT := hide ht
    clear hc ht
    go_enter Try.func84, Try.ntmps84
    go_wp2_with fail
    obtain ⟨W, hW⟩ : ∃ W, W = ((w.alloc (Obj.cells #[.int .i64 oi, .int .i64 oh, .int .i64 oc, .int .i64 os, .int .i64 near, .int .i64 wi] 145)).alloc (Obj.cells #[.int .i64 ti, .int .i64 th, .int .i64 tc, .int .i64 ts, .int .i64 tf, .int .i64 tk] 149)) := ⟨_, rfl⟩
    rw [← hW]
    have K0 : Hid (Blk W (w.heap.size) [.int .i64 oi, .int .i64 oh, .int .i64 oc, .int .i64 os, .int .i64 near, .int .i64 wi]) := hide (by rw [hW]; exact blkAt2_0)
    have K1 : Hid (Blk W (w.heap.size + 1) [.int .i64 ti, .int .i64 th, .int .i64 tc, .int .i64 ts, .int .i64 tf, .int .i64 tk]) := hide (by rw [hW]; exact blkAt2_1)
    have B0 : Hid (Below w.heap.size w W) := hide (by rw [hW]; exact (by repeat (first | exact Below.refl _ _ | refine Below.alloc ?_ (by simp; try omega) _ | refine Below.setCell ?_ (by simp; try omega) _ | refine taDr ?_ _)))
    clear hW
    obtain ⟨ι, fW, _, hb, hall⟩ := belClass W
    have HB := hide hb
    have HA := hide hall
    have c00 : ∀ x, (fW x).cell? ⟨w.heap.size, 0, none⟩ = some (.int .i64 oi) := fun x => ((unhide K0).below (hb x)).c 0 (by simp)
    have c01 : ∀ x, (fW x).cell? ⟨w.heap.size, 1, none⟩ = some (.int .i64 oh) := fun x => ((unhide K0).below (hb x)).c 1 (by simp)
    have c02 : ∀ x, (fW x).cell? ⟨w.heap.size, 2, none⟩ = some (.int .i64 oc) := fun x => ((unhide K0).below (hb x)).c 2 (by simp)
    have c03 : ∀ x, (fW x).cell? ⟨w.heap.size, 3, none⟩ = some (.int .i64 os) := fun x => ((unhide K0).below (hb x)).c 3 (by simp)
    have c04 : ∀ x, (fW x).cell? ⟨w.heap.size, 4, none⟩ = some (.int .i64 near) := fun x => ((unhide K0).below (hb x)).c 4 (by simp)
    have c05 : ∀ x, (fW x).cell? ⟨w.heap.size, 5, none⟩ = some (.int .i64 wi) := fun x => ((unhide K0).below (hb x)).c 5 (by simp)
    have c10 : ∀ x, (fW x).cell? ⟨w.heap.size + 1, 0, none⟩ = some (.int .i64 ti) := fun x => ((unhide K1).below (hb x)).c 0 (by simp)
    have c11 : ∀ x, (fW x).cell? ⟨w.heap.size + 1, 1, none⟩ = some (.int .i64 th) := fun x => ((unhide K1).below (hb x)).c 1 (by simp)
    have c12 : ∀ x, (fW x).cell? ⟨w.heap.size + 1, 2, none⟩ = some (.int .i64 tc) := fun x => ((unhide K1).below (hb x)).c 2 (by simp)
    have c13 : ∀ x, (fW x).cell? ⟨w.heap.size + 1, 3, none⟩ = some (.int .i64 ts) := fun x => ((unhide K1).below (hb x)).c 3 (by simp)
    have c14 : ∀ x, (fW x).cell? ⟨w.heap.size + 1, 4, none⟩ = some (.int .i64 tf) := fun x => ((unhide K1).below (hb x)).c 4 (by simp)
    have c15 : ∀ x, (fW x).cell? ⟨w.heap.size + 1, 5, none⟩ = some (.int .i64 tk) := fun x => ((unhide K1).below (hb x)).c 5 (by simp)
    clear hb hall
    obtain ⟨x0, h0⟩ := (unhide HA) W (Below.refl _ _)
    rw [h0]
    clear h0
    go_wp2_with (first | (go_at_call 81; refine (belQ (unhide HB) (unhide HA) (threatenedBy_is _ _ _ _ _ _ _ _ _ _ _ _ _ (unhide HT))).mono ?_; rintro e _ ⟨rfl, y, rfl⟩))
    repeat (refine wp_region_bel (fun w' h => (unhide HA) w' ((unhide HB _).trans (h.mono (unhide HB _).size))) (by kernel_rfl) (by kernel_rfl) ?_; (repeat (go_big_quiet_step (first | (go_at_call 81; exact belQ (unhide HB) (unhide HA) (threatenedBy_is _ _ _ _ _ _ _ _ _ _ _ _ _ (unhide HT)))))); refine wpQuiet_nil ?_; rintro _ ⟨y, rfl⟩; (first | go_wp2_with (first | (go_at_call 81; refine (belQ (unhide HB) (unhide HA) (threatenedBy_is _ _ _ _ _ _ _ _ _ _ _ _ _ (unhide HT))).mono ?_; rintro e _ ⟨rfl, y, rfl⟩)) | go_wp2))
    go_ret
    exact ⟨ret_int (unhide HR).symm, (unhide B0).trans ((unhide HB _).mono (unhide B0).size)⟩
  | true =>
    have g1 := thB_facts ht
    have g2 := (avB_facts g1.2.1).2.2.2
    have g3 := (avB_facts (tcB_facts (tiB_facts g1.1).1).1).2.2.2
    clear g1
    by_cases h2 : os = 0
    · by_cases h3 : ts = 0
      · have HR := hide (hc.symm.trans (adR_free ht h2 h3))
        subst h2
        subst h3
        have HT := hide ht
        clear hc ht
        go_enter Try.func84, Try.ntmps84
        go_wp2_with fail
        obtain ⟨W, hW⟩ : ∃ W, W = ((w.alloc (Obj.cells #[.int .i64 oi, .int .i64 oh, .int .i64 oc, .int .i64 0, .int .i64 near, .int .i64 wi] 145)).alloc (Obj.cells #[.int .i64 ti, .int .i64 th, .int .i64 tc, .int .i64 0, .int .i64 tf, .int .i64 tk] 149)) := ⟨_, rfl⟩
        rw [← hW]
        have K0 : Hid (Blk W (w.heap.size) [.int .i64 oi, .int .i64 oh, .int .i64 oc, .int .i64 0, .int .i64 near, .int .i64 wi]) := hide (by rw [hW]; exact blkAt2_0)
        have K1 : Hid (Blk W (w.heap.size + 1) [.int .i64 ti, .int .i64 th, .int .i64 tc, .int .i64 0, .int .i64 tf, .int .i64 tk]) := hide (by rw [hW]; exact blkAt2_1)
        have B0 : Hid (Below w.heap.size w W) := hide (by rw [hW]; exact (by repeat (first | exact Below.refl _ _ | refine Below.alloc ?_ (by simp; try omega) _ | refine Below.setCell ?_ (by simp; try omega) _ | refine taDr ?_ _)))
        clear hW
        obtain ⟨ι, fW, _, hb, hall⟩ := belClass W
        have HB := hide hb
        have HA := hide hall
        have c00 : ∀ x, (fW x).cell? ⟨w.heap.size, 0, none⟩ = some (.int .i64 oi) := fun x => ((unhide K0).below (hb x)).c 0 (by simp)
        have c01 : ∀ x, (fW x).cell? ⟨w.heap.size, 1, none⟩ = some (.int .i64 oh) := fun x => ((unhide K0).below (hb x)).c 1 (by simp)
        have c02 : ∀ x, (fW x).cell? ⟨w.heap.size, 2, none⟩ = some (.int .i64 oc) := fun x => ((unhide K0).below (hb x)).c 2 (by simp)
        have c03 : ∀ x, (fW x).cell? ⟨w.heap.size, 3, none⟩ = some (.int .i64 0) := fun x => ((unhide K0).below (hb x)).c 3 (by simp)
        have c04 : ∀ x, (fW x).cell? ⟨w.heap.size, 4, none⟩ = some (.int .i64 near) := fun x => ((unhide K0).below (hb x)).c 4 (by simp)
        have c05 : ∀ x, (fW x).cell? ⟨w.heap.size, 5, none⟩ = some (.int .i64 wi) := fun x => ((unhide K0).below (hb x)).c 5 (by simp)
        have c10 : ∀ x, (fW x).cell? ⟨w.heap.size + 1, 0, none⟩ = some (.int .i64 ti) := fun x => ((unhide K1).below (hb x)).c 0 (by simp)
        have c11 : ∀ x, (fW x).cell? ⟨w.heap.size + 1, 1, none⟩ = some (.int .i64 th) := fun x => ((unhide K1).below (hb x)).c 1 (by simp)
        have c12 : ∀ x, (fW x).cell? ⟨w.heap.size + 1, 2, none⟩ = some (.int .i64 tc) := fun x => ((unhide K1).below (hb x)).c 2 (by simp)
        have c13 : ∀ x, (fW x).cell? ⟨w.heap.size + 1, 3, none⟩ = some (.int .i64 0) := fun x => ((unhide K1).below (hb x)).c 3 (by simp)
        have c14 : ∀ x, (fW x).cell? ⟨w.heap.size + 1, 4, none⟩ = some (.int .i64 tf) := fun x => ((unhide K1).below (hb x)).c 4 (by simp)
        have c15 : ∀ x, (fW x).cell? ⟨w.heap.size + 1, 5, none⟩ = some (.int .i64 tk) := fun x => ((unhide K1).below (hb x)).c 5 (by simp)
        clear hb hall
        obtain ⟨x0, h0⟩ := (unhide HA) W (Below.refl _ _)
        rw [h0]
        clear h0
        go_wp2_with (first | (go_at_call 81; refine (belQ (unhide HB) (unhide HA) (threatenedBy_is _ _ _ _ _ _ _ _ _ _ _ _ _ (unhide HT))).mono ?_; rintro e _ ⟨rfl, y, rfl⟩) | (go_at_call 113; refine (belQ (unhide HB) (unhide HA) (freeSense_is _ _ _ _ _ _ _ _ _ _ _ _ _ (unhide HT) (unhide HR).symm)).mono ?_; rintro e _ ⟨rfl, y, rfl⟩))
        repeat (refine wp_region_bel (fun w' h => (unhide HA) w' ((unhide HB _).trans (h.mono (unhide HB _).size))) (by kernel_rfl) (by kernel_rfl) ?_; (repeat (go_big_quiet_step (first | (go_at_call 81; exact belQ (unhide HB) (unhide HA) (threatenedBy_is _ _ _ _ _ _ _ _ _ _ _ _ _ (unhide HT))) | (go_at_call 113; exact belQ (unhide HB) (unhide HA) (freeSense_is _ _ _ _ _ _ _ _ _ _ _ _ _ (unhide HT) (unhide HR).symm))))); refine wpQuiet_nil ?_; rintro _ ⟨y, rfl⟩; (first | go_wp2_with (first | (go_at_call 81; refine (belQ (unhide HB) (unhide HA) (threatenedBy_is _ _ _ _ _ _ _ _ _ _ _ _ _ (unhide HT))).mono ?_; rintro e _ ⟨rfl, y, rfl⟩) | (go_at_call 113; refine (belQ (unhide HB) (unhide HA) (freeSense_is _ _ _ _ _ _ _ _ _ _ _ _ _ (unhide HT) (unhide HR).symm)).mono ?_; rintro e _ ⟨rfl, y, rfl⟩)) | go_wp2))
        go_ret
        exact ⟨rfl, (unhide B0).trans ((unhide HB _).mono (unhide B0).size)⟩
      · have HR := hide (hc.symm.trans (adR_oth ht h2 h3))
        subst h2
        have e1 : (ts != 0) = true := by simpa using h3
        have HT := hide ht
        clear hc ht
        go_enter Try.func84, Try.ntmps84
        go_wp2_with fail
        obtain ⟨W, hW⟩ : ∃ W, W = ((w.alloc (Obj.cells #[.int .i64 oi, .int .i64 oh, .int .i64 oc, .int .i64 0, .int .i64 near, .int .i64 wi] 145)).alloc (Obj.cells #[.int .i64 ti, .int .i64 th, .int .i64 tc, .int .i64 ts, .int .i64 tf, .int .i64 tk] 149)) := ⟨_, rfl⟩
        rw [← hW]
        have K0 : Hid (Blk W (w.heap.size) [.int .i64 oi, .int .i64 oh, .int .i64 oc, .int .i64 0, .int .i64 near, .int .i64 wi]) := hide (by rw [hW]; exact blkAt2_0)
        have K1 : Hid (Blk W (w.heap.size + 1) [.int .i64 ti, .int .i64 th, .int .i64 tc, .int .i64 ts, .int .i64 tf, .int .i64 tk]) := hide (by rw [hW]; exact blkAt2_1)
        have B0 : Hid (Below w.heap.size w W) := hide (by rw [hW]; exact (by repeat (first | exact Below.refl _ _ | refine Below.alloc ?_ (by simp; try omega) _ | refine Below.setCell ?_ (by simp; try omega) _ | refine taDr ?_ _)))
        clear hW
        obtain ⟨ι, fW, _, hb, hall⟩ := belClass W
        have HB := hide hb
        have HA := hide hall
        have c00 : ∀ x, (fW x).cell? ⟨w.heap.size, 0, none⟩ = some (.int .i64 oi) := fun x => ((unhide K0).below (hb x)).c 0 (by simp)
        have c01 : ∀ x, (fW x).cell? ⟨w.heap.size, 1, none⟩ = some (.int .i64 oh) := fun x => ((unhide K0).below (hb x)).c 1 (by simp)
        have c02 : ∀ x, (fW x).cell? ⟨w.heap.size, 2, none⟩ = some (.int .i64 oc) := fun x => ((unhide K0).below (hb x)).c 2 (by simp)
        have c03 : ∀ x, (fW x).cell? ⟨w.heap.size, 3, none⟩ = some (.int .i64 0) := fun x => ((unhide K0).below (hb x)).c 3 (by simp)
        have c04 : ∀ x, (fW x).cell? ⟨w.heap.size, 4, none⟩ = some (.int .i64 near) := fun x => ((unhide K0).below (hb x)).c 4 (by simp)
        have c05 : ∀ x, (fW x).cell? ⟨w.heap.size, 5, none⟩ = some (.int .i64 wi) := fun x => ((unhide K0).below (hb x)).c 5 (by simp)
        have c10 : ∀ x, (fW x).cell? ⟨w.heap.size + 1, 0, none⟩ = some (.int .i64 ti) := fun x => ((unhide K1).below (hb x)).c 0 (by simp)
        have c11 : ∀ x, (fW x).cell? ⟨w.heap.size + 1, 1, none⟩ = some (.int .i64 th) := fun x => ((unhide K1).below (hb x)).c 1 (by simp)
        have c12 : ∀ x, (fW x).cell? ⟨w.heap.size + 1, 2, none⟩ = some (.int .i64 tc) := fun x => ((unhide K1).below (hb x)).c 2 (by simp)
        have c13 : ∀ x, (fW x).cell? ⟨w.heap.size + 1, 3, none⟩ = some (.int .i64 ts) := fun x => ((unhide K1).below (hb x)).c 3 (by simp)
        have c14 : ∀ x, (fW x).cell? ⟨w.heap.size + 1, 4, none⟩ = some (.int .i64 tf) := fun x => ((unhide K1).below (hb x)).c 4 (by simp)
        have c15 : ∀ x, (fW x).cell? ⟨w.heap.size + 1, 5, none⟩ = some (.int .i64 tk) := fun x => ((unhide K1).below (hb x)).c 5 (by simp)
        clear hb hall
        obtain ⟨x0, h0⟩ := (unhide HA) W (Below.refl _ _)
        rw [h0]
        clear h0
        go_wp2_with (first | (go_at_call 81; refine (belQ (unhide HB) (unhide HA) (threatenedBy_is _ _ _ _ _ _ _ _ _ _ _ _ _ (unhide HT))).mono ?_; rintro e _ ⟨rfl, y, rfl⟩) | (go_at_call 112; refine (belS (otherSense_is _ _ (by omega) (unhide HR).symm)).mono ?_; rintro e _ ⟨rfl, y, rfl⟩))
        repeat (refine wp_region_bel (fun w' h => (unhide HA) w' ((unhide HB _).trans (h.mono (unhide HB _).size))) (by kernel_rfl) (by kernel_rfl) ?_; (repeat (go_big_quiet_step (first | (go_at_call 81; exact belQ (unhide HB) (unhide HA) (threatenedBy_is _ _ _ _ _ _ _ _ _ _ _ _ _ (unhide HT))) | (go_at_call 112; exact belS (otherSense_is _ _ (by omega) (unhide HR).symm))))); refine wpQuiet_nil ?_; rintro _ ⟨y, rfl⟩; (first | go_wp2_with (first | (go_at_call 81; refine (belQ (unhide HB) (unhide HA) (threatenedBy_is _ _ _ _ _ _ _ _ _ _ _ _ _ (unhide HT))).mono ?_; rintro e _ ⟨rfl, y, rfl⟩) | (go_at_call 112; refine (belS (otherSense_is _ _ (by omega) (unhide HR).symm)).mono ?_; rintro e _ ⟨rfl, y, rfl⟩)) | go_wp2))
        go_ret
        exact ⟨rfl, (unhide B0).trans ((unhide HB _).mono (unhide B0).size)⟩
    · have HR := hide (hc.symm.trans (adR_own ht h2))
      have e1 : (os != 0) = true := by simpa using h2
      have HT := hide ht
      clear hc ht
      go_enter Try.func84, Try.ntmps84
      go_wp2_with fail
      obtain ⟨W, hW⟩ : ∃ W, W = ((w.alloc (Obj.cells #[.int .i64 oi, .int .i64 oh, .int .i64 oc, .int .i64 os, .int .i64 near, .int .i64 wi] 145)).alloc (Obj.cells #[.int .i64 ti, .int .i64 th, .int .i64 tc, .int .i64 ts, .int .i64 tf, .int .i64 tk] 149)) := ⟨_, rfl⟩
      rw [← hW]
      have K0 : Hid (Blk W (w.heap.size) [.int .i64 oi, .int .i64 oh, .int .i64 oc, .int .i64 os, .int .i64 near, .int .i64 wi]) := hide (by rw [hW]; exact blkAt2_0)
      have K1 : Hid (Blk W (w.heap.size + 1) [.int .i64 ti, .int .i64 th, .int .i64 tc, .int .i64 ts, .int .i64 tf, .int .i64 tk]) := hide (by rw [hW]; exact blkAt2_1)
      have B0 : Hid (Below w.heap.size w W) := hide (by rw [hW]; exact (by repeat (first | exact Below.refl _ _ | refine Below.alloc ?_ (by simp; try omega) _ | refine Below.setCell ?_ (by simp; try omega) _ | refine taDr ?_ _)))
      clear hW
      obtain ⟨ι, fW, _, hb, hall⟩ := belClass W
      have HB := hide hb
      have HA := hide hall
      have c00 : ∀ x, (fW x).cell? ⟨w.heap.size, 0, none⟩ = some (.int .i64 oi) := fun x => ((unhide K0).below (hb x)).c 0 (by simp)
      have c01 : ∀ x, (fW x).cell? ⟨w.heap.size, 1, none⟩ = some (.int .i64 oh) := fun x => ((unhide K0).below (hb x)).c 1 (by simp)
      have c02 : ∀ x, (fW x).cell? ⟨w.heap.size, 2, none⟩ = some (.int .i64 oc) := fun x => ((unhide K0).below (hb x)).c 2 (by simp)
      have c03 : ∀ x, (fW x).cell? ⟨w.heap.size, 3, none⟩ = some (.int .i64 os) := fun x => ((unhide K0).below (hb x)).c 3 (by simp)
      have c04 : ∀ x, (fW x).cell? ⟨w.heap.size, 4, none⟩ = some (.int .i64 near) := fun x => ((unhide K0).below (hb x)).c 4 (by simp)
      have c05 : ∀ x, (fW x).cell? ⟨w.heap.size, 5, none⟩ = some (.int .i64 wi) := fun x => ((unhide K0).below (hb x)).c 5 (by simp)
      have c10 : ∀ x, (fW x).cell? ⟨w.heap.size + 1, 0, none⟩ = some (.int .i64 ti) := fun x => ((unhide K1).below (hb x)).c 0 (by simp)
      have c11 : ∀ x, (fW x).cell? ⟨w.heap.size + 1, 1, none⟩ = some (.int .i64 th) := fun x => ((unhide K1).below (hb x)).c 1 (by simp)
      have c12 : ∀ x, (fW x).cell? ⟨w.heap.size + 1, 2, none⟩ = some (.int .i64 tc) := fun x => ((unhide K1).below (hb x)).c 2 (by simp)
      have c13 : ∀ x, (fW x).cell? ⟨w.heap.size + 1, 3, none⟩ = some (.int .i64 ts) := fun x => ((unhide K1).below (hb x)).c 3 (by simp)
      have c14 : ∀ x, (fW x).cell? ⟨w.heap.size + 1, 4, none⟩ = some (.int .i64 tf) := fun x => ((unhide K1).below (hb x)).c 4 (by simp)
      have c15 : ∀ x, (fW x).cell? ⟨w.heap.size + 1, 5, none⟩ = some (.int .i64 tk) := fun x => ((unhide K1).below (hb x)).c 5 (by simp)
      clear hb hall
      obtain ⟨x0, h0⟩ := (unhide HA) W (Below.refl _ _)
      rw [h0]
      clear h0
      go_wp2_with (first | (go_at_call 81; refine (belQ (unhide HB) (unhide HA) (threatenedBy_is _ _ _ _ _ _ _ _ _ _ _ _ _ (unhide HT))).mono ?_; rintro e _ ⟨rfl, y, rfl⟩))
      repeat (refine wp_region_bel (fun w' h => (unhide HA) w' ((unhide HB _).trans (h.mono (unhide HB _).size))) (by kernel_rfl) (by kernel_rfl) ?_; (repeat (go_big_quiet_step (first | (go_at_call 81; exact belQ (unhide HB) (unhide HA) (threatenedBy_is _ _ _ _ _ _ _ _ _ _ _ _ _ (unhide HT)))))); refine wpQuiet_nil ?_; rintro _ ⟨y, rfl⟩; (first | go_wp2_with (first | (go_at_call 81; refine (belQ (unhide HB) (unhide HA) (threatenedBy_is _ _ _ _ _ _ _ _ _ _ _ _ _ (unhide HT))).mono ?_; rintro e _ ⟨rfl, y, rfl⟩)) | go_wp2))
      go_ret
      exact ⟨ret_int (unhide HR).symm, (unhide B0).trans ((unhide HB _).mono (unhide B0).size)⟩

set_option maxRecDepth 20000 in
set_option maxHeartbeats 2000000 in
theorem implTrackOk_is {b : Bool} (i h c f k s : Int) (w : World) (hc : tcB i h c f k s = b) :
    Calls Try.prog 36 #[.agg #[.int .i64 i, .int .i64 h, .int .i64 c, .int .i64 f, .int .i64 k, .int .i64 s]] w fun e w' => e = .returned (.bool b) ∧ Below w.heap.size w w' := by
  have HC := hide hc
  clear hc
  go_enter Try.func36, Try.ntmps36
  go_wp2_with fail
  obtain ⟨W, hW⟩ : ∃ W, W = (w.alloc (Obj.cells #[.int .i64 i, .int .i64 h, .int .i64 c, .int .i64 f, .int .i64 k, .int .i64 s] 83)) := ⟨_, rfl⟩
  rw [← hW]
  have K0 : Hid (Blk W (w.heap.size) [.int .i64 i, .int .i64 h, .int .i64 c, .int .i64 f, .int .i64 k, .int .i64 s]) := hide (by rw [hW]; exact Blk.new _ _)
  have B0 : Hid (Below w.heap.size w W) := hide (by rw [hW]; exact (by repeat (first | exact Below.refl _ _ | refine Below.alloc ?_ (by simp; try omega) _ | refine Below.setCell ?_ (by simp; try omega) _ | refine taDr ?_ _)))
  clear hW
  obtain ⟨ι, fW, _, hb, hall⟩ := belClass W
  have HB := hide hb
  have HA := hide hall
  have c00 : ∀ x, (fW x).cell? ⟨w.heap.size, 0, none⟩ = some (.int .i64 i) := fun x => ((unhide K0).below (hb x)).c 0 (by simp)
  have c01 : ∀ x, (fW x).cell? ⟨w.heap.size, 1, none⟩ = some (.int .i64 h) := fun x => ((unhide K0).below (hb x)).c 1 (by simp)
  have c02 : ∀ x, (fW x).cell? ⟨w.heap.size, 2, none⟩ = some (.int .i64 c) := fun x => ((unhide K0).below (hb x)).c 2 (by simp)
  have c03 : ∀ x, (fW x).cell? ⟨w.heap.size, 3, none⟩ = some (.int .i64 f) := fun x => ((unhide K0).below (hb x)).c 3 (by simp)
  have c04 : ∀ x, (fW x).cell? ⟨w.heap.size, 4, none⟩ = some (.int .i64 k) := fun x => ((unhide K0).below (hb x)).c 4 (by simp)
  have c05 : ∀ x, (fW x).cell? ⟨w.heap.size, 5, none⟩ = some (.int .i64 s) := fun x => ((unhide K0).below (hb x)).c 5 (by simp)
  clear hb hall
  obtain ⟨x0, h0⟩ := (unhide HA) W (Below.refl _ _)
  rw [h0]
  clear h0
  go_wp2_with (first | (go_at_call 82; refine (belQ (unhide HB) (unhide HA) (seenOf_al _ _ _ _ _ _ _)).mono ?_; rintro e _ ⟨rfl, y, rfl⟩) | (go_at_call 78; refine (belA2 (unhide HB) (unhide HA) (seenOk_al _ _ _ _ _ _ _ (unhide HC))).mono ?_; rintro e _ ⟨rfl, y, rfl⟩))
  repeat (refine wp_region_bel (fun w' h => (unhide HA) w' ((unhide HB _).trans (h.mono (unhide HB _).size))) (by kernel_rfl) (by kernel_rfl) ?_; (repeat (go_big_quiet_step (first | (go_at_call 82; exact belQ (unhide HB) (unhide HA) (seenOf_al _ _ _ _ _ _ _)) | (go_at_call 78; exact belA2 (unhide HB) (unhide HA) (seenOk_al _ _ _ _ _ _ _ (unhide HC)))))); refine wpQuiet_nil ?_; rintro _ ⟨y, rfl⟩; (first | go_wp2_with (first | (go_at_call 82; refine (belQ (unhide HB) (unhide HA) (seenOf_al _ _ _ _ _ _ _)).mono ?_; rintro e _ ⟨rfl, y, rfl⟩) | (go_at_call 78; refine (belA2 (unhide HB) (unhide HA) (seenOk_al _ _ _ _ _ _ _ (unhide HC))).mono ?_; rintro e _ ⟨rfl, y, rfl⟩)) | go_wp2))
  go_ret
  exact ⟨rfl, (unhide B0).trans ((unhide HB _).mono (unhide B0).size)⟩

theorem fieldW (i h c s near wi : Int) (W : World) : (Instr.field 145 (.agg #[.int .i64 i, .int .i64 h, .int .i64 c, .int .i64 s, .int .i64 near, .int .i64 wi]) 0).run Try.prog W = .ok (.agg #[.int .i64 i, .int .i64 h, .int .i64 c, .int .i64 s]) W := by kernel_rfl

set_option maxRecDepth 20000 in
set_option maxHeartbeats 2000000 in
theorem implOwnOk_is {b : Bool} (i h c s : Int) (w : World) (hc : avB i h c s = b) :
    Calls Try.prog 33 #[.agg #[.int .i64 i, .int .i64 h, .int .i64 c, .int .i64 s]] w fun e w' => e = .returned (.bool b) ∧ Below w.heap.size w w' := by
  have HC := hide hc
  clear hc
  have hF := fieldW i h c s 0 0
  go_enter Try.func33, Try.ntmps33
  go_wp2_with fail
  obtain ⟨W, hW⟩ : ∃ W, W = (w.alloc (Obj.cells #[.int .i64 i, .int .i64 h, .int .i64 c, .int .i64 s] 76)) := ⟨_, rfl⟩
  rw [← hW]
  have K0 : Hid (Blk W (w.heap.size) [.int .i64 i, .int .i64 h, .int .i64 c, .int .i64 s]) := hide (by rw [hW]; exact Blk.new _ _)
  have B0 : Hid (Below w.heap.size w W) := hide (by rw [hW]; exact (by repeat (first | exact Below.refl _ _ | refine Below.alloc ?_ (by simp; try omega) _ | refine Below.setCell ?_ (by simp; try omega) _ | refine taDr ?_ _)))
  clear hW
  obtain ⟨ι, fW, _, hb, hall⟩ := belClass W
  have HB := hide hb
  have HA := hide hall
  have c00 : ∀ x, (fW x).cell? ⟨w.heap.size, 0, none⟩ = some (.int .i64 i) := fun x => ((unhide K0).below (hb x)).c 0 (by simp)
  have c01 : ∀ x, (fW x).cell? ⟨w.heap.size, 1, none⟩ = some (.int .i64 h) := fun x => ((unhide K0).below (hb x)).c 1 (by simp)
  have c02 : ∀ x, (fW x).cell? ⟨w.heap.size, 2, none⟩ = some (.int .i64 c) := fun x => ((unhide K0).below (hb x)).c 2 (by simp)
  have c03 : ∀ x, (fW x).cell? ⟨w.heap.size, 3, none⟩ = some (.int .i64 s) := fun x => ((unhide K0).below (hb x)).c 3 (by simp)
  clear hb hall
  obtain ⟨x0, h0⟩ := (unhide HA) W (Below.refl _ _)
  rw [h0]
  clear h0
  go_wp2_with (first | (go_at_call 75; refine (belQ (unhide HB) (unhide HA) (watcherOf_al _ _ _ _ _ _ _)).mono ?_; rintro e _ ⟨rfl, y, rfl⟩) | (go_at_call 80; refine (belA1 (unhide HB) (unhide HA) (flierOk_al _ _ _ _ _ (unhide HC))).mono ?_; rintro e _ ⟨rfl, y, rfl⟩))
  repeat (refine wp_region_bel (fun w' h => (unhide HA) w' ((unhide HB _).trans (h.mono (unhide HB _).size))) (by kernel_rfl) (by kernel_rfl) ?_; (repeat (go_big_quiet_step (first | (go_at_call 75; exact belQ (unhide HB) (unhide HA) (watcherOf_al _ _ _ _ _ _ _)) | (go_at_call 80; exact belA1 (unhide HB) (unhide HA) (flierOk_al _ _ _ _ _ (unhide HC)))))); refine wpQuiet_nil ?_; rintro _ ⟨y, rfl⟩; (first | go_wp2_with (first | (go_at_call 75; refine (belQ (unhide HB) (unhide HA) (watcherOf_al _ _ _ _ _ _ _)).mono ?_; rintro e _ ⟨rfl, y, rfl⟩) | (go_at_call 80; refine (belA1 (unhide HB) (unhide HA) (flierOk_al _ _ _ _ _ (unhide HC))).mono ?_; rintro e _ ⟨rfl, y, rfl⟩)) | go_wp2))
  go_ret
  exact ⟨rfl, (unhide B0).trans ((unhide HB _).mono (unhide B0).size)⟩

set_option maxRecDepth 20000 in
set_option maxHeartbeats 2000000 in
theorem implTicksTo_is {n : Int} {b : Bool} (i h c f k s : Int) (w : World) (hn : tiN i h c f k s = n) (hb : tiB i h c f k s = b) :
    Calls Try.prog 35 #[.agg #[.int .i64 i, .int .i64 h, .int .i64 c, .int .i64 f, .int .i64 k, .int .i64 s]] w fun e w' => e = .returned (.tuple #[.int .i64 n, .bool b]) ∧ Below w.heap.size w w' := by
  have HN := hide hn
  have HC := hide hb
  clear hn hb
  go_enter Try.func35, Try.ntmps35
  go_wp2_with fail
  obtain ⟨W, hW⟩ : ∃ W, W = (w.alloc (Obj.cells #[.int .i64 i, .int .i64 h, .int .i64 c, .int .i64 f, .int .i64 k, .int .i64 s] 83)) := ⟨_, rfl⟩
  rw [← hW]
  have K0 : Hid (Blk W (w.heap.size) [.int .i64 i, .int .i64 h, .int .i64 c, .int .i64 f, .int .i64 k, .int .i64 s]) := hide (by rw [hW]; exact Blk.new _ _)
  have B0 : Hid (Below w.heap.size w W) := hide (by rw [hW]; exact (by repeat (first | exact Below.refl _ _ | refine Below.alloc ?_ (by simp; try omega) _ | refine Below.setCell ?_ (by simp; try omega) _ | refine taDr ?_ _)))
  clear hW
  obtain ⟨ι, fW, _, hb, hall⟩ := belClass W
  have HB := hide hb
  have HA := hide hall
  have c00 : ∀ x, (fW x).cell? ⟨w.heap.size, 0, none⟩ = some (.int .i64 i) := fun x => ((unhide K0).below (hb x)).c 0 (by simp)
  have c01 : ∀ x, (fW x).cell? ⟨w.heap.size, 1, none⟩ = some (.int .i64 h) := fun x => ((unhide K0).below (hb x)).c 1 (by simp)
  have c02 : ∀ x, (fW x).cell? ⟨w.heap.size, 2, none⟩ = some (.int .i64 c) := fun x => ((unhide K0).below (hb x)).c 2 (by simp)
  have c03 : ∀ x, (fW x).cell? ⟨w.heap.size, 3, none⟩ = some (.int .i64 f) := fun x => ((unhide K0).below (hb x)).c 3 (by simp)
  have c04 : ∀ x, (fW x).cell? ⟨w.heap.size, 4, none⟩ = some (.int .i64 k) := fun x => ((unhide K0).below (hb x)).c 4 (by simp)
  have c05 : ∀ x, (fW x).cell? ⟨w.heap.size, 5, none⟩ = some (.int .i64 s) := fun x => ((unhide K0).below (hb x)).c 5 (by simp)
  clear hb hall
  obtain ⟨x0, h0⟩ := (unhide HA) W (Below.refl _ _)
  rw [h0]
  clear h0
  go_wp2_with (first | (go_at_call 82; refine (belQ (unhide HB) (unhide HA) (seenOf_al _ _ _ _ _ _ _)).mono ?_; rintro e _ ⟨rfl, y, rfl⟩) | (go_at_call 83; refine (belA3 (unhide HB) (unhide HA) (ticks_al _ _ _ _ _ _ _ (unhide HN) (unhide HC))).mono ?_; rintro e _ ⟨rfl, y, rfl⟩))
  repeat (refine wp_region_bel (fun w' h => (unhide HA) w' ((unhide HB _).trans (h.mono (unhide HB _).size))) (by kernel_rfl) (by kernel_rfl) ?_; (repeat (go_big_quiet_step (first | (go_at_call 82; exact belQ (unhide HB) (unhide HA) (seenOf_al _ _ _ _ _ _ _)) | (go_at_call 83; exact belA3 (unhide HB) (unhide HA) (ticks_al _ _ _ _ _ _ _ (unhide HN) (unhide HC)))))); refine wpQuiet_nil ?_; rintro _ ⟨y, rfl⟩; (first | go_wp2_with (first | (go_at_call 82; refine (belQ (unhide HB) (unhide HA) (seenOf_al _ _ _ _ _ _ _)).mono ?_; rintro e _ ⟨rfl, y, rfl⟩) | (go_at_call 83; refine (belA3 (unhide HB) (unhide HA) (ticks_al _ _ _ _ _ _ _ (unhide HN) (unhide HC))).mono ?_; rintro e _ ⟨rfl, y, rfl⟩)) | go_wp2))
  go_ret2
  exact ⟨rfl, (unhide B0).trans ((unhide HB _).mono (unhide B0).size)⟩

set_option maxRecDepth 20000 in
set_option maxHeartbeats 2000000 in
theorem implThreat_is {b : Bool} (oi oh oc os ti th tc tf tk ts near wi : Int) (w : World) (hc : thB oi oh oc os ti th tc tf tk ts near wi = b) :
    Calls Try.prog 34 #[.agg #[.int .i64 oi, .int .i64 oh, .int .i64 oc, .int .i64 os], .agg #[.int .i64 ti, .int .i64 th, .int .i64 tc, .int .i64 tf, .int .i64 tk, .int .i64 ts], .int .i64 near, .int .i64 wi] w fun e w' => e = .returned (.bool b) ∧ Below w.heap.size w w' := by
  have HC := hide hc
  clear hc
  go_enter Try.func34, Try.ntmps34
  go_wp2_with fail
  obtain ⟨W, hW⟩ : ∃ W, W = ((w.alloc (Obj.cells #[.int .i64 oi, .int .i64 oh, .int .i64 oc, .int .i64 os] 76)).alloc (Obj.cells #[.int .i64 ti, .int .i64 th, .int .i64 tc, .int .i64 tf, .int .i64 tk, .int .i64 ts] 83)) := ⟨_, rfl⟩
  rw [← hW]
  have K0 : Hid (Blk W (w.heap.size) [.int .i64 oi, .int .i64 oh, .int .i64 oc, .int .i64 os]) := hide (by rw [hW]; exact blkAt2_0)
  have K1 : Hid (Blk W (w.heap.size + 1) [.int .i64 ti, .int .i64 th, .int .i64 tc, .int .i64 tf, .int .i64 tk, .int .i64 ts]) := hide (by rw [hW]; exact blkAt2_1)
  have B0 : Hid (Below w.heap.size w W) := hide (by rw [hW]; exact (by repeat (first | exact Below.refl _ _ | refine Below.alloc ?_ (by simp; try omega) _ | refine Below.setCell ?_ (by simp; try omega) _ | refine taDr ?_ _)))
  clear hW
  obtain ⟨ι, fW, _, hb, hall⟩ := belClass W
  have HB := hide hb
  have HA := hide hall
  have c00 : ∀ x, (fW x).cell? ⟨w.heap.size, 0, none⟩ = some (.int .i64 oi) := fun x => ((unhide K0).below (hb x)).c 0 (by simp)
  have c01 : ∀ x, (fW x).cell? ⟨w.heap.size, 1, none⟩ = some (.int .i64 oh) := fun x => ((unhide K0).below (hb x)).c 1 (by simp)
  have c02 : ∀ x, (fW x).cell? ⟨w.heap.size, 2, none⟩ = some (.int .i64 oc) := fun x => ((unhide K0).below (hb x)).c 2 (by simp)
  have c03 : ∀ x, (fW x).cell? ⟨w.heap.size, 3, none⟩ = some (.int .i64 os) := fun x => ((unhide K0).below (hb x)).c 3 (by simp)
  have c10 : ∀ x, (fW x).cell? ⟨w.heap.size + 1, 0, none⟩ = some (.int .i64 ti) := fun x => ((unhide K1).below (hb x)).c 0 (by simp)
  have c11 : ∀ x, (fW x).cell? ⟨w.heap.size + 1, 1, none⟩ = some (.int .i64 th) := fun x => ((unhide K1).below (hb x)).c 1 (by simp)
  have c12 : ∀ x, (fW x).cell? ⟨w.heap.size + 1, 2, none⟩ = some (.int .i64 tc) := fun x => ((unhide K1).below (hb x)).c 2 (by simp)
  have c13 : ∀ x, (fW x).cell? ⟨w.heap.size + 1, 3, none⟩ = some (.int .i64 tf) := fun x => ((unhide K1).below (hb x)).c 3 (by simp)
  have c14 : ∀ x, (fW x).cell? ⟨w.heap.size + 1, 4, none⟩ = some (.int .i64 tk) := fun x => ((unhide K1).below (hb x)).c 4 (by simp)
  have c15 : ∀ x, (fW x).cell? ⟨w.heap.size + 1, 5, none⟩ = some (.int .i64 ts) := fun x => ((unhide K1).below (hb x)).c 5 (by simp)
  clear hb hall
  obtain ⟨x0, h0⟩ := (unhide HA) W (Below.refl _ _)
  rw [h0]
  clear h0
  go_wp2_with (first | (go_at_call 75; refine (belQ (unhide HB) (unhide HA) (watcherOf_al _ _ _ _ _ _ _)).mono ?_; rintro e _ ⟨rfl, y, rfl⟩) | (go_at_call 82; refine (belQ (unhide HB) (unhide HA) (seenOf_al _ _ _ _ _ _ _)).mono ?_; rintro e _ ⟨rfl, y, rfl⟩) | (go_at_call 81; refine (belQ (unhide HB) (unhide HA) (threatenedBy_is _ _ _ _ _ _ _ _ _ _ _ _ _ (unhide HC))).mono ?_; rintro e _ ⟨rfl, y, rfl⟩))
  repeat (refine wp_region_bel (fun w' h => (unhide HA) w' ((unhide HB _).trans (h.mono (unhide HB _).size))) (by kernel_rfl) (by kernel_rfl) ?_; (repeat (go_big_quiet_step (first | (go_at_call 75; exact belQ (unhide HB) (unhide HA) (watcherOf_al _ _ _ _ _ _ _)) | (go_at_call 82; exact belQ (unhide HB) (unhide HA) (seenOf_al _ _ _ _ _ _ _)) | (go_at_call 81; exact belQ (unhide HB) (unhide HA) (threatenedBy_is _ _ _ _ _ _ _ _ _ _ _ _ _ (unhide HC)))))); refine wpQuiet_nil ?_; rintro _ ⟨y, rfl⟩; (first | go_wp2_with (first | (go_at_call 75; refine (belQ (unhide HB) (unhide HA) (watcherOf_al _ _ _ _ _ _ _)).mono ?_; rintro e _ ⟨rfl, y, rfl⟩) | (go_at_call 82; refine (belQ (unhide HB) (unhide HA) (seenOf_al _ _ _ _ _ _ _)).mono ?_; rintro e _ ⟨rfl, y, rfl⟩) | (go_at_call 81; refine (belQ (unhide HB) (unhide HA) (threatenedBy_is _ _ _ _ _ _ _ _ _ _ _ _ _ (unhide HC))).mono ?_; rintro e _ ⟨rfl, y, rfl⟩)) | go_wp2))
  go_ret
  exact ⟨rfl, (unhide B0).trans ((unhide HB _).mono (unhide B0).size)⟩

set_option maxRecDepth 20000 in
set_option maxHeartbeats 2000000 in
theorem implAdvise_is {b : Int} (oi oh oc os ti th tc tf tk ts near wi : Int) (w : World) (hc : adR oi oh oc os ti th tc tf tk ts near wi = b) :
    Calls Try.prog 38 #[.agg #[.int .i64 oi, .int .i64 oh, .int .i64 oc, .int .i64 os], .agg #[.int .i64 ti, .int .i64 th, .int .i64 tc, .int .i64 tf, .int .i64 tk, .int .i64 ts], .int .i64 near, .int .i64 wi] w fun e w' => e = .returned (.int .i64 b) ∧ Below w.heap.size w w' := by
  have HC := hide hc
  clear hc
  go_enter Try.func38, Try.ntmps38
  go_wp2_with fail
  obtain ⟨W, hW⟩ : ∃ W, W = ((w.alloc (Obj.cells #[.int .i64 oi, .int .i64 oh, .int .i64 oc, .int .i64 os] 76)).alloc (Obj.cells #[.int .i64 ti, .int .i64 th, .int .i64 tc, .int .i64 tf, .int .i64 tk, .int .i64 ts] 83)) := ⟨_, rfl⟩
  rw [← hW]
  have K0 : Hid (Blk W (w.heap.size) [.int .i64 oi, .int .i64 oh, .int .i64 oc, .int .i64 os]) := hide (by rw [hW]; exact blkAt2_0)
  have K1 : Hid (Blk W (w.heap.size + 1) [.int .i64 ti, .int .i64 th, .int .i64 tc, .int .i64 tf, .int .i64 tk, .int .i64 ts]) := hide (by rw [hW]; exact blkAt2_1)
  have B0 : Hid (Below w.heap.size w W) := hide (by rw [hW]; exact (by repeat (first | exact Below.refl _ _ | refine Below.alloc ?_ (by simp; try omega) _ | refine Below.setCell ?_ (by simp; try omega) _ | refine taDr ?_ _)))
  clear hW
  obtain ⟨ι, fW, _, hb, hall⟩ := belClass W
  have HB := hide hb
  have HA := hide hall
  have c00 : ∀ x, (fW x).cell? ⟨w.heap.size, 0, none⟩ = some (.int .i64 oi) := fun x => ((unhide K0).below (hb x)).c 0 (by simp)
  have c01 : ∀ x, (fW x).cell? ⟨w.heap.size, 1, none⟩ = some (.int .i64 oh) := fun x => ((unhide K0).below (hb x)).c 1 (by simp)
  have c02 : ∀ x, (fW x).cell? ⟨w.heap.size, 2, none⟩ = some (.int .i64 oc) := fun x => ((unhide K0).below (hb x)).c 2 (by simp)
  have c03 : ∀ x, (fW x).cell? ⟨w.heap.size, 3, none⟩ = some (.int .i64 os) := fun x => ((unhide K0).below (hb x)).c 3 (by simp)
  have c10 : ∀ x, (fW x).cell? ⟨w.heap.size + 1, 0, none⟩ = some (.int .i64 ti) := fun x => ((unhide K1).below (hb x)).c 0 (by simp)
  have c11 : ∀ x, (fW x).cell? ⟨w.heap.size + 1, 1, none⟩ = some (.int .i64 th) := fun x => ((unhide K1).below (hb x)).c 1 (by simp)
  have c12 : ∀ x, (fW x).cell? ⟨w.heap.size + 1, 2, none⟩ = some (.int .i64 tc) := fun x => ((unhide K1).below (hb x)).c 2 (by simp)
  have c13 : ∀ x, (fW x).cell? ⟨w.heap.size + 1, 3, none⟩ = some (.int .i64 tf) := fun x => ((unhide K1).below (hb x)).c 3 (by simp)
  have c14 : ∀ x, (fW x).cell? ⟨w.heap.size + 1, 4, none⟩ = some (.int .i64 tk) := fun x => ((unhide K1).below (hb x)).c 4 (by simp)
  have c15 : ∀ x, (fW x).cell? ⟨w.heap.size + 1, 5, none⟩ = some (.int .i64 ts) := fun x => ((unhide K1).below (hb x)).c 5 (by simp)
  clear hb hall
  obtain ⟨x0, h0⟩ := (unhide HA) W (Below.refl _ _)
  rw [h0]
  clear h0
  go_wp2_with (first | (go_at_call 75; refine (belQ (unhide HB) (unhide HA) (watcherOf_al _ _ _ _ _ _ _)).mono ?_; rintro e _ ⟨rfl, y, rfl⟩) | (go_at_call 82; refine (belQ (unhide HB) (unhide HA) (seenOf_al _ _ _ _ _ _ _)).mono ?_; rintro e _ ⟨rfl, y, rfl⟩) | (go_at_call 84; refine (belQ (unhide HB) (unhide HA) (advised_is _ _ _ _ _ _ _ _ _ _ _ _ _ (unhide HC))).mono ?_; rintro e _ ⟨rfl, y, rfl⟩))
  repeat (refine wp_region_bel (fun w' h => (unhide HA) w' ((unhide HB _).trans (h.mono (unhide HB _).size))) (by kernel_rfl) (by kernel_rfl) ?_; (repeat (go_big_quiet_step (first | (go_at_call 75; exact belQ (unhide HB) (unhide HA) (watcherOf_al _ _ _ _ _ _ _)) | (go_at_call 82; exact belQ (unhide HB) (unhide HA) (seenOf_al _ _ _ _ _ _ _)) | (go_at_call 84; exact belQ (unhide HB) (unhide HA) (advised_is _ _ _ _ _ _ _ _ _ _ _ _ _ (unhide HC)))))); refine wpQuiet_nil ?_; rintro _ ⟨y, rfl⟩; (first | go_wp2_with (first | (go_at_call 75; refine (belQ (unhide HB) (unhide HA) (watcherOf_al _ _ _ _ _ _ _)).mono ?_; rintro e _ ⟨rfl, y, rfl⟩) | (go_at_call 82; refine (belQ (unhide HB) (unhide HA) (seenOf_al _ _ _ _ _ _ _)).mono ?_; rintro e _ ⟨rfl, y, rfl⟩) | (go_at_call 84; refine (belQ (unhide HB) (unhide HA) (advised_is _ _ _ _ _ _ _ _ _ _ _ _ _ (unhide HC))).mono ?_; rintro e _ ⟨rfl, y, rfl⟩)) | go_wp2))
  go_ret
  exact ⟨rfl, (unhide B0).trans ((unhide HB _).mono (unhide B0).size)⟩

end Go.Proofs.Ytbaocifpifbldae
