/-
  What the program's nameAndCounts, mostUsed and Left6 answer: as the plain functions. Nothing that was there is written.
  What the model's small functions of maintenance answer: plain answers, at every argument; nothing that was there is written.
-/
import Derived.Test.YticdccdkjepifaaGreatMStrRow
import Derived.Test.YticdccdkjepifaaGreatMTaAlert
import Derived.Test.YticdccdkjepifaaGreatMBlk
import Derived.Test.YticdccdkjepifaaGreatMLowPure

namespace Go.Proofs.YticdccdkjepifaaGreat
open Go.RowKit

theorem run_ix {i : Int} {n : Nat} {v : Value} (cs : Array Value) (w : World) (hi : i = (n : Int)) (hn : n < 3) (hv : cs[n]? = some v) (hc : ∃ k m, v = .int k m) :
    (Instr.index 142 (.agg cs) (.int .i64 i)).run Tryz.prog w = .ok v w := by
  subst hi
  obtain ⟨k, m, rfl⟩ := hc
  have h1 : (0 : Int) ≤ (n : Int) ∧ (n : Int) < 3 := by omega
  simp [Instr.index, asIntOf, go_sem, hv, hn]
theorem run_ix0 (a b c : Int) (w : World) : (Instr.index 142 (.agg #[.int .i64 a, .int .i64 b, .int .i64 c]) (.int .i64 0)).run Tryz.prog w = .ok (.int .i64 a) w := run_ix (n := 0) _ _ rfl (by omega) rfl ⟨_, _, rfl⟩
theorem run_ix1 (a b c : Int) (w : World) : (Instr.index 142 (.agg #[.int .i64 a, .int .i64 b, .int .i64 c]) (.int .i64 1)).run Tryz.prog w = .ok (.int .i64 b) w := run_ix (n := 1) _ _ rfl (by omega) rfl ⟨_, _, rfl⟩
theorem run_ix2 (a b c : Int) (w : World) : (Instr.index 142 (.agg #[.int .i64 a, .int .i64 b, .int .i64 c]) (.int .i64 2)).run Tryz.prog w = .ok (.int .i64 c) w := run_ix (n := 2) _ _ rfl (by omega) rfl ⟨_, _, rfl⟩
attribute [local go_sem high] run_ix0 run_ix1 run_ix2

theorem prod_bd {s b : Int} (h : 0 ≤ s ∧ s ≤ 10000000) (h2 : 0 ≤ b ∧ b ≤ 1000000) : 0 ≤ s * b ∧ s * b ≤ 10000000000000 := by
  have a : 0 ≤ s * b := Int.mul_nonneg h.1 h2.1
  have c := (mulBd (s := s) (d := b) (A := 10000000) (B := 1000000) (by omega) h.2 (by omega) h2.2 (by omega) (by omega)).2
  constructor <;> omega

end Go.Proofs.YticdccdkjepifaaGreat

namespace Go.Proofs.YticdccdkjepifaaGreat
open Go.RowKit

set_option maxRecDepth 20000 in
set_option maxHeartbeats 2000000 in
theorem specClockOk_is {b : Bool} (h c d : Int) (w : World) (hc : ckB h c d = b) :
    Calls Tryz.prog 65 #[.agg #[.int .i64 h, .int .i64 c, .int .i64 d]] w fun e w' => e = .returned (.bool b) ∧ Below w.heap.size w w' := by
  subst hc
  rcases three (inB h 0 1000000) (inB c 0 1000000) (inB d 0 1000000) with ⟨q1, hv⟩ | ⟨q1, q2, hv⟩ | ⟨q1, q2, q3, hv⟩ | ⟨q1, q2, q3, hv⟩
  all_goals
    have HE := hide (show ckB h c d = _ from hv)
    rw [unhide HE]
    clear hv
    go_enter Tryz.func65, Tryz.ntmps65
    go_wp2_with fail
    obtain ⟨W, hW⟩ : ∃ W, W = (w.alloc (Obj.cells #[.int .i64 h, .int .i64 c, .int .i64 d] 35)) := ⟨_, rfl⟩
    rw [← hW]
    have K0 : Hid (Blk W (w.heap.size) [.int .i64 h, .int .i64 c, .int .i64 d]) := hide (by rw [hW]; exact Blk.new _ _)
    have B0 : Hid (Below w.heap.size w W) := hide (by rw [hW]; exact (by repeat (first | exact Below.refl _ _ | refine Below.alloc ?_ (by simp; try omega) _ | refine Below.setCell ?_ (by simp; try omega) _ | refine taDr ?_ _)))
    clear hW
    obtain ⟨ι, fW, _, hb, hall⟩ := belClass W
    have HB := hide hb
    have HA := hide hall
    have c00 : ∀ x, (fW x).cell? ⟨w.heap.size, 0, none⟩ = some (.int .i64 h) := fun x => ((unhide K0).below (hb x)).c 0 (by simp)
    have c01 : ∀ x, (fW x).cell? ⟨w.heap.size, 1, none⟩ = some (.int .i64 c) := fun x => ((unhide K0).below (hb x)).c 1 (by simp)
    have c02 : ∀ x, (fW x).cell? ⟨w.heap.size, 2, none⟩ = some (.int .i64 d) := fun x => ((unhide K0).below (hb x)).c 2 (by simp)
    clear hb hall
    obtain ⟨x0, h0⟩ := (unhide HA) W (Below.refl _ _)
    rw [h0]
    clear h0
    go_wp2_with (first | (go_at_call 70; refine (belS (l1In_is _ _ _ _ (by first | exact q1 | exact q2 | exact q3))).mono ?_; rintro e _ ⟨rfl, y, rfl⟩))
    repeat (refine wp_region_bel (fun w' h => (unhide HA) w' ((unhide HB _).trans (h.mono (unhide HB _).size))) (by kernel_rfl) (by kernel_rfl) ?_; (repeat (go_big_quiet_step (first | (go_at_call 70; exact belS (l1In_is _ _ _ _ (by first | exact q1 | exact q2 | exact q3)))))); refine wpQuiet_nil ?_; rintro _ ⟨y, rfl⟩; (first | go_wp2_with (first | (go_at_call 70; refine (belS (l1In_is _ _ _ _ (by first | exact q1 | exact q2 | exact q3))).mono ?_; rintro e _ ⟨rfl, y, rfl⟩)) | go_wp2))
    go_ret
    exact ⟨rfl, (unhide B0).trans ((unhide HB _).mono (unhide B0).size)⟩

set_option maxRecDepth 20000 in
set_option maxHeartbeats 2000000 in
theorem specTaskOk_is {b : Bool} (nm : ByteArray) (h c d dh dc dd : Int) (w : World) (hs : nm.size ≤ 9223372036854775807) (hc : tsB ⟨nm, h, c, d, dh, dc, dd⟩ = b) :
    Calls Tryz.prog 67 #[.agg #[.string nm, .int .i64 h, .int .i64 c, .int .i64 d, .int .i64 dh, .int .i64 dc, .int .i64 dd]] w fun e w' => e = .returned (.bool b) ∧ Below w.heap.size w w' := by
  subst hc
  rcases six (nameB nm) (inB h 0 100000) (inB c 0 100000) (inB d 0 100000) (decide (0 < h + c + d)) (ckB dh dc dd) with ⟨q1, hv⟩ | ⟨q1, q2, hv⟩ | ⟨q1, q2, q3, hv⟩ | ⟨q1, q2, q3, q4, hv⟩ | ⟨q1, q2, q3, q4, q5, hv⟩ | ⟨q1, q2, q3, q4, q5, q6, hv⟩ | ⟨q1, q2, q3, q4, q5, q6, hv⟩
  all_goals
    have HE := hide (show tsB ⟨nm, h, c, d, dh, dc, dd⟩ = _ from hv)
    rw [unhide HE]
    clear hv
    try (have g2 : 0 ≤ h ∧ h ≤ 100000 := of_decide_eq_true q2)
    try (have g3 : 0 ≤ c ∧ c ≤ 100000 := of_decide_eq_true q3)
    try (have g4 : 0 ≤ d ∧ d ≤ 100000 := of_decide_eq_true q4)
    have CN : Hid (∀ W, Calls Tryz.prog 69 #[.string nm] W fun e w' => e = .returned (.bool _) ∧ w' = W) := hide (fun W => by have := l1Name_any nm W hs; rw [q1] at this; exact this)
    go_enter Tryz.func67, Tryz.ntmps67
    go_wp2_with fail
    obtain ⟨W, hW⟩ : ∃ W, W = (w.alloc (Obj.cells #[.string nm, .int .i64 h, .int .i64 c, .int .i64 d, .int .i64 dh, .int .i64 dc, .int .i64 dd] 90)) := ⟨_, rfl⟩
    rw [← hW]
    have K0 : Hid (Blk W (w.heap.size) [.string nm, .int .i64 h, .int .i64 c, .int .i64 d, .int .i64 dh, .int .i64 dc, .int .i64 dd]) := hide (by rw [hW]; exact Blk.new _ _)
    have B0 : Hid (Below w.heap.size w W) := hide (by rw [hW]; exact (by repeat (first | exact Below.refl _ _ | refine Below.alloc ?_ (by simp; try omega) _ | refine Below.setCell ?_ (by simp; try omega) _ | refine taDr ?_ _)))
    clear hW
    obtain ⟨ι, fW, _, hb, hall⟩ := belClass W
    have HB := hide hb
    have HA := hide hall
    have c00 : ∀ x, (fW x).cell? ⟨w.heap.size, 0, none⟩ = some (.string nm) := fun x => ((unhide K0).below (hb x)).c 0 (by simp)
    have c01 : ∀ x, (fW x).cell? ⟨w.heap.size, 1, none⟩ = some (.int .i64 h) := fun x => ((unhide K0).below (hb x)).c 1 (by simp)
    have c02 : ∀ x, (fW x).cell? ⟨w.heap.size, 2, none⟩ = some (.int .i64 c) := fun x => ((unhide K0).below (hb x)).c 2 (by simp)
    have c03 : ∀ x, (fW x).cell? ⟨w.heap.size, 3, none⟩ = some (.int .i64 d) := fun x => ((unhide K0).below (hb x)).c 3 (by simp)
    have c04 : ∀ x, (fW x).cell? ⟨w.heap.size, 4, none⟩ = some (.int .i64 dh) := fun x => ((unhide K0).below (hb x)).c 4 (by simp)
    have c05 : ∀ x, (fW x).cell? ⟨w.heap.size, 5, none⟩ = some (.int .i64 dc) := fun x => ((unhide K0).below (hb x)).c 5 (by simp)
    have c06 : ∀ x, (fW x).cell? ⟨w.heap.size, 6, none⟩ = some (.int .i64 dd) := fun x => ((unhide K0).below (hb x)).c 6 (by simp)
    clear hb hall
    obtain ⟨x0, h0⟩ := (unhide HA) W (Below.refl _ _)
    rw [h0]
    clear h0
    go_wp2_with (first | (go_at_call 69; refine (belS (unhide CN _)).mono ?_; rintro e _ ⟨rfl, y, rfl⟩) | (go_at_call 70; refine (belS (l1In_is _ _ _ _ (by first | exact q2 | exact q3 | exact q4))).mono ?_; rintro e _ ⟨rfl, y, rfl⟩) | (go_at_call 65; refine (belQ (unhide HB) (unhide HA) (specClockOk_is _ _ _ _ (by exact q6))).mono ?_; rintro e _ ⟨rfl, y, rfl⟩))
    repeat (refine wp_region_bel (fun w' h => (unhide HA) w' ((unhide HB _).trans (h.mono (unhide HB _).size))) (by kernel_rfl) (by kernel_rfl) ?_; (repeat (go_big_quiet_step (first | (go_at_call 69; exact belS (unhide CN _)) | (go_at_call 70; exact belS (l1In_is _ _ _ _ (by first | exact q2 | exact q3 | exact q4))) | (go_at_call 65; exact belQ (unhide HB) (unhide HA) (specClockOk_is _ _ _ _ (by exact q6)))))); refine wpQuiet_nil ?_; rintro _ ⟨y, rfl⟩; (first | go_wp2_with (first | (go_at_call 69; refine (belS (unhide CN _)).mono ?_; rintro e _ ⟨rfl, y, rfl⟩) | (go_at_call 70; refine (belS (l1In_is _ _ _ _ (by first | exact q2 | exact q3 | exact q4))).mono ?_; rintro e _ ⟨rfl, y, rfl⟩) | (go_at_call 65; refine (belQ (unhide HB) (unhide HA) (specClockOk_is _ _ _ _ (by exact q6))).mono ?_; rintro e _ ⟨rfl, y, rfl⟩)) | go_wp2))
    go_ret
    exact ⟨rfl, (unhide B0).trans ((unhide HB _).mono (unhide B0).size)⟩

end Go.Proofs.YticdccdkjepifaaGreat
