/-
  What the model's Due19 answers: plain answers, at every task and clock; nothing that was there is written.
-/
import Derived.Test.YticdccdkjepifaaGreatMMinMax
import Derived.Test.YticdccdkjepifaaGreatMOnly
import Derived.Deep.RegionHeld3
import Derived.Deep.CutRange
namespace Go.Proofs.YticdccdkjepifaaGreat
open Go.RowKit

theorem results_BcellB {fn : Func} {p q r : Tmp} {t : TypeId} {tmps : Array Value} {w : World} {B : Nat} {vs : List Value} {x y : Value} (h : fn.results = #[.tmp q, .cell p t, .tmp r]) (hA : ∀ w, (isAgg t).run Tryz.prog w = .ok true w) (hZ : ∀ w, (Go.sizeOf t).run Tryz.prog w = .ok vs.length w)
    (hp : tmps.getD p undef = .pointer (some ⟨B, 0, none⟩)) (hb : Blk w B vs) (hq : tmps.getD q undef = x) (hr : tmps.getD r undef = y) : (results fn tmps).run Tryz.prog w = .ok (.tuple #[x, .agg vs.toArray, y]) w := by
  have hl := run_loadVar hA hZ hb
  have hp' : tmps[p]?.getD undef = .pointer (some ⟨B, 0, none⟩) := by simpa using hp
  have hq' : tmps[q]?.getD undef = x := by simpa using hq
  have hr' : tmps[r]?.getD undef = y := by simpa using hr
  simp only [results, h]
  simp [hp', hq', hr', asAddr, hl]

theorem d9_bd (W : World) : Below W.heap.size W W.drew := ⟨rfl, rfl, rfl, Nat.le_refl _, fun _ _ => rfl⟩
theorem d9_bel {B : Nat} {w w' : World} (h : Below B w w') : Below B w w'.drew := h.trans ⟨rfl, rfl, rfl, Nat.le_refl _, fun _ _ => rfl⟩
theorem d9_dr (W : World) (a : Addr) : W.drew.cell? a = W.cell? a := rfl
set_option maxRecDepth 20000 in
set_option maxHeartbeats 4000000 in
theorem specDue19_no (nm : ByteArray) (h c d dh dc dd nh nc nd : Int) (w : World) (hs : nm.size ≤ 9223372036854775807) (hn : d9B ⟨nm, h, c, d, dh, dc, dd⟩ nh nc nd = false) :
    Calls Tryz.prog 89 #[.agg #[.string nm, .int .i64 h, .int .i64 c, .int .i64 d, .int .i64 dh, .int .i64 dc, .int .i64 dd], .agg #[.int .i64 nh, .int .i64 nc, .int .i64 nd]] w fun e w' => e = .returned (.tuple #[.bool false, .agg #[.int .i64 0, .int .i64 0, .int .i64 0], .bool false]) ∧ Below w.heap.size w w' := by
  rcases three (tsB ⟨nm, h, c, d, dh, dc, dd⟩) (ckB nh nc nd) (bhB dh dc dd nh nc nd) with ⟨q1, hv⟩ | ⟨q1, q2, hv⟩ | ⟨q1, q2, q3, hv⟩ | ⟨q1, q2, q3, hv⟩
  all_goals try (exfalso; have hn' : (tsB ⟨nm, h, c, d, dh, dc, dd⟩ && ckB nh nc nd && bhB dh dc dd nh nc nd) = false := hn; rw [hv] at hn'; cases hn'; done)
  all_goals
    clear hv hn
    go_enter Tryz.func89, Tryz.ntmps89
    go_wp2_with fail
    obtain ⟨W, hW⟩ : ∃ W, W = ((w.alloc (Obj.cells #[.string nm, .int .i64 h, .int .i64 c, .int .i64 d, .int .i64 dh, .int .i64 dc, .int .i64 dd] 90)).alloc (Obj.cells #[.int .i64 nh, .int .i64 nc, .int .i64 nd] 35)).alloc (Obj.cells #[.int .i64 0, .int .i64 0, .int .i64 0] 35) := ⟨_, rfl⟩
    rw [← hW]
    have K0 : Hid (Blk W w.heap.size [.string nm, .int .i64 h, .int .i64 c, .int .i64 d, .int .i64 dh, .int .i64 dc, .int .i64 dd]) := hide (by rw [hW]; exact ((Blk.new _ _).alloc _).alloc _)
    have K1 : Hid (Blk W (w.heap.size + 1) [.int .i64 nh, .int .i64 nc, .int .i64 nd]) := hide (by
      rw [hW]
      have e : (w.alloc (Obj.cells #[.string nm, .int .i64 h, .int .i64 c, .int .i64 d, .int .i64 dh, .int .i64 dc, .int .i64 dd] 90)).heap.size = w.heap.size + 1 := by simp
      have k := (Blk.new (w := w.alloc (Obj.cells #[.string nm, .int .i64 h, .int .i64 c, .int .i64 d, .int .i64 dh, .int .i64 dc, .int .i64 dd] 90)) [.int .i64 nh, .int .i64 nc, .int .i64 nd] 35).alloc (Obj.cells #[.int .i64 0, .int .i64 0, .int .i64 0] 35)
      rw [e] at k
      exact k)
    have K2 : Hid (Blk W (w.heap.size + 2) [.int .i64 0, .int .i64 0, .int .i64 0]) := hide (by
      rw [hW]
      have e : ((w.alloc (Obj.cells #[.string nm, .int .i64 h, .int .i64 c, .int .i64 d, .int .i64 dh, .int .i64 dc, .int .i64 dd] 90)).alloc (Obj.cells #[.int .i64 nh, .int .i64 nc, .int .i64 nd] 35)).heap.size = w.heap.size + 2 := by simp
      have k := Blk.new (w := (w.alloc (Obj.cells #[.string nm, .int .i64 h, .int .i64 c, .int .i64 d, .int .i64 dh, .int .i64 dc, .int .i64 dd] 90)).alloc (Obj.cells #[.int .i64 nh, .int .i64 nc, .int .i64 nd] 35)) [.int .i64 0, .int .i64 0, .int .i64 0] 35
      rw [e] at k
      exact k)
    have B0 : Hid (Below w.heap.size w W) := hide (by rw [hW]; exact (by repeat (first | exact Below.refl _ _ | refine Below.alloc ?_ (by simp; try omega) _)))
    clear hW
    obtain ⟨ι, fW, _, hb, hall⟩ := belClass W
    have HB := hide hb
    have HA := hide hall
    have c00 : ∀ x, (fW x).cell? ⟨w.heap.size, 0, none⟩ = some (.string nm) := fun x => ((unhide K0).below (hb x)).c 0 (by simp)
    have c01 : ∀ x, (fW x).cell? ⟨w.heap.size, 1, none⟩ = some (.int .i64 h) := fun x => ((unhide K0).below (hb x)).c 1 (by simp)
    have c02 : ∀ x, (fW x).cell? ⟨w.heap.size, 2, none⟩ = some (.int .i64 c) := fun x => ((unhide K0).below (hb x)).c 2 (by simp)
    have c03 : ∀ x, (fW x).cell? ⟨w.heap.size, 3, none⟩ = some (.int .i64 d) := fun x => ((unhide K0).below (hb x)).c 3 (by simp)
    have c04 : ∀ x, (fW x).cell? ⟨w.heap.size, 4, none⟩ = some (.int .i64 dh) := fun x => ((unhide K0).below (hb x)).c 4 (by simp)
    have c05 : ∀ x, (fW x).cell? ⟨w.heap.size, 5, none⟩ = some (.int .i64 dc) := fun x => ((unhide K0).below (hb x)).c 5 (by simp)
    have c06 : ∀ x, (fW x).cell? ⟨w.heap.size, 6, none⟩ = some (.int .i64 dd) := fun x => ((unhide K0).below (hb x)).c 6 (by simp)
    have c10 : ∀ x, (fW x).cell? ⟨w.heap.size + 1, 0, none⟩ = some (.int .i64 nh) := fun x => ((unhide K1).below (hb x)).c 0 (by simp)
    have c11 : ∀ x, (fW x).cell? ⟨w.heap.size + 1, 1, none⟩ = some (.int .i64 nc) := fun x => ((unhide K1).below (hb x)).c 1 (by simp)
    have c12 : ∀ x, (fW x).cell? ⟨w.heap.size + 1, 2, none⟩ = some (.int .i64 nd) := fun x => ((unhide K1).below (hb x)).c 2 (by simp)
    have c20 : ∀ x, (fW x).cell? ⟨w.heap.size + 2, 0, none⟩ = some (.int .i64 0) := fun x => ((unhide K2).below (hb x)).c 0 (by simp)
    have f20 : ∀ x, (fW x).frozen? ⟨w.heap.size + 2, 0, none⟩ = false := fun x => ((unhide K2).below (hb x)).f 0 (by simp)
    have c21 : ∀ x, (fW x).cell? ⟨w.heap.size + 2, 1, none⟩ = some (.int .i64 0) := fun x => ((unhide K2).below (hb x)).c 1 (by simp)
    have f21 : ∀ x, (fW x).frozen? ⟨w.heap.size + 2, 1, none⟩ = false := fun x => ((unhide K2).below (hb x)).f 1 (by simp)
    have c22 : ∀ x, (fW x).cell? ⟨w.heap.size + 2, 2, none⟩ = some (.int .i64 0) := fun x => ((unhide K2).below (hb x)).c 2 (by simp)
    have f22 : ∀ x, (fW x).frozen? ⟨w.heap.size + 2, 2, none⟩ = false := fun x => ((unhide K2).below (hb x)).f 2 (by simp)
    clear hb hall
    obtain ⟨x0, h0⟩ := (unhide HA) W (Below.refl _ _)
    rw [h0]
    clear h0
    go_wp2_with (first | (go_at_call 67; refine (belQ (unhide HB) (unhide HA) (specTaskOk_is _ _ _ _ _ _ _ _ hs (by exact q1))).mono ?_; rintro e _ ⟨rfl, y, rfl⟩) | (go_at_call 65; refine (belQ (unhide HB) (unhide HA) (specClockOk_is _ _ _ _ (by exact q2))).mono ?_; rintro e _ ⟨rfl, y, rfl⟩) | (go_at_call 68; refine (belQ (unhide HB) (unhide HA) (specBehind_is _ _ _ _ _ _ _ (by exact q3))).mono ?_; rintro e _ ⟨rfl, y, rfl⟩))
    exact bodyPost_ret (results_BcellB (vs := [.int .i64 0, .int .i64 0, .int .i64 0]) rfl Tryz.isAgg35 Tryz.sizeOf35 rfl (((((unhide K2).below (unhide HB _)).set 0 (by simp) _).set 1 (by simp) _).set 2 (by simp) _) rfl rfl) rfl ⟨rfl, (((((unhide B0).trans ((unhide HB _).mono (unhide B0).size)).setCell (p := ⟨w.heap.size + 1 + 1, 0, none⟩) (by simp; try omega) _).setCell (p := ⟨w.heap.size + 1 + 1, 1, none⟩) (by simp; try omega) _).setCell (p := ⟨w.heap.size + 1 + 1, 2, none⟩) (by simp; try omega) _)⟩
set_option maxRecDepth 20000 in
set_option maxHeartbeats 8000000 in
theorem specDue19_yes (nm : ByteArray) (h c d dh dc dd nh nc nd : Int) (w : World) (hs : nm.size ≤ 9223372036854775807) (hn : d9B ⟨nm, h, c, d, dh, dc, dd⟩ nh nc nd = true) :
    Calls Tryz.prog 89 #[.agg #[.string nm, .int .i64 h, .int .i64 c, .int .i64 d, .int .i64 dh, .int .i64 dc, .int .i64 dd], .agg #[.int .i64 nh, .int .i64 nc, .int .i64 nd]] w fun e w' => e = .returned (.tuple #[.bool (d9D ⟨nm, h, c, d, dh, dc, dd⟩ nh nc nd), .agg #[.int .i64 (lfI h (nh - dh)), .int .i64 (lfI c (nc - dc)), .int .i64 (lfI d (nd - dd))], .bool true]) ∧ Below w.heap.size w w' := by
  have hn0 := hn
  have hn' : (tsB ⟨nm, h, c, d, dh, dc, dd⟩ && ckB nh nc nd && bhB dh dc dd nh nc nd) = true := hn
  simp only [Bool.and_eq_true] at hn'
  obtain ⟨⟨q1, q2⟩, q3⟩ := hn'
  obtain ⟨_, th, tc, td, tsum, tk⟩ := tsB_facts q1
  obtain ⟨nb1, nb2, nb3⟩ := ckB_facts q2
  obtain ⟨tb1, tb2, tb3⟩ := ckB_facts tk
  have q3' : (decide (dh ≤ nh) && decide (dc ≤ nc) && decide (dd ≤ nd)) = true := q3
  simp only [Bool.and_eq_true, decide_eq_true_eq] at q3'
  obtain ⟨⟨r1, r2⟩, r3⟩ := q3'
  clear hn tk
  simp only at th tc td tsum tb1 tb2 tb3
  have HD : Hid (d9D ⟨nm, h, c, d, dh, dc, dd⟩ nh nc nd = (decide (0 < h ∧ h ≤ nh - dh) || decide (0 < c ∧ c ≤ nc - dc) || decide (0 < d ∧ d ≤ nd - dd))) := hide (by rw [d9D, hn0]; rfl)
  go_enter Tryz.func89, Tryz.ntmps89
  go_wp2_with fail
  obtain ⟨W, hW⟩ : ∃ W, W = ((w.alloc (Obj.cells #[.string nm, .int .i64 h, .int .i64 c, .int .i64 d, .int .i64 dh, .int .i64 dc, .int .i64 dd] 90)).alloc (Obj.cells #[.int .i64 nh, .int .i64 nc, .int .i64 nd] 35)).alloc (Obj.cells #[.int .i64 0, .int .i64 0, .int .i64 0] 35) := ⟨_, rfl⟩
  rw [← hW]
  have K0 : Hid (Blk W w.heap.size [.string nm, .int .i64 h, .int .i64 c, .int .i64 d, .int .i64 dh, .int .i64 dc, .int .i64 dd]) := hide (by rw [hW]; exact ((Blk.new _ _).alloc _).alloc _)
  have K1 : Hid (Blk W (w.heap.size + 1) [.int .i64 nh, .int .i64 nc, .int .i64 nd]) := hide (by
    rw [hW]
    have e : (w.alloc (Obj.cells #[.string nm, .int .i64 h, .int .i64 c, .int .i64 d, .int .i64 dh, .int .i64 dc, .int .i64 dd] 90)).heap.size = w.heap.size + 1 := by simp
    have k := (Blk.new (w := w.alloc (Obj.cells #[.string nm, .int .i64 h, .int .i64 c, .int .i64 d, .int .i64 dh, .int .i64 dc, .int .i64 dd] 90)) [.int .i64 nh, .int .i64 nc, .int .i64 nd] 35).alloc (Obj.cells #[.int .i64 0, .int .i64 0, .int .i64 0] 35)
    rw [e] at k
    exact k)
  have K2 : Hid (Blk W (w.heap.size + 2) [.int .i64 0, .int .i64 0, .int .i64 0]) := hide (by
    rw [hW]
    have e : ((w.alloc (Obj.cells #[.string nm, .int .i64 h, .int .i64 c, .int .i64 d, .int .i64 dh, .int .i64 dc, .int .i64 dd] 90)).alloc (Obj.cells #[.int .i64 nh, .int .i64 nc, .int .i64 nd] 35)).heap.size = w.heap.size + 2 := by simp
    have k := Blk.new (w := (w.alloc (Obj.cells #[.string nm, .int .i64 h, .int .i64 c, .int .i64 d, .int .i64 dh, .int .i64 dc, .int .i64 dd] 90)).alloc (Obj.cells #[.int .i64 nh, .int .i64 nc, .int .i64 nd] 35)) [.int .i64 0, .int .i64 0, .int .i64 0] 35
    rw [e] at k
    exact k)
  have B0 : Hid (Below w.heap.size w W) := hide (by rw [hW]; exact (by repeat (first | exact Below.refl _ _ | refine Below.alloc ?_ (by simp; try omega) _)))
  clear hW
  obtain ⟨ι, fW, _, hb, hall⟩ := belClass W
  have HB := hide hb
  have HA := hide hall
  have c00 : ∀ x, (fW x).cell? ⟨w.heap.size, 0, none⟩ = some (.string nm) := fun x => ((unhide K0).below (hb x)).c 0 (by simp)
  have c01 : ∀ x, (fW x).cell? ⟨w.heap.size, 1, none⟩ = some (.int .i64 h) := fun x => ((unhide K0).below (hb x)).c 1 (by simp)
  have c02 : ∀ x, (fW x).cell? ⟨w.heap.size, 2, none⟩ = some (.int .i64 c) := fun x => ((unhide K0).below (hb x)).c 2 (by simp)
  have c03 : ∀ x, (fW x).cell? ⟨w.heap.size, 3, none⟩ = some (.int .i64 d) := fun x => ((unhide K0).below (hb x)).c 3 (by simp)
  have c04 : ∀ x, (fW x).cell? ⟨w.heap.size, 4, none⟩ = some (.int .i64 dh) := fun x => ((unhide K0).below (hb x)).c 4 (by simp)
  have c05 : ∀ x, (fW x).cell? ⟨w.heap.size, 5, none⟩ = some (.int .i64 dc) := fun x => ((unhide K0).below (hb x)).c 5 (by simp)
  have c06 : ∀ x, (fW x).cell? ⟨w.heap.size, 6, none⟩ = some (.int .i64 dd) := fun x => ((unhide K0).below (hb x)).c 6 (by simp)
  have c10 : ∀ x, (fW x).cell? ⟨w.heap.size + 1, 0, none⟩ = some (.int .i64 nh) := fun x => ((unhide K1).below (hb x)).c 0 (by simp)
  have c11 : ∀ x, (fW x).cell? ⟨w.heap.size + 1, 1, none⟩ = some (.int .i64 nc) := fun x => ((unhide K1).below (hb x)).c 1 (by simp)
  have c12 : ∀ x, (fW x).cell? ⟨w.heap.size + 1, 2, none⟩ = some (.int .i64 nd) := fun x => ((unhide K1).below (hb x)).c 2 (by simp)
  have c20 : ∀ x, (fW x).cell? ⟨w.heap.size + 2, 0, none⟩ = some (.int .i64 0) := fun x => ((unhide K2).below (hb x)).c 0 (by simp)
  have f20 : ∀ x, (fW x).frozen? ⟨w.heap.size + 2, 0, none⟩ = false := fun x => ((unhide K2).below (hb x)).f 0 (by simp)
  have c21 : ∀ x, (fW x).cell? ⟨w.heap.size + 2, 1, none⟩ = some (.int .i64 0) := fun x => ((unhide K2).below (hb x)).c 1 (by simp)
  have f21 : ∀ x, (fW x).frozen? ⟨w.heap.size + 2, 1, none⟩ = false := fun x => ((unhide K2).below (hb x)).f 1 (by simp)
  have c22 : ∀ x, (fW x).cell? ⟨w.heap.size + 2, 2, none⟩ = some (.int .i64 0) := fun x => ((unhide K2).below (hb x)).c 2 (by simp)
  have f22 : ∀ x, (fW x).frozen? ⟨w.heap.size + 2, 2, none⟩ = false := fun x => ((unhide K2).below (hb x)).f 2 (by simp)
  clear hb hall
  obtain ⟨x0, h0⟩ := (unhide HA) W (Below.refl _ _)
  rw [h0]
  clear h0
  go_wp2_with (first | (go_at_call 67; refine (belQ (unhide HB) (unhide HA) (specTaskOk_is _ _ _ _ _ _ _ _ hs (by exact q1))).mono ?_; rintro e _ ⟨rfl, y, rfl⟩) | (go_at_call 65; refine (belQ (unhide HB) (unhide HA) (specClockOk_is _ _ _ _ (by exact q2))).mono ?_; rintro e _ ⟨rfl, y, rfl⟩) | (go_at_call 68; refine (belQ (unhide HB) (unhide HA) (specBehind_is _ _ _ _ _ _ _ (by exact q3))).mono ?_; rintro e _ ⟨rfl, y, rfl⟩))
  refine wp_region_bel (fun w' h => (unhide HA) w' ((unhide HB _).trans (h.mono (unhide HB _).size))) (by kernel_rfl) (by kernel_rfl) ?_
  (repeat (go_big_quiet_step (fail)))
  refine wpQuiet_nil ?_
  rintro _ ⟨y, rfl⟩
  go_upto_region 4 with fail
  go_cut [10] from 45 to 75 (fun s wc => s = .bool (d9D ⟨nm, h, c, d, dh, dc, dd⟩ nh nc nd) ∧ wc = fW y)
  case first =>
    have u0 : (0 < h ∧ h ≤ nh - dh) ∨ ¬ 0 < h ∨ (0 < h ∧ ¬ h ≤ nh - dh) := by omega
    have u1 : (0 < c ∧ c ≤ nc - dc) ∨ ¬ 0 < c ∨ (0 < c ∧ ¬ c ≤ nc - dc) := by omega
    have u2 : (0 < d ∧ d ≤ nd - dd) ∨ ¬ 0 < d ∨ (0 < d ∧ ¬ d ≤ nd - dd) := by omega
    rcases u0 with ⟨p1, p2⟩ | p1 | ⟨p1, p2⟩
    all_goals rcases u1 with ⟨p3, p4⟩ | p3 | ⟨p3, p4⟩
    all_goals rcases u2 with ⟨p5, p6⟩ | p5 | ⟨p5, p6⟩
    all_goals (first | (exfalso; omega) | skip)
    all_goals (
      go_wp2_with fail
      go_meet
      case rel => exact ⟨congrArg Value.bool (by rw [unhide HD]; symm; simp only [Bool.or_eq_true, Bool.or_eq_false_iff, decide_eq_true_eq, decide_eq_false_iff_not]; omega), rfl⟩)
  case rest =>
    obtain ⟨rfl, rfl⟩ := hcut
    have k1 := c01 y
    have k2 := c02 y
    have k3 := c03 y
    have m0 := c20 y
    have m1 := c21 y
    have m2 := c22 y
    have g0 := f20 y
    have g1 := f21 y
    have g2 := f22 y
    clear c00 c01 c02 c03 c04 c05 c06 c10 c11 c12 c20 c21 c22 f20 f21 f22
    go_wp2_with fail
    go_region_held3 (fun w' => w'.cell? ⟨w.heap.size, 1, none⟩ = some (.int .i64 h) ∧ w'.cell? ⟨w.heap.size, 2, none⟩ = some (.int .i64 c) ∧ w'.cell? ⟨w.heap.size, 3, none⟩ = some (.int .i64 d)) (refine ⟨?_, ?_, ?_⟩ <;> (repeat (first | assumption | (refine (d9_dr _ _).trans ?_) | (refine (World.cell?_setCell_other _ _ _ _ (by simp; try omega)).trans ?_))))
      ((first | (go_at_call 117; refine (specLeft_is _ _ _ (by omega) (by omega) rfl).mono ?_; rintro e w' ⟨rfl, hw⟩; subst w')))
    go_wp2_with fail
    refine bodyPost_ret (results_BcellB (vs := [.int .i64 (lfI h (nh - dh)), .int .i64 (lfI c (nc - dc)), .int .i64 (lfI d (nd - dd))]) rfl Tryz.isAgg35 Tryz.sizeOf35 rfl (((((((unhide K2).below (unhide HB _)).set 0 (by simp) _).set 1 (by simp) _).set 2 (by simp) _)).below (d9_bd _)) rfl rfl) rfl ⟨rfl, d9_bel (((((unhide B0).trans ((unhide HB _).mono (unhide B0).size)).setCell (p := ⟨w.heap.size + 1 + 1, 0, none⟩) (by simp; try omega) _).setCell (p := ⟨w.heap.size + 1 + 1, 1, none⟩) (by simp; try omega) _).setCell (p := ⟨w.heap.size + 1 + 1, 2, none⟩) (by simp; try omega) _)⟩

end Go.Proofs.YticdccdkjepifaaGreat
