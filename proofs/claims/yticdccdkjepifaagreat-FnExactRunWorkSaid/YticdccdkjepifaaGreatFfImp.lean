/-
  What the program's taskIsSo, defectIsSo and FleetOk answer: plain answers, at every fleet; nothing that was there is written.
-/
import Derived.Test.YticdccdkjepifaaGreatMLoCr
import Derived.Test.YticdccdkjepifaaGreatMCkTsk
import Derived.Test.YticdccdkjepifaaGreatMFlIn
namespace Go.Proofs.YticdccdkjepifaaGreat
open Go Go.RowKit

set_option maxRecDepth 20000 in
set_option maxHeartbeats 1000000 in
theorem tkSo_any (nh nc nd : Int) (a1 a2 a3 : Option Addr) (l1 c1 l2 c2 l3 c3 : Nat) (x : Ts) (w : World) (hs : fitT x.nm) :
    Calls Tryz.prog 77 #[.agg #[.slice a1 l1 c1, .slice a2 l2 c2, .slice a3 l3 c3, .int .i64 nh, .int .i64 nc, .int .i64 nd], .agg #[.string x.nm, .int .i64 x.h, .int .i64 x.c, .int .i64 x.d, .int .i64 x.dh, .int .i64 x.dc, .int .i64 x.dd]] w fun e w' => e = .returned (.bool (tkB nh nc nd x)) ∧ Below w.heap.size w w' := by
  rcases two (tsB x) (bhB x.dh x.dc x.dd nh nc nd) with ⟨q1, hv⟩ | ⟨q1, q2, hv⟩ | ⟨q1, q2, hv⟩
  all_goals
    have HE := hide (show tkB nh nc nd x = _ from hv)
    rw [unhide HE]
    clear hv
    go_enter Tryz.func77, Tryz.ntmps77
    go_wp2_with fail
    obtain ⟨W, hW⟩ : ∃ W, W = (w.alloc (Obj.cells #[.slice a1 l1 c1, .slice a2 l2 c2, .slice a3 l3 c3, .int .i64 nh, .int .i64 nc, .int .i64 nd] 37)).alloc (Obj.cells #[.string x.nm, .int .i64 x.h, .int .i64 x.c, .int .i64 x.d, .int .i64 x.dh, .int .i64 x.dc, .int .i64 x.dd] 90) := ⟨_, rfl⟩
    rw [← hW]
    have K0 : Hid (Blk W (w.heap.size) [.slice a1 l1 c1, .slice a2 l2 c2, .slice a3 l3 c3, .int .i64 nh, .int .i64 nc, .int .i64 nd]) := hide (by rw [hW]; exact blkAt2_0)
    have K1 : Hid (Blk W (w.heap.size + 1) [.string x.nm, .int .i64 x.h, .int .i64 x.c, .int .i64 x.d, .int .i64 x.dh, .int .i64 x.dc, .int .i64 x.dd]) := hide (by rw [hW]; exact blkAt2_1)
    have B0 : Hid (Below w.heap.size w W) := hide (by rw [hW]; exact bel2 _ _)
    clear hW
    obtain ⟨ι, fW, _, hb, hall⟩ := belClass W
    have HB := hide hb
    have HA := hide hall
    have c00 : ∀ x, (fW x).cell? ⟨w.heap.size, 0, none⟩ = some (.slice a1 l1 c1) := fun x => ((unhide K0).below (hb x)).c 0 (by simp)
    have c01 : ∀ x, (fW x).cell? ⟨w.heap.size, 1, none⟩ = some (.slice a2 l2 c2) := fun x => ((unhide K0).below (hb x)).c 1 (by simp)
    have c02 : ∀ x, (fW x).cell? ⟨w.heap.size, 2, none⟩ = some (.slice a3 l3 c3) := fun x => ((unhide K0).below (hb x)).c 2 (by simp)
    have c03 : ∀ x, (fW x).cell? ⟨w.heap.size, 3, none⟩ = some (.int .i64 nh) := fun x => ((unhide K0).below (hb x)).c 3 (by simp)
    have c04 : ∀ x, (fW x).cell? ⟨w.heap.size, 4, none⟩ = some (.int .i64 nc) := fun x => ((unhide K0).below (hb x)).c 4 (by simp)
    have c05 : ∀ x, (fW x).cell? ⟨w.heap.size, 5, none⟩ = some (.int .i64 nd) := fun x => ((unhide K0).below (hb x)).c 5 (by simp)
    have c10 : ∀ z, (fW z).cell? ⟨w.heap.size + 1, 0, none⟩ = some (.string x.nm) := fun z => ((unhide K1).below (hb z)).c 0 (by simp)
    have c11 : ∀ z, (fW z).cell? ⟨w.heap.size + 1, 1, none⟩ = some (.int .i64 x.h) := fun z => ((unhide K1).below (hb z)).c 1 (by simp)
    have c12 : ∀ z, (fW z).cell? ⟨w.heap.size + 1, 2, none⟩ = some (.int .i64 x.c) := fun z => ((unhide K1).below (hb z)).c 2 (by simp)
    have c13 : ∀ z, (fW z).cell? ⟨w.heap.size + 1, 3, none⟩ = some (.int .i64 x.d) := fun z => ((unhide K1).below (hb z)).c 3 (by simp)
    have c14 : ∀ z, (fW z).cell? ⟨w.heap.size + 1, 4, none⟩ = some (.int .i64 x.dh) := fun z => ((unhide K1).below (hb z)).c 4 (by simp)
    have c15 : ∀ z, (fW z).cell? ⟨w.heap.size + 1, 5, none⟩ = some (.int .i64 x.dc) := fun z => ((unhide K1).below (hb z)).c 5 (by simp)
    have c16 : ∀ z, (fW z).cell? ⟨w.heap.size + 1, 6, none⟩ = some (.int .i64 x.dd) := fun z => ((unhide K1).below (hb z)).c 6 (by simp)
    clear hb hall
    obtain ⟨x0, h0⟩ := (unhide HA) W (Below.refl _ _)
    rw [h0]
    clear h0
    go_wp2_with (first | (go_at_call 106; refine (belQ (unhide HB) (unhide HA) (implTaskOk_is _ _ _ _ _ _ _ _ hs (by exact q1))).mono ?_; rintro e _ ⟨rfl, y, rfl⟩) | (go_at_call 107; refine (belQ (unhide HB) (unhide HA) (isBeyond_is _ _ _ _ _ _ _ (by exact q2))).mono ?_; rintro e _ ⟨rfl, y, rfl⟩))
    go_ret
    exact ⟨rfl, (unhide B0).trans ((unhide HB _).mono (unhide B0).size)⟩
set_option maxRecDepth 20000 in
set_option maxHeartbeats 1000000 in
theorem dkSo_any (nh nc nd : Int) (a1 a2 a3 : Option Addr) (l1 c1 l2 c2 l3 c3 : Nat) (x : Df) (w : World) (hs : fitT x.n) :
    Calls Tryz.prog 80 #[.agg #[.slice a1 l1 c1, .slice a2 l2 c2, .slice a3 l3 c3, .int .i64 nh, .int .i64 nc, .int .i64 nd], .agg #[.string x.n, .int .i64 x.i, .int .i64 x.s]] w fun e w' => e = .returned (.bool (dkB nd x)) ∧ Below w.heap.size w w' := by
  rcases three (nameB x.n) (inB x.i 1 1000000) (inB x.s 0 nd) with ⟨q1, hv⟩ | ⟨q1, q2, hv⟩ | ⟨q1, q2, q3, hv⟩ | ⟨q1, q2, q3, hv⟩
  all_goals
    have HE := hide (show dkB nd x = _ from hv)
    rw [unhide HE]
    clear hv
    have CN : Hid (∀ W, Calls Tryz.prog 109 #[.string x.n] W fun e w' => e = .returned (.bool _) ∧ w' = W) := hide (fun W => by have := nameOk_any x.n W hs; rw [q1] at this; exact this)
    go_enter Tryz.func80, Tryz.ntmps80
    go_wp2_with fail
    obtain ⟨W, hW⟩ : ∃ W, W = (w.alloc (Obj.cells #[.slice a1 l1 c1, .slice a2 l2 c2, .slice a3 l3 c3, .int .i64 nh, .int .i64 nc, .int .i64 nd] 37)).alloc (Obj.cells #[.string x.n, .int .i64 x.i, .int .i64 x.s] 94) := ⟨_, rfl⟩
    rw [← hW]
    have K0 : Hid (Blk W (w.heap.size) [.slice a1 l1 c1, .slice a2 l2 c2, .slice a3 l3 c3, .int .i64 nh, .int .i64 nc, .int .i64 nd]) := hide (by rw [hW]; exact blkAt2_0)
    have K1 : Hid (Blk W (w.heap.size + 1) [.string x.n, .int .i64 x.i, .int .i64 x.s]) := hide (by rw [hW]; exact blkAt2_1)
    have B0 : Hid (Below w.heap.size w W) := hide (by rw [hW]; exact bel2 _ _)
    clear hW
    obtain ⟨ι, fW, _, hb, hall⟩ := belClass W
    have HB := hide hb
    have HA := hide hall
    have c00 : ∀ x, (fW x).cell? ⟨w.heap.size, 0, none⟩ = some (.slice a1 l1 c1) := fun x => ((unhide K0).below (hb x)).c 0 (by simp)
    have c01 : ∀ x, (fW x).cell? ⟨w.heap.size, 1, none⟩ = some (.slice a2 l2 c2) := fun x => ((unhide K0).below (hb x)).c 1 (by simp)
    have c02 : ∀ x, (fW x).cell? ⟨w.heap.size, 2, none⟩ = some (.slice a3 l3 c3) := fun x => ((unhide K0).below (hb x)).c 2 (by simp)
    have c03 : ∀ x, (fW x).cell? ⟨w.heap.size, 3, none⟩ = some (.int .i64 nh) := fun x => ((unhide K0).below (hb x)).c 3 (by simp)
    have c04 : ∀ x, (fW x).cell? ⟨w.heap.size, 4, none⟩ = some (.int .i64 nc) := fun x => ((unhide K0).below (hb x)).c 4 (by simp)
    have c05 : ∀ x, (fW x).cell? ⟨w.heap.size, 5, none⟩ = some (.int .i64 nd) := fun x => ((unhide K0).below (hb x)).c 5 (by simp)
    have c10 : ∀ z, (fW z).cell? ⟨w.heap.size + 1, 0, none⟩ = some (.string x.n) := fun z => ((unhide K1).below (hb z)).c 0 (by simp)
    have c11 : ∀ z, (fW z).cell? ⟨w.heap.size + 1, 1, none⟩ = some (.int .i64 x.i) := fun z => ((unhide K1).below (hb z)).c 1 (by simp)
    have c12 : ∀ z, (fW z).cell? ⟨w.heap.size + 1, 2, none⟩ = some (.int .i64 x.s) := fun z => ((unhide K1).below (hb z)).c 2 (by simp)
    clear hb hall
    obtain ⟨x0, h0⟩ := (unhide HA) W (Below.refl _ _)
    rw [h0]
    clear h0
    go_wp2_with (first | (go_at_call 109; refine (belS (unhide CN _)).mono ?_; rintro e _ ⟨rfl, y, rfl⟩) | (go_at_call 60; refine (belS (within_is _ _ _ _ (by first | exact q2 | exact q3))).mono ?_; rintro e _ ⟨rfl, y, rfl⟩))
    go_ret
    exact ⟨rfl, (unhide B0).trans ((unhide HB _).mono (unhide B0).size)⟩
set_option maxRecDepth 20000 in
set_option maxHeartbeats 2000000 in
theorem implFleetOk_any (nh nc nd : Int) (a1 a2 a3 : Option Addr) (l1 c1 l2 c2 l3 c3 : Nat) (ts : List Ts) (cs : List Cr) (ds : List Df) (w : World) (hr : FlIn w a1 a2 a3 l1 l2 l3 ts cs ds) (ft : ∀ i, fitT (elAt ts i).nm) (fc : ∀ i, fitT (elAt cs i).n) (fd : ∀ i, fitT (elAt ds i).n) :
    Calls Tryz.prog 55 #[.agg #[.slice a1 l1 c1, .slice a2 l2 c2, .slice a3 l3 c3, .int .i64 nh, .int .i64 nc, .int .i64 nd]] w fun e w' => e = .returned (.bool (flB ⟨ts, cs, ds, nh, nc, nd⟩)) ∧ Below w.heap.size w w' := by
  have CC : Hid (∀ V, Below w.heap.size w V → Calls Tryz.prog 75 #[.slice a2 l2 c2] V fun e w' => e = .returned (.bool (caB cs)) ∧ Below V.heap.size V w') := hide (fun V b => implCarryOk_any a2 _ c2 cs V (hr.r2.below b) fc)
  have CT : Hid (∀ V, Below w.heap.size w V → Calls Tryz.prog 76 #[.slice a1 l1 c1, .int .i64 40, .func (.func 77) #[.agg #[.slice a1 l1 c1, .slice a2 l2 c2, .slice a3 l3 c3, .int .i64 nh, .int .i64 nc, .int .i64 nd]] #[], .func (.func 78) #[] #[]] V fun e w' => e = .returned (.bool (listS 40 (tkB nh nc nd) (·.nm) ts)) ∧ Below V.heap.size V w') := hide (fun V b => listOkTs_any (tkB nh nc nd) _ 40 a1 l1 c1 ts V (by omega) (hr.r1.below b) ft (fun x U hx _ => tkSo_any nh nc nd a1 a2 a3 l1 c1 l2 c2 l3 c3 x U hx))
  have CD : Hid (∀ V, Below w.heap.size w V → Calls Tryz.prog 79 #[.slice a3 l3 c3, .int .i64 20, .func (.func 80) #[.agg #[.slice a1 l1 c1, .slice a2 l2 c2, .slice a3 l3 c3, .int .i64 nh, .int .i64 nc, .int .i64 nd]] #[], .func (.func 81) #[] #[]] V fun e w' => e = .returned (.bool (listI 20 (dkB nd) (·.i) ds)) ∧ Below V.heap.size V w') := hide (fun V b => listOkDf_any (dkB nd) _ 20 a3 l3 c3 ds V (by omega) (hr.r3.below b) fd (fun x U hx _ => dkSo_any nh nc nd a1 a2 a3 l1 c1 l2 c2 l3 c3 x U hx) (fun x hx => by
    have h2 : (nameB x.n && inB x.i 1 1000000 && inB x.s 0 nd) = true := hx
    simp only [Bool.and_eq_true] at h2
    have h3 : 1 ≤ x.i ∧ x.i ≤ 1000000 := of_decide_eq_true h2.1.2
    omega))
  obtain ⟨W, hW⟩ : ∃ W, W = w.alloc (Obj.cells #[.slice a1 l1 c1, .slice a2 l2 c2, .slice a3 l3 c3, .int .i64 nh, .int .i64 nc, .int .i64 nd] 37) := ⟨_, rfl⟩
  have KB0 : Hid (Blk W w.heap.size [.slice a1 l1 c1, .slice a2 l2 c2, .slice a3 l3 c3, .int .i64 nh, .int .i64 nc, .int .i64 nd]) := hide (by rw [hW]; exact Blk.new _ _)
  have BW0 : Hid (Below w.heap.size w W) := hide (by rw [hW]; exact bel1 _)
  have HW := hide hW
  clear hW hr ft fc fd
  obtain ⟨q, hq⟩ : ∃ q, q = flB ⟨ts, cs, ds, nh, nc, nd⟩ := ⟨_, rfl⟩
  have hq' : q = (ckB nh nc nd && caB cs && listS 40 (tkB nh nc nd) (·.nm) ts && listI 20 (dkB nd) (·.i) ds) := hq
  rw [← hq]
  clear hq
  obtain ⟨qa, ha⟩ : ∃ q, caB cs = q := ⟨_, rfl⟩
  obtain ⟨qb, hb'⟩ : ∃ q, listS 40 (tkB nh nc nd) (·.nm) ts = q := ⟨_, rfl⟩
  obtain ⟨qc, hc⟩ : ∃ q, listI 20 (dkB nd) (·.i) ds = q := ⟨_, rfl⟩
  rw [ha] at CC hq'
  rw [hb'] at CT hq'
  rw [hc] at CD hq'
  clear ha hb' hc
  rcases four (ckB nh nc nd) qa qb qc with ⟨q1, hv⟩ | ⟨q1, q2, hv⟩ | ⟨q1, q2, q3, hv⟩ | ⟨q1, q2, q3, q4, hv⟩ | ⟨q1, q2, q3, q4, hv⟩
  all_goals
    rw [hv] at hq'
    try subst q2
    try subst q3
    try subst q4
    subst hq'
    clear hv
    go_enter Tryz.func55, Tryz.ntmps55
    go_wp2_with fail
    rw [← unhide HW]
    clear HW
    obtain ⟨ι, fW, _, hb, hall⟩ := belClass W
    have HB := hide hb
    have HA := hide hall
    have c00 : ∀ x, (fW x).cell? ⟨w.heap.size, 0, none⟩ = some (.slice a1 l1 c1) := fun x => ((unhide KB0).below (hb x)).c 0 (by simp)
    have c01 : ∀ x, (fW x).cell? ⟨w.heap.size, 1, none⟩ = some (.slice a2 l2 c2) := fun x => ((unhide KB0).below (hb x)).c 1 (by simp)
    have c02 : ∀ x, (fW x).cell? ⟨w.heap.size, 2, none⟩ = some (.slice a3 l3 c3) := fun x => ((unhide KB0).below (hb x)).c 2 (by simp)
    have c03 : ∀ x, (fW x).cell? ⟨w.heap.size, 3, none⟩ = some (.int .i64 nh) := fun x => ((unhide KB0).below (hb x)).c 3 (by simp)
    have c04 : ∀ x, (fW x).cell? ⟨w.heap.size, 4, none⟩ = some (.int .i64 nc) := fun x => ((unhide KB0).below (hb x)).c 4 (by simp)
    have c05 : ∀ x, (fW x).cell? ⟨w.heap.size, 5, none⟩ = some (.int .i64 nd) := fun x => ((unhide KB0).below (hb x)).c 5 (by simp)
    clear hb hall
    obtain ⟨x0, h0⟩ := (unhide HA) W (Below.refl _ _)
    rw [h0]
    clear h0
    go_wp2_with (first | (go_at_call 74; refine (belQ (unhide HB) (unhide HA) (implClockOk_is _ _ _ _ (by exact q1))).mono ?_; rintro e _ ⟨rfl, y, rfl⟩) | (go_at_call 75; refine (belQ (unhide HB) (unhide HA) (unhide CC _ ((unhide BW0).trans ((unhide HB _).mono (unhide BW0).size)))).mono ?_; rintro e _ ⟨rfl, y, rfl⟩) | (go_at_call 76; refine (belQ (unhide HB) (unhide HA) (unhide CT _ ((unhide BW0).trans ((unhide HB _).mono (unhide BW0).size)))).mono ?_; rintro e _ ⟨rfl, y, rfl⟩) | (go_at_call 79; refine (belQ (unhide HB) (unhide HA) (unhide CD _ ((unhide BW0).trans ((unhide HB _).mono (unhide BW0).size)))).mono ?_; rintro e _ ⟨rfl, y, rfl⟩))
    go_ret
    exact ⟨rfl, (unhide BW0).trans ((unhide HB _).mono (unhide BW0).size)⟩

end Go.Proofs.YticdccdkjepifaaGreat
