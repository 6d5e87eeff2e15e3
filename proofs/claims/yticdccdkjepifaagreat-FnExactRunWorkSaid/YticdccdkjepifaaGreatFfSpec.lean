/-
  What the model's FleetOk answers: the plain answer, at every fleet; nothing that was there is written.
-/
import Derived.Test.YticdccdkjepifaaGreatMAscS
import Derived.Test.YticdccdkjepifaaGreatMMinMax
import Derived.Test.YticdccdkjepifaaGreatMFlIn
namespace Go.Proofs.YticdccdkjepifaaGreat
open Go Go.RowKit

theorem flB_t {ts : List Ts} {cs : List Cr} {ds : List Df} {nh nc nd : Int} (h : listS 40 (tkB nh nc nd) (·.nm) ts = false) : flB ⟨ts, cs, ds, nh, nc, nd⟩ = false := by simp [flB, h]
theorem flB_d {ts : List Ts} {cs : List Cr} {ds : List Df} {nh nc nd : Int} (h : listI 20 (dkB nd) (·.i) ds = false) : flB ⟨ts, cs, ds, nh, nc, nd⟩ = false := by simp [flB, h]
theorem flB_y {ts : List Ts} {cs : List Cr} {ds : List Df} {nh nc nd : Int} (h1 : ckB nh nc nd = true) (h2 : caB cs = true) (h3 : listS 40 (tkB nh nc nd) (·.nm) ts = true) (h4 : listI 20 (dkB nd) (·.i) ds = true) : flB ⟨ts, cs, ds, nh, nc, nd⟩ = true := by simp [flB, h1, h2, h3, h4]
set_option maxRecDepth 20000 in
set_option maxHeartbeats 8000000 in
theorem specFleetOk_any (nh nc nd : Int) (a1 a2 a3 : Option Addr) (l1 c1 l2 c2 l3 c3 : Nat) (ts : List Ts) (cs : List Cr) (ds : List Df) (w : World) (hr : FlIn w a1 a2 a3 l1 l2 l3 ts cs ds) (ft : ∀ i, fitT (elAt ts i).nm) (fc : ∀ i, fitT (elAt cs i).n) (fd : ∀ i, fitT (elAt ds i).n) :
    Calls Tryz.prog 48 #[.agg #[.slice a1 l1 c1, .slice a2 l2 c2, .slice a3 l3 c3, .int .i64 nh, .int .i64 nc, .int .i64 nd]] w fun e w' => e = .returned (.bool (flB ⟨ts, cs, ds, nh, nc, nd⟩)) ∧ Below w.heap.size w w' := by
  have z1 := hr.r1.len_eq
  have z2 := hr.r2.len_eq
  have z3 := hr.r3.len_eq
  have s1 := hr.r1.small
  have s3 := hr.r3.small
  subst z1
  subst z2
  subst z3
  have HRts := hide hr.r1
  have HRcs := hide hr.r2
  have HRds := hide hr.r3
  have HFts := hide ft
  have HFcs := hide fc
  have HFds := hide fd
  clear hr ft fc fd
  obtain ⟨W, hW⟩ : ∃ W, W = w.alloc (Obj.cells #[.slice a1 ts.length c1, .slice a2 cs.length c2, .slice a3 ds.length c3, .int .i64 nh, .int .i64 nc, .int .i64 nd] 37) := ⟨_, rfl⟩
  have KB0 : Hid (Blk W w.heap.size [.slice a1 ts.length c1, .slice a2 cs.length c2, .slice a3 ds.length c3, .int .i64 nh, .int .i64 nc, .int .i64 nd]) := hide (by rw [hW]; exact Blk.new _ _)
  have BW0 : Hid (Below w.heap.size w W) := hide (by rw [hW]; exact bel1 _)
  have HW := hide hW
  clear hW
  have CC : Hid (∀ V, Below w.heap.size w V → Calls Tryz.prog 66 #[.slice a2 cs.length c2] V fun e w' => e = .returned (.bool (caB cs)) ∧ Below V.heap.size V w') := hide (fun V b => specCarryOk_any a2 _ c2 cs V ((unhide HRcs).below b) (unhide HFcs))
  rcases four (ckB nh nc nd) (caB cs) (decide (ts.length ≤ 40)) (decide (ds.length ≤ 20)) with ⟨q1, hv⟩ | ⟨q1, q2, hv⟩ | ⟨q1, q2, q3, hv⟩ | ⟨q1, q2, q3, q4, hv⟩ | ⟨q1, q2, q3, q4, hv⟩
  · clear hv
    have HE : Hid (flB ⟨ts, cs, ds, nh, nc, nd⟩ = false) := hide (by simp [flB, q1])
    go_enter Tryz.func48, Tryz.ntmps48
    go_wp2_with fail
    rw [← unhide HW]
    clear HW
    obtain ⟨ι, fW, _, hb, hall⟩ := belClass W
    have HB := hide hb
    have HA := hide hall
    have c00 : ∀ x, (fW x).cell? ⟨w.heap.size, 0, none⟩ = some (.slice a1 ts.length c1) := fun x => ((unhide KB0).below (hb x)).c 0 (by simp)
    have c01 : ∀ x, (fW x).cell? ⟨w.heap.size, 1, none⟩ = some (.slice a2 cs.length c2) := fun x => ((unhide KB0).below (hb x)).c 1 (by simp)
    have c02 : ∀ x, (fW x).cell? ⟨w.heap.size, 2, none⟩ = some (.slice a3 ds.length c3) := fun x => ((unhide KB0).below (hb x)).c 2 (by simp)
    have c03 : ∀ x, (fW x).cell? ⟨w.heap.size, 3, none⟩ = some (.int .i64 nh) := fun x => ((unhide KB0).below (hb x)).c 3 (by simp)
    have c04 : ∀ x, (fW x).cell? ⟨w.heap.size, 4, none⟩ = some (.int .i64 nc) := fun x => ((unhide KB0).below (hb x)).c 4 (by simp)
    have c05 : ∀ x, (fW x).cell? ⟨w.heap.size, 5, none⟩ = some (.int .i64 nd) := fun x => ((unhide KB0).below (hb x)).c 5 (by simp)
    clear hb hall
    obtain ⟨x0, h0⟩ := (unhide HA) W (Below.refl _ _)
    rw [h0]
    clear h0
    go_wp2_with (first | (go_at_call 65; refine (belQ (unhide HB) (unhide HA) (specClockOk_is _ _ _ _ (by exact q1))).mono ?_; rintro e _ ⟨rfl, y, rfl⟩))
    go_ret
    exact ⟨ret_bool (unhide HE).symm, (unhide BW0).trans ((unhide HB _).mono (unhide BW0).size)⟩
  · clear hv
    rw [q2] at CC
    have HE : Hid (flB ⟨ts, cs, ds, nh, nc, nd⟩ = false) := hide (by simp [flB, q2])
    go_enter Tryz.func48, Tryz.ntmps48
    go_wp2_with fail
    rw [← unhide HW]
    clear HW
    obtain ⟨ι, fW, _, hb, hall⟩ := belClass W
    have HB := hide hb
    have HA := hide hall
    have c00 : ∀ x, (fW x).cell? ⟨w.heap.size, 0, none⟩ = some (.slice a1 ts.length c1) := fun x => ((unhide KB0).below (hb x)).c 0 (by simp)
    have c01 : ∀ x, (fW x).cell? ⟨w.heap.size, 1, none⟩ = some (.slice a2 cs.length c2) := fun x => ((unhide KB0).below (hb x)).c 1 (by simp)
    have c02 : ∀ x, (fW x).cell? ⟨w.heap.size, 2, none⟩ = some (.slice a3 ds.length c3) := fun x => ((unhide KB0).below (hb x)).c 2 (by simp)
    have c03 : ∀ x, (fW x).cell? ⟨w.heap.size, 3, none⟩ = some (.int .i64 nh) := fun x => ((unhide KB0).below (hb x)).c 3 (by simp)
    have c04 : ∀ x, (fW x).cell? ⟨w.heap.size, 4, none⟩ = some (.int .i64 nc) := fun x => ((unhide KB0).below (hb x)).c 4 (by simp)
    have c05 : ∀ x, (fW x).cell? ⟨w.heap.size, 5, none⟩ = some (.int .i64 nd) := fun x => ((unhide KB0).below (hb x)).c 5 (by simp)
    clear hb hall
    obtain ⟨x0, h0⟩ := (unhide HA) W (Below.refl _ _)
    rw [h0]
    clear h0
    go_wp2_with (first | (go_at_call 65; refine (belQ (unhide HB) (unhide HA) (specClockOk_is _ _ _ _ (by exact q1))).mono ?_; rintro e _ ⟨rfl, y, rfl⟩) | (go_at_call 66; refine (belQ (unhide HB) (unhide HA) (unhide CC _ ((unhide BW0).trans ((unhide HB _).mono (unhide BW0).size)))).mono ?_; rintro e _ ⟨rfl, y, rfl⟩))
    go_ret
    exact ⟨ret_bool (unhide HE).symm, (unhide BW0).trans ((unhide HB _).mono (unhide BW0).size)⟩
  · clear hv
    have l3 : (40 : Int) < (ts.length : Int) := by have := of_decide_eq_false q3; omega
    rw [q2] at CC
    have HE : Hid (flB ⟨ts, cs, ds, nh, nc, nd⟩ = false) := hide (flB_t (listS_long (of_decide_eq_false q3)))
    go_enter Tryz.func48, Tryz.ntmps48
    go_wp2_with fail
    rw [← unhide HW]
    clear HW
    obtain ⟨ι, fW, _, hb, hall⟩ := belClass W
    have HB := hide hb
    have HA := hide hall
    have c00 : ∀ x, (fW x).cell? ⟨w.heap.size, 0, none⟩ = some (.slice a1 ts.length c1) := fun x => ((unhide KB0).below (hb x)).c 0 (by simp)
    have c01 : ∀ x, (fW x).cell? ⟨w.heap.size, 1, none⟩ = some (.slice a2 cs.length c2) := fun x => ((unhide KB0).below (hb x)).c 1 (by simp)
    have c02 : ∀ x, (fW x).cell? ⟨w.heap.size, 2, none⟩ = some (.slice a3 ds.length c3) := fun x => ((unhide KB0).below (hb x)).c 2 (by simp)
    have c03 : ∀ x, (fW x).cell? ⟨w.heap.size, 3, none⟩ = some (.int .i64 nh) := fun x => ((unhide KB0).below (hb x)).c 3 (by simp)
    have c04 : ∀ x, (fW x).cell? ⟨w.heap.size, 4, none⟩ = some (.int .i64 nc) := fun x => ((unhide KB0).below (hb x)).c 4 (by simp)
    have c05 : ∀ x, (fW x).cell? ⟨w.heap.size, 5, none⟩ = some (.int .i64 nd) := fun x => ((unhide KB0).below (hb x)).c 5 (by simp)
    clear hb hall
    obtain ⟨x0, h0⟩ := (unhide HA) W (Below.refl _ _)
    rw [h0]
    clear h0
    go_wp2_with (first | (go_at_call 65; refine (belQ (unhide HB) (unhide HA) (specClockOk_is _ _ _ _ (by exact q1))).mono ?_; rintro e _ ⟨rfl, y, rfl⟩) | (go_at_call 66; refine (belQ (unhide HB) (unhide HA) (unhide CC _ ((unhide BW0).trans ((unhide HB _).mono (unhide BW0).size)))).mono ?_; rintro e _ ⟨rfl, y, rfl⟩))
    go_ret
    exact ⟨ret_bool (unhide HE).symm, (unhide BW0).trans ((unhide HB _).mono (unhide BW0).size)⟩
  · clear hv
    have l3 : ¬ (40 : Int) < (ts.length : Int) := by have := of_decide_eq_true q3; omega
    have l4 : (20 : Int) < (ds.length : Int) := by have := of_decide_eq_false q4; omega
    rw [q2] at CC
    have HE : Hid (flB ⟨ts, cs, ds, nh, nc, nd⟩ = false) := hide (flB_d (listI_long (of_decide_eq_false q4)))
    go_enter Tryz.func48, Tryz.ntmps48
    go_wp2_with fail
    rw [← unhide HW]
    clear HW
    obtain ⟨ι, fW, _, hb, hall⟩ := belClass W
    have HB := hide hb
    have HA := hide hall
    have c00 : ∀ x, (fW x).cell? ⟨w.heap.size, 0, none⟩ = some (.slice a1 ts.length c1) := fun x => ((unhide KB0).below (hb x)).c 0 (by simp)
    have c01 : ∀ x, (fW x).cell? ⟨w.heap.size, 1, none⟩ = some (.slice a2 cs.length c2) := fun x => ((unhide KB0).below (hb x)).c 1 (by simp)
    have c02 : ∀ x, (fW x).cell? ⟨w.heap.size, 2, none⟩ = some (.slice a3 ds.length c3) := fun x => ((unhide KB0).below (hb x)).c 2 (by simp)
    have c03 : ∀ x, (fW x).cell? ⟨w.heap.size, 3, none⟩ = some (.int .i64 nh) := fun x => ((unhide KB0).below (hb x)).c 3 (by simp)
    have c04 : ∀ x, (fW x).cell? ⟨w.heap.size, 4, none⟩ = some (.int .i64 nc) := fun x => ((unhide KB0).below (hb x)).c 4 (by simp)
    have c05 : ∀ x, (fW x).cell? ⟨w.heap.size, 5, none⟩ = some (.int .i64 nd) := fun x => ((unhide KB0).below (hb x)).c 5 (by simp)
    clear hb hall
    obtain ⟨x0, h0⟩ := (unhide HA) W (Below.refl _ _)
    rw [h0]
    clear h0
    go_wp2_with (first | (go_at_call 65; refine (belQ (unhide HB) (unhide HA) (specClockOk_is _ _ _ _ (by exact q1))).mono ?_; rintro e _ ⟨rfl, y, rfl⟩) | (go_at_call 66; refine (belQ (unhide HB) (unhide HA) (unhide CC _ ((unhide BW0).trans ((unhide HB _).mono (unhide BW0).size)))).mono ?_; rintro e _ ⟨rfl, y, rfl⟩))
    go_ret
    exact ⟨ret_bool (unhide HE).symm, (unhide BW0).trans ((unhide HB _).mono (unhide BW0).size)⟩
  · clear hv
    have l3 : ¬ (40 : Int) < (ts.length : Int) := by have := of_decide_eq_true q3; omega
    have l4 : ¬ (20 : Int) < (ds.length : Int) := by have := of_decide_eq_true q4; omega
    have CC2 : Hid (∀ V, Below w.heap.size w V → Calls Tryz.prog 66 #[.slice a2 cs.length c2] V fun e w' => e = .returned (.bool true) ∧ Below V.heap.size V w') := hide (fun V b => by have := unhide CC V b; rw [q2] at this; exact this)
    go_enter Tryz.func48, Tryz.ntmps48
    go_wp2_with fail
    rw [← unhide HW]
    clear HW
    obtain ⟨ι, fW, _, hb, hall⟩ := belClass W
    have HB := hide hb
    have HA := hide hall
    have c00 : ∀ x, (fW x).cell? ⟨w.heap.size, 0, none⟩ = some (.slice a1 ts.length c1) := fun x => ((unhide KB0).below (hb x)).c 0 (by simp)
    have c01 : ∀ x, (fW x).cell? ⟨w.heap.size, 1, none⟩ = some (.slice a2 cs.length c2) := fun x => ((unhide KB0).below (hb x)).c 1 (by simp)
    have c02 : ∀ x, (fW x).cell? ⟨w.heap.size, 2, none⟩ = some (.slice a3 ds.length c3) := fun x => ((unhide KB0).below (hb x)).c 2 (by simp)
    have c03 : ∀ x, (fW x).cell? ⟨w.heap.size, 3, none⟩ = some (.int .i64 nh) := fun x => ((unhide KB0).below (hb x)).c 3 (by simp)
    have c04 : ∀ x, (fW x).cell? ⟨w.heap.size, 4, none⟩ = some (.int .i64 nc) := fun x => ((unhide KB0).below (hb x)).c 4 (by simp)
    have c05 : ∀ x, (fW x).cell? ⟨w.heap.size, 5, none⟩ = some (.int .i64 nd) := fun x => ((unhide KB0).below (hb x)).c 5 (by simp)
    clear hb hall
    obtain ⟨x0, h0⟩ := (unhide HA) W (Below.refl _ _)
    rw [h0]
    clear h0
    go_wp2_with (first | (go_at_call 65; refine (belQ (unhide HB) (unhide HA) (specClockOk_is _ _ _ _ (by exact q1))).mono ?_; rintro e _ ⟨rfl, y, rfl⟩) | (go_at_call 66; refine (belQ (unhide HB) (unhide HA) (unhide CC2 _ ((unhide BW0).trans ((unhide HB _).mono (unhide BW0).size)))).mono ?_; rintro e _ ⟨rfl, y, rfl⟩))
    clear c00 c01 c02 c03 c04 c05
    go_loopw [3] (fun i wr => ∃ k : Nat, i = .int .i64 k ∧ k ≤ ts.length ∧ Hid (Blk wr w.heap.size [.slice a1 ts.length c1, .slice a2 cs.length c2, .slice a3 ds.length c3, .int .i64 nh, .int .i64 nc, .int .i64 nd]) ∧ Hid (Below w.heap.size w wr) ∧ Hid (∀ j, j < k → (tkB nh nc nd) (elAt ts j) = true) ∧ Hid (∀ j, j + 1 < k → sLt (elAt ts j).nm (elAt ts (j + 1)).nm = true)) (fun i _ => ts.length - (intOf i).toNat)
    case atStart => exact ⟨0, rfl, Nat.zero_le _, hide ((unhide KB0).below (unhide HB _)), hide ((unhide BW0).trans ((unhide HB _).mono (unhide BW0).size)), hide (fun j hj => by omega), hide (fun j hj => by omega)⟩
    case round =>
      clear HA HB CC CC2 KB0 BW0
      obtain ⟨k, rfl, hk, KB, BW, A1, A2⟩ := hrel
      by_cases hlt : k < ts.length
      · have g1 : wr.cell? ⟨w.heap.size, 0, none⟩ = some (.slice a1 ts.length c1) := (unhide KB).c 0 (by simp)
        obtain ⟨bb, off, rfl, hc⟩ := ((unhide HRts).below (unhide BW)).at_ k hlt
        have s0 : wr.cell? ⟨bb, off + k * 7, none⟩ = some (.string (elAt ts k).nm) := hc 0 (by omega)
        have s1 : wr.cell? ⟨bb, off + k * 7 + 1, none⟩ = some (.int .i64 (elAt ts k).h) := hc 1 (by omega)
        have s2 : wr.cell? ⟨bb, off + k * 7 + 2, none⟩ = some (.int .i64 (elAt ts k).c) := hc 2 (by omega)
        have s3 : wr.cell? ⟨bb, off + k * 7 + 3, none⟩ = some (.int .i64 (elAt ts k).d) := hc 3 (by omega)
        have s4 : wr.cell? ⟨bb, off + k * 7 + 4, none⟩ = some (.int .i64 (elAt ts k).dh) := hc 4 (by omega)
        have s5 : wr.cell? ⟨bb, off + k * 7 + 5, none⟩ = some (.int .i64 (elAt ts k).dc) := hc 5 (by omega)
        have s6 : wr.cell? ⟨bb, off + k * 7 + 6, none⟩ = some (.int .i64 (elAt ts k).dd) := hc 6 (by omega)
        have hi1 : (k : Int) < (ts.length : Int) := by omega
        have hi0 : (0 : Int) ≤ (k : Int) := by omega
        have HFX := hide (unhide HFts k)
        obtain ⟨x, hx⟩ : ∃ x, elAt ts k = x := ⟨_, rfl⟩
        rw [hx] at s0 s1 s2 s3 s4 s5 s6 HFX
        have HX := hide hx
        clear hc hx
        go_wp2_with fail
        obtain ⟨V, hV⟩ : ∃ V, V = wr.alloc (Obj.cells #[.string x.nm, .int .i64 x.h, .int .i64 x.c, .int .i64 x.d, .int .i64 x.dh, .int .i64 x.dc, .int .i64 x.dd] 90) := ⟨_, rfl⟩
        have KV : Hid (Blk V wr.heap.size [.string x.nm, .int .i64 x.h, .int .i64 x.c, .int .i64 x.d, .int .i64 x.dh, .int .i64 x.dc, .int .i64 x.dd]) := hide (by rw [hV]; exact Blk.new _ _)
        have bV : Below wr.heap.size wr V := by rw [hV]; exact bel1 _
        rw [← hV]
        have BV := hide ((unhide BW).trans (bV.mono (unhide BW).size))
        have KBV := hide ((unhide KB).below bV)
        clear hV bV g1 s0 s1 s2 s3 s4 s5 s6
        obtain ⟨ι, f, _, hbf, hall⟩ := belClass V
        have HF := hide hbf
        have HAL := hide hall
        have HBF : Hid (∀ y, Below w.heap.size w (f y)) := hide (fun y => (unhide BV).trans ((hbf y).mono (unhide BV).size))
        have v0 : ∀ y, (f y).cell? ⟨wr.heap.size, 0, none⟩ = some (.string x.nm) := fun y => ((unhide KV).below (hbf y)).c 0 (by simp)
        have v1 : ∀ y, (f y).cell? ⟨wr.heap.size, 1, none⟩ = some (.int .i64 x.h) := fun y => ((unhide KV).below (hbf y)).c 1 (by simp)
        have v2 : ∀ y, (f y).cell? ⟨wr.heap.size, 2, none⟩ = some (.int .i64 x.c) := fun y => ((unhide KV).below (hbf y)).c 2 (by simp)
        have v3 : ∀ y, (f y).cell? ⟨wr.heap.size, 3, none⟩ = some (.int .i64 x.d) := fun y => ((unhide KV).below (hbf y)).c 3 (by simp)
        have v4 : ∀ y, (f y).cell? ⟨wr.heap.size, 4, none⟩ = some (.int .i64 x.dh) := fun y => ((unhide KV).below (hbf y)).c 4 (by simp)
        have v5 : ∀ y, (f y).cell? ⟨wr.heap.size, 5, none⟩ = some (.int .i64 x.dc) := fun y => ((unhide KV).below (hbf y)).c 5 (by simp)
        have v6 : ∀ y, (f y).cell? ⟨wr.heap.size, 6, none⟩ = some (.int .i64 x.dd) := fun y => ((unhide KV).below (hbf y)).c 6 (by simp)
        have b0 : ∀ y, (f y).cell? ⟨w.heap.size, 0, none⟩ = some (.slice (some ⟨bb, off, none⟩) ts.length c1) := fun y => ((unhide KBV).below (hbf y)).c 0 (by simp)
        have b1 : ∀ y, (f y).cell? ⟨w.heap.size, 1, none⟩ = some (.slice a2 cs.length c2) := fun y => ((unhide KBV).below (hbf y)).c 1 (by simp)
        have b2 : ∀ y, (f y).cell? ⟨w.heap.size, 2, none⟩ = some (.slice a3 ds.length c3) := fun y => ((unhide KBV).below (hbf y)).c 2 (by simp)
        have b3 : ∀ y, (f y).cell? ⟨w.heap.size, 3, none⟩ = some (.int .i64 nh) := fun y => ((unhide KBV).below (hbf y)).c 3 (by simp)
        have b4 : ∀ y, (f y).cell? ⟨w.heap.size, 4, none⟩ = some (.int .i64 nc) := fun y => ((unhide KBV).below (hbf y)).c 4 (by simp)
        have b5 : ∀ y, (f y).cell? ⟨w.heap.size, 5, none⟩ = some (.int .i64 nd) := fun y => ((unhide KBV).below (hbf y)).c 5 (by simp)
        have KBF : Hid (∀ y, Blk (f y) w.heap.size [.slice (some ⟨bb, off, none⟩) ts.length c1, .slice a2 cs.length c2, .slice a3 ds.length c3, .int .i64 nh, .int .i64 nc, .int .i64 nd]) := hide (fun y => (unhide KBV).below (hbf y))
        clear hbf hall
        obtain ⟨x0, hx0⟩ := (unhide HAL) V (Below.refl _ _)
        rw [hx0]
        clear hx0
        by_cases k0 : k = 0
        · have K00 := hide k0
          clear k0
          have dk : decide ((0 : Int) < (k : Int)) = false := by have := unhide K00; simp only [decide_eq_false_iff_not]; omega
          have dkn : decide (0 < k) = false := by have := unhide K00; simp only [decide_eq_false_iff_not]; omega
          rcases two (tsB x) (bhB x.dh x.dc x.dd nh nc nd) with ⟨q1, hv⟩ | ⟨q1, q2, hv⟩ | ⟨q1, q2, hv⟩
          · clear hv
            have HE : Hid (flB ⟨ts, cs, ds, nh, nc, nd⟩ = false) := hide (flB_t (listS_el hlt (by rw [unhide HX]; simp [tkB, q1])))
            refine wp_region_bel (fun w' h => (unhide HAL) w' ((unhide HF _).trans (h.mono (unhide HF _).size))) (by kernel_rfl) (by kernel_rfl) ?_
            (repeat (go_big_quiet_step (first | (go_at_call 67; exact belQ (unhide HF) (unhide HAL) (specTaskOk_is _ _ _ _ _ _ _ _ (unhide HFX) (by exact q1))))))
            refine wpQuiet_nil ?_
            rintro _ ⟨y, rfl⟩
            go_wp2_with fail
            go_ret
            exact ⟨ret_bool (unhide HE).symm, unhide HBF y⟩
          · clear hv
            have HE : Hid (flB ⟨ts, cs, ds, nh, nc, nd⟩ = false) := hide (flB_t (listS_el hlt (by rw [unhide HX]; simp [tkB, q2])))
            refine wp_region_bel (fun w' h => (unhide HAL) w' ((unhide HF _).trans (h.mono (unhide HF _).size))) (by kernel_rfl) (by kernel_rfl) ?_
            (repeat (go_big_quiet_step (first | (go_at_call 67; exact belQ (unhide HF) (unhide HAL) (specTaskOk_is _ _ _ _ _ _ _ _ (unhide HFX) (by exact q1))) | (go_at_call 68; exact belQ (unhide HF) (unhide HAL) (specBehind_is _ _ _ _ _ _ _ (by exact q2))))))
            refine wpQuiet_nil ?_
            rintro _ ⟨y, rfl⟩
            go_wp2_with fail
            go_ret
            exact ⟨ret_bool (unhide HE).symm, unhide HBF y⟩
          · clear hv
            have N1 : Hid (∀ j, j < k + 1 → (tkB nh nc nd) (elAt ts j) = true) := hide (fun j hj => by
              by_cases e3 : j = k
              · rw [e3, unhide HX]; simp [tkB, q1, q2]
              · exact (unhide A1) j (by omega))
            have N2 : Hid (∀ j, j + 1 < k + 1 → sLt (elAt ts j).nm (elAt ts (j + 1)).nm = true) := hide (fun j hj => by have := unhide K00; omega)
            clear A1 A2
            refine wp_region_bel (fun w' h => (unhide HAL) w' ((unhide HF _).trans (h.mono (unhide HF _).size))) (by kernel_rfl) (by kernel_rfl) ?_
            (repeat (go_big_quiet_step (first | (go_at_call 67; exact belQ (unhide HF) (unhide HAL) (specTaskOk_is _ _ _ _ _ _ _ _ (unhide HFX) (by exact q1))) | (go_at_call 68; exact belQ (unhide HF) (unhide HAL) (specBehind_is _ _ _ _ _ _ _ (by exact q2))))))
            refine wpQuiet_nil ?_
            rintro _ ⟨y, rfl⟩
            go_wp2_with fail
            have BY := hide (unhide HBF y)
            have KY := hide (unhide KBF y)
            go_roundw
            case rel => exact ⟨k + 1, by go_num, by omega, KY, BY, N1, N2⟩
            case measure => simp [intOf]; omega
        · obtain ⟨m, hm⟩ : ∃ m, m + 1 = k := ⟨k - 1, by omega⟩
          have dk : decide ((0 : Int) < (k : Int)) = true := by simp only [decide_eq_true_eq]; omega
          have dkn : decide (0 < k) = true := by simp only [decide_eq_true_eq]; omega
          have hsub : (k : Int) - 1 = (m : Int) := by omega
          have hwr : IntKind.i64.wrap (m : Int) = (m : Int) := by rw [IntKind.wrap_i64]; omega
          have hm1 : (m : Int) < (ts.length : Int) := by omega
          have hm0 : (0 : Int) ≤ (m : Int) := by omega
          obtain ⟨Z, hZ⟩ : ∃ z, (elAt ts m).nm = z := ⟨_, rfl⟩
          have m1 : ∀ y, (f y).cell? ⟨bb, off + m * 7, none⟩ = some (.string Z) := fun y => by
            obtain ⟨bb2, off2, ee, hc2⟩ := ((unhide HRts).below ((unhide HBF) y)).at_ m (by omega)
            simp only [Option.some.injEq, Addr.mk.injEq, and_true] at ee
            obtain ⟨rfl, rfl⟩ := ee
            rw [← hZ]
            exact hc2 0 (by omega)
          have HZ := hide hZ
          have HM := hide hm
          clear hZ hm k0
          rcases three (tsB x) (bhB x.dh x.dc x.dd nh nc nd) (Op.bytesLess Z.toList x.nm.toList) with ⟨q1, hv⟩ | ⟨q1, q2, hv⟩ | ⟨q1, q2, q3, hv⟩ | ⟨q1, q2, q3, hv⟩
          · clear hv
            have HE : Hid (flB ⟨ts, cs, ds, nh, nc, nd⟩ = false) := hide (flB_t (listS_el hlt (by rw [unhide HX]; simp [tkB, q1])))
            refine wp_region_bel (fun w' h => (unhide HAL) w' ((unhide HF _).trans (h.mono (unhide HF _).size))) (by kernel_rfl) (by kernel_rfl) ?_
            (repeat (go_big_quiet_step (first | (go_at_call 67; exact belQ (unhide HF) (unhide HAL) (specTaskOk_is _ _ _ _ _ _ _ _ (unhide HFX) (by exact q1))))))
            refine wpQuiet_nil ?_
            rintro _ ⟨y, rfl⟩
            go_wp2_with fail
            go_ret
            exact ⟨ret_bool (unhide HE).symm, unhide HBF y⟩
          · clear hv
            have HE : Hid (flB ⟨ts, cs, ds, nh, nc, nd⟩ = false) := hide (flB_t (listS_el hlt (by rw [unhide HX]; simp [tkB, q2])))
            refine wp_region_bel (fun w' h => (unhide HAL) w' ((unhide HF _).trans (h.mono (unhide HF _).size))) (by kernel_rfl) (by kernel_rfl) ?_
            (repeat (go_big_quiet_step (first | (go_at_call 67; exact belQ (unhide HF) (unhide HAL) (specTaskOk_is _ _ _ _ _ _ _ _ (unhide HFX) (by exact q1))) | (go_at_call 68; exact belQ (unhide HF) (unhide HAL) (specBehind_is _ _ _ _ _ _ _ (by exact q2))))))
            refine wpQuiet_nil ?_
            rintro _ ⟨y, rfl⟩
            go_wp2_with fail
            go_ret
            exact ⟨ret_bool (unhide HE).symm, unhide HBF y⟩
          · clear hv
            have HE : Hid (flB ⟨ts, cs, ds, nh, nc, nd⟩ = false) := hide (flB_t (listS_fall (i := m) (by have := unhide HM; omega) (by rw [unhide HZ, unhide HM, unhide HX]; exact q3)))
            refine wp_region_bel (fun w' h => (unhide HAL) w' ((unhide HF _).trans (h.mono (unhide HF _).size))) (by kernel_rfl) (by kernel_rfl) ?_
            (repeat (go_big_quiet_step (first | (go_at_call 67; exact belQ (unhide HF) (unhide HAL) (specTaskOk_is _ _ _ _ _ _ _ _ (unhide HFX) (by exact q1))) | (go_at_call 68; exact belQ (unhide HF) (unhide HAL) (specBehind_is _ _ _ _ _ _ _ (by exact q2))))))
            refine wpQuiet_nil ?_
            rintro _ ⟨y, rfl⟩
            go_wp2_with fail
            go_ret
            exact ⟨ret_bool (unhide HE).symm, unhide HBF y⟩
          · clear hv
            have N1 : Hid (∀ j, j < k + 1 → (tkB nh nc nd) (elAt ts j) = true) := hide (fun j hj => by
              by_cases e3 : j = k
              · rw [e3, unhide HX]; simp [tkB, q1, q2]
              · exact (unhide A1) j (by omega))
            have N2 : Hid (∀ j, j + 1 < k + 1 → sLt (elAt ts j).nm (elAt ts (j + 1)).nm = true) := hide (fun j hj => by
              have hm := unhide HM
              by_cases e3 : j = m
              · rw [e3, hm, unhide HX, unhide HZ]; exact q3
              · exact (unhide A2) j (by omega))
            clear A1 A2
            refine wp_region_bel (fun w' h => (unhide HAL) w' ((unhide HF _).trans (h.mono (unhide HF _).size))) (by kernel_rfl) (by kernel_rfl) ?_
            (repeat (go_big_quiet_step (first | (go_at_call 67; exact belQ (unhide HF) (unhide HAL) (specTaskOk_is _ _ _ _ _ _ _ _ (unhide HFX) (by exact q1))) | (go_at_call 68; exact belQ (unhide HF) (unhide HAL) (specBehind_is _ _ _ _ _ _ _ (by exact q2))))))
            refine wpQuiet_nil ?_
            rintro _ ⟨y, rfl⟩
            go_wp2_with fail
            have BY := hide (unhide HBF y)
            have KY := hide (unhide KBF y)
            go_roundw
            case rel => exact ⟨k + 1, by go_num, by omega, KY, BY, N1, N2⟩
            case measure => simp [intOf]; omega
      · have hi1 : ¬ (k : Int) < (ts.length : Int) := by omega
        have g1 : wr.cell? ⟨w.heap.size, 0, none⟩ = some (.slice a1 ts.length c1) := (unhide KB).c 0 (by simp)
        have g2 : wr.cell? ⟨w.heap.size, 2, none⟩ = some (.slice a3 ds.length c3) := (unhide KB).c 2 (by simp)
        have HT : Hid (listS 40 (tkB nh nc nd) (·.nm) ts = true) := hide (listS_yes (of_decide_eq_true q3) (fun i hi => unhide A1 i (by omega)) (fun i hi => unhide A2 i (by omega)))
        have KB2 := KB
        have BW2 := BW
        clear A1 A2 KB BW
        go_wp2_with fail
        go_loopw [5] (fun i wr => ∃ k : Nat, i = .int .i64 k ∧ k ≤ ds.length ∧ Hid (Blk wr w.heap.size [.slice a1 ts.length c1, .slice a2 cs.length c2, .slice a3 ds.length c3, .int .i64 nh, .int .i64 nc, .int .i64 nd]) ∧ Hid (Below w.heap.size w wr) ∧ Hid (∀ j, j < k → (dkB nd) (elAt ds j) = true) ∧ Hid (∀ j, j + 1 < k → (elAt ds j).i < (elAt ds (j + 1)).i)) (fun i _ => ds.length - (intOf i).toNat)
        case atStart => exact ⟨0, rfl, Nat.zero_le _, KB2, BW2, hide (fun j hj => by omega), hide (fun j hj => by omega)⟩
        case round =>
          clear KB2 BW2 g1 g2 hi1 hlt hk
          rename_i k1 _ _
          clear k1
          obtain ⟨k, rfl, hk, KB, BW, A1, A2⟩ := hrel
          by_cases hlt : k < ds.length
          · have g1 : wr.cell? ⟨w.heap.size, 2, none⟩ = some (.slice a3 ds.length c3) := (unhide KB).c 2 (by simp)
            obtain ⟨bb, off, rfl, hc⟩ := ((unhide HRds).below (unhide BW)).at_ k hlt
            have s0 : wr.cell? ⟨bb, off + k * 3, none⟩ = some (.string (elAt ds k).n) := hc 0 (by omega)
            have s1 : wr.cell? ⟨bb, off + k * 3 + 1, none⟩ = some (.int .i64 (elAt ds k).i) := hc 1 (by omega)
            have s2 : wr.cell? ⟨bb, off + k * 3 + 2, none⟩ = some (.int .i64 (elAt ds k).s) := hc 2 (by omega)
            have hi1 : (k : Int) < (ds.length : Int) := by omega
            have hi0 : (0 : Int) ≤ (k : Int) := by omega
            have HFX := hide (unhide HFds k)
            obtain ⟨x, hx⟩ : ∃ x, elAt ds k = x := ⟨_, rfl⟩
            rw [hx] at s0 s1 s2 HFX
            have HX := hide hx
            clear hc hx
            go_wp2_with fail
            obtain ⟨V, hV⟩ : ∃ V, V = wr.alloc (Obj.cells #[.string x.n, .int .i64 x.i, .int .i64 x.s] 94) := ⟨_, rfl⟩
            have KV : Hid (Blk V wr.heap.size [.string x.n, .int .i64 x.i, .int .i64 x.s]) := hide (by rw [hV]; exact Blk.new _ _)
            have bV : Below wr.heap.size wr V := by rw [hV]; exact bel1 _
            rw [← hV]
            have BV := hide ((unhide BW).trans (bV.mono (unhide BW).size))
            have KBV := hide ((unhide KB).below bV)
            clear hV bV g1 s0 s1 s2
            obtain ⟨ι, f, _, hbf, hall⟩ := belClass V
            have HF := hide hbf
            have HAL := hide hall
            have HBF : Hid (∀ y, Below w.heap.size w (f y)) := hide (fun y => (unhide BV).trans ((hbf y).mono (unhide BV).size))
            have v0 : ∀ y, (f y).cell? ⟨wr.heap.size, 0, none⟩ = some (.string x.n) := fun y => ((unhide KV).below (hbf y)).c 0 (by simp)
            have v1 : ∀ y, (f y).cell? ⟨wr.heap.size, 1, none⟩ = some (.int .i64 x.i) := fun y => ((unhide KV).below (hbf y)).c 1 (by simp)
            have v2 : ∀ y, (f y).cell? ⟨wr.heap.size, 2, none⟩ = some (.int .i64 x.s) := fun y => ((unhide KV).below (hbf y)).c 2 (by simp)
            have b0 : ∀ y, (f y).cell? ⟨w.heap.size, 0, none⟩ = some (.slice a1 ts.length c1) := fun y => ((unhide KBV).below (hbf y)).c 0 (by simp)
            have b1 : ∀ y, (f y).cell? ⟨w.heap.size, 1, none⟩ = some (.slice a2 cs.length c2) := fun y => ((unhide KBV).below (hbf y)).c 1 (by simp)
            have b2 : ∀ y, (f y).cell? ⟨w.heap.size, 2, none⟩ = some (.slice (some ⟨bb, off, none⟩) ds.length c3) := fun y => ((unhide KBV).below (hbf y)).c 2 (by simp)
            have b3 : ∀ y, (f y).cell? ⟨w.heap.size, 3, none⟩ = some (.int .i64 nh) := fun y => ((unhide KBV).below (hbf y)).c 3 (by simp)
            have b4 : ∀ y, (f y).cell? ⟨w.heap.size, 4, none⟩ = some (.int .i64 nc) := fun y => ((unhide KBV).below (hbf y)).c 4 (by simp)
            have b5 : ∀ y, (f y).cell? ⟨w.heap.size, 5, none⟩ = some (.int .i64 nd) := fun y => ((unhide KBV).below (hbf y)).c 5 (by simp)
            have KBF : Hid (∀ y, Blk (f y) w.heap.size [.slice a1 ts.length c1, .slice a2 cs.length c2, .slice (some ⟨bb, off, none⟩) ds.length c3, .int .i64 nh, .int .i64 nc, .int .i64 nd]) := hide (fun y => (unhide KBV).below (hbf y))
            clear hbf hall
            obtain ⟨x0, hx0⟩ := (unhide HAL) V (Below.refl _ _)
            rw [hx0]
            clear hx0
            by_cases k0 : k = 0
            · have K00 := hide k0
              clear k0
              have dk : decide ((0 : Int) < (k : Int)) = false := by have := unhide K00; simp only [decide_eq_false_iff_not]; omega
              have dkn : decide (0 < k) = false := by have := unhide K00; simp only [decide_eq_false_iff_not]; omega
              rcases three (nameB x.n) (inB x.i 1 1000000) (inB x.s 0 nd) with ⟨q1, hv⟩ | ⟨q1, q2, hv⟩ | ⟨q1, q2, q3, hv⟩ | ⟨q1, q2, q3, hv⟩
              · clear hv
                have HE : Hid (flB ⟨ts, cs, ds, nh, nc, nd⟩ = false) := hide (flB_d (listI_el hlt (by rw [unhide HX]; simp [dkB, q1])))
                have CN : Hid (∀ W, Calls Tryz.prog 69 #[.string x.n] W fun e w' => e = .returned (.bool false) ∧ w' = W) := hide (fun W => by have := l1Name_any x.n W (unhide HFX); rw [q1] at this; exact this)
                refine wp_region_bel (fun w' h => (unhide HAL) w' ((unhide HF _).trans (h.mono (unhide HF _).size))) (by kernel_rfl) (by kernel_rfl) ?_
                (repeat (go_big_quiet_step (first | (go_at_call 69; exact belS (unhide CN _)))))
                refine wpQuiet_nil ?_
                rintro _ ⟨y, rfl⟩
                go_wp2_with fail
                go_ret
                exact ⟨ret_bool (unhide HE).symm, unhide HBF y⟩
              · clear hv
                have HE : Hid (flB ⟨ts, cs, ds, nh, nc, nd⟩ = false) := hide (flB_d (listI_el hlt (by rw [unhide HX]; simp [dkB, q2])))
                have CN : Hid (∀ W, Calls Tryz.prog 69 #[.string x.n] W fun e w' => e = .returned (.bool true) ∧ w' = W) := hide (fun W => by have := l1Name_any x.n W (unhide HFX); rw [q1] at this; exact this)
                refine wp_region_bel (fun w' h => (unhide HAL) w' ((unhide HF _).trans (h.mono (unhide HF _).size))) (by kernel_rfl) (by kernel_rfl) ?_
                (repeat (go_big_quiet_step (first | (go_at_call 69; exact belS (unhide CN _)) | (go_at_call 70; exact belS (l1In_is _ _ _ _ (by exact q2))))))
                refine wpQuiet_nil ?_
                rintro _ ⟨y, rfl⟩
                go_wp2_with fail
                go_ret
                exact ⟨ret_bool (unhide HE).symm, unhide HBF y⟩
              · clear hv
                have HE : Hid (flB ⟨ts, cs, ds, nh, nc, nd⟩ = false) := hide (flB_d (listI_el hlt (by rw [unhide HX]; simp [dkB, q3])))
                have CN : Hid (∀ W, Calls Tryz.prog 69 #[.string x.n] W fun e w' => e = .returned (.bool true) ∧ w' = W) := hide (fun W => by have := l1Name_any x.n W (unhide HFX); rw [q1] at this; exact this)
                refine wp_region_bel (fun w' h => (unhide HAL) w' ((unhide HF _).trans (h.mono (unhide HF _).size))) (by kernel_rfl) (by kernel_rfl) ?_
                (repeat (go_big_quiet_step (first | (go_at_call 69; exact belS (unhide CN _)) | (go_at_call 70; exact belS (l1In_is _ _ _ _ (by exact q2))) | (go_at_call 70; exact belS (l1In_is _ _ _ _ (by exact q3))))))
                refine wpQuiet_nil ?_
                rintro _ ⟨y, rfl⟩
                go_wp2_with fail
                go_ret
                exact ⟨ret_bool (unhide HE).symm, unhide HBF y⟩
              · clear hv
                have N1 : Hid (∀ j, j < k + 1 → (dkB nd) (elAt ds j) = true) := hide (fun j hj => by
                  by_cases e3 : j = k
                  · rw [e3, unhide HX]; simp [dkB, q1, q2, q3]
                  · exact (unhide A1) j (by omega))
                have N2 : Hid (∀ j, j + 1 < k + 1 → (elAt ds j).i < (elAt ds (j + 1)).i) := hide (fun j hj => by have := unhide K00; omega)
                clear A1 A2
                have CN : Hid (∀ W, Calls Tryz.prog 69 #[.string x.n] W fun e w' => e = .returned (.bool true) ∧ w' = W) := hide (fun W => by have := l1Name_any x.n W (unhide HFX); rw [q1] at this; exact this)
                refine wp_region_bel (fun w' h => (unhide HAL) w' ((unhide HF _).trans (h.mono (unhide HF _).size))) (by kernel_rfl) (by kernel_rfl) ?_
                (repeat (go_big_quiet_step (first | (go_at_call 69; exact belS (unhide CN _)) | (go_at_call 70; exact belS (l1In_is _ _ _ _ (by exact q2))) | (go_at_call 70; exact belS (l1In_is _ _ _ _ (by exact q3))))))
                refine wpQuiet_nil ?_
                rintro _ ⟨y, rfl⟩
                go_wp2_with fail
                have BY := hide (unhide HBF y)
                have KY := hide (unhide KBF y)
                go_roundw
                case rel => exact ⟨k + 1, by go_num, by omega, KY, BY, N1, N2⟩
                case measure => simp [intOf]; omega
            · obtain ⟨m, hm⟩ : ∃ m, m + 1 = k := ⟨k - 1, by omega⟩
              have dk : decide ((0 : Int) < (k : Int)) = true := by simp only [decide_eq_true_eq]; omega
              have dkn : decide (0 < k) = true := by simp only [decide_eq_true_eq]; omega
              have hsub : (k : Int) - 1 = (m : Int) := by omega
              have hwr : IntKind.i64.wrap (m : Int) = (m : Int) := by rw [IntKind.wrap_i64]; omega
              have hm1 : (m : Int) < (ds.length : Int) := by omega
              have hm0 : (0 : Int) ≤ (m : Int) := by omega
              obtain ⟨Z, hZ⟩ : ∃ z, (elAt ds m).i = z := ⟨_, rfl⟩
              have m1 : ∀ y, (f y).cell? ⟨bb, off + m * 3 + 1, none⟩ = some (.int .i64 Z) := fun y => by
                obtain ⟨bb2, off2, ee, hc2⟩ := ((unhide HRds).below ((unhide HBF) y)).at_ m (by omega)
                simp only [Option.some.injEq, Addr.mk.injEq, and_true] at ee
                obtain ⟨rfl, rfl⟩ := ee
                rw [← hZ]
                exact hc2 1 (by omega)
              have HZ := hide hZ
              have HM := hide hm
              clear hZ hm k0
              rcases four (nameB x.n) (inB x.i 1 1000000) (decide (Z < x.i)) (inB x.s 0 nd) with ⟨q1, hv⟩ | ⟨q1, q2, hv⟩ | ⟨q1, q2, q3, hv⟩ | ⟨q1, q2, q3, q4, hv⟩ | ⟨q1, q2, q3, q4, hv⟩
              · clear hv
                have HE : Hid (flB ⟨ts, cs, ds, nh, nc, nd⟩ = false) := hide (flB_d (listI_el hlt (by rw [unhide HX]; simp [dkB, q1])))
                have CN : Hid (∀ W, Calls Tryz.prog 69 #[.string x.n] W fun e w' => e = .returned (.bool false) ∧ w' = W) := hide (fun W => by have := l1Name_any x.n W (unhide HFX); rw [q1] at this; exact this)
                refine wp_region_bel (fun w' h => (unhide HAL) w' ((unhide HF _).trans (h.mono (unhide HF _).size))) (by kernel_rfl) (by kernel_rfl) ?_
                (repeat (go_big_quiet_step (first | (go_at_call 69; exact belS (unhide CN _)))))
                refine wpQuiet_nil ?_
                rintro _ ⟨y, rfl⟩
                go_wp2_with fail
                go_ret
                exact ⟨ret_bool (unhide HE).symm, unhide HBF y⟩
              · clear hv
                have HE : Hid (flB ⟨ts, cs, ds, nh, nc, nd⟩ = false) := hide (flB_d (listI_el hlt (by rw [unhide HX]; simp [dkB, q2])))
                have CN : Hid (∀ W, Calls Tryz.prog 69 #[.string x.n] W fun e w' => e = .returned (.bool true) ∧ w' = W) := hide (fun W => by have := l1Name_any x.n W (unhide HFX); rw [q1] at this; exact this)
                refine wp_region_bel (fun w' h => (unhide HAL) w' ((unhide HF _).trans (h.mono (unhide HF _).size))) (by kernel_rfl) (by kernel_rfl) ?_
                (repeat (go_big_quiet_step (first | (go_at_call 69; exact belS (unhide CN _)) | (go_at_call 70; exact belS (l1In_is _ _ _ _ (by exact q2))))))
                refine wpQuiet_nil ?_
                rintro _ ⟨y, rfl⟩
                go_wp2_with fail
                go_ret
                exact ⟨ret_bool (unhide HE).symm, unhide HBF y⟩
              · clear hv
                have HE : Hid (flB ⟨ts, cs, ds, nh, nc, nd⟩ = false) := hide (flB_d (listI_fall (i := m) (by have := unhide HM; omega) (by rw [unhide HZ, unhide HM, unhide HX]; have := of_decide_eq_false q3; omega)))
                have q3n : x.i ≤ Z := by have := of_decide_eq_false q3; omega
                have q3d : decide (x.i ≤ Z) = true := by simpa using q3n
                clear q3n
                have CN : Hid (∀ W, Calls Tryz.prog 69 #[.string x.n] W fun e w' => e = .returned (.bool true) ∧ w' = W) := hide (fun W => by have := l1Name_any x.n W (unhide HFX); rw [q1] at this; exact this)
                refine wp_region_bel (fun w' h => (unhide HAL) w' ((unhide HF _).trans (h.mono (unhide HF _).size))) (by kernel_rfl) (by kernel_rfl) ?_
                (repeat (go_big_quiet_step (first | (go_at_call 69; exact belS (unhide CN _)) | (go_at_call 70; exact belS (l1In_is _ _ _ _ (by exact q2))))))
                refine wpQuiet_nil ?_
                rintro _ ⟨y, rfl⟩
                go_wp2_with fail
                go_ret
                exact ⟨ret_bool (unhide HE).symm, unhide HBF y⟩
              · clear hv
                have HE : Hid (flB ⟨ts, cs, ds, nh, nc, nd⟩ = false) := hide (flB_d (listI_el hlt (by rw [unhide HX]; simp [dkB, q4])))
                have q3d : decide (x.i ≤ Z) = false := by have := of_decide_eq_true q3; simp only [decide_eq_false_iff_not]; omega
                have CN : Hid (∀ W, Calls Tryz.prog 69 #[.string x.n] W fun e w' => e = .returned (.bool true) ∧ w' = W) := hide (fun W => by have := l1Name_any x.n W (unhide HFX); rw [q1] at this; exact this)
                refine wp_region_bel (fun w' h => (unhide HAL) w' ((unhide HF _).trans (h.mono (unhide HF _).size))) (by kernel_rfl) (by kernel_rfl) ?_
                (repeat (go_big_quiet_step (first | (go_at_call 69; exact belS (unhide CN _)) | (go_at_call 70; exact belS (l1In_is _ _ _ _ (by exact q2))) | (go_at_call 70; exact belS (l1In_is _ _ _ _ (by exact q4))))))
                refine wpQuiet_nil ?_
                rintro _ ⟨y, rfl⟩
                go_wp2_with fail
                go_ret
                exact ⟨ret_bool (unhide HE).symm, unhide HBF y⟩
              · clear hv
                have q3d : decide (x.i ≤ Z) = false := by have := of_decide_eq_true q3; simp only [decide_eq_false_iff_not]; omega
                have N1 : Hid (∀ j, j < k + 1 → (dkB nd) (elAt ds j) = true) := hide (fun j hj => by
                  by_cases e3 : j = k
                  · rw [e3, unhide HX]; simp [dkB, q1, q2, q4]
                  · exact (unhide A1) j (by omega))
                have N2 : Hid (∀ j, j + 1 < k + 1 → (elAt ds j).i < (elAt ds (j + 1)).i) := hide (fun j hj => by
                  have hm := unhide HM
                  by_cases e3 : j = m
                  · rw [e3, hm, unhide HX, unhide HZ]; exact of_decide_eq_true q3
                  · exact (unhide A2) j (by omega))
                clear A1 A2
                have CN : Hid (∀ W, Calls Tryz.prog 69 #[.string x.n] W fun e w' => e = .returned (.bool true) ∧ w' = W) := hide (fun W => by have := l1Name_any x.n W (unhide HFX); rw [q1] at this; exact this)
                refine wp_region_bel (fun w' h => (unhide HAL) w' ((unhide HF _).trans (h.mono (unhide HF _).size))) (by kernel_rfl) (by kernel_rfl) ?_
                (repeat (go_big_quiet_step (first | (go_at_call 69; exact belS (unhide CN _)) | (go_at_call 70; exact belS (l1In_is _ _ _ _ (by exact q2))) | (go_at_call 70; exact belS (l1In_is _ _ _ _ (by exact q4))))))
                refine wpQuiet_nil ?_
                rintro _ ⟨y, rfl⟩
                go_wp2_with fail
                have BY := hide (unhide HBF y)
                have KY := hide (unhide KBF y)
                go_roundw
                case rel => exact ⟨k + 1, by go_num, by omega, KY, BY, N1, N2⟩
                case measure => simp [intOf]; omega
          · have hi1 : ¬ (k : Int) < (ds.length : Int) := by omega
            have g2 : wr.cell? ⟨w.heap.size, 2, none⟩ = some (.slice a3 ds.length c3) := (unhide KB).c 2 (by simp)
            have HE : Hid (flB ⟨ts, cs, ds, nh, nc, nd⟩ = true) := hide (flB_y q1 q2 (unhide HT) (listI_yes (of_decide_eq_true q4) (fun i hi => unhide A1 i (by omega)) (fun i hi => unhide A2 i (by omega))))
            go_wp2_with fail
            go_ret
            exact ⟨ret_bool (by rw [unhide HE]), unhide BW⟩

end Go.Proofs.YticdccdkjepifaaGreat
