/-
  The model's DeskOk at every desk: its plain answer; it writes nothing that was there. No condition.
-/
import Derived.Test.YtglefolkecimabdDkImp
import Derived.Test.YtglefolkecimabdFfSpec
import Derived.Test.YtglefolkecimabdApSpec
namespace Go.Proofs.Ytglefolkecimabd
open Go.RowKit

theorem specPilot_is {c : Bool} (P : Pl) (w : World) (hc : apOk P = c) :
    Calls Try.prog 51 #[.agg #[.int .i64 P.a0, .int .i64 P.a1, .int .i64 P.a2, .int .i64 P.a3, .int .i64 P.a4, .int .i64 P.a5, .int .i64 P.a6, .int .i64 P.a7, .bool P.a8]] w fun e w' => e = .returned (.bool c) ∧ Below w.heap.size w w' := by subst hc; exact specPilotOk_any P.a0 P.a1 P.a2 P.a3 P.a4 P.a5 P.a6 P.a7 P.a8 w
set_option maxRecDepth 20000 in
set_option maxHeartbeats 4000000 in
theorem specDeskOk_any (C : Cf) (P : Pl) (g : Option Addr) (n c0_ : Nat) (nh nc nd : Int) (a1 a2 a3 : Option Addr) (l1 c1 l2 c2 l3 c3 : Nat) (ls : List Lg) (z1 : List Ts) (z2 : List Cr) (z3 : List Df) (w : World) (hr : DkIn w g a1 a2 a3 n l1 l2 l3 ls z1 z2 z3) (f1 : ∀ i, fitT (elAt z1 i).nm) (f2 : ∀ i, fitT (elAt z2 i).n) (f3 : ∀ i, fitT (elAt z3 i).n) :
    Calls Try.prog 29 #[.agg #[.int .i64 C.a0, .int .i64 C.a1, .int .i64 C.a2, .int .i64 C.a3, .int .i64 C.a4, .slice g n c0_, .int .i64 P.a0, .int .i64 P.a1, .int .i64 P.a2, .int .i64 P.a3, .int .i64 P.a4, .int .i64 P.a5, .int .i64 P.a6, .int .i64 P.a7, .bool P.a8, .slice a1 l1 c1, .slice a2 l2 c2, .slice a3 l3 c3, .int .i64 nh, .int .i64 nc, .int .i64 nd]] w fun e w' => e = .returned (.bool (dskB ⟨C, ls, P, ⟨z1, z2, z3, nh, nc, nd⟩⟩)) ∧ Below w.heap.size w w' := by
  have CE : Hid (∀ V, Below w.heap.size w V → Calls Try.prog 52 #[.agg #[.slice a1 l1 c1, .slice a2 l2 c2, .slice a3 l3 c3, .int .i64 nh, .int .i64 nc, .int .i64 nd]] V fun e w' => e = .returned (.bool (flB ⟨z1, z2, z3, nh, nc, nd⟩)) ∧ Below V.heap.size V w') := hide (fun V b => specFleetOk_any nh nc nd a1 a2 a3 l1 c1 l2 c2 l3 c3 z1 z2 z3 V (hr.fl.below b) f1 f2 f3)
  have hz := hr.lg.len_eq
  have hs := hr.lg.small
  have HO := hide hr.lg.open_
  clear hr f1 f2 f3
  subst hz
  obtain ⟨W, hW⟩ : ∃ W, W = w.alloc (Obj.cells #[.int .i64 C.a0, .int .i64 C.a1, .int .i64 C.a2, .int .i64 C.a3, .int .i64 C.a4, .slice g ls.length c0_, .int .i64 P.a0, .int .i64 P.a1, .int .i64 P.a2, .int .i64 P.a3, .int .i64 P.a4, .int .i64 P.a5, .int .i64 P.a6, .int .i64 P.a7, .bool P.a8, .slice a1 l1 c1, .slice a2 l2 c2, .slice a3 l3 c3, .int .i64 nh, .int .i64 nc, .int .i64 nd] 69) := ⟨_, rfl⟩
  have KB0 : Hid (Blk W w.heap.size [.int .i64 C.a0, .int .i64 C.a1, .int .i64 C.a2, .int .i64 C.a3, .int .i64 C.a4, .slice g ls.length c0_, .int .i64 P.a0, .int .i64 P.a1, .int .i64 P.a2, .int .i64 P.a3, .int .i64 P.a4, .int .i64 P.a5, .int .i64 P.a6, .int .i64 P.a7, .bool P.a8, .slice a1 l1 c1, .slice a2 l2 c2, .slice a3 l3 c3, .int .i64 nh, .int .i64 nc, .int .i64 nd]) := hide (by rw [hW]; exact Blk.new _ _)
  have BW0 : Hid (Below w.heap.size w W) := hide (by rw [hW]; exact bel1 _)
  have HW := hide hW
  clear hW
  obtain ⟨q, hq⟩ : ∃ q, q = dskB ⟨C, ls, P, ⟨z1, z2, z3, nh, nc, nd⟩⟩ := ⟨_, rfl⟩
  have hq' : q = (cfB ⟨C.a0, C.a1, C.a2, C.a3, C.a4⟩ && (decide (ls.length ≤ 30) && lgsB ls) && apOk P && flB ⟨z1, z2, z3, nh, nc, nd⟩) := hq
  rw [← hq]
  have HQ := hide hq'
  clear hq hq'
  go_enter Try.func29, Try.ntmps29
  go_wp2_with fail
  rw [← unhide HW]
  clear HW
  go_loopw [3] (fun i wr => ∃ k : Nat, k ≤ ls.length ∧ i = .int .i64 k ∧ lgsB (ls.take k) = true ∧ Below W.heap.size W wr) (fun i _ => ls.length - (intOf i).toNat)
  case atStart => exact ⟨0, Nat.zero_le _, rfl, rfl, Below.refl _ _⟩
  case round =>
    obtain ⟨k, hk, rfl, hok, hbel⟩ := hrel
    have HK := hide hok
    have HB0 := hide hbel
    have B1 : Hid (Below w.heap.size w wr) := hide ((unhide BW0).trans (hbel.mono (unhide BW0).size))
    have KB1 := hide ((unhide KB0).below hbel)
    clear hok hbel
    by_cases hlt : k < ls.length
    · rcases (unhide HO) with ⟨h0, _⟩ | ⟨bb, off, rfl, _, hc⟩
      · simp [h0] at hlt
      have c0 : w.cell? ⟨bb, off + k * 4, none⟩ = some (.int .i64 (elAt ls k).a0) := hc k hlt 0 (by omega)
      have c0 := ((unhide B1).cell (block_lt_of_cell c0)).trans c0
      have c1 : w.cell? ⟨bb, off + k * 4 + 1, none⟩ = some (.int .i64 (elAt ls k).a1) := hc k hlt 1 (by omega)
      have c1 := ((unhide B1).cell (block_lt_of_cell c1)).trans c1
      have c2 : w.cell? ⟨bb, off + k * 4 + 2, none⟩ = some (.int .i64 (elAt ls k).a2) := hc k hlt 2 (by omega)
      have c2 := ((unhide B1).cell (block_lt_of_cell c2)).trans c2
      have c3 : w.cell? ⟨bb, off + k * 4 + 3, none⟩ = some (.int .i64 (elAt ls k).a3) := hc k hlt 3 (by omega)
      have c3 := ((unhide B1).cell (block_lt_of_cell c3)).trans c3
      have m5 : wr.cell? ⟨w.heap.size, 5, none⟩ = some (.slice (some ⟨bb, off, none⟩) ls.length c0_) := (unhide KB1).c 5 (by simp)
      have hi1 : (k : Int) < (ls.length : Int) := by omega
      clear hc
      go_wp2_with fail
      obtain ⟨q2, hq2⟩ : ∃ q, lgB (elAt ls k).a0 (elAt ls k).a1 (elAt ls k).a2 (elAt ls k).a3 = q := ⟨_, rfl⟩
      refine (specLegOk_is _ _ _ _ _ hq2).mono ?_
      rintro e w2 ⟨rfl, b2⟩
      have B2 : Hid (Below W.heap.size W w2) := hide ((unhide HB0).trans (b2.mono (unhide HB0).size))
      have HQ2 := hide hq2
      clear b2 hq2 c0 c1 c2 c3 m5
      cases q2
      · have hv : q = false := by rw [unhide HQ, lgs_no hlt (unhide HQ2)]; simp
        have HV := hide hv
        clear hv
        go_wp2_with fail
        go_ret
        exact ⟨by rw [unhide HV]; rfl, (unhide BW0).trans ((unhide B2).mono (unhide BW0).size)⟩
      · go_wp2_with fail
        go_roundw
        case rel => exact ⟨k + 1, by omega, by go_num, by rw [lgs_take ls k hlt, unhide HK, unhide HQ2]; rfl, unhide B2⟩
        case measure => simp [intOf]; omega
    · have hkk : k = ls.length := by omega
      subst hkk
      have hl : lgsB ls = true := by have := unhide HK; rwa [List.take_length] at this
      have hq' := unhide HQ
      rw [hl, Bool.and_true] at hq'
      clear hl HK HQ
      have m5 : wr.cell? ⟨w.heap.size, 5, none⟩ = some (.slice g ls.length c0_) := (unhide KB1).c 5 (by simp)
      have hnl : ¬ (ls.length : Int) < ls.length := by omega
      go_upto_region 6 with fail
      clear m5 hnl
      obtain ⟨qc, hc⟩ : ∃ q, flB ⟨z1, z2, z3, nh, nc, nd⟩ = q := ⟨_, rfl⟩
      rw [hc] at CE hq'
      clear hc
      rcases fourD (cfB ⟨C.a0, C.a1, C.a2, C.a3, C.a4⟩) (decide (ls.length ≤ 30)) (apOk P) qc with ⟨q1, hv⟩ | ⟨q1, q2, hv⟩ | ⟨q1, q2, q3, hv⟩ | ⟨q1, q2, q3, q4, hv⟩ | ⟨q1, q2, q3, q4, hv⟩
      all_goals
        rw [hv] at hq'
        first | (have q2 : (ls.length : Int) ≤ 30 := by have := of_decide_eq_true q2; omega) | (have q2 : ¬ (ls.length : Int) ≤ 30 := by have := of_decide_eq_false q2; omega) | skip
        try subst q4
        subst hq'
        clear hv
        obtain ⟨ι, fW, _, hb, hall⟩ := belClass wr
        have HB := hide hb
        have HA := hide hall
        have c00 : ∀ x, (fW x).cell? ⟨w.heap.size, 0, none⟩ = some (.int .i64 C.a0) := fun x => ((unhide KB1).below (hb x)).c 0 (by simp)
        have c01 : ∀ x, (fW x).cell? ⟨w.heap.size, 1, none⟩ = some (.int .i64 C.a1) := fun x => ((unhide KB1).below (hb x)).c 1 (by simp)
        have c02 : ∀ x, (fW x).cell? ⟨w.heap.size, 2, none⟩ = some (.int .i64 C.a2) := fun x => ((unhide KB1).below (hb x)).c 2 (by simp)
        have c03 : ∀ x, (fW x).cell? ⟨w.heap.size, 3, none⟩ = some (.int .i64 C.a3) := fun x => ((unhide KB1).below (hb x)).c 3 (by simp)
        have c04 : ∀ x, (fW x).cell? ⟨w.heap.size, 4, none⟩ = some (.int .i64 C.a4) := fun x => ((unhide KB1).below (hb x)).c 4 (by simp)
        have c05 : ∀ x, (fW x).cell? ⟨w.heap.size, 5, none⟩ = some (.slice g ls.length c0_) := fun x => ((unhide KB1).below (hb x)).c 5 (by simp)
        have c06 : ∀ x, (fW x).cell? ⟨w.heap.size, 6, none⟩ = some (.int .i64 P.a0) := fun x => ((unhide KB1).below (hb x)).c 6 (by simp)
        have c07 : ∀ x, (fW x).cell? ⟨w.heap.size, 7, none⟩ = some (.int .i64 P.a1) := fun x => ((unhide KB1).below (hb x)).c 7 (by simp)
        have c08 : ∀ x, (fW x).cell? ⟨w.heap.size, 8, none⟩ = some (.int .i64 P.a2) := fun x => ((unhide KB1).below (hb x)).c 8 (by simp)
        have c09 : ∀ x, (fW x).cell? ⟨w.heap.size, 9, none⟩ = some (.int .i64 P.a3) := fun x => ((unhide KB1).below (hb x)).c 9 (by simp)
        have c10 : ∀ x, (fW x).cell? ⟨w.heap.size, 10, none⟩ = some (.int .i64 P.a4) := fun x => ((unhide KB1).below (hb x)).c 10 (by simp)
        have c11 : ∀ x, (fW x).cell? ⟨w.heap.size, 11, none⟩ = some (.int .i64 P.a5) := fun x => ((unhide KB1).below (hb x)).c 11 (by simp)
        have c12 : ∀ x, (fW x).cell? ⟨w.heap.size, 12, none⟩ = some (.int .i64 P.a6) := fun x => ((unhide KB1).below (hb x)).c 12 (by simp)
        have c13 : ∀ x, (fW x).cell? ⟨w.heap.size, 13, none⟩ = some (.int .i64 P.a7) := fun x => ((unhide KB1).below (hb x)).c 13 (by simp)
        have c14 : ∀ x, (fW x).cell? ⟨w.heap.size, 14, none⟩ = some (.bool P.a8) := fun x => ((unhide KB1).below (hb x)).c 14 (by simp)
        have c15 : ∀ x, (fW x).cell? ⟨w.heap.size, 15, none⟩ = some (.slice a1 l1 c1) := fun x => ((unhide KB1).below (hb x)).c 15 (by simp)
        have c16 : ∀ x, (fW x).cell? ⟨w.heap.size, 16, none⟩ = some (.slice a2 l2 c2) := fun x => ((unhide KB1).below (hb x)).c 16 (by simp)
        have c17 : ∀ x, (fW x).cell? ⟨w.heap.size, 17, none⟩ = some (.slice a3 l3 c3) := fun x => ((unhide KB1).below (hb x)).c 17 (by simp)
        have c18 : ∀ x, (fW x).cell? ⟨w.heap.size, 18, none⟩ = some (.int .i64 nh) := fun x => ((unhide KB1).below (hb x)).c 18 (by simp)
        have c19 : ∀ x, (fW x).cell? ⟨w.heap.size, 19, none⟩ = some (.int .i64 nc) := fun x => ((unhide KB1).below (hb x)).c 19 (by simp)
        have c20 : ∀ x, (fW x).cell? ⟨w.heap.size, 20, none⟩ = some (.int .i64 nd) := fun x => ((unhide KB1).below (hb x)).c 20 (by simp)
        clear hb hall
        obtain ⟨x0, h0⟩ := (unhide HA) wr (Below.refl _ _)
        rw [h0]
        clear h0
        go_wp2_with (first
          | (go_at_call 50; refine (belQ (unhide HB) (unhide HA) (specCraftOk_is _ _ _ _ _ _ (by exact q1))).mono ?_; rintro e _ ⟨rfl, y, rfl⟩)
          | (go_at_call 51; refine (belQ (unhide HB) (unhide HA) (specPilot_is P _ q3)).mono ?_; rintro e _ ⟨rfl, y, rfl⟩)
          | (go_at_call 52; refine (belQ (unhide HB) (unhide HA) (unhide CE _ ((unhide B1).trans ((unhide HB _).mono (unhide B1).size)))).mono ?_; rintro e _ ⟨rfl, y, rfl⟩))
        go_ret
        exact ⟨rfl, (unhide B1).trans ((unhide HB _).mono (unhide B1).size)⟩

end Go.Proofs.Ytglefolkecimabd
