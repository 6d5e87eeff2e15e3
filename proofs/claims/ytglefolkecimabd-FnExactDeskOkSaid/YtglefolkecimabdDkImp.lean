/-
  The program's DeskOk at every desk: its plain answer; it writes nothing that was there. No condition.
-/
import Derived.Test.YtglefolkecimabdDkIn
import Derived.Test.YtglefolkecimabdWh1
import Derived.Test.YtglefolkecimabdLs1
import Derived.Test.YtglefolkecimabdApImpl
import Derived.Test.YtglefolkecimabdFfImp
import Derived.Test.YtglefolkecimabdBel
namespace Go.Proofs.Ytglefolkecimabd
open Go.RowKit

theorem lgs_take (ls : List Lg) (k : Nat) (hk : k < ls.length) : lgsB (ls.take (k + 1)) = (lgsB (ls.take k) && lgB (elAt ls k).a0 (elAt ls k).a1 (elAt ls k).a2 (elAt ls k).a3) := by
  have e : elAt ls k = ls[k] := by simp [elAt, hk]
  rw [e, List.take_succ_eq_append_getElem hk]
  unfold lgsB
  rw [List.all_append]
  simp only [List.all_cons, List.all_nil, Bool.and_true]
theorem lgs_no {ls : List Lg} {k : Nat} (hk : k < ls.length) (h : lgB (elAt ls k).a0 (elAt ls k).a1 (elAt ls k).a2 (elAt ls k).a3 = false) : lgsB ls = false := by
  have e : elAt ls k = ls[k] := by simp [elAt, hk]
  rw [e] at h
  cases c : lgsB ls
  · rfl
  · have := List.all_eq_true.1 c ls[k] (List.getElem_mem hk)
    rw [h] at this; cases this
theorem fourD (a b c d : Bool) : (a = false ∧ (a && b && c && d) = false) ∨ (a = true ∧ b = false ∧ (a && b && c && d) = false) ∨ (a = true ∧ b = true ∧ c = false ∧ (a && b && c && d) = false) ∨ (a = true ∧ b = true ∧ c = true ∧ d = false ∧ (a && b && c && d) = false) ∨ (a = true ∧ b = true ∧ c = true ∧ d = true ∧ (a && b && c && d) = true) := by
  cases a <;> cases b <;> cases c <;> cases d <;> simp
set_option maxRecDepth 20000 in
set_option maxHeartbeats 2000000 in
theorem legsOk_any (g : Option Addr) (n c0 : Nat) (ls : List Lg) (w : World) (hr : RowE 4 lgC w g n ls) :
    Calls Try.prog 58 #[.slice g n c0] w fun e w' => e = .returned (.bool (decide (ls.length ≤ 30) && lgsB ls)) ∧ Below w.heap.size w w' := by
  have hz := hr.len_eq
  have hs := hr.small
  have HO := hide hr.open_
  clear hr
  subst hz
  by_cases h30 : (30 : Int) < ls.length
  · have e : (decide (ls.length ≤ 30) && lgsB ls) = false := by rw [decide_eq_false (by omega)]; rfl
    rw [e]
    clear e
    go_enter Try.func58, Try.ntmps58
    go_wp2_with fail
    go_ret
    exact ⟨rfl, Below.refl _ _⟩
  have e : (decide (ls.length ≤ 30) && lgsB ls) = lgsB ls := by rw [decide_eq_true (by omega)]; rfl
  rw [e]
  clear e
  go_enter Try.func58, Try.ntmps58
  go_wp2_with fail
  go_loopw [10] (fun i wr => ∃ k : Nat, k ≤ ls.length ∧ i = .int .i64 k ∧ lgsB (ls.take k) = true ∧ Below w.heap.size w wr) (fun i _ => ls.length - (intOf i).toNat)
  case atStart => exact ⟨0, Nat.zero_le _, rfl, rfl, Below.refl _ _⟩
  case round =>
    obtain ⟨k, hk, rfl, hok, hbel⟩ := hrel
    have HK := hide hok
    have HB := hide hbel
    clear hok hbel
    by_cases hlt : k < ls.length
    · rcases (unhide HO) with ⟨h0, _⟩ | ⟨bb, off, rfl, _, hc⟩
      · simp [h0] at hlt
      have c0 : w.cell? ⟨bb, off + k * 4, none⟩ = some (.int .i64 (elAt ls k).a0) := hc k hlt 0 (by omega)
      have c0 := ((unhide HB).cell (block_lt_of_cell c0)).trans c0
      have c1 : w.cell? ⟨bb, off + k * 4 + 1, none⟩ = some (.int .i64 (elAt ls k).a1) := hc k hlt 1 (by omega)
      have c1 := ((unhide HB).cell (block_lt_of_cell c1)).trans c1
      have c2 : w.cell? ⟨bb, off + k * 4 + 2, none⟩ = some (.int .i64 (elAt ls k).a2) := hc k hlt 2 (by omega)
      have c2 := ((unhide HB).cell (block_lt_of_cell c2)).trans c2
      have c3 : w.cell? ⟨bb, off + k * 4 + 3, none⟩ = some (.int .i64 (elAt ls k).a3) := hc k hlt 3 (by omega)
      have c3 := ((unhide HB).cell (block_lt_of_cell c3)).trans c3
      have hi1 : (k : Int) < (ls.length : Int) := by omega
      clear hc
      go_wp2_with fail
      obtain ⟨q, hq⟩ : ∃ q, lgB (elAt ls k).a0 (elAt ls k).a1 (elAt ls k).a2 (elAt ls k).a3 = q := ⟨_, rfl⟩
      refine (implLegOk_is _ _ _ _ _ hq).mono ?_
      rintro e w2 ⟨rfl, b2⟩
      have B2 : Hid (Below w.heap.size w w2) := hide (by
        refine Below.trans ?_ (b2.mono ?_)
        · exact (unhide HB).trans ((bel1 _).mono (unhide HB).size)
        · have := (unhide HB).size
          simp
          omega)
      have HQ := hide hq
      clear b2 hq c0 c1 c2 c3
      cases q
      · have hv : lgsB ls = false := lgs_no hlt (unhide HQ)
        go_wp2_with fail
        go_ret
        exact ⟨by rw [hv]; rfl, unhide B2⟩
      · go_wp2_with fail
        go_roundw
        case rel => exact ⟨k + 1, by omega, by go_num, by rw [lgs_take ls k hlt, unhide HK, unhide HQ]; rfl, unhide B2⟩
        case measure => simp [intOf]; omega
    · have hkk : k = ls.length := by omega
      subst hkk
      have hv : lgsB ls = true := by have := unhide HK; rwa [List.take_length] at this
      go_wp2_with fail
      go_ret
      exact ⟨by rw [hv]; rfl, unhide HB⟩
theorem implPilot_is {c : Bool} (P : Pl) (w : World) (hc : apOk P = c) :
    Calls Try.prog 59 #[.agg #[.int .i64 P.a0, .int .i64 P.a1, .int .i64 P.a2, .int .i64 P.a3, .int .i64 P.a4, .int .i64 P.a5, .int .i64 P.a6, .int .i64 P.a7, .bool P.a8]] w fun e w' => e = .returned (.bool c) ∧ Below w.heap.size w w' := by subst hc; exact implPilotOk_any P.a0 P.a1 P.a2 P.a3 P.a4 P.a5 P.a6 P.a7 P.a8 w
set_option maxRecDepth 20000 in
set_option maxHeartbeats 4000000 in
theorem implDeskOk_any (C : Cf) (P : Pl) (g : Option Addr) (n c0 : Nat) (nh nc nd : Int) (a1 a2 a3 : Option Addr) (l1 c1 l2 c2 l3 c3 : Nat) (ls : List Lg) (z1 : List Ts) (z2 : List Cr) (z3 : List Df) (w : World) (hr : DkIn w g a1 a2 a3 n l1 l2 l3 ls z1 z2 z3) (f1 : ∀ i, fitT (elAt z1 i).nm) (f2 : ∀ i, fitT (elAt z2 i).n) (f3 : ∀ i, fitT (elAt z3 i).n) :
    Calls Try.prog 31 #[.agg #[.int .i64 C.a0, .int .i64 C.a1, .int .i64 C.a2, .int .i64 C.a3, .int .i64 C.a4, .slice g n c0, .int .i64 P.a0, .int .i64 P.a1, .int .i64 P.a2, .int .i64 P.a3, .int .i64 P.a4, .int .i64 P.a5, .int .i64 P.a6, .int .i64 P.a7, .bool P.a8, .slice a1 l1 c1, .slice a2 l2 c2, .slice a3 l3 c3, .int .i64 nh, .int .i64 nc, .int .i64 nd]] w fun e w' => e = .returned (.bool (dskB ⟨C, ls, P, ⟨z1, z2, z3, nh, nc, nd⟩⟩)) ∧ Below w.heap.size w w' := by
  have CL : Hid (∀ V, Below w.heap.size w V → Calls Try.prog 58 #[.slice g n c0] V fun e w' => e = .returned (.bool (decide (ls.length ≤ 30) && lgsB ls)) ∧ Below V.heap.size V w') := hide (fun V b => legsOk_any g n c0 ls V (hr.lg.below b))
  have CE : Hid (∀ V, Below w.heap.size w V → Calls Try.prog 60 #[.agg #[.slice a1 l1 c1, .slice a2 l2 c2, .slice a3 l3 c3, .int .i64 nh, .int .i64 nc, .int .i64 nd]] V fun e w' => e = .returned (.bool (flB ⟨z1, z2, z3, nh, nc, nd⟩)) ∧ Below V.heap.size V w') := hide (fun V b => implFleetOk_any nh nc nd a1 a2 a3 l1 c1 l2 c2 l3 c3 z1 z2 z3 V (hr.fl.below b) f1 f2 f3)
  obtain ⟨W, hW⟩ : ∃ W, W = w.alloc (Obj.cells #[.int .i64 C.a0, .int .i64 C.a1, .int .i64 C.a2, .int .i64 C.a3, .int .i64 C.a4, .slice g n c0, .int .i64 P.a0, .int .i64 P.a1, .int .i64 P.a2, .int .i64 P.a3, .int .i64 P.a4, .int .i64 P.a5, .int .i64 P.a6, .int .i64 P.a7, .bool P.a8, .slice a1 l1 c1, .slice a2 l2 c2, .slice a3 l3 c3, .int .i64 nh, .int .i64 nc, .int .i64 nd] 69) := ⟨_, rfl⟩
  have KB0 : Hid (Blk W w.heap.size [.int .i64 C.a0, .int .i64 C.a1, .int .i64 C.a2, .int .i64 C.a3, .int .i64 C.a4, .slice g n c0, .int .i64 P.a0, .int .i64 P.a1, .int .i64 P.a2, .int .i64 P.a3, .int .i64 P.a4, .int .i64 P.a5, .int .i64 P.a6, .int .i64 P.a7, .bool P.a8, .slice a1 l1 c1, .slice a2 l2 c2, .slice a3 l3 c3, .int .i64 nh, .int .i64 nc, .int .i64 nd]) := hide (by rw [hW]; exact Blk.new _ _)
  have BW0 : Hid (Below w.heap.size w W) := hide (by rw [hW]; exact bel1 _)
  have HW := hide hW
  clear hW hr f1 f2 f3
  obtain ⟨q, hq⟩ : ∃ q, q = dskB ⟨C, ls, P, ⟨z1, z2, z3, nh, nc, nd⟩⟩ := ⟨_, rfl⟩
  have hq' : q = (cfB ⟨C.a0, C.a1, C.a2, C.a3, C.a4⟩ && (decide (ls.length ≤ 30) && lgsB ls) && apOk P && flB ⟨z1, z2, z3, nh, nc, nd⟩) := hq
  rw [← hq]
  clear hq
  obtain ⟨qa, ha⟩ : ∃ q, (decide (ls.length ≤ 30) && lgsB ls) = q := ⟨_, rfl⟩
  obtain ⟨qc, hc⟩ : ∃ q, flB ⟨z1, z2, z3, nh, nc, nd⟩ = q := ⟨_, rfl⟩
  rw [ha] at CL hq'
  rw [hc] at CE hq'
  clear ha hc
  rcases fourD (cfB ⟨C.a0, C.a1, C.a2, C.a3, C.a4⟩) qa (apOk P) qc with ⟨q1, hv⟩ | ⟨q1, q2, hv⟩ | ⟨q1, q2, q3, hv⟩ | ⟨q1, q2, q3, q4, hv⟩ | ⟨q1, q2, q3, q4, hv⟩
  all_goals
    rw [hv] at hq'
    try subst q2
    try subst q4
    subst hq'
    clear hv
    go_enter Try.func31, Try.ntmps31
    go_upto_region 1 with fail
    rw [← unhide HW]
    clear HW
    obtain ⟨ι, fW, _, hb, hall⟩ := belClass W
    have HB := hide hb
    have HA := hide hall
    have c00 : ∀ x, (fW x).cell? ⟨w.heap.size, 0, none⟩ = some (.int .i64 C.a0) := fun x => ((unhide KB0).below (hb x)).c 0 (by simp)
    have c01 : ∀ x, (fW x).cell? ⟨w.heap.size, 1, none⟩ = some (.int .i64 C.a1) := fun x => ((unhide KB0).below (hb x)).c 1 (by simp)
    have c02 : ∀ x, (fW x).cell? ⟨w.heap.size, 2, none⟩ = some (.int .i64 C.a2) := fun x => ((unhide KB0).below (hb x)).c 2 (by simp)
    have c03 : ∀ x, (fW x).cell? ⟨w.heap.size, 3, none⟩ = some (.int .i64 C.a3) := fun x => ((unhide KB0).below (hb x)).c 3 (by simp)
    have c04 : ∀ x, (fW x).cell? ⟨w.heap.size, 4, none⟩ = some (.int .i64 C.a4) := fun x => ((unhide KB0).below (hb x)).c 4 (by simp)
    have c05 : ∀ x, (fW x).cell? ⟨w.heap.size, 5, none⟩ = some (.slice g n c0) := fun x => ((unhide KB0).below (hb x)).c 5 (by simp)
    have c06 : ∀ x, (fW x).cell? ⟨w.heap.size, 6, none⟩ = some (.int .i64 P.a0) := fun x => ((unhide KB0).below (hb x)).c 6 (by simp)
    have c07 : ∀ x, (fW x).cell? ⟨w.heap.size, 7, none⟩ = some (.int .i64 P.a1) := fun x => ((unhide KB0).below (hb x)).c 7 (by simp)
    have c08 : ∀ x, (fW x).cell? ⟨w.heap.size, 8, none⟩ = some (.int .i64 P.a2) := fun x => ((unhide KB0).below (hb x)).c 8 (by simp)
    have c09 : ∀ x, (fW x).cell? ⟨w.heap.size, 9, none⟩ = some (.int .i64 P.a3) := fun x => ((unhide KB0).below (hb x)).c 9 (by simp)
    have c10 : ∀ x, (fW x).cell? ⟨w.heap.size, 10, none⟩ = some (.int .i64 P.a4) := fun x => ((unhide KB0).below (hb x)).c 10 (by simp)
    have c11 : ∀ x, (fW x).cell? ⟨w.heap.size, 11, none⟩ = some (.int .i64 P.a5) := fun x => ((unhide KB0).below (hb x)).c 11 (by simp)
    have c12 : ∀ x, (fW x).cell? ⟨w.heap.size, 12, none⟩ = some (.int .i64 P.a6) := fun x => ((unhide KB0).below (hb x)).c 12 (by simp)
    have c13 : ∀ x, (fW x).cell? ⟨w.heap.size, 13, none⟩ = some (.int .i64 P.a7) := fun x => ((unhide KB0).below (hb x)).c 13 (by simp)
    have c14 : ∀ x, (fW x).cell? ⟨w.heap.size, 14, none⟩ = some (.bool P.a8) := fun x => ((unhide KB0).below (hb x)).c 14 (by simp)
    have c15 : ∀ x, (fW x).cell? ⟨w.heap.size, 15, none⟩ = some (.slice a1 l1 c1) := fun x => ((unhide KB0).below (hb x)).c 15 (by simp)
    have c16 : ∀ x, (fW x).cell? ⟨w.heap.size, 16, none⟩ = some (.slice a2 l2 c2) := fun x => ((unhide KB0).below (hb x)).c 16 (by simp)
    have c17 : ∀ x, (fW x).cell? ⟨w.heap.size, 17, none⟩ = some (.slice a3 l3 c3) := fun x => ((unhide KB0).below (hb x)).c 17 (by simp)
    have c18 : ∀ x, (fW x).cell? ⟨w.heap.size, 18, none⟩ = some (.int .i64 nh) := fun x => ((unhide KB0).below (hb x)).c 18 (by simp)
    have c19 : ∀ x, (fW x).cell? ⟨w.heap.size, 19, none⟩ = some (.int .i64 nc) := fun x => ((unhide KB0).below (hb x)).c 19 (by simp)
    have c20 : ∀ x, (fW x).cell? ⟨w.heap.size, 20, none⟩ = some (.int .i64 nd) := fun x => ((unhide KB0).below (hb x)).c 20 (by simp)
    clear hb hall
    obtain ⟨x0, h0⟩ := (unhide HA) W (Below.refl _ _)
    rw [h0]
    clear h0
    go_wp2_with (first
      | (go_at_call 57; refine (belQ (unhide HB) (unhide HA) (implCraftOk_is _ _ _ _ _ _ (by exact q1))).mono ?_; rintro e _ ⟨rfl, y, rfl⟩)
      | (go_at_call 58; refine (belQ (unhide HB) (unhide HA) (unhide CL _ ((unhide BW0).trans ((unhide HB _).mono (unhide BW0).size)))).mono ?_; rintro e _ ⟨rfl, y, rfl⟩)
      | (go_at_call 59; refine (belQ (unhide HB) (unhide HA) (implPilot_is P _ q3)).mono ?_; rintro e _ ⟨rfl, y, rfl⟩)
      | (go_at_call 60; refine (belQ (unhide HB) (unhide HA) (unhide CE _ ((unhide BW0).trans ((unhide HB _).mono (unhide BW0).size)))).mono ?_; rintro e _ ⟨rfl, y, rfl⟩))
    go_ret
    exact ⟨rfl, (unhide BW0).trans ((unhide HB _).mono (unhide BW0).size)⟩

end Go.Proofs.Ytglefolkecimabd
