/-
  How many windows lie in order, and PlanOk, in the program: the plain answers, at every plan; nothing that was there is written.
-/
import Derived.Test.YtndhiecakojjgbaPqImpl
namespace Go.Proofs.Ytndhiecakojjgba
open Go.RowKit

theorem blk_count {w : World} {B k : Nat} (h : Blk w B [.int .i64 (k : Int)]) : Blk (w.setCell ⟨B, 0, none⟩ (.int .i64 ((k : Int) + 1))) B [.int .i64 ((k + 1 : Nat) : Int)] := by
  rw [show ((k + 1 : Nat) : Int) = (k : Int) + 1 from by omega]
  exact h.set 0 (by simp) _

set_option maxRecDepth 20000 in
set_option maxHeartbeats 2000000 in
theorem windowsInOrder_is {n : Nat} (fr pa : Int) (da : Option Addr) (dn dc : Nat) (ws : List Wn) (w : World) (hf : 1 ≤ fr ∧ fr ≤ 100000) (hp : 1 ≤ pa ∧ pa ≤ 10) (hl : ws.length ≤ 40) (hr : RowE 3 wnC w da dn ws) (hn : pwC fr pa ws = n) :
    Calls Try.prog 26 #[.agg #[.int .i64 fr, .int .i64 pa, .slice da dn dc]] w fun e w' => e = .returned (.int .i64 (n : Int)) ∧ Below w.heap.size w w' := by
  have hz := hr.len_eq
  have hs := hr.small
  have HR := hide hr
  clear hr
  subst hz
  obtain ⟨W, hW⟩ : ∃ W, W = (w.alloc (Obj.cells #[.int .i64 fr, .int .i64 pa, .slice da ws.length dc] 28)).alloc (Obj.cells #[.int .i64 0] 57) := ⟨_, rfl⟩
  have K0 : Hid (Blk W w.heap.size [.int .i64 fr, .int .i64 pa, .slice da ws.length dc]) := hide (by rw [hW]; exact blkAt2_0)
  have K1 : Hid (Blk W (w.heap.size + 1) [.int .i64 0]) := hide (by rw [hW]; exact blkAt2_1)
  have B0 : Hid (Below w.heap.size w W) := hide (by rw [hW]; exact (by repeat (first | exact Below.refl _ _ | refine Below.alloc ?_ (by simp; try omega) _ | refine Below.setCell ?_ (by simp; try omega) _ | refine taDr ?_ _)))
  have HW := hide hW
  have HN := hide hn
  clear hW hn
  go_enter Try.func26, Try.ntmps26
  go_upto_region 2 with fail
  rw [← unhide HW]
  clear HW
  have p0 : W.cell? ⟨w.heap.size, 0, none⟩ = some (.int .i64 fr) := (unhide K0).c 0 (by simp)
  have p1 : W.cell? ⟨w.heap.size, 1, none⟩ = some (.int .i64 pa) := (unhide K0).c 1 (by simp)
  have p2 : W.cell? ⟨w.heap.size, 2, none⟩ = some (.slice da ws.length dc) := (unhide K0).c 2 (by simp)
  go_wp2_with fail
  clear p0 p1 p2
  go_loopw [4, 10] (fun s4 s10 wr => ∃ (k : Nat) (E : Int), k ≤ ws.length ∧ s4 = .int .i64 E ∧ s10 = .int .i64 (k : Int) ∧ (0 ≤ E ∧ E ≤ 100000) ∧ Hid (pwE ws k = E) ∧ Hid (∀ j, j < k → wnB fr pa (pwE ws j) (elAt ws j) = true) ∧ Hid (Blk wr w.heap.size [.int .i64 fr, .int .i64 pa, .slice da ws.length dc]) ∧ Hid (Blk wr (w.heap.size + 1) [.int .i64 (k : Int)]) ∧ Hid (Below w.heap.size w wr)) (fun _ s10 _ => ws.length - (intOf s10).toNat)
  case atStart => exact ⟨0, 0, Nat.zero_le _, rfl, rfl, by omega, hide rfl, hide (fun j hj => by omega), K0, K1, B0⟩
  case round =>
    clear K0 K1 B0
    obtain ⟨k, E, hk, rfl, rfl, hE, HPE, HJ, KB0, KB1, BB⟩ := hrel
    by_cases hlt : k < ws.length
    · rcases ((unhide HR).below (unhide BB)).wn3 with ⟨z0, _⟩ | ⟨bb, off, rfl, _, hcs⟩
      · omega
      have m0 := (hcs k hlt).1
      have m1 := (hcs k hlt).2.1
      have m2 := (hcs k hlt).2.2
      obtain ⟨x0, hx0⟩ : ∃ z, (elAt ws k).a0 = z := ⟨_, rfl⟩
      obtain ⟨x1, hx1⟩ : ∃ z, (elAt ws k).a1 = z := ⟨_, rfl⟩
      obtain ⟨x2, hx2⟩ : ∃ z, (elAt ws k).a2 = z := ⟨_, rfl⟩
      have hxx : elAt ws k = ⟨x0, x1, x2⟩ := by rw [← hx0, ← hx1, ← hx2]
      rw [hx0] at m0
      rw [hx1] at m1
      rw [hx2] at m2
      have k0 : (0 : Int) ≤ (k : Int) := by omega
      have k1 : (k : Int) < (ws.length : Int) := by omega
      obtain ⟨V, hV⟩ : ∃ V, V = wr.alloc (Obj.cells #[.int .i64 x0, .int .i64 x1, .int .i64 x2] 39) := ⟨_, rfl⟩
      have bV : Below wr.heap.size wr V := by rw [hV]; exact bel1 _
      have K0 := hide ((unhide KB0).below bV)
      have K1 := hide ((unhide KB1).below bV)
      have BV := hide ((unhide BB).trans (bV.mono (unhide BB).size))
      have K2 : Hid (Blk V wr.heap.size [.int .i64 x0, .int .i64 x1, .int .i64 x2]) := hide (by rw [hV]; exact Blk.new _ _)
      obtain ⟨X, hX⟩ : ∃ X, wr.heap.size = X := ⟨_, rfl⟩
      rw [hX] at K2
      have HV := hide hV
      have HX := hide hX
      have HXX := hide hxx
      clear hcs hV hX bV hx0 hx1 hx2 hxx
      have hk4 : k ≤ 40 := by omega
      go_upto_region 6 with fail
      rw [← unhide HV, unhide HX]
      clear HV HX m0 m1 m2
      obtain ⟨ι, fW, _, hb, hall⟩ := belClass V
      have HB := hide hb
      have HA := hide hall
      have c00 : ∀ x, (fW x).cell? ⟨w.heap.size, 0, none⟩ = some (.int .i64 fr) := fun x => ((unhide K0).below (hb x)).c 0 (by simp)
      have c01 : ∀ x, (fW x).cell? ⟨w.heap.size, 1, none⟩ = some (.int .i64 pa) := fun x => ((unhide K0).below (hb x)).c 1 (by simp)
      have c02 : ∀ x, (fW x).cell? ⟨w.heap.size, 2, none⟩ = some (.slice (some ⟨bb, off, none⟩) ws.length dc) := fun x => ((unhide K0).below (hb x)).c 2 (by simp)
      have c10 : ∀ x, (fW x).cell? ⟨w.heap.size + 1, 0, none⟩ = some (.int .i64 (k : Int)) := fun x => ((unhide K1).below (hb x)).c 0 (by simp)
      have c20 : ∀ x, (fW x).cell? ⟨X, 0, none⟩ = some (.int .i64 x0) := fun x => ((unhide K2).below (hb x)).c 0 (by simp)
      have c21 : ∀ x, (fW x).cell? ⟨X, 1, none⟩ = some (.int .i64 x1) := fun x => ((unhide K2).below (hb x)).c 1 (by simp)
      have c22 : ∀ x, (fW x).cell? ⟨X, 2, none⟩ = some (.int .i64 x2) := fun x => ((unhide K2).below (hb x)).c 2 (by simp)
      clear hb hall
      obtain ⟨y0, h0⟩ := (unhide HA) V (Below.refl _ _)
      rw [h0]
      clear h0
      cases q5 : wnB fr pa E ⟨x0, x1, x2⟩ with
      | false =>
        have HC := hide ((pwC_at hlt (by rw [unhide HPE, unhide HXX]; exact q5) (unhide HJ)).symm.trans (unhide HN))
        go_wp2_with (first | first | (go_at_call 31; refine (belQ (unhide HB) (unhide HA) (windowOk_is _ _ _ _ _ _ _ _ _ _ hf hp (by exact q5))).mono ?_; rintro e _ ⟨rfl, y, rfl⟩) | (go_at_call 27; refine (belQ (unhide HB) (unhide HA) (windowEnd_is _ _ _ _ (by omega) (by omega))).mono ?_; rintro e _ ⟨rfl, y, rfl⟩) | (go_at_call 33; refine (int64Load_is _ _ _ ((unhide K1).below (unhide HB _))).mono ?_; rintro e _ ⟨rfl, rfl⟩))
        go_ret
        exact ⟨ret_int (by rw [unhide HC]), (unhide BV).trans ((unhide HB _).mono (unhide BV).size)⟩
      | true =>
        have g := wnB_facts q5
        dsimp only at g
        go_wp2_with (first | first | (go_at_call 31; refine (belQ (unhide HB) (unhide HA) (windowOk_is _ _ _ _ _ _ _ _ _ _ hf hp (by exact q5))).mono ?_; rintro e _ ⟨rfl, y, rfl⟩) | (go_at_call 27; refine (belQ (unhide HB) (unhide HA) (windowEnd_is _ _ _ _ (by omega) (by omega))).mono ?_; rintro e _ ⟨rfl, y, rfl⟩) | (go_at_call 32; refine (int64Add_is _ _ _ (by omega) ((unhide K1).below (unhide HB _))).mono ?_; rintro e _ ⟨rfl, rfl⟩))
        go_roundw
        case rel =>
          refine ⟨k + 1, x1 + x2, by omega, rfl, by go_num, by omega, hide (by show (elAt ws k).a1 + (elAt ws k).a2 = _; rw [unhide HXX]), hide (fun j hj => by rcases Nat.lt_succ_iff_lt_or_eq.1 hj with h | h; exact unhide HJ j h; subst h; rw [unhide HPE, unhide HXX]; exact q5), hide (((unhide K0).below (unhide HB _)).other (p := ⟨w.heap.size + 1, 0, none⟩) (by show w.heap.size + 1 ≠ w.heap.size; omega) _), hide (blk_count ((unhide K1).below (unhide HB _))), hide (((unhide BV).trans ((unhide HB _).mono (unhide BV).size)).setCell (p := ⟨w.heap.size + 1, 0, none⟩) (by simp) _)⟩
        case measure => simp [intOf]; omega
    · have hkl : k = ws.length := by omega
      have HC := hide ((pwC_all (fun j hj => unhide HJ j (by omega))).symm.trans (unhide HN))
      have k1 : ¬ (k : Int) < (ws.length : Int) := by omega
      go_wp2_with (go_at_call 33; refine (int64Load_is _ _ _ (unhide KB1)).mono ?_; rintro e _ ⟨rfl, rfl⟩)
      go_ret
      exact ⟨ret_int (by rw [unhide HC]), unhide BB⟩

set_option maxRecDepth 20000 in
set_option maxHeartbeats 2000000 in
theorem implPlanOk_is {b : Bool} (fr pa : Int) (da : Option Addr) (dn dc : Nat) (ws : List Wn) (w : World) (hr : RowE 3 wnC w da dn ws) (hc : ppB fr pa ws = b) :
    Calls Try.prog 16 #[.agg #[.int .i64 fr, .int .i64 pa, .slice da dn dc]] w fun e w' => e = .returned (.bool b) ∧ Below w.heap.size w w' := by
  have hz := hr.len_eq
  have hs := hr.small
  have HR := hide hr
  clear hr
  subst hz
  obtain ⟨n, hn⟩ : ∃ n, pwC fr pa ws = n := ⟨_, rfl⟩
  have hw := pwC_is fr pa ws
  rw [hn] at hw
  have hnl := hw.2
  rw [ppB, hw.1] at hc
  have HN := hide hn
  clear hn hw
  rcases four (inB fr 1 100000) (inB pa 1 10) (decide (ws.length ≤ 40)) (decide (n = ws.length)) with ⟨q1, hv⟩ | ⟨q1, q2, hv⟩ | ⟨q1, q2, q3, hv⟩ | ⟨q1, q2, q3, q4, hv⟩ | ⟨q1, q2, q3, q4, hv⟩
  all_goals
    have HE := hide (hv.symm.trans hc)
    clear hc hv
    try (have l1 : ws.length ≤ 40 := by simpa only [decide_eq_true_eq] using q3)
    try (have l2 : ¬ ws.length ≤ 40 := by simpa only [decide_eq_false_iff_not] using q3)
    try (have l3 : decide ((ws.length : Int) ≤ 40) = false := decide_eq_false (by omega))
    try (have l4 : decide ((ws.length : Int) ≤ 40) = true := decide_eq_true (by omega))
    try (have l5 : ((n : Int) == (ws.length : Int)) = false := by simp only [decide_eq_false_iff_not] at q4; simp only [beq_eq_false_iff_ne, ne_eq]; omega)
    try (have l6 : ((n : Int) == (ws.length : Int)) = true := by simp only [decide_eq_true_eq] at q4; simp only [beq_iff_eq]; omega)
    try (have f1 := in_facts (show inB fr 1 100000 = true from q1))
    try (have f2 := in_facts (show inB pa 1 10 = true from q2))
    go_enter Try.func16, Try.ntmps16
    go_wp2_with fail
    obtain ⟨W, hW⟩ : ∃ W, W = (w.alloc (Obj.cells #[.int .i64 fr, .int .i64 pa, .slice da ws.length dc] 28)) := ⟨_, rfl⟩
    rw [← hW]
    have K0 : Hid (Blk W (w.heap.size) [.int .i64 fr, .int .i64 pa, .slice da ws.length dc]) := hide (by rw [hW]; exact Blk.new _ _)
    have B0 : Hid (Below w.heap.size w W) := hide (by rw [hW]; exact (by repeat (first | exact Below.refl _ _ | refine Below.alloc ?_ (by simp; try omega) _ | refine Below.setCell ?_ (by simp; try omega) _ | refine taDr ?_ _)))
    clear hW
    obtain ⟨ι, fW, _, hb, hall⟩ := belClass W
    have HB := hide hb
    have HA := hide hall
    have c00 : ∀ x, (fW x).cell? ⟨w.heap.size, 0, none⟩ = some (.int .i64 fr) := fun x => ((unhide K0).below (hb x)).c 0 (by simp)
    have c01 : ∀ x, (fW x).cell? ⟨w.heap.size, 1, none⟩ = some (.int .i64 pa) := fun x => ((unhide K0).below (hb x)).c 1 (by simp)
    have c02 : ∀ x, (fW x).cell? ⟨w.heap.size, 2, none⟩ = some (.slice da ws.length dc) := fun x => ((unhide K0).below (hb x)).c 2 (by simp)
    clear hb hall
    obtain ⟨x0, h0⟩ := (unhide HA) W (Below.refl _ _)
    rw [h0]
    clear h0
    go_wp2_with (first | (go_at_call 25; refine (belS (within_is _ _ _ _ (by first | exact q1 | exact q2))).mono ?_; rintro e _ ⟨rfl, y, rfl⟩) | (go_at_call 26; refine (belQ (unhide HB) (unhide HA) (windowsInOrder_is _ _ _ _ _ ws _ (by omega) (by omega) l1 ((unhide HR).below ((unhide B0).trans ((unhide HB _).mono (unhide B0).size))) (unhide HN))).mono ?_; rintro e _ ⟨rfl, y, rfl⟩))
    repeat (refine wp_region_bel (fun w' h => (unhide HA) w' ((unhide HB _).trans (h.mono (unhide HB _).size))) (by kernel_rfl) (by kernel_rfl) ?_; (repeat (go_big_quiet_step (first | (go_at_call 25; exact belS (within_is _ _ _ _ (by first | exact q1 | exact q2))) | (go_at_call 26; exact belQ (unhide HB) (unhide HA) (windowsInOrder_is _ _ _ _ _ ws _ (by omega) (by omega) l1 ((unhide HR).below ((unhide B0).trans ((unhide HB _).mono (unhide B0).size))) (unhide HN)))))); refine wpQuiet_nil ?_; rintro _ ⟨y, rfl⟩; (first | go_wp2_with (first | (go_at_call 25; refine (belS (within_is _ _ _ _ (by first | exact q1 | exact q2))).mono ?_; rintro e _ ⟨rfl, y, rfl⟩) | (go_at_call 26; refine (belQ (unhide HB) (unhide HA) (windowsInOrder_is _ _ _ _ _ ws _ (by omega) (by omega) l1 ((unhide HR).below ((unhide B0).trans ((unhide HB _).mono (unhide B0).size))) (unhide HN))).mono ?_; rintro e _ ⟨rfl, y, rfl⟩)) | go_wp2))
    go_ret
    exact ⟨ret_bool (unhide HE), (unhide B0).trans ((unhide HB _).mono (unhide B0).size)⟩

end Go.Proofs.Ytndhiecakojjgba
