/-
  What the small functions of partitions answer in the program: plain answers; nothing that was there is written.
  How many windows lie in order, and PlanOk, in the program: the plain answers, at every plan; nothing that was there is written.
  Whose a tick is, in the program: the plain answer, at every plan and tick; nothing that was there is written.
-/
import Derived.Test.YtndhiecakojjgafPure1
import Derived.Test.YtndhiecakojjgafPpSpec
import Derived.Laws.LoneSync

namespace Go.Proofs.Ytndhiecakojjgaf
open Go.RowKit

theorem addInt64_run {a : Addr} {x s : Int} {w : World} (hc : w.cell? a = some (.int .i64 x)) (hz : w.frozen? a = false) (hs : IntKind.i64.wrap (x + 1) = s) : (callFunc 76 #[.pointer (some a), .int .i64 1]).run Try.prog w = .ok (.value (.int .i64 s)) (w.setCell a (.int .i64 s)) :=
  run_call_add Try.func76 (by kernel_rfl) (by kernel_rfl) (by kernel_rfl) .i64 (by kernel_rfl) hc hz (by subst hs; simp [go_sem])
theorem loadInt64_run {a : Addr} {x : Int} {w : World} (hc : w.cell? a = some (.int .i64 x)) : (callFunc 77 #[.pointer (some a)]).run Try.prog w = .ok (.value (.int .i64 x)) w :=
  run_call_load Try.func77 (by kernel_rfl) (by kernel_rfl) (by kernel_rfl) .i64 (by kernel_rfl) hc
set_option maxHeartbeats 400000 in
theorem int64Add_is (B : Nat) (x : Int) (w : World) (hx : 0 ≤ x ∧ x ≤ 100) (hb : Blk w B [.int .i64 x]) :
    Calls Try.prog 69 #[.pointer (some ⟨B, 0, none⟩), .int .i64 1] w fun e w' => e = .returned (.int .i64 (x + 1)) ∧ w' = w.setCell ⟨B, 0, none⟩ (.int .i64 (x + 1)) := by
  have hc : w.cell? ⟨B, 0, none⟩ = some (.int .i64 x) := hb.c 0 (by simp)
  have hz : w.frozen? ⟨B, 0, none⟩ = false := hb.f 0 (by simp)
  have hr := addInt64_run hc hz (s := x + 1) (by rw [IntKind.wrap_i64]; omega)
  clear hb
  go_enter Try.func69, Try.ntmps69
  go_wp2
  go_ret
  exact ⟨rfl, rfl⟩
set_option maxHeartbeats 400000 in
theorem int64Load_is (B : Nat) (x : Int) (w : World) (hb : Blk w B [.int .i64 x]) :
    Calls Try.prog 70 #[.pointer (some ⟨B, 0, none⟩)] w fun e w' => e = .returned (.int .i64 x) ∧ w' = w := by
  have hc : w.cell? ⟨B, 0, none⟩ = some (.int .i64 x) := hb.c 0 (by simp)
  have hr := loadInt64_run hc
  clear hb
  go_enter Try.func70, Try.ntmps70
  go_wp2
  go_ret
  exact ⟨rfl, rfl⟩

set_option maxRecDepth 20000 in
set_option maxHeartbeats 400000 in
theorem longOk_is {b : Bool} (x : Int) (w : World) (hc : inB x 1 10000 = b) :
    Calls Try.prog 57 #[.int .i64 x] w fun e w' => e = .returned (.bool b) ∧ w' = w := by
  go_enter Try.func57, Try.ntmps57
  go_wp2_with ((go_at_call 35; refine (within_is _ _ _ _ (by exact hc)).mono ?_; rintro e w' ⟨rfl, hw⟩; subst w'))
  go_ret
  exact ⟨rfl, rfl⟩

set_option maxRecDepth 20000 in
set_option maxHeartbeats 400000 in
theorem hasPart_is {b : Bool} (fr pa : Int) (da : Option Addr) (dn dc : Nat) (x : Int) (w : World) (hp : 1 ≤ pa ∧ pa ≤ 10) (hc : inB x 0 (pa - 1) = b) :
    Calls Try.prog 51 #[.agg #[.int .i64 fr, .int .i64 pa, .slice da dn dc], .int .i64 x] w fun e w' => e = .returned (.bool b) ∧ Below w.heap.size w w' := by
  go_enter Try.func51, Try.ntmps51
  go_wp2_with ((go_at_call 35; refine (within_is _ _ _ _ (by exact hc)).mono ?_; rintro e w' ⟨rfl, hw⟩; subst w'))
  go_ret
  exact ⟨rfl, (by repeat (first | exact Below.refl _ _ | refine Below.alloc ?_ (by simp; try omega) _ | refine Below.setCell ?_ (by simp; try omega) _ | refine taDr ?_ _))⟩

set_option maxRecDepth 20000 in
set_option maxHeartbeats 400000 in
theorem windowEnd_is (x0 x1 x2 : Int) (w : World) (h1 : 0 ≤ x1 ∧ x1 ≤ 100000) (h2 : 1 ≤ x2 ∧ x2 ≤ 10000) :
    Calls Try.prog 53 #[.agg #[.int .i64 x0, .int .i64 x1, .int .i64 x2]] w fun e w' => e = .returned (.int .i64 (x1 + x2)) ∧ Below w.heap.size w w' := by
  go_enter Try.func53, Try.ntmps53
  go_wp2
  go_ret
  exact ⟨rfl, (by repeat (first | exact Below.refl _ _ | refine Below.alloc ?_ (by simp; try omega) _ | refine Below.setCell ?_ (by simp; try omega) _ | refine taDr ?_ _))⟩

set_option maxRecDepth 20000 in
set_option maxHeartbeats 2000000 in
theorem windowOk_is {b : Bool} (fr pa : Int) (da : Option Addr) (dn dc : Nat) (x0 x1 x2 E : Int) (w : World) (hf : 1 ≤ fr ∧ fr ≤ 100000) (hp : 1 ≤ pa ∧ pa ≤ 10) (hc : wnB fr pa E ⟨x0, x1, x2⟩ = b) :
    Calls Try.prog 68 #[.agg #[.int .i64 fr, .int .i64 pa, .slice da dn dc], .agg #[.int .i64 x0, .int .i64 x1, .int .i64 x2], .int .i64 E] w fun e w' => e = .returned (.bool b) ∧ Below w.heap.size w w' := by
  rw [wn_three] at hc
  rcases three (inB x0 0 (pa - 1)) (inB x2 1 10000) (inB x1 E (fr - x2)) with ⟨q1, hv⟩ | ⟨q1, q2, hv⟩ | ⟨q1, q2, q3, hv⟩ | ⟨q1, q2, q3, hv⟩
  all_goals
    have HE := hide (hv.symm.trans hc)
    clear hv hc
    try (have g2 := in_facts (show inB x2 1 10000 = true from q2))
    go_enter Try.func68, Try.ntmps68
    go_wp2_with fail
    obtain ⟨W, hW⟩ : ∃ W, W = ((w.alloc (Obj.cells #[.int .i64 fr, .int .i64 pa, .slice da dn dc] 53)).alloc (Obj.cells #[.int .i64 x0, .int .i64 x1, .int .i64 x2] 91)) := ⟨_, rfl⟩
    rw [← hW]
    have K0 : Hid (Blk W (w.heap.size) [.int .i64 fr, .int .i64 pa, .slice da dn dc]) := hide (by rw [hW]; exact blkAt2_0)
    have K1 : Hid (Blk W (w.heap.size + 1) [.int .i64 x0, .int .i64 x1, .int .i64 x2]) := hide (by rw [hW]; exact blkAt2_1)
    have B0 : Hid (Below w.heap.size w W) := hide (by rw [hW]; exact (by repeat (first | exact Below.refl _ _ | refine Below.alloc ?_ (by simp; try omega) _ | refine Below.setCell ?_ (by simp; try omega) _ | refine taDr ?_ _)))
    clear hW
    obtain ⟨ι, fW, _, hb, hall⟩ := belClass W
    have HB := hide hb
    have HA := hide hall
    have c00 : ∀ x, (fW x).cell? ⟨w.heap.size, 0, none⟩ = some (.int .i64 fr) := fun x => ((unhide K0).below (hb x)).c 0 (by simp)
    have c01 : ∀ x, (fW x).cell? ⟨w.heap.size, 1, none⟩ = some (.int .i64 pa) := fun x => ((unhide K0).below (hb x)).c 1 (by simp)
    have c02 : ∀ x, (fW x).cell? ⟨w.heap.size, 2, none⟩ = some (.slice da dn dc) := fun x => ((unhide K0).below (hb x)).c 2 (by simp)
    have c10 : ∀ x, (fW x).cell? ⟨w.heap.size + 1, 0, none⟩ = some (.int .i64 x0) := fun x => ((unhide K1).below (hb x)).c 0 (by simp)
    have c11 : ∀ x, (fW x).cell? ⟨w.heap.size + 1, 1, none⟩ = some (.int .i64 x1) := fun x => ((unhide K1).below (hb x)).c 1 (by simp)
    have c12 : ∀ x, (fW x).cell? ⟨w.heap.size + 1, 2, none⟩ = some (.int .i64 x2) := fun x => ((unhide K1).below (hb x)).c 2 (by simp)
    clear hb hall
    obtain ⟨x0, h0⟩ := (unhide HA) W (Below.refl _ _)
    rw [h0]
    clear h0
    go_wp2_with (first | (go_at_call 51; refine (belQ (unhide HB) (unhide HA) (hasPart_is _ _ _ _ _ _ _ hp (by exact q1))).mono ?_; rintro e _ ⟨rfl, y, rfl⟩) | (go_at_call 57; refine (belS (longOk_is _ _ (by exact q2))).mono ?_; rintro e _ ⟨rfl, y, rfl⟩) | (go_at_call 35; refine (belS (within_is _ _ _ _ (by exact q3))).mono ?_; rintro e _ ⟨rfl, y, rfl⟩))
    repeat (refine wp_region_bel (fun w' h => (unhide HA) w' ((unhide HB _).trans (h.mono (unhide HB _).size))) (by kernel_rfl) (by kernel_rfl) ?_; (repeat (go_big_quiet_step (first | (go_at_call 51; exact belQ (unhide HB) (unhide HA) (hasPart_is _ _ _ _ _ _ _ hp (by exact q1))) | (go_at_call 57; exact belS (longOk_is _ _ (by exact q2))) | (go_at_call 35; exact belS (within_is _ _ _ _ (by exact q3)))))); refine wpQuiet_nil ?_; rintro _ ⟨y, rfl⟩; (first | go_wp2_with (first | (go_at_call 51; refine (belQ (unhide HB) (unhide HA) (hasPart_is _ _ _ _ _ _ _ hp (by exact q1))).mono ?_; rintro e _ ⟨rfl, y, rfl⟩) | (go_at_call 57; refine (belS (longOk_is _ _ (by exact q2))).mono ?_; rintro e _ ⟨rfl, y, rfl⟩) | (go_at_call 35; refine (belS (within_is _ _ _ _ (by exact q3))).mono ?_; rintro e _ ⟨rfl, y, rfl⟩)) | go_wp2))
    go_ret
    exact ⟨ret_bool (unhide HE), (unhide B0).trans ((unhide HB _).mono (unhide B0).size)⟩

end Go.Proofs.Ytndhiecakojjgaf

namespace Go.Proofs.Ytndhiecakojjgaf
open Go.RowKit

theorem blk_count {w : World} {B k : Nat} (h : Blk w B [.int .i64 (k : Int)]) : Blk (w.setCell ⟨B, 0, none⟩ (.int .i64 ((k : Int) + 1))) B [.int .i64 ((k + 1 : Nat) : Int)] := by
  rw [show ((k + 1 : Nat) : Int) = (k : Int) + 1 from by omega]
  exact h.set 0 (by simp) _

set_option maxRecDepth 20000 in
set_option maxHeartbeats 2000000 in
theorem windowsInOrder_is {n : Nat} (fr pa : Int) (da : Option Addr) (dn dc : Nat) (ws : List Wn) (w : World) (hf : 1 ≤ fr ∧ fr ≤ 100000) (hp : 1 ≤ pa ∧ pa ≤ 10) (hl : ws.length ≤ 40) (hr : RowE 3 wnC w da dn ws) (hn : pwC fr pa ws = n) :
    Calls Try.prog 55 #[.agg #[.int .i64 fr, .int .i64 pa, .slice da dn dc]] w fun e w' => e = .returned (.int .i64 (n : Int)) ∧ Below w.heap.size w w' := by
  have hz := hr.len_eq
  have hs := hr.small
  have HR := hide hr
  clear hr
  subst hz
  obtain ⟨W, hW⟩ : ∃ W, W = (w.alloc (Obj.cells #[.int .i64 fr, .int .i64 pa, .slice da ws.length dc] 53)).alloc (Obj.cells #[.int .i64 0] 113) := ⟨_, rfl⟩
  have K0 : Hid (Blk W w.heap.size [.int .i64 fr, .int .i64 pa, .slice da ws.length dc]) := hide (by rw [hW]; exact blkAt2_0)
  have K1 : Hid (Blk W (w.heap.size + 1) [.int .i64 0]) := hide (by rw [hW]; exact blkAt2_1)
  have B0 : Hid (Below w.heap.size w W) := hide (by rw [hW]; exact (by repeat (first | exact Below.refl _ _ | refine Below.alloc ?_ (by simp; try omega) _ | refine Below.setCell ?_ (by simp; try omega) _ | refine taDr ?_ _)))
  have HW := hide hW
  have HN := hide hn
  clear hW hn
  go_enter Try.func55, Try.ntmps55
  go_upto_region 2 with fail
  rw [← unhide HW]
  clear HW
  have p0 : W.cell? ⟨w.heap.size, 0, none⟩ = some (.int .i64 fr) := (unhide K0).c 0 (by simp)
  have p1 : W.cell? ⟨w.heap.size, 1, none⟩ = some (.int .i64 pa) := (unhide K0).c 1 (by simp)
  have p2 : W.cell? ⟨w.heap.size, 2, none⟩ = some (.slice da ws.length dc) := (unhide K0).c 2 (by simp)
  go_wp2_with fail
  clear p0 p1 p2
  go_loopw [4, 10] (fun s4 s10 wr => ∃ (k : Nat) (E : Int), k ≤ ws.length ∧ s4 = .int .i64 E ∧ s10 = .int .i64 (k : Int) ∧ (0 ≤ E ∧ E ≤ 100000) ∧ Hid (pwE ws k = E) ∧ Hid (∀ j, j < k → wnB fr pa (pwE ws j) (elAt ws j) = true) ∧ Hid (Blk wr w.heap.size [.int .i64 fr, .int .i64 pa, .slice da ws.length dc]) ∧ Hid (Blk wr (w.heap.size + 1) [.int .i64 (k : Int)]) ∧ Hid (Below w.heap.size w wr)) (fun _ s10 _ => ws.length - (intOf s10).toNat)
  case atStart => exact ⟨0, 0, Nat.zero_le _, rfl, rfl, by omega, hide rfl, hide (fun j hj => by omega), K0, K1, B0⟩
  case round =>
    clear K0 K1 B0
    obtain ⟨k, E, hk, rfl, rfl, hE, HPE, HJ, KB0, KB1, BB⟩ := hrel
    by_cases hlt : k < ws.length
    · rcases ((unhide HR).below (unhide BB)).wn3 with ⟨z0, _⟩ | ⟨bb, off, rfl, _, hcs⟩
      · omega
      have m0 := (hcs k hlt).1
      have m1 := (hcs k hlt).2.1
      have m2 := (hcs k hlt).2.2
      obtain ⟨x0, hx0⟩ : ∃ z, (elAt ws k).a0 = z := ⟨_, rfl⟩
      obtain ⟨x1, hx1⟩ : ∃ z, (elAt ws k).a1 = z := ⟨_, rfl⟩
      obtain ⟨x2, hx2⟩ : ∃ z, (elAt ws k).a2 = z := ⟨_, rfl⟩
      have hxx : elAt ws k = ⟨x0, x1, x2⟩ := by rw [← hx0, ← hx1, ← hx2]
      rw [hx0] at m0
      rw [hx1] at m1
      rw [hx2] at m2
      have k0 : (0 : Int) ≤ (k : Int) := by omega
      have k1 : (k : Int) < (ws.length : Int) := by omega
      obtain ⟨V, hV⟩ : ∃ V, V = wr.alloc (Obj.cells #[.int .i64 x0, .int .i64 x1, .int .i64 x2] 91) := ⟨_, rfl⟩
      have bV : Below wr.heap.size wr V := by rw [hV]; exact bel1 _
      have K0 := hide ((unhide KB0).below bV)
      have K1 := hide ((unhide KB1).below bV)
      have BV := hide ((unhide BB).trans (bV.mono (unhide BB).size))
      have K2 : Hid (Blk V wr.heap.size [.int .i64 x0, .int .i64 x1, .int .i64 x2]) := hide (by rw [hV]; exact Blk.new _ _)
      obtain ⟨X, hX⟩ : ∃ X, wr.heap.size = X := ⟨_, rfl⟩
      rw [hX] at K2
      have HV := hide hV
      have HX := hide hX
      have HXX := hide hxx
      clear hcs hV hX bV hx0 hx1 hx2 hxx
      have hk4 : k ≤ 40 := by omega
      go_upto_region 6 with fail
      rw [← unhide HV, unhide HX]
      clear HV HX m0 m1 m2
      obtain ⟨ι, fW, _, hb, hall⟩ := belClass V
      have HB := hide hb
      have HA := hide hall
      have c00 : ∀ x, (fW x).cell? ⟨w.heap.size, 0, none⟩ = some (.int .i64 fr) := fun x => ((unhide K0).below (hb x)).c 0 (by simp)
      have c01 : ∀ x, (fW x).cell? ⟨w.heap.size, 1, none⟩ = some (.int .i64 pa) := fun x => ((unhide K0).below (hb x)).c 1 (by simp)
      have c02 : ∀ x, (fW x).cell? ⟨w.heap.size, 2, none⟩ = some (.slice (some ⟨bb, off, none⟩) ws.length dc) := fun x => ((unhide K0).below (hb x)).c 2 (by simp)
      have c10 : ∀ x, (fW x).cell? ⟨w.heap.size + 1, 0, none⟩ = some (.int .i64 (k : Int)) := fun x => ((unhide K1).below (hb x)).c 0 (by simp)
      have c20 : ∀ x, (fW x).cell? ⟨X, 0, none⟩ = some (.int .i64 x0) := fun x => ((unhide K2).below (hb x)).c 0 (by simp)
      have c21 : ∀ x, (fW x).cell? ⟨X, 1, none⟩ = some (.int .i64 x1) := fun x => ((unhide K2).below (hb x)).c 1 (by simp)
      have c22 : ∀ x, (fW x).cell? ⟨X, 2, none⟩ = some (.int .i64 x2) := fun x => ((unhide K2).below (hb x)).c 2 (by simp)
      clear hb hall
      obtain ⟨y0, h0⟩ := (unhide HA) V (Below.refl _ _)
      rw [h0]
      clear h0
      cases q5 : wnB fr pa E ⟨x0, x1, x2⟩ with
      | false =>
        have HC := hide ((pwC_at hlt (by rw [unhide HPE, unhide HXX]; exact q5) (unhide HJ)).symm.trans (unhide HN))
        go_wp2_with (first | first | (go_at_call 68; refine (belQ (unhide HB) (unhide HA) (windowOk_is _ _ _ _ _ _ _ _ _ _ hf hp (by exact q5))).mono ?_; rintro e _ ⟨rfl, y, rfl⟩) | (go_at_call 53; refine (belQ (unhide HB) (unhide HA) (windowEnd_is _ _ _ _ (by omega) (by omega))).mono ?_; rintro e _ ⟨rfl, y, rfl⟩) | (go_at_call 70; refine (int64Load_is _ _ _ ((unhide K1).below (unhide HB _))).mono ?_; rintro e _ ⟨rfl, rfl⟩))
        go_ret
        exact ⟨ret_int (by rw [unhide HC]), (unhide BV).trans ((unhide HB _).mono (unhide BV).size)⟩
      | true =>
        have g := wnB_facts q5
        dsimp only at g
        go_wp2_with (first | first | (go_at_call 68; refine (belQ (unhide HB) (unhide HA) (windowOk_is _ _ _ _ _ _ _ _ _ _ hf hp (by exact q5))).mono ?_; rintro e _ ⟨rfl, y, rfl⟩) | (go_at_call 53; refine (belQ (unhide HB) (unhide HA) (windowEnd_is _ _ _ _ (by omega) (by omega))).mono ?_; rintro e _ ⟨rfl, y, rfl⟩) | (go_at_call 69; refine (int64Add_is _ _ _ (by omega) ((unhide K1).below (unhide HB _))).mono ?_; rintro e _ ⟨rfl, rfl⟩))
        go_roundw
        case rel =>
          refine ⟨k + 1, x1 + x2, by omega, rfl, by go_num, by omega, hide (by show (elAt ws k).a1 + (elAt ws k).a2 = _; rw [unhide HXX]), hide (fun j hj => by rcases Nat.lt_succ_iff_lt_or_eq.1 hj with h | h; exact unhide HJ j h; subst h; rw [unhide HPE, unhide HXX]; exact q5), hide (((unhide K0).below (unhide HB _)).other (p := ⟨w.heap.size + 1, 0, none⟩) (by show w.heap.size + 1 ≠ w.heap.size; omega) _), hide (blk_count ((unhide K1).below (unhide HB _))), hide (((unhide BV).trans ((unhide HB _).mono (unhide BV).size)).setCell (p := ⟨w.heap.size + 1, 0, none⟩) (by simp) _)⟩
        case measure => simp [intOf]; omega
    · have hkl : k = ws.length := by omega
      have HC := hide ((pwC_all (fun j hj => unhide HJ j (by omega))).symm.trans (unhide HN))
      have k1 : ¬ (k : Int) < (ws.length : Int) := by omega
      go_wp2_with (go_at_call 70; refine (int64Load_is _ _ _ (unhide KB1)).mono ?_; rintro e _ ⟨rfl, rfl⟩)
      go_ret
      exact ⟨ret_int (by rw [unhide HC]), unhide BB⟩

set_option maxRecDepth 20000 in
set_option maxHeartbeats 2000000 in
theorem implPlanOk_is {b : Bool} (fr pa : Int) (da : Option Addr) (dn dc : Nat) (ws : List Wn) (w : World) (hr : RowE 3 wnC w da dn ws) (hc : ppB fr pa ws = b) :
    Calls Try.prog 28 #[.agg #[.int .i64 fr, .int .i64 pa, .slice da dn dc]] w fun e w' => e = .returned (.bool b) ∧ Below w.heap.size w w' := by
  have hz := hr.len_eq
  have hs := hr.small
  have HR := hide hr
  clear hr
  subst hz
  obtain ⟨n, hn⟩ : ∃ n, pwC fr pa ws = n := ⟨_, rfl⟩
  have hw := pwC_is fr pa ws
  rw [hn] at hw
  have hnl := hw.2
  rw [ppB, hw.1] at hc
  have HN := hide hn
  clear hn hw
  rcases four (inB fr 1 100000) (inB pa 1 10) (decide (ws.length ≤ 40)) (decide (n = ws.length)) with ⟨q1, hv⟩ | ⟨q1, q2, hv⟩ | ⟨q1, q2, q3, hv⟩ | ⟨q1, q2, q3, q4, hv⟩ | ⟨q1, q2, q3, q4, hv⟩
  all_goals
    have HE := hide (hv.symm.trans hc)
    clear hc hv
    try (have l1 : ws.length ≤ 40 := by simpa only [decide_eq_true_eq] using q3)
    try (have l2 : ¬ ws.length ≤ 40 := by simpa only [decide_eq_false_iff_not] using q3)
    try (have l3 : decide ((ws.length : Int) ≤ 40) = false := decide_eq_false (by omega))
    try (have l4 : decide ((ws.length : Int) ≤ 40) = true := decide_eq_true (by omega))
    try (have l5 : ((n : Int) == (ws.length : Int)) = false := by simp only [decide_eq_false_iff_not] at q4; simp only [beq_eq_false_iff_ne, ne_eq]; omega)
    try (have l6 : ((n : Int) == (ws.length : Int)) = true := by simp only [decide_eq_true_eq] at q4; simp only [beq_iff_eq]; omega)
    try (have f1 := in_facts (show inB fr 1 100000 = true from q1))
    try (have f2 := in_facts (show inB pa 1 10 = true from q2))
    go_enter Try.func28, Try.ntmps28
    go_wp2_with fail
    obtain ⟨W, hW⟩ : ∃ W, W = (w.alloc (Obj.cells #[.int .i64 fr, .int .i64 pa, .slice da ws.length dc] 53)) := ⟨_, rfl⟩
    rw [← hW]
    have K0 : Hid (Blk W (w.heap.size) [.int .i64 fr, .int .i64 pa, .slice da ws.length dc]) := hide (by rw [hW]; exact Blk.new _ _)
    have B0 : Hid (Below w.heap.size w W) := hide (by rw [hW]; exact (by repeat (first | exact Below.refl _ _ | refine Below.alloc ?_ (by simp; try omega) _ | refine Below.setCell ?_ (by simp; try omega) _ | refine taDr ?_ _)))
    clear hW
    obtain ⟨ι, fW, _, hb, hall⟩ := belClass W
    have HB := hide hb
    have HA := hide hall
    have c00 : ∀ x, (fW x).cell? ⟨w.heap.size, 0, none⟩ = some (.int .i64 fr) := fun x => ((unhide K0).below (hb x)).c 0 (by simp)
    have c01 : ∀ x, (fW x).cell? ⟨w.heap.size, 1, none⟩ = some (.int .i64 pa) := fun x => ((unhide K0).below (hb x)).c 1 (by simp)
    have c02 : ∀ x, (fW x).cell? ⟨w.heap.size, 2, none⟩ = some (.slice da ws.length dc) := fun x => ((unhide K0).below (hb x)).c 2 (by simp)
    clear hb hall
    obtain ⟨x0, h0⟩ := (unhide HA) W (Below.refl _ _)
    rw [h0]
    clear h0
    go_wp2_with (first | (go_at_call 35; refine (belS (within_is _ _ _ _ (by first | exact q1 | exact q2))).mono ?_; rintro e _ ⟨rfl, y, rfl⟩) | (go_at_call 55; refine (belQ (unhide HB) (unhide HA) (windowsInOrder_is _ _ _ _ _ ws _ (by omega) (by omega) l1 ((unhide HR).below ((unhide B0).trans ((unhide HB _).mono (unhide B0).size))) (unhide HN))).mono ?_; rintro e _ ⟨rfl, y, rfl⟩))
    repeat (refine wp_region_bel (fun w' h => (unhide HA) w' ((unhide HB _).trans (h.mono (unhide HB _).size))) (by kernel_rfl) (by kernel_rfl) ?_; (repeat (go_big_quiet_step (first | (go_at_call 35; exact belS (within_is _ _ _ _ (by first | exact q1 | exact q2))) | (go_at_call 55; exact belQ (unhide HB) (unhide HA) (windowsInOrder_is _ _ _ _ _ ws _ (by omega) (by omega) l1 ((unhide HR).below ((unhide B0).trans ((unhide HB _).mono (unhide B0).size))) (unhide HN)))))); refine wpQuiet_nil ?_; rintro _ ⟨y, rfl⟩; (first | go_wp2_with (first | (go_at_call 35; refine (belS (within_is _ _ _ _ (by first | exact q1 | exact q2))).mono ?_; rintro e _ ⟨rfl, y, rfl⟩) | (go_at_call 55; refine (belQ (unhide HB) (unhide HA) (windowsInOrder_is _ _ _ _ _ ws _ (by omega) (by omega) l1 ((unhide HR).below ((unhide B0).trans ((unhide HB _).mono (unhide B0).size))) (unhide HN))).mono ?_; rintro e _ ⟨rfl, y, rfl⟩)) | go_wp2))
    go_ret
    exact ⟨ret_bool (unhide HE), (unhide B0).trans ((unhide HB _).mono (unhide B0).size)⟩

end Go.Proofs.Ytndhiecakojjgaf

namespace Go.Proofs.Ytndhiecakojjgaf
open Go.RowKit

set_option maxRecDepth 20000 in
set_option maxHeartbeats 2000000 in
theorem begunBy_is {n : Nat} (fr pa : Int) (da : Option Addr) (dn dc : Nat) (ws : List Wn) (a : Int) (w : World) (hr : RowE 3 wnC w da dn ws) (hn : bgN ws a = n) :
    Calls Try.prog 67 #[.agg #[.int .i64 fr, .int .i64 pa, .slice da dn dc], .int .i64 a] w fun e w' => e = .returned (.int .i64 (n : Int)) ∧ Below w.heap.size w w' := by
  have hz := hr.len_eq
  have hs := hr.small
  have HR := hide hr
  clear hr
  subst hz
  obtain ⟨W, hW⟩ : ∃ W, W = w.alloc (Obj.cells #[.int .i64 fr, .int .i64 pa, .slice da ws.length dc] 53) := ⟨_, rfl⟩
  have K0 : Hid (Blk W w.heap.size [.int .i64 fr, .int .i64 pa, .slice da ws.length dc]) := hide (by rw [hW]; exact Blk.new _ _)
  have B0 : Hid (Below w.heap.size w W) := hide (by rw [hW]; exact bel1 _)
  have HW := hide hW
  clear hW
  have HN := hide hn
  clear hn
  obtain ⟨ι, fW, _, hb, hall⟩ := belClass W
  have HB := hide hb
  have HA := hide hall
  have c0 : ∀ x, (fW x).cell? ⟨w.heap.size, 0, none⟩ = some (.int .i64 fr) := fun x => ((unhide K0).below (hb x)).c 0 (by simp)
  have c1 : ∀ x, (fW x).cell? ⟨w.heap.size, 1, none⟩ = some (.int .i64 pa) := fun x => ((unhide K0).below (hb x)).c 1 (by simp)
  have c2 : ∀ x, (fW x).cell? ⟨w.heap.size, 2, none⟩ = some (.slice da ws.length dc) := fun x => ((unhide K0).below (hb x)).c 2 (by simp)
  clear hb hall
  obtain ⟨y0, h0⟩ := (unhide HA) W (Below.refl _ _)
  go_enter Try.func67, Try.ntmps67
  go_upto_region 1 with fail
  rw [← unhide HW, h0]
  clear HW h0
  go_wp2_with fail
  go_loopw [5] (fun s5 wr => ∃ (k : Nat) (x : ι), k ≤ ws.length ∧ s5 = .int .i64 (k : Int) ∧ Hid (∀ j, j < k → (elAt ws j).a1 ≤ a) ∧ wr = fW x) (fun s5 _ => ws.length - (intOf s5).toNat)
  case atStart => exact ⟨0, _, Nat.zero_le _, rfl, hide (fun j hj => by omega), rfl⟩
  case round =>
    obtain ⟨k, x, hk, rfl, HJ, rfl⟩ := hrel
    by_cases hlt : k < ws.length
    · rcases (((unhide HR).below (unhide B0)).wn3) with ⟨z0, _⟩ | ⟨bb, off, rfl, _, hcs⟩
      · omega
      obtain ⟨x1, hx1⟩ : ∃ z, (elAt ws k).a1 = z := ⟨_, rfl⟩
      have m1 : ∀ x, (fW x).cell? ⟨bb, off + k * 3 + 1, none⟩ = some (.int .i64 x1) := fun x => by rw [← hx1]; exact ((unhide HB x).cell (block_lt_of_cell (hcs k hlt).2.1)).trans (hcs k hlt).2.1
      have k0 : (0 : Int) ≤ (k : Int) := by omega
      have k1 : (k : Int) < (ws.length : Int) := by omega
      have k2 : decide ((k : Int) < (ws.length : Int)) = true := decide_eq_true k1
      have HX1 := hide hx1
      clear hcs hx1
      by_cases q : x1 ≤ a
      · have q2 : decide (x1 ≤ a) = true := decide_eq_true q
        go_wp2_with fail
        go_roundw
        case rel => exact ⟨k + 1, _, by omega, by go_num, hide (fun j hj => by rcases Nat.lt_succ_iff_lt_or_eq.1 hj with h | h; exact unhide HJ j h; subst h; rw [unhide HX1]; exact q), rfl⟩
        case measure => simp [intOf]; omega
      · have q2 : decide (x1 ≤ a) = false := decide_eq_false q
        have HC := hide ((bgN_at hlt (by rw [unhide HX1]; omega) (unhide HJ)).symm.trans (unhide HN))
        go_wp2_with fail
        go_ret
        exact ⟨ret_int (by rw [unhide HC]), (unhide B0).trans ((unhide HB _).mono (unhide B0).size)⟩
    · have hkl : k = ws.length := by omega
      have HC := hide ((bgN_all (fun j hj => unhide HJ j (by omega))).symm.trans (unhide HN))
      have k1 : ¬ (k : Int) < (ws.length : Int) := by omega
      have k2 : decide ((k : Int) < (ws.length : Int)) = false := decide_eq_false k1
      clear hkl
      go_wp2_with fail
      go_ret
      exact ⟨ret_int (by have := unhide HC; omega), (unhide B0).trans ((unhide HB _).mono (unhide B0).size)⟩

set_option maxRecDepth 20000 in
set_option maxHeartbeats 2000000 in
theorem ownerOf_is {r : Int} (fr pa : Int) (da : Option Addr) (dn dc : Nat) (ws : List Wn) (t : Int) (w : World) (hr : RowE 3 wnC w da dn ws) (hp : ppB fr pa ws = true) (ht : 0 ≤ t ∧ t ≤ 100000000) (hc : owR fr pa ws t = r) :
    Calls Try.prog 54 #[.agg #[.int .i64 fr, .int .i64 pa, .slice da dn dc], .int .i64 t] w fun e w' => e = .returned (.int .i64 r) ∧ Below w.heap.size w w' := by
  have hz := hr.len_eq
  have hs := hr.small
  have HR := hide hr
  clear hr
  subst hz
  have f0 := ppB_facts hp
  have f1 := f0.1
  have l1 := f0.2.2.1
  obtain ⟨A, hA⟩ : ∃ A, t % fr = A := ⟨_, rfl⟩
  have hA0 : 0 ≤ A ∧ A < fr := by rw [← hA]; exact ⟨Int.emod_nonneg _ (by omega), Int.emod_lt_of_pos _ (by omega)⟩
  have hAt : t.tmod fr = A := by rw [Int.tmod_eq_emod_of_nonneg ht.1]; exact hA
  have hf0 : ¬ fr = 0 := by omega
  have hob : owB fr pa ws t = true := by simp only [owB, hp, inB, Bool.true_and, decide_eq_true_eq]; omega
  have ob := owF_begun hp (a := A)
  have HA' := hide hA
  have HPP := hide hp
  clear f0 hp
  cases hn : bgN ws A with
  | zero =>
    have HE := hide ((ow_none (fr := fr) (pa := pa) (t := t) (by rw [hA]; exact ob.1 hn)).symm.trans hc)
    have HN := hide hn
    clear hA hc ob hn hob
    go_enter Try.func54, Try.ntmps54
    go_wp2_with fail
    obtain ⟨W, hW⟩ : ∃ W, W = (w.alloc (Obj.cells #[.int .i64 fr, .int .i64 pa, .slice da ws.length dc] 53)) := ⟨_, rfl⟩
    rw [← hW]
    have K0 : Hid (Blk W (w.heap.size) [.int .i64 fr, .int .i64 pa, .slice da ws.length dc]) := hide (by rw [hW]; exact Blk.new _ _)
    have B0 : Hid (Below w.heap.size w W) := hide (by rw [hW]; exact (by repeat (first | exact Below.refl _ _ | refine Below.alloc ?_ (by simp; try omega) _ | refine Below.setCell ?_ (by simp; try omega) _ | refine taDr ?_ _)))
    clear hW
    obtain ⟨ι, fW, _, hb, hall⟩ := belClass W
    have HB := hide hb
    have HA := hide hall
    have c00 : ∀ x, (fW x).cell? ⟨w.heap.size, 0, none⟩ = some (.int .i64 fr) := fun x => ((unhide K0).below (hb x)).c 0 (by simp)
    have c01 : ∀ x, (fW x).cell? ⟨w.heap.size, 1, none⟩ = some (.int .i64 pa) := fun x => ((unhide K0).below (hb x)).c 1 (by simp)
    have c02 : ∀ x, (fW x).cell? ⟨w.heap.size, 2, none⟩ = some (.slice da ws.length dc) := fun x => ((unhide K0).below (hb x)).c 2 (by simp)
    clear hb hall
    obtain ⟨x0, h0⟩ := (unhide HA) W (Below.refl _ _)
    rw [h0]
    clear h0
    go_wp2_with (first | (go_at_call 67; refine (belQ (unhide HB) (unhide HA) (begunBy_is _ _ _ _ _ ws _ _ ((unhide HR).below ((unhide B0).trans ((unhide HB _).mono (unhide B0).size))) (unhide HN))).mono ?_; rintro e _ ⟨rfl, y, rfl⟩))
    repeat (refine wp_region_bel (fun w' h => (unhide HA) w' ((unhide HB _).trans (h.mono (unhide HB _).size))) (by kernel_rfl) (by kernel_rfl) ?_; (repeat (go_big_quiet_step (first | (go_at_call 67; exact belQ (unhide HB) (unhide HA) (begunBy_is _ _ _ _ _ ws _ _ ((unhide HR).below ((unhide B0).trans ((unhide HB _).mono (unhide B0).size))) (unhide HN)))))); refine wpQuiet_nil ?_; rintro _ ⟨y, rfl⟩; (first | go_wp2_with (first | (go_at_call 67; refine (belQ (unhide HB) (unhide HA) (begunBy_is _ _ _ _ _ ws _ _ ((unhide HR).below ((unhide B0).trans ((unhide HB _).mono (unhide B0).size))) (unhide HN))).mono ?_; rintro e _ ⟨rfl, y, rfl⟩)) | go_wp2))
    go_ret
    exact ⟨ret_int (unhide HE), (unhide B0).trans ((unhide HB _).mono (unhide B0).size)⟩
  | succ m =>
    have om := ob.2 m hn
    have hlt := om.1
    have hall := ppB_all (unhide HPP) hlt
    rcases (unhide HR).wn3 with ⟨z0, _⟩ | ⟨bb, off, rfl, _, hcs⟩
    · omega
    have n0 := (hcs m hlt).1
    have n1 := (hcs m hlt).2.1
    have n2 := (hcs m hlt).2.2
    obtain ⟨v0, hv0⟩ : ∃ z, (elAt ws m).a0 = z := ⟨_, rfl⟩
    obtain ⟨v1, hv1⟩ : ∃ z, (elAt ws m).a1 = z := ⟨_, rfl⟩
    obtain ⟨v2, hv2⟩ : ∃ z, (elAt ws m).a2 = z := ⟨_, rfl⟩
    rw [hv0, hv1, hv2] at hall
    rw [hv0] at n0
    rw [hv1] at n1
    rw [hv2] at n2
    rw [hv1, hv2] at om
    have HM := hide n0
    have HM1 := hide n1
    have HM2 := hide n2
    have HN := hide hn
    have k0 : (0 : Int) ≤ (m : Int) := by omega
    have k1 : (m : Int) < (ws.length : Int) := by omega
    have k3 : IntKind.i64.wrap ((m : Int) + 1 - 1) = (m : Int) := by rw [IntKind.wrap_i64]; omega
    by_cases q : v1 + v2 ≤ A
    · have HE := hide ((ow_none (fr := fr) (pa := pa) (t := t) (by rw [hA]; exact om.2.1 q)).symm.trans hc)
      clear hA hc ob om hn hob hcs hv0 hv1 hv2 n0 n1 n2
      go_enter Try.func54, Try.ntmps54
      go_wp2_with fail
      obtain ⟨W, hW⟩ : ∃ W, W = (w.alloc (Obj.cells #[.int .i64 fr, .int .i64 pa, .slice (some ⟨bb, off, none⟩) ws.length dc] 53)) := ⟨_, rfl⟩
      rw [← hW]
      have K0 : Hid (Blk W (w.heap.size) [.int .i64 fr, .int .i64 pa, .slice (some ⟨bb, off, none⟩) ws.length dc]) := hide (by rw [hW]; exact Blk.new _ _)
      have B0 : Hid (Below w.heap.size w W) := hide (by rw [hW]; exact (by repeat (first | exact Below.refl _ _ | refine Below.alloc ?_ (by simp; try omega) _ | refine Below.setCell ?_ (by simp; try omega) _ | refine taDr ?_ _)))
      clear hW
      obtain ⟨ι, fW, _, hb, hall⟩ := belClass W
      have HB := hide hb
      have HA := hide hall
      have c00 : ∀ x, (fW x).cell? ⟨w.heap.size, 0, none⟩ = some (.int .i64 fr) := fun x => ((unhide K0).below (hb x)).c 0 (by simp)
      have c01 : ∀ x, (fW x).cell? ⟨w.heap.size, 1, none⟩ = some (.int .i64 pa) := fun x => ((unhide K0).below (hb x)).c 1 (by simp)
      have c02 : ∀ x, (fW x).cell? ⟨w.heap.size, 2, none⟩ = some (.slice (some ⟨bb, off, none⟩) ws.length dc) := fun x => ((unhide K0).below (hb x)).c 2 (by simp)
      clear hb hall
      obtain ⟨x0, h0⟩ := (unhide HA) W (Below.refl _ _)
      rw [h0]
      clear h0
      have m0 : ∀ x, (fW x).cell? ⟨bb, off + m * 3, none⟩ = some (.int .i64 v0) := fun x => (((unhide B0).trans ((unhide HB x).mono (unhide B0).size)).cell (block_lt_of_cell (unhide HM))).trans (unhide HM)
      have m1 : ∀ x, (fW x).cell? ⟨bb, off + m * 3 + 1, none⟩ = some (.int .i64 v1) := fun x => (((unhide B0).trans ((unhide HB x).mono (unhide B0).size)).cell (block_lt_of_cell (unhide HM1))).trans (unhide HM1)
      have m2 : ∀ x, (fW x).cell? ⟨bb, off + m * 3 + 2, none⟩ = some (.int .i64 v2) := fun x => (((unhide B0).trans ((unhide HB x).mono (unhide B0).size)).cell (block_lt_of_cell (unhide HM2))).trans (unhide HM2)
      go_wp2_with (first | (go_at_call 67; refine (belQ (unhide HB) (unhide HA) (begunBy_is _ _ _ _ _ ws _ _ ((unhide HR).below ((unhide B0).trans ((unhide HB _).mono (unhide B0).size))) (unhide HN))).mono ?_; rintro e _ ⟨rfl, y, rfl⟩) | (go_at_call 53; refine (belQ (unhide HB) (unhide HA) (windowEnd_is _ _ _ _ (by omega) (by omega))).mono ?_; rintro e _ ⟨rfl, y, rfl⟩))
      repeat (refine wp_region_bel (fun w' h => (unhide HA) w' ((unhide HB _).trans (h.mono (unhide HB _).size))) (by kernel_rfl) (by kernel_rfl) ?_; (repeat (go_big_quiet_step (first | (go_at_call 67; exact belQ (unhide HB) (unhide HA) (begunBy_is _ _ _ _ _ ws _ _ ((unhide HR).below ((unhide B0).trans ((unhide HB _).mono (unhide B0).size))) (unhide HN))) | (go_at_call 53; exact belQ (unhide HB) (unhide HA) (windowEnd_is _ _ _ _ (by omega) (by omega)))))); refine wpQuiet_nil ?_; rintro _ ⟨y, rfl⟩; (first | go_wp2_with (first | (go_at_call 67; refine (belQ (unhide HB) (unhide HA) (begunBy_is _ _ _ _ _ ws _ _ ((unhide HR).below ((unhide B0).trans ((unhide HB _).mono (unhide B0).size))) (unhide HN))).mono ?_; rintro e _ ⟨rfl, y, rfl⟩) | (go_at_call 53; refine (belQ (unhide HB) (unhide HA) (windowEnd_is _ _ _ _ (by omega) (by omega))).mono ?_; rintro e _ ⟨rfl, y, rfl⟩)) | go_wp2))
      go_ret
      exact ⟨ret_int (unhide HE), (unhide B0).trans ((unhide HB _).mono (unhide B0).size)⟩
    · have HE := hide ((ow_at hob hlt (by rw [hA]; exact om.2.2 (by omega))).symm.trans hc)
      rw [hv0] at HE
      clear hA hc ob om hn hob hcs hv0 hv1 hv2 n0 n1 n2
      go_enter Try.func54, Try.ntmps54
      go_wp2_with fail
      obtain ⟨W, hW⟩ : ∃ W, W = (w.alloc (Obj.cells #[.int .i64 fr, .int .i64 pa, .slice (some ⟨bb, off, none⟩) ws.length dc] 53)) := ⟨_, rfl⟩
      rw [← hW]
      have K0 : Hid (Blk W (w.heap.size) [.int .i64 fr, .int .i64 pa, .slice (some ⟨bb, off, none⟩) ws.length dc]) := hide (by rw [hW]; exact Blk.new _ _)
      have B0 : Hid (Below w.heap.size w W) := hide (by rw [hW]; exact (by repeat (first | exact Below.refl _ _ | refine Below.alloc ?_ (by simp; try omega) _ | refine Below.setCell ?_ (by simp; try omega) _ | refine taDr ?_ _)))
      clear hW
      obtain ⟨ι, fW, _, hb, hall⟩ := belClass W
      have HB := hide hb
      have HA := hide hall
      have c00 : ∀ x, (fW x).cell? ⟨w.heap.size, 0, none⟩ = some (.int .i64 fr) := fun x => ((unhide K0).below (hb x)).c 0 (by simp)
      have c01 : ∀ x, (fW x).cell? ⟨w.heap.size, 1, none⟩ = some (.int .i64 pa) := fun x => ((unhide K0).below (hb x)).c 1 (by simp)
      have c02 : ∀ x, (fW x).cell? ⟨w.heap.size, 2, none⟩ = some (.slice (some ⟨bb, off, none⟩) ws.length dc) := fun x => ((unhide K0).below (hb x)).c 2 (by simp)
      clear hb hall
      obtain ⟨x0, h0⟩ := (unhide HA) W (Below.refl _ _)
      rw [h0]
      clear h0
      have m0 : ∀ x, (fW x).cell? ⟨bb, off + m * 3, none⟩ = some (.int .i64 v0) := fun x => (((unhide B0).trans ((unhide HB x).mono (unhide B0).size)).cell (block_lt_of_cell (unhide HM))).trans (unhide HM)
      have m1 : ∀ x, (fW x).cell? ⟨bb, off + m * 3 + 1, none⟩ = some (.int .i64 v1) := fun x => (((unhide B0).trans ((unhide HB x).mono (unhide B0).size)).cell (block_lt_of_cell (unhide HM1))).trans (unhide HM1)
      have m2 : ∀ x, (fW x).cell? ⟨bb, off + m * 3 + 2, none⟩ = some (.int .i64 v2) := fun x => (((unhide B0).trans ((unhide HB x).mono (unhide B0).size)).cell (block_lt_of_cell (unhide HM2))).trans (unhide HM2)
      go_wp2_with (first | (go_at_call 67; refine (belQ (unhide HB) (unhide HA) (begunBy_is _ _ _ _ _ ws _ _ ((unhide HR).below ((unhide B0).trans ((unhide HB _).mono (unhide B0).size))) (unhide HN))).mono ?_; rintro e _ ⟨rfl, y, rfl⟩) | (go_at_call 53; refine (belQ (unhide HB) (unhide HA) (windowEnd_is _ _ _ _ (by omega) (by omega))).mono ?_; rintro e _ ⟨rfl, y, rfl⟩))
      repeat (refine wp_region_bel (fun w' h => (unhide HA) w' ((unhide HB _).trans (h.mono (unhide HB _).size))) (by kernel_rfl) (by kernel_rfl) ?_; (repeat (go_big_quiet_step (first | (go_at_call 67; exact belQ (unhide HB) (unhide HA) (begunBy_is _ _ _ _ _ ws _ _ ((unhide HR).below ((unhide B0).trans ((unhide HB _).mono (unhide B0).size))) (unhide HN))) | (go_at_call 53; exact belQ (unhide HB) (unhide HA) (windowEnd_is _ _ _ _ (by omega) (by omega)))))); refine wpQuiet_nil ?_; rintro _ ⟨y, rfl⟩; (first | go_wp2_with (first | (go_at_call 67; refine (belQ (unhide HB) (unhide HA) (begunBy_is _ _ _ _ _ ws _ _ ((unhide HR).below ((unhide B0).trans ((unhide HB _).mono (unhide B0).size))) (unhide HN))).mono ?_; rintro e _ ⟨rfl, y, rfl⟩) | (go_at_call 53; refine (belQ (unhide HB) (unhide HA) (windowEnd_is _ _ _ _ (by omega) (by omega))).mono ?_; rintro e _ ⟨rfl, y, rfl⟩)) | go_wp2))
      go_ret
      exact ⟨ret_int (unhide HE), (unhide B0).trans ((unhide HB _).mono (unhide B0).size)⟩

set_option maxRecDepth 20000 in
set_option maxHeartbeats 2000000 in
theorem implOwner_is {n : Int} {b : Bool} (fr pa : Int) (da : Option Addr) (dn dc : Nat) (ws : List Wn) (t : Int) (w : World) (hr : RowE 3 wnC w da dn ws) (hn : owR fr pa ws t = n) (hb : owB fr pa ws t = b) :
    Calls Try.prog 26 #[.agg #[.int .i64 fr, .int .i64 pa, .slice da dn dc], .int .i64 t] w fun e w' => e = .returned (.tuple #[.int .i64 n, .bool b]) ∧ Below w.heap.size w w' := by
  have hz := hr.len_eq
  have hs := hr.small
  have HR := hide hr
  clear hr
  subst hz
  rcases two (ppB fr pa ws) (inB t 0 100000000) with ⟨q1, hv⟩ | ⟨q1, q2, hv⟩ | ⟨q1, q2, hv⟩
  · have HE := hide ((show owB fr pa ws t = false from hv).symm.trans hb)
    have HN := hide ((ow_no (show owB fr pa ws t = false from hv)).symm.trans hn)
    clear hb hn hv
    go_enter Try.func26, Try.ntmps26
    go_wp2_with fail
    obtain ⟨W, hW⟩ : ∃ W, W = (w.alloc (Obj.cells #[.int .i64 fr, .int .i64 pa, .slice da ws.length dc] 53)) := ⟨_, rfl⟩
    rw [← hW]
    have K0 : Hid (Blk W (w.heap.size) [.int .i64 fr, .int .i64 pa, .slice da ws.length dc]) := hide (by rw [hW]; exact Blk.new _ _)
    have B0 : Hid (Below w.heap.size w W) := hide (by rw [hW]; exact (by repeat (first | exact Below.refl _ _ | refine Below.alloc ?_ (by simp; try omega) _ | refine Below.setCell ?_ (by simp; try omega) _ | refine taDr ?_ _)))
    clear hW
    obtain ⟨ι, fW, _, hb, hall⟩ := belClass W
    have HB := hide hb
    have HA := hide hall
    have c00 : ∀ x, (fW x).cell? ⟨w.heap.size, 0, none⟩ = some (.int .i64 fr) := fun x => ((unhide K0).below (hb x)).c 0 (by simp)
    have c01 : ∀ x, (fW x).cell? ⟨w.heap.size, 1, none⟩ = some (.int .i64 pa) := fun x => ((unhide K0).below (hb x)).c 1 (by simp)
    have c02 : ∀ x, (fW x).cell? ⟨w.heap.size, 2, none⟩ = some (.slice da ws.length dc) := fun x => ((unhide K0).below (hb x)).c 2 (by simp)
    clear hb hall
    obtain ⟨x0, h0⟩ := (unhide HA) W (Below.refl _ _)
    rw [h0]
    clear h0
    go_wp2_with (first | (go_at_call 28; refine (belQ (unhide HB) (unhide HA) (implPlanOk_is _ _ _ _ _ ws _ ((unhide HR).below ((unhide B0).trans ((unhide HB _).mono (unhide B0).size))) (by exact q1))).mono ?_; rintro e _ ⟨rfl, y, rfl⟩))
    repeat (refine wp_region_bel (fun w' h => (unhide HA) w' ((unhide HB _).trans (h.mono (unhide HB _).size))) (by kernel_rfl) (by kernel_rfl) ?_; (repeat (go_big_quiet_step (first | (go_at_call 28; exact belQ (unhide HB) (unhide HA) (implPlanOk_is _ _ _ _ _ ws _ ((unhide HR).below ((unhide B0).trans ((unhide HB _).mono (unhide B0).size))) (by exact q1)))))); refine wpQuiet_nil ?_; rintro _ ⟨y, rfl⟩; (first | go_wp2_with (first | (go_at_call 28; refine (belQ (unhide HB) (unhide HA) (implPlanOk_is _ _ _ _ _ ws _ ((unhide HR).below ((unhide B0).trans ((unhide HB _).mono (unhide B0).size))) (by exact q1))).mono ?_; rintro e _ ⟨rfl, y, rfl⟩)) | go_wp2))
    go_ret2
    exact ⟨ret_ib (unhide HN) (unhide HE), (unhide B0).trans ((unhide HB _).mono (unhide B0).size)⟩
  · have HE := hide ((show owB fr pa ws t = false from hv).symm.trans hb)
    have HN := hide ((ow_no (show owB fr pa ws t = false from hv)).symm.trans hn)
    clear hb hn hv
    go_enter Try.func26, Try.ntmps26
    go_wp2_with fail
    obtain ⟨W, hW⟩ : ∃ W, W = (w.alloc (Obj.cells #[.int .i64 fr, .int .i64 pa, .slice da ws.length dc] 53)) := ⟨_, rfl⟩
    rw [← hW]
    have K0 : Hid (Blk W (w.heap.size) [.int .i64 fr, .int .i64 pa, .slice da ws.length dc]) := hide (by rw [hW]; exact Blk.new _ _)
    have B0 : Hid (Below w.heap.size w W) := hide (by rw [hW]; exact (by repeat (first | exact Below.refl _ _ | refine Below.alloc ?_ (by simp; try omega) _ | refine Below.setCell ?_ (by simp; try omega) _ | refine taDr ?_ _)))
    clear hW
    obtain ⟨ι, fW, _, hb, hall⟩ := belClass W
    have HB := hide hb
    have HA := hide hall
    have c00 : ∀ x, (fW x).cell? ⟨w.heap.size, 0, none⟩ = some (.int .i64 fr) := fun x => ((unhide K0).below (hb x)).c 0 (by simp)
    have c01 : ∀ x, (fW x).cell? ⟨w.heap.size, 1, none⟩ = some (.int .i64 pa) := fun x => ((unhide K0).below (hb x)).c 1 (by simp)
    have c02 : ∀ x, (fW x).cell? ⟨w.heap.size, 2, none⟩ = some (.slice da ws.length dc) := fun x => ((unhide K0).below (hb x)).c 2 (by simp)
    clear hb hall
    obtain ⟨x0, h0⟩ := (unhide HA) W (Below.refl _ _)
    rw [h0]
    clear h0
    go_wp2_with (first | (go_at_call 28; refine (belQ (unhide HB) (unhide HA) (implPlanOk_is _ _ _ _ _ ws _ ((unhide HR).below ((unhide B0).trans ((unhide HB _).mono (unhide B0).size))) (by exact q1))).mono ?_; rintro e _ ⟨rfl, y, rfl⟩) | (go_at_call 35; refine (belS (within_is _ _ _ _ (by exact q2))).mono ?_; rintro e _ ⟨rfl, y, rfl⟩))
    repeat (refine wp_region_bel (fun w' h => (unhide HA) w' ((unhide HB _).trans (h.mono (unhide HB _).size))) (by kernel_rfl) (by kernel_rfl) ?_; (repeat (go_big_quiet_step (first | (go_at_call 28; exact belQ (unhide HB) (unhide HA) (implPlanOk_is _ _ _ _ _ ws _ ((unhide HR).below ((unhide B0).trans ((unhide HB _).mono (unhide B0).size))) (by exact q1))) | (go_at_call 35; exact belS (within_is _ _ _ _ (by exact q2)))))); refine wpQuiet_nil ?_; rintro _ ⟨y, rfl⟩; (first | go_wp2_with (first | (go_at_call 28; refine (belQ (unhide HB) (unhide HA) (implPlanOk_is _ _ _ _ _ ws _ ((unhide HR).below ((unhide B0).trans ((unhide HB _).mono (unhide B0).size))) (by exact q1))).mono ?_; rintro e _ ⟨rfl, y, rfl⟩) | (go_at_call 35; refine (belS (within_is _ _ _ _ (by exact q2))).mono ?_; rintro e _ ⟨rfl, y, rfl⟩)) | go_wp2))
    go_ret2
    exact ⟨ret_ib (unhide HN) (unhide HE), (unhide B0).trans ((unhide HB _).mono (unhide B0).size)⟩
  · have HE := hide ((show owB fr pa ws t = true from hv).symm.trans hb)
    have f2 := in_facts q2
    have HNN := hide hn
    clear hb hn hv
    go_enter Try.func26, Try.ntmps26
    go_wp2_with fail
    obtain ⟨W, hW⟩ : ∃ W, W = (w.alloc (Obj.cells #[.int .i64 fr, .int .i64 pa, .slice da ws.length dc] 53)) := ⟨_, rfl⟩
    rw [← hW]
    have K0 : Hid (Blk W (w.heap.size) [.int .i64 fr, .int .i64 pa, .slice da ws.length dc]) := hide (by rw [hW]; exact Blk.new _ _)
    have B0 : Hid (Below w.heap.size w W) := hide (by rw [hW]; exact (by repeat (first | exact Below.refl _ _ | refine Below.alloc ?_ (by simp; try omega) _ | refine Below.setCell ?_ (by simp; try omega) _ | refine taDr ?_ _)))
    clear hW
    obtain ⟨ι, fW, _, hb, hall⟩ := belClass W
    have HB := hide hb
    have HA := hide hall
    have c00 : ∀ x, (fW x).cell? ⟨w.heap.size, 0, none⟩ = some (.int .i64 fr) := fun x => ((unhide K0).below (hb x)).c 0 (by simp)
    have c01 : ∀ x, (fW x).cell? ⟨w.heap.size, 1, none⟩ = some (.int .i64 pa) := fun x => ((unhide K0).below (hb x)).c 1 (by simp)
    have c02 : ∀ x, (fW x).cell? ⟨w.heap.size, 2, none⟩ = some (.slice da ws.length dc) := fun x => ((unhide K0).below (hb x)).c 2 (by simp)
    clear hb hall
    obtain ⟨x0, h0⟩ := (unhide HA) W (Below.refl _ _)
    rw [h0]
    clear h0
    go_wp2_with (first | (go_at_call 28; refine (belQ (unhide HB) (unhide HA) (implPlanOk_is _ _ _ _ _ ws _ ((unhide HR).below ((unhide B0).trans ((unhide HB _).mono (unhide B0).size))) (by exact q1))).mono ?_; rintro e _ ⟨rfl, y, rfl⟩) | (go_at_call 35; refine (belS (within_is _ _ _ _ (by exact q2))).mono ?_; rintro e _ ⟨rfl, y, rfl⟩) | (go_at_call 54; refine (belQ (unhide HB) (unhide HA) (ownerOf_is _ _ _ _ _ ws _ _ ((unhide HR).below ((unhide B0).trans ((unhide HB _).mono (unhide B0).size))) (by exact q1) f2 (unhide HNN))).mono ?_; rintro e _ ⟨rfl, y, rfl⟩))
    repeat (refine wp_region_bel (fun w' h => (unhide HA) w' ((unhide HB _).trans (h.mono (unhide HB _).size))) (by kernel_rfl) (by kernel_rfl) ?_; (repeat (go_big_quiet_step (first | (go_at_call 28; exact belQ (unhide HB) (unhide HA) (implPlanOk_is _ _ _ _ _ ws _ ((unhide HR).below ((unhide B0).trans ((unhide HB _).mono (unhide B0).size))) (by exact q1))) | (go_at_call 35; exact belS (within_is _ _ _ _ (by exact q2))) | (go_at_call 54; exact belQ (unhide HB) (unhide HA) (ownerOf_is _ _ _ _ _ ws _ _ ((unhide HR).below ((unhide B0).trans ((unhide HB _).mono (unhide B0).size))) (by exact q1) f2 (unhide HNN)))))); refine wpQuiet_nil ?_; rintro _ ⟨y, rfl⟩; (first | go_wp2_with (first | (go_at_call 28; refine (belQ (unhide HB) (unhide HA) (implPlanOk_is _ _ _ _ _ ws _ ((unhide HR).below ((unhide B0).trans ((unhide HB _).mono (unhide B0).size))) (by exact q1))).mono ?_; rintro e _ ⟨rfl, y, rfl⟩) | (go_at_call 35; refine (belS (within_is _ _ _ _ (by exact q2))).mono ?_; rintro e _ ⟨rfl, y, rfl⟩) | (go_at_call 54; refine (belQ (unhide HB) (unhide HA) (ownerOf_is _ _ _ _ _ ws _ _ ((unhide HR).below ((unhide B0).trans ((unhide HB _).mono (unhide B0).size))) (by exact q1) f2 (unhide HNN))).mono ?_; rintro e _ ⟨rfl, y, rfl⟩)) | go_wp2))
    go_ret2
    exact ⟨ret_ib rfl (unhide HE), (unhide B0).trans ((unhide HB _).mono (unhide B0).size)⟩

end Go.Proofs.Ytndhiecakojjgaf
