/-
  What the small functions of partitions answer in the program: plain answers; nothing that was there is written.
-/
import Derived.Test.YtndhiecakojjgbaPqPure
import Derived.Test.YtndhiecakojjgbaPpSpec
import Derived.Laws.LoneSync
namespace Go.Proofs.Ytndhiecakojjgba
open Go.RowKit

theorem addInt64_run {a : Addr} {x s : Int} {w : World} (hc : w.cell? a = some (.int .i64 x)) (hz : w.frozen? a = false) (hs : IntKind.i64.wrap (x + 1) = s) : (callFunc 35 #[.pointer (some a), .int .i64 1]).run Try.prog w = .ok (.value (.int .i64 s)) (w.setCell a (.int .i64 s)) :=
  run_call_add Try.func35 (by kernel_rfl) (by kernel_rfl) (by kernel_rfl) .i64 (by kernel_rfl) hc hz (by subst hs; simp [go_sem])
theorem loadInt64_run {a : Addr} {x : Int} {w : World} (hc : w.cell? a = some (.int .i64 x)) : (callFunc 36 #[.pointer (some a)]).run Try.prog w = .ok (.value (.int .i64 x)) w :=
  run_call_load Try.func36 (by kernel_rfl) (by kernel_rfl) (by kernel_rfl) .i64 (by kernel_rfl) hc
set_option maxHeartbeats 400000 in
theorem int64Add_is (B : Nat) (x : Int) (w : World) (hx : 0 ≤ x ∧ x ≤ 100) (hb : Blk w B [.int .i64 x]) :
    Calls Try.prog 32 #[.pointer (some ⟨B, 0, none⟩), .int .i64 1] w fun e w' => e = .returned (.int .i64 (x + 1)) ∧ w' = w.setCell ⟨B, 0, none⟩ (.int .i64 (x + 1)) := by
  have hc : w.cell? ⟨B, 0, none⟩ = some (.int .i64 x) := hb.c 0 (by simp)
  have hz : w.frozen? ⟨B, 0, none⟩ = false := hb.f 0 (by simp)
  have hr := addInt64_run hc hz (s := x + 1) (by rw [IntKind.wrap_i64]; omega)
  clear hb
  go_enter Try.func32, Try.ntmps32
  go_wp2
  go_ret
  exact ⟨rfl, rfl⟩
set_option maxHeartbeats 400000 in
theorem int64Load_is (B : Nat) (x : Int) (w : World) (hb : Blk w B [.int .i64 x]) :
    Calls Try.prog 33 #[.pointer (some ⟨B, 0, none⟩)] w fun e w' => e = .returned (.int .i64 x) ∧ w' = w := by
  have hc : w.cell? ⟨B, 0, none⟩ = some (.int .i64 x) := hb.c 0 (by simp)
  have hr := loadInt64_run hc
  clear hb
  go_enter Try.func33, Try.ntmps33
  go_wp2
  go_ret
  exact ⟨rfl, rfl⟩

set_option maxRecDepth 20000 in
set_option maxHeartbeats 400000 in
theorem longOk_is {b : Bool} (x : Int) (w : World) (hc : inB x 1 10000 = b) :
    Calls Try.prog 18 #[.int .i64 x] w fun e w' => e = .returned (.bool b) ∧ w' = w := by
  go_enter Try.func18, Try.ntmps18
  go_wp2_with ((go_at_call 25; refine (within_is _ _ _ _ (by exact hc)).mono ?_; rintro e w' ⟨rfl, hw⟩; subst w'))
  go_ret
  exact ⟨rfl, rfl⟩

set_option maxRecDepth 20000 in
set_option maxHeartbeats 400000 in
theorem hasPart_is {b : Bool} (fr pa : Int) (da : Option Addr) (dn dc : Nat) (x : Int) (w : World) (hp : 1 ≤ pa ∧ pa ≤ 10) (hc : inB x 0 (pa - 1) = b) :
    Calls Try.prog 17 #[.agg #[.int .i64 fr, .int .i64 pa, .slice da dn dc], .int .i64 x] w fun e w' => e = .returned (.bool b) ∧ Below w.heap.size w w' := by
  go_enter Try.func17, Try.ntmps17
  go_wp2_with ((go_at_call 25; refine (within_is _ _ _ _ (by exact hc)).mono ?_; rintro e w' ⟨rfl, hw⟩; subst w'))
  go_ret
  exact ⟨rfl, (by repeat (first | exact Below.refl _ _ | refine Below.alloc ?_ (by simp; try omega) _ | refine Below.setCell ?_ (by simp; try omega) _ | refine taDr ?_ _))⟩

set_option maxRecDepth 20000 in
set_option maxHeartbeats 400000 in
theorem windowEnd_is (x0 x1 x2 : Int) (w : World) (h1 : 0 ≤ x1 ∧ x1 ≤ 100000) (h2 : 1 ≤ x2 ∧ x2 ≤ 10000) :
    Calls Try.prog 27 #[.agg #[.int .i64 x0, .int .i64 x1, .int .i64 x2]] w fun e w' => e = .returned (.int .i64 (x1 + x2)) ∧ Below w.heap.size w w' := by
  go_enter Try.func27, Try.ntmps27
  go_wp2
  go_ret
  exact ⟨rfl, (by repeat (first | exact Below.refl _ _ | refine Below.alloc ?_ (by simp; try omega) _ | refine Below.setCell ?_ (by simp; try omega) _ | refine taDr ?_ _))⟩

set_option maxRecDepth 20000 in
set_option maxHeartbeats 2000000 in
theorem windowOk_is {b : Bool} (fr pa : Int) (da : Option Addr) (dn dc : Nat) (x0 x1 x2 E : Int) (w : World) (hf : 1 ≤ fr ∧ fr ≤ 100000) (hp : 1 ≤ pa ∧ pa ≤ 10) (hc : wnB fr pa E ⟨x0, x1, x2⟩ = b) :
    Calls Try.prog 31 #[.agg #[.int .i64 fr, .int .i64 pa, .slice da dn dc], .agg #[.int .i64 x0, .int .i64 x1, .int .i64 x2], .int .i64 E] w fun e w' => e = .returned (.bool b) ∧ Below w.heap.size w w' := by
  rw [wn_three] at hc
  rcases three (inB x0 0 (pa - 1)) (inB x2 1 10000) (inB x1 E (fr - x2)) with ⟨q1, hv⟩ | ⟨q1, q2, hv⟩ | ⟨q1, q2, q3, hv⟩ | ⟨q1, q2, q3, hv⟩
  all_goals
    have HE := hide (hv.symm.trans hc)
    clear hv hc
    try (have g2 := in_facts (show inB x2 1 10000 = true from q2))
    go_enter Try.func31, Try.ntmps31
    go_wp2_with fail
    obtain ⟨W, hW⟩ : ∃ W, W = ((w.alloc (Obj.cells #[.int .i64 fr, .int .i64 pa, .slice da dn dc] 28)).alloc (Obj.cells #[.int .i64 x0, .int .i64 x1, .int .i64 x2] 39)) := ⟨_, rfl⟩
    rw [← hW]
    have K0 : Hid (Blk W (w.heap.size) [.int .i64 fr, .int .i64 pa, .slice da dn dc]) := hide (by rw [hW]; exact blkAt2_0)
    have K1 : Hid (Blk W (w.heap.size + 1) [.int .i64 x0, .int .i64 x1, .int .i64 x2]) := hide (by rw [hW]; exact blkAt2_1)
    have B0 : Hid (Below w.heap.size w W) := hide (by rw [hW]; exact (by repeat (first | exact Below.refl _ _ | refine Below.alloc ?_ (by simp; try omega) _ | refine Below.setCell ?_ (by simp; try omega) _ | refine taDr ?_ _)))
    clear hW
    obtain ⟨ι, fW, _, hb, hall⟩ := belClass W
    have HB := hide hb
    have HA := hide hall
    have c00 : ∀ x, (fW x).cell? ⟨w.heap.size, 0, none⟩ = some (.int .i64 fr) := fun x => ((unhide K0).below (hb x)).c 0 (by simp)
    have c01 : ∀ x, (fW x).cell? ⟨w.heap.size, 1, none⟩ = some (.int .i64 pa) := fun x => ((unhide K0).below (hb x)).c 1 (by simp)
    have c02 : ∀ x, (fW x).cell? ⟨w.heap.size, 2, none⟩ = some (.slice da dn dc) := fun x => ((unhide K0).below (hb x)).c 2 (by simp)
    have c10 : ∀ x, (fW x).cell? ⟨w.heap.size + 1, 0, none⟩ = some (.int .i64 x0) := fun x => ((unhide K1).below (hb x)).c 0 (by simp)
    have c11 : ∀ x, (fW x).cell? ⟨w.heap.size + 1, 1, none⟩ = some (.int .i64 x1) := fun x => ((unhide K1).below (hb x)).c 1 (by simp)
    have c12 : ∀ x, (fW x).cell? ⟨w.heap.size + 1, 2, none⟩ = some (.int .i64 x2) := fun x => ((unhide K1).below (hb x)).c 2 (by simp)
    clear hb hall
    obtain ⟨x0, h0⟩ := (unhide HA) W (Below.refl _ _)
    rw [h0]
    clear h0
    go_wp2_with (first | (go_at_call 17; refine (belQ (unhide HB) (unhide HA) (hasPart_is _ _ _ _ _ _ _ hp (by exact q1))).mono ?_; rintro e _ ⟨rfl, y, rfl⟩) | (go_at_call 18; refine (belS (longOk_is _ _ (by exact q2))).mono ?_; rintro e _ ⟨rfl, y, rfl⟩) | (go_at_call 25; refine (belS (within_is _ _ _ _ (by exact q3))).mono ?_; rintro e _ ⟨rfl, y, rfl⟩))
    repeat (refine wp_region_bel (fun w' h => (unhide HA) w' ((unhide HB _).trans (h.mono (unhide HB _).size))) (by kernel_rfl) (by kernel_rfl) ?_; (repeat (go_big_quiet_step (first | (go_at_call 17; exact belQ (unhide HB) (unhide HA) (hasPart_is _ _ _ _ _ _ _ hp (by exact q1))) | (go_at_call 18; exact belS (longOk_is _ _ (by exact q2))) | (go_at_call 25; exact belS (within_is _ _ _ _ (by exact q3)))))); refine wpQuiet_nil ?_; rintro _ ⟨y, rfl⟩; (first | go_wp2_with (first | (go_at_call 17; refine (belQ (unhide HB) (unhide HA) (hasPart_is _ _ _ _ _ _ _ hp (by exact q1))).mono ?_; rintro e _ ⟨rfl, y, rfl⟩) | (go_at_call 18; refine (belS (longOk_is _ _ (by exact q2))).mono ?_; rintro e _ ⟨rfl, y, rfl⟩) | (go_at_call 25; refine (belS (within_is _ _ _ _ (by exact q3))).mono ?_; rintro e _ ⟨rfl, y, rfl⟩)) | go_wp2))
    go_ret
    exact ⟨ret_bool (unhide HE), (unhide B0).trans ((unhide HB _).mono (unhide B0).size)⟩

end Go.Proofs.Ytndhiecakojjgba
