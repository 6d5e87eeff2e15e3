/-
  What the model's LoadOk answers: a plain answer, at every argument; nothing that was there is written.
  What the program's LoadOk answers: a plain answer, at every argument; nothing that was there is written.
  The law's size, copy and comparison of a list of Windows. The copy at lists of at most 1048576; nothing that was there is written.
-/
import Derived.Test.YtemodlgmjgdjpaaGreatDoorMOnly
import Derived.Test.YtemodlgmjgdjpaaGreatDoorMRowBy
import Derived.Test.YtemodlgmjgdjpaaGreatDoorMNameIs
import Derived.Test.YtemodlgmjgdjpaaGreatDoorMTaImpl
import Derived.Test.YtemodlgmjgdjpaaGreatDoorMToWn
import Derived.Deep.DrawnRows
import Derived.Deep.RegionHeld3

namespace Go.Proofs.YtemodlgmjgdjpaaGreatDoor
open Go Go.RowKit

set_option maxRecDepth 20000 in
set_option maxHeartbeats 4000000 in
theorem specLoadOk_is {b : Bool} (p : ByteArray) (nb le mo ne : Int) (a1 : Option Addr) (l1 c1 : Nat) (zs : List Int) (w : World) (hs : p.size ≤ 9223372036854775807) (h1 : l1 ≤ 9223372036854775807) (hz : zs.length = l1) (hc : ldB ⟨p, nb, le, mo, ne, zs⟩ = b) :
    Calls Tryz.prog 88 #[.agg #[.string p, .int .i64 nb, .int .i64 le, .int .i64 mo, .int .i64 ne, .slice a1 l1 c1]] w fun e w' => e = .returned (.bool b) ∧ Below w.heap.size w w' := by
  subst hc
  rcases six (nameB p) (inB nb 1 1000000) (inB le 1 mo) (decide (mo ≤ 1000000)) (inB ne 0 1000000) (decide (zs.length ≤ 400)) with ⟨q1, hv⟩ | ⟨q1, q2, hv⟩ | ⟨q1, q2, q3, hv⟩ | ⟨q1, q2, q3, q4, hv⟩ | ⟨q1, q2, q3, q4, q5, hv⟩ | ⟨q1, q2, q3, q4, q5, q6, hv⟩ | ⟨q1, q2, q3, q4, q5, q6, hv⟩
  all_goals
    have HE := hide (show ldB ⟨p, nb, le, mo, ne, zs⟩ = _ from hv)
    rw [unhide HE]
    clear hv
    try (rw [hz] at q6)
    clear hz
    try (have l1t : l1 ≤ 400 := by simpa using q6)
    try (have l2t : ¬ l1 ≤ 400 := by simpa using q6)
    try (have l3t : decide ((l1 : Int) ≤ 400) = decide (l1 ≤ 400) := by simp only [decide_eq_decide]; omega)
    have CN : Hid (∀ W, Calls Tryz.prog 99 #[.string p] W fun e w' => e = .returned (.bool _) ∧ w' = W) := hide (fun W => by have := l1Name_any p W hs; rw [q1] at this; exact this)
    go_enter Tryz.func88, Tryz.ntmps88
    go_wp2_with fail
    obtain ⟨W, hW⟩ : ∃ W, W = (w.alloc (Obj.cells #[.string p, .int .i64 nb, .int .i64 le, .int .i64 mo, .int .i64 ne, .slice a1 l1 c1] 32)) := ⟨_, rfl⟩
    rw [← hW]
    have K0 : Hid (Blk W (w.heap.size) [.string p, .int .i64 nb, .int .i64 le, .int .i64 mo, .int .i64 ne, .slice a1 l1 c1]) := hide (by rw [hW]; exact Blk.new _ _)
    have B0 : Hid (Below w.heap.size w W) := hide (by rw [hW]; exact bel1 _)
    clear hW
    obtain ⟨ι, fW, _, hb, hall⟩ := belClass W
    have HB := hide hb
    have HA := hide hall
    have c00 : ∀ x, (fW x).cell? ⟨w.heap.size, 0, none⟩ = some (.string p) := fun x => ((unhide K0).below (hb x)).c 0 (by simp)
    have c01 : ∀ x, (fW x).cell? ⟨w.heap.size, 1, none⟩ = some (.int .i64 nb) := fun x => ((unhide K0).below (hb x)).c 1 (by simp)
    have c02 : ∀ x, (fW x).cell? ⟨w.heap.size, 2, none⟩ = some (.int .i64 le) := fun x => ((unhide K0).below (hb x)).c 2 (by simp)
    have c03 : ∀ x, (fW x).cell? ⟨w.heap.size, 3, none⟩ = some (.int .i64 mo) := fun x => ((unhide K0).below (hb x)).c 3 (by simp)
    have c04 : ∀ x, (fW x).cell? ⟨w.heap.size, 4, none⟩ = some (.int .i64 ne) := fun x => ((unhide K0).below (hb x)).c 4 (by simp)
    have c05 : ∀ x, (fW x).cell? ⟨w.heap.size, 5, none⟩ = some (.slice a1 l1 c1) := fun x => ((unhide K0).below (hb x)).c 5 (by simp)
    clear hb hall
    obtain ⟨x0, h0⟩ := (unhide HA) W (Below.refl _ _)
    rw [h0]
    clear h0
    go_wp2_with (first | (go_at_call 99; refine (belS (unhide CN _)).mono ?_; rintro e _ ⟨rfl, y, rfl⟩) | (go_at_call 60; refine (belS (l1In_is _ _ _ _ (by first | exact q2 | exact q3 | exact q5))).mono ?_; rintro e _ ⟨rfl, y, rfl⟩))
    repeat (refine wp_region_bel (fun w' h => (unhide HA) w' ((unhide HB _).trans (h.mono (unhide HB _).size))) (by kernel_rfl) (by kernel_rfl) ?_; (repeat (go_big_quiet_step (first | (go_at_call 99; exact (belS (unhide CN _))) | (go_at_call 60; exact (belS (l1In_is _ _ _ _ (by first | exact q2 | exact q3 | exact q5))))))); refine wpQuiet_nil ?_; rintro _ ⟨y, rfl⟩; (first | go_wp2_with (first | (go_at_call 99; refine (belS (unhide CN _)).mono ?_; rintro e _ ⟨rfl, y, rfl⟩) | (go_at_call 60; refine (belS (l1In_is _ _ _ _ (by first | exact q2 | exact q3 | exact q5))).mono ?_; rintro e _ ⟨rfl, y, rfl⟩)) | go_wp2))
    go_ret
    exact ⟨rfl, (unhide B0).trans ((unhide HB _).mono (unhide B0).size)⟩
theorem specLoadOk_any (p : ByteArray) (nb le mo ne : Int) (a1 : Option Addr) (l1 c1 : Nat) (zs : List Int) (w : World) (hr : LdIn w a1 l1 zs) (hs : p.size ≤ 9223372036854775807) :
    Calls Tryz.prog 88 #[.agg #[.string p, .int .i64 nb, .int .i64 le, .int .i64 mo, .int .i64 ne, .slice a1 l1 c1]] w fun e w' => e = .returned (.bool (ldB ⟨p, nb, le, mo, ne, zs⟩)) ∧ Below w.heap.size w w' := specLoadOk_is p nb le mo ne a1 l1 c1 zs w hs hr.r1.small hr.r1.len_eq rfl

end Go.Proofs.YtemodlgmjgdjpaaGreatDoor

namespace Go.Proofs.YtemodlgmjgdjpaaGreatDoor
open Go Go.RowKit

/-- Whether the serials that a load fits are so. -/
def arS (le mo : Int) : Bool := inB le 1 1000000 && inB mo le 1000000
theorem ldB_five (p : ByteArray) (nb le mo ne : Int) (zs : List Int) : (nameB p && inB nb 1 1000000 && arS le mo && inB ne 0 1000000 && decide (zs.length ≤ 400)) = ldB ⟨p, nb, le, mo, ne, zs⟩ := by
  simp only [ldB]
  have : arS le mo = (inB le 1 mo && decide (mo ≤ 1000000)) := by
    rw [Bool.eq_iff_iff]
    simp only [arS, inB, Bool.and_eq_true, decide_eq_true_eq]
    omega
  rw [this]
  simp only [Bool.and_assoc]
set_option maxHeartbeats 2000000 in
theorem areSoF_is {b : Bool} (le mo : Int) (w : World) (hc : arS le mo = b) :
    Calls Tryz.prog 48 #[.agg #[.int .i64 le, .int .i64 mo]] w fun e w' => e = .returned (.bool b) ∧ Below w.heap.size w w' := by
  subst hc
  rcases two (inB le 1 1000000) (inB mo le 1000000) with ⟨q1, hv⟩ | ⟨q1, q2, hv⟩ | ⟨q1, q2, hv⟩
  all_goals
    have HE := hide (show arS le mo = _ from hv)
    rw [unhide HE]
    clear hv
    go_enter Tryz.func48, Tryz.ntmps48
    go_wp2_with (go_at_call 47; refine (within_is _ _ _ _ (by first | exact q1 | exact q2)).mono ?_; rintro e _ ⟨rfl, rfl⟩)
    try go_wp2_with (go_at_call 47; refine (within_is _ _ _ _ (by first | exact q1 | exact q2)).mono ?_; rintro e _ ⟨rfl, rfl⟩)
    go_ret
    exact ⟨rfl, bel1 _⟩
set_option maxHeartbeats 2000000 in
theorem hasF_is {b : Bool} (le mo s : Int) (w : World) (hc : inB s le mo = b) :
    Calls Tryz.prog 76 #[.agg #[.int .i64 le, .int .i64 mo], .int .i64 s] w fun e w' => e = .returned (.bool b) ∧ Below w.heap.size w w' := by
  go_enter Tryz.func76, Tryz.ntmps76
  go_wp2_with (go_at_call 47; refine (within_is _ _ _ _ (by exact hc)).mono ?_; rintro e _ ⟨rfl, rfl⟩)
  go_ret
  exact ⟨rfl, bel1 _⟩
set_option maxRecDepth 20000 in
set_option maxHeartbeats 4000000 in
theorem implLoadOk_is {b : Bool} (p : ByteArray) (nb le mo ne : Int) (a1 : Option Addr) (l1 c1 : Nat) (zs : List Int) (w : World) (hs : p.size ≤ 9223372036854775807) (h1 : l1 ≤ 9223372036854775807) (hz : zs.length = l1) (hc : ldB ⟨p, nb, le, mo, ne, zs⟩ = b) :
    Calls Tryz.prog 10 #[.agg #[.string p, .int .i64 nb, .int .i64 le, .int .i64 mo, .int .i64 ne, .slice a1 l1 c1]] w fun e w' => e = .returned (.bool b) ∧ Below w.heap.size w w' := by
  subst hc
  rw [← ldB_five]
  rcases five (nameB p) (inB nb 1 1000000) (arS le mo) (inB ne 0 1000000) (decide (zs.length ≤ 400)) with ⟨q1, hv⟩ | ⟨q1, q2, hv⟩ | ⟨q1, q2, q3, hv⟩ | ⟨q1, q2, q3, q4, hv⟩ | ⟨q1, q2, q3, q4, q5, hv⟩ | ⟨q1, q2, q3, q4, q5, hv⟩
  all_goals
    have HE := hide hv
    rw [unhide HE]
    clear hv
    try (rw [hz] at q5)
    clear hz
    try (have l1t : l1 ≤ 400 := by simpa using q5)
    try (have l2t : ¬ l1 ≤ 400 := by simpa using q5)
    try (have l3t : decide ((l1 : Int) ≤ 400) = decide (l1 ≤ 400) := by simp only [decide_eq_decide]; omega)
    have CN : Hid (∀ W, Calls Tryz.prog 46 #[.string p] W fun e w' => e = .returned (.bool _) ∧ w' = W) := hide (fun W => by have := nameOk_any p W hs; rw [q1] at this; exact this)
    go_enter Tryz.func10, Tryz.ntmps10
    go_wp2_with fail
    obtain ⟨W, hW⟩ : ∃ W, W = (w.alloc (Obj.cells #[.string p, .int .i64 nb, .int .i64 le, .int .i64 mo, .int .i64 ne, .slice a1 l1 c1] 32)) := ⟨_, rfl⟩
    rw [← hW]
    have K0 : Hid (Blk W (w.heap.size) [.string p, .int .i64 nb, .int .i64 le, .int .i64 mo, .int .i64 ne, .slice a1 l1 c1]) := hide (by rw [hW]; exact Blk.new _ _)
    have B0 : Hid (Below w.heap.size w W) := hide (by rw [hW]; exact bel1 _)
    clear hW
    obtain ⟨ι, fW, _, hb, hall⟩ := belClass W
    have HB := hide hb
    have HA := hide hall
    have c00 : ∀ x, (fW x).cell? ⟨w.heap.size, 0, none⟩ = some (.string p) := fun x => ((unhide K0).below (hb x)).c 0 (by simp)
    have c01 : ∀ x, (fW x).cell? ⟨w.heap.size, 1, none⟩ = some (.int .i64 nb) := fun x => ((unhide K0).below (hb x)).c 1 (by simp)
    have c02 : ∀ x, (fW x).cell? ⟨w.heap.size, 2, none⟩ = some (.int .i64 le) := fun x => ((unhide K0).below (hb x)).c 2 (by simp)
    have c03 : ∀ x, (fW x).cell? ⟨w.heap.size, 3, none⟩ = some (.int .i64 mo) := fun x => ((unhide K0).below (hb x)).c 3 (by simp)
    have c04 : ∀ x, (fW x).cell? ⟨w.heap.size, 4, none⟩ = some (.int .i64 ne) := fun x => ((unhide K0).below (hb x)).c 4 (by simp)
    have c05 : ∀ x, (fW x).cell? ⟨w.heap.size, 5, none⟩ = some (.slice a1 l1 c1) := fun x => ((unhide K0).below (hb x)).c 5 (by simp)
    clear hb hall
    obtain ⟨x0, h0⟩ := (unhide HA) W (Below.refl _ _)
    rw [h0]
    clear h0
    go_wp2_with (first | (go_at_call 46; refine (belS (unhide CN _)).mono ?_; rintro e _ ⟨rfl, y, rfl⟩) | (go_at_call 47; refine (belS (within_is _ _ _ _ (by first | exact q2 | exact q4))).mono ?_; rintro e _ ⟨rfl, y, rfl⟩) | (go_at_call 48; refine (belQ (unhide HB) (unhide HA) (areSoF_is _ _ _ q3)).mono ?_; rintro e _ ⟨rfl, y, rfl⟩))
    repeat (refine wp_region_bel (fun w' h => (unhide HA) w' ((unhide HB _).trans (h.mono (unhide HB _).size))) (by kernel_rfl) (by kernel_rfl) ?_; (repeat (go_big_quiet_step (first | (go_at_call 46; exact (belS (unhide CN _))) | (go_at_call 47; exact (belS (within_is _ _ _ _ (by first | exact q2 | exact q4)))) | (go_at_call 48; exact (belQ (unhide HB) (unhide HA) (areSoF_is _ _ _ q3)))))); refine wpQuiet_nil ?_; rintro _ ⟨y, rfl⟩; (first | go_wp2_with (first | (go_at_call 46; refine (belS (unhide CN _)).mono ?_; rintro e _ ⟨rfl, y, rfl⟩) | (go_at_call 47; refine (belS (within_is _ _ _ _ (by first | exact q2 | exact q4))).mono ?_; rintro e _ ⟨rfl, y, rfl⟩) | (go_at_call 48; refine (belQ (unhide HB) (unhide HA) (areSoF_is _ _ _ q3)).mono ?_; rintro e _ ⟨rfl, y, rfl⟩)) | go_wp2))
    go_ret
    exact ⟨rfl, (unhide B0).trans ((unhide HB _).mono (unhide B0).size)⟩
theorem implLoadOk_any (p : ByteArray) (nb le mo ne : Int) (a1 : Option Addr) (l1 c1 : Nat) (zs : List Int) (w : World) (hr : LdIn w a1 l1 zs) (hs : p.size ≤ 9223372036854775807) :
    Calls Tryz.prog 10 #[.agg #[.string p, .int .i64 nb, .int .i64 le, .int .i64 mo, .int .i64 ne, .slice a1 l1 c1]] w fun e w' => e = .returned (.bool (ldB ⟨p, nb, le, mo, ne, zs⟩)) ∧ Below w.heap.size w w' := implLoadOk_is p nb le mo ne a1 l1 c1 zs w hs hr.r1.small hr.r1.len_eq rfl

end Go.Proofs.YtemodlgmjgdjpaaGreatDoor

namespace Go.Proofs.YtemodlgmjgdjpaaGreatDoor
open Go.RowKit
attribute [local go_sem ↓] Go.wp_at_zero Go.wp_at_succ


end Go.Proofs.YtemodlgmjgdjpaaGreatDoor
