/-
  The law FnExactNear5 returns true at every two motions and every distance and writes nothing that was there: the walk. No condition.
-/
import Derived.Test.YtgihdklgmndeeanNearIs
import Derived.Test.YtgihdklgmndeeanHeldN
import Derived.Deep.RegionHeld3
namespace Go.Proofs.Ytgihdklgmndeean
open Go.RowKit
attribute [local go_sem] run_store_float

set_option maxRecDepth 20000 in
set_option maxHeartbeats 4000000 in
theorem lawNear5 (a0 a1 a2 a3 b0 b1 b2 b3 far : Nat) (w : World) :
    Calls Try.prog 8 #[.agg #[.float .f64 a0, .float .f64 a1, .float .f64 a2, .float .f64 a3], .agg #[.float .f64 b0, .float .f64 b1, .float .f64 b2, .float .f64 b3], .float .f64 far] w fun e w' => e = .returned (.bool true) ∧ Below w.heap.size w w' := by
  have hA := bel_al w
  have hD := bel_dr w
  have hq : (nearM ⟨a0, a1, a2, a3⟩ ⟨b0, b1, b2, b3⟩ far != nearM ⟨a0, a1, a2, a3⟩ ⟨b0, b1, b2, b3⟩ far) = false := by simp
  go_enter Try.func8, Try.ntmps8
  go_wp2
  obtain ⟨w1, hw1⟩ : ∃ w1, w1 = ((w.alloc (Obj.cells #[.float .f64 a0, .float .f64 a1, .float .f64 a2, .float .f64 a3] 24)).alloc (Obj.cells #[.float .f64 b0, .float .f64 b1, .float .f64 b2, .float .f64 b3] 24)) := ⟨_, rfl⟩
  rw [← hw1]
  have c0 : w1.cell? ⟨w.heap.size, 0, none⟩ = some (.float .f64 a0) := by rw [hw1]; simp [go_sem]
  have c1 : w1.cell? ⟨w.heap.size, 1, none⟩ = some (.float .f64 a1) := by rw [hw1]; simp [go_sem]
  have c2 : w1.cell? ⟨w.heap.size, 2, none⟩ = some (.float .f64 a2) := by rw [hw1]; simp [go_sem]
  have c3 : w1.cell? ⟨w.heap.size, 3, none⟩ = some (.float .f64 a3) := by rw [hw1]; simp [go_sem]
  have c4 : w1.cell? ⟨w.heap.size + 1, 0, none⟩ = some (.float .f64 b0) := by rw [hw1]; simp [go_sem]
  have c5 : w1.cell? ⟨w.heap.size + 1, 1, none⟩ = some (.float .f64 b1) := by rw [hw1]; simp [go_sem]
  have c6 : w1.cell? ⟨w.heap.size + 1, 2, none⟩ = some (.float .f64 b2) := by rw [hw1]; simp [go_sem]
  have c7 : w1.cell? ⟨w.heap.size + 1, 3, none⟩ = some (.float .f64 b3) := by rw [hw1]; simp [go_sem]
  have bb : Below w.heap.size w w1 := by rw [hw1]; exact bel2 _ _
  clear hw1
  go_region_held3 (fun w' => w'.cell? ⟨w.heap.size, 0, none⟩ = some (.float .f64 a0) ∧ w'.cell? ⟨w.heap.size, 1, none⟩ = some (.float .f64 a1) ∧ w'.cell? ⟨w.heap.size, 2, none⟩ = some (.float .f64 a2) ∧ w'.cell? ⟨w.heap.size, 3, none⟩ = some (.float .f64 a3) ∧ w'.cell? ⟨w.heap.size + 1, 0, none⟩ = some (.float .f64 b0) ∧ w'.cell? ⟨w.heap.size + 1, 1, none⟩ = some (.float .f64 b1) ∧ w'.cell? ⟨w.heap.size + 1, 2, none⟩ = some (.float .f64 b2) ∧ w'.cell? ⟨w.heap.size + 1, 3, none⟩ = some (.float .f64 b3) ∧ Below w.heap.size w w') (go_keep)
    ((first
      | (go_at_call 10; refine (toMotion_any _ _ _ _ _).mono ?_; rintro e w3 ⟨rfl, b3⟩; have H3 := heldK8_call (by assumption) b3; obtain ⟨c0, c1, c2, c3, c4, c5, c6, c7, bb⟩ := H3; clear b3)
      | (go_at_call 31; refine (specNear5_any _ _ _ _ _ _ _ _ _ _).mono ?_; rintro e w3 ⟨rfl, b3⟩; have H3 := heldK8_call (by assumption) b3; obtain ⟨c0, c1, c2, c3, c4, c5, c6, c7, bb⟩ := H3; clear b3)))
  go_wp2_with fail
  go_region_held3 (fun w' => w'.cell? ⟨w.heap.size, 0, none⟩ = some (.float .f64 a0) ∧ w'.cell? ⟨w.heap.size, 1, none⟩ = some (.float .f64 a1) ∧ w'.cell? ⟨w.heap.size, 2, none⟩ = some (.float .f64 a2) ∧ w'.cell? ⟨w.heap.size, 3, none⟩ = some (.float .f64 a3) ∧ w'.cell? ⟨w.heap.size + 1, 0, none⟩ = some (.float .f64 b0) ∧ w'.cell? ⟨w.heap.size + 1, 1, none⟩ = some (.float .f64 b1) ∧ w'.cell? ⟨w.heap.size + 1, 2, none⟩ = some (.float .f64 b2) ∧ w'.cell? ⟨w.heap.size + 1, 3, none⟩ = some (.float .f64 b3) ∧ Below w.heap.size w w') (go_keep)
    ((first
      | (go_at_call 10; refine (toMotion_any _ _ _ _ _).mono ?_; rintro e w3 ⟨rfl, b3⟩; have H3 := heldK8_call (by assumption) b3; obtain ⟨c0, c1, c2, c3, c4, c5, c6, c7, bb⟩ := H3; clear b3)
      | (go_at_call 32; refine (implNear5_any _ _ _ _ _ _ _ _ _ _).mono ?_; rintro e w3 ⟨rfl, b3⟩; have H3 := heldK8_call (by assumption) b3; obtain ⟨c0, c1, c2, c3, c4, c5, c6, c7, bb⟩ := H3; clear b3)))
  have BB := hide bb
  clear bb
  go_wp2
  go_ret
  exact ⟨rfl, unhide BB⟩

end Go.Proofs.Ytgihdklgmndeean
