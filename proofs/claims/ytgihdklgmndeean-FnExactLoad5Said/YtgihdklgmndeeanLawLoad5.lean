/-
  The law FnExactLoad5 returns true at every motion and all forces and writes nothing that was there: the walk. No condition.
-/
import Derived.Test.YtgihdklgmndeeanLoadIs
import Derived.Test.YtgihdklgmndeeanHeldN
import Derived.Deep.RegionHeld3
namespace Go.Proofs.Ytgihdklgmndeean
open Go.RowKit
attribute [local go_sem] run_store_float

set_option maxRecDepth 20000 in
set_option maxHeartbeats 4000000 in
theorem lawLoad5 (a0 a1 a2 a3 f0 f1 f2 f3 f4 : Nat) (w : World) :
    Calls Try.prog 4 #[.agg #[.float .f64 a0, .float .f64 a1, .float .f64 a2, .float .f64 a3], .agg #[.float .f64 f0, .float .f64 f1, .float .f64 f2, .float .f64 f3, .float .f64 f4]] w fun e w' => e = .returned (.bool true) ∧ Below w.heap.size w w' := by
  have hA := bel_al w
  have hD := bel_dr w
  have hq : (loadB ⟨a0, a1, a2, a3⟩ ⟨f0, f1, f2, f3, f4⟩ != loadB ⟨a0, a1, a2, a3⟩ ⟨f0, f1, f2, f3, f4⟩) = false := by simp
  go_enter Try.func4, Try.ntmps4
  go_wp2
  obtain ⟨w1, hw1⟩ : ∃ w1, w1 = ((w.alloc (Obj.cells #[.float .f64 a0, .float .f64 a1, .float .f64 a2, .float .f64 a3] 24)).alloc (Obj.cells #[.float .f64 f0, .float .f64 f1, .float .f64 f2, .float .f64 f3, .float .f64 f4] 26)) := ⟨_, rfl⟩
  rw [← hw1]
  have c0 : w1.cell? ⟨w.heap.size, 0, none⟩ = some (.float .f64 a0) := by rw [hw1]; simp [go_sem]
  have c1 : w1.cell? ⟨w.heap.size, 1, none⟩ = some (.float .f64 a1) := by rw [hw1]; simp [go_sem]
  have c2 : w1.cell? ⟨w.heap.size, 2, none⟩ = some (.float .f64 a2) := by rw [hw1]; simp [go_sem]
  have c3 : w1.cell? ⟨w.heap.size, 3, none⟩ = some (.float .f64 a3) := by rw [hw1]; simp [go_sem]
  have c4 : w1.cell? ⟨w.heap.size + 1, 0, none⟩ = some (.float .f64 f0) := by rw [hw1]; simp [go_sem]
  have c5 : w1.cell? ⟨w.heap.size + 1, 1, none⟩ = some (.float .f64 f1) := by rw [hw1]; simp [go_sem]
  have c6 : w1.cell? ⟨w.heap.size + 1, 2, none⟩ = some (.float .f64 f2) := by rw [hw1]; simp [go_sem]
  have c7 : w1.cell? ⟨w.heap.size + 1, 3, none⟩ = some (.float .f64 f3) := by rw [hw1]; simp [go_sem]
  have c8 : w1.cell? ⟨w.heap.size + 1, 4, none⟩ = some (.float .f64 f4) := by rw [hw1]; simp [go_sem]
  have bb : Below w.heap.size w w1 := by rw [hw1]; exact bel2 _ _
  clear hw1
  go_region_held3 (fun w' => w'.cell? ⟨w.heap.size, 0, none⟩ = some (.float .f64 a0) ∧ w'.cell? ⟨w.heap.size, 1, none⟩ = some (.float .f64 a1) ∧ w'.cell? ⟨w.heap.size, 2, none⟩ = some (.float .f64 a2) ∧ w'.cell? ⟨w.heap.size, 3, none⟩ = some (.float .f64 a3) ∧ w'.cell? ⟨w.heap.size + 1, 0, none⟩ = some (.float .f64 f0) ∧ w'.cell? ⟨w.heap.size + 1, 1, none⟩ = some (.float .f64 f1) ∧ w'.cell? ⟨w.heap.size + 1, 2, none⟩ = some (.float .f64 f2) ∧ w'.cell? ⟨w.heap.size + 1, 3, none⟩ = some (.float .f64 f3) ∧ w'.cell? ⟨w.heap.size + 1, 4, none⟩ = some (.float .f64 f4) ∧ Below w.heap.size w w') (go_keep)
    ((first
      | (go_at_call 10; refine (toMotion_any _ _ _ _ _).mono ?_; rintro e w3 ⟨rfl, b3⟩; have H3 := heldK9_call (by assumption) b3; obtain ⟨c0, c1, c2, c3, c4, c5, c6, c7, c8, bb⟩ := H3; clear b3)
      | (go_at_call 11; refine (toForces_any _ _ _ _ _ _).mono ?_; rintro e w3 ⟨rfl, b3⟩; have H3 := heldK9_call (by assumption) b3; obtain ⟨c0, c1, c2, c3, c4, c5, c6, c7, c8, bb⟩ := H3; clear b3)
      | (go_at_call 19; refine (specLoad5_any _ _ _ _ _ _ _ _ _ _).mono ?_; rintro e w3 ⟨rfl, b3⟩; have H3 := heldK9_call (by assumption) b3; obtain ⟨c0, c1, c2, c3, c4, c5, c6, c7, c8, bb⟩ := H3; clear b3)))
  go_wp2_with fail
  go_region_held3 (fun w' => w'.cell? ⟨w.heap.size, 0, none⟩ = some (.float .f64 a0) ∧ w'.cell? ⟨w.heap.size, 1, none⟩ = some (.float .f64 a1) ∧ w'.cell? ⟨w.heap.size, 2, none⟩ = some (.float .f64 a2) ∧ w'.cell? ⟨w.heap.size, 3, none⟩ = some (.float .f64 a3) ∧ w'.cell? ⟨w.heap.size + 1, 0, none⟩ = some (.float .f64 f0) ∧ w'.cell? ⟨w.heap.size + 1, 1, none⟩ = some (.float .f64 f1) ∧ w'.cell? ⟨w.heap.size + 1, 2, none⟩ = some (.float .f64 f2) ∧ w'.cell? ⟨w.heap.size + 1, 3, none⟩ = some (.float .f64 f3) ∧ w'.cell? ⟨w.heap.size + 1, 4, none⟩ = some (.float .f64 f4) ∧ Below w.heap.size w w') (go_keep)
    ((first
      | (go_at_call 10; refine (toMotion_any _ _ _ _ _).mono ?_; rintro e w3 ⟨rfl, b3⟩; have H3 := heldK9_call (by assumption) b3; obtain ⟨c0, c1, c2, c3, c4, c5, c6, c7, c8, bb⟩ := H3; clear b3)
      | (go_at_call 11; refine (toForces_any _ _ _ _ _ _).mono ?_; rintro e w3 ⟨rfl, b3⟩; have H3 := heldK9_call (by assumption) b3; obtain ⟨c0, c1, c2, c3, c4, c5, c6, c7, c8, bb⟩ := H3; clear b3)
      | (go_at_call 20; refine (implLoad5_any _ _ _ _ _ _ _ _ _ _).mono ?_; rintro e w3 ⟨rfl, b3⟩; have H3 := heldK9_call (by assumption) b3; obtain ⟨c0, c1, c2, c3, c4, c5, c6, c7, c8, bb⟩ := H3; clear b3)))
  have BB := hide bb
  clear bb
  go_wp2_with fail
  refine (sameFloat_alike _ _ _ (.refl _ _)).mono ?_
  rintro e w3 ⟨rfl, n3, rfl⟩
  go_wp2
  go_ret
  exact ⟨rfl, (unhide BB).trans (bel0d' n3)⟩

end Go.Proofs.Ytgihdklgmndeean
