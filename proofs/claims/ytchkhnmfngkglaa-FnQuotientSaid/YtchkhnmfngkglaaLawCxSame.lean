/-
  The law FnExactCxSame returns true at every two complex numbers and writes nothing that was there: the walk. No condition.
-/
import Derived.Test.YtchkhnmfngkglaaCxTo
import Derived.Test.YtchkhnmfngkglaaCxSpec
import Derived.Test.YtchkhnmfngkglaaCxImpl
import Derived.Test.YtchkhnmfngkglaaCxHeld
import Derived.Deep.RegionHeld3
namespace Go.Proofs.Ytchkhnmfngkglaa
open Go.RowKit
attribute [local go_sem] run_store_float run_store_complex

def sameB (a b c d : Nat) : Bool := (FloatKind.f64.format.order a c == some .eq) && (FloatKind.f64.format.order b d == some .eq)

set_option maxHeartbeats 4000000 in
theorem implCxSame_any (a b c d : Nat) (w : World) :
    Calls Try.prog 20 #[.agg #[.float .f64 a, .float .f64 b], .agg #[.float .f64 c, .float .f64 d]] w fun e w' => e = .returned (.bool (sameB a b c d)) ∧ Below w.heap.size w w' := by
  have hA := bel_al w
  have hD := bel_dr w
  go_enter Try.func20, Try.ntmps20
  go_wp2
  obtain ⟨w1, hw1⟩ : ∃ w1, w1 = ((w.alloc (Obj.cells #[.float .f64 a, .float .f64 b] 31)).alloc (Obj.cells #[.float .f64 c, .float .f64 d] 31)) := ⟨_, rfl⟩
  rw [← hw1]
  have c0 : w1.cell? ⟨w.heap.size, 0, none⟩ = some (.float .f64 a) := by rw [hw1]; simp [go_sem]
  have c1 : w1.cell? ⟨w.heap.size, 1, none⟩ = some (.float .f64 b) := by rw [hw1]; simp [go_sem]
  have c2 : w1.cell? ⟨w.heap.size + 1, 0, none⟩ = some (.float .f64 c) := by rw [hw1]; simp [go_sem]
  have c3 : w1.cell? ⟨w.heap.size + 1, 1, none⟩ = some (.float .f64 d) := by rw [hw1]; simp [go_sem]
  have bb : Below w.heap.size w w1 := by rw [hw1]; exact bel2 _ _
  clear hw1
  go_region_held3 (fun w' => w'.cell? ⟨w.heap.size, 0, none⟩ = some (.float .f64 a) ∧ w'.cell? ⟨w.heap.size, 1, none⟩ = some (.float .f64 b) ∧ w'.cell? ⟨w.heap.size + 1, 0, none⟩ = some (.float .f64 c) ∧ w'.cell? ⟨w.heap.size + 1, 1, none⟩ = some (.float .f64 d) ∧ Below w.heap.size w w') (go_keep)
    ((go_at_call 26; refine (complexOf_any _ _ _).mono ?_; rintro e w3 ⟨rfl, b3⟩; have H3 := held4_call (by assumption) b3; obtain ⟨c0, c1, c2, c3, bb⟩ := H3; clear b3))
  have BB := hide bb
  clear bb
  go_wp2
  go_ret
  exact ⟨rfl, unhide BB⟩

end Go.Proofs.Ytchkhnmfngkglaa
