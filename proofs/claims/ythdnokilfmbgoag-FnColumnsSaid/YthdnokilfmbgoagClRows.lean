/-
  Five rows of one number, written out, read as what they are.
-/
import Derived.Test.YthdnokilfmbgoagClFact
import Derived.Test.YthdnokilfmbgoagAtFun
namespace Go.Proofs.Ythdnokilfmbgoag
open Go Go.RowKit

/-- Five rows of one number, written out. -/
theorem rows5 (w : World) : RowS ((((((w.alloc (Obj.cells #[.int .i64 1] 3)).alloc (Obj.cells #[.int .i64 5] 3)).alloc (Obj.cells #[.int .i64 6] 3)).alloc (Obj.cells #[.int .i64 1] 3)).alloc (Obj.cells #[.int .i64 9] 3)).alloc (Obj.cells #[.slice (some ⟨w.heap.size, 0, none⟩) 1 1, .slice (some ⟨w.heap.size + 1, 0, none⟩) 1 1, .slice (some ⟨w.heap.size + 1 + 1, 0, none⟩) 1 1, .slice (some ⟨w.heap.size + 1 + 1 + 1, 0, none⟩) 1 1, .slice (some ⟨w.heap.size + 1 + 1 + 1 + 1, 0, none⟩) 1 1] 68)) (some ⟨w.heap.size + 1 + 1 + 1 + 1 + 1, 0, none⟩) 5 [[1], [5], [6], [1], [9]] := by
  have k0 := ((((((Blk.next (w := w) [.int .i64 1] 3 rfl).alloc (Obj.cells #[.int .i64 5] 3)).alloc (Obj.cells #[.int .i64 6] 3)).alloc (Obj.cells #[.int .i64 1] 3)).alloc (Obj.cells #[.int .i64 9] 3)).alloc (Obj.cells #[.slice (some ⟨w.heap.size, 0, none⟩) 1 1, .slice (some ⟨w.heap.size + 1, 0, none⟩) 1 1, .slice (some ⟨w.heap.size + 1 + 1, 0, none⟩) 1 1, .slice (some ⟨w.heap.size + 1 + 1 + 1, 0, none⟩) 1 1, .slice (some ⟨w.heap.size + 1 + 1 + 1 + 1, 0, none⟩) 1 1] 68))
  have k1 := (((((Blk.next (w := (w.alloc (Obj.cells #[.int .i64 1] 3))) (B := w.heap.size + 1) [.int .i64 5] 3 (by simp)).alloc (Obj.cells #[.int .i64 6] 3)).alloc (Obj.cells #[.int .i64 1] 3)).alloc (Obj.cells #[.int .i64 9] 3)).alloc (Obj.cells #[.slice (some ⟨w.heap.size, 0, none⟩) 1 1, .slice (some ⟨w.heap.size + 1, 0, none⟩) 1 1, .slice (some ⟨w.heap.size + 1 + 1, 0, none⟩) 1 1, .slice (some ⟨w.heap.size + 1 + 1 + 1, 0, none⟩) 1 1, .slice (some ⟨w.heap.size + 1 + 1 + 1 + 1, 0, none⟩) 1 1] 68))
  have k2 := ((((Blk.next (w := ((w.alloc (Obj.cells #[.int .i64 1] 3)).alloc (Obj.cells #[.int .i64 5] 3))) (B := w.heap.size + 1 + 1) [.int .i64 6] 3 (by simp)).alloc (Obj.cells #[.int .i64 1] 3)).alloc (Obj.cells #[.int .i64 9] 3)).alloc (Obj.cells #[.slice (some ⟨w.heap.size, 0, none⟩) 1 1, .slice (some ⟨w.heap.size + 1, 0, none⟩) 1 1, .slice (some ⟨w.heap.size + 1 + 1, 0, none⟩) 1 1, .slice (some ⟨w.heap.size + 1 + 1 + 1, 0, none⟩) 1 1, .slice (some ⟨w.heap.size + 1 + 1 + 1 + 1, 0, none⟩) 1 1] 68))
  have k3 := (((Blk.next (w := (((w.alloc (Obj.cells #[.int .i64 1] 3)).alloc (Obj.cells #[.int .i64 5] 3)).alloc (Obj.cells #[.int .i64 6] 3))) (B := w.heap.size + 1 + 1 + 1) [.int .i64 1] 3 (by simp)).alloc (Obj.cells #[.int .i64 9] 3)).alloc (Obj.cells #[.slice (some ⟨w.heap.size, 0, none⟩) 1 1, .slice (some ⟨w.heap.size + 1, 0, none⟩) 1 1, .slice (some ⟨w.heap.size + 1 + 1, 0, none⟩) 1 1, .slice (some ⟨w.heap.size + 1 + 1 + 1, 0, none⟩) 1 1, .slice (some ⟨w.heap.size + 1 + 1 + 1 + 1, 0, none⟩) 1 1] 68))
  have k4 := ((Blk.next (w := ((((w.alloc (Obj.cells #[.int .i64 1] 3)).alloc (Obj.cells #[.int .i64 5] 3)).alloc (Obj.cells #[.int .i64 6] 3)).alloc (Obj.cells #[.int .i64 1] 3))) (B := w.heap.size + 1 + 1 + 1 + 1) [.int .i64 9] 3 (by simp)).alloc (Obj.cells #[.slice (some ⟨w.heap.size, 0, none⟩) 1 1, .slice (some ⟨w.heap.size + 1, 0, none⟩) 1 1, .slice (some ⟨w.heap.size + 1 + 1, 0, none⟩) 1 1, .slice (some ⟨w.heap.size + 1 + 1 + 1, 0, none⟩) 1 1, .slice (some ⟨w.heap.size + 1 + 1 + 1 + 1, 0, none⟩) 1 1] 68))
  have k5 := (Blk.next (w := (((((w.alloc (Obj.cells #[.int .i64 1] 3)).alloc (Obj.cells #[.int .i64 5] 3)).alloc (Obj.cells #[.int .i64 6] 3)).alloc (Obj.cells #[.int .i64 1] 3)).alloc (Obj.cells #[.int .i64 9] 3))) (B := w.heap.size + 1 + 1 + 1 + 1 + 1) [.slice (some ⟨w.heap.size, 0, none⟩) 1 1, .slice (some ⟨w.heap.size + 1, 0, none⟩) 1 1, .slice (some ⟨w.heap.size + 1 + 1, 0, none⟩) 1 1, .slice (some ⟨w.heap.size + 1 + 1 + 1, 0, none⟩) 1 1, .slice (some ⟨w.heap.size + 1 + 1 + 1 + 1, 0, none⟩) 1 1] 68 (by simp))
  have one : ∀ {W : World} {B : Nat} {x : Int}, Blk W B [.int .i64 x] → -9223372036854775808 ≤ x ∧ x ≤ 9223372036854775807 → Row W (some ⟨B, 0, none⟩) 1 [x] := by
    intro W B x kx hx
    refine ⟨rfl, by omega, fun i hi => ⟨_, _, rfl, ?_⟩, fun i => by cases i <;> simp [nth] <;> omega⟩
    obtain rfl : i = 0 := by omega
    exact kx.c 0 (by simp)
  refine ⟨rfl, by omega, fun i hi => ?_⟩
  rcases (show i = 0 ∨ i = 1 ∨ i = 2 ∨ i = 3 ∨ i = 4 from by omega) with rfl | rfl | rfl | rfl | rfl
  · exact ⟨_, _, _, _, _, rfl, k5.c 0 (by simp), one k0 (by omega), by omega⟩
  · exact ⟨_, _, _, _, _, rfl, k5.c 1 (by simp), one k1 (by omega), by omega⟩
  · exact ⟨_, _, _, _, _, rfl, k5.c 2 (by simp), one k2 (by omega), by omega⟩
  · exact ⟨_, _, _, _, _, rfl, k5.c 3 (by simp), one k3 (by omega), by omega⟩
  · exact ⟨_, _, _, _, _, rfl, k5.c 4 (by simp), one k4 (by omega), by omega⟩

end Go.Proofs.Ythdnokilfmbgoag
