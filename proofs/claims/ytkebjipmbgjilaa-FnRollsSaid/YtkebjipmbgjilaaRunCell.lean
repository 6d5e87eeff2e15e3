/-
  A runner in a block of its own: its four numbers. No condition.
-/
import Derived.Test.YtkebjipmbgjilaaBase
import Derived.Test.YtkebjipmbgjilaaRunPure
namespace Go.Proofs.Ytkebjipmbgjilaa
open Go.RowKit

structure Rn (w : World) (B : Nat) (p d s e : Int) : Prop where
  c0 : w.cell? ⟨B, 0, none⟩ = some (.int .i64 p)
  c1 : w.cell? ⟨B, 1, none⟩ = some (.int .i64 d)
  c2 : w.cell? ⟨B, 2, none⟩ = some (.int .i64 s)
  c3 : w.cell? ⟨B, 3, none⟩ = some (.int .i64 e)
  lt : B < w.heap.size
theorem Rn.below {w w' : World} {B : Nat} {p d s e : Int} (h : Rn w B p d s e) (k : Below w.heap.size w w') : Rn w' B p d s e :=
  ⟨(k.cell (p := ⟨B, 0, none⟩) h.lt).trans h.c0, (k.cell (p := ⟨B, 1, none⟩) h.lt).trans h.c1, (k.cell (p := ⟨B, 2, none⟩) h.lt).trans h.c2, (k.cell (p := ⟨B, 3, none⟩) h.lt).trans h.c3, Nat.lt_of_lt_of_le h.lt k.size⟩
theorem Rn.new {w : World} (p d s e : Int) (T : TypeId) : Rn (w.alloc (Obj.cells #[.int .i64 p, .int .i64 d, .int .i64 s, .int .i64 e] T)) w.heap.size p d s e :=
  ⟨by simp [go_sem], by simp [go_sem], by simp [go_sem], by simp [go_sem], by simp⟩
theorem ret_two {k : IntKind} {a b : Int} {c d : Bool} (h : (a, c) = (b, d)) : Ending.returned (.tuple #[.int k a, .bool c]) = .returned (.tuple #[.int k b, .bool d]) := by
  cases h; rfl
theorem ret_three {k : IntKind} {a b a' b' : Int} {c d : Bool} (h : (a, a', c) = (b, b', d)) : Ending.returned (.tuple #[.int k a, .int k a', .bool c]) = .returned (.tuple #[.int k b, .int k b', .bool d]) := by
  cases h; rfl

end Go.Proofs.Ytkebjipmbgjilaa
