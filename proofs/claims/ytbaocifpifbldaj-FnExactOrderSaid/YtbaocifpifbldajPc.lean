/-
  A variable of two whole numbers in a block of its own. No condition.
-/
import Derived.Test.YtbaocifpifbldajBase
namespace Go.Proofs.Ytbaocifpifbldaj
open Go.RowKit

structure Pc (w : World) (V : Nat) (a b : Int) : Prop where
  c0 : w.cell? ⟨V, 0, none⟩ = some (.int .i64 a)
  c1 : w.cell? ⟨V, 1, none⟩ = some (.int .i64 b)
  f0 : w.frozen? ⟨V, 0, none⟩ = false
  f1 : w.frozen? ⟨V, 1, none⟩ = false
  lt : V < w.heap.size

theorem Pc.below {w w' : World} {V : Nat} {a b : Int} (h : Pc w V a b) (k : Below w.heap.size w w') : Pc w' V a b :=
  ⟨(k.cell (p := ⟨V, 0, none⟩) h.lt).trans h.c0, (k.cell (p := ⟨V, 1, none⟩) h.lt).trans h.c1, (k.frozen (p := ⟨V, 0, none⟩) h.lt).trans h.f0, (k.frozen (p := ⟨V, 1, none⟩) h.lt).trans h.f1, Nat.lt_of_lt_of_le h.lt k.size⟩
theorem Pc.set {w : World} {V : Nat} {a b : Int} (h : Pc w V a b) (a' b' : Int) : Pc ((w.setCell ⟨V, 0, none⟩ (.int .i64 a')).setCell ⟨V, 1, none⟩ (.int .i64 b')) V a' b' := by
  have hlt := h.lt
  refine ⟨?_, ?_, ?_, ?_, ?_⟩
  · rw [World.cell?_setCell_other _ _ _ _ (by simp)]
    exact World.cell?_setCell_same _ _ _ h.c0
  · refine World.cell?_setCell_same (u := .int .i64 b) _ _ _ ?_
    rw [World.cell?_setCell_other _ _ _ _ (by simp)]
    exact h.c1
  · simp [h.f0]
  · simp [h.f1]
  · simpa [World.setCell] using hlt
theorem Pc.other {w : World} {V : Nat} {a b : Int} (h : Pc w V a b) {p : Addr} (hp : p.block ≠ V) (v : Value) : Pc (w.setCell p v) V a b := by
  have hlt := h.lt
  refine ⟨?_, ?_, ?_, ?_, ?_⟩
  · exact (World.cell?_setCell_other w _ _ _ (by intro e; rw [e] at hp; exact hp rfl)).trans h.c0
  · exact (World.cell?_setCell_other w _ _ _ (by intro e; rw [e] at hp; exact hp rfl)).trans h.c1
  · simp [h.f0]
  · simp [h.f1]
  · simpa [World.setCell] using hlt
theorem Pc.new {w : World} (a b : Int) (T : TypeId) : Pc (w.alloc (Obj.cells #[.int .i64 a, .int .i64 b] T)) w.heap.size a b :=
  ⟨by simp [go_sem], by simp [go_sem], by simp [go_sem], by simp [go_sem], by simp⟩

end Go.Proofs.Ytbaocifpifbldaj
