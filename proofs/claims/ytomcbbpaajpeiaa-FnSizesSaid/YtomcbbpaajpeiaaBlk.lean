/-
  A variable in a block of its own: what its cells hold, that none is frozen, that the block is there. No condition.
-/
import Derived.Test.YtomcbbpaajpeiaaBase
namespace Go.Proofs.Ytomcbbpaajpeiaa
open Go.RowKit

structure Blk (w : World) (B : Nat) (vs : List Value) : Prop where
  c : ∀ i (h : i < vs.length), w.cell? ⟨B, i, none⟩ = some vs[i]
  f : ∀ i, i < vs.length → w.frozen? ⟨B, i, none⟩ = false
  lt : B < w.heap.size
theorem Blk.below {w w' : World} {B : Nat} {vs : List Value} (h : Blk w B vs) (k : Below w.heap.size w w') : Blk w' B vs :=
  ⟨fun i hi => (k.cell (p := ⟨B, i, none⟩) h.lt).trans (h.c i hi), fun i hi => (k.frozen (p := ⟨B, i, none⟩) h.lt).trans (h.f i hi), Nat.lt_of_lt_of_le h.lt k.size⟩
theorem Blk.drewN {w : World} {B : Nat} {vs : List Value} (h : Blk w B vs) (n : Nat) : Blk (w.drewN n) B vs := h.below (bel0d n)
theorem Blk.alloc {w : World} {B : Nat} {vs : List Value} (h : Blk w B vs) (o : Obj) : Blk (w.alloc o) B vs := h.below (bel1 o)
theorem Blk.new {w : World} (vs : List Value) (T : TypeId) : Blk (w.alloc (Obj.cells vs.toArray T)) w.heap.size vs :=
  ⟨fun i hi => by simp [go_sem, hi], fun i _ => by simp [go_sem], by simp⟩
theorem Blk.other {w : World} {B : Nat} {vs : List Value} (h : Blk w B vs) {p : Addr} (hp : p.block ≠ B) (v : Value) : Blk (w.setCell p v) B vs :=
  ⟨fun i hi => (World.cell?_setCell_other w _ _ _ (by intro e; rw [e] at hp; exact hp rfl)).trans (h.c i hi), fun i hi => by simp [h.f i hi], by simpa [World.setCell] using h.lt⟩
theorem Blk.set {w : World} {B : Nat} {vs : List Value} (h : Blk w B vs) (i : Nat) (hi : i < vs.length) (v : Value) : Blk (w.setCell ⟨B, i, none⟩ v) B (vs.set i v) := by
  refine ⟨fun j hj => ?_, fun j hj => by simpa using h.f j (by simpa using hj), by simpa [World.setCell] using h.lt⟩
  have hj' : j < vs.length := by simpa using hj
  by_cases e : i = j
  · subst e
    rw [List.getElem_set_self]
    exact World.cell?_setCell_same _ _ _ (h.c i hi)
  · rw [List.getElem_set_ne e]
    exact (World.cell?_setCell_other w _ _ _ (by intro k; simp only [Addr.mk.injEq] at k; omega)).trans (h.c j hj')

end Go.Proofs.Ytomcbbpaajpeiaa
