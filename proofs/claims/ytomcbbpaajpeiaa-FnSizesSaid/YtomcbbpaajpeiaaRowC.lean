/-
  A slice of pairs of floats read as a list of pairs. No condition.
-/
import Derived.Test.YtomcbbpaajpeiaaBase
namespace Go.Proofs.Ytomcbbpaajpeiaa
open Go.RowKit

/-- The numbers at a place of a list of pairs; 0 where there is none. -/
def reAt (ps : List (Nat × Nat)) (i : Nat) : Nat := (ps[i]?.getD (0, 0)).1
def imAt (ps : List (Nat × Nat)) (i : Nat) : Nat := (ps[i]?.getD (0, 0)).2

structure RowC (w : World) (a : Option Addr) (len : Nat) (ps : List (Nat × Nat)) : Prop where
  len_eq : ps.length = len
  small : len ≤ 9223372036854775807
  cells : ∀ i, i < len → ∃ b off, a = some ⟨b, off, none⟩ ∧ w.cell? ⟨b, off + i * 2, none⟩ = some (.float .f64 (reAt ps i)) ∧ w.cell? ⟨b, off + i * 2 + 1, none⟩ = some (.float .f64 (imAt ps i))

theorem RowC.open_ {w : World} {a : Option Addr} {len : Nat} {ps : List (Nat × Nat)} (h : RowC w a len ps) :
    (len = 0 ∧ ps = []) ∨ ∃ b off, a = some ⟨b, off, none⟩ ∧ 0 < len ∧ ∀ i, i < len → w.cell? ⟨b, off + i * 2, none⟩ = some (.float .f64 (reAt ps i)) ∧ w.cell? ⟨b, off + i * 2 + 1, none⟩ = some (.float .f64 (imAt ps i)) := by
  by_cases h0 : len = 0
  · exact .inl ⟨h0, List.length_eq_zero_iff.1 (by rw [h.len_eq, h0])⟩
  · obtain ⟨b, off, ha, _⟩ := h.cells 0 (by omega)
    refine .inr ⟨b, off, ha, by omega, fun i hi => ?_⟩
    obtain ⟨b', off', ha', hc⟩ := h.cells i hi
    rw [ha] at ha'
    simp only [Option.some.injEq, Addr.mk.injEq] at ha'
    obtain ⟨rfl, rfl, _⟩ := ha'
    exact hc

theorem RowC.below {w w' : World} {a : Option Addr} {len : Nat} {ps : List (Nat × Nat)} (h : RowC w a len ps) (k : Below w.heap.size w w') : RowC w' a len ps := by
  refine ⟨h.len_eq, h.small, fun i hi => ?_⟩
  obtain ⟨b, off, ha, hc, hd⟩ := h.cells i hi
  exact ⟨b, off, ha, (k.cell (block_lt_of_cell hc)).trans hc, (k.cell (block_lt_of_cell hd)).trans hd⟩
theorem RowC.alloc {w : World} {a : Option Addr} {len : Nat} {ps : List (Nat × Nat)} (h : RowC w a len ps) (o : Obj) : RowC (w.alloc o) a len ps := h.below (bel1 o)
theorem RowC.drewN {w : World} {a : Option Addr} {len : Nat} {ps : List (Nat × Nat)} (h : RowC w a len ps) (n : Nat) : RowC (w.drewN n) a len ps := h.below (bel0d n)
theorem RowC.setCell {w : World} {g : Nat} {len : Nat} {ps : List (Nat × Nat)} (h : RowC w (some ⟨g, 0, none⟩) len ps) {p : Addr} (hp : p.block ≠ g) (v : Value) : RowC (w.setCell p v) (some ⟨g, 0, none⟩) len ps := by
  refine ⟨h.len_eq, h.small, fun i hi => ?_⟩
  obtain ⟨b, off, ha, hc, hd⟩ := h.cells i hi
  simp only [Option.some.injEq, Addr.mk.injEq, and_true] at ha
  obtain ⟨rfl, rfl⟩ := ha
  exact ⟨_, _, rfl, (World.cell?_setCell_other w _ _ _ (by intro e; rw [e] at hp; exact hp rfl)).trans hc, (World.cell?_setCell_other w _ _ _ (by intro e; rw [e] at hp; exact hp rfl)).trans hd⟩

end Go.Proofs.Ytomcbbpaajpeiaa
