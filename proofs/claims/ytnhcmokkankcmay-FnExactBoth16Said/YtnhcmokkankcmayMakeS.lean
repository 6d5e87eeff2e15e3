/-
  What the law's copy of a list of lists answers (toIntSS): new memory that reads as the list did, at every list of at most 1048576 lists of at most 1048576 numbers; nothing that was there is written.
-/
import Derived.Test.YtnhcmokkankcmaySb1
namespace Go.Proofs.Ytnhcmokkankcmay
open Go.RowKit

/-- A row of rows in new memory: the row of slices in block B, the numbers of each in a block behind it. -/
structure RowN (w : World) (B len : Nat) (zss : List (List Int)) : Prop where
  len_eq : zss.length = len
  small : len ≤ 9223372036854775807
  cells : ∀ i, i < len → ∃ g n, B < g ∧ w.cell? ⟨B, i, none⟩ = some (.slice (some ⟨g, 0, none⟩) n n) ∧ Row w (some ⟨g, 0, none⟩) n (nthS zss i)

theorem RowN.rowS {w : World} {B len : Nat} {zss : List (List Int)} (h : RowN w B len zss) : RowS w (some ⟨B, 0, none⟩) len zss := by
  refine ⟨h.len_eq, h.small, fun i hi => ?_⟩
  obtain ⟨g, n, _, hc, hr⟩ := h.cells i hi
  exact ⟨B, 0, _, n, n, rfl, by rw [Nat.zero_add]; exact hc, hr, Nat.le_refl _⟩
theorem RowN.below {w w' : World} {B len : Nat} {zss : List (List Int)} (h : RowN w B len zss) (k : Below w.heap.size w w') : RowN w' B len zss := by
  refine ⟨h.len_eq, h.small, fun i hi => ?_⟩
  obtain ⟨g, n, hg, hc, hr⟩ := h.cells i hi
  exact ⟨g, n, hg, (k.cell (block_lt_of_cell hc)).trans hc, hr.below k⟩
theorem RowN.setCell {w : World} {B len : Nat} {zss : List (List Int)} (h : RowN w B len zss) {p : Addr} (hp : p.block < B) (v : Value) : RowN (w.setCell p v) B len zss := by
  refine ⟨h.len_eq, h.small, fun i hi => ?_⟩
  obtain ⟨g, n, hg, hc, hr⟩ := h.cells i hi
  exact ⟨g, n, hg, (World.cell?_setCell_other w _ _ _ (by intro e; rw [e] at hp; exact absurd hp (Nat.lt_irrefl _))).trans hc, hr.setCell (by omega) v⟩

end Go.Proofs.Ytnhcmokkankcmay
