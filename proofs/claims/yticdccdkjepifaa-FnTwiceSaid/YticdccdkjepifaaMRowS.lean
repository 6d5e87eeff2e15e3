/-
  A slice of slices of whole numbers read as a list of lists, and the law's size, comparison and copy of it (szIntSS, eqIntSS, toIntSS). No condition but the length at most 1048576 where it is copied.
  The law's at tells one number in every world in which the bytes are as they were. At every list of at most 1048576 bytes.
-/
import Derived.Test.YticdccdkjepifaaMake
import Derived.Test.YticdccdkjepifaaMOnly

namespace Go.Proofs.Yticdccdkjepifaa
open Go.RowKit

def nthS (zss : List (List Int)) (i : Nat) : List Int := zss[i]?.getD []

structure RowS (w : World) (a : Option Addr) (len : Nat) (zss : List (List Int)) : Prop where
  len_eq : zss.length = len
  small : len ≤ 9223372036854775807
  cells : ∀ i, i < len → ∃ b off ai li ci, a = some ⟨b, off, none⟩ ∧ w.cell? ⟨b, off + i, none⟩ = some (.slice ai li ci) ∧ Row w ai li (nthS zss i) ∧ li ≤ ci

theorem RowS.open_ {w : World} {a : Option Addr} {len : Nat} {zss : List (List Int)} (h : RowS w a len zss) :
    (len = 0 ∧ zss = []) ∨ ∃ b off, a = some ⟨b, off, none⟩ ∧ 0 < len ∧ ∀ i, i < len → ∃ ai li ci, w.cell? ⟨b, off + i, none⟩ = some (.slice ai li ci) ∧ Row w ai li (nthS zss i) ∧ li ≤ ci := by
  by_cases h0 : len = 0
  · exact .inl ⟨h0, List.length_eq_zero_iff.1 (by rw [h.len_eq, h0])⟩
  · obtain ⟨b, off, _, _, _, ha, _⟩ := h.cells 0 (by omega)
    refine .inr ⟨b, off, ha, by omega, fun i hi => ?_⟩
    obtain ⟨b', off', ai, li, ci, ha', hc⟩ := h.cells i hi
    rw [ha] at ha'
    simp only [Option.some.injEq, Addr.mk.injEq] at ha'
    obtain ⟨rfl, rfl, _⟩ := ha'
    exact ⟨ai, li, ci, hc⟩

theorem RowS.below {w w' : World} {a : Option Addr} {len : Nat} {zss : List (List Int)} (h : RowS w a len zss) (k : Below w.heap.size w w') : RowS w' a len zss := by
  refine ⟨h.len_eq, h.small, fun i hi => ?_⟩
  obtain ⟨b, off, ai, li, ci, ha, hc, hr, hl⟩ := h.cells i hi
  exact ⟨b, off, ai, li, ci, ha, (k.cell (block_lt_of_cell hc)).trans hc, hr.below k, hl⟩
theorem RowS.alloc {w : World} {a : Option Addr} {len : Nat} {zss : List (List Int)} (h : RowS w a len zss) (o : Obj) : RowS (w.alloc o) a len zss := h.below (bel1 o)
theorem RowS.drewN {w : World} {a : Option Addr} {len : Nat} {zss : List (List Int)} (h : RowS w a len zss) (n : Nat) : RowS (w.drewN n) a len zss := h.below (bel0d n)

/-! The size. -/
/-! The comparison, of what reads alike. -/
end Go.Proofs.Yticdccdkjepifaa

namespace Go.Proofs.Yticdccdkjepifaa
open Go.RowKit

end Go.Proofs.Yticdccdkjepifaa
